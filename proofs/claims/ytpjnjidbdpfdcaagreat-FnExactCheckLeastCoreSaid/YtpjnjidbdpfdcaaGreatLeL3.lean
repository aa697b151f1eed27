/- FnExactCheckLeastCore: the walk, from the two contracts in closed words (law.py). -/
import Derived.Test.YtpjnjidbdpfdcaaGreatGmA
import Derived.Test.YtpjnjidbdpfdcaaGreatLkLe
import Derived.Test.YtpjnjidbdpfdcaaGreatCrB
namespace Go.Proofs.YtpjnjidbdpfdcaaGreat
open Go.RowKit
open Ve (R)
open Gm (G)
open Le (Lst)
set_option maxRecDepth 100000 in
set_option maxHeartbeats 16000000 in
theorem fnExactCheckLeastCore.Zqz (p0:G) (p1:Lst) (g0:Bool) (hS:GmOk p0->Zdp p1->∀(w:World) (u0a u0b u1a u1b u1c u1d u1e:Value),GmX w u0a u0b p0->LstC w u1a u1b u1c u1d u1e p1->Calls Tryz.prog 6 #[(.agg #[u0a,u0b]),(.agg #[u1a,u1b,u1c,u1d,u1e])] w fun e w'=>e=.returned (.bool g0)/\Below w.heap.size w w') (hI:GmOk p0->Zdp p1->∀(w:World) (u0a u0b u1a u1b u1c u1d u1e:Value),GmX w u0a u0b p0->LstC w u1a u1b u1c u1d u1e p1->Calls Tryz.prog 9 #[(.agg #[u0a,u0b]),(.agg #[u1a,u1b,u1c,u1d,u1e])] w fun e w'=>e=.returned (.bool g0)/\Below w.heap.size w w')
  (w:World) (u0a u0b u1a u1b u1c u1d u1e:Value) (n0:Zhk p0) (n1:Zgt p1) (h0:GmC w u0a u0b p0) (h1:LstC w u1a u1b u1c u1d u1e p1) :
  Calls Tryz.prog 3 #[(.agg #[u0a,u0b]),(.agg #[u1a,u1b,u1c,u1d,u1e])] w fun e w'=>e=.returned (.bool true)/\Below w.heap.size w w':=by
 have HS:=zH hS;have HI:=zH hI;have N0:=zH n0;have N1:=zH n1;have B0:=zH (Zkd w #[u0a,u0b] 24)
 replace B0:=zH (B0.out.more (.cells #[u1a,u1b,u1c,u1d,u1e] 29))
 have hbx:=Zkd ((w.alloc (.cells #[u0a,u0b] 24))) #[u1a,u1b,u1c,u1d,u1e] 29;rw[Zar] at hbx;have B1:=zH hbx;clear hbx;have A0:=zH ((h0.rg.more (.cells #[u0a,u0b] 24)).more (.cells #[u1a,u1b,u1c,u1d,u1e] 29));have A1:=zH ((h1.rg.more (.cells #[u0a,u0b] 24)).more (.cells #[u1a,u1b,u1c,u1d,u1e] 29));have HB:Hid (Below w.heap.size w ((w.alloc (.cells #[u0a,u0b] 24)).alloc (.cells #[u1a,u1b,u1c,u1d,u1e] 29))):=((((Below.refl w.heap.size w).alloc (by simp) (.cells #[u0a,u0b] 24))).alloc (by rw[Zar];omega) (.cells #[u1a,u1b,u1c,u1d,u1e] 29));have HSZ:Hid (((w.alloc (.cells #[u0a,u0b] 24)).alloc (.cells #[u1a,u1b,u1c,u1d,u1e] 29)).heap.size=w.heap.size+2):=by show _=_;exact Zib _ _ _
 clear hS hI n0 h0 n1 h1
 go_enter Tryz.func3,Tryz.ntmps3
 go_wp2_with fail
 generalize hW:((w.alloc (.cells #[u0a,u0b] 24)).alloc (.cells #[u1a,u1b,u1c,u1d,u1e] 29))=W0 at *;refine (Zqw A0.out.get N0.out 1048576 (by omega) (by omega)).mono ?_;rintro e w1 ⟨⟨r0,rfl,r0l,r0u,r0e⟩,k⟩
 replace B0:=zH (B0.out.below k)
 replace B1:=zH (B1.out.below k)
 replace A0:=zH (A0.out.below k)
 replace A1:=zH (A1.out.below k)
 replace HB:=zH (HB.out.trans (k.mono HB.out.size))
 replace HSZ:=zH (And.intro HSZ.out k.size)
 clear k
 by_cases r0n:r0<0
 ·have hb2:decide (r0<0)=true:=by rw[decide_eq_true_iff];exact r0n
  go_wp2_with fail
  go_ret;exact⟨rfl,HB.out⟩
 ·have hb_r0:decide (r0<0)=false:=by rw[decide_eq_false_iff_not];exact r0n
  obtain⟨m1_0,m1_1,m1_2,m1_3,m1_4⟩:=five B1.out.get
  go_wp2_with fail
  refine (Zpw A1.out.get N1.out r0 (by omega) (by omega)).mono ?_;rintro e w2 ⟨⟨r1,rfl,r1l,r1u,r1e⟩,k⟩;clear m1_0 m1_1 m1_2 m1_3 m1_4
  replace B0:=zH (B0.out.below k)
  replace B1:=zH (B1.out.below k)
  replace A0:=zH (A0.out.below k)
  replace A1:=zH (A1.out.below k)
  replace HB:=zH (HB.out.trans (k.mono HB.out.size))
  replace HSZ:=zH (And.intro HSZ.out k.size)
  clear k
  by_cases r1n:r1<0
  ·have hb2:decide (r1<0)=true:=by rw[decide_eq_true_iff];exact r1n
   go_wp2_with fail
   go_ret;exact⟨rfl,HB.out⟩
  ·have hb_r1:decide (r1<0)=false:=by rw[decide_eq_false_iff_not];exact r1n
   have F0:=zH (gmOk N0.out (by have:=r0e (by omega);have:=r1e (by omega);omega));have F1:=zH (Zrh (r:=p1) (by have:=r0e (by omega);have:=r1e (by omega);omega));clear r0e r1e N0 N1;obtain⟨K_cz,hKe⟩:∃K:World->Prop,K=fun w'=>(Rg (fun w'=>Zaa w' w.heap.size #[u0a,u0b] 24) w.heap.size (w.heap.size+1) w')/\(Rg (fun w'=>Zaa w' (w.heap.size+1) #[u1a,u1b,u1c,u1d,u1e] 29) (w.heap.size+1) (w.heap.size+2) w')/\(Rg (fun w'=>GmC w' u0a u0b p0) 0 w.heap.size w')/\(Rg (fun w'=>LstC w' u1a u1b u1c u1d u1e p1) 0 w.heap.size w')/\Below w.heap.size w w'/\w2.heap.size≤w'.heap.size:=⟨_,rfl⟩
   have KS_cz:Hid (Stable K_cz):=by show Stable _;rw[hKe];exact (Zaw _ _ _).and ((Zaw _ _ _).and ((Zaw _ _ _).and ((Zaw _ _ _).and ((Zef w).and (fun w1 w2 hb h=>Nat.le_trans h hb.size)))))
   have KC_cz:Hid (∀w',K_cz w'->(Rg (fun w'=>Zaa w' w.heap.size #[u0a,u0b] 24) w.heap.size (w.heap.size+1) w')/\(Rg (fun w'=>Zaa w' (w.heap.size+1) #[u1a,u1b,u1c,u1d,u1e] 29) (w.heap.size+1) (w.heap.size+2) w')/\(Rg (fun w'=>GmC w' u0a u0b p0) 0 w.heap.size w')/\(Rg (fun w'=>LstC w' u1a u1b u1c u1d u1e p1) 0 w.heap.size w')/\Below w.heap.size w w'/\w2.heap.size≤w'.heap.size):=by show ∀w',K_cz w'->_;intro w' h;rw[hKe] at h;exact h
   have HK_cz:Hid (K_cz w2):=by show K_cz w2;rw[hKe];exact⟨B0.out,B1.out,A0.out,A1.out,HB.out,Nat.le_refl _⟩
   clear hKe HB B0 B1 A0 A1;have hin:=KS_cz.out.drew HK_cz.out;have Cell_cz:=zH (fun w' (h:K_cz w')=>(show w'.cell? ⟨w.heap.size,0,none⟩=some u0a/\w'.cell? ⟨w.heap.size,1,none⟩=some u0b/\w'.cell? ⟨(w.heap.size+1),0,none⟩=some u1a/\w'.cell? ⟨(w.heap.size+1),1,none⟩=some u1b/\w'.cell? ⟨(w.heap.size+1),2,none⟩=some u1c/\w'.cell? ⟨(w.heap.size+1),3,none⟩=some u1d/\w'.cell? ⟨(w.heap.size+1),4,none⟩=some u1e/\K_cz w' from ⟨(two (KC_cz.out w' h).1.get).1,(two (KC_cz.out w' h).1.get).2,(five (KC_cz.out w' h).2.1.get).1,(five (KC_cz.out w' h).2.1.get).2.1,(five (KC_cz.out w' h).2.1.get).2.2.1,(five (KC_cz.out w' h).2.1.get).2.2.2.1,(five (KC_cz.out w' h).2.1.get).2.2.2.2,h⟩))
   go_upto_region 8 with fail
   go_cut [6] (fun v0 wx=>v0=.bool g0/\K_cz wx)
   case first=>
    go_region_held3 (fun w'=>w'.cell? ⟨w.heap.size,0,none⟩=some u0a/\w'.cell? ⟨w.heap.size,1,none⟩=some u0b/\w'.cell? ⟨(w.heap.size+1),0,none⟩=some u1a/\w'.cell? ⟨(w.heap.size+1),1,none⟩=some u1b/\w'.cell? ⟨(w.heap.size+1),2,none⟩=some u1c/\w'.cell? ⟨(w.heap.size+1),3,none⟩=some u1d/\w'.cell? ⟨(w.heap.size+1),4,none⟩=some u1e/\K_cz w') (first|exact Cell_cz.out _ (by assumption) | exact Cell_cz.out _ (KS_cz.out.drew (by assumption)) | exact Cell_cz.out _ (KS_cz.out.alloc (by assumption) _))
     (first
      | (go_at_call 6;refine (Zdf KS_cz.out (HS.out F0.out F1.out _ _ _ _ _ _ _ _ (by first|assumption|exact GmX.up (by assumption) (by assumption)) (by first|assumption|exact LstC.up (by assumption) (by assumption))) (by first|assumption|exact KS_cz.out.drew (by assumption))).mono ?_;rintro e w' ⟨rfl,hk5,hin5⟩)
      | (go_at_call 7;(with_reducible refine (Zdf KS_cz.out (Zqx ((KC_cz.out _ (by first|assumption|exact KS_cz.out.drew (by assumption))).2.2.1.get) F0.out) (by first|assumption|exact KS_cz.out.drew (by assumption))).mono ?_);rintro e w' ⟨⟨s0a,s0b,rfl,hr0⟩,hk0,hin0⟩)
      | (go_at_call 8;(with_reducible refine (Zdf KS_cz.out (Zpx ((KC_cz.out _ (by first|assumption|exact KS_cz.out.drew (by assumption))).2.2.2.1.get) F1.out) (by first|assumption|exact KS_cz.out.drew (by assumption))).mono ?_);rintro e w' ⟨⟨s1a,s1b,s1c,s1d,s1e,rfl,hr1⟩,hk1,hin1⟩))
    all_goals
     go_wp2_with fail
     go_meet
     exact⟨rfl,by assumption⟩
   case rest=>
   clear hin HK_cz Cell_cz;obtain⟨w3,rfl⟩:∃q:World,q=wc:=⟨_,rfl⟩;obtain⟨rfl,hk7⟩:=hcut;obtain⟨q_B0,q_B1,q_A0,q_A1,hB,hsz⟩:=KC_cz.out _ hk7;have B0:=zH q_B0;have B1:=zH q_B1;have A0:=zH q_A0;have A1:=zH q_A1;have HB:=zH hB
   replace HSZ:=zH (And.intro HSZ.out hsz)
   clear hB hsz hk7 KC_cz KS_cz q_B0 q_B1 q_A0 q_A1;clear HS;obtain⟨m2_0,m2_1⟩:=two B0.out.get
   go_wp2_with fail
   clear m2_0 m2_1;refine (Zm4 A0.out.get F0.out).mono ?_;rintro e w4 ⟨⟨x0a,x0b,rfl,hs⟩,k⟩
   replace B0:=zH (B0.out.below k)
   replace B1:=zH (B1.out.below k)
   replace A0:=zH (A0.out.below k)
   replace A1:=zH (A1.out.below k)
   replace HB:=zH (HB.out.trans (k.mono HB.out.size))
   replace HSZ:=zH (And.intro HSZ.out k.size)
   clear k;have X0_f:=zH hs.rg;clear hs;obtain⟨o0,o1⟩:=(Zck.Zbo X0_f.out.get).one;have t0:=sto o0;have t1:=sto o1
   replace B0:=zH (B0.out.more (.cells #[x0a,x0b] 33))
   replace B1:=zH (B1.out.more (.cells #[x0a,x0b] 33))
   replace A0:=zH (A0.out.more (.cells #[x0a,x0b] 33))
   replace A1:=zH (A1.out.more (.cells #[x0a,x0b] 33))
   replace X0_f:=zH (X0_f.out.more (.cells #[x0a,x0b] 33))
   replace HB:=zH (HB.out.alloc HB.out.size (.cells #[x0a,x0b] 33))
   replace HSZ:=zH (And.intro HSZ.out (Zar w4 (.cells #[x0a,x0b] 33)))
   have XB0:=zH (Zkd w4 #[x0a,x0b] 33);clear o0 o1;obtain⟨m3_0,m3_1,m3_2,m3_3,m3_4⟩:=five B1.out.get
   go_wp2_with fail
   clear t0 t1;generalize hWx1:(w4.alloc (.cells #[x0a,x0b] 33))=Wx1 at *;clear m3_0 m3_1 m3_2 m3_3 m3_4;refine (Zjn A1.out.get F1.out).mono ?_;rintro e w5 ⟨⟨x1a,x1b,x1c,x1d,x1e,rfl,hs⟩,k⟩
   replace B0:=zH (B0.out.below k)
   replace B1:=zH (B1.out.below k)
   replace A0:=zH (A0.out.below k)
   replace A1:=zH (A1.out.below k)
   replace X0_f:=zH (X0_f.out.below k)
   replace XB0:=zH (XB0.out.below k)
   replace HB:=zH (HB.out.trans (k.mono HB.out.size))
   replace HSZ:=zH (And.intro HSZ.out k.size)
   clear k;have X1_f:=zH hs.rg;clear hs;obtain⟨o0,o1,o2,o3,o4⟩:=(Zes.Zbo X1_f.out.get).one;have t0:=sto o0;have t1:=sto o1;have t2:=sto o2;have t3:=sto o3;have t4:=sto o4
   replace B0:=zH (B0.out.more (.cells #[x1a,x1b,x1c,x1d,x1e] 38))
   replace B1:=zH (B1.out.more (.cells #[x1a,x1b,x1c,x1d,x1e] 38))
   replace A0:=zH (A0.out.more (.cells #[x1a,x1b,x1c,x1d,x1e] 38))
   replace A1:=zH (A1.out.more (.cells #[x1a,x1b,x1c,x1d,x1e] 38))
   replace X0_f:=zH (X0_f.out.more (.cells #[x1a,x1b,x1c,x1d,x1e] 38))
   replace XB0:=zH (XB0.out.more (.cells #[x1a,x1b,x1c,x1d,x1e] 38))
   replace X1_f:=zH (X1_f.out.more (.cells #[x1a,x1b,x1c,x1d,x1e] 38))
   replace HB:=zH (HB.out.alloc HB.out.size (.cells #[x1a,x1b,x1c,x1d,x1e] 38))
   replace HSZ:=zH (And.intro HSZ.out (Zar w5 (.cells #[x1a,x1b,x1c,x1d,x1e] 38)))
   have XB1:=zH (Zkd w5 #[x1a,x1b,x1c,x1d,x1e] 38);clear o0 o1 o2 o3 o4;obtain⟨m4_0,m4_1⟩:=two XB0.out.get;obtain⟨m5_0,m5_1,m5_2,m5_3,m5_4⟩:=five XB1.out.get
   go_wp2_with fail
   clear t0 t1 t2 t3 t4;generalize hWg:(w5.alloc (.cells #[x1a,x1b,x1c,x1d,x1e] 38))=Wg at *;clear m4_0 m4_1 m5_0 m5_1 m5_2 m5_3 m5_4;refine (HI.out F0.out F1.out _ _ _ _ _ _ _ _ X0_f.out.get.Zfq X1_f.out.get.Zbo).mono ?_;rintro e w6 ⟨rfl,k⟩
   replace B0:=zH (B0.out.below k)
   replace B1:=zH (B1.out.below k)
   replace A0:=zH (A0.out.below k)
   replace A1:=zH (A1.out.below k)
   replace X0_f:=zH (X0_f.out.below k)
   replace XB0:=zH (XB0.out.below k)
   replace X1_f:=zH (X1_f.out.below k)
   replace XB1:=zH (XB1.out.below k)
   replace HB:=zH (HB.out.trans (k.mono HB.out.size))
   replace HSZ:=zH (And.intro HSZ.out k.size)
   clear k;have hne_g0:=Zj8 g0;obtain⟨K_0,hKe⟩:∃K:World->Prop,K=fun w'=>(Rg (fun w'=>Zaa w' w.heap.size #[u0a,u0b] 24) w.heap.size (w.heap.size+1) w')/\(Rg (fun w'=>Zaa w' (w.heap.size+1) #[u1a,u1b,u1c,u1d,u1e] 29) (w.heap.size+1) (w.heap.size+2) w')/\(Rg (fun w'=>GmC w' u0a u0b p0) 0 w.heap.size w')/\(Rg (fun w'=>LstC w' u1a u1b u1c u1d u1e p1) 0 w.heap.size w')/\(Rg (fun w'=>Zck w3.heap.size w4.heap.size w' (.agg #[x0a,x0b]) p0) w3.heap.size w4.heap.size w')/\(Rg (fun w'=>Zaa w' w4.heap.size #[x0a,x0b] 33) w4.heap.size (w4.heap.size+1) w')/\(Rg (fun w'=>Zes Wx1.heap.size w5.heap.size w' (.agg #[x1a,x1b,x1c,x1d,x1e]) p1) Wx1.heap.size w5.heap.size w')/\(Rg (fun w'=>Zaa w' w5.heap.size #[x1a,x1b,x1c,x1d,x1e] 38) w5.heap.size (w5.heap.size+1) w')/\Below w.heap.size w w'/\w6.heap.size≤w'.heap.size:=⟨_,rfl⟩
   have KS_0:Hid (Stable K_0):=by show Stable _;rw[hKe];exact (Zaw _ _ _).and ((Zaw _ _ _).and ((Zaw _ _ _).and ((Zaw _ _ _).and ((Zaw _ _ _).and ((Zaw _ _ _).and ((Zaw _ _ _).and ((Zaw _ _ _).and ((Zef w).and (fun w1 w2 hb h=>Nat.le_trans h hb.size)))))))))
   have KC_0:Hid (∀w',K_0 w'->(Rg (fun w'=>Zaa w' w.heap.size #[u0a,u0b] 24) w.heap.size (w.heap.size+1) w')/\(Rg (fun w'=>Zaa w' (w.heap.size+1) #[u1a,u1b,u1c,u1d,u1e] 29) (w.heap.size+1) (w.heap.size+2) w')/\(Rg (fun w'=>GmC w' u0a u0b p0) 0 w.heap.size w')/\(Rg (fun w'=>LstC w' u1a u1b u1c u1d u1e p1) 0 w.heap.size w')/\(Rg (fun w'=>Zck w3.heap.size w4.heap.size w' (.agg #[x0a,x0b]) p0) w3.heap.size w4.heap.size w')/\(Rg (fun w'=>Zaa w' w4.heap.size #[x0a,x0b] 33) w4.heap.size (w4.heap.size+1) w')/\(Rg (fun w'=>Zes Wx1.heap.size w5.heap.size w' (.agg #[x1a,x1b,x1c,x1d,x1e]) p1) Wx1.heap.size w5.heap.size w')/\(Rg (fun w'=>Zaa w' w5.heap.size #[x1a,x1b,x1c,x1d,x1e] 38) w5.heap.size (w5.heap.size+1) w')/\Below w.heap.size w w'/\w6.heap.size≤w'.heap.size):=by show ∀w',K_0 w'->_;intro w' h;rw[hKe] at h;exact h
   have HK_0:Hid (K_0 w6):=by show K_0 w6;rw[hKe];exact⟨B0.out,B1.out,A0.out,A1.out,X0_f.out,XB0.out,X1_f.out,XB1.out,HB.out,Nat.le_refl _⟩
   clear hKe HB B0 B1 A0 A1 X0_f XB0 X1_f XB1;have hin:=KS_0.out.drew HK_0.out;have Cell_0:=zH (fun w' (h:K_0 w')=>(show w'.cell? ⟨w4.heap.size,0,none⟩=some x0a/\w'.cell? ⟨w4.heap.size,1,none⟩=some x0b/\w'.cell? ⟨w.heap.size,0,none⟩=some u0a/\w'.cell? ⟨w.heap.size,1,none⟩=some u0b/\K_0 w' from ⟨(two (KC_0.out w' h).2.2.2.2.2.1.get).1,(two (KC_0.out w' h).2.2.2.2.2.1.get).2,(two (KC_0.out w' h).1.get).1,(two (KC_0.out w' h).1.get).2,h⟩))
   go_upto_region 14 with fail
   go_cut [39] (fun v wx=>v=.bool false/\K_0 wx)
   case first=>
    go_region_held3 (fun w'=>w'.cell? ⟨w4.heap.size,0,none⟩=some x0a/\w'.cell? ⟨w4.heap.size,1,none⟩=some x0b/\w'.cell? ⟨w.heap.size,0,none⟩=some u0a/\w'.cell? ⟨w.heap.size,1,none⟩=some u0b/\K_0 w') (first|exact Cell_0.out _ (by assumption) | exact Cell_0.out _ (KS_0.out.drew (by assumption)))
     (first
      | (go_at_call 7;(with_reducible refine (Zdf KS_0.out (Zm4 ((KC_0.out _ (by first|assumption|exact KS_0.out.drew (by assumption))).2.2.1.get) F0.out) (by first|assumption|exact KS_0.out.drew (by assumption))).mono ?_);rintro e w' ⟨⟨y0,y1,rfl,hr3⟩,hk3,hin3⟩)
      | (go_at_call 10;refine (Zdf KS_0.out (Zqh ((KC_0.out _ (by first|assumption|exact KS_0.out.drew (by assumption))).2.2.2.2.1.get.Zbo) (Zck.Zbo (by assumption)) F0.out) (by assumption)).mono ?_;rintro e w' ⟨rfl,hk4,hin4⟩))
    all_goals
     go_wp2_with fail
     go_meet
     exact⟨rfl,by assumption⟩
   case rest=>
   clear hin HK_0 Cell_0;obtain⟨w7,rfl⟩:∃q:World,q=wc:=⟨_,rfl⟩;obtain⟨rfl,hk7⟩:=hcut;obtain⟨q_B0,q_B1,q_A0,q_A1,q_X0_f,q_XB0,q_X1_f,q_XB1,hB,hsz⟩:=KC_0.out _ hk7;have B0:=zH q_B0;have B1:=zH q_B1;have A0:=zH q_A0;have A1:=zH q_A1;have X0_f:=zH q_X0_f;have XB0:=zH q_XB0;have X1_f:=zH q_X1_f;have XB1:=zH q_XB1;have HB:=zH hB
   replace HSZ:=zH (And.intro HSZ.out hsz)
   clear hB hsz hk7 KC_0 KS_0 q_B0 q_B1 q_A0 q_A1 q_X0_f q_XB0 q_X1_f q_XB1;obtain⟨K_1,hKe⟩:∃K:World->Prop,K=fun w'=>(Rg (fun w'=>Zaa w' w.heap.size #[u0a,u0b] 24) w.heap.size (w.heap.size+1) w')/\(Rg (fun w'=>Zaa w' (w.heap.size+1) #[u1a,u1b,u1c,u1d,u1e] 29) (w.heap.size+1) (w.heap.size+2) w')/\(Rg (fun w'=>GmC w' u0a u0b p0) 0 w.heap.size w')/\(Rg (fun w'=>LstC w' u1a u1b u1c u1d u1e p1) 0 w.heap.size w')/\(Rg (fun w'=>Zck w3.heap.size w4.heap.size w' (.agg #[x0a,x0b]) p0) w3.heap.size w4.heap.size w')/\(Rg (fun w'=>Zaa w' w4.heap.size #[x0a,x0b] 33) w4.heap.size (w4.heap.size+1) w')/\(Rg (fun w'=>Zes Wx1.heap.size w5.heap.size w' (.agg #[x1a,x1b,x1c,x1d,x1e]) p1) Wx1.heap.size w5.heap.size w')/\(Rg (fun w'=>Zaa w' w5.heap.size #[x1a,x1b,x1c,x1d,x1e] 38) w5.heap.size (w5.heap.size+1) w')/\Below w.heap.size w w'/\w7.heap.size≤w'.heap.size:=⟨_,rfl⟩
   have KS_1:Hid (Stable K_1):=by show Stable _;rw[hKe];exact (Zaw _ _ _).and ((Zaw _ _ _).and ((Zaw _ _ _).and ((Zaw _ _ _).and ((Zaw _ _ _).and ((Zaw _ _ _).and ((Zaw _ _ _).and ((Zaw _ _ _).and ((Zef w).and (fun w1 w2 hb h=>Nat.le_trans h hb.size)))))))))
   have KC_1:Hid (∀w',K_1 w'->(Rg (fun w'=>Zaa w' w.heap.size #[u0a,u0b] 24) w.heap.size (w.heap.size+1) w')/\(Rg (fun w'=>Zaa w' (w.heap.size+1) #[u1a,u1b,u1c,u1d,u1e] 29) (w.heap.size+1) (w.heap.size+2) w')/\(Rg (fun w'=>GmC w' u0a u0b p0) 0 w.heap.size w')/\(Rg (fun w'=>LstC w' u1a u1b u1c u1d u1e p1) 0 w.heap.size w')/\(Rg (fun w'=>Zck w3.heap.size w4.heap.size w' (.agg #[x0a,x0b]) p0) w3.heap.size w4.heap.size w')/\(Rg (fun w'=>Zaa w' w4.heap.size #[x0a,x0b] 33) w4.heap.size (w4.heap.size+1) w')/\(Rg (fun w'=>Zes Wx1.heap.size w5.heap.size w' (.agg #[x1a,x1b,x1c,x1d,x1e]) p1) Wx1.heap.size w5.heap.size w')/\(Rg (fun w'=>Zaa w' w5.heap.size #[x1a,x1b,x1c,x1d,x1e] 38) w5.heap.size (w5.heap.size+1) w')/\Below w.heap.size w w'/\w7.heap.size≤w'.heap.size):=by show ∀w',K_1 w'->_;intro w' h;rw[hKe] at h;exact h
   have HK_1:Hid (K_1 w7):=by show K_1 w7;rw[hKe];exact⟨B0.out,B1.out,A0.out,A1.out,X0_f.out,XB0.out,X1_f.out,XB1.out,HB.out,Nat.le_refl _⟩
   clear hKe HB B0 B1 A0 A1 X0_f XB0 X1_f XB1;have hin:=KS_1.out.drew HK_1.out;have Cell_1:=zH (fun w' (h:K_1 w')=>(show w'.cell? ⟨w5.heap.size,0,none⟩=some x1a/\w'.cell? ⟨w5.heap.size,1,none⟩=some x1b/\w'.cell? ⟨w5.heap.size,2,none⟩=some x1c/\w'.cell? ⟨w5.heap.size,3,none⟩=some x1d/\w'.cell? ⟨w5.heap.size,4,none⟩=some x1e/\w'.cell? ⟨(w.heap.size+1),0,none⟩=some u1a/\w'.cell? ⟨(w.heap.size+1),1,none⟩=some u1b/\w'.cell? ⟨(w.heap.size+1),2,none⟩=some u1c/\w'.cell? ⟨(w.heap.size+1),3,none⟩=some u1d/\w'.cell? ⟨(w.heap.size+1),4,none⟩=some u1e/\K_1 w' from ⟨(five (KC_1.out w' h).2.2.2.2.2.2.2.1.get).1,(five (KC_1.out w' h).2.2.2.2.2.2.2.1.get).2.1,(five (KC_1.out w' h).2.2.2.2.2.2.2.1.get).2.2.1,(five (KC_1.out w' h).2.2.2.2.2.2.2.1.get).2.2.2.1,(five (KC_1.out w' h).2.2.2.2.2.2.2.1.get).2.2.2.2,(five (KC_1.out w' h).2.1.get).1,(five (KC_1.out w' h).2.1.get).2.1,(five (KC_1.out w' h).2.1.get).2.2.1,(five (KC_1.out w' h).2.1.get).2.2.2.1,(five (KC_1.out w' h).2.1.get).2.2.2.2,h⟩))
   go_upto_region 16 with fail
   go_cut [44] (fun v wx=>v=.bool false/\K_1 wx)
   case first=>
    go_region_held3 (fun w'=>w'.cell? ⟨w5.heap.size,0,none⟩=some x1a/\w'.cell? ⟨w5.heap.size,1,none⟩=some x1b/\w'.cell? ⟨w5.heap.size,2,none⟩=some x1c/\w'.cell? ⟨w5.heap.size,3,none⟩=some x1d/\w'.cell? ⟨w5.heap.size,4,none⟩=some x1e/\w'.cell? ⟨(w.heap.size+1),0,none⟩=some u1a/\w'.cell? ⟨(w.heap.size+1),1,none⟩=some u1b/\w'.cell? ⟨(w.heap.size+1),2,none⟩=some u1c/\w'.cell? ⟨(w.heap.size+1),3,none⟩=some u1d/\w'.cell? ⟨(w.heap.size+1),4,none⟩=some u1e/\K_1 w') (first|exact Cell_1.out _ (by assumption) | exact Cell_1.out _ (KS_1.out.drew (by assumption)))
     (first
      | (go_at_call 8;(with_reducible refine (Zdf KS_1.out (Zjn ((KC_1.out _ (by first|assumption|exact KS_1.out.drew (by assumption))).2.2.2.1.get) F1.out) (by first|assumption|exact KS_1.out.drew (by assumption))).mono ?_);rintro e w' ⟨⟨y0,y1,y2,y3,y4,rfl,hr3⟩,hk3,hin3⟩)
      | (go_at_call 11;refine (Zdf KS_1.out (Zo8 ((KC_1.out _ (by first|assumption|exact KS_1.out.drew (by assumption))).2.2.2.2.2.2.1.get.Zbo) (Zes.Zbo (by assumption)) F1.out) (by assumption)).mono ?_;rintro e w' ⟨rfl,hk4,hin4⟩))
    all_goals
     go_wp2_with fail
     go_meet
     exact⟨rfl,by assumption⟩
   case rest=>
   clear hin HK_1 Cell_1;obtain⟨w8,rfl⟩:∃q:World,q=wc:=⟨_,rfl⟩;obtain⟨rfl,hk7⟩:=hcut;obtain⟨q_B0,q_B1,q_A0,q_A1,q_X0_f,q_XB0,q_X1_f,q_XB1,hB,hsz⟩:=KC_1.out _ hk7;have B0:=zH q_B0;have B1:=zH q_B1;have A0:=zH q_A0;have A1:=zH q_A1;have X0_f:=zH q_X0_f;have XB0:=zH q_XB0;have X1_f:=zH q_X1_f;have XB1:=zH q_XB1;have HB:=zH hB
   replace HSZ:=zH (And.intro HSZ.out hsz)
   clear hB hsz hk7 KC_1 KS_1 q_B0 q_B1 q_A0 q_A1 q_X0_f q_XB0 q_X1_f q_XB1
   go_wp2_with fail
   go_ret;exact⟨rfl,HB.out⟩
end Go.Proofs.YtpjnjidbdpfdcaaGreat
