/- FnExactFindLeastCore: the walk, from the two contracts in closed words (law.py). -/
import Derived.Test.YtlohljkfphljgaaGreatHGmB
import Derived.Test.YtlohljkfphljgaaGreatHLkLe
import Derived.Test.YtlohljkfphljgaaGreatCrB
namespace Go.Proofs.YtlohljkfphljgaaGreat
open Go.RowKit
open Ve (R)
open Gm (G)
open Le (Lst)
set_option maxRecDepth 100000 in
set_option maxHeartbeats 16000000 in
theorem fnExactFindLeastCore.Z25 (p0:G) (X0:Lst) (hX:GmOk p0->Zhy X0) (hS:GmOk p0->∀(w:World) (u0a u0b:Value),GmX w u0a u0b p0->Calls Tryz.prog 39 #[(.agg #[u0a,u0b])] w fun e w'=>(∃ya yb yc yd ye:Value,e=.returned ((.agg #[ya,yb,yc,yd,ye]))/\Zgd w.heap.size w'.heap.size w' (.agg #[ya,yb,yc,yd,ye]) X0)/\Below w.heap.size w w') (hI:GmOk p0->∀(w:World) (u0a u0b:Value),GmX w u0a u0b p0->Calls Tryz.prog 37 #[(.agg #[u0a,u0b])] w fun e w'=>(∃ya yb yc yd ye:Value,e=.returned ((.agg #[ya,yb,yc,yd,ye]))/\Zgd w.heap.size w'.heap.size w' (.agg #[ya,yb,yc,yd,ye]) X0)/\Below w.heap.size w w')
  (w:World) (u0a u0b:Value) (n0:Zov p0) (h0:GmC w u0a u0b p0) :
  Calls Tryz.prog 6 #[(.agg #[u0a,u0b])] w fun e w'=>e=.returned (.bool true)/\Below w.heap.size w w':=by
 have HS:=zH hS;have HI:=zH hI;have HX:=zH hX;have N0:=zH n0;have B0:=zH (Zpu w #[u0a,u0b] 76);have A0:=zH (h0.rg.more (.cells #[u0a,u0b] 76));have HB:Hid (Below w.heap.size w (w.alloc (.cells #[u0a,u0b] 76))):=((Below.refl w.heap.size w).alloc (by simp) (.cells #[u0a,u0b] 76));have HSZ:Hid ((w.alloc (.cells #[u0a,u0b] 76)).heap.size=w.heap.size+1):=by show _=_;exact Zar _ _
 clear hS hI hX n0 h0
 go_enter Tryz.func6,Tryz.ntmps6
 go_wp2_with fail
 generalize hW:(w.alloc (.cells #[u0a,u0b] 76))=W0 at *;refine (Z23 A0.out.get N0.out 1048576 (by omega) (by omega)).mono ?_;rintro e w1 ⟨⟨r0,rfl,r0l,r0u,r0e⟩,k⟩
 replace B0:=zH (B0.out.below k)
 replace A0:=zH (A0.out.below k)
 replace HB:=zH (HB.out.trans (k.mono HB.out.size))
 replace HSZ:=zH (And.intro HSZ.out k.size)
 clear k
 by_cases r0n:r0<0
 ·have hb2:decide (r0<0)=true:=by rw[decide_eq_true_iff];exact r0n
  go_wp2_with fail
  go_ret;exact⟨rfl,HB.out⟩
 ·have hb_r0:decide (r0<0)=false:=by rw[decide_eq_false_iff_not];exact r0n
  have F0:=zH (gmOk N0.out (by have:=r0e (by omega);omega));clear r0e N0;have FX:=zH (HX.out F0.out);clear HX;obtain⟨m1_0,m1_1⟩:=two B0.out.get
  go_wp2_with fail
  refine (Ztk A0.out.get F0.out).mono ?_;rintro e w2 ⟨⟨s0a,s0b,rfl,hs⟩,k⟩;clear m1_0 m1_1
  replace B0:=zH (B0.out.below k)
  replace A0:=zH (A0.out.below k)
  replace HB:=zH (HB.out.trans (k.mono HB.out.size))
  replace HSZ:=zH (And.intro HSZ.out k.size)
  clear k;have S0_f:=zH hs.rg;clear hs
  go_wp2_with fail
  refine (HS.out F0.out _ _ _ S0_f.out.get.Zgu).mono ?_;rintro e w3 ⟨⟨za,zb,zc,zd,ze,rfl,hs⟩,k⟩
  replace B0:=zH (B0.out.below k)
  replace A0:=zH (A0.out.below k)
  replace S0_f:=zH (S0_f.out.below k)
  replace HB:=zH (HB.out.trans (k.mono HB.out.size))
  replace HSZ:=zH (And.intro HSZ.out k.size)
  clear k;have Z_f:=zH hs.rg;clear hs;clear S0_f;clear HS;obtain⟨o0,o1,o2,o3,o4⟩:=(Zgd.Zbe Z_f.out.get).one;have t0:=sto o0;have t1:=sto o1;have t2:=sto o2;have t3:=sto o3;have t4:=sto o4
  replace B0:=zH (B0.out.more (.cells #[za,zb,zc,zd,ze] 65))
  replace A0:=zH (A0.out.more (.cells #[za,zb,zc,zd,ze] 65))
  replace Z_f:=zH (Z_f.out.more (.cells #[za,zb,zc,zd,ze] 65))
  replace HB:=zH (HB.out.alloc HB.out.size (.cells #[za,zb,zc,zd,ze] 65))
  replace HSZ:=zH (And.intro HSZ.out (Zar w3 (.cells #[za,zb,zc,zd,ze] 65)))
  have ZB:=zH (Zpu w3 #[za,zb,zc,zd,ze] 65);clear o0 o1 o2 o3 o4;obtain⟨m2_0,m2_1⟩:=two B0.out.get
  go_wp2_with fail
  clear t0 t1 t2 t3 t4;generalize hWx0:(w3.alloc (.cells #[za,zb,zc,zd,ze] 65))=Wx0 at *;clear m2_0 m2_1;refine (Ztk A0.out.get F0.out).mono ?_;rintro e w4 ⟨⟨x0a,x0b,rfl,hs⟩,k⟩
  replace B0:=zH (B0.out.below k)
  replace A0:=zH (A0.out.below k)
  replace Z_f:=zH (Z_f.out.below k)
  replace ZB:=zH (ZB.out.below k)
  replace HB:=zH (HB.out.trans (k.mono HB.out.size))
  replace HSZ:=zH (And.intro HSZ.out k.size)
  clear k;have X0_f:=zH hs.rg;clear hs;obtain⟨o0,o1⟩:=(Zf0.Zbe X0_f.out.get).one;have t0:=sto o0;have t1:=sto o1
  replace B0:=zH (B0.out.more (.cells #[x0a,x0b] 48))
  replace A0:=zH (A0.out.more (.cells #[x0a,x0b] 48))
  replace Z_f:=zH (Z_f.out.more (.cells #[x0a,x0b] 48))
  replace ZB:=zH (ZB.out.more (.cells #[x0a,x0b] 48))
  replace X0_f:=zH (X0_f.out.more (.cells #[x0a,x0b] 48))
  replace HB:=zH (HB.out.alloc HB.out.size (.cells #[x0a,x0b] 48))
  replace HSZ:=zH (And.intro HSZ.out (Zar w4 (.cells #[x0a,x0b] 48)))
  have XB0:=zH (Zpu w4 #[x0a,x0b] 48);clear o0 o1;obtain⟨m3_0,m3_1⟩:=two XB0.out.get
  go_wp2_with fail
  clear t0 t1;generalize hWg:(w4.alloc (.cells #[x0a,x0b] 48))=Wg at *;clear m3_0 m3_1;refine (HI.out F0.out _ _ _ X0_f.out.get.Zgu).mono ?_;rintro e w5 ⟨⟨ga,gb,gc,gd,ge,rfl,hs⟩,k⟩
  replace B0:=zH (B0.out.below k)
  replace A0:=zH (A0.out.below k)
  replace Z_f:=zH (Z_f.out.below k)
  replace ZB:=zH (ZB.out.below k)
  replace X0_f:=zH (X0_f.out.below k)
  replace XB0:=zH (XB0.out.below k)
  replace HB:=zH (HB.out.trans (k.mono HB.out.size))
  replace HSZ:=zH (And.intro HSZ.out k.size)
  clear k;have G_f:=zH hs.rg;clear hs;obtain⟨o0,o1,o2,o3,o4⟩:=(Zgd.Zbe G_f.out.get).one;have t0:=sto o0;have t1:=sto o1;have t2:=sto o2;have t3:=sto o3;have t4:=sto o4
  replace B0:=zH (B0.out.more (.cells #[ga,gb,gc,gd,ge] 65))
  replace A0:=zH (A0.out.more (.cells #[ga,gb,gc,gd,ge] 65))
  replace Z_f:=zH (Z_f.out.more (.cells #[ga,gb,gc,gd,ge] 65))
  replace ZB:=zH (ZB.out.more (.cells #[ga,gb,gc,gd,ge] 65))
  replace X0_f:=zH (X0_f.out.more (.cells #[ga,gb,gc,gd,ge] 65))
  replace XB0:=zH (XB0.out.more (.cells #[ga,gb,gc,gd,ge] 65))
  replace G_f:=zH (G_f.out.more (.cells #[ga,gb,gc,gd,ge] 65))
  replace HB:=zH (HB.out.alloc HB.out.size (.cells #[ga,gb,gc,gd,ge] 65))
  replace HSZ:=zH (And.intro HSZ.out (Zar w5 (.cells #[ga,gb,gc,gd,ge] 65)))
  have GB:=zH (Zpu w5 #[ga,gb,gc,gd,ge] 65);clear o0 o1 o2 o3 o4;obtain⟨m4_0,m4_1,m4_2,m4_3,m4_4⟩:=five GB.out.get;obtain⟨m5_0,m5_1,m5_2,m5_3,m5_4⟩:=five ZB.out.get
  go_wp2_with fail
  clear t0 t1 t2 t3 t4;generalize hWe1:(w5.alloc (.cells #[ga,gb,gc,gd,ge] 65))=We1 at *;clear m4_0 m4_1 m4_2 m4_3 m4_4 m5_0 m5_1 m5_2 m5_3 m5_4;refine (Zq0 G_f.out.get.Zbe Z_f.out.get.Zbe FX.out).mono ?_;rintro e w6 ⟨rfl,k⟩
  replace B0:=zH (B0.out.below k)
  replace A0:=zH (A0.out.below k)
  replace Z_f:=zH (Z_f.out.below k)
  replace ZB:=zH (ZB.out.below k)
  replace X0_f:=zH (X0_f.out.below k)
  replace XB0:=zH (XB0.out.below k)
  replace G_f:=zH (G_f.out.below k)
  replace GB:=zH (GB.out.below k)
  replace HB:=zH (HB.out.trans (k.mono HB.out.size))
  replace HSZ:=zH (And.intro HSZ.out k.size)
  clear k;obtain⟨K_0,hKe⟩:∃K:World->Prop,K=fun w'=>(Rg (fun w'=>Zac w' w.heap.size #[u0a,u0b] 76) w.heap.size (w.heap.size+1) w')/\(Rg (fun w'=>GmC w' u0a u0b p0) 0 w.heap.size w')/\(Rg (fun w'=>Zgd w2.heap.size w3.heap.size w' (.agg #[za,zb,zc,zd,ze]) X0) w2.heap.size w3.heap.size w')/\(Rg (fun w'=>Zac w' w3.heap.size #[za,zb,zc,zd,ze] 65) w3.heap.size (w3.heap.size+1) w')/\(Rg (fun w'=>Zf0 Wx0.heap.size w4.heap.size w' (.agg #[x0a,x0b]) p0) Wx0.heap.size w4.heap.size w')/\(Rg (fun w'=>Zac w' w4.heap.size #[x0a,x0b] 48) w4.heap.size (w4.heap.size+1) w')/\(Rg (fun w'=>Zgd Wg.heap.size w5.heap.size w' (.agg #[ga,gb,gc,gd,ge]) X0) Wg.heap.size w5.heap.size w')/\(Rg (fun w'=>Zac w' w5.heap.size #[ga,gb,gc,gd,ge] 65) w5.heap.size (w5.heap.size+1) w')/\Below w.heap.size w w'/\w6.heap.size≤w'.heap.size:=⟨_,rfl⟩
  have KS_0:Hid (Stable K_0):=by show Stable _;rw[hKe];exact (Zec _ _ _).and ((Zec _ _ _).and ((Zec _ _ _).and ((Zec _ _ _).and ((Zec _ _ _).and ((Zec _ _ _).and ((Zec _ _ _).and ((Zec _ _ _).and ((Zun w).and (fun w1 w2 hb h=>Nat.le_trans h hb.size)))))))))
  have KC_0:Hid (∀w',K_0 w'->(Rg (fun w'=>Zac w' w.heap.size #[u0a,u0b] 76) w.heap.size (w.heap.size+1) w')/\(Rg (fun w'=>GmC w' u0a u0b p0) 0 w.heap.size w')/\(Rg (fun w'=>Zgd w2.heap.size w3.heap.size w' (.agg #[za,zb,zc,zd,ze]) X0) w2.heap.size w3.heap.size w')/\(Rg (fun w'=>Zac w' w3.heap.size #[za,zb,zc,zd,ze] 65) w3.heap.size (w3.heap.size+1) w')/\(Rg (fun w'=>Zf0 Wx0.heap.size w4.heap.size w' (.agg #[x0a,x0b]) p0) Wx0.heap.size w4.heap.size w')/\(Rg (fun w'=>Zac w' w4.heap.size #[x0a,x0b] 48) w4.heap.size (w4.heap.size+1) w')/\(Rg (fun w'=>Zgd Wg.heap.size w5.heap.size w' (.agg #[ga,gb,gc,gd,ge]) X0) Wg.heap.size w5.heap.size w')/\(Rg (fun w'=>Zac w' w5.heap.size #[ga,gb,gc,gd,ge] 65) w5.heap.size (w5.heap.size+1) w')/\Below w.heap.size w w'/\w6.heap.size≤w'.heap.size):=by show ∀w',K_0 w'->_;intro w' h;rw[hKe] at h;exact h
  have HK_0:Hid (K_0 w6):=by show K_0 w6;rw[hKe];exact⟨B0.out,A0.out,Z_f.out,ZB.out,X0_f.out,XB0.out,G_f.out,GB.out,HB.out,Nat.le_refl _⟩
  clear hKe HB B0 A0 Z_f ZB X0_f XB0 G_f GB;have hin:=KS_0.out.drew HK_0.out;have Cell_0:=zH (fun w' (h:K_0 w')=>(show w'.cell? ⟨w4.heap.size,0,none⟩=some x0a/\w'.cell? ⟨w4.heap.size,1,none⟩=some x0b/\w'.cell? ⟨w.heap.size,0,none⟩=some u0a/\w'.cell? ⟨w.heap.size,1,none⟩=some u0b/\K_0 w' from ⟨(two (KC_0.out w' h).2.2.2.2.2.1.get).1,(two (KC_0.out w' h).2.2.2.2.2.1.get).2,(two (KC_0.out w' h).1.get).1,(two (KC_0.out w' h).1.get).2,h⟩))
  go_upto_region 10 with fail
  go_cut [31] (fun v wx=>v=.bool false/\K_0 wx)
  case first=>
   go_region_held3 (fun w'=>w'.cell? ⟨w4.heap.size,0,none⟩=some x0a/\w'.cell? ⟨w4.heap.size,1,none⟩=some x0b/\w'.cell? ⟨w.heap.size,0,none⟩=some u0a/\w'.cell? ⟨w.heap.size,1,none⟩=some u0b/\K_0 w') (first|exact Cell_0.out _ (by assumption) | exact Cell_0.out _ (KS_0.out.drew (by assumption)))
    (first
     | (go_at_call 49;(with_reducible refine (Za5 KS_0.out (Ztk ((KC_0.out _ (by first|assumption|exact KS_0.out.drew (by assumption))).2.1.get) F0.out) (by first|assumption|exact KS_0.out.drew (by assumption))).mono ?_);rintro e w' ⟨⟨y0,y1,rfl,hr3⟩,hk3,hin3⟩)
     | (go_at_call 51;refine (Za5 KS_0.out (Z2h ((KC_0.out _ (by first|assumption|exact KS_0.out.drew (by assumption))).2.2.2.2.1.get.Zbe) (Zf0.Zbe (by assumption)) F0.out) (by assumption)).mono ?_;rintro e w' ⟨rfl,hk4,hin4⟩))
   all_goals
    go_wp2_with fail
    go_meet
    exact⟨rfl,by assumption⟩
  case rest=>
  clear hin HK_0 Cell_0;obtain⟨w7,rfl⟩:∃q:World,q=wc:=⟨_,rfl⟩;obtain⟨rfl,hk7⟩:=hcut;obtain⟨q_B0,q_A0,q_Z_f,q_ZB,q_X0_f,q_XB0,q_G_f,q_GB,hB,hsz⟩:=KC_0.out _ hk7;have B0:=zH q_B0;have A0:=zH q_A0;have Z_f:=zH q_Z_f;have ZB:=zH q_ZB;have X0_f:=zH q_X0_f;have XB0:=zH q_XB0;have G_f:=zH q_G_f;have GB:=zH q_GB;have HB:=zH hB
  replace HSZ:=zH (And.intro HSZ.out hsz)
  clear hB hsz hk7 KC_0 KS_0 q_B0 q_A0 q_Z_f q_ZB q_X0_f q_XB0 q_G_f q_GB;obtain⟨m6_0,m6_1⟩:=two XB0.out.get
  go_wp2_with fail
  clear m6_0 m6_1;refine (Zyj X0_f.out.get F0.out (1) (by skip;omega) (by skip;omega)).mono ?_;rintro e w8 ⟨rfl,hs,ht⟩;clear hs;clear X0_f XB0
  replace B0:=zH (B0.out.turned ht (by have h:=HSZ.out;omega))
  replace A0:=zH (A0.out.turned ht (by have h:=HSZ.out;omega))
  replace Z_f:=zH (Z_f.out.turned ht (by have h:=HSZ.out;omega))
  replace ZB:=zH (ZB.out.turned ht (by have h:=HSZ.out;omega))
  replace G_f:=zH (G_f.out.turned ht (by have h:=HSZ.out;omega))
  replace GB:=zH (GB.out.turned ht (by have h:=HSZ.out;omega))
  replace HB:=zH (HB.out.trans ((ht.low (by have h:=HSZ.out;omega)).mono (by have h:=HSZ.out;omega)))
  replace HSZ:=zH (And.intro HSZ.out ht.size)
  clear ht;have hkk:decide (1+(p0.v.length:Int)<0)=false:=by rw[decide_eq_false_iff_not];have hbn0:=(F0.out).1;omega
  obtain⟨m7_0,m7_1,m7_2,m7_3,m7_4⟩:=five GB.out.get;obtain⟨m8_0,m8_1,m8_2,m8_3,m8_4⟩:=five ZB.out.get
  go_wp2_with fail
  clear m7_0 m7_1 m7_2 m7_3 m7_4 m8_0 m8_1 m8_2 m8_3 m8_4;refine (Zq0 G_f.out.get.Zbe Z_f.out.get.Zbe FX.out).mono ?_;rintro e w9 ⟨rfl,k⟩
  replace B0:=zH (B0.out.below k)
  replace A0:=zH (A0.out.below k)
  replace Z_f:=zH (Z_f.out.below k)
  replace ZB:=zH (ZB.out.below k)
  replace G_f:=zH (G_f.out.below k)
  replace GB:=zH (GB.out.below k)
  replace HB:=zH (HB.out.trans (k.mono HB.out.size))
  replace HSZ:=zH (And.intro HSZ.out k.size)
  clear k;obtain⟨m9_0,m9_1,m9_2,m9_3,m9_4⟩:=five GB.out.get
  go_wp2_with fail
  clear m9_0 m9_1 m9_2 m9_3 m9_4;refine (Zvx G_f.out.get FX.out).mono ?_;rintro e w10 ⟨rfl,hs,ht⟩;clear G_f
  replace B0:=zH (B0.out.turned ht (by have h:=HSZ.out;omega))
  replace A0:=zH (A0.out.turned ht (by have h:=HSZ.out;omega))
  replace Z_f:=zH (Z_f.out.turned ht (by have h:=HSZ.out;omega))
  replace ZB:=zH (ZB.out.turned ht (by have h:=HSZ.out;omega))
  replace GB:=zH (GB.out.turned ht (by have h:=HSZ.out;omega))
  replace HB:=zH (HB.out.trans ((ht.low (by have h:=HSZ.out;omega)).mono (by have h:=HSZ.out;omega)))
  replace HSZ:=zH (And.intro HSZ.out ht.size)
  clear ht;have G_f:=zH hs.rg;clear hs;have hvx:decide (Zji X0<0)=false:=by rw[decide_eq_false_iff_not];have hbn:=Zvy FX.out;omega
  obtain⟨m10_0,m10_1,m10_2,m10_3,m10_4⟩:=five GB.out.get
  go_wp2_with fail
  clear m10_0 m10_1 m10_2 m10_3 m10_4;refine (Zpc G_f.out.get.Zbe FX.out).mono ?_;rintro e w11 ⟨rfl,k⟩
  replace B0:=zH (B0.out.below k)
  replace A0:=zH (A0.out.below k)
  replace Z_f:=zH (Z_f.out.below k)
  replace ZB:=zH (ZB.out.below k)
  replace GB:=zH (GB.out.below k)
  replace G_f:=zH (G_f.out.below k)
  replace HB:=zH (HB.out.trans (k.mono HB.out.size))
  replace HSZ:=zH (And.intro HSZ.out k.size)
  clear k;obtain⟨m11_0,m11_1⟩:=two B0.out.get
  go_wp2_with fail
  refine (Ztk A0.out.get F0.out).mono ?_;rintro e w12 ⟨⟨q0a,q0b,rfl,hs⟩,k⟩;clear m11_0 m11_1
  replace B0:=zH (B0.out.below k)
  replace A0:=zH (A0.out.below k)
  replace Z_f:=zH (Z_f.out.below k)
  replace ZB:=zH (ZB.out.below k)
  replace GB:=zH (GB.out.below k)
  replace G_f:=zH (G_f.out.below k)
  replace HB:=zH (HB.out.trans (k.mono HB.out.size))
  replace HSZ:=zH (And.intro HSZ.out k.size)
  clear k;have Q0_f:=zH hs.rg;clear hs
  go_wp2_with fail
  refine (HI.out F0.out _ _ _ Q0_f.out.get.Zgu).mono ?_;rintro e w13 ⟨⟨ha,hb,hc,hd,he,rfl,hs⟩,k⟩
  replace B0:=zH (B0.out.below k)
  replace A0:=zH (A0.out.below k)
  replace Z_f:=zH (Z_f.out.below k)
  replace ZB:=zH (ZB.out.below k)
  replace GB:=zH (GB.out.below k)
  replace G_f:=zH (G_f.out.below k)
  replace Q0_f:=zH (Q0_f.out.below k)
  replace HB:=zH (HB.out.trans (k.mono HB.out.size))
  replace HSZ:=zH (And.intro HSZ.out k.size)
  clear k;have H_f:=zH hs.rg;clear hs;clear Q0_f;obtain⟨o0,o1,o2,o3,o4⟩:=(Zgd.Zbe H_f.out.get).one;have t0:=sto o0;have t1:=sto o1;have t2:=sto o2;have t3:=sto o3;have t4:=sto o4
  replace B0:=zH (B0.out.more (.cells #[ha,hb,hc,hd,he] 65))
  replace A0:=zH (A0.out.more (.cells #[ha,hb,hc,hd,he] 65))
  replace Z_f:=zH (Z_f.out.more (.cells #[ha,hb,hc,hd,he] 65))
  replace ZB:=zH (ZB.out.more (.cells #[ha,hb,hc,hd,he] 65))
  replace GB:=zH (GB.out.more (.cells #[ha,hb,hc,hd,he] 65))
  replace G_f:=zH (G_f.out.more (.cells #[ha,hb,hc,hd,he] 65))
  replace H_f:=zH (H_f.out.more (.cells #[ha,hb,hc,hd,he] 65))
  replace HB:=zH (HB.out.alloc HB.out.size (.cells #[ha,hb,hc,hd,he] 65))
  replace HSZ:=zH (And.intro HSZ.out (Zar w13 (.cells #[ha,hb,hc,hd,he] 65)))
  have HBX:=zH (Zpu w13 #[ha,hb,hc,hd,he] 65);clear o0 o1 o2 o3 o4;obtain⟨m12_0,m12_1,m12_2,m12_3,m12_4⟩:=five HBX.out.get;obtain⟨m13_0,m13_1,m13_2,m13_3,m13_4⟩:=five ZB.out.get
  go_wp2_with fail
  clear t0 t1 t2 t3 t4;generalize hWe3:(w13.alloc (.cells #[ha,hb,hc,hd,he] 65))=We3 at *;clear m12_0 m12_1 m12_2 m12_3 m12_4 m13_0 m13_1 m13_2 m13_3 m13_4;refine (Zq0 H_f.out.get.Zbe Z_f.out.get.Zbe FX.out).mono ?_;rintro e w14 ⟨rfl,k⟩
  replace B0:=zH (B0.out.below k)
  replace A0:=zH (A0.out.below k)
  replace Z_f:=zH (Z_f.out.below k)
  replace ZB:=zH (ZB.out.below k)
  replace GB:=zH (GB.out.below k)
  replace G_f:=zH (G_f.out.below k)
  replace H_f:=zH (H_f.out.below k)
  replace HBX:=zH (HBX.out.below k)
  replace HB:=zH (HB.out.trans (k.mono HB.out.size))
  replace HSZ:=zH (And.intro HSZ.out k.size)
  clear k;obtain⟨m14_0,m14_1,m14_2,m14_3,m14_4⟩:=five GB.out.get
  go_wp2_with fail
  clear m14_0 m14_1 m14_2 m14_3 m14_4;refine (Zpc G_f.out.get.Zbe FX.out).mono ?_;rintro e w15 ⟨rfl,k⟩
  replace B0:=zH (B0.out.below k)
  replace A0:=zH (A0.out.below k)
  replace Z_f:=zH (Z_f.out.below k)
  replace ZB:=zH (ZB.out.below k)
  replace GB:=zH (GB.out.below k)
  replace G_f:=zH (G_f.out.below k)
  replace H_f:=zH (H_f.out.below k)
  replace HBX:=zH (HBX.out.below k)
  replace HB:=zH (HB.out.trans (k.mono HB.out.size))
  replace HSZ:=zH (And.intro HSZ.out k.size)
  clear k
  go_wp2_with fail
  go_ret;exact⟨rfl,HB.out⟩
end Go.Proofs.YtlohljkfphljgaaGreat
