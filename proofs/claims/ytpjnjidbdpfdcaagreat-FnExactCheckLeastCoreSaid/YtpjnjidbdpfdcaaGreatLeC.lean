/- spec.CheckLeastCore; impl: provesLeast, CheckLeastCore. -/
import Derived.Test.YtpjnjidbdpfdcaaGreatLeA
import Derived.Test.YtpjnjidbdpfdcaaGreatLeB
import Derived.Test.YtpjnjidbdpfdcaaGreatHLeN
import Derived.Test.YtpjnjidbdpfdcaaGreatHLeN
import Derived.Test.YtpjnjidbdpfdcaaGreatLkLe
import Derived.Test.YtpjnjidbdpfdcaaGreatLkLpr
import Derived.Test.YtpjnjidbdpfdcaaGreatPyH
import Derived.Test.YtpjnjidbdpfdcaaGreatPyI
import Derived.Test.YtpjnjidbdpfdcaaGreatGLp
import Derived.Test.YtpjnjidbdpfdcaaGreatGLi
import Derived.Test.YtpjnjidbdpfdcaaGreatGVc
set_option maxRecDepth 100000
set_option maxHeartbeats 40000000
namespace Go.Proofs.YtpjnjidbdpfdcaaGreat
open Go.RowKit
open Ve (R)
open Gm (G)
open Le (Lst)
open Lp (P)
theorem joinL {A B C:World} (h:Since A B) (k:Since B C):Since A C:=⟨h.low.trans (k.low.mono h.low.size)⟩
theorem Zg1 {a b:R}:(a.1 == b.1 && a.2 == b.2)=decide (a=b):=by
 rw[Bool.eq_iff_iff,Bool.and_eq_true,beq_iff_eq,beq_iff_eq,decide_eq_true_iff];exact⟨fun h=>Prod.ext h.1 h.2,fun h=>h▸⟨rfl,rfl⟩⟩
theorem Zkq (z:Int):IntKind.i64.wrap (-z)=Ta.w64 (-z):=IntKind.wrap_i64 _
theorem Zm2 (x:R) (w:World):Calls Tryz.prog 18 #[.agg #[.int .i64 x.1,.int .i64 x.2]] w fun e w'=>e=.returned (.agg #[.int .i64 (Ta.negR x).1,.int .i64 (Ta.negR x).2])/\Below w.heap.size w w':=by
 rw[show (Ta.negR x).1=Ta.w64 (-x.1) from rfl,show (Ta.negR x).2=x.2 from rfl,<-Zkq];obtain⟨y,hy⟩:∃y,IntKind.i64.wrap (-x.1)=y:=⟨_,rfl⟩;have Hy:=zH hy;rw[hy];have Hb:=zH (((Below.refl w.heap.size w).alloc (Nat.le_refl _) (.cells #[.int .i64 x.1,.int .i64 x.2] 35)).alloc (by rw[Zar];omega) (.cells #[.int .i64 0,.int .i64 0] 35))
 go_enter Tryz.func18,Tryz.ntmps18
 go_wp2_with fail
 exact bodyPost_ret (v:=.agg #[.int .i64 y,.int .i64 x.2]) (by simp[results,Tryz.results18,go_sem]) rfl ⟨rfl,by (repeat' (first|exact Below.refl _ _|exact Nat.le_refl _|refine Below.setCell ?_ ?_ _|refine Below.alloc ?_ ?_ _|refine below_drewN ?_ _|refine Below.drew ?_ | (simp;done) | (simp;omega)))⟩
theorem Zl2 (x:R) (w:World):Calls Tryz.prog 45 #[.agg #[.int .i64 x.1,.int .i64 x.2]] w fun e w'=>e=.returned (.agg #[.int .i64 (Ta.negR x).1,.int .i64 (Ta.negR x).2])/\Below w.heap.size w w':=by
 rw[show (Ta.negR x).1=Ta.w64 (-x.1) from rfl,show (Ta.negR x).2=x.2 from rfl,<-Zkq];obtain⟨y,hy⟩:∃y,IntKind.i64.wrap (-x.1)=y:=⟨_,rfl⟩;have Hy:=zH hy;rw[hy]
 go_enter Tryz.func45,Tryz.ntmps45
 go_wp2_with fail
 exact bodyPost_ret (v:=.agg #[.int .i64 y,.int .i64 x.2]) (by simp[results,Tryz.results45,go_sem]) rfl ⟨rfl,by (repeat' (first|exact Below.refl _ _|exact Nat.le_refl _|refine Below.setCell ?_ ?_ _|refine Below.alloc ?_ ?_ _|refine below_drewN ?_ _|refine Below.drew ?_ | (simp;done) | (simp;omega)))⟩
theorem Zom {w:World} {vA vB vC:Value} {p:P} {lo:Nat} (h1:Zax lo w vA vB p.A p.B) (h2:Zad lo w vC p.C) :
  ∃(a b c:Option Addr) (c1 c2 c3:Nat),vA=.slice a p.A.length c1/\vB=.slice b p.B.length c2/\vC=.slice c p.C.length c3/\LpIn w.heap.size w a b c p:=by
 obtain⟨a,b,c,c1,c2,c3,e1,e2,e3,hi⟩:=(RsLP.of h1 h2).Zbo;exact⟨a,b,c,c1,c2,c3,e1,e2,e3,hi⟩
theorem Zdn {w:World} {x y u0 u1 u2 u3 u4:Value} {g:G} {r:Lst} (res:Bool) (hres:Le.chkL g r=res) (h:GmX w x y g) (hc:LstC w u0 u1 u2 u3 u4 r) (hf:GmOk g) (hfr:Zdp r) :
  Calls Tryz.prog 6 #[.agg #[x,y],.agg #[u0,u1,u2,u3,u4]] w fun e w'=>e=.returned (.bool res)/\Below w.heap.size w w':=by
 obtain⟨rfl,rfl,rfl,hP,hW⟩:=hc;obtain⟨rk,⟨ex1,ex2⟩,rp,rw_⟩:=r;dsimp only at hP hW ⊢;have hfp:=hfr.p;have hfw:=hfr.w;dsimp only at hfp hfw;obtain⟨W0,hW0⟩:∃W0,W0=w.alloc (.cells #[x,y] 33):=⟨_,rfl⟩;obtain⟨W1,hW1⟩:∃W1,W1=W0.alloc (.cells #[.bool rk,.int .i64 ex1,.int .i64 ex2,u3,u4] 38):=⟨_,rfl⟩;have hs0:W0.heap.size=w.heap.size+1:=by rw[hW0];exact Zar _ _
 have hb0:Below w.heap.size w W0:=by rw[hW0];exact (Below.refl _ _).alloc (Nat.le_refl _) _
 have hb1:Below W0.heap.size W0 W1:=by rw[hW1];exact (Below.refl _ _).alloc (Nat.le_refl _) _
 have hb:Below w.heap.size w W1:=hb0.trans (hb1.mono (by omega));have hbox0:Zaa W1 w.heap.size #[x,y] 33:=by
  have h0:Zaa W0 w.heap.size #[x,y] 33:=by rw[hW0];exact Zaa.new _ _ _
  exact h0.below hb1
 have hbox1:Zaa W1 (w.heap.size+1) #[.bool rk,.int .i64 ex1,.int .i64 ex2,u3,u4] 38:=by rw[<-hs0,hW1];exact Zaa.new _ _ _
 have hgm:GmX W1 x y g:=h.up hb;have HF:=zH hf;have HGM:=zH hgm;have HB0:=zH hbox0;have HB1:=zH hbox1;have HB:=zH hb;have HP:=zH (hP.up hb);have HWt:=zH (hW.up hb);have HW:Hid ((w.alloc (.cells #[x,y] 33)).alloc (.cells #[.bool rk,.int .i64 ex1,.int .i64 ex2,u3,u4] 38)=W1):=by show _=_;rw[hW1,hW0]
 obtain⟨ap,cp,ep,_⟩:=hP;obtain⟨aw,cw,ew,_⟩:=hW;subst ep ew;obtain⟨⟨ag,cg,rfl,rfl,_⟩,_⟩:=h;have hsz1:w.heap.size+2≤W1.heap.size:=by rw[hW1,Zar];omega
 obtain⟨KC,hKC⟩:∃k,Le.can g=k:=⟨_,rfl⟩;obtain⟨PL,hPL⟩:∃p,Le.least g=p:=⟨_,rfl⟩;obtain⟨KS,hKS⟩:∃k,Py.some_ g rp=k:=⟨_,rfl⟩;obtain⟨WR,hWR⟩:∃p,Py.worst g rp=p:=⟨_,rfl⟩;obtain⟨WL,hWL⟩:∃p,Py.Zd5 g rp=p:=⟨_,rfl⟩;obtain⟨KF,hKF⟩:∃k,Lp.feas PL rw_=k:=⟨_,rfl⟩;obtain⟨KD,hKD⟩:∃k,Ve.dotK PL.C rw_=k:=⟨_,rfl⟩;obtain⟨D,hD⟩:∃k,Ve.dotR PL.C rw_=k:=⟨_,rfl⟩;obtain⟨NX,hNX⟩:∃k,Ta.negR (ex1,ex2)=k:=⟨_,rfl⟩;obtain⟨KE,hKE⟩:∃k,(WR.1 == ex1 && WR.2 == ex2)=k:=⟨_,rfl⟩;have HDef:Hid ((KC && (rk && (KS && (KE && (KF && (KD && decide (D=NX)))))))=res):=by
  show _=_;rw[<-hres];unfold Le.chkL Le.proved;dsimp only;rw[hKC,hKS,hWR,hPL,hKF,hKD,hD,hNX,<-hKE,show decide (WR=(ex1,ex2))=(WR.1 == ex1 && WR.2 == ex2) from (Zg1 (a:=WR) (b:=(ex1,ex2))).symm];generalize (WR.1 == ex1 && WR.2 == ex2)=k1;generalize decide (D=NX)=k2;cases KC<;>cases rk<;>cases KS<;>cases k1<;>rfl
 have HLc:Hid (Calls Tryz.prog 14 #[.agg #[.int .i64 g.n,.slice ag g.v.length cg]] W1 (Zcj PL KC W1)):=by
  have h9:=Zid HGM.out.1 HF.out;rw[hKC,hPL] at h9;exact h9
 have HWo:Hid (∀W',Since W1 W'->Calls Tryz.prog 15 #[.agg #[.int .i64 g.n,.slice ag g.v.length cg],.slice ap rp.length cp] W' (Zds WR WL KS W')):=fun W' hs=>by
  have h9:=Zey (GmC.up HGM.out.1 hs.low) (HP.out.up hs.low) HF.out hfp;rw[hWR,hWL,hKS] at h9;exact h9
 have HPs:Hid (Zct PL):=by rw[<-hPL];exact Zl8 (Zcn g)
 have hCs:PL.C.length≤1048576:=by
  have:=Zcn g;rw[hPL] at this;unfold lpN at this;omega
 have HNg:=zH (fun W'=>Zm2 (ex1,ex2) W');have HNX:=zH hNX;have HKF:=zH hKF;have HKD:=zH (And.intro hKD hD);have HKE:=zH hKE;clear hf hgm hbox0 hbox1 hb0 hb1 hb hs0 hW1 hW0 hres hfr hKC hPL hKS hWR hWL hKF hKD hD hNX hKE;have he:=Zcu;have eg:=Zb5;obtain⟨b0,b1⟩:=two HB0.out;obtain⟨q0,q1,q2,q3,q4⟩:=five HB1.out
 go_enter Tryz.func6,Tryz.ntmps6
 go_upto_region 1 with fail
 rw[HW.out]
 go_wp2_with fail
 refine HLc.out.mono ?_;rintro e w2 ⟨vA,vB,vC,rfl,hab,hc,k2⟩;obtain⟨aA,aB,aC,cA,cB,cC,rfl,rfl,rfl,hlp⟩:=Zom hab hc;have hsA:=k2.size;have HLp:=zH hlp;have hm:=(Below.refl w2.heap.size w2).alloc (Nat.le_refl _) (.cells #[.slice aA PL.A.length cA,.slice aB PL.B.length cB,.slice aC PL.C.length cC] 47);have HS2:Hid (Since W1 (w2.alloc (.cells #[.slice aA PL.A.length cA,.slice aB PL.B.length cB,.slice aC PL.C.length cC] 47))):=((Since.refl W1).trans k2).alloc _;have HLq:=zH (hlp.below hm);have HX2:=zH (Tri.new w2 (.slice aA PL.A.length cA) (.slice aB PL.B.length cB) (.slice aC PL.C.length cC) 47);have HQs:Hid (w2.heap.size<(w2.alloc (.cells #[.slice aA PL.A.length cA,.slice aB PL.B.length cB,.slice aC PL.C.length cC] 47)).heap.size):=by show _<_;rw[Zar];omega
 clear hab hc k2 hlp hm b0 b1 q0 q1 q2 q3 q4
 go_upto_region 2 with fail
 generalize hq5:w2.heap.size=p5 at *;generalize w2.alloc (.cells #[.slice aA PL.A.length cA,.slice aB PL.B.length cB,.slice aC PL.C.length cC] 47)=w3 at *;clear hq5;have HB2:=zH (HB0.out.below HS2.out.low);have HB3:=zH (HB1.out.below HS2.out.low);obtain⟨b0,b1⟩:=two HB2.out;obtain⟨q0,q1,q2,q3,q4⟩:=five HB3.out
 go_wp2_with fail
 refine (HWo.out _ HS2.out).mono ?_;rintro e w4 ⟨vW,rfl,hwl,k4⟩;obtain⟨al,cl,hsl⟩:=Zak hwl;subst hsl;have HS4:Hid (Since w3 (w4.alloc (.cells #[.int .i64 WR.1,.int .i64 WR.2] 35))):=((Since.refl w3).trans k4).alloc _;have HX4:=zH (Zaj.new w4 WR).four;have HQ4:Hid (w4.heap.size<(w4.alloc (.cells #[.int .i64 WR.1,.int .i64 WR.2] 35)).heap.size):=by show _<_;rw[Zar];omega
 clear hwl k4 b0 b1 q0 q1 q2 q3 q4
 go_upto_region 3 with fail
 generalize hq7:w4.heap.size=p7 at *;generalize w4.alloc (.cells #[.int .i64 WR.1,.int .i64 WR.2] 35)=w5 at *;clear hq7;have HB4:=zH (HB3.out.below HS4.out.low);have HX3:=zH (HX2.out.below HS4.out.low);obtain⟨q0,q1,q2,q3,q4⟩:=five HB4.out;obtain⟨l0,l1,l2,_⟩:=HX3.out.cells;have hC5:Zah w5.heap.size w5 aC PL.C:=(HLq.out.mC.below (HS4.out.low.mono (Nat.le_of_lt HQs.out))).mono (by have:=HS4.out.low.size;have:=HQs.out;omega);obtain⟨a',c',e',hr⟩:=HWt.out.up (HS2.out.low.trans (HS4.out.low.mono HS2.out.low.size));injection e' with e1 e2 e3
 subst e1 e3;have hDt:=Zfw w5.heap.size aC aw cC cw PL.C rw_ hCs hfw w5 (Nat.le_refl _) hC5 hr;rw[HKD.out.1,HKD.out.2] at hDt;have HDt:=zH hDt;clear hDt hC5 hr e2 HX2
 go_wp2_with fail
 refine HDt.out.mono ?_;rintro e w6 ⟨rfl,k6⟩;have HS6:Hid (Since w5 (w6.alloc (.cells #[.int .i64 D.1,.int .i64 D.2] 35))):=((Since.refl w5).trans k6).alloc _;have HX6:=zH (Zaj.new w6 D).four;have HQ6:Hid (w6.heap.size<(w6.alloc (.cells #[.int .i64 D.1,.int .i64 D.2] 35)).heap.size):=by show _<_;rw[Zar];omega
 have HB5:=zH (HB4.out.below (k6.alloc k6.size (.cells #[.int .i64 D.1,.int .i64 D.2] 35)));clear k6 q0 q1 q2 q3 q4 l0 l1 l2 HDt
 go_upto_region 4 with fail
 generalize hqA:w6.heap.size=pA at *;generalize w6.alloc (.cells #[.int .i64 D.1,.int .i64 D.2] 35)=wf at *;clear hqA;have HX7:=zH (HX3.out.below HS6.out.low);have HQ5:Hid (p7<w5.heap.size):=HQ4;have HSf:Hid (Since W1 wf):=joinL HS2.out (joinL HS4.out HS6.out);have HFe:Hid (∀W',Since wf W'->Calls Tryz.prog 17 #[.agg #[.slice aA PL.A.length cA,.slice aB PL.B.length cB,.slice aC PL.C.length cC],.slice aw rw_.length cw] W' fun e w'=>e=.returned (.bool KF)/\Below W'.heap.size W' w'):=fun W' hs=>by
  have h3:Below w3.heap.size w3 W':=(joinL (joinL HS4.out HS6.out) hs).low;obtain⟨a',c',e',hr⟩:=HWt.out.up (joinL HSf.out hs).low;injection e' with e1 _ e3
  subst e1 e3;exact Zfy W'.heap.size aA aB aC aw cA cB cC cw PL rw_ HPs.out hfw KF HKF.out W' (Nat.le_refl _) ((HLq.out.below (h3.mono (Nat.le_of_lt HQs.out))).mono (by have:=h3.size;have:=HQs.out;omega)) hr
 have HE0:Hid (Below w.heap.size w wf):=HB.out.trans (HSf.out.low.mono (by omega));have hlf:w.heap.size≤wf.heap.size:=HE0.out.size;have Cell:Hid (∀w',Since wf w'->w'.cell? ⟨w.heap.size+1,0,none⟩=some (.bool rk)/\w'.cell? ⟨w.heap.size+1,1,none⟩=some (.int .i64 ex1)/\w'.cell? ⟨w.heap.size+1,2,none⟩=some (.int .i64 ex2)/\w'.cell? ⟨w.heap.size+1,4,none⟩=some (.slice aw rw_.length cw)/\w'.cell? ⟨p5,0,none⟩=some (.slice aA PL.A.length cA)/\w'.cell? ⟨p5,1,none⟩=some (.slice aB PL.B.length cB)/\w'.cell? ⟨p5,2,none⟩=some (.slice aC PL.C.length cC)/\w'.cell? ⟨p7,0,none⟩=some (.int .i64 WR.1)/\w'.cell? ⟨p7,1,none⟩=some (.int .i64 WR.2)/\w'.cell? ⟨pA,0,none⟩=some (.int .i64 D.1)/\w'.cell? ⟨pA,1,none⟩=some (.int .i64 D.2)/\Since wf w'):=fun w' h=>
  ⟨h.cell (p:=⟨w.heap.size+1,0,none⟩) (Zag HB5.out) (five HB5.out).1,h.cell (p:=⟨w.heap.size+1,1,none⟩) (Zag HB5.out) (five HB5.out).2.1,h.cell (p:=⟨w.heap.size+1,2,none⟩) (Zag HB5.out) (five HB5.out).2.2.1,h.cell (p:=⟨w.heap.size+1,4,none⟩) (Zag HB5.out) (five HB5.out).2.2.2.2,
   h.cell (p:=⟨p5,0,none⟩) (Zag HX7.out) HX7.out.cells.1,h.cell (p:=⟨p5,1,none⟩) (Zag HX7.out) HX7.out.cells.2.1,h.cell (p:=⟨p5,2,none⟩) (Zag HX7.out) HX7.out.cells.2.2.1,
   (joinL HS6.out h).cell (p:=⟨p7,0,none⟩) HQ4.out HX4.out.1,(joinL HS6.out h).cell (p:=⟨p7,1,none⟩) HQ4.out HX4.out.2.1,h.cell (p:=⟨pA,0,none⟩) HQ6.out HX6.out.1,h.cell (p:=⟨pA,1,none⟩) HQ6.out HX6.out.2.1,h⟩
 have hin:=(Since.refl wf).drew;have hke:=HKE.out;clear HB0 HB1 HB2 HB3 HB4 HB5 HX3 HX4 HX6 HX7 HLc HWo HQ4 HQ5 HQ6 HQs HS2 HS4 HS6 HLp HLq HGM HP HWt HF HB HW HPs hCs HKF HKD HKE hsz1 hsA hfp hfw HSf;cases KC with
 | false=>
  have Hr:Hid (false=res):=by show _=_;rw[<-HDef.out];rfl
  obtain⟨c0,c1,c2,c3,c4,c5,c6,c7,c8,c9,c10,c11⟩:=Cell.out _ (Since.refl wf);clear HFe HNg HNX Cell hin
  go_quiet (fail)
  have HE:=zH (below_drewN HE0.out nq)
  go_wp2_with fail
  go_ret;exact⟨Zac Hr.out,HE.out⟩
 | true=>
  cases rk with
  | false=>
   have Hr:Hid (false=res):=by show _=_;rw[<-HDef.out];rfl
   obtain⟨c0,c1,c2,c3,c4,c5,c6,c7,c8,c9,c10,c11⟩:=Cell.out _ (Since.refl wf);clear HFe HNg HNX Cell hin
   go_quiet (fail)
   have HE:=zH (below_drewN HE0.out nq)
   go_wp2_with fail
   go_ret;exact⟨Zac Hr.out,HE.out⟩
  | true=>
   cases KS with
   | false=>
    have Hr:Hid (false=res):=by show _=_;rw[<-HDef.out];rfl
    obtain⟨c0,c1,c2,c3,c4,c5,c6,c7,c8,c9,c10,c11⟩:=Cell.out _ (Since.refl wf);clear HFe HNg HNX Cell hin
    go_quiet (fail)
    have HE:=zH (below_drewN HE0.out nq)
    go_wp2_with fail
    go_ret;exact⟨Zac Hr.out,HE.out⟩
   | true=>
    cases KE with
    | false=>
     have Hr:Hid (false=res):=by show _=_;rw[<-HDef.out];rfl
     obtain⟨c0,c1,c2,c3,c4,c5,c6,c7,c8,c9,c10,c11⟩:=Cell.out _ (Since.refl wf);clear HFe HNg HNX Cell hin
     go_quiet (fail)
     have HE:=zH (below_drewN HE0.out nq)
     go_wp2_with fail
     go_ret;exact⟨Zac Hr.out,HE.out⟩
    | true=>
     cases KF with
     | false=>
      have Hr:Hid (false=res):=by show _=_;rw[<-HDef.out];rfl
      refine Zai (S:=(fun w'=>w'.cell? ⟨w.heap.size+1,0,none⟩=some (.bool true)/\w'.cell? ⟨w.heap.size+1,1,none⟩=some (.int .i64 ex1)/\w'.cell? ⟨w.heap.size+1,2,none⟩=some (.int .i64 ex2)/\w'.cell? ⟨w.heap.size+1,4,none⟩=some (.slice aw rw_.length cw)/\w'.cell? ⟨p5,0,none⟩=some (.slice aA PL.A.length cA)/\w'.cell? ⟨p5,1,none⟩=some (.slice aB PL.B.length cB)/\w'.cell? ⟨p5,2,none⟩=some (.slice aC PL.C.length cC)/\w'.cell? ⟨p7,0,none⟩=some (.int .i64 WR.1)/\w'.cell? ⟨p7,1,none⟩=some (.int .i64 WR.2)/\w'.cell? ⟨pA,0,none⟩=some (.int .i64 D.1)/\w'.cell? ⟨pA,1,none⟩=some (.int .i64 D.2)/\Since wf w')) 30 (by kernel_rfl) ?_ (fun hHeld=>?_)
      ·exact Cell.out _ hin
      refine tk2 0 ⟨some 33,_,4,_,_,none⟩ ?_;refine tk2 1 ⟨some 34,_,4,_,_,none⟩ ?_
      try simp only[Act.put,zA,zB,zC]
      refine tk2 2 ⟨some 35,_,0,_,_,some (1,true)⟩ ?_
      try simp only[Act.put,zA,zB,zC]
      refine tk2 3 ⟨some 36,_,4,_,_,some (1,true)⟩ ?_;refine tk2 4 ⟨some 37,_,4,_,_,none⟩ ?_;refine tk2 5 ⟨some 38,_,4,_,_,none⟩ ?_
      try simp only[Act.put,zA,zB,zC]
      refine tk2 6 ⟨some 39,_,4,_,_,some (5,true)⟩ ?_;refine tk2 7 ⟨some 40,_,4,_,_,none⟩ ?_;refine tk2 8 ⟨some 41,_,4,_,_,none⟩ ?_
      try simp only[Act.put,zA,zB,zC]
      refine tk2 9 ⟨some 42,_,35,_,_,some (8,true)⟩ ?_
      try simp only[Act.put,zA,zB,zC]
      refine tk2 10 ⟨some 43,_,0,_,_,some (8,true)⟩ ?_
      try simp only[Act.put,zA,zB,zC]
      refine tk2 11 ⟨some 44,_,35,_,_,some (8,true)⟩ ?_
      try simp only[Act.put,zA,zB,zC]
      refine tk2 12 ⟨some 45,_,4,_,_,some (8,true)⟩ ?_;refine tk2 13 ⟨some 46,_,4,_,_,none⟩ ?_;refine tk2 14 ⟨some 47,_,4,_,_,none⟩ ?_
      try simp only[Act.put,zA,zB,zC]
      refine tk2 15 ⟨some 48,_,47,_,_,some (14,true)⟩ ?_
      try simp only[Act.put,zA,zB,zC]
      refine tk2 16 ⟨some 49,_,0,_,_,some (14,true)⟩ ?_
      try simp only[Act.put,zA,zB,zC]
      refine tk2 17 ⟨some 50,_,36,_,_,some (14,true)⟩ ?_
      try simp only[Act.put,zA,zB,zC]
      refine rd2 18 ⟨some 51,_,4,_,_,some (14,true)⟩ fun K hK=>?_
      go_simp
      (go_at_call 17;refine (HFe.out _ hin).mono ?_;rintro e w7 ⟨rfl,k7⟩;have hin7:=hin.trans k7)
      refine hK.out _ _ ?_ (fun hHeld=>?_)
      ·exact Cell.out _ hin7
      clear hK K;refine tk2 19 ⟨some 52,_,4,_,_,none⟩ ?_;refine tk2 20 ⟨some 53,_,4,_,_,none⟩ ?_
      try simp only[Act.put,zA,zB,zC]
      refine tkTu (i:=21) (oi:=⟨some 54,.move (.tmp 11),4,"l13_least.go:49",#[⟨20,.guard⟩],some (20,true)⟩) rfl (by assumption) ?_
      refine tk2 22 ⟨some 55,_,4,_,_,none⟩ ?_;refine tk2 23 ⟨some 56,_,4,_,_,none⟩ ?_
      try simp only[Act.put,zA,zB,zC]
      refine tkTu (i:=24) (oi:=⟨some 57,.load 35 (.tmp 10),35,"l13_least.go:49",#[⟨23,.guard⟩],some (23,true)⟩) rfl (by assumption) ?_
      try simp only[Act.put,zA,zB,zC]
      refine tkTu (i:=25) (oi:=⟨some 58,.fieldAddr 38 (.tmp 3) 1,0,"l13_least.go:49",#[⟨23,.guard⟩],some (23,true)⟩) rfl (by assumption) ?_
      try simp only[Act.put,zA,zB,zC]
      refine tkTu (i:=26) (oi:=⟨some 59,.load 35 (.tmp 58),35,"l13_least.go:49",#[⟨25,.data⟩,⟨23,.guard⟩],some (23,true)⟩) rfl (by assumption) ?_
      try simp only[Act.put,zA,zB,zC]
      refine tkTu (i:=27) (oi:=⟨some 60,.call { callee:=.value (.func 18),args:=#[.tmp 59],argTypes:=#[35] },35,"l13_least.go:49",#[⟨26,.data⟩,⟨23,.chain⟩,⟨23,.guard⟩],some (23,true)⟩) rfl (by assumption) ?_
      try simp only[Act.put,zA,zB,zC]
      refine tkTu (i:=28) (oi:=⟨some 61,.binOp .eql 35 (.tmp 57) (.tmp 60) 35,4,"l13_least.go:49",#[⟨24,.data⟩,⟨27,.data⟩,⟨23,.guard⟩],some (23,true)⟩) rfl (by assumption) ?_
      refine tk2 29 ⟨some 62,_,4,_,_,none⟩ ?_
      try simp only[Act.put,zA,zB,zC]
      refine rd3 30 ⟨some 4,_,4,_,_,none⟩ fun K hK=>?_
      go_simp
      refine hK.out _ _ ?_;clear hK K
      try simp only[Act.put,zA,zB,zC]
      refine Zas (by kernel_rfl) ?_ _;have HE:=zH (HE0.out.trans (hin7.low.mono hlf))
      go_wp2_with fail
      go_ret;exact⟨Zac Hr.out,HE.out⟩
     | true=>
      cases KD with
      | false=>
       have Hr:Hid (false=res):=by show _=_;rw[<-HDef.out];rfl
       refine Zai (S:=(fun w'=>w'.cell? ⟨w.heap.size+1,0,none⟩=some (.bool true)/\w'.cell? ⟨w.heap.size+1,1,none⟩=some (.int .i64 ex1)/\w'.cell? ⟨w.heap.size+1,2,none⟩=some (.int .i64 ex2)/\w'.cell? ⟨w.heap.size+1,4,none⟩=some (.slice aw rw_.length cw)/\w'.cell? ⟨p5,0,none⟩=some (.slice aA PL.A.length cA)/\w'.cell? ⟨p5,1,none⟩=some (.slice aB PL.B.length cB)/\w'.cell? ⟨p5,2,none⟩=some (.slice aC PL.C.length cC)/\w'.cell? ⟨p7,0,none⟩=some (.int .i64 WR.1)/\w'.cell? ⟨p7,1,none⟩=some (.int .i64 WR.2)/\w'.cell? ⟨pA,0,none⟩=some (.int .i64 D.1)/\w'.cell? ⟨pA,1,none⟩=some (.int .i64 D.2)/\Since wf w')) 30 (by kernel_rfl) ?_ (fun hHeld=>?_)
       ·exact Cell.out _ hin
       refine tk2 0 ⟨some 33,_,4,_,_,none⟩ ?_;refine tk2 1 ⟨some 34,_,4,_,_,none⟩ ?_
       try simp only[Act.put,zA,zB,zC]
       refine tk2 2 ⟨some 35,_,0,_,_,some (1,true)⟩ ?_
       try simp only[Act.put,zA,zB,zC]
       refine tk2 3 ⟨some 36,_,4,_,_,some (1,true)⟩ ?_;refine tk2 4 ⟨some 37,_,4,_,_,none⟩ ?_;refine tk2 5 ⟨some 38,_,4,_,_,none⟩ ?_
       try simp only[Act.put,zA,zB,zC]
       refine tk2 6 ⟨some 39,_,4,_,_,some (5,true)⟩ ?_;refine tk2 7 ⟨some 40,_,4,_,_,none⟩ ?_;refine tk2 8 ⟨some 41,_,4,_,_,none⟩ ?_
       try simp only[Act.put,zA,zB,zC]
       refine tk2 9 ⟨some 42,_,35,_,_,some (8,true)⟩ ?_
       try simp only[Act.put,zA,zB,zC]
       refine tk2 10 ⟨some 43,_,0,_,_,some (8,true)⟩ ?_
       try simp only[Act.put,zA,zB,zC]
       refine tk2 11 ⟨some 44,_,35,_,_,some (8,true)⟩ ?_
       try simp only[Act.put,zA,zB,zC]
       refine tk2 12 ⟨some 45,_,4,_,_,some (8,true)⟩ ?_;refine tk2 13 ⟨some 46,_,4,_,_,none⟩ ?_;refine tk2 14 ⟨some 47,_,4,_,_,none⟩ ?_
       try simp only[Act.put,zA,zB,zC]
       refine tk2 15 ⟨some 48,_,47,_,_,some (14,true)⟩ ?_
       try simp only[Act.put,zA,zB,zC]
       refine tk2 16 ⟨some 49,_,0,_,_,some (14,true)⟩ ?_
       try simp only[Act.put,zA,zB,zC]
       refine tk2 17 ⟨some 50,_,36,_,_,some (14,true)⟩ ?_
       try simp only[Act.put,zA,zB,zC]
       refine rd2 18 ⟨some 51,_,4,_,_,some (14,true)⟩ fun K hK=>?_
       go_simp
       (go_at_call 17;refine (HFe.out _ hin).mono ?_;rintro e w7 ⟨rfl,k7⟩;have hin7:=hin.trans k7)
       refine hK.out _ _ ?_ (fun hHeld=>?_)
       ·exact Cell.out _ hin7
       clear hK K;refine tk2 19 ⟨some 52,_,4,_,_,none⟩ ?_;refine tk2 20 ⟨some 53,_,4,_,_,none⟩ ?_
       try simp only[Act.put,zA,zB,zC]
       refine tk2 21 ⟨some 54,_,4,_,_,some (20,true)⟩ ?_;refine tk2 22 ⟨some 55,_,4,_,_,none⟩ ?_;refine tk2 23 ⟨some 56,_,4,_,_,none⟩ ?_
       try simp only[Act.put,zA,zB,zC]
       refine tkTu (i:=24) (oi:=⟨some 57,.load 35 (.tmp 10),35,"l13_least.go:49",#[⟨23,.guard⟩],some (23,true)⟩) rfl (by assumption) ?_
       try simp only[Act.put,zA,zB,zC]
       refine tkTu (i:=25) (oi:=⟨some 58,.fieldAddr 38 (.tmp 3) 1,0,"l13_least.go:49",#[⟨23,.guard⟩],some (23,true)⟩) rfl (by assumption) ?_
       try simp only[Act.put,zA,zB,zC]
       refine tkTu (i:=26) (oi:=⟨some 59,.load 35 (.tmp 58),35,"l13_least.go:49",#[⟨25,.data⟩,⟨23,.guard⟩],some (23,true)⟩) rfl (by assumption) ?_
       try simp only[Act.put,zA,zB,zC]
       refine tkTu (i:=27) (oi:=⟨some 60,.call { callee:=.value (.func 18),args:=#[.tmp 59],argTypes:=#[35] },35,"l13_least.go:49",#[⟨26,.data⟩,⟨23,.chain⟩,⟨23,.guard⟩],some (23,true)⟩) rfl (by assumption) ?_
       try simp only[Act.put,zA,zB,zC]
       refine tkTu (i:=28) (oi:=⟨some 61,.binOp .eql 35 (.tmp 57) (.tmp 60) 35,4,"l13_least.go:49",#[⟨24,.data⟩,⟨27,.data⟩,⟨23,.guard⟩],some (23,true)⟩) rfl (by assumption) ?_
       refine tk2 29 ⟨some 62,_,4,_,_,none⟩ ?_
       try simp only[Act.put,zA,zB,zC]
       refine rd3 30 ⟨some 4,_,4,_,_,none⟩ fun K hK=>?_
       go_simp
       refine hK.out _ _ ?_;clear hK K
       try simp only[Act.put,zA,zB,zC]
       refine Zas (by kernel_rfl) ?_ _;have HE:=zH (HE0.out.trans (hin7.low.mono hlf))
       go_wp2_with fail
       go_ret;exact⟨Zac Hr.out,HE.out⟩
      | true=>
       refine Zai (S:=(fun w'=>w'.cell? ⟨w.heap.size+1,0,none⟩=some (.bool true)/\w'.cell? ⟨w.heap.size+1,1,none⟩=some (.int .i64 ex1)/\w'.cell? ⟨w.heap.size+1,2,none⟩=some (.int .i64 ex2)/\w'.cell? ⟨w.heap.size+1,4,none⟩=some (.slice aw rw_.length cw)/\w'.cell? ⟨p5,0,none⟩=some (.slice aA PL.A.length cA)/\w'.cell? ⟨p5,1,none⟩=some (.slice aB PL.B.length cB)/\w'.cell? ⟨p5,2,none⟩=some (.slice aC PL.C.length cC)/\w'.cell? ⟨p7,0,none⟩=some (.int .i64 WR.1)/\w'.cell? ⟨p7,1,none⟩=some (.int .i64 WR.2)/\w'.cell? ⟨pA,0,none⟩=some (.int .i64 D.1)/\w'.cell? ⟨pA,1,none⟩=some (.int .i64 D.2)/\Since wf w')) 30 (by kernel_rfl) ?_ (fun hHeld=>?_)
       ·exact Cell.out _ hin
       refine tk2 0 ⟨some 33,_,4,_,_,none⟩ ?_;refine tk2 1 ⟨some 34,_,4,_,_,none⟩ ?_
       try simp only[Act.put,zA,zB,zC]
       refine tk2 2 ⟨some 35,_,0,_,_,some (1,true)⟩ ?_
       try simp only[Act.put,zA,zB,zC]
       refine tk2 3 ⟨some 36,_,4,_,_,some (1,true)⟩ ?_;refine tk2 4 ⟨some 37,_,4,_,_,none⟩ ?_;refine tk2 5 ⟨some 38,_,4,_,_,none⟩ ?_
       try simp only[Act.put,zA,zB,zC]
       refine tk2 6 ⟨some 39,_,4,_,_,some (5,true)⟩ ?_;refine tk2 7 ⟨some 40,_,4,_,_,none⟩ ?_;refine tk2 8 ⟨some 41,_,4,_,_,none⟩ ?_
       try simp only[Act.put,zA,zB,zC]
       refine tk2 9 ⟨some 42,_,35,_,_,some (8,true)⟩ ?_
       try simp only[Act.put,zA,zB,zC]
       refine tk2 10 ⟨some 43,_,0,_,_,some (8,true)⟩ ?_
       try simp only[Act.put,zA,zB,zC]
       refine tk2 11 ⟨some 44,_,35,_,_,some (8,true)⟩ ?_
       try simp only[Act.put,zA,zB,zC]
       refine tk2 12 ⟨some 45,_,4,_,_,some (8,true)⟩ ?_;refine tk2 13 ⟨some 46,_,4,_,_,none⟩ ?_;refine tk2 14 ⟨some 47,_,4,_,_,none⟩ ?_
       try simp only[Act.put,zA,zB,zC]
       refine tk2 15 ⟨some 48,_,47,_,_,some (14,true)⟩ ?_
       try simp only[Act.put,zA,zB,zC]
       refine tk2 16 ⟨some 49,_,0,_,_,some (14,true)⟩ ?_
       try simp only[Act.put,zA,zB,zC]
       refine tk2 17 ⟨some 50,_,36,_,_,some (14,true)⟩ ?_
       try simp only[Act.put,zA,zB,zC]
       refine rd2 18 ⟨some 51,_,4,_,_,some (14,true)⟩ fun K hK=>?_
       go_simp
       (go_at_call 17;refine (HFe.out _ hin).mono ?_;rintro e w7 ⟨rfl,k7⟩;have hin7:=hin.trans k7)
       refine hK.out _ _ ?_ (fun hHeld=>?_)
       ·exact Cell.out _ hin7
       clear hK K;refine tk2 19 ⟨some 52,_,4,_,_,none⟩ ?_;refine tk2 20 ⟨some 53,_,4,_,_,none⟩ ?_
       try simp only[Act.put,zA,zB,zC]
       refine tk2 21 ⟨some 54,_,4,_,_,some (20,true)⟩ ?_;refine tk2 22 ⟨some 55,_,4,_,_,none⟩ ?_;refine tk2 23 ⟨some 56,_,4,_,_,none⟩ ?_
       try simp only[Act.put,zA,zB,zC]
       refine tk2 24 ⟨some 57,_,35,_,_,some (23,true)⟩ ?_
       try simp only[Act.put,zA,zB,zC]
       refine tk2 25 ⟨some 58,_,0,_,_,some (23,true)⟩ ?_
       try simp only[Act.put,zA,zB,zC]
       refine tk2 26 ⟨some 59,_,35,_,_,some (23,true)⟩ ?_
       try simp only[Act.put,zA,zB,zC]
       refine rd2 27 ⟨some 60,_,35,_,_,some (23,true)⟩ fun K hK=>?_
       go_simp
       (go_at_call 18;refine (HNg.out _).mono ?_;rintro e w8 ⟨rfl,k8⟩;have hin8:=hin7.trans k8;rw[HNX.out])
       refine hK.out _ _ ?_ (fun hHeld=>?_)
       ·exact Cell.out _ hin8
       clear hK K
       try simp only[Act.put,zA,zB,zC]
       refine tk2 28 ⟨some 61,_,4,_,_,some (23,true)⟩ ?_;refine tk2 29 ⟨some 62,_,4,_,_,none⟩ ?_
       try simp only[Act.put,zA,zB,zC]
       refine rd3 30 ⟨some 4,_,4,_,_,none⟩ fun K hK=>?_
       go_simp
       refine hK.out _ _ ?_;clear hK K
       try simp only[Act.put,zA,zB,zC]
       refine Zas (by kernel_rfl) ?_ _;have HE:=zH (HE0.out.trans (hin8.low.mono hlf))
       go_wp2_with fail
       go_ret;exact⟨Zac (by rw[<-HDef.out,Zg1];rfl),HE.out⟩
theorem Zew {w:World} {x y u:Value} {g:G} {ws:List R} {ex:R} (res:Bool) (hres:Le.proved g ws ex=res) (h:GmX w x y g) (hW:Za8 w u ws) (hf:GmOk g) (hfw:ws.length≤1048576) :
  Calls Tryz.prog 23 #[.agg #[x,y],u,.agg #[.int .i64 ex.1,.int .i64 ex.2]] w fun e w'=>e=.returned (.bool res)/\Below w.heap.size w w':=by
 obtain⟨ex1,ex2⟩:=ex;dsimp only;obtain⟨W0,hW0⟩:∃W0,W0=w.alloc (.cells #[x,y] 33):=⟨_,rfl⟩;obtain⟨W1,hW1⟩:∃W1,W1=W0.alloc (.cells #[.int .i64 ex1,.int .i64 ex2] 35):=⟨_,rfl⟩;have hs0:W0.heap.size=w.heap.size+1:=by rw[hW0];exact Zar _ _
 have hb0:Below w.heap.size w W0:=by rw[hW0];exact (Below.refl _ _).alloc (Nat.le_refl _) _
 have hb1:Below W0.heap.size W0 W1:=by rw[hW1];exact (Below.refl _ _).alloc (Nat.le_refl _) _
 have hb:Below w.heap.size w W1:=hb0.trans (hb1.mono (by omega));have hbox0:Zaa W1 w.heap.size #[x,y] 33:=by
  have h0:Zaa W0 w.heap.size #[x,y] 33:=by rw[hW0];exact Zaa.new _ _ _
  exact h0.below hb1
 have hbox1:Zaa W1 (w.heap.size+1) #[.int .i64 ex1,.int .i64 ex2] 35:=by rw[<-hs0,hW1];exact Zaa.new _ _ _
 have hgm:GmX W1 x y g:=h.up hb;have HF:=zH hf;have HGM:=zH hgm;have HB0:=zH hbox0;have HB1:=zH hbox1;have HB:=zH hb;have HWt:=zH (hW.up hb);have HW:Hid ((w.alloc (.cells #[x,y] 33)).alloc (.cells #[.int .i64 ex1,.int .i64 ex2] 35)=W1):=by show _=_;rw[hW1,hW0]
 obtain⟨aw,cw,ew,_⟩:=hW;subst ew;obtain⟨⟨ag,cg,rfl,rfl,_⟩,_⟩:=h;have hsz1:w.heap.size+2≤W1.heap.size:=by rw[hW1,Zar];omega
 obtain⟨KC,hKC⟩:∃k,Le.can g=k:=⟨_,rfl⟩;obtain⟨PL,hPL⟩:∃p,Le.least g=p:=⟨_,rfl⟩;obtain⟨KF,hKF⟩:∃k,Lp.feas PL ws=k:=⟨_,rfl⟩;obtain⟨KD,hKD⟩:∃k,Ve.dotK PL.C ws=k:=⟨_,rfl⟩;obtain⟨D,hD⟩:∃k,Ve.dotR PL.C ws=k:=⟨_,rfl⟩;obtain⟨NX,hNX⟩:∃k,Ta.negR (ex1,ex2)=k:=⟨_,rfl⟩;have HDef:Hid ((KC && (KF && (KD && decide (D=NX))))=res):=by
  show _=_;rw[<-hres];unfold Le.proved;rw[hKC,hPL,hKF,hKD,hD,hNX]
 have HLc:Hid (Calls Tryz.prog 42 #[.agg #[.int .i64 g.n,.slice ag g.v.length cg]] W1 (Zcj PL KC W1)):=by
  have h9:=Zhu HGM.out HF.out;rw[hKC,hPL] at h9;exact h9
 have HPs:Hid (Zct PL):=by rw[<-hPL];exact Zl8 (Zcn g)
 have hCs:PL.C.length≤1048576:=by
  have:=Zcn g;rw[hPL] at this;unfold lpN at this;omega
 have HNg:=zH (fun W'=>Zl2 (ex1,ex2) W');have HNX:=zH hNX;have HKF:=zH hKF;have HKD:=zH (And.intro hKD hD);clear hf hgm hbox0 hbox1 hb0 hb1 hb hs0 hW1 hW0 hres hKC hPL hKF hKD hD hNX;have he:=Zcu;have eg:=Zb5;obtain⟨b0,b1⟩:=two HB0.out;obtain⟨q0,q1⟩:=two HB1.out
 go_enter Tryz.func23,Tryz.ntmps23
 go_upto_region 1 with fail
 rw[HW.out]
 go_wp2_with fail
 refine HLc.out.mono ?_;rintro e w2 ⟨vA,vB,vC,rfl,hab,hc,k2⟩;obtain⟨aA,aB,aC,cA,cB,cC,rfl,rfl,rfl,hlp⟩:=Zom hab hc;have hm:=(Below.refl w2.heap.size w2).alloc (Nat.le_refl _) (.cells #[.slice aA PL.A.length cA,.slice aB PL.B.length cB,.slice aC PL.C.length cC] 47);have HS2:Hid (Since W1 (w2.alloc (.cells #[.slice aA PL.A.length cA,.slice aB PL.B.length cB,.slice aC PL.C.length cC] 47))):=((Since.refl W1).trans k2).alloc _;have HLq:=zH (hlp.below hm);have HX2:=zH (Tri.new w2 (.slice aA PL.A.length cA) (.slice aB PL.B.length cB) (.slice aC PL.C.length cC) 47);have HQs:Hid (w2.heap.size<(w2.alloc (.cells #[.slice aA PL.A.length cA,.slice aB PL.B.length cB,.slice aC PL.C.length cC] 47)).heap.size):=by show _<_;rw[Zar];omega
 clear hab hc k2 hlp hm b0 b1 q0 q1
 go_upto_region 2 with fail
 generalize hq5:w2.heap.size=p5 at *;generalize w2.alloc (.cells #[.slice aA PL.A.length cA,.slice aB PL.B.length cB,.slice aC PL.C.length cC] 47)=w3 at *;clear hq5;have HB2:=zH (HB0.out.below HS2.out.low);have HB3:=zH (HB1.out.below HS2.out.low);obtain⟨l0,l1,l2,_⟩:=HX2.out.cells;have hC5:Zah w3.heap.size w3 aC PL.C:=HLq.out.mC.mono (Nat.le_of_lt HQs.out);obtain⟨a',c',e',hr⟩:=HWt.out.up HS2.out.low;injection e' with e1 e2 e3
 subst e1 e3;have hDt:=Zfi w3.heap.size aC aw cC cw PL.C ws hCs hfw w3 (Nat.le_refl _) hC5 hr;rw[HKD.out.1,HKD.out.2] at hDt;have HDt:=zH hDt;clear hDt hC5 hr e2
 go_wp2_with fail
 refine HDt.out.mono ?_;rintro e w6 ⟨rfl,k6⟩;have HS6:Hid (Since w3 (w6.alloc (.cells #[.int .i64 D.1,.int .i64 D.2] 35))):=((Since.refl w3).trans k6).alloc _;have HX6:=zH (Zaj.new w6 D).four;have HQ6:Hid (w6.heap.size<(w6.alloc (.cells #[.int .i64 D.1,.int .i64 D.2] 35)).heap.size):=by show _<_;rw[Zar];omega
 have HB5:=zH (HB3.out.below (k6.alloc k6.size (.cells #[.int .i64 D.1,.int .i64 D.2] 35)));clear k6 l0 l1 l2 HDt
 go_upto_region 3 with fail
 generalize hqA:w6.heap.size=pA at *;generalize w6.alloc (.cells #[.int .i64 D.1,.int .i64 D.2] 35)=wf at *;clear hqA;have HX7:=zH (HX2.out.below HS6.out.low);have HSf:Hid (Since W1 wf):=joinL HS2.out HS6.out;have HFe:Hid (∀W',Since wf W'->Calls Tryz.prog 44 #[.agg #[.slice aA PL.A.length cA,.slice aB PL.B.length cB,.slice aC PL.C.length cC],.slice aw ws.length cw] W' fun e w'=>e=.returned (.bool KF)/\Below W'.heap.size W' w'):=fun W' hs=>by
  have h3:Below w3.heap.size w3 W':=(joinL HS6.out hs).low;obtain⟨a',c',e',hr⟩:=HWt.out.up (joinL HSf.out hs).low;injection e' with e1 _ e3
  subst e1 e3;exact Zfk W'.heap.size aA aB aC aw cA cB cC cw PL ws HPs.out hfw KF HKF.out W' (Nat.le_refl _) ((HLq.out.below (h3.mono (Nat.le_of_lt HQs.out))).mono (by have:=h3.size;have:=HQs.out;omega)) hr
 have HE0:Hid (Below w.heap.size w wf):=HB.out.trans (HSf.out.low.mono (by omega));have hlf:w.heap.size≤wf.heap.size:=HE0.out.size;have Cell:Hid (∀w',Since wf w'->w'.cell? ⟨w.heap.size+1,0,none⟩=some (.int .i64 ex1)/\w'.cell? ⟨w.heap.size+1,1,none⟩=some (.int .i64 ex2)/\w'.cell? ⟨p5,0,none⟩=some (.slice aA PL.A.length cA)/\w'.cell? ⟨p5,1,none⟩=some (.slice aB PL.B.length cB)/\w'.cell? ⟨p5,2,none⟩=some (.slice aC PL.C.length cC)/\w'.cell? ⟨pA,0,none⟩=some (.int .i64 D.1)/\w'.cell? ⟨pA,1,none⟩=some (.int .i64 D.2)/\Since wf w'):=fun w' h=>
  ⟨h.cell (p:=⟨w.heap.size+1,0,none⟩) (Zag HB5.out) (two HB5.out).1,h.cell (p:=⟨w.heap.size+1,1,none⟩) (Zag HB5.out) (two HB5.out).2,
   h.cell (p:=⟨p5,0,none⟩) (Zag HX7.out) HX7.out.cells.1,h.cell (p:=⟨p5,1,none⟩) (Zag HX7.out) HX7.out.cells.2.1,h.cell (p:=⟨p5,2,none⟩) (Zag HX7.out) HX7.out.cells.2.2.1,
   h.cell (p:=⟨pA,0,none⟩) HQ6.out HX6.out.1,h.cell (p:=⟨pA,1,none⟩) HQ6.out HX6.out.2.1,h⟩
 have hin:=(Since.refl wf).drew;clear HB0 HB1 HB2 HB3 HB5 HX2 HX6 HX7 HLc HQ6 HQs HS2 HS6 HLq HGM HWt HF HB HW HPs hCs HKF HKD hsz1 HSf hfw;cases KC with
 | false=>
  have Hr:Hid (false=res):=by show _=_;rw[<-HDef.out];rfl
  obtain⟨c0,c1,c2,c3,c4,c5,c6,c7⟩:=Cell.out _ (Since.refl wf);clear HFe HNg HNX Cell hin
  go_quiet (fail)
  have HE:=zH (below_drewN HE0.out nq)
  go_wp2_with fail
  go_ret;exact⟨Zac Hr.out,HE.out⟩
 | true=>
  cases KF with
  | false=>
   have Hr:Hid (false=res):=by show _=_;rw[<-HDef.out];rfl
   refine Zai (S:=(fun w'=>w'.cell? ⟨w.heap.size+1,0,none⟩=some (.int .i64 ex1)/\w'.cell? ⟨w.heap.size+1,1,none⟩=some (.int .i64 ex2)/\w'.cell? ⟨p5,0,none⟩=some (.slice aA PL.A.length cA)/\w'.cell? ⟨p5,1,none⟩=some (.slice aB PL.B.length cB)/\w'.cell? ⟨p5,2,none⟩=some (.slice aC PL.C.length cC)/\w'.cell? ⟨pA,0,none⟩=some (.int .i64 D.1)/\w'.cell? ⟨pA,1,none⟩=some (.int .i64 D.2)/\Since wf w')) 15 (by kernel_rfl) ?_ (fun hHeld=>?_)
   ·exact Cell.out _ hin
   refine tk2 0 ⟨some 23,_,4,_,_,none⟩ ?_;refine tk2 1 ⟨some 24,_,4,_,_,none⟩ ?_
   try simp only[Act.put,zA,zB,zC]
   refine tk2 2 ⟨some 25,_,47,_,_,some (1,true)⟩ ?_
   try simp only[Act.put,zA,zB,zC]
   refine tk2 3 ⟨some 26,_,36,_,_,some (1,true)⟩ ?_
   try simp only[Act.put,zA,zB,zC]
   refine rd2 4 ⟨some 27,_,4,_,_,some (1,true)⟩ fun K hK=>?_
   go_simp
   (go_at_call 44;refine (HFe.out _ hin).mono ?_;rintro e w7 ⟨rfl,k7⟩;have hin7:=hin.trans k7)
   refine hK.out _ _ ?_ (fun hHeld=>?_)
   ·exact Cell.out _ hin7
   clear hK K;refine tk2 5 ⟨some 28,_,4,_,_,none⟩ ?_;refine tk2 6 ⟨some 29,_,4,_,_,none⟩ ?_
   try simp only[Act.put,zA,zB,zC]
   refine tkTu (i:=7) (oi:=⟨some 30,.move (.tmp 10),4,"l13_least.go:64",#[⟨6,.guard⟩],some (6,true)⟩) rfl (by assumption) ?_
   refine tk2 8 ⟨some 31,_,4,_,_,none⟩ ?_;refine tk2 9 ⟨some 32,_,4,_,_,none⟩ ?_
   try simp only[Act.put,zA,zB,zC]
   refine tkTu (i:=10) (oi:=⟨some 33,.load 35 (.tmp 9),35,"l13_least.go:64",#[⟨9,.guard⟩],some (9,true)⟩) rfl (by assumption) ?_
   try simp only[Act.put,zA,zB,zC]
   refine tkTu (i:=11) (oi:=⟨some 34,.load 35 (.tmp 5),35,"l13_least.go:64",#[⟨9,.guard⟩],some (9,true)⟩) rfl (by assumption) ?_
   try simp only[Act.put,zA,zB,zC]
   refine tkTu (i:=12) (oi:=⟨some 35,.call { callee:=.value (.func 45),args:=#[.tmp 34],argTypes:=#[35] },35,"l13_least.go:64",#[⟨11,.data⟩,⟨9,.chain⟩,⟨9,.guard⟩],some (9,true)⟩) rfl (by assumption) ?_
   try simp only[Act.put,zA,zB,zC]
   refine tkTu (i:=13) (oi:=⟨some 36,.binOp .eql 35 (.tmp 33) (.tmp 35) 35,4,"l13_least.go:64",#[⟨10,.data⟩,⟨12,.data⟩,⟨9,.guard⟩],some (9,true)⟩) rfl (by assumption) ?_
   refine tk2 14 ⟨some 37,_,4,_,_,none⟩ ?_
   try simp only[Act.put,zA,zB,zC]
   refine rd3 15 ⟨some 6,_,4,_,_,none⟩ fun K hK=>?_
   go_simp
   refine hK.out _ _ ?_;clear hK K
   try simp only[Act.put,zA,zB,zC]
   refine Zas (by kernel_rfl) ?_ _;have HE:=zH (HE0.out.trans (hin7.low.mono hlf))
   go_wp2_with fail
   go_ret;exact⟨Zac Hr.out,HE.out⟩
  | true=>
   cases KD with
   | false=>
    have Hr:Hid (false=res):=by show _=_;rw[<-HDef.out];rfl
    refine Zai (S:=(fun w'=>w'.cell? ⟨w.heap.size+1,0,none⟩=some (.int .i64 ex1)/\w'.cell? ⟨w.heap.size+1,1,none⟩=some (.int .i64 ex2)/\w'.cell? ⟨p5,0,none⟩=some (.slice aA PL.A.length cA)/\w'.cell? ⟨p5,1,none⟩=some (.slice aB PL.B.length cB)/\w'.cell? ⟨p5,2,none⟩=some (.slice aC PL.C.length cC)/\w'.cell? ⟨pA,0,none⟩=some (.int .i64 D.1)/\w'.cell? ⟨pA,1,none⟩=some (.int .i64 D.2)/\Since wf w')) 15 (by kernel_rfl) ?_ (fun hHeld=>?_)
    ·exact Cell.out _ hin
    refine tk2 0 ⟨some 23,_,4,_,_,none⟩ ?_;refine tk2 1 ⟨some 24,_,4,_,_,none⟩ ?_
    try simp only[Act.put,zA,zB,zC]
    refine tk2 2 ⟨some 25,_,47,_,_,some (1,true)⟩ ?_
    try simp only[Act.put,zA,zB,zC]
    refine tk2 3 ⟨some 26,_,36,_,_,some (1,true)⟩ ?_
    try simp only[Act.put,zA,zB,zC]
    refine rd2 4 ⟨some 27,_,4,_,_,some (1,true)⟩ fun K hK=>?_
    go_simp
    (go_at_call 44;refine (HFe.out _ hin).mono ?_;rintro e w7 ⟨rfl,k7⟩;have hin7:=hin.trans k7)
    refine hK.out _ _ ?_ (fun hHeld=>?_)
    ·exact Cell.out _ hin7
    clear hK K;refine tk2 5 ⟨some 28,_,4,_,_,none⟩ ?_;refine tk2 6 ⟨some 29,_,4,_,_,none⟩ ?_
    try simp only[Act.put,zA,zB,zC]
    refine tk2 7 ⟨some 30,_,4,_,_,some (6,true)⟩ ?_;refine tk2 8 ⟨some 31,_,4,_,_,none⟩ ?_;refine tk2 9 ⟨some 32,_,4,_,_,none⟩ ?_
    try simp only[Act.put,zA,zB,zC]
    refine tkTu (i:=10) (oi:=⟨some 33,.load 35 (.tmp 9),35,"l13_least.go:64",#[⟨9,.guard⟩],some (9,true)⟩) rfl (by assumption) ?_
    try simp only[Act.put,zA,zB,zC]
    refine tkTu (i:=11) (oi:=⟨some 34,.load 35 (.tmp 5),35,"l13_least.go:64",#[⟨9,.guard⟩],some (9,true)⟩) rfl (by assumption) ?_
    try simp only[Act.put,zA,zB,zC]
    refine tkTu (i:=12) (oi:=⟨some 35,.call { callee:=.value (.func 45),args:=#[.tmp 34],argTypes:=#[35] },35,"l13_least.go:64",#[⟨11,.data⟩,⟨9,.chain⟩,⟨9,.guard⟩],some (9,true)⟩) rfl (by assumption) ?_
    try simp only[Act.put,zA,zB,zC]
    refine tkTu (i:=13) (oi:=⟨some 36,.binOp .eql 35 (.tmp 33) (.tmp 35) 35,4,"l13_least.go:64",#[⟨10,.data⟩,⟨12,.data⟩,⟨9,.guard⟩],some (9,true)⟩) rfl (by assumption) ?_
    refine tk2 14 ⟨some 37,_,4,_,_,none⟩ ?_
    try simp only[Act.put,zA,zB,zC]
    refine rd3 15 ⟨some 6,_,4,_,_,none⟩ fun K hK=>?_
    go_simp
    refine hK.out _ _ ?_;clear hK K
    try simp only[Act.put,zA,zB,zC]
    refine Zas (by kernel_rfl) ?_ _;have HE:=zH (HE0.out.trans (hin7.low.mono hlf))
    go_wp2_with fail
    go_ret;exact⟨Zac Hr.out,HE.out⟩
   | true=>
    refine Zai (S:=(fun w'=>w'.cell? ⟨w.heap.size+1,0,none⟩=some (.int .i64 ex1)/\w'.cell? ⟨w.heap.size+1,1,none⟩=some (.int .i64 ex2)/\w'.cell? ⟨p5,0,none⟩=some (.slice aA PL.A.length cA)/\w'.cell? ⟨p5,1,none⟩=some (.slice aB PL.B.length cB)/\w'.cell? ⟨p5,2,none⟩=some (.slice aC PL.C.length cC)/\w'.cell? ⟨pA,0,none⟩=some (.int .i64 D.1)/\w'.cell? ⟨pA,1,none⟩=some (.int .i64 D.2)/\Since wf w')) 15 (by kernel_rfl) ?_ (fun hHeld=>?_)
    ·exact Cell.out _ hin
    refine tk2 0 ⟨some 23,_,4,_,_,none⟩ ?_;refine tk2 1 ⟨some 24,_,4,_,_,none⟩ ?_
    try simp only[Act.put,zA,zB,zC]
    refine tk2 2 ⟨some 25,_,47,_,_,some (1,true)⟩ ?_
    try simp only[Act.put,zA,zB,zC]
    refine tk2 3 ⟨some 26,_,36,_,_,some (1,true)⟩ ?_
    try simp only[Act.put,zA,zB,zC]
    refine rd2 4 ⟨some 27,_,4,_,_,some (1,true)⟩ fun K hK=>?_
    go_simp
    (go_at_call 44;refine (HFe.out _ hin).mono ?_;rintro e w7 ⟨rfl,k7⟩;have hin7:=hin.trans k7)
    refine hK.out _ _ ?_ (fun hHeld=>?_)
    ·exact Cell.out _ hin7
    clear hK K;refine tk2 5 ⟨some 28,_,4,_,_,none⟩ ?_;refine tk2 6 ⟨some 29,_,4,_,_,none⟩ ?_
    try simp only[Act.put,zA,zB,zC]
    refine tk2 7 ⟨some 30,_,4,_,_,some (6,true)⟩ ?_;refine tk2 8 ⟨some 31,_,4,_,_,none⟩ ?_;refine tk2 9 ⟨some 32,_,4,_,_,none⟩ ?_
    try simp only[Act.put,zA,zB,zC]
    refine tk2 10 ⟨some 33,_,35,_,_,some (9,true)⟩ ?_
    try simp only[Act.put,zA,zB,zC]
    refine tk2 11 ⟨some 34,_,35,_,_,some (9,true)⟩ ?_
    try simp only[Act.put,zA,zB,zC]
    refine rd2 12 ⟨some 35,_,35,_,_,some (9,true)⟩ fun K hK=>?_
    go_simp
    (go_at_call 45;refine (HNg.out _).mono ?_;rintro e w8 ⟨rfl,k8⟩;have hin8:=hin7.trans k8;rw[HNX.out])
    refine hK.out _ _ ?_ (fun hHeld=>?_)
    ·exact Cell.out _ hin8
    clear hK K
    try simp only[Act.put,zA,zB,zC]
    refine tk2 13 ⟨some 36,_,4,_,_,some (9,true)⟩ ?_;refine tk2 14 ⟨some 37,_,4,_,_,none⟩ ?_
    try simp only[Act.put,zA,zB,zC]
    refine rd3 15 ⟨some 6,_,4,_,_,none⟩ fun K hK=>?_
    go_simp
    refine hK.out _ _ ?_;clear hK K
    try simp only[Act.put,zA,zB,zC]
    refine Zas (by kernel_rfl) ?_ _;have HE:=zH (HE0.out.trans (hin8.low.mono hlf))
    go_wp2_with fail
    go_ret;exact⟨Zac (by rw[<-HDef.out,Zg1];rfl),HE.out⟩
theorem Zdj {w:World} {x y u0 u1 u2 u3 u4:Value} {g:G} {r:Lst} (res:Bool) (hres:Le.chkL g r=res) (h:GmX w x y g) (hc:LstC w u0 u1 u2 u3 u4 r) (hf:GmOk g) (hfr:Zdp r) :
  Calls Tryz.prog 9 #[.agg #[x,y],.agg #[u0,u1,u2,u3,u4]] w fun e w'=>e=.returned (.bool res)/\Below w.heap.size w w':=by
 obtain⟨rfl,rfl,rfl,hP,hW⟩:=hc;obtain⟨rk,⟨ex1,ex2⟩,rp,rw_⟩:=r;dsimp only at hP hW ⊢;have hfp:=hfr.p;have hfw:=hfr.w;dsimp only at hfp hfw;obtain⟨W0,hW0⟩:∃W0,W0=w.alloc (.cells #[x,y] 33):=⟨_,rfl⟩;obtain⟨W1,hW1⟩:∃W1,W1=W0.alloc (.cells #[.bool rk,.int .i64 ex1,.int .i64 ex2,u3,u4] 38):=⟨_,rfl⟩;have hs0:W0.heap.size=w.heap.size+1:=by rw[hW0];exact Zar _ _
 have hb0:Below w.heap.size w W0:=by rw[hW0];exact (Below.refl _ _).alloc (Nat.le_refl _) _
 have hb1:Below W0.heap.size W0 W1:=by rw[hW1];exact (Below.refl _ _).alloc (Nat.le_refl _) _
 have hb:Below w.heap.size w W1:=hb0.trans (hb1.mono (by omega));have hbox0:Zaa W1 w.heap.size #[x,y] 33:=by
  have h0:Zaa W0 w.heap.size #[x,y] 33:=by rw[hW0];exact Zaa.new _ _ _
  exact h0.below hb1
 have hbox1:Zaa W1 (w.heap.size+1) #[.bool rk,.int .i64 ex1,.int .i64 ex2,u3,u4] 38:=by rw[<-hs0,hW1];exact Zaa.new _ _ _
 have HF:=zH hf;have HGM:=zH (h.up hb);have HB0:=zH hbox0;have HB1:=zH hbox1;have HB:=zH hb;have HP:=zH (hP.up hb);have HWt:=zH (hW.up hb);have HW:Hid ((w.alloc (.cells #[x,y] 33)).alloc (.cells #[.bool rk,.int .i64 ex1,.int .i64 ex2,u3,u4] 38)=W1):=by show _=_;rw[hW1,hW0]
 obtain⟨ap,cp,ep,_⟩:=hP;obtain⟨aw,cw,ew,_⟩:=hW;subst ep ew;obtain⟨⟨ag,cg,rfl,rfl,_⟩,_⟩:=h;have hsz1:w.heap.size+2≤W1.heap.size:=by rw[hW1,Zar];omega
 obtain⟨KS,hKS⟩:∃k,Py.some_ g rp=k:=⟨_,rfl⟩;obtain⟨WR,hWR⟩:∃p,Py.worst g rp=p:=⟨_,rfl⟩;obtain⟨WL,hWL⟩:∃p,Py.Zd5 g rp=p:=⟨_,rfl⟩;obtain⟨KP,hKP⟩:∃k,Le.proved g rw_ (ex1,ex2)=k:=⟨_,rfl⟩;obtain⟨KE,hKE⟩:∃k,(WR.1 == ex1 && WR.2 == ex2)=k:=⟨_,rfl⟩;have HDef:Hid ((rk && (KS && (KE && KP)))=res):=by
  show _=_;rw[<-hres];unfold Le.chkL;dsimp only;rw[hKS,hWR,hKP,<-hKE,show decide (WR=(ex1,ex2))=(WR.1 == ex1 && WR.2 == ex2) from (Zg1 (a:=WR) (b:=(ex1,ex2))).symm]
 have HWo:Hid (Calls Tryz.prog 22 #[.agg #[.int .i64 g.n,.slice ag g.v.length cg],.slice ap rp.length cp] W1 (Zds WR WL KS W1)):=by
  have h9:=Zev HGM.out.1 HP.out HF.out hfp;rw[hWR,hWL,hKS] at h9;exact h9
 have HPr:Hid (∀W',Since W1 W'->Calls Tryz.prog 23 #[.agg #[.int .i64 g.n,.slice ag g.v.length cg],.slice aw rw_.length cw,.agg #[.int .i64 ex1,.int .i64 ex2]] W' fun e w'=>e=.returned (.bool KP)/\Below W'.heap.size W' w'):=fun W' hs=>Zew (ex:=(ex1,ex2)) KP hKP (HGM.out.up hs.low) (HWt.out.up hs.low) HF.out hfw
 have HKE:=zH hKE;clear hf hbox0 hbox1 hb0 hb1 hb hs0 hW1 hW0 hres hfr hKS hWR hWL hKP hKE;have he:=Zcu;have eg:=Zb5;obtain⟨b0,b1⟩:=two HB0.out;obtain⟨q0,q1,q2,q3,q4⟩:=five HB1.out
 go_enter Tryz.func9,Tryz.ntmps9
 go_upto_region 1 with fail
 rw[HW.out]
 go_wp2_with fail
 refine HWo.out.mono ?_;rintro e w4 ⟨vW,rfl,hwl,k4⟩;obtain⟨al,cl,hsl⟩:=Zak hwl;subst hsl;have HS4:Hid (Since W1 (w4.alloc (.cells #[.int .i64 WR.1,.int .i64 WR.2] 35))):=((Since.refl W1).trans k4).alloc _;have HX4:=zH (Zaj.new w4 WR).four;clear hwl k4 b0 b1 q0 q1 q2 q3 q4 HWo
 go_upto_region 2 with fail
 generalize w4.heap.size=p7 at *;generalize w4.alloc (.cells #[.int .i64 WR.1,.int .i64 WR.2] 35)=w5 at *;have HB2:=zH (HB0.out.below HS4.out.low);have HB4:=zH (HB1.out.below HS4.out.low);obtain⟨b0,b1⟩:=two HB2.out;obtain⟨q0,q1,q2,q3,q4⟩:=five HB4.out;obtain⟨x0,x1,_,_⟩:=HX4.out;have hke:=HKE.out;have HE0:Hid (Below w.heap.size w w5):=HB.out.trans (HS4.out.low.mono (by omega));have hlf:w.heap.size≤w5.heap.size:=HE0.out.size;clear HB0 HB1 HB2 HB4 HX4 HGM HP HWt;cases rk with
 | false=>
  have Hr:Hid (false=res):=by show _=_;rw[<-HDef.out];rfl
  go_wp2_with fail
  go_ret;exact⟨Zac Hr.out,HE0.out⟩
 | true=>
  cases KS with
  | false=>
   have Hr:Hid (false=res):=by show _=_;rw[<-HDef.out];rfl
   go_wp2_with fail
   go_ret;exact⟨Zac Hr.out,HE0.out⟩
  | true=>
   cases KE with
   | false=>
    have Hr:Hid (false=res):=by show _=_;rw[<-HDef.out];rfl
    go_wp2_with fail
    go_ret;exact⟨Zac Hr.out,HE0.out⟩
   | true=>
    have Hr:Hid (KP=res):=by show _=_;rw[<-HDef.out];rfl
    go_wp2_with fail
    refine (HPr.out _ HS4.out).mono ?_;rintro e w8 ⟨rfl,k8⟩;have HE:=zH (HE0.out.trans (k8.mono hlf));clear b0 b1 q0 q1 q2 q3 q4 x0 x1 k8
    go_wp2_with fail
    go_ret;exact⟨Zac Hr.out,HE.out⟩
end Go.Proofs.YtpjnjidbdpfdcaaGreat
