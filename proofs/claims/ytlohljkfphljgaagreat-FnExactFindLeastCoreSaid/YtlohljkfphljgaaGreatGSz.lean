/- The parts SyG, SyM, SyH, SyI, SyJ. -/
import Derived.Test.YtlohljkfphljgaaGreatSyF
import Derived.Test.YtlohljkfphljgaaGreatGSy
import Derived.Test.YtlohljkfphljgaaGreatGSx
import Derived.Test.YtlohljkfphljgaaGreatGMt
import Derived.Test.YtlohljkfphljgaaGreatHLeR
import Derived.Test.YtlohljkfphljgaaGreatSxG
import Derived.Test.YtlohljkfphljgaaGreatGSt
import Derived.Test.YtlohljkfphljgaaGreatGLj
set_option maxRecDepth 100000
set_option maxHeartbeats 8000000
namespace Go.Proofs.YtlohljkfphljgaaGreat
open Go.RowKit
open Ve (R)
open Ta (T)
open Lp (P Res)
def Z12 (q:Nat) (p:P) (o:Option (T×Nat)) (w:World) (e:Ending) (w':World):Prop:=
 ∃b:Bool,e=.returned (.bool b)/\Only q w w'/\(b=false->o=none)/\(b=true->∃s,o=some s/\Sk q w' p s.1 s.2)
theorem Zm2 (l:List R):∀k,-1≤Ta.fstN l k/\Ta.fstN l k<k
 | 0=>⟨by show (-1:Int)≤-1;omega,by show (-1:Int)<0;omega⟩
 | k+1=>by
  have h:=Zm2 l k;unfold Ta.fstN
  split
  ·omega
  ·split<;>omega
theorem Zgb {q:Nat} {w:World} {p:P} {t:T} {n:Nat} (h:Sk q w p t n) (hv:Lp.vldP p=true) (hS:Ta.Same p (t,n)) :
  Calls Tryz.prog 133 #[.pointer (some ⟨q,0,none⟩)] w (Z12 q p (Ta.drive (t,n) p.A.length) w):=by
 obtain⟨RR,hRR⟩:∃RR,Ta.drive (t,n) p.A.length=RR:=⟨_,rfl⟩;rw[hRR];have H:=zH h;have HS:=zH hS;have HR:=zH hRR;have HV:=zH hv;obtain⟨AL,hAL⟩:∃AL,p.A.length=AL:=⟨_,rfl⟩;have HAL:=zH hAL;rw[hAL] at HR;have hq:=h.lt;have hA8:AL≤8:=by have:=(Lp.Zas hv).2.2.1;omega
 obtain⟨aA,aB,aC,a,b,cA,cB,cC,c1,c2,h1,_⟩:=h;have hRA0:t.rows.length=AL:=(hS.2.1).trans hAL;rw[hRA0] at h1;obtain⟨⟨_,_,_,d3⟩,_⟩:=sevC h1;clear hS hRR hv hAL h1 hRA0
 go_enter Tryz.func133,Tryz.ntmps133
 go_wp2_with fail
 clear d3
 go_loopw [11] (fun i wr=>∃(k:Nat) (t':T) (n':Nat),k≤AL/\i=.int .i64 k/\Hid (Ta.drive (t,n) k=some (t',n'))/\Hid (Sk q wr p t' n')/\Hid (Only q w wr)) (fun i _=>AL-(intOf i).toNat)
 case atStart=>exact⟨0,t,n,Nat.zero_le _,rfl,rfl,H,Only.refl q w⟩
 case round=>
  obtain⟨k,t',n',hk,rfl,hD,hW,hO⟩:=hrel;have hS':=zH (Ta.Zdy HS.out hD.out)
  by_cases hlt:k<AL
  ·obtain⟨hft,hr8,hc0,hc70,hn1⟩:=Zcs HV.out hS'.out
   obtain⟨g1,g2,g3,g4⟩:=hS'.out;simp only at g1 g2 g3;obtain⟨_,_,g5,g6⟩:=Ta.Za2 g1;obtain⟨aA,aB,aC,a,b,cA,cB,cC,c1,c2,h1,h2,h3,h4⟩:=hW.out;have hRA:t'.rows.length=AL:=g2.trans HAL.out;rw[hRA,g5.trans hRA] at h1;obtain⟨⟨d0,d1,d2,d3⟩,d4,d5,d6⟩:=sevC h1;obtain⟨bb,ob,rfl,hbb,e0⟩:=h3.1.mB k (by omega);obtain⟨bk,hbk⟩:∃bk,t'.basis.getD k 0=bk:=⟨_,rfl⟩;have HBK:=zH (show Ta.bas t' k=bk from hbk);rw[hbk] at e0;have HFE:=zH (fun (wd:World) (hb:Below wr.heap.size wr wd)=>Zi7 (hW.out.only hb) HV.out hS'.out k (by omega));have HFT:=zH hft;obtain⟨TN,hTN⟩:∃TN:Nat,t'.cols=TN:=⟨t'.cols.toNat,by omega⟩;have HTN:=zH hTN;rw[hTN] at d5 hc0 hc70;obtain⟨F,hF⟩:∃F,Ta.fstN (Ta.row t' k) t'.cols.toNat=F:=⟨_,rfl⟩;have HF:=zH hF;rw[hF] at HFE;have hFr:=Zm2 (Ta.row t' k) t'.cols.toNat;rw[hF,hTN,Int.toNat_natCast] at hFr;have hqr:=Zab h1;have Cell:=zH (fun w' (hs:Below wr.heap.size wr w')=>(show w'.cell? ⟨q,4,none⟩=some (.slice (some ⟨bb,ob,none⟩) AL c2)/\w'.cell? ⟨bb,ob+k,none⟩=some (.int .i64 bk)/\w'.cell? ⟨q,5,none⟩=some (.int .i64 TN) from ⟨(hs.cell (p:=⟨q,4,none⟩) hqr).trans d4,(hs.cell (p:=⟨bb,ob+k,none⟩) hbb).trans e0,(hs.cell (p:=⟨q,5,none⟩) hqr).trans d5⟩));clear h1 h2 h3 h4 g1 g2 g3 g4 g5 g6 hft hbk hTN hF
   go_upto_region 4 with fail
   go_region
   have Hd:=zH ((Below.refl wr.heap.size wr).drew);have HO2:=zH hO.out.drew;have HW2:=zH (hW.out.only Hd.out);have HFE2:=zH (HFE.out _ Hd.out);clear d0 d1 d2 d3 d4 d5 d6 e0 Cell HFE hbb
   by_cases hlc:bk<(TN:Int)
   ·have hd1:decide (bk<(TN:Int))=true:=decide_eq_true hlc
    have HN:=zH (Zmx hD.out HBK.out (by rw[HTN.out];exact hlc))
    go_wp2_with fail
    go_roundw
    case rel=>exact⟨k+1,_,_,by omega,by go_num,HN,HW2,HO2⟩
    case measure=>simp[intOf];omega
   ·have hd1:decide (bk<(TN:Int))=false:=decide_eq_false hlc
    have HNo:=zH (fun hf=>Zmy hD.out HBK.out (by rw[HTN.out];exact hlc) hf);have HSt:=zH (fun (j:Nat) hf=>Zmz (j:=j) hD.out HBK.out (by rw[HTN.out];exact hlc) hf);rw[HF.out] at HNo HSt
    go_wp2_with fail
    refine HFE2.out.mono ?_;rintro e w2 ⟨rfl,k2⟩;have HB3:=zH (Hd.out.trans (k2.mono Hd.out.size));have HO3:=zH (hO.out.trans (Zaz HB3.out (Nat.le_of_lt hqr)));have HW3:Hid (Sk q w2 p t' n'):=hW.out.only HB3.out;clear k2 HFE2 HW2 HO2
    by_cases hneg:F<0
    ·have hg:decide (F≥0)=false:=by rw[decide_eq_false_iff_not];omega
     have hg2:decide (0≤F)=false:=by rw[decide_eq_false_iff_not];omega
     have HN:=zH (HNo.out (by omega))
     go_wp2_with fail
     go_roundw
     case rel=>exact⟨k+1,_,_,by omega,by go_num,HN,HW3,HO3⟩
     case measure=>simp[intOf];omega
    ·have hg:decide (F≥0)=true:=by rw[decide_eq_true_iff];omega
     have hg2:decide (0≤F)=true:=by rw[decide_eq_true_iff];omega
     obtain⟨j,rfl⟩:∃j:Nat,F=j:=⟨F.toNat,by omega⟩;have HSt2:=zH (HSt.out j rfl);have HPV:=zH (Zld HW3.out HFT.out hn1 (k:Int) (j:Int) (Zot (by omega)) (Zot (by omega)))
     go_wp2_with fail
     refine HPV.out.mono ?_;rintro e w4 ⟨b4,rfl,ho4,hno,hyes,_⟩;have HO4:=zH (HO3.out.trans ho4);clear ho4 HPV;cases b4 with
     | false=>
      have HN:Hid (RR=none):=by show _=_;rw[<-HR.out];exact Ta.Zgi (HSt2.out.trans (hno rfl)) AL (by omega)
      clear hno hyes
      go_wp2_with fail
      go_ret;exact⟨false,rfl,HO4.out,fun _=>HN.out,fun h=>by cases h⟩
     | true=>
      obtain⟨⟨t4,n4⟩,hst,hsk⟩:=hyes rfl;have HN:=zH (HSt2.out.trans hst);have HG:=zH (show Sk q w4 p t4 n4 from hsk);clear hno hyes hst hsk
      go_wp2_with fail
      go_roundw
      case rel=>exact⟨k+1,t4,n4,by omega,by go_num,HN,HG,HO4⟩
      case measure=>simp[intOf];omega
  ·have HN:Hid (RR=some (t',n')):=by
    show _=_;obtain rfl:k=AL:=by omega
    rw[<-HR.out];exact hD.out
   go_wp2_with fail
   go_ret;exact⟨true,rfl,hO.out,(fun h=>by cases h),fun _=>⟨_,HN.out,hW.out⟩⟩
end Go.Proofs.YtlohljkfphljgaaGreat
namespace Go.Proofs.YtlohljkfphljgaaGreat.Ta
open Ve (R at_)
theorem Z2x {a:List R} {u:R} {b:List R} {j:Nat} (h:Ve.scK a u b=true) (hj:j<a.length):Ve.vld (at_ (Ve.scR a u b) j)=true:=by
 unfold Ve.scK at h;simp only[Bool.and_eq_true,decide_eq_true_eq] at h;unfold Ve.scR;rw[if_pos h.1,Ve.Zds h.2,Ve.upto_at _ _ _ hj];exact Ve.Zno (Ve.Zg4 h.2 j hj)
theorem Z0t {t:T} {cost:List R}:∀ {k:Nat},(cr t cost k).2=true->Ve.vld (at_ (cr t cost k).1 cost.length)=true
 | 0,_=>by
  have e:at_ (cr t cost 0).1 cost.length=(0,1):=by simp[cr,Ve.at_]
  rw[e]
  decide
 | k+1,h=>by
  by_cases hk:(cr t cost k).2=true
  ·rw[Zkw hk] at h ⊢
   exact Z2x h (by rw[Zkv hk];omega)
  ·have:=Zgg (k:=k) (by simpa using hk) (k+1) (by omega)
   rw[this] at h;cases h
theorem Zyg {t:T} {cost:List R} (h:Zco t cost=true):Ve.vld (Zcr (Zdm t cost))=true:=by
 have h2:(cr t cost t.rows.length).2=true:=by
  unfold Zco at h;simp only[Bool.and_eq_true] at h;exact h.2
 have e:Zcr (Zdm t cost)=at_ (cr t cost t.rows.length).1 cost.length:=by
  unfold Zcr Zdm;rw[if_pos h,Zkv h2];rfl
 rw[e];exact Z0t h2
theorem neg_pos {x:R} (h:Ve.vld x=true):0<(negR x).1↔sgn x<0:=by
 rw[(Zw3 h).2];obtain⟨_,_,h1,h2,_⟩:=Ra.Zch h;show 0<(-x.1+9223372036854775808) % 18446744073709551616-9223372036854775808↔_;omega
theorem Zxq (p:Lp.P):Lp.Za1 p.C.length++repR (1,1) p.A.length=Zgf p:=by
 unfold Zgf repR;rw[List.map_const',List.length_range]
theorem Zxs (p:Lp.P):p.C++repR (0,1) p.A.length=Zdq p:=by
 unfold Zdq;rw[Zqn]
end Go.Proofs.YtlohljkfphljgaaGreat.Ta
namespace Go.Proofs.YtlohljkfphljgaaGreat
open Go.RowKit
open Ve (R)
open Ta (T)
open Lp (P Res)
theorem Zbl.fill {w w':World} {r:Res} (hb:Below w.heap.size w w') {a b c:Option Addr} {c1 c2 c3:Nat} (hX:Zaa (w.heap.size+1) w' (.slice a r.X.length c1) r.X) (hY:Zaa (w.heap.size+1) w' (.slice b r.Y.length c2) r.Y) (hZ:Zaa (w.heap.size+1) w' (.slice c r.ray.length c3) r.ray)
  (hap:ApX (.slice a r.X.length c1) (.slice b r.Y.length c2) (.slice c r.ray.length c3)) (y0 y1 y2 y3 y4 y5 y6:Value) (v:Value) (hv:v=resV a b c c1 c2 c3 r):Zbl r w (.returned v) (Zcg w' w.heap.size y0 y1 y2 y3 y4 y5 y6):=
 ⟨⟨a,b,c,c1,c2,c3,by rw[hv],(Zbv hX (Nat.lt_succ_self _) _ _ _ _ _ _ _).lower (Nat.le_succ _),(Zbv hY (Nat.lt_succ_self _) _ _ _ _ _ _ _).lower (Nat.le_succ _),(Zbv hZ (Nat.lt_succ_self _) _ _ _ _ _ _ _).lower (Nat.le_succ _),hap⟩,Zbu hb (Nat.le_refl _) _ _ _ _ _ _ _⟩
theorem Z18 (x z:Nat) (v:Value):ApX (.slice none x 0) v (.slice none z 0):=⟨fun g h=>by simp[Value.ownBlock] at h,fun g _ h=>by simp[Value.ownBlock] at h⟩
theorem Z17 {n:Nat} {x z:Value} (h1:∀g,x.ownBlock=some g->g<n) (h2:∀g,z.ownBlock=some g->n≤g) (y:Nat):ApX x (.slice none y 0) z:=⟨fun g h=>⟨fun h'=>by simp[Value.ownBlock] at h',fun h'=>by have:=h1 g h;have:=h2 g h';omega⟩,fun g h=>by simp[Value.ownBlock] at h⟩
theorem Z19 {n:Nat} {x y:Value} (h1:∀g,y.ownBlock=some g->g<n) (h2:∀g,x.ownBlock=some g->n≤g) (z:Nat):ApX x y (.slice none z 0):=⟨fun g h=>⟨fun h'=>by have:=h1 g h';have:=h2 g h;omega,fun h'=>by simp[Value.ownBlock] at h'⟩,fun g _ h'=>by simp[Value.ownBlock] at h'⟩
theorem Zlb {q:Nat} {w:World} {p:P} {t:T} {n:Nat} (h:Sk q w p t n) (hv:Lp.vldP p=true) (hcols:t.cols=p.C.length) (ad:Option Addr) (cc:Nat) (cs:List R) (hcs:cs.length=p.C.length+p.A.length+1) (hk:Zah w.heap.size w ad cs) :
  Calls Tryz.prog 132 #[.pointer (some ⟨q,0,none⟩),.slice ad cs.length cc] w (Zbl ⟨2,[],Ta.Zc8 p cs 1,[],Ta.noR,n⟩ w):=by
 have hq:=h.lt;have hbel:=(Below.refl w.heap.size w).alloc (Nat.le_refl _) (.cells #[.int .i64 0,.slice none 0 0,.slice none 0 0,.slice none 0 0,.int .i64 0,.int .i64 0,.int .i64 0] 33);have HB0:=zH hbel;have HX0:=zH (Zac.new w #[.int .i64 0,.slice none 0 0,.slice none 0 0,.slice none 0 0,.int .i64 0,.int .i64 0,.int .i64 0] 33);have HZ1:=zH (Zar w (.cells #[.int .i64 0,.slice none 0 0,.slice none 0 0,.slice none 0 0,.int .i64 0,.int .i64 0,.int .i64 0] 33));have HD:=zH (Zm6 (h.only hbel) hv hcols ad cc cs hcs 1 ((hk.below hbel).mono hbel.size));have HW:=zH (h.only hbel);obtain⟨DR,hDR⟩:∃DR,Ta.Zc8 p cs 1=DR:=⟨_,rfl⟩;obtain⟨CL,hCL⟩:∃CL,cs.length=CL:=⟨_,rfl⟩;rw[hDR,hCL] at HD;rw[hDR,hCL];clear h hv hcols hcs hk hbel hDR hCL
 go_enter Tryz.func132,Tryz.ntmps132
 go_wp2_with fail
 refine HD.out.mono ?_;rintro e w2 ⟨v,rfl,ho,hb⟩;rw[HZ1.out] at ho;obtain⟨ay,cy,rfl⟩:=Zbb ho;obtain⟨_,_,_,_,_,_,_,_,_,_,k1,_⟩:=HW.out.only hb;obtain⟨_,_,_,d6⟩:=sevC k1;have HX2:=zH (HX0.out.below hb);have HB2:=zH (HB0.out.trans (hb.mono HB0.out.size));have HO:=zH ho;clear ho hb k1 HD;obtain⟨⟨b0,b1,b2,b3⟩,b4,b5,b6⟩:=sevC HX2.out;obtain⟨⟨e0,e1,e2,e3⟩,e4,e5,e6⟩:=sevF HX2.out
 go_wp2_with fail
 generalize hG:(World.setCell _ (⟨w.heap.size,6,none⟩:Addr) _)=WF;have hG2:Zcg w2 w.heap.size (.int .i64 2) (.slice none 0 0) (.slice ay DR.length cy) (.slice none 0 0) (.int .i64 0) (.int .i64 0) (.int .i64 n)=WF:=hG;have hF:=Zbf HX2.out (.int .i64 2) (.slice none 0 0) (.slice ay DR.length cy) (.slice none 0 0) (.int .i64 0) (.int .i64 0) (.int .i64 n);rw[hG2] at hF;obtain⟨⟨z0,z1,z2,z3⟩,z4,z5,z6⟩:=sevC hF;refine bodyPost_ret (v:=.agg #[.int .i64 2,.slice none 0 0,.slice ay DR.length cy,.slice none 0 0,.int .i64 0,.int .i64 0,.int .i64 n]) (by simp[results,Tryz.results132,go_sem,z0,z1,z2,z3,z4,z5,z6]) rfl ?_;rw[<-hG2];exact Zbl.fill (r:=⟨2,[],DR,[],Ta.noR,n⟩) (a:=none) (c:=none) (c1:=0) (c3:=0) HB2.out (World.ownsRow_nil _ _ _ _) HO.out (World.ownsRow_nil _ _ _ _) (Z18 0 0 _) _ _ _ _ _ _ _ _ rfl
theorem Zmg {q:Nat} {w:World} {p:P} {t:T} {n:Nat} (h:Sk q w p t n) (hv:Lp.vldP p=true) (hS:Ta.Same p (t,n)) (c:Nat) (hc:(c:Int)<t.cols) :
  Calls Tryz.prog 134 #[.pointer (some ⟨q,0,none⟩),.int .i64 c] w (Zbl ⟨3,Ta.xR t,[],Ta.Zdn t c p.A.length,Ta.noR,n⟩ w):=by
 have hq:=h.lt;have hbel:=(Below.refl w.heap.size w).alloc (Nat.le_refl _) (.cells #[.int .i64 0,.slice none 0 0,.slice none 0 0,.slice none 0 0,.int .i64 0,.int .i64 0,.int .i64 0] 33);have HB0:=zH hbel;have HX0:=zH (Zac.new w #[.int .i64 0,.slice none 0 0,.slice none 0 0,.slice none 0 0,.int .i64 0,.int .i64 0,.int .i64 0] 33);have HZ1:=zH (Zar w (.cells #[.int .i64 0,.slice none 0 0,.slice none 0 0,.slice none 0 0,.int .i64 0,.int .i64 0,.int .i64 0] 33));have HW:=zH (h.only hbel);have HSo:=zH (fun w' (hs:Since (w.alloc (.cells #[.int .i64 0,.slice none 0 0,.slice none 0 0,.slice none 0 0,.int .i64 0,.int .i64 0,.int .i64 0] 33)) w')=>Zig (HW.out.only hs.low) hv hS);have HRy:=zH (fun w' (hs:Since (w.alloc (.cells #[.int .i64 0,.slice none 0 0,.slice none 0 0,.slice none 0 0,.int .i64 0,.int .i64 0,.int .i64 0] 33)) w')=>Zx9 (HW.out.only hs.low) hv hS c hc);obtain⟨XR,hXR⟩:∃XR,Ta.xR t=XR:=⟨_,rfl⟩;obtain⟨RY,hRY⟩:∃RY,Ta.Zdn t c p.A.length=RY:=⟨_,rfl⟩;rw[hXR] at HSo;rw[hRY] at HRy;rw[hXR,hRY];obtain⟨_,_,_,_,_,_,_,_,_,_,k1,_⟩:=HW.out;obtain⟨_,_,_,d6⟩:=sevC k1;have hqr:=Zab k1;have hbr:=Zab HX0.out;obtain⟨⟨b0,b1,b2,b3⟩,b4,b5,b6⟩:=sevC HX0.out;obtain⟨⟨e0,e1,e2,e3⟩,e4,e5,e6⟩:=sevF HX0.out;have Cell:=zH (fun w' (hs:Since (w.alloc (.cells #[.int .i64 0,.slice none 0 0,.slice none 0 0,.slice none 0 0,.int .i64 0,.int .i64 0,.int .i64 0] 33)) w')=>(show w'.cell? ⟨q,6,none⟩=some (.int .i64 n)/\Since (w.alloc (.cells #[.int .i64 0,.slice none 0 0,.slice none 0 0,.slice none 0 0,.int .i64 0,.int .i64 0,.int .i64 0] 33)) w' from ⟨hs.cell hqr d6,hs⟩));have hs0:=(Since.refl (w.alloc (.cells #[.int .i64 0,.slice none 0 0,.slice none 0 0,.slice none 0 0,.int .i64 0,.int .i64 0,.int .i64 0] 33))).drew;clear h hv hS hc hbel hXR hRY k1 d6 b0 b1 b2 b3 b4 b5 b6 e0 e1 e2 e3 e4 e5 e6
 go_enter Tryz.func134,Tryz.ntmps134
 go_upto_region 1 with fail
 generalize (w.alloc (.cells #[.int .i64 0,.slice none 0 0,.slice none 0 0,.slice none 0 0,.int .i64 0,.int .i64 0,.int .i64 0] 33))=W0 at *;refine Zaf (S:=(fun w'=>w'.cell? ⟨q,6,none⟩=some (.int .i64 n)/\Since W0 w')) 10 (by kernel_rfl) ?_ (fun hHeld=>?_)
 ·exact Cell.out _ hs0
 refine tk2 0 ⟨some 5,_,156,_,_,none⟩ ?_;refine tk2 2 ⟨some 7,_,156,_,_,none⟩ ?_;refine tk2 3 ⟨some 8,_,3,_,_,none⟩ ?_;refine tk2 5 ⟨some 10,_,156,_,_,none⟩ ?_;refine tk2 6 ⟨some 11,_,0,_,_,none⟩ ?_;refine tk2 7 ⟨some 12,_,0,_,_,none⟩ ?_;refine tk2 8 ⟨some 13,_,3,_,_,none⟩ ?_
 try simp only[Act.put,zA,zB,zC]
 refine rd2 1 ⟨some 6,_,26,_,_,none⟩ fun K hK=>?_
 go_simp
 (refine (HSo.out _ hs0).mono ?_;rintro e w2 ⟨v,rfl,ho,k⟩;obtain⟨ax,cx,rfl⟩:=Zbb ho;have hs2:=hs0.trans k;have HO2:=zH (ho.lower (show w.heap.size+1≤_ by have:=hs0.low.size;have:=HZ1.out;omega));have hlt2:∀g,(Value.slice ax XR.length cx).ownBlock=some g->g<w2.heap.size:=fun g hg=>(World.ownsRow.lt ho g hg).2;have Hlt2:=zH hlt2;clear ho k hlt2)
 refine hK.out _ _ ?_ (fun hHeld=>?_)
 ·exact Cell.out _ hs2
 clear hK K
 try simp only[Act.put,zA,zB,zC]
 refine rd2 4 ⟨some 9,_,26,_,_,none⟩ fun K hK=>?_
 go_simp
 (refine (HRy.out _ hs2).mono ?_;rintro e w3 ⟨v,rfl,ho,k⟩;obtain⟨az,cz,rfl⟩:=Zbb ho;have hs3:=hs2.trans k;have HO3:=zH (ho.lower (show w.heap.size+1≤_ by have:=hs2.low.size;have:=HZ1.out;omega));have HX3:=zH (HO2.out.below k);have hge3:∀g,(Value.slice az RY.length cz).ownBlock=some g->w2.heap.size≤g:=fun g hg=>(World.ownsRow.lt ho g hg).1;have Hge3:=zH hge3;clear ho k hge3;have HB3:=zH (HX0.out.below hs3.low);obtain⟨⟨b0,b1,b2,b3⟩,b4,b5,b6⟩:=sevC HB3.out;obtain⟨⟨e0,e1,e2,e3⟩,e4,e5,e6⟩:=sevF HB3.out)
 refine hK.out _ _ ?_ (fun hHeld=>?_)
 ·exact Cell.out _ hs3
 clear hK K;refine tk2 9 ⟨some 14,_,33,_,_,none⟩ ?_
 try simp only[Act.put,zA,zB,zC]
 refine rd3 10 ⟨none,_,0,_,_,none⟩ fun K hK=>?_
 go_simp
 refine hK.out _ _ ?_;clear hK K;refine Zal (by kernel_rfl) ?_ _;have HBw:=zH (HB0.out.trans (hs3.low.mono HB0.out.size))
 go_wp2_with fail
 generalize hG:(World.setCell _ (⟨w.heap.size,6,none⟩:Addr) _)=WF;have hG2:Zcg w3 w.heap.size (.int .i64 3) (.slice ax XR.length cx) (.slice none 0 0) (.slice az RY.length cz) (.int .i64 0) (.int .i64 0) (.int .i64 n)=WF:=hG;have hF:=Zbf HB3.out (.int .i64 3) (.slice ax XR.length cx) (.slice none 0 0) (.slice az RY.length cz) (.int .i64 0) (.int .i64 0) (.int .i64 n);rw[hG2] at hF;obtain⟨⟨z0,z1,z2,z3⟩,z4,z5,z6⟩:=sevC hF;refine bodyPost_ret (v:=.agg #[.int .i64 3,.slice ax XR.length cx,.slice none 0 0,.slice az RY.length cz,.int .i64 0,.int .i64 0,.int .i64 n]) (by simp[results,Tryz.results134,go_sem,z0,z1,z2,z3,z4,z5,z6]) rfl ?_;rw[<-hG2];exact Zbl.fill (r:=⟨3,XR,[],RY,Ta.noR,n⟩) (b:=none) (c2:=0) HBw.out HX3.out (World.ownsRow_nil _ _ _ _) HO3.out (Z17 Hlt2.out Hge3.out 0) _ _ _ _ _ _ _ _ rfl
theorem Zpj {q:Nat} {w:World} {p:P} {t:T} {n:Nat} (h:Sk q w p t n) (hv:Lp.vldP p=true) (hS:Ta.Same p (t,n)) (hcols:t.cols=p.C.length) (ad:Option Addr) (cc:Nat) (cs:List R) (hcs:cs.length=p.C.length+p.A.length+1) (hk:Zah w.heap.size w ad cs) :
  Calls Tryz.prog 135 #[.pointer (some ⟨q,0,none⟩),.slice ad cs.length cc] w (Zbl ⟨1,Ta.xR t,Ta.Zc8 p cs 0,[],Ta.negR (Ta.Zcr cs),n⟩ w):=by
 have hq:=h.lt;have hcl:cs.length≤100:=by have:=(Lp.Zas hv).2.1;have:=(Lp.Zas hv).2.2.1;omega
 have hbel:=(Below.refl w.heap.size w).alloc (Nat.le_refl _) (.cells #[.int .i64 0,.slice none 0 0,.slice none 0 0,.slice none 0 0,.int .i64 0,.int .i64 0,.int .i64 0] 33);have HB0:=zH hbel;have HX0:=zH (Zac.new w #[.int .i64 0,.slice none 0 0,.slice none 0 0,.slice none 0 0,.int .i64 0,.int .i64 0,.int .i64 0] 33);have HZ1:=zH (Zar w (.cells #[.int .i64 0,.slice none 0 0,.slice none 0 0,.slice none 0 0,.int .i64 0,.int .i64 0,.int .i64 0] 33));have HW:=zH (h.only hbel);have HD:=zH (Zm6 (h.only hbel) hv hcols ad cc cs hcs 0 ((hk.below hbel).mono hbel.size));have HSo:=zH (fun w' (hs:Since (w.alloc (.cells #[.int .i64 0,.slice none 0 0,.slice none 0 0,.slice none 0 0,.int .i64 0,.int .i64 0,.int .i64 0] 33)) w')=>Zig (HW.out.only hs.low) hv hS);have HVo:=zH (fun w' (hs:Since (w.alloc (.cells #[.int .i64 0,.slice none 0 0,.slice none 0 0,.slice none 0 0,.int .i64 0,.int .i64 0,.int .i64 0] 33)) w')=>Zjh ad cc cs (by omega) (by omega) w' ((hk.below (hbel.trans (hs.low.mono hbel.size))).mono (Nat.le_trans hbel.size hs.low.size)));obtain⟨XR,hXR⟩:∃XR,Ta.xR t=XR:=⟨_,rfl⟩;obtain⟨DR,hDR⟩:∃DR,Ta.Zc8 p cs 0=DR:=⟨_,rfl⟩;obtain⟨VL,hVL⟩:∃VL,Ta.negR (Ta.Zcr cs)=VL:=⟨_,rfl⟩;obtain⟨CL,hCL⟩:∃CL,cs.length=CL:=⟨_,rfl⟩;rw[hXR] at HSo;rw[hDR,hCL] at HD;rw[hVL,hCL] at HVo;rw[hXR,hDR,hVL,hCL];obtain⟨_,_,_,_,_,_,_,_,_,_,k1,_⟩:=HW.out;obtain⟨_,_,_,d6⟩:=sevC k1;have hqr:=Zab k1;have Cell:=zH (fun w' (hs:Since (w.alloc (.cells #[.int .i64 0,.slice none 0 0,.slice none 0 0,.slice none 0 0,.int .i64 0,.int .i64 0,.int .i64 0] 33)) w')=>(show w'.cell? ⟨q,6,none⟩=some (.int .i64 n)/\Since (w.alloc (.cells #[.int .i64 0,.slice none 0 0,.slice none 0 0,.slice none 0 0,.int .i64 0,.int .i64 0,.int .i64 0] 33)) w' from ⟨hs.cell hqr d6,hs⟩));have hsr:=Since.refl (w.alloc (.cells #[.int .i64 0,.slice none 0 0,.slice none 0 0,.slice none 0 0,.int .i64 0,.int .i64 0,.int .i64 0] 33));clear h hv hS hcols hcs hk hbel hXR hDR hVL hCL k1 d6 hcl
 go_enter Tryz.func135,Tryz.ntmps135
 go_upto_region 1 with fail
 generalize (w.alloc (.cells #[.int .i64 0,.slice none 0 0,.slice none 0 0,.slice none 0 0,.int .i64 0,.int .i64 0,.int .i64 0] 33))=W0 at *
 go_wp2_with fail
 refine HD.out.mono ?_;rintro e w1 ⟨v,rfl,ho,k⟩;obtain⟨ay,cy,rfl⟩:=Zbb ho;have hs0:=(hsr.trans k).drew;have HY1:=zH (ho.lower (show w.heap.size+1≤W0.heap.size by have:=HZ1.out;omega));have hlt1:∀g,(Value.slice ay DR.length cy).ownBlock=some g->g<w1.heap.size:=fun g hg=>(World.ownsRow.lt ho g hg).2
 have Hlt1:=zH hlt1;clear ho k hlt1 hsr HD
 go_upto_region 2 with fail
 refine Zaf (S:=(fun w'=>w'.cell? ⟨q,6,none⟩=some (.int .i64 n)/\Since W0 w')) 10 (by kernel_rfl) ?_ (fun hHeld=>?_)
 ·exact Cell.out _ hs0
 refine tk2 0 ⟨some 10,_,156,_,_,none⟩ ?_;refine tk2 2 ⟨some 12,_,26,_,_,none⟩ ?_;refine tk2 3 ⟨some 13,_,26,_,_,none⟩ ?_;refine tk2 5 ⟨some 15,_,156,_,_,none⟩ ?_;refine tk2 6 ⟨some 16,_,0,_,_,none⟩ ?_;refine tk2 7 ⟨some 17,_,0,_,_,none⟩ ?_;refine tk2 8 ⟨some 18,_,3,_,_,none⟩ ?_
 try simp only[Act.put,zA,zB,zC]
 refine rd2 1 ⟨some 11,_,26,_,_,none⟩ fun K hK=>?_
 go_simp
 (refine (HSo.out _ hs0).mono ?_;rintro e w2 ⟨v,rfl,ho,k⟩;obtain⟨ax,cx,rfl⟩:=Zbb ho;have hs2:=hs0.trans k;have HO2:=zH (ho.lower (show w.heap.size+1≤_ by have:=hs0.low.size;have:=HZ1.out;omega));have HY2:=zH ((Zaa.drewN HY1.out 1).below k);have hge2:∀g,(Value.slice ax XR.length cx).ownBlock=some g->w1.heap.size≤g:=fun g hg=>(World.ownsRow.lt ho g hg).1;have Hge2:=zH hge2;clear ho k hge2)
 refine hK.out _ _ ?_ (fun hHeld=>?_)
 ·exact Cell.out _ hs2
 clear hK K
 try simp only[Act.put,zA,zB,zC]
 refine rd2 4 ⟨some 14,_,31,_,_,none⟩ fun K hK=>?_
 go_simp
 (refine (HVo.out _ hs2).mono ?_;rintro e w3 ⟨rfl,k⟩;have hs3:=hs2.trans k;have HY3:=zH (HY2.out.below k);have HX3:=zH (HO2.out.below k);clear k;have HB3:=zH (HX0.out.below hs3.low);obtain⟨⟨b0,b1,b2,b3⟩,b4,b5,b6⟩:=sevC HB3.out;obtain⟨⟨e0,e1,e2,e3⟩,e4,e5,e6⟩:=sevF HB3.out)
 refine hK.out _ _ ?_ (fun hHeld=>?_)
 ·exact Cell.out _ hs3
 clear hK K;refine tk2 9 ⟨some 19,_,33,_,_,none⟩ ?_
 try simp only[Act.put,zA,zB,zC]
 refine rd3 10 ⟨none,_,0,_,_,none⟩ fun K hK=>?_
 go_simp
 refine hK.out _ _ ?_;clear hK K;refine Zal (by kernel_rfl) ?_ _;have HBw:=zH (HB0.out.trans (hs3.low.mono HB0.out.size))
 go_wp2_with fail
 generalize hG:(World.setCell _ (⟨w.heap.size,6,none⟩:Addr) _)=WF;have hG2:Zcg w3 w.heap.size (.int .i64 1) (.slice ax XR.length cx) (.slice ay DR.length cy) (.slice none 0 0) (.int .i64 VL.1) (.int .i64 VL.2) (.int .i64 n)=WF:=hG;have hF:=Zbf HB3.out (.int .i64 1) (.slice ax XR.length cx) (.slice ay DR.length cy) (.slice none 0 0) (.int .i64 VL.1) (.int .i64 VL.2) (.int .i64 n);rw[hG2] at hF;obtain⟨⟨z0,z1,z2,z3⟩,z4,z5,z6⟩:=sevC hF;refine bodyPost_ret (v:=.agg #[.int .i64 1,.slice ax XR.length cx,.slice ay DR.length cy,.slice none 0 0,.int .i64 VL.1,.int .i64 VL.2,.int .i64 n]) (by simp[results,Tryz.results135,go_sem,z0,z1,z2,z3,z4,z5,z6]) rfl ?_;rw[<-hG2];exact Zbl.fill (r:=⟨1,XR,DR,[],VL,n⟩) (c:=none) (c3:=0) HBw.out HX3.out HY3.out (World.ownsRow_nil _ _ _ _) (Z19 Hlt1.out Hge2.out 0) _ _ _ _ _ _ _ _ rfl
def Zfm (q:Nat) (o:Option Res) (w:World) (e:Ending) (w':World):Prop:=Only q w w'/\∃v,e=.returned v/\(o=none->v=.agg #[.int .i64 4,.slice none 0 0,.slice none 0 0,.slice none 0 0,.int .i64 0,.int .i64 0,.int .i64 0])/\∀r,o=some r->
 ∃(a b c:Option Addr) (c1 c2 c3:Nat),v=resV a b c c1 c2 c3 r/\Zaa w.heap.size w' (.slice a r.X.length c1) r.X/\Zaa w.heap.size w' (.slice b r.Y.length c2) r.Y/\Zaa w.heap.size w' (.slice c r.ray.length c3) r.ray/\ApX (.slice a r.X.length c1) (.slice b r.Y.length c2) (.slice c r.ray.length c3)
theorem Zvc (a b:Int) (w:World):(Instr.field 31 (.agg #[.int .i64 a,.int .i64 b]) 0).run Tryz.prog w=.ok (.int .i64 a) w:=by kernel_rfl
theorem Zd3 {q p:Nat} {w w':World} {cs:Array Value} {t:TypeId} (h:Zac w p cs t) (ho:Only q w w') (hp:p≠q):Zac w' p cs t:=(ho.block hp (Zab h)).trans h
theorem Zfm.lim {q:Nat} {o:Option Res} {w w':World} (ho:o=none) (h:Only q w w') (hq:q<w.heap.size) (y0 y1 y2 y3 y4 y5 y6:Value):Zfm q o w (.returned (.agg #[.int .i64 4,.slice none 0 0,.slice none 0 0,.slice none 0 0,.int .i64 0,.int .i64 0,.int .i64 0])) (Zcg w' w.heap.size y0 y1 y2 y3 y4 y5 y6):=by
 subst ho;exact⟨Zhb h (Nat.le_of_lt hq) (Nat.le_refl _) _ _ _ _ _ _ _,_,rfl,fun _=>rfl,fun r h=>by cases h⟩
theorem Zfm.sol {q B:Nat} {o:Option Res} {r:Res} {w w':World} (ho:o=some r) (h:Only q w w') (hq:q<w.heap.size) (hB:w.heap.size<B) {a b c:Option Addr} {c1 c2 c3:Nat} (hX:Zaa B w' (.slice a r.X.length c1) r.X) (hY:Zaa B w' (.slice b r.Y.length c2) r.Y) (hZ:Zaa B w' (.slice c r.ray.length c3) r.ray)
  (hap:ApX (.slice a r.X.length c1) (.slice b r.Y.length c2) (.slice c r.ray.length c3)) (y0 y1 y2 y3 y4 y5 y6:Value) (v:Value) (hv:v=resV a b c c1 c2 c3 r):Zfm q o w (.returned v) (Zcg w' w.heap.size y0 y1 y2 y3 y4 y5 y6):=by
 subst ho;refine⟨Zhb h (Nat.le_of_lt hq) (Nat.le_refl _) _ _ _ _ _ _ _,v,rfl,(fun h=>by cases h),fun r' e=>?_⟩;injection e with e
 subst e;exact⟨a,b,c,c1,c2,c3,hv,(Zbv hX hB _ _ _ _ _ _ _).lower (Nat.le_of_lt hB),(Zbv hY hB _ _ _ _ _ _ _).lower (Nat.le_of_lt hB),(Zbv hZ hB _ _ _ _ _ _ _).lower (Nat.le_of_lt hB),hap⟩
theorem Zt3 {q:Nat} {w:World} {p:P} (h:Sk q w p (Ta.start p) 0) (hv:Lp.vldP p=true) :
  Calls Tryz.prog 58 #[.pointer (some ⟨q,0,none⟩)] w (Zfm q (Ta.run1 p) w):=by
 obtain⟨RR,hRR⟩:∃RR,Ta.run1 p=RR:=⟨_,rfl⟩;rw[hRR];have HR:=zH hRR;have HV:=zH hv;have hC70:=(Lp.Zas hv).2.1;have hA8:=(Lp.Zas hv).2.2.1;have hq:=h.lt;have H:=zH h;clear h hRR hv;have hfld:=Zvc
 go_enter Tryz.func58,Tryz.ntmps58
 have hs1:(w.alloc (.cells #[.int .i64 0,.slice none 0 0,.slice none 0 0,.slice none 0 0,.int .i64 0,.int .i64 0,.int .i64 0] 33)).heap.size=w.heap.size+1:=Zar _ _;have hs2:((w.alloc (.cells #[.int .i64 0,.slice none 0 0,.slice none 0 0,.slice none 0 0,.int .i64 0,.int .i64 0,.int .i64 0] 33)).alloc (.cells #[.int .i64 4,.slice none 0 0,.slice none 0 0,.slice none 0 0,.int .i64 0,.int .i64 0,.int .i64 0] 33)).heap.size=w.heap.size+1+1:=by rw[Zar,hs1]
 have hbel:=(((Below.refl w.heap.size w).alloc (Nat.le_refl _) (.cells #[.int .i64 0,.slice none 0 0,.slice none 0 0,.slice none 0 0,.int .i64 0,.int .i64 0,.int .i64 0] 33)).alloc (by rw[hs1];omega) (.cells #[.int .i64 4,.slice none 0 0,.slice none 0 0,.slice none 0 0,.int .i64 0,.int .i64 0,.int .i64 0] 33)).alloc (by rw[hs2];omega) (.cells #[.int .i64 1,.int .i64 1] 31);have HX0:=zH (((Zac.new w #[.int .i64 0,.slice none 0 0,.slice none 0 0,.slice none 0 0,.int .i64 0,.int .i64 0,.int .i64 0] 33).more (.cells #[.int .i64 4,.slice none 0 0,.slice none 0 0,.slice none 0 0,.int .i64 0,.int .i64 0,.int .i64 0] 33)).more (.cells #[.int .i64 1,.int .i64 1] 31));have hl0:=(Zac.new (w.alloc (.cells #[.int .i64 0,.slice none 0 0,.slice none 0 0,.slice none 0 0,.int .i64 0,.int .i64 0,.int .i64 0] 33)) #[.int .i64 4,.slice none 0 0,.slice none 0 0,.slice none 0 0,.int .i64 0,.int .i64 0,.int .i64 0] 33).more (.cells #[.int .i64 1,.int .i64 1] 31);rw[hs1] at hl0;have HL0:=zH hl0;have ha0:=Zac.new ((w.alloc (.cells #[.int .i64 0,.slice none 0 0,.slice none 0 0,.slice none 0 0,.int .i64 0,.int .i64 0,.int .i64 0] 33)).alloc (.cells #[.int .i64 4,.slice none 0 0,.slice none 0 0,.slice none 0 0,.int .i64 0,.int .i64 0,.int .i64 0] 33)) #[.int .i64 1,.int .i64 1] 31;rw[hs2] at ha0;have HA0:=zH ha0;have HO0:=zH (Zaz hbel (Nat.le_of_lt hq));have HW0:=zH (H.out.only hbel);have hne0:w.heap.size≠q:=by omega
 have hne1:w.heap.size+1≠q:=by omega
 have hne2:w.heap.size+1+1≠q:=by omega
 clear hs1 hs2 hbel hl0 ha0
 go_upto_region 2 with fail
 generalize (((w.alloc (.cells #[.int .i64 0,.slice none 0 0,.slice none 0 0,.slice none 0 0,.int .i64 0,.int .i64 0,.int .i64 0] 33)).alloc (.cells #[.int .i64 4,.slice none 0 0,.slice none 0 0,.slice none 0 0,.int .i64 0,.int .i64 0,.int .i64 0] 33)).alloc (.cells #[.int .i64 1,.int .i64 1] 31))=W0 at *;obtain⟨CN,hCN⟩:∃CN,p.C.length=CN:=⟨_,rfl⟩;have HCN:=zH hCN;have hss:=Ta.Zet HV.out;have hcc:(Ta.start p).cols=CN:=by rw[<-hCN];exact hss.2.2.1
 have hrr:(Ta.start p).rows.length=p.A.length:=hss.2.1;have d5:=HW0.out.c5;rw[hcc] at d5;obtain⟨x0,x1,_,_⟩:=twoc HA0.out;have hcn:CN≤70:=by omega
 have hzl:(Lp.Za1 CN).length=CN:=Zcu CN;have HZr:=zH (Zdr CN (by omega));obtain⟨Pa,hPa⟩:∃Pa,Ta.ph (Ta.Zgf p) (Ta.start p,0)=Pa:=⟨_,rfl⟩;have HPa:=zH hPa;have HMn:=zH (fun (w2:World) (az:Option Addr) (cz:Nat) (h2:Sk q w2 p (Ta.start p) 0) (hz:Zah w2.heap.size w2 az (Lp.Za1 CN))=>(show Calls Tryz.prog 129 #[.pointer (some ⟨q,0,none⟩),.slice az CN cz,.agg #[.int .i64 1,.int .i64 1]] w2 (Zuq q p Pa w2) by
  have:=Zid h2 HV.out hss az cz (Lp.Za1 CN) (by omega) hz (1,1);rw[hrr,<-HCN.out,Ta.Zxq,hPa,HCN.out,hzl] at this;exact this))
 have HKp:=zH (fun (w':World) (h5:w'.cell? ⟨q,5,none⟩=some (.int .i64 CN)) (ho:Only q W0 w')=>(show w'.cell? ⟨q,5,none⟩=some (.int .i64 CN)/\w'.cell? ⟨w.heap.size+1+1,0,none⟩=some (.int .i64 1)/\w'.cell? ⟨w.heap.size+1+1,1,none⟩=some (.int .i64 1)/\Only q W0 w' from
  ⟨h5,(Zd3 HA0.out ho hne2).cell 0,(Zd3 HA0.out ho hne2).cell 1,ho⟩))
 have hin:=(Only.refl q W0).drew;clear hCN hcc hrr hPa;refine wp_region_held_drew (S:=fun w'=>w'.cell? ⟨q,5,none⟩=some (.int .i64 CN)/\w'.cell? ⟨w.heap.size+1+1,0,none⟩=some (.int .i64 1)/\w'.cell? ⟨w.heap.size+1+1,1,none⟩=some (.int .i64 1)/\Only q W0 w') (by kernel_rfl) ?_ (fun hHeld=>?_)
 ·exact HKp.out _ d5 hin
 refine tk1 0 ⟨some 12,_,156,_,_,none⟩ ?_;refine tk1 1 ⟨some 13,_,156,_,_,none⟩ ?_;refine tk1 2 ⟨some 14,_,0,_,_,none⟩ ?_;refine tk1 3 ⟨some 15,_,0,_,_,none⟩ ?_;refine tk1 4 ⟨some 16,_,0,_,_,none⟩ ?_;refine tk1 5 ⟨some 17,_,3,_,_,none⟩ ?_;refine tk1 7 ⟨some 19,_,31,_,_,none⟩ ?_
 try simp only[Act.put,zA,zB,zC]
 refine rd1 6 ⟨some 18,_,26,_,_,none⟩ fun K hK=>?_
 go_simp
 (go_at_call 130;refine (HZr.out _).mono ?_;rintro e w2 ⟨v,rfl,ho2,k2⟩;obtain⟨az,cz,rfl,hrz,_,_⟩:=Zai ho2;have hk2:Below W0.heap.size W0 w2:=(Below.refl W0.heap.size W0).drew.trans k2;have hin2:=Zaz hk2 (Nat.le_of_lt HW0.out.lt);have HW2:=zH (HW0.out.only hk2);have HRz:=zH hrz;have d52:=(hk2.cell (p:=⟨q,5,none⟩) HW0.out.lt).trans d5;clear ho2 k2 hk2 hrz)
 refine hK.out _ _ ?_ (fun hHeld=>?_)
 ·exact HKp.out _ d52 hin2
 clear hK K
 try simp only[Act.put,zA,zB,zC]
 refine rd1 8 ⟨some 20,_,157,_,_,none⟩ fun K hK=>?_
 go_simp
 (go_at_call 129;refine (HMn.out _ _ _ HW2.out HRz.out).mono ?_;rintro e w3 ⟨a1,l1,k1,col1,b1,rfl,ho3,hno,hyes,h53⟩;have hin3:=hin2.trans ho3;rw[HCN.out] at h53)
 refine hK.out _ _ ?_ (fun hHeld=>?_)
 ·exact HKp.out _ h53 hin3
 clear hK K;refine tk1 9 ⟨some 11,_,157,_,_,none⟩ ?_;refine tk1 10 ⟨some 21,_,26,_,_,none⟩ ?_;refine tk1 11 ⟨some 22,_,3,_,_,none⟩ ?_;refine tk1 12 ⟨some 23,_,4,_,_,none⟩ ?_;refine tk1 13 ⟨some 5,_,26,_,_,none⟩ ?_;refine tk1 14 ⟨some 6,_,3,_,_,none⟩ ?_;refine tk1 15 ⟨some 7,_,4,_,_,none⟩ ?_
 try simp only[Act.put,zA,zB,zC]
 refine wpAnyH_done (by kernel_rfl) ?_ _;have HO3:=zH (HO0.out.trans hin3);have HX3:=zH (Zd3 HX0.out hin3 hne0);have HL3:=zH (Zd3 HL0.out hin3 hne1);clear x0 x1 d5 d52 hin hin2 ho3 h53 hin3 HMn HKp HZr HA0 hzl HW2 HRz;cases b1 with
 | false=>
  have HN:Hid (RR=none):=by show _=_;rw[<-HR.out];exact Zzb (HPa.out.trans (hno rfl))
  clear hno hyes;obtain⟨⟨b0,b1,b2,b3⟩,b4,b5,b6⟩:=sevC HX3.out;obtain⟨⟨e0,e1,e2,e3⟩,e4,e5,e6⟩:=sevF HX3.out;obtain⟨⟨l0,l1,l2,l3⟩,l4,l5,l6⟩:=sevC HL3.out
  go_wp2_with fail
  generalize hG:(World.setCell _ (⟨w.heap.size,6,none⟩:Addr) _)=WF;have hG2:Zcg w3 w.heap.size (.int .i64 4) (.slice none 0 0) (.slice none 0 0) (.slice none 0 0) (.int .i64 0) (.int .i64 0) (.int .i64 0)=WF:=hG;have hF:=Zbf HX3.out (.int .i64 4) (.slice none 0 0) (.slice none 0 0) (.slice none 0 0) (.int .i64 0) (.int .i64 0) (.int .i64 0);rw[hG2] at hF;obtain⟨⟨z0,z1,z2,z3⟩,z4,z5,z6⟩:=sevC hF;refine bodyPost_ret (v:=.agg #[.int .i64 4,.slice none 0 0,.slice none 0 0,.slice none 0 0,.int .i64 0,.int .i64 0,.int .i64 0]) (by simp[results,Tryz.results58,go_sem,z0,z1,z2,z3,z4,z5,z6]) rfl ?_;rw[<-hG2];exact Zfm.lim HN.out HO3.out hq _ _ _ _ _ _ _
 | true=>
  obtain⟨⟨t1,n1⟩,cs1,hPa1,rfl,hsk,hrd⟩:=hyes rfl;have HP1:=zH (HPa.out.trans hPa1);have HW3:=zH (show Sk q w3 p t1 n1 from hsk);have HRD:=zH hrd;obtain⟨hs1,hk1,he1,he2,_⟩:=Ta.Zgs hss HP1.out;have HS1:=zH hs1;have hl1:cs1.length=p.C.length+p.A.length+1:=by
   obtain⟨_,g2,g3,_⟩:=hs1;simp only at g2 g3;have h9:(cs1.length:Int)=t1.cols+t1.rows.length+1:=by rw[he1];exact Ta.Zbj hk1
   omega
  have HL1:=zH hl1;have HC1:=zH (show t1.cols=p.C.length from hs1.2.2.1);have HVl:=zH (show Ve.vld (Ta.Zcr cs1)=true by rw[he1];exact Ta.Zyg hk1);have HVo:=zH (Zjh a1 k1 cs1 (by omega) (by omega) w3 HRD.out);obtain⟨VL,hVL⟩:∃VL,Ta.negR (Ta.Zcr cs1)=VL:=⟨_,rfl⟩;rw[hVL] at HVo;have HNp:=zH (show 0<VL.1↔Ta.sgn (Ta.Zcr cs1)<0 by rw[<-hVL];exact Ta.neg_pos HVl.out);obtain⟨NL,hNL⟩:∃NL,cs1.length=NL:=⟨_,rfl⟩;have HNL:=zH hNL;rw[hNL] at HVo;rw[hNL];clear hno hyes hPa1 hsk hrd hs1 hk1 he1 he2 hl1 hVL hNL
  go_wp2_with fail
  refine HVo.out.mono ?_;rintro e w4 ⟨rfl,k4⟩;have HRD4:=zH ((HRD.out.below k4).mono k4.size);have ho4:=Zaz k4 (Nat.le_of_lt HW3.out.lt);have HW4:=zH (HW3.out.only k4);have HO4:=zH (HO3.out.trans ho4);have HX4:=zH (Zd3 HX3.out ho4 hne0);have HL4:=zH (Zd3 HL3.out ho4 hne1);clear k4 ho4 HVo HRD
  by_cases hpos:0<VL.1
  ·have hd:decide (VL.1>0)=true:=decide_eq_true hpos
   have hd2:decide (0<VL.1)=true:=decide_eq_true hpos;have HN0:=zH (Zzc HP1.out (HNp.out.1 hpos));have hIn:=Zlb HW4.out HV.out HC1.out a1 k1 cs1 HL1.out HRD4.out;obtain⟨DR,hDR⟩:∃DR,Ta.Zc8 p cs1 1=DR:=⟨_,rfl⟩;rw[hDR,HNL.out] at hIn;rw[hDR] at HN0;have HN:Hid (RR=some ⟨2,[],DR,[],Ta.noR,n1⟩):=by show _=_;rw[<-HR.out];exact HN0.out
   clear hDR HN0;have HC:=zH (hIn)
   go_wp2_with fail
   refine HC.out.mono ?_;rintro e w9 ⟨⟨a,b,c,c1,c2,c3,hve,hX,hY,hZ,hap⟩,kb⟩;have hve2:e=.returned (.agg #[.int .i64 2,.slice a 0 c1,.slice b DR.length c2,.slice c 0 c3,.int .i64 0,.int .i64 0,.int .i64 n1]):=hve;subst hve2;have HXs:=zH (And.intro hX (And.intro hY (And.intro hZ hap)));have HX9:=zH (HX4.out.below kb);have HO9:=zH (HO4.out.trans (Zaz kb (Nat.le_of_lt HW4.out.lt)));have hB9:=Zab HX4.out;clear hX hY hZ hap kb hve HC;obtain⟨⟨b0,b1,b2,b3⟩,b4,b5,b6⟩:=sevC HX9.out;obtain⟨⟨e0,e1,e2,e3⟩,e4,e5,e6⟩:=sevF HX9.out
   go_wp2_with fail
   generalize hG:(World.setCell _ (⟨w.heap.size,6,none⟩:Addr) _)=WF;have hG2:Zcg w9 w.heap.size (.int .i64 2) (.slice a 0 c1) (.slice b DR.length c2) (.slice c 0 c3) (.int .i64 0) (.int .i64 0) (.int .i64 n1)=WF:=hG;have hF:=Zbf HX9.out (.int .i64 2) (.slice a 0 c1) (.slice b DR.length c2) (.slice c 0 c3) (.int .i64 0) (.int .i64 0) (.int .i64 n1);rw[hG2] at hF;obtain⟨⟨z0,z1,z2,z3⟩,z4,z5,z6⟩:=sevC hF;refine bodyPost_ret (v:=.agg #[.int .i64 2,.slice a 0 c1,.slice b DR.length c2,.slice c 0 c3,.int .i64 0,.int .i64 0,.int .i64 n1]) (by simp[results,Tryz.results58,go_sem,z0,z1,z2,z3,z4,z5,z6]) rfl ?_;rw[<-hG2];exact Zfm.sol (r:=⟨2,[],DR,[],Ta.noR,n1⟩) HN.out HO9.out hq hB9 HXs.out.1 HXs.out.2.1 HXs.out.2.2.1 HXs.out.2.2.2 _ _ _ _ _ _ _ _ rfl
  ·have hd:decide (VL.1>0)=false:=decide_eq_false hpos
   have hd2:decide (0<VL.1)=false:=decide_eq_false hpos;have HNS:=zH (show 0≤Ta.sgn (Ta.Zcr cs1) from Int.not_lt.1 fun h=>hpos (HNp.out.2 h));have HRa:=zH (Zgb HW4.out HV.out HS1.out)
   go_wp2_with fail
   refine HRa.out.mono ?_;rintro e w5 ⟨b5,rfl,ho5,hno,hyes⟩;have HO5:=zH (HO4.out.trans ho5);have HX5:=zH (Zd3 HX4.out ho5 hne0);have HL5:=zH (Zd3 HL4.out ho5 hne1);clear ho5 HRa HRD4;cases b5 with
   | false=>
    have HN:Hid (RR=none):=by show _=_;rw[<-HR.out];exact Zzd HP1.out HNS.out (hno rfl)
    clear hno hyes;obtain⟨⟨b0,b1,b2,b3⟩,b4,b5,b6⟩:=sevC HX5.out;obtain⟨⟨e0,e1,e2,e3⟩,e4,e5,e6⟩:=sevF HX5.out;obtain⟨⟨l0,l1,l2,l3⟩,l4,l5,l6⟩:=sevC HL5.out
    go_wp2_with fail
    generalize hG:(World.setCell _ (⟨w.heap.size,6,none⟩:Addr) _)=WF;have hG2:Zcg w5 w.heap.size (.int .i64 4) (.slice none 0 0) (.slice none 0 0) (.slice none 0 0) (.int .i64 0) (.int .i64 0) (.int .i64 0)=WF:=hG;have hF:=Zbf HX5.out (.int .i64 4) (.slice none 0 0) (.slice none 0 0) (.slice none 0 0) (.int .i64 0) (.int .i64 0) (.int .i64 0);rw[hG2] at hF;obtain⟨⟨z0,z1,z2,z3⟩,z4,z5,z6⟩:=sevC hF;refine bodyPost_ret (v:=.agg #[.int .i64 4,.slice none 0 0,.slice none 0 0,.slice none 0 0,.int .i64 0,.int .i64 0,.int .i64 0]) (by simp[results,Tryz.results58,go_sem,z0,z1,z2,z3,z4,z5,z6]) rfl ?_;rw[<-hG2];exact Zfm.lim HN.out HO5.out hq _ _ _ _ _ _ _
   | true=>
    obtain⟨⟨t2,n2⟩,hD2,hsk2⟩:=hyes rfl;have HD2:=zH hD2;have HW5:=zH (show Sk q w5 p t2 n2 from hsk2);have hS2:=Ta.Zdy HS1.out HD2.out;have HS2:=zH hS2;obtain⟨aA,aB,aC,a,b,cA,cB,cC,c1,c2,g1,g2,_⟩:=HW5.out;obtain⟨⟨_,_,d2,_⟩,_⟩:=sevC g1;rw[HCN.out] at d2;obtain⟨Pb,hPb⟩:∃Pb,Ta.ph (Ta.Zdq p) (t2,n2)=Pb:=⟨_,rfl⟩;have HPb:=zH hPb;have hrr2:t2.rows.length=p.A.length:=hS2.2.1;have hMn:=Zid HW5.out HV.out hS2 aC cC p.C (by omega) g2.1.mC (0,1);rw[hrr2,Ta.Zxs,hPb,HCN.out] at hMn;have HMn:=zH hMn;clear hno hyes hD2 hsk2 hS2 g1 g2 hPb hrr2 hMn
    go_wp2_with fail
    refine HMn.out.mono ?_;rintro e w6 ⟨a6,l6,k6,col6,b6,rfl,ho6,hno,hyes,_⟩;have HO6:=zH (HO5.out.trans ho6);have HX6:=zH (Zd3 HX5.out ho6 hne0);have HL6:=zH (Zd3 HL5.out ho6 hne1);clear ho6 HMn d2;cases b6 with
    | false=>
     have HN:Hid (RR=none):=by show _=_;rw[<-HR.out];exact Zze HP1.out HNS.out HD2.out (HPb.out.trans (hno rfl))
     clear hno hyes;obtain⟨⟨b0,b1,b2,b3⟩,b4,b5,b6⟩:=sevC HX6.out;obtain⟨⟨e0,e1,e2,e3⟩,e4,e5,e6⟩:=sevF HX6.out;obtain⟨⟨l0,l1,l2,l3⟩,l4,l5,l6⟩:=sevC HL6.out
     go_wp2_with fail
     generalize hG:(World.setCell _ (⟨w.heap.size,6,none⟩:Addr) _)=WF;have hG2:Zcg w6 w.heap.size (.int .i64 4) (.slice none 0 0) (.slice none 0 0) (.slice none 0 0) (.int .i64 0) (.int .i64 0) (.int .i64 0)=WF:=hG;have hF:=Zbf HX6.out (.int .i64 4) (.slice none 0 0) (.slice none 0 0) (.slice none 0 0) (.int .i64 0) (.int .i64 0) (.int .i64 0);rw[hG2] at hF;obtain⟨⟨z0,z1,z2,z3⟩,z4,z5,z6⟩:=sevC hF;refine bodyPost_ret (v:=.agg #[.int .i64 4,.slice none 0 0,.slice none 0 0,.slice none 0 0,.int .i64 0,.int .i64 0,.int .i64 0]) (by simp[results,Tryz.results58,go_sem,z0,z1,z2,z3,z4,z5,z6]) rfl ?_;rw[<-hG2];exact Zfm.lim HN.out HO6.out hq _ _ _ _ _ _ _
    | true=>
     obtain⟨⟨t3,n3⟩,cs3,hPb3,rfl,hsk3,hrd3⟩:=hyes rfl;have HP3:=zH (HPb.out.trans hPb3);have HW6:=zH (show Sk q w6 p t3 n3 from hsk3);have HRD6:=zH hrd3;obtain⟨hs3,hk3,he3,he4,_⟩:=Ta.Zgs HS2.out HP3.out;have HS3:=zH hs3;have hl3:cs3.length=p.C.length+p.A.length+1:=by
      obtain⟨_,g2,g3,_⟩:=hs3;simp only at g2 g3;have h9:(cs3.length:Int)=t3.cols+t3.rows.length+1:=by rw[he3];exact Ta.Zbj hk3
      omega
     have HL3x:=zH hl3;have HC3:=zH (show t3.cols=p.C.length from hs3.2.2.1);have HE4:=zH (show 0≤col6->col6<t3.cols by rw[he4];exact fun h=>Zva h);have HNL3:=zH (show cs3.length=cs3.length from rfl);obtain⟨NM,hNM⟩:∃NM,cs3.length=NM:=⟨_,rfl⟩;have HNM:=zH hNM;rw[hNM];clear hno hyes hPb3 hsk3 hrd3 hs3 hk3 he3 he4 hl3 hNM HNL3
     by_cases hc:0≤col6
     ·have hd3:decide (col6≥0)=true:=decide_eq_true hc
      have hd4:decide (0≤col6)=true:=decide_eq_true hc;have HN0:=zH (Zzf HP1.out HNS.out HD2.out HP3.out hc);have hlt:=HE4.out hc;obtain⟨cn,rfl⟩:∃cn:Nat,col6=cn:=⟨col6.toNat,by omega⟩;rw[Int.toNat_natCast] at HN0;have hUn:=Zmg HW6.out HV.out HS3.out cn hlt;obtain⟨XR,hXR⟩:∃XR,Ta.xR t3=XR:=⟨_,rfl⟩;obtain⟨RY,hRY⟩:∃RY,Ta.Zdn t3 cn p.A.length=RY:=⟨_,rfl⟩;rw[hXR,hRY] at hUn;simp only[hXR,hRY] at HN0;have HN:Hid (RR=some ⟨3,XR,[],RY,Ta.noR,n3⟩):=by show _=_;rw[<-HR.out];exact HN0.out
      clear hXR hRY HN0 hlt;have HC:=zH (hUn)
      go_wp2_with fail
      refine HC.out.mono ?_;rintro e w9 ⟨⟨a,b,c,c1,c2,c3,hve,hX,hY,hZ,hap⟩,kb⟩;have hve2:e=.returned (.agg #[.int .i64 3,.slice a XR.length c1,.slice b 0 c2,.slice c RY.length c3,.int .i64 0,.int .i64 0,.int .i64 n3]):=hve;subst hve2;have HXs:=zH (And.intro hX (And.intro hY (And.intro hZ hap)));have HX9:=zH (HX6.out.below kb);have HO9:=zH (HO6.out.trans (Zaz kb (Nat.le_of_lt HW6.out.lt)));have hB9:=Zab HX6.out;clear hX hY hZ hap kb hve HC;obtain⟨⟨b0,b1,b2,b3⟩,b4,b5,b6⟩:=sevC HX9.out;obtain⟨⟨e0,e1,e2,e3⟩,e4,e5,e6⟩:=sevF HX9.out
      go_wp2_with fail
      generalize hG:(World.setCell _ (⟨w.heap.size,6,none⟩:Addr) _)=WF;have hG2:Zcg w9 w.heap.size (.int .i64 3) (.slice a XR.length c1) (.slice b 0 c2) (.slice c RY.length c3) (.int .i64 0) (.int .i64 0) (.int .i64 n3)=WF:=hG;have hF:=Zbf HX9.out (.int .i64 3) (.slice a XR.length c1) (.slice b 0 c2) (.slice c RY.length c3) (.int .i64 0) (.int .i64 0) (.int .i64 n3);rw[hG2] at hF;obtain⟨⟨z0,z1,z2,z3⟩,z4,z5,z6⟩:=sevC hF;refine bodyPost_ret (v:=.agg #[.int .i64 3,.slice a XR.length c1,.slice b 0 c2,.slice c RY.length c3,.int .i64 0,.int .i64 0,.int .i64 n3]) (by simp[results,Tryz.results58,go_sem,z0,z1,z2,z3,z4,z5,z6]) rfl ?_;rw[<-hG2];exact Zfm.sol (r:=⟨3,XR,[],RY,Ta.noR,n3⟩) HN.out HO9.out hq hB9 HXs.out.1 HXs.out.2.1 HXs.out.2.2.1 HXs.out.2.2.2 _ _ _ _ _ _ _ _ rfl
     ·have hd3:decide (col6≥0)=false:=decide_eq_false hc
      have hd4:decide (0≤col6)=false:=decide_eq_false hc;have HN0:=zH (Zzg HP1.out HNS.out HD2.out HP3.out hc);have hOp:=Zpj HW6.out HV.out HS3.out HC3.out a6 k6 cs3 HL3x.out HRD6.out;obtain⟨XR,hXR⟩:∃XR,Ta.xR t3=XR:=⟨_,rfl⟩;obtain⟨DR,hDR⟩:∃DR,Ta.Zc8 p cs3 0=DR:=⟨_,rfl⟩;obtain⟨VM,hVM⟩:∃VM,Ta.negR (Ta.Zcr cs3)=VM:=⟨_,rfl⟩;rw[hXR,hDR,hVM,HNM.out] at hOp;simp only[hXR,hDR,hVM] at HN0;have HN:Hid (RR=some ⟨1,XR,DR,[],VM,n3⟩):=by show _=_;rw[<-HR.out];exact HN0.out
      clear hXR hDR hVM HN0;have HC:=zH (hOp)
      go_wp2_with fail
      refine HC.out.mono ?_;rintro e w9 ⟨⟨a,b,c,c1,c2,c3,hve,hX,hY,hZ,hap⟩,kb⟩;have hve2:e=.returned (.agg #[.int .i64 1,.slice a XR.length c1,.slice b DR.length c2,.slice c 0 c3,.int .i64 VM.1,.int .i64 VM.2,.int .i64 n3]):=hve;subst hve2;have HXs:=zH (And.intro hX (And.intro hY (And.intro hZ hap)));have HX9:=zH (HX6.out.below kb);have HO9:=zH (HO6.out.trans (Zaz kb (Nat.le_of_lt HW6.out.lt)));have hB9:=Zab HX6.out;clear hX hY hZ hap kb hve HC;obtain⟨⟨b0,b1,b2,b3⟩,b4,b5,b6⟩:=sevC HX9.out;obtain⟨⟨e0,e1,e2,e3⟩,e4,e5,e6⟩:=sevF HX9.out
      go_wp2_with fail
      generalize hG:(World.setCell _ (⟨w.heap.size,6,none⟩:Addr) _)=WF;have hG2:Zcg w9 w.heap.size (.int .i64 1) (.slice a XR.length c1) (.slice b DR.length c2) (.slice c 0 c3) (.int .i64 VM.1) (.int .i64 VM.2) (.int .i64 n3)=WF:=hG;have hF:=Zbf HX9.out (.int .i64 1) (.slice a XR.length c1) (.slice b DR.length c2) (.slice c 0 c3) (.int .i64 VM.1) (.int .i64 VM.2) (.int .i64 n3);rw[hG2] at hF;obtain⟨⟨z0,z1,z2,z3⟩,z4,z5,z6⟩:=sevC hF;refine bodyPost_ret (v:=.agg #[.int .i64 1,.slice a XR.length c1,.slice b DR.length c2,.slice c 0 c3,.int .i64 VM.1,.int .i64 VM.2,.int .i64 n3]) (by simp[results,Tryz.results58,go_sem,z0,z1,z2,z3,z4,z5,z6]) rfl ?_;rw[<-hG2];exact Zfm.sol (r:=⟨1,XR,DR,[],VM,n3⟩) HN.out HO9.out hq hB9 HXs.out.1 HXs.out.2.1 HXs.out.2.2.1 HXs.out.2.2.2 _ _ _ _ _ _ _ _ rfl
theorem Zqe {lo q kR kI:Nat} {t:T} {w:World} {aR aI:Option Addr} (hR:Zbn lo w (.slice aR t.rows.length kR) t.rows) (hB:Zad lo w (.slice aI t.basis.length kI) t.basis) (hq:q<lo\/w.heap.size≤q) :
  Off q (fun w=>Zc4 w.heap.size w aR aI t) w/\Off q (fun w=>RCap w aR t.rows) w:=by
 have ho:Zdh lo w.heap.size w (.agg #[.slice aR t.rows.length kR,.slice aI t.basis.length kI,.int .i64 t.cols]) t:=⟨_,_,rfl,hR.res,Zby.Zhg hB fun g hg=>(World.ownsRow.lt hB g hg).2⟩;refine⟨(Off.Zwb ho.rg hq).mono fun w' h=>Zkd h.Zbe,?_⟩;have key:∀j,j<t.rows.length->∃(g:Nat) (a':Option Addr) (c':Nat),aR=some ⟨g,0,none⟩/\lo≤g/\g<w.heap.size/\w.cell? ⟨g,0+j,none⟩=some (.slice a' (rr t.rows j).length c')/\(rr t.rows j).length≤c':=fun j hj=>by
  obtain⟨g,u,e,h1,h2,h3,_,h5,_⟩:=hR.spot hj;obtain⟨a',c',rfl,hc⟩:=Zj9 h5;exact⟨g,a',c',e,h1,h2,by rw[Nat.zero_add];exact h3,hc⟩
 refine⟨fun j hj=>?_,fun w' _ hk j hj=>?_⟩
 ·obtain⟨g,a',c',e,_,_,h3,h4⟩:=key j hj
  exact⟨g,0,a',c',e,h3,h4⟩
 ·obtain⟨g,a',c',e,h1,h2,h3,h4⟩:=key j hj
  exact⟨g,0,a',c',e,by rw[World.cell?_of_block (w:=w) (a:=⟨g,0+j,none⟩) (hk g h2 (by omega))];exact h3,h4⟩
def GotS (W:World) (p:P) (v:Value) (wx:World):Prop:=∃q,v=.pointer (some ⟨q,0,none⟩)/\W.heap.size≤q/\Sk q wx p (Ta.start p) 0/\Since W wx
theorem GotS.last {W w:World} {p:P} {T0:T} (hT:Ta.start p=T0) {lo kR kI c1 c2 c3:Nat} {a b c aR aI:Option Addr} (hs:Since W w) (hO:Off w.heap.size (fun w'=>LpIn w'.heap.size w' a b c p) w) (hR:Zbn lo w (.slice aR T0.rows.length kR) T0.rows) (hB:Zad lo w (.slice aI T0.basis.length kI) T0.basis) :
  GotS W p (.pointer (some ⟨w.heap.size,0,none⟩)) (w.alloc (.cells #[.slice a p.A.length c1,.slice b p.B.length c2,.slice c p.C.length c3,.slice aR T0.rows.length kR,.slice aI T0.basis.length kI,.int .i64 T0.cols,.int .i64 0] 88)):=by
 subst hT;obtain⟨h1,h2⟩:=Zqe (q:=w.heap.size) hR hB (.inr (Nat.le_refl _));have hb:=(Below.refl w.heap.size w).alloc (Nat.le_refl _) (.cells #[.slice a p.A.length c1,.slice b p.B.length c2,.slice c p.C.length c3,.slice aR (Ta.start p).rows.length kR,.slice aI (Ta.start p).basis.length kI,.int .i64 (Ta.start p).cols,.int .i64 0] 88);exact⟨_,rfl,hs.low.size,⟨a,b,c,aR,aI,c1,c2,c3,kR,kI,Zac.new _ _ _,hO.up hb,h1.up hb,h2.up hb⟩,hs.alloc _⟩
theorem GotS.set {W w:World} {p:P} {T0:T} (hT:Ta.start p=T0) {lo q kR kI c1 c2 c3:Nat} {a b c aR aI:Option Addr} {x0 x1 x2 x3 x4 x5 x6:Value} (hs:Since W w) (hq:W.heap.size≤q) (hlo:q<lo) (hx:Zac w q #[x0,x1,x2,x3,x4,x5,x6] 88) (hO:Off q (fun w'=>LpIn w'.heap.size w' a b c p) w) (hR:Zbn lo w (.slice aR T0.rows.length kR) T0.rows) (hB:Zad lo w (.slice aI T0.basis.length kI) T0.basis) :
  GotS W p (.pointer (some ⟨q,0,none⟩)) (Zcg w q (.slice a p.A.length c1) (.slice b p.B.length c2) (.slice c p.C.length c3) (.slice aR T0.rows.length kR) (.slice aI T0.basis.length kI) (.int .i64 T0.cols) (.int .i64 0)):=by
 subst hT;obtain⟨h1,h2⟩:=Zqe (q:=q) hR hB (.inl hlo);have ho:Only q w (Zcg w q (.slice a p.A.length c1) (.slice b p.B.length c2) (.slice c p.C.length c3) (.slice aR (Ta.start p).rows.length kR) (.slice aI (Ta.start p).basis.length kI) (.int .i64 (Ta.start p).cols) (.int .i64 0)):=(((((((Only.refl q w).setCell 0 _).setCell 1 _).setCell 2 _).setCell 3 _).setCell 4 _).setCell 5 _).setCell 6 _;exact⟨q,rfl,hq,⟨a,b,c,aR,aI,c1,c2,c3,kR,kI,Zbf hx _ _ _ _ _ _ _,hO.only ho,h1.only ho,h2.only ho⟩,⟨Zbu hs.low hq _ _ _ _ _ _ _⟩⟩
theorem Z1j {p:P} {r:Res} (h:Ta.run1 p=some r):(Lit.int .i64 r.status).wf=true:=by
 rcases h1:Ta.ph (Ta.Zgf p) (Ta.start p,0) with _|⟨s1,c1,k1⟩
 ·rw[Zzb h1] at h;cases h
 ·by_cases hs:Ta.sgn (Ta.Zcr c1)<0
  ·rw[Zzc h1 hs] at h
   injection h with h
   subst h;rfl
  ·have hs':0≤Ta.sgn (Ta.Zcr c1):=by omega
   rcases h2:Ta.drive s1 p.A.length with _|s2
   ·rw[Zzd h1 hs' h2] at h;cases h
   ·rcases h3:Ta.ph (Ta.Zdq p) s2 with _|⟨s3,c3,k3⟩
    ·rw[Zze h1 hs' h2 h3] at h;cases h
    ·by_cases hk:0≤k3
     ·rw[Zzf h1 hs' h2 h3 hk] at h
      injection h with h
      subst h;rfl
     ·rw[Zzg h1 hs' h2 h3 hk] at h
      injection h with h
      subst h;rfl
theorem Zfm.res {q:Nat} {p:P} {w w':World} {e:Ending} (hv:Lp.vldP p=true) (h:Zfm q (Ta.run1 p) w e w'):Only q w w'/\∃(r:Res) (a b c:Option Addr) (c1 c2 c3:Nat),e=.returned (resV a b c c1 c2 c3 r)/\(Zaa w.heap.size w' (.slice a r.X.length c1) r.X/\Zaa w.heap.size w' (.slice b r.Y.length c2) r.Y/\Zaa w.heap.size w' (.slice c r.ray.length c3) r.ray/\ApX (.slice a r.X.length c1) (.slice b r.Y.length c2) (.slice c r.ray.length c3))/\
  Zdp r/\(Lit.int .i64 r.status).wf=true/\(Lp.chk p r=true->Ta.solve p=r)/\(Lp.chk p r=false->Ta.solve p=⟨4,[],[],[],Ta.noR,0⟩):=by
 obtain⟨ho,v,rfl,h1,h2⟩:=h;refine⟨ho,?_⟩
 rcases hr:Ta.run1 p with _|r
 ·rw[h1 hr]
  exact⟨⟨4,[],[],[],Ta.noR,0⟩,none,none,none,0,0,0,rfl,⟨World.ownsRow_nil _ _ _ _,World.ownsRow_nil _ _ _ _,World.ownsRow_nil _ _ _ _,Z18 0 0 _⟩,Zoi (by simp[resN]),rfl,fun _=>Zlw hv hr,fun _=>Zlw hv hr⟩
 ·obtain⟨a,b,c,c1,c2,c3,rfl,hX,hY,hZ,hap⟩:=h2 r hr
  exact⟨r,a,b,c,c1,c2,c3,rfl,⟨hX,hY,hZ,hap⟩,Zpz hv hr,Z1j hr,fun h=>Zis hv hr h,fun h=>Zjl hv hr h⟩
theorem Zph (a b c:Option Addr) (c1 c2 c3:Nat) (p:P) (hn:Zbs p) (hcap:p.B.length≤c2) (w:World) (hz:LpIn w.heap.size w a b c p) (hO:∀q,w.heap.size≤q->Off q (fun w'=>LpIn w'.heap.size w' a b c p) w) :
  Calls Tryz.prog 9 #[.agg #[.slice a p.A.length c1,.slice b p.B.length c2,.slice c p.C.length c3]] w (Zbl (Ta.solve p) w):=by
 have HCp:=zH hcap;clear hcap;have hb0:=(Below.refl w.heap.size w).alloc (Nat.le_refl _) (.cells #[.slice a p.A.length c1,.slice b p.B.length c2,.slice c p.C.length c3] 28);have hb:=hb0.alloc (by rw[Zar];omega) (.cells #[.int .i64 0,.slice none 0 0,.slice none 0 0,.slice none 0 0,.int .i64 0,.int .i64 0,.int .i64 0] 33);have hx:=(Tri.new w (.slice a p.A.length c1) (.slice b p.B.length c2) (.slice c p.C.length c3) 28).more (.cells #[.int .i64 0,.slice none 0 0,.slice none 0 0,.slice none 0 0,.int .i64 0,.int .i64 0,.int .i64 0] 33);have hr:=Zac.new (w.alloc (.cells #[.slice a p.A.length c1,.slice b p.B.length c2,.slice c p.C.length c3] 28)) #[.int .i64 0,.slice none 0 0,.slice none 0 0,.slice none 0 0,.int .i64 0,.int .i64 0,.int .i64 0] 33;rw[Zar] at hr;have hs2:=Zjv w (.cells #[.slice a p.A.length c1,.slice b p.B.length c2,.slice c p.C.length c3] 28) (.cells #[.int .i64 0,.slice none 0 0,.slice none 0 0,.slice none 0 0,.int .i64 0,.int .i64 0,.int .i64 0] 33);obtain⟨SO,hSO⟩:∃SO,Ta.solve p=SO:=⟨_,rfl⟩;rw[hSO];have HSO:=zH hSO;have HN:=zH hn;have HZ:=zH (hz.below hb);have HOf:=zH hO;have HB0:=zH hb;have HX0:=zH hx;have HR0:=zH hr;have HS0:=zH hs2;clear hn hz hO hb0 hb hx hr hs2 hSO
 go_enter Tryz.func9,Tryz.ntmps9
 go_upto_region 1 with fail
 generalize hW:(w.alloc (.cells #[.slice a p.A.length c1,.slice b p.B.length c2,.slice c p.C.length c3] 28)).alloc (.cells #[.int .i64 0,.slice none 0 0,.slice none 0 0,.slice none 0 0,.int .i64 0,.int .i64 0,.int .i64 0] 33)=W at *;clear hW;obtain⟨x0,x1,x2,_⟩:=HX0.out.cells;obtain⟨g,hg⟩:∃g,Lp.vldP p=g:=⟨_,rfl⟩;have HG:=zH hg;have HIV:=zH (Zfi w.heap.size a b c c1 c2 c3 p HN.out W HB0.out.size HZ.out);rw[hg] at HIV;clear hg
 go_wp2_with fail
 refine HIV.out.mono ?_;rintro e w1 ⟨rfl,hb1⟩;have HB1:=zH (HB0.out.trans (hb1.mono HB0.out.size));have HX1:=zH (HX0.out.below hb1);have HR1:=zH (HR0.out.below hb1);have HZ1:=zH (HZ.out.below (hb1.mono HB0.out.size));have hs1:w.heap.size+2≤w1.heap.size:=by have:=hb1.size;have:=HS0.out;omega
 clear x0 x1 x2 HIV hb1 HB0 HX0 HR0 HZ HS0;cases g with
 | false=>
  have HE:Hid (SO=⟨0,[],[],[],Ta.noR,0⟩):=by show _=_;rw[<-HSO.out];exact Zte HG.out
  obtain⟨⟨b0,b1,b2,b3⟩,b4,b5,b6⟩:=sevC HR1.out;obtain⟨⟨e0,e1,e2,e3⟩,e4,e5,e6⟩:=sevF HR1.out
  go_wp2_with fail
  generalize hG:(World.setCell _ (⟨w.heap.size+1,6,none⟩:Addr) _)=WF;have hG2:Zcg w1 (w.heap.size+1) (.int .i64 0) (.slice none 0 0) (.slice none 0 0) (.slice none 0 0) (.int .i64 0) (.int .i64 0) (.int .i64 0)=WF:=hG;have hF:=Zbf HR1.out (.int .i64 0) (.slice none 0 0) (.slice none 0 0) (.slice none 0 0) (.int .i64 0) (.int .i64 0) (.int .i64 0);rw[hG2] at hF;obtain⟨⟨z0,z1,z2,z3⟩,z4,z5,z6⟩:=sevC hF;refine bodyPost_ret (v:=.agg #[.int .i64 0,.slice none 0 0,.slice none 0 0,.slice none 0 0,.int .i64 0,.int .i64 0,.int .i64 0]) (by simp[results,Tryz.results9,go_sem,z0,z1,z2,z3,z4,z5,z6]) rfl ?_;rw[<-hG2,HE.out];exact Zbl.bare 0 (Zbu HB1.out (Nat.le_succ _) _ _ _ _ _ _ _)
 | true=>
  obtain⟨x0,x1,x2,_⟩:=HX1.out.cells;have hx1:=Zab HX1.out;have HST:=zH (fun w' (hs:Since w1 w')=>Zi6 w.heap.size a b c c1 c2 c3 p HN.out HCp.out w' (Nat.le_trans HB1.out.size hs.low.size) (HZ1.out.below (hs.low.mono HB1.out.size)));obtain⟨T0,hT0⟩:∃T0,Ta.start p=T0:=⟨_,rfl⟩;rw[hT0] at HST;have HT0:=zH hT0;clear hT0;have HOq:=zH (fun (q:Nat) (w':World) (hq:w.heap.size≤q) (hs:Since w1 w')=>(HOf.out q hq).up (HB1.out.trans (hs.low.mono HB1.out.size)));have Cell:=zH (fun w' (hs:Since w1 w')=>(show w'.cell? ⟨w.heap.size,0,none⟩=some (.slice a p.A.length c1)/\w'.cell? ⟨w.heap.size,1,none⟩=some (.slice b p.B.length c2)/\w'.cell? ⟨w.heap.size,2,none⟩=some (.slice c p.C.length c3)/\Since w1 w' from ⟨hs.cell hx1 x0,hs.cell hx1 x1,hs.cell hx1 x2,hs⟩));have hin0:=(Since.refl w1).drew
  go_upto_region 3 with fail
  go_cut [3] (fun v wx=>GotS w1 p v wx)
  case first=>
   refine wp_region_held_drew (S:=fun w'=>w'.cell? ⟨w.heap.size,0,none⟩=some (.slice a p.A.length c1)/\w'.cell? ⟨w.heap.size,1,none⟩=some (.slice b p.B.length c2)/\w'.cell? ⟨w.heap.size,2,none⟩=some (.slice c p.C.length c3)/\Since w1 w') (by kernel_rfl) ?_ (fun hHeld=>?_)
   ·exact Cell.out _ hin0
   refine tk1 0 ⟨some 9,_,28,_,_,none⟩ ?_;refine tk1 1 ⟨some 10,_,28,_,_,none⟩ ?_
   try simp only[Act.put,zA,zB,zC]
   refine wpAnyH_ready (rs:=[2,4]) (by kernel_rfl) (by simp) ?_;refine AllReadyH.cons (o:=⟨some 11,.call { callee:=.value (.func 57),args:=#[.tmp 10],argTypes:=#[28] },39,"l07_simplex.go:60",#[⟨1,.data⟩],none⟩) (rs:=[4]) rfl (fun K hK=>?_) (AllReadyH.cons (o:=⟨some 3,.alloc 88,0,"l07_simplex.go:60",#[],none⟩) (rs:=[]) rfl (fun K hK=>?_) AllReadyH.nil)
   ·go_simp
    (go_at_call 57;refine (HST.out _ hin0).mono ?_;rintro e w2 ⟨⟨vR,vB,rfl,hR,hI⟩,k2⟩;obtain⟨aR,kR,rfl⟩:=hR.shape;obtain⟨aI,kI,rfl⟩:=Zam hI;have HRI:=zH (And.intro hR hI);have hh2:=hin0.trans k2;have HK2:=zH k2;clear hR hI k2)
    refine hK.out _ _ ?_ (fun hHeld=>?_)
    ·exact Cell.out _ hh2
    clear hK K;refine tk1 3 ⟨some 12,_,88,_,_,none⟩ ?_
    try simp only[Act.put,zA,zB,zC]
    refine rd1 4 ⟨some 3,_,0,_,_,none⟩ fun K hK=>?_
    go_simp
    skip
    refine hK.out _ _ ?_ (fun hHeld=>?_)
    ·exact Cell.out _ (hh2.alloc _)
    clear hK K
    try simp only[Act.put,zA,zB,zC]
    refine rd1 5 ⟨none,_,0,_,_,none⟩ fun K hK=>?_
    go_simp
    skip
    refine hK.out _ _ ?_ (fun hHeld=>?_)
    ·exact Cell.out _ (hh2.alloc _)
    clear hK K
    try simp only[Act.put,zA,zB,zC]
    refine wpAnyH_done (by kernel_rfl) ?_ _
    go_wp2_with fail
    go_meet
    exact GotS.last HT0.out hh2 (HOq.out _ _ (by have:=hh2.low.size;have:=HB1.out.size;omega) hh2) HRI.out.1 HRI.out.2
   ·go_simp
    skip
    refine hK.out _ _ ?_ (fun hHeld=>?_)
    ·exact Cell.out _ (hin0.alloc _)
    clear hK K;have ha0:Since w1 (w1.drew.alloc (.cells #[.slice none 0 0,.slice none 0 0,.slice none 0 0,.slice none 0 0,.slice none 0 0,.int .i64 0,.int .i64 0] 88)):=hin0.alloc _;have HBx:Hid (Zac (w1.drew.alloc (.cells #[.slice none 0 0,.slice none 0 0,.slice none 0 0,.slice none 0 0,.slice none 0 0,.int .i64 0,.int .i64 0] 88)) w1.heap.size #[.slice none 0 0,.slice none 0 0,.slice none 0 0,.slice none 0 0,.slice none 0 0,.int .i64 0,.int .i64 0] 88):=Zac.new w1.drew _ _;have HSz:Hid (w1.heap.size<(w1.drew.alloc (.cells #[.slice none 0 0,.slice none 0 0,.slice none 0 0,.slice none 0 0,.slice none 0 0,.int .i64 0,.int .i64 0] 88)).heap.size):=Zab HBx.out;refine rd1 2 ⟨some 11,_,39,_,_,none⟩ fun K hK=>?_
    go_simp
    (go_at_call 57;refine (HST.out _ ha0).mono ?_;rintro e w2 ⟨⟨vR,vB,rfl,hR,hI⟩,k2⟩;obtain⟨aR,kR,rfl⟩:=hR.shape;obtain⟨aI,kI,rfl⟩:=Zam hI;have HRI:=zH (And.intro hR hI);have hh2:=ha0.trans k2;have HK2:=zH k2;clear hR hI k2;have HBx2:=zH (HBx.out.below HK2.out);obtain⟨⟨m0,m1,m2,m3⟩,m4,m5,m6⟩:=sevC HBx2.out;obtain⟨⟨n0,n1,n2,n3⟩,n4,n5,n6⟩:=sevF HBx2.out)
    refine hK.out _ _ ?_ (fun hHeld=>?_)
    ·exact Cell.out _ hh2
    clear hK K;refine tk1 3 ⟨some 12,_,88,_,_,none⟩ ?_
    try simp only[Act.put,zA,zB,zC]
    refine rd1 5 ⟨none,_,0,_,_,none⟩ fun K hK=>?_
    go_simp
    skip
    refine hK.out _ _ ?_ (fun hHeld=>?_)
    ·exact Cell.out _ ⟨Zbu hh2.low (Nat.le_refl _) _ _ _ _ _ _ _⟩
    clear hK K
    try simp only[Act.put,zA,zB,zC]
    refine wpAnyH_done (by kernel_rfl) ?_ _
    go_wp2_with fail
    go_meet
    exact GotS.set HT0.out hh2 (Nat.le_refl _) HSz.out HBx2.out (HOq.out _ _ HB1.out.size hh2) HRI.out.1 HRI.out.2
  case rest=>
   obtain⟨w3,rfl⟩:∃q:World,q=wc:=⟨_,rfl⟩;obtain⟨q,rfl,hq,hsk,hs3⟩:=hcut;have HB3:=zH (HB1.out.trans (hs3.low.mono HB1.out.size));have HX3:=zH (HX1.out.below hs3.low);have HR3:=zH (HR1.out.below hs3.low);have HZ3:=zH (HZ1.out.below (hs3.low.mono HB1.out.size));have HSV:=zH (Zt3 hsk HG.out);have hq5:=hsk.lt;have hqw:w.heap.size+2≤q:=by omega
   have hw3:w.heap.size+2≤w3.heap.size:=by omega
   have Hw3:=zH hw3;clear hin0 Cell HST HOq HX1 HR1 HZ1 HB1 x0 x1 x2 hx1 hsk hs3 hs1 hw3
   go_wp2_with fail
   refine HSV.out.mono ?_;rintro e w4 hm;obtain⟨ho4,r,aX,aY,aZ,k1,k2,k3,rfl,hown,hfit,hwf,hyes,hno⟩:=hm.res HG.out;rw[HSO.out] at hyes hno;have HX4:Hid (Tri w4 w.heap.size (.slice a p.A.length c1) (.slice b p.B.length c2) (.slice c p.C.length c3) 28):=(ho4.block (show w.heap.size≠q by omega) (Zab HX3.out)).trans HX3.out;have HR4:Hid (Zac w4 (w.heap.size+1) #[.int .i64 0,.slice none 0 0,.slice none 0 0,.slice none 0 0,.int .i64 0,.int .i64 0,.int .i64 0] 33):=(ho4.block (show w.heap.size+1≠q by omega) (Zab HR3.out)).trans HR3.out;have HB4:=zH (HB3.out.trans (ho4.low.mono (show w.heap.size≤q by omega)));have HZ4:=zH (HZ3.out.below (ho4.low.mono (show w.heap.size≤q by omega)));obtain⟨st,X,Y,Z,⟨nu,de⟩,pv⟩:=r;simp only at hown hwf;obtain⟨hX,hY,hZ,hap⟩:=hown;obtain⟨_,_,eX,rX,_,_⟩:=Zai hX;injection eX with eX eX2 eX3
   clear eX2 eX3;obtain⟨_,_,eY,rY,_,_⟩:=Zai hY;injection eY with eY eY2 eY3
   clear eY2 eY3;obtain⟨_,_,eZ,rZ,_,_⟩:=Zai hZ;injection eZ with eZ eZ2 eZ3
   clear eZ2 eZ3;subst eX eY eZ;have hbw:=(Below.refl w4.heap.size w4).alloc (Nat.le_refl _) (.cells #[.int .i64 st,.slice aX X.length k1,.slice aY Y.length k2,.slice aZ Z.length k3,.int .i64 nu,.int .i64 de,.int .i64 pv] 33);have HR6:=zH (HR4.out.more (.cells #[.int .i64 st,.slice aX X.length k1,.slice aY Y.length k2,.slice aZ Z.length k3,.int .i64 nu,.int .i64 de,.int .i64 pv] 33));have HX6:=zH (HX4.out.more (.cells #[.int .i64 st,.slice aX X.length k1,.slice aY Y.length k2,.slice aZ Z.length k3,.int .i64 nu,.int .i64 de,.int .i64 pv] 33));have HB6:=zH (HB4.out.trans (hbw.mono HB4.out.size));have HN6:=zH (Zac.new w4 #[.int .i64 st,.slice aX X.length k1,.slice aY Y.length k2,.slice aZ Z.length k3,.int .i64 nu,.int .i64 de,.int .i64 pv] 33);have HZ6:=zH ((HZ4.out.below (hbw.mono HB4.out.size)).mono (Nat.le_trans HB4.out.size hbw.size));have HI6:Hid (Zej (w4.alloc (.cells #[.int .i64 st,.slice aX X.length k1,.slice aY Y.length k2,.slice aZ Z.length k3,.int .i64 nu,.int .i64 de,.int .i64 pv] 33)).heap.size (w4.alloc (.cells #[.int .i64 st,.slice aX X.length k1,.slice aY Y.length k2,.slice aZ Z.length k3,.int .i64 nu,.int .i64 de,.int .i64 pv] 33)) aX aY aZ ⟨st,X,Y,Z,(nu,de),pv⟩):=⟨(rX.below hbw).mono hbw.size,(rY.below hbw).mono hbw.size,(rZ.below hbw).mono hbw.size⟩;have HOw:=zH (And.intro (Zaa.below hX hbw) (And.intro (Zaa.below hY hbw) (Zaa.below hZ hbw)));have HAp:=zH hap;have HFT:=zH hfit;have HWF:=zH hwf;have HYes:=zH hyes;have HNo:=zH hno;rw[show resV aX aY aZ k1 k2 k3 ⟨st,X,Y,Z,(nu,de),pv⟩=.agg #[.int .i64 st,.slice aX X.length k1,.slice aY Y.length k2,.slice aZ Z.length k3,.int .i64 nu,.int .i64 de,.int .i64 pv] from rfl];clear hm ho4 HX3 HR3 HB3 HZ3 HSV hX hY hZ rX rY rZ hap hfit hwf hyes hno hbw HX4 HR4 HB4 HZ4 hq hq5 hqw
   go_upto_region 5 with fail
   generalize w4.alloc (.cells #[.int .i64 st,.slice aX X.length k1,.slice aY Y.length k2,.slice aZ Z.length k3,.int .i64 nu,.int .i64 de,.int .i64 pv] 33)=W6 at *;obtain⟨x0,x1,x2,_⟩:=HX6.out.cells;obtain⟨⟨r0,r1,r2,r3⟩,r4,r5,r6⟩:=sevC HN6.out;obtain⟨g2,hg2⟩:∃g2,Lp.chk p ⟨st,X,Y,Z,(nu,de),pv⟩=g2:=⟨_,rfl⟩;have HG2:=zH hg2;have HCK:=zH (Znz W6.heap.size a b c aX aY aZ c1 c2 c3 k1 k2 k3 p st X Y Z nu de pv HWF.out HN.out HFT.out g2 hg2 W6 (Nat.le_refl _) HZ6.out HI6.out);clear hg2
   go_wp2_with fail
   refine HCK.out.mono ?_;rintro e w7 ⟨rfl,hb7⟩;have HB7:=zH (HB6.out.trans (hb7.mono HB6.out.size));have HR7:=zH (HR6.out.below hb7);have HN7:=zH (HN6.out.below hb7);have HX7:=zH (Zaa.below HOw.out.1 hb7);have HY7:=zH (Zaa.below HOw.out.2.1 hb7);have HZ7:=zH (Zaa.below HOw.out.2.2 hb7);clear x0 x1 x2 r0 r1 r2 r3 r4 r5 r6 hb7 HB6 HR6 HN6 HI6 HOw HCK HX6 HZ6;cases g2 with
   | false=>
    have HE:Hid (SO=⟨4,[],[],[],Ta.noR,0⟩):=HNo.out HG2.out;obtain⟨⟨b0,b1,b2,b3⟩,b4,b5,b6⟩:=sevC HR7.out;obtain⟨⟨e0,e1,e2,e3⟩,e4,e5,e6⟩:=sevF HR7.out
    go_wp2_with fail
    generalize hG:(World.setCell _ (⟨w.heap.size+1,6,none⟩:Addr) _)=WF;have hG2:Zcg w7 (w.heap.size+1) (.int .i64 4) (.slice none 0 0) (.slice none 0 0) (.slice none 0 0) (.int .i64 0) (.int .i64 0) (.int .i64 0)=WF:=hG;have hF:=Zbf HR7.out (.int .i64 4) (.slice none 0 0) (.slice none 0 0) (.slice none 0 0) (.int .i64 0) (.int .i64 0) (.int .i64 0);rw[hG2] at hF;obtain⟨⟨z0,z1,z2,z3⟩,z4,z5,z6⟩:=sevC hF;refine bodyPost_ret (v:=.agg #[.int .i64 4,.slice none 0 0,.slice none 0 0,.slice none 0 0,.int .i64 0,.int .i64 0,.int .i64 0]) (by simp[results,Tryz.results9,go_sem,z0,z1,z2,z3,z4,z5,z6]) rfl ?_;rw[<-hG2,HE.out];exact Zbl.bare 4 (Zbu HB7.out (Nat.le_succ _) _ _ _ _ _ _ _)
   | true=>
    have HE:Hid (SO=⟨st,X,Y,Z,(nu,de),pv⟩):=HYes.out HG2.out;obtain⟨⟨r0,r1,r2,r3⟩,r4,r5,r6⟩:=sevC HN7.out;obtain⟨⟨b0,b1,b2,b3⟩,b4,b5,b6⟩:=sevC HR7.out;obtain⟨⟨e0,e1,e2,e3⟩,e4,e5,e6⟩:=sevF HR7.out
    go_wp2_with fail
    generalize hG:(World.setCell _ (⟨w.heap.size+1,6,none⟩:Addr) _)=WF;have hG2:Zcg w7 (w.heap.size+1) (.int .i64 st) (.slice aX X.length k1) (.slice aY Y.length k2) (.slice aZ Z.length k3) (.int .i64 nu) (.int .i64 de) (.int .i64 pv)=WF:=hG;have hF:=Zbf HR7.out (.int .i64 st) (.slice aX X.length k1) (.slice aY Y.length k2) (.slice aZ Z.length k3) (.int .i64 nu) (.int .i64 de) (.int .i64 pv);rw[hG2] at hF;obtain⟨⟨z0,z1,z2,z3⟩,z4,z5,z6⟩:=sevC hF;refine bodyPost_ret (v:=.agg #[.int .i64 st,.slice aX X.length k1,.slice aY Y.length k2,.slice aZ Z.length k3,.int .i64 nu,.int .i64 de,.int .i64 pv]) (by simp[results,Tryz.results9,go_sem,z0,z1,z2,z3,z4,z5,z6]) rfl ?_;rw[<-hG2,HE.out];have hlt:w.heap.size+1<w3.heap.size:=by have:=Hw3.out;omega
    have hle:w.heap.size≤w3.heap.size:=by omega
    exact⟨⟨aX,aY,aZ,k1,k2,k3,rfl,(Zbv HX7.out hlt _ _ _ _ _ _ _).lower hle,(Zbv HY7.out hlt _ _ _ _ _ _ _).lower hle,(Zbv HZ7.out hlt _ _ _ _ _ _ _).lower hle,HAp.out⟩,Zbu HB7.out (Nat.le_succ _) _ _ _ _ _ _ _⟩
end Go.Proofs.YtlohljkfphljgaaGreat
