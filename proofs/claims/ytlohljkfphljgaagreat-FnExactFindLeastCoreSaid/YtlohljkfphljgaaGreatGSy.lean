/- The parts SyA, SyB, SyC, SyD, SyE. -/
import Derived.Test.YtlohljkfphljgaaGreatSxF
import Derived.Test.YtlohljkfphljgaaGreatGTi
import Derived.Test.YtlohljkfphljgaaGreatHLeR
import Derived.Test.YtlohljkfphljgaaGreatGTd
import Derived.Test.YtlohljkfphljgaaGreatGSi
import Derived.Test.YtlohljkfphljgaaGreatSiC
import Derived.Test.YtlohljkfphljgaaGreatHApR
import Derived.Test.YtlohljkfphljgaaGreatGSx
set_option maxRecDepth 100000
set_option maxHeartbeats 8000000
namespace Go.Proofs.YtlohljkfphljgaaGreat
open Go.RowKit
open Ve (R)
open Ta (T)
open Lp (P Res)
def RCap (w:World) (a:Option Addr) (L:List (List R)):Prop:=
 ∀j,j<L.length->∃(b o:Nat) (a':Option Addr) (c':Nat),a=some ⟨b,o,none⟩/\w.cell? ⟨b,o+j,none⟩=some (.slice a' (rr L j).length c')/\(rr L j).length≤c'
theorem Zbn.caps {lo n c q:Nat} {w:World} {a:Option Addr} {L:List (List R)} (h:Zbn lo w (.slice a n c) L) (hq:q<lo):Off q (fun w'=>RCap w' a L) w:=by
 have key:∀j,j<L.length->∃(g:Nat) (a':Option Addr) (c':Nat),a=some ⟨g,0,none⟩/\lo≤g/\g<w.heap.size/\w.cell? ⟨g,0+j,none⟩=some (.slice a' (rr L j).length c')/\(rr L j).length≤c':=fun j hj=>by
  obtain⟨g,u,e,h1,h2,h3,_,h5,_⟩:=h.spot hj;obtain⟨a',c',rfl,hc⟩:=Zj9 h5;exact⟨g,a',c',e,h1,h2,by rw[Nat.zero_add];exact h3,hc⟩
 refine⟨fun j hj=>?_,fun w' _ hk j hj=>?_⟩
 ·obtain⟨g,a',c',e,_,_,h3,h4⟩:=key j hj
  exact⟨g,0,a',c',e,h3,h4⟩
 ·obtain⟨g,a',c',e,h1,h2,h3,h4⟩:=key j hj
  exact⟨g,0,a',c',e,by rw[World.cell?_of_block (w:=w) (a:=⟨g,0+j,none⟩) (hk g h2 (by omega))];exact h3,h4⟩
structure Sk (q:Nat) (w:World) (p:P) (t:T) (n:Nat):Prop where
 ex:∃(aA aB aC a b:Option Addr) (cA cB cC c1 c2:Nat),Zac w q #[.slice aA p.A.length cA,.slice aB p.B.length cB,.slice aC p.C.length cC,.slice a t.rows.length c1,.slice b t.basis.length c2,.int .i64 t.cols,.int .i64 n] 88/\
  Off q (fun w'=>LpIn w'.heap.size w' aA aB aC p) w/\Off q (fun w'=>Zc4 w'.heap.size w' a b t) w/\Off q (fun w'=>RCap w' a t.rows) w
theorem Sk.only {q:Nat} {w w':World} {p:P} {t:T} {n:Nat} (h:Sk q w p t n) (hb:Below w.heap.size w w'):Sk q w' p t n:=by
 obtain⟨aA,aB,aC,a,b,cA,cB,cC,c1,c2,h1,h2,h3,h4⟩:=h;have ho:=Zaz hb (Nat.le_of_lt (Zab h1));exact⟨aA,aB,aC,a,b,cA,cB,cC,c1,c2,h1.below hb,h2.only ho,h3.only ho,h4.only ho⟩
theorem Sk.lt {q:Nat} {w:World} {p:P} {t:T} {n:Nat} (h:Sk q w p t n):q<w.heap.size:=by
 obtain⟨_,_,_,_,_,_,_,_,_,_,h1,_⟩:=h;exact Zab h1
theorem Zvw {q:Nat} {t:T} {k:Bool} {w w':World} {e:Ending} (h:Zkg t k w e w') (hq:q<w.heap.size) :
  ∃(a b:Option Addr) (c1 c2:Nat),e=.returned (.tuple #[.agg #[.slice a t.rows.length c1,.slice b t.basis.length c2,.int .i64 t.cols],.bool k])/\Off q (fun w'=>Zc4 w'.heap.size w' a b t) w'/\Off q (fun w'=>RCap w' a t.rows) w'/\Below w.heap.size w w':=by
 obtain⟨⟨vR,vB,he,hR,hB⟩,hb⟩:=h;obtain⟨a,c1,rfl⟩:=hR.shape;obtain⟨b,c2,rfl⟩:=Zam hB;have ho:Zdh w.heap.size w'.heap.size w' (.agg #[.slice a t.rows.length c1,.slice b t.basis.length c2,.int .i64 t.cols]) t:=⟨_,_,rfl,hR.res,Zby.Zhg hB fun g hg=>(World.ownsRow.lt hB g hg).2⟩;exact⟨a,b,c1,c2,he,(Off.Zwb ho.rg (.inl hq)).mono fun w' h=>Zkd h.Zbe,hR.caps hq,hb⟩
theorem Z32 {w:World} {q:Nat} {x0 x1 x2 x3 x4 x5 x6:Value} {t:TypeId} (h:Zac w q #[x0,x1,x2,x3,x4,x5,x6] t) (y3 y4 y5 y6:Value) :
  Zac ((((w.setCell ⟨q,3,none⟩ y3).setCell ⟨q,4,none⟩ y4).setCell ⟨q,5,none⟩ y5).setCell ⟨q,6,none⟩ y6) q #[x0,x1,x2,y3,y4,y5,y6] t:=by
 have:=(((h.set 3 y3).set 4 y4).set 5 y5).set 6 y6
 simpa using this
def Z11 (q:Nat) (p:P) (s:T×Nat) (r c:Int) (w:World) (e:Ending) (w':World):Prop:=
 ∃b:Bool,e=.returned (.bool b)/\Only q w w'/\(b=false->Ta.Zcc s r c=none)/\(b=true->∃s',Ta.Zcc s r c=some s'/\Sk q w' p s'.1 s'.2)/\w'.cell? ⟨q,5,none⟩=some (.int .i64 s.1.cols)
theorem Zy4 (t:T) (r c:Int):(Ta.piv t r c).cols=t.cols:=by unfold Ta.piv;split<;>rfl
theorem Sk.c5 {q:Nat} {w:World} {p:P} {t:T} {n:Nat} (h:Sk q w p t n):w.cell? ⟨q,5,none⟩=some (.int .i64 t.cols):=by
 obtain⟨_,_,_,_,_,_,_,_,_,_,h1,_⟩:=h;exact h1.cell 5
theorem Zld {q:Nat} {w:World} {p:P} {t:T} {n:Nat} (h:Sk q w p t n) (hf:Zca t) (hn:n≤1000) (r c:Int) (hr:(Lit.int .i64 r).wf=true) (hc:(Lit.int .i64 c).wf=true) :
  Calls Tryz.prog 183 #[.pointer (some ⟨q,0,none⟩),.int .i64 r,.int .i64 c] w (Z11 q p (t,n) r c w):=by
 obtain⟨aA,aB,aC,a,b,cA,cB,cC,c1,c2,h1,h2,h3,h4⟩:=h;have hlt:=Zab h1;have H1:=zH h1;have H2:=zH h2
 by_cases hfull:n<1000
 ·have hb:((n:Int) == 1000)=false:=by rw[beq_eq_false_iff_ne];omega
  have HPv:=zH (Zi5 w.heap.size a b c1 c2 t r c hr hc hf w (Nat.le_refl _) h3.1);obtain⟨KK,hKK⟩:∃KK,Ta.pivK t r c=KK:=⟨_,rfl⟩;have HK:=zH hKK;rw[hKK] at HPv;rw[show tabV a b c1 c2 t=.agg #[.slice a t.rows.length c1,.slice b t.basis.length c2,.int .i64 t.cols] from rfl] at HPv;obtain⟨⟨d0,d1,d2,d3⟩,d4,d5,d6⟩:=sevC h1;obtain⟨RL,hRL⟩:∃RL,RL=t.rows.length:=⟨_,rfl⟩;obtain⟨BL,hBL⟩:∃BL,BL=t.basis.length:=⟨_,rfl⟩;rw[<-hRL,<-hBL] at HPv;rw[<-hRL] at d3;rw[<-hBL] at d4;clear h1 h2 h3 h4 hKK hr hc hf hRL hBL
  go_enter Tryz.func183,Tryz.ntmps183
  go_wp2_with fail
  refine HPv.out.mono ?_;rintro e w1 hm;obtain⟨a',b',c1',c2',rfl,ho,hcap,k⟩:=Zvw hm hlt;have hC1:=H1.out.below k;have hO1:=H2.out.only (Zaz k (Nat.le_of_lt hlt));have hs1:=k.size;obtain⟨t1,ht1⟩:∃t1,Ta.piv t r c=t1:=⟨_,rfl⟩;rw[ht1] at ho hcap ⊢;have HT1:=zH ht1;have HPc:=zH (show t1.cols=t.cols by rw[<-ht1];exact Zy4 t r c);have up:=(Below.refl w1.heap.size w1).alloc (Nat.le_refl _) (.cells #[.slice a' t1.rows.length c1',.slice b' t1.basis.length c2',.int .i64 t1.cols] 39);have hC2:=hC1.more (.cells #[.slice a' t1.rows.length c1',.slice b' t1.basis.length c2',.int .i64 t1.cols] 39);have hP2:=hO1.only (Zaz up (by omega));have hT2:=ho.only (Zaz up (by omega));have HCp:=zH (hcap.only (Zaz up (by omega)));have hN2:=(Zaz k (Nat.le_of_lt hlt)).trans (Zaz up (by omega));have hbx:=Zac.new w1 #[.slice a' t1.rows.length c1',.slice b' t1.basis.length c2',.int .i64 t1.cols] 39;have HP2:=zH hP2;have HT2:=zH hT2;have HN2:=zH hN2;have HC2:=zH hC2;have HBX:=zH hbx;have hqne:q≠w1.heap.size:=by omega
  have Hqne:=zH hqne;clear ht1 hm ho hcap k up hC1 hO1 hs1 hC2 hP2 hT2 hN2 hbx d0 d1 d2 d3 d4 d5 d6 H1 H2 HPv;obtain⟨L1,hL1⟩:∃L1,t1.rows.length=L1:=⟨_,rfl⟩;obtain⟨L2,hL2⟩:∃L2,t1.basis.length=L2:=⟨_,rfl⟩;obtain⟨L3,hL3⟩:∃L3,t1.cols=L3:=⟨_,rfl⟩;have HL1:=zH hL1;have HL2:=zH hL2;have HL3:=zH hL3;rw[hL1,hL2,hL3] at HP2 HT2 HN2 HC2 HBX HCp;rw[hL1,hL2,hL3];clear hL1 hL2 hL3;obtain⟨W,hW⟩:∃W,W=w1.alloc (.cells #[.slice a' L1 c1',.slice b' L2 c2',.int .i64 L3] 39):=⟨_,rfl⟩;rw[<-hW] at HP2 HT2 HN2 HC2 HBX HCp;obtain⟨qb,hqb⟩:∃qb,w1.heap.size=qb:=⟨_,rfl⟩;rw[hqb] at HBX Hqne;have HW:=zH hW;have HQB:=zH hqb;clear hW hqb;obtain⟨⟨d0,d1,d2,d3⟩,d4,d5,d6⟩:=sevC HC2.out;obtain⟨⟨f0,f1,f2,f3⟩,f4,f5,f6⟩:=sevF HC2.out;have m0:W.cell? ⟨qb,0,none⟩=some (.slice a' L1 c1'):=HBX.out.cell 0;have m1:W.cell? ⟨qb,1,none⟩=some (.slice b' L2 c2'):=HBX.out.cell 1;have m2:W.cell? ⟨qb,2,none⟩=some (.int .i64 L3):=HBX.out.cell 2;have HC3:=zH (Z32 HC2.out (.slice a' L1 c1') (.slice b' L2 c2') (.int .i64 L3) (.int .i64 ((n:Int)+1)));have HN3:=zH ((((HN2.out.setCell 3 (.slice a' L1 c1')).setCell 4 (.slice b' L2 c2')).setCell 5 (.int .i64 L3)).setCell 6 (.int .i64 ((n:Int)+1)));have HS3:=zH (((((Only.refl q W).setCell 3 (.slice a' L1 c1')).setCell 4 (.slice b' L2 c2')).setCell 5 (.int .i64 L3)).setCell 6 (.int .i64 ((n:Int)+1)));cases KK with
  | true=>
   have hst:Ta.Zcc (t,n) r c=some (t1,n+1):=by rw[Ta.Zti hfull HK.out,HT1.out]
   have HST:=zH hst;clear hst HK HT1
   go_upto_region 4 with fail
   rw[HQB.out,<-HW.out]
   go_wp2_with fail
   go_ret;exact⟨true,rfl,HN3.out,(fun h=>by cases h),fun _=>⟨_,HST.out,aA,aB,aC,a',b',cA,cB,cC,c1',c2',by rw[HL1.out,HL2.out,HL3.out];exact HC3.out,HP2.out.only HS3.out,HT2.out.only HS3.out,HCp.out.only HS3.out⟩,by rw[<-HPc.out,HL3.out];exact HC3.out.cell 5⟩
  | false=>
   have hst:Ta.Zcc (t,n) r c=none:=Ta.Zxc HK.out;have HST:=zH hst;clear hst HK HT1
   go_upto_region 4 with fail
   rw[HQB.out,<-HW.out]
   go_wp2_with fail
   go_ret;exact⟨false,rfl,HN3.out,fun _=>HST.out,(fun h=>by cases h),by rw[<-HPc.out,HL3.out];exact HC3.out.cell 5⟩
 ·have hb:((n:Int) == 1000)=true:=by rw[beq_iff_eq];omega
  have hst:Ta.Zcc (t,n) r c=none:=Ta.Zqf hfull;have HST:=zH hst;obtain⟨⟨d0,d1,d2,d3⟩,d4,d5,d6⟩:=sevC h1;clear hst h1 h2 h3 h4 H2
  go_enter Tryz.func183,Tryz.ntmps183
  go_wp2_with fail
  go_ret;exact⟨false,rfl,Only.refl q w,fun _=>HST.out,(fun h=>by cases h),d5⟩
theorem Zjh (a:Option Addr) (c:Nat) (cs:List R) (hl:0<cs.length) (hm:cs.length≤1048576) (w:World) (h:Zah w.heap.size w a cs) :
  Calls Tryz.prog 131 #[.slice a cs.length c] w fun e w'=>e=.returned (.agg #[.int .i64 (Ta.negR (Ta.Zcr cs)).1,.int .i64 (Ta.negR (Ta.Zcr cs)).2])/\Below w.heap.size w w':=by
 obtain⟨m,hml⟩:∃m,cs.length=m+1:=⟨cs.length-1,by omega⟩;have HB:=zH ((Below.refl w.heap.size w).alloc (Nat.le_refl _) (.cells #[.int .i64 0,.int .i64 0] 31));have hx:=Zau.new w (0,0);obtain⟨b,o,rfl,hb,p0,p1⟩:=(h.below HB.out).at m (by omega);have hlast:Ta.Zcr cs=Ve.at_ cs m:=by unfold Ta.Zcr;rw[hml];rfl
 rw[hlast];have HX:=zH hx;rw[hml];have hm2:m+1≤1048576:=by omega
 generalize Ve.at_ cs m=y at *;have HNg:=zH (Zb9 y);obtain⟨ng,hng⟩:∃ng,Ta.negR y=ng:=⟨_,rfl⟩;rw[hng] at HNg;rw[hng];clear h hx hl hm hml hlast hng
 go_enter Tryz.func131,Tryz.ntmps131
 go_wp2_with fail
 refine (HNg.out _).mono ?_;rintro e w1 ⟨rfl,k⟩;have HX1:=zH (HX.out.below k);have HB1:=zH (HB.out.trans (k.mono HB.out.size));obtain⟨x0,x1,x2,x3⟩:=HX1.out.four;clear k
 go_wp2_with fail
 have HZ:=zH (HX1.out.set ng);refine bodyPost_ret (v:=.agg #[.int .i64 ng.1,.int .i64 ng.2]) (by
  obtain⟨z0,z1,_⟩:=HZ.out.four;revert z0 z1;generalize (World.setCell _ (⟨w.heap.size,1,none⟩:Addr) _)=W4;intro z0 z1;simp[results,Tryz.results131,go_sem,z0,z1]) rfl ⟨rfl,(HB1.out.setCell (p:=⟨w.heap.size,0,none⟩) (Nat.le_refl _) _).setCell (p:=⟨w.heap.size,1,none⟩) (Nat.le_refl _) _⟩
theorem Zic (x:R) (w:World):Calls Tryz.prog 214 #[.agg #[.int .i64 x.1,.int .i64 x.2]] w fun e w'=>e=.returned (.bool (x.1 != 0))/\Below w.heap.size w w':=by
 go_enter Tryz.func214,Tryz.ntmps214
 go_wp2_with fail
 go_ret;exact⟨rfl,by (repeat' (first|exact Below.refl _ _|exact Nat.le_refl _|refine Below.setCell ?_ ?_ _|refine Below.alloc ?_ ?_ _|refine below_drewN ?_ _|refine Below.drew ?_ | (simp;done) | (simp;omega)))⟩
theorem Zvj (x:R) (b:Bool) (h:(x.1 != 0)=b) (w:World):Calls Tryz.prog 214 #[.agg #[.int .i64 x.1,.int .i64 x.2]] w fun e w'=>e=.returned (.bool b)/\Below w.heap.size w w':=by
 rw[<-h];exact Zic x w
theorem Zml (a:Option Addr) (c n:Nat) (l:List R) (hn:n≤l.length) (hm:n≤1048576) (w:World) (h:Zah w.heap.size w a l) :
  Calls Tryz.prog 213 #[.slice a n c,.func (.func 214) #[] #[]] w fun e w'=>e=.returned (.int .i64 (Ta.fstN l n))/\Below w.heap.size w w':=by
 obtain⟨F,hF⟩:∃F,Ta.fstN l n=F:=⟨_,rfl⟩;have HF:=zH hF;rw[hF];have H1:=zH h;have HN:=zH hn;clear h hF hn
 go_enter Tryz.func213,Tryz.ntmps213
 go_wp2_with fail
 go_loopw [8] (fun i wr=>∃k:Nat,k≤n/\i=.int .i64 k/\Hid (∀j,j<k->(Ve.at_ l j).1=0)/\Hid (Below w.heap.size w wr)) (fun i _=>n-(intOf i).toNat)
 case atStart=>exact⟨0,Nat.zero_le _,rfl,fun j hj=>absurd hj (by omega),Below.refl _ _⟩
 case round=>
  obtain⟨k,hk,rfl,hA,hB⟩:=hrel
  by_cases hlt:k<n
  ·obtain⟨b,o,rfl,hb,c0,c1⟩:=(H1.out.below hB.out).at k (by have:=HN.out;omega)
   by_cases hv:(Ve.at_ l k).1=0
   ·have HA2:Hid (∀j,j<k+1->(Ve.at_ l j).1=0):=fun j hj=>by
     by_cases e:j=k
     ·subst e;exact hv
     ·exact hA.out j (by omega)
    have Hc:=zH (fun w=>Zvj (Ve.at_ l k) false (by rw[hv];rfl) w);clear hv;generalize Ve.at_ l k=x at *
    go_wp2_with fail
    refine (Hc.out _).mono ?_;rintro e w1 ⟨rfl,hb1⟩;have Hb:=zH (hB.out.trans (hb1.mono hB.out.size));clear hb1
    go_wp2_with fail
    go_roundw
    case rel=>exact⟨k+1,by omega,by go_num,HA2,Hb⟩
    case measure=>simp[intOf];omega
   ·have Hr:Hid ((k:Int)=F):=by show _=_;rw[<-HF.out,Ta.Zk3 (l:=l) hA.out hv n hlt]
    have Hc:=zH (fun w=>Zvj (Ve.at_ l k) true (by rw[bne_iff_ne];exact hv) w);clear hv;generalize Ve.at_ l k=x at *
    go_wp2_with fail
    refine (Hc.out _).mono ?_;rintro e w1 ⟨rfl,hb1⟩;have Hb:=zH (hB.out.trans (hb1.mono hB.out.size));clear hb1
    go_wp2_with fail
    go_ret;exact⟨Za8 Hr.out,Hb.out⟩
  ·have Hr:Hid (-1=F):=by
    show _=_;rw[<-HF.out,Ta.Zj4 (l:=l) (k:=n) fun j hj=>hA.out j (by omega)]
   go_wp2_with fail
   go_ret;exact⟨Za8 Hr.out,hB.out⟩
theorem Zi7 {q:Nat} {w:World} {p:P} {t:T} {n:Nat} (h:Sk q w p t n) (hv:Lp.vldP p=true) (hs:Ta.Same p (t,n)) (i:Nat) (hi:i<t.rows.length) :
  Calls Tryz.prog 185 #[.pointer (some ⟨q,0,none⟩),.int .i64 i] w fun e w'=>e=.returned (.int .i64 (Ta.fstN (Ta.row t i) t.cols.toNat))/\Below w.heap.size w w':=by
 obtain⟨hfit,hr8,hc0,hc70,_⟩:=Zcs hv hs;obtain⟨g1,g2,g3,g4⟩:=Ta.Za2 hs.1;obtain⟨aA,aB,aC,a,b,cA,cB,cC,c1,c2,h1,_,h3,h4⟩:=h;obtain⟨⟨d0,d1,d2,d3⟩,d4,d5,d6⟩:=sevC h1;have hq:=Zab h1;obtain⟨bR,oR,a',c',e1,hbR,hcell,hrats⟩:=h3.1.mR i hi;obtain⟨bR',oR',a'',c'',e2,hcell2,hcap⟩:=h4.1 i hi;rw[e1] at e2;injection e2 with e2
 injection e2 with e2 e3
 subst e2 e3;rw[hcell] at hcell2;injection hcell2 with hcell2
 injection hcell2 with e4 e5 e6
 subst e4 e6;have hlen:((rr t.rows i).length:Int)=t.cols+t.rows.length+1:=(g4 i hi).1;obtain⟨N,hN⟩:∃N:Nat,t.cols=N:=⟨t.cols.toNat,by omega⟩;have HIx:=zH (fun (w':World) (hb:Below w.heap.size w w')=>Zml a' c' N (rr t.rows i) (by omega) (by omega) w' ((hrats.below hb).mono hb.size));rw[show Ta.row t i=rr t.rows i from rfl,hN,Int.toNat_natCast];rw[hN] at d5;subst e1;obtain⟨F,hF⟩:∃F,Ta.fstN (rr t.rows i) N=F:=⟨_,rfl⟩;rw[hF] at HIx ⊢;have hcN:N≤c':=by omega
 have hN70:N≤70:=by omega
 have hc9:c'≤c':=Nat.le_refl _;have Cell:=zH (fun w' (hb:Below w.heap.size w w')=>(show w'.cell? ⟨q,3,none⟩=some (.slice (some ⟨bR,oR,none⟩) t.rows.length c1)/\w'.cell? ⟨q,5,none⟩=some (.int .i64 N)/\w'.cell? ⟨bR,oR+i,none⟩=some (.slice a' (rr t.rows i).length c')/\Below w.heap.size w w' from
  ⟨(hb.cell (p:=⟨q,3,none⟩) hq).trans d3,(hb.cell (p:=⟨q,5,none⟩) hq).trans d5,(hb.cell (p:=⟨bR,oR+i,none⟩) hbR).trans hcell,hb⟩))
 have hb0:Below w.heap.size w w.drew:=(Below.refl _ _).drew;generalize (rr t.rows i).length=RL at *;generalize t.rows.length=TL at *;clear hfit g1 g2 g3 g4 h1 h3 h4 d0 d1 d2 d3 d4 d5 d6 hcell hrats hs hv hN hF hlen hcap
 go_enter Tryz.func185,Tryz.ntmps185
 go_upto_region 1 with fail
 refine Zaf (S:=(fun w'=>w'.cell? ⟨q,3,none⟩=some (.slice (some ⟨bR,oR,none⟩) TL c1)/\w'.cell? ⟨q,5,none⟩=some (.int .i64 N)/\w'.cell? ⟨bR,oR+i,none⟩=some (.slice a' RL c')/\Below w.heap.size w w')) 15 (by kernel_rfl) ?_ (fun hHeld=>?_)
 ·exact Cell.out _ hb0
 refine tk2 0 ⟨some 5,_,156,_,_,none⟩ ?_;refine tk2 1 ⟨some 6,_,0,_,_,none⟩ ?_;refine tk2 2 ⟨some 7,_,0,_,_,none⟩ ?_;refine tk2 3 ⟨some 8,_,0,_,_,none⟩ ?_;refine tk2 4 ⟨some 9,_,37,_,_,none⟩ ?_;refine tk2 5 ⟨some 10,_,3,_,_,none⟩ ?_;refine tk2 6 ⟨some 11,_,0,_,_,none⟩ ?_;refine tk2 7 ⟨some 12,_,26,_,_,none⟩ ?_;refine tk2 8 ⟨some 13,_,156,_,_,none⟩ ?_;refine tk2 9 ⟨some 14,_,0,_,_,none⟩ ?_;refine tk2 10 ⟨some 15,_,0,_,_,none⟩ ?_;refine tk2 11 ⟨some 16,_,0,_,_,none⟩ ?_;refine tk2 12 ⟨some 17,_,3,_,_,none⟩ ?_;refine tk2 13 ⟨some 18,_,26,_,_,none⟩ ?_
 try simp only[Act.put,zA,zB,zC]
 refine rd2 14 ⟨some 19,_,3,_,_,none⟩ fun K hK=>?_
 go_simp
 (refine (HIx.out _ hb0).mono ?_;rintro e w1 ⟨rfl,k⟩;have hb1:=hb0.trans (k.mono hb0.size))
 refine hK.out _ _ ?_ (fun hHeld=>?_)
 ·exact Cell.out _ hb1
 clear hK K
 try simp only[Act.put,zA,zB,zC]
 refine rd3 15 ⟨some 4,_,3,_,_,none⟩ fun K hK=>?_
 go_simp
 refine hK.out _ _ ?_;clear hK K
 try simp only[Act.put,zA,zB,zC]
 refine Zal (by kernel_rfl) ?_ _
 go_wp2_with fail
 go_ret;exact⟨rfl,hb1⟩
theorem Zkq:∀(xs:List R) (n:Nat),Zaq (xs.take n)=(Zaq xs).take (n*2)
 | [],n=>by simp[Zaq]
 | x::xs,0=>by simp[Zaq]
 | x::xs,n+1=>by
  rw[show (n+1)*2=n*2+1+1 by omega];simp only[List.take_succ_cons,Zaq,Zkq xs n]
theorem Zwg {B n c:Nat} {w:World} {a:Option Addr} {xs:List R} (h:Zaa B w (.slice a xs.length c) xs) (hn:n≤xs.length):Zaa B w (.slice a n c) (xs.take n):=by
 have hl:(xs.take n).length=n:=by rw[List.length_take];omega
 obtain⟨h1,⟨hv,h0⟩ | ⟨g,cap,cur,e,hg,hh,hc,hm,hs,ht⟩⟩:=h
 ·injection hv with e1 e2 e3
  subst e1 e3;have h2:n=0:=by omega
  subst h2;exact Zaa.nil B w
 ·injection e with e1 e2 e3
  subst e1 e3;refine⟨by rw[Zb7],.inr ⟨g,c,cur,by rw[hl],hg,hh,by omega,hm,hs,?_⟩⟩;rw[hl,Zkq,<-ht,List.take_take,Nat.min_eq_left (by omega)]
theorem Z29 {t:T} (hg:Ta.good t=true) (h0:0≤t.cols):t.cols.toNat≤(Ta.solR t).length:=by
 unfold Ta.solR;rw[hg,if_pos rfl,Ta.Zhr];omega
theorem Zig {q:Nat} {w:World} {p:P} {t:T} {n:Nat} (h:Sk q w p t n) (hv:Lp.vldP p=true) (hs:Ta.Same p (t,n)) :
  Calls Tryz.prog 186 #[.pointer (some ⟨q,0,none⟩)] w (Zbg (Ta.xR t) w):=by
 obtain⟨hfit,hr8,hc0,hc70,_⟩:=Zcs hv hs;obtain⟨aA,aB,aC,a,b,cA,cB,cC,c1,c2,h1,_,h3,h4⟩:=h;obtain⟨⟨d0,d1,d2,d3⟩,d4,d5,d6⟩:=sevC h1;have hq:=Zab h1;have hl:=Z29 hs.1 hc0;have hHS:=fun (w':World) (hb:Below w.heap.size w w')=>Zk9 w.heap.size a b c1 c2 t hfit (fun _=>by omega) w' hb.size (h3.1.below hb)
 rw[show tabV a b c1 c2 t=.agg #[.slice a t.rows.length c1,.slice b t.basis.length c2,.int .i64 t.cols] from rfl] at hHS;have HS:=zH hHS;obtain⟨X,hX⟩:∃X,Ta.solR t=X:=⟨_,rfl⟩;obtain⟨N,hN⟩:∃N:Nat,t.cols=N:=⟨t.cols.toNat,by omega⟩;have hxr:Ta.xR t=X.take N:=by unfold Ta.xR;rw[hX,hN];rfl
 rw[hX] at HS hl;rw[hxr];rw[hN,Int.toNat_natCast] at hl;rw[hN] at d5 HS;have Hl:=zH hl;have hN70:N≤70:=by omega
 have Cell:=zH (fun w' (hb:Below w.heap.size w w')=>(show w'.cell? ⟨q,3,none⟩=some (.slice a t.rows.length c1)/\w'.cell? ⟨q,4,none⟩=some (.slice b t.basis.length c2)/\w'.cell? ⟨q,5,none⟩=some (.int .i64 N)/\Below w.heap.size w w' from
  ⟨(hb.cell (p:=⟨q,3,none⟩) hq).trans d3,(hb.cell (p:=⟨q,4,none⟩) hq).trans d4,(hb.cell (p:=⟨q,5,none⟩) hq).trans d5,hb⟩))
 have hb0:Below w.heap.size w w.drew:=(Below.refl _ _).drew;generalize t.basis.length=BL at *;generalize t.rows.length=TL at *;clear hfit h1 h3 h4 d0 d1 d2 d3 d4 d5 d6 hs hv hN hX hxr hl hHS hr8 hc0 hc70
 go_enter Tryz.func186,Tryz.ntmps186
 go_upto_region 1 with fail
 refine Zaf (S:=(fun w'=>w'.cell? ⟨q,3,none⟩=some (.slice a TL c1)/\w'.cell? ⟨q,4,none⟩=some (.slice b BL c2)/\w'.cell? ⟨q,5,none⟩=some (.int .i64 N)/\Below w.heap.size w w')) 11 (by kernel_rfl) ?_ (fun hHeld=>?_)
 ·exact Cell.out _ hb0
 refine tk2 0 ⟨some 3,_,156,_,_,none⟩ ?_;refine tk2 1 ⟨some 4,_,0,_,_,none⟩ ?_;refine tk2 2 ⟨some 5,_,0,_,_,none⟩ ?_;refine tk2 3 ⟨some 6,_,39,_,_,none⟩ ?_;refine tk2 5 ⟨some 8,_,156,_,_,none⟩ ?_;refine tk2 6 ⟨some 9,_,0,_,_,none⟩ ?_;refine tk2 7 ⟨some 10,_,0,_,_,none⟩ ?_;refine tk2 8 ⟨some 11,_,0,_,_,none⟩ ?_;refine tk2 9 ⟨some 12,_,3,_,_,none⟩ ?_
 try simp only[Act.put,zA,zB,zC]
 refine rd2 4 ⟨some 7,_,26,_,_,none⟩ fun K hK=>?_
 go_simp
 (refine (HS.out _ hb0).mono ?_;rintro e w1 ⟨v,rfl,hO,k⟩;obtain⟨av,cv,rfl,hle⟩:=Zj9 hO;have hb1:=hb0.trans (k.mono hb0.size);have Hv:=zH (Zwg (hO.lower hb0.size) Hl.out);have hNX:N≤X.length:=Hl.out;generalize X.length=XL at *;have hcv:N≤cv:=by omega)
 refine hK.out _ _ ?_ (fun hHeld=>?_)
 ·exact Cell.out _ hb1
 clear hK K;refine tk2 10 ⟨some 13,_,26,_,_,none⟩ ?_
 try simp only[Act.put,zA,zB,zC]
 refine rd3 11 ⟨some 2,_,26,_,_,none⟩ fun K hK=>?_
 go_simp
 refine hK.out _ _ ?_;clear hK K
 try simp only[Act.put,zA,zB,zC]
 refine Zal (by kernel_rfl) ?_ _
 go_wp2_with fail
 go_ret;exact⟨_,rfl,Hv.out,hb1⟩
theorem Zye (an ad bn bd:Int):∃kk:Bool,∀w:World,Calls Tryz.prog 212 #[.agg #[.int .i64 an,.int .i64 ad],.agg #[.int .i64 bn,.int .i64 bd]] w fun e w'=>e=.returned (.tuple #[.agg #[.int .i64 (Ta.subR (an,ad) (bn,bd)).1,.int .i64 (Ta.subR (an,ad) (bn,bd)).2],.bool kk])/\Below w.heap.size w w':=
 ⟨_,fun w=>Zrc an ad bn bd w⟩
theorem Zm6 {q:Nat} {w:World} {p:P} {t:T} {n:Nat} (h:Sk q w p t n) (hv:Lp.vldP p=true) (hcols:t.cols=p.C.length) (ad:Option Addr) (cc:Nat) (cs:List R) (hcs:cs.length=p.C.length+p.A.length+1) (base:Int) (hk:Zah w.heap.size w ad cs) :
  Calls Tryz.prog 184 #[.pointer (some ⟨q,0,none⟩),.slice ad cs.length cc,.agg #[.int .i64 base,.int .i64 1]] w (Zbg (Ta.Zc8 p cs base) w):=by
 obtain⟨_,hC70,hA8,hBA,_,_⟩:=Lp.Zas hv;have HW:=zH h;have HK:=zH hk;obtain⟨CL,hCL⟩:∃CL,p.C.length=CL:=⟨_,rfl⟩;obtain⟨AL,hAL⟩:∃AL,p.A.length=AL:=⟨_,rfl⟩;obtain⟨NL,hNL⟩:∃NL,cs.length=NL:=⟨_,rfl⟩;have HCL:=zH hCL;have HAL:=zH hAL;have HNL:=zH hNL;have HBA:=zH (show p.B.length=AL by rw[<-hAL];exact hBA);have HTC:=zH hcols;have hNN:NL=CL+AL+1:=by rw[<-hNL,<-hCL,<-hAL];exact hcs
 have HNN:=zH hNN;have hC1:CL≤70:=by omega
 have hA1:AL≤8:=by omega
 rw[hNL];have Hb:=zH ((Below.refl w.heap.size w).alloc (Nat.le_refl _) (.cells #[.int .i64 base,.int .i64 1] 31));have HA0:=zH (Zac.new w #[.int .i64 base,.int .i64 1] 31);have HW0:=zH (HW.out.only Hb.out);obtain⟨aA,aB,aC,a,b,cA,cB,cC,c1,c2,h1,_⟩:=HW0.out;rw[HAL.out,HBA.out,HTC.out,HCL.out] at h1;obtain⟨⟨d0,d1,d2,d3⟩,d4,d5,d6⟩:=sevC h1;have Ho:=zH (show Zaa (w.heap.size+1) (w.alloc (.cells #[.int .i64 base,.int .i64 1] 31)) (.slice none 0 0) ((List.range 0).map (Ta.Zek p cs base)) from Zaa.nil _ _);obtain⟨b2x,o2x,hB2⟩:∃b2 o2:Nat,∀j,j<AL->aB=some ⟨b2,o2,none⟩/\b2<w.heap.size/\∀wr,Below w.heap.size w wr->wr.cell? ⟨b2,o2+j,none⟩=some (.int .i64 (p.B.getD j 0)):=by
  obtain⟨aA',aB',aC',a',b',cA',cB',cC',c1',c2',h1',h2',_⟩:=h;have e1:=(h1'.below Hb.out).cell 1;have e2:=h1.cell 1;have e3:=e1.symm.trans e2;simp at e3;obtain⟨e3,_⟩:=e3;subst e3
  by_cases hz:AL=0
  ·exact⟨0,0,fun j hj=>absurd hj (by omega)⟩
  ·obtain⟨b2,o2,e,hb2,_⟩:=h2'.1.mB 0 (by rw[HBA.out];omega)
   refine⟨b2,o2,fun j hj=>?_⟩;obtain⟨b3,o3,e',hb3,hc3⟩:=h2'.1.mB j (by rw[HBA.out];omega);rw[e] at e';injection e' with e'
   injection e' with e4 e5
   subst e4 e5;exact⟨e,hb2,fun wr hb=>(hb.cell (p:=⟨b2,o2+j,none⟩) hb2).trans hc3⟩
 have HB2:=zH hB2;clear h hk hcs hCL hAL hNL hBA hcols hNN hC70 hA8 h1 d0 d2 d3 d4 d5 d6 hB2 HW0
 go_enter Tryz.func184,Tryz.ntmps184
 go_wp2_with fail
 clear d1
 go_loopw [7,18] (fun v i wr=>∃k:Nat,k≤AL/\i=.int .i64 k/\Hid (Zaa (w.heap.size+1) wr v ((List.range k).map (Ta.Zek p cs base)))/\Hid (Zac wr w.heap.size #[.int .i64 base,.int .i64 1] 31)/\Hid (Below w.heap.size w wr)) (fun _ i _=>AL-(intOf i).toNat)
 case atStart=>exact⟨0,Nat.zero_le _,rfl,Ho.out,HA0.out,Hb.out⟩
 case round=>
  obtain⟨k,hk,rfl,hO,hA,hB⟩:=hrel
  by_cases hlt:k<AL
  ·obtain⟨aA',aB',aC',a',b',cA',cB',cC',c1',c2',h1,h2,_⟩:=(HW.out.only hB.out)
   rw[HAL.out,HBA.out,HTC.out,HCL.out] at h1;obtain⟨⟨_,_,_,_⟩,_,d5,_⟩:=sevC h1;have hqw:=HW.out.lt;have hqr:q<wr.heap.size:=by have:=hB.out.size;omega
   have hck:CL+k<cs.length:=by have:=HNL.out;have:=HNN.out;omega
   obtain⟨b1,o1,rfl,hbb,r0,r1⟩:=(HK.out.below hB.out).at (CL+k) hck;obtain⟨rfl,hbb2,hg0⟩:=HB2.out k hlt;have g0:=hg0 wr hB.out;have hq1:b1<wr.heap.size:=Nat.lt_of_lt_of_le hbb hB.out.size;have hq2:w.heap.size<wr.heap.size:=Zab hA.out;obtain⟨x0,x1,_,_⟩:=twoc hA.out;have He:=zH (Zo9 p cs base k);have HD:=zH (show Ta.Zek p cs base k=if p.B.getD k 0<0 then Ta.negR (Ta.subR (base,1) (Ve.at_ cs (CL+k))) else Ta.subR (base,1) (Ve.at_ cs (CL+k)) by unfold Ta.Zek;rw[HCL.out]);have Hlen:=zH (show ((List.range k).map (Ta.Zek p cs base)).length≤k by simp);obtain⟨kb,hkb⟩:=Zye base 1 (Ve.at_ cs (CL+k)).1 (Ve.at_ cs (CL+k)).2;have HX2:=zH hkb;clear hkb;obtain⟨sx,hsx⟩:∃sx,Ta.subR (base,1) (Ve.at_ cs (CL+k))=sx:=⟨_,rfl⟩;rw[show ((Ve.at_ cs (CL+k)).1,(Ve.at_ cs (CL+k)).2)=Ve.at_ cs (CL+k) from rfl,hsx] at HX2;rw[hsx] at HD;have HNg:=zH (Zb9 sx);obtain⟨ng,hng⟩:∃ng,Ta.negR sx=ng:=⟨_,rfl⟩;rw[hng] at HNg HD;obtain⟨sn,sd⟩:=sx;obtain⟨nn,nd⟩:=ng;generalize (List.range k).map (Ta.Zek p cs base)=ls at *;generalize Ta.Zek p cs base k=dk at *;generalize (Ve.at_ cs (CL+k)).1=e1 at *;generalize (Ve.at_ cs (CL+k)).2=e2 at *;generalize p.B.getD k 0=bk at *;have hwrap:IntKind.i64.wrap ((CL:Int)+(k:Int))=(CL:Int)+(k:Int):=IntWalk.i64_in _ (by omega);have hck0:(0:Int)≤(CL:Int)+(k:Int):=by omega
   have hcki:((CL:Int)+(k:Int)).toNat=CL+k:=by omega
   have hckl:(CL:Int)+(k:Int)<(NL:Int):=by have:=HNN.out;omega
   have HKp:Hid (∀w',Since wr w'->w'.cell? ⟨q,5,none⟩=some (.int .i64 CL)/\w'.cell? ⟨b1,o1+(CL+k)*2,none⟩=some (.int .i64 e1)/\w'.cell? ⟨b1,o1+(CL+k)*2+1,none⟩=some (.int .i64 e2)/\w'.cell? ⟨w.heap.size,0,none⟩=some (.int .i64 base)/\w'.cell? ⟨w.heap.size,1,none⟩=some (.int .i64 1)/\Since wr w'):=fun w' hs=>⟨hs.cell hqr d5,hs.cell hq1 r0,hs.cell hq1 r1,hs.cell hq2 x0,hs.cell hq2 x1,hs⟩
   have hin:=(Since.refl wr).drew;clear hsx hng h1 h2 hg0
   go_upto_region 5 with fail
   go_cut [10,11] (fun bx kk wx=>Got2 wr sn sd kb bx kk wx)
   case first=>
    refine wp_region_held_drew (S:=fun w'=>w'.cell? ⟨q,5,none⟩=some (.int .i64 CL)/\w'.cell? ⟨b1,o1+(CL+k)*2,none⟩=some (.int .i64 e1)/\w'.cell? ⟨b1,o1+(CL+k)*2+1,none⟩=some (.int .i64 e2)/\w'.cell? ⟨w.heap.size,0,none⟩=some (.int .i64 base)/\w'.cell? ⟨w.heap.size,1,none⟩=some (.int .i64 1)/\Since wr w') (by kernel_rfl) ?_ (fun hHeld=>?_)
    ·exact HKp.out _ hin
    have hh:=hin;refine tk1 0 ⟨some 24,_,31,_,_,none⟩ ?_;refine tk1 1 ⟨some 25,_,26,_,_,none⟩ ?_;refine tk1 2 ⟨some 26,_,156,_,_,none⟩ ?_;refine tk1 3 ⟨some 27,_,0,_,_,none⟩ ?_;refine tk1 4 ⟨some 28,_,0,_,_,none⟩ ?_;refine tk1 5 ⟨some 29,_,0,_,_,none⟩ ?_;refine tk1 6 ⟨some 30,_,3,_,_,none⟩ ?_;refine tk1 7 ⟨some 31,_,3,_,_,none⟩ ?_;refine tk1 8 ⟨some 32,_,3,_,_,none⟩ ?_;refine tk1 9 ⟨some 33,_,0,_,_,none⟩ ?_;refine tk1 10 ⟨some 34,_,31,_,_,none⟩ ?_
    try simp only[Act.put,zA,zB,zC]
    refine wpAnyH_ready (rs:=[11,15]) (by kernel_rfl) (by simp) ?_;refine AllReadyH.cons (o:=⟨some 35,.call { callee:=.value (.func 212),args:=#[.tmp 24,.tmp 34],argTypes:=#[31,31] },107,"l07_simplex.go:176",#[⟨0,.data⟩,⟨10,.data⟩],none⟩) (rs:=[15]) rfl (fun K hK=>?_) (AllReadyH.cons (o:=⟨some 10,.alloc 31,0,"l07_simplex.go:176",#[],none⟩) (rs:=[]) rfl (fun K hK=>?_) AllReadyH.nil)
    ·go_simp
     (go_at_call 212;refine (Za9 (HX2.out _) hh).mono ?_;rintro e wb ⟨⟨rfl,_⟩,hh2⟩;clear hh;have hh:=hh2;clear hh2)
     refine hK.out _ _ ?_ (fun hHeld=>?_)
     ·exact HKp.out _ hh
     clear hK K;refine tk1 12 ⟨some 23,_,107,_,_,none⟩ ?_;refine tk1 13 ⟨some 36,_,31,_,_,none⟩ ?_;refine tk1 14 ⟨some 37,_,4,_,_,none⟩ ?_
     try simp only[Act.put,zA,zB,zC]
     refine rd1 15 ⟨some 10,_,0,_,_,none⟩ fun K hK=>?_
     go_simp
     skip
     refine hK.out _ _ ?_ (fun hHeld=>?_)
     ·exact HKp.out _ (hh.alloc _)
     clear hK K
     try simp only[Act.put,zA,zB,zC]
     refine rd1 16 ⟨none,_,0,_,_,none⟩ fun K hK=>?_
     go_simp
     skip
     refine hK.out _ _ ?_ (fun hHeld=>?_)
     ·exact HKp.out _ (hh.alloc _)
     clear hK K;refine tk1 17 ⟨some 11,_,4,_,_,none⟩ ?_
     try simp only[Act.put,zA,zB,zC]
     refine wpAnyH_done (by kernel_rfl) ?_ _
     go_wp2_with fail
     go_meet
     exact Got2.last hh _ _ _
    ·go_simp
     skip
     refine hK.out _ _ ?_ (fun hHeld=>?_)
     ·exact HKp.out _ (hh.alloc _)
     clear hK K;have ho:Own2 wr (.int .i64 0) (.int .i64 0) 31 wr.heap.size _:=hh.new (.int .i64 0) (.int .i64 0) 31;refine rd1 11 ⟨some 35,_,107,_,_,none⟩ fun K hK=>?_
     go_simp
     (go_at_call 212;refine (Zcn (HX2.out _) ho).mono ?_;rintro e wb ⟨⟨rfl,_⟩,ho2⟩;clear ho;have ho:=ho2;clear ho2;obtain⟨z0,z1,f0,f1⟩:=Own2.own ho)
     refine hK.out _ _ ?_ (fun hHeld=>?_)
     ·exact HKp.out _ ho.since
     clear hK K;refine tk1 12 ⟨some 23,_,107,_,_,none⟩ ?_;refine tk1 13 ⟨some 36,_,31,_,_,none⟩ ?_;refine tk1 14 ⟨some 37,_,4,_,_,none⟩ ?_
     try simp only[Act.put,zA,zB,zC]
     refine rd1 16 ⟨none,_,0,_,_,none⟩ fun K hK=>?_
     go_simp
     skip
     refine hK.out _ _ ?_ (fun hHeld=>?_)
     ·exact HKp.out _ (ho.set2 _ _)
     clear hK K;refine tk1 17 ⟨some 11,_,4,_,_,none⟩ ?_
     try simp only[Act.put,zA,zB,zC]
     refine wpAnyH_done (by kernel_rfl) ?_ _
     go_wp2_with fail
     go_meet
     exact Got2.set ho _ _ _
   case rest=>
    obtain⟨w3,rfl⟩:∃q:World,q=wc:=⟨_,rfl⟩;obtain⟨qx,rfl,rfl,hcx,hqx,hs3⟩:=hcut;have hB3:=zH (hB.out.trans (hs3.low.mono hB.out.size));have hO3:=zH (hO.out.below hs3.low);have hA3:=zH (hA.out.below hs3.low);have g3:=hs3.cell (p:=⟨b2x,o2x+k,none⟩) (by have:=hB.out.size;show b2x<_;omega) g0;have HCX:=zH hcx;have hon:∀g,u7.ownBlock=some g->g≠qx:=fun g hg=>by have:=(World.ownsRow.lt hO.out g hg).2;omega
    have HOn:=zH hon;have hne:w.heap.size≠qx:=by omega
    have Hne:=zH hne;have Hge:=zH (show w.heap.size≤qx by omega);obtain⟨y0,y1,f0,f1⟩:=twoc hcx;clear hin HKp HX2 hO hA hon d5 r0 r1 x0 x1 g0 hcx hs3 hwrap hck0 hcki hckl hqr hq1 hq2 hne hqx
    by_cases hneg:bk<0
    ·have q1:decide (bk<0)=true:=decide_eq_true hneg
     have HDk:=zH (show (nn,nd)=dk by rw[HD.out,if_pos hneg]);clear HD hneg
     go_upto_region 7 with fail
     go_wp2_with fail
     refine (HNg.out _).mono ?_;rintro e w4 ⟨rfl,k4⟩;have hc4:=HCX.out.below k4;have hB4:=hB3.out.trans (k4.mono hB3.out.size);have hO4:=hO3.out.below k4;have hA4:=hA3.out.below k4;obtain⟨y0',y1',f0',f1'⟩:=twoc hc4;have HBx:=zH ((hB4.setCell (p:=⟨qx,0,none⟩) Hge.out (.int .i64 nn)).setCell (p:=⟨qx,1,none⟩) Hge.out (.int .i64 nd));have HOx:Hid (Zaa (w.heap.size+1) ((w4.setCell ⟨qx,0,none⟩ (.int .i64 nn)).setCell ⟨qx,1,none⟩ (.int .i64 nd)) u7 ls):=Zao (Zao hO4 (fun e=>HOn.out _ e rfl)) (fun e=>HOn.out _ e rfl);have HAx:=zH ((hA4.other (p:=⟨qx,0,none⟩) (Ne.symm Hne.out) (.int .i64 nn)).other (p:=⟨qx,1,none⟩) (Ne.symm Hne.out) (.int .i64 nd));have HCX5:Hid (Zac ((w4.setCell ⟨qx,0,none⟩ (.int .i64 nn)).setCell ⟨qx,1,none⟩ (.int .i64 nd)) qx #[.int .i64 nn,.int .i64 nd] 31):=by
      have:=(hc4.set 0 (.int .i64 nn)).set 1 (.int .i64 nd);exact zH (by simpa using this)
     clear hO3 hA3 hB3 HCX k4 hc4 hB4 hO4 hA4 y0 y1 f0 f1 g3
     go_upto_region 8 with fail
     clear y0' y1' f0' f1';generalize ((w4.setCell ⟨qx,0,none⟩ (.int .i64 nn)).setCell ⟨qx,1,none⟩ (.int .i64 nd))=w5 at *;obtain⟨x0,x1,_,_⟩:=twoc HCX5.out;have Hone:=zH (Zb2 w5 (nn,nd));have hsw:=HBx.out.size;have hlenx:=Hlen.out;have Hown:Hid (Zaa (w.heap.size+1) (w5.alloc (.cells #[.int .i64 nn,.int .i64 nd] 31)) _ ls):=Zaa.alloc HOx.out (.cells #[.int .i64 nn,.int .i64 nd] 31)
     go_wp2_with (at_builtin;refine Zaj rfl _ _ rfl (w.heap.size+1) _ ls rfl Hown.out _ [(nn,nd)] 1 1 rfl rfl _ Hone.out (by simp;omega) (by rw[Zar];omega) ?_)
     intro v4 w4 hown hgrow;have hkb:Below w.heap.size w5 w4:=((Below.refl w.heap.size w5).alloc (by omega) (.cells #[.int .i64 nn,.int .i64 nd] 31)).grown hgrow (by rw[Zar];omega) (fun g hg=>by have:=(World.ownsRow.lt Hown.out g hg).1;omega);have HB4:=zH (HBx.out.trans hkb);have HO4:=zH hown;have h9:=HAx.out.more (.cells #[.int .i64 nn,.int .i64 nd] 31);have HA4:Hid (Zac w4 w.heap.size #[.int .i64 base,.int .i64 1] 31):=(hgrow.block w.heap.size (Zab h9) (fun e=>by have:=(World.ownsRow.lt Hown.out _ e.symm).1;omega)).trans h9;rw[HDk.out,<-He.out] at HO4;clear h9 hown hgrow hkb hsw Hown Hone HBx HOx HAx hlenx x0 x1
     go_wp2_with fail
     go_roundw
     case rel=>exact⟨k+1,by omega,by go_num,HO4,HA4,HB4⟩
     case measure=>simp[intOf];omega
    ·have q1:decide (bk<0)=false:=decide_eq_false hneg
     have HDk:=zH (show (sn,sd)=dk by rw[HD.out,if_neg hneg]);have HBx:=hB3;have HOx:=hO3;have HAx:=hA3;have HCX5:=HCX;clear HD hneg
     go_upto_region 8 with fail
     clear y0 y1 f0 f1;obtain⟨x0,x1,_,_⟩:=twoc HCX5.out;have Hone:=zH (Zb2 w3 (sn,sd));have hsw:=HBx.out.size;have hlenx:=Hlen.out;have Hown:Hid (Zaa (w.heap.size+1) (w3.alloc (.cells #[.int .i64 sn,.int .i64 sd] 31)) _ ls):=Zaa.alloc HOx.out (.cells #[.int .i64 sn,.int .i64 sd] 31)
     go_wp2_with (at_builtin;refine Zaj rfl _ _ rfl (w.heap.size+1) _ ls rfl Hown.out _ [(sn,sd)] 1 1 rfl rfl _ Hone.out (by simp;omega) (by rw[Zar];omega) ?_)
     intro v4 w4 hown hgrow;have hkb:Below w.heap.size w3 w4:=((Below.refl w.heap.size w3).alloc (by omega) (.cells #[.int .i64 sn,.int .i64 sd] 31)).grown hgrow (by rw[Zar];omega) (fun g hg=>by have:=(World.ownsRow.lt Hown.out g hg).1;omega);have HB4:=zH (HBx.out.trans hkb);have HO4:=zH hown;have h9:=HAx.out.more (.cells #[.int .i64 sn,.int .i64 sd] 31);have HA4:Hid (Zac w4 w.heap.size #[.int .i64 base,.int .i64 1] 31):=(hgrow.block w.heap.size (Zab h9) (fun e=>by have:=(World.ownsRow.lt Hown.out _ e.symm).1;omega)).trans h9;rw[HDk.out,<-He.out] at HO4;clear h9 hown hgrow hkb hsw Hown Hone HBx HOx HAx hlenx x0 x1
     go_wp2_with fail
     go_roundw
     case rel=>exact⟨k+1,by omega,by go_num,HO4,HA4,HB4⟩
     case measure=>simp[intOf];omega
  ·obtain rfl:k=AL:=by omega
   have HE:=zH (show (List.range k).map (Ta.Zek p cs base)=Ta.Zc8 p cs base by unfold Ta.Zc8;rw[HAL.out]);generalize Ta.Zc8 p cs base=DR at *;generalize (List.range k).map (Ta.Zek p cs base)=ls at *
   go_wp2_with fail
   go_ret;exact⟨_,rfl,by rw[<-HE.out];exact hO.out.lower (Nat.le_succ _),hB.out⟩
theorem Zxl (m c:Nat):(Lp.Za1 m).set c (1,1)=ray0 c m:=by
 apply List.ext_getElem
 ·simp[Lp.Za1,ray0]
 ·intro i h1 h2
  by_cases e:i=c
  ·subst e;simp[ray0,Lp.Za1]
  ·have e':¬c=i:=fun h=>e h.symm
   simp[ray0,Lp.Za1,e,e']
theorem Zx9 {q:Nat} {w:World} {p:P} {t:T} {n:Nat} (h:Sk q w p t n) (hv:Lp.vldP p=true) (hS:Ta.Same p (t,n)) (c:Nat) (hc:(c:Int)<t.cols) :
  Calls Tryz.prog 187 #[.pointer (some ⟨q,0,none⟩),.int .i64 c] w (Zbg (Ta.Zdn t c p.A.length) w):=by
 have hq:=h.lt;obtain⟨hft,hr8,hc0,hc70,hn1⟩:=Zcs hv hS;obtain⟨g1,g2,g3,g4⟩:=hS;simp only at g1 g2 g3;obtain⟨_,_,g5,g6⟩:=Ta.Za2 g1;obtain⟨AL,hAL⟩:∃AL,p.A.length=AL:=⟨_,rfl⟩;rw[hAL];have hRA:t.rows.length=AL:=g2.trans hAL;have HRA:=zH hRA;have HG6:=zH g6;have HBL:=zH (g5.trans hRA);obtain⟨TN,hTN⟩:∃TN:Nat,t.cols=TN:=⟨t.cols.toNat,by omega⟩;have HTN:=zH hTN;have hT1:TN≤70:=by omega
 have hcT:c<TN:=by omega
 have hA8:AL≤8:=by omega
 have HE:=zH (show (Lp.Za1 TN).set c (1,1)=Ta.Zdn t c 0 by rw[Zxl];show _=(List.range t.cols.toNat).map _;rw[hTN];rfl);obtain⟨aA,aB,aC,a,b,cA,cB,cC,c1,c2,h1,_,h3,_⟩:=h;rw[HRA.out,HBL.out,HTN.out] at h1;have HC1:=zH h1;have H3:=zH h3;obtain⟨⟨d0,d1,d2,d3⟩,d4,d5,d6⟩:=sevC h1;have HZ:=zH (Zdr TN (by omega));clear h1 h3 hv hft hr8 hc0 hc70 hn1 g1 g2 g3 g4 g5 g6 hAL hRA hTN hc d0 d1 d2 d3 d4 d6
 go_enter Tryz.func187,Tryz.ntmps187
 go_wp2_with fail
 refine (HZ.out _).mono ?_;rintro e w1 ⟨v1,rfl,hO1,hB1⟩;obtain⟨av,cv,rfl,_⟩:=Zai hO1;have hz:=Zcu TN;obtain⟨gv,rfl,hq9,hg1,hg2⟩:=Zaa.block hO1 (by omega);clear hq9;obtain⟨⟨v0,s0⟩,f0,⟨v1,s1⟩,f1⟩:=hO1.spots c (by omega);have hP:=hO1.put c (1,1) (by omega);rw[hz] at hP ⊢;have HO1:Hid (Zaa w.heap.size ((w1.setCell ⟨gv,c*2,none⟩ (.int .i64 1)).setCell ⟨gv,c*2+1,none⟩ (.int .i64 1)) (.slice (some ⟨gv,0,none⟩) TN cv) (Ta.Zdn t c 0)):=by show Zaa _ _ _ _;rw[<-HE.out];exact hP
 have HBx:=zH (Zfj hB1 (show w.heap.size≤gv from hg1) (c*2) (c*2+1) (.int .i64 1) (.int .i64 1));have HHG:=zH (show w.heap.size≤gv from hg1);have hCx:=(HC1.out.below HBx.out);obtain⟨⟨d0,d1,d2,d3⟩,d4,d5',d6⟩:=sevC hCx;have hcTi:(c:Int)<(TN:Int):=by omega
 clear hO1 hB1 hP hz d5 hg1 hg2 hCx d0 d1 d2 d3 d6 d5'
 go_upto_region 3 with fail
 clear s0 f0 s1 f1;generalize ((w1.setCell ⟨gv,c*2,none⟩ (.int .i64 1)).setCell ⟨gv,c*2+1,none⟩ (.int .i64 1))=w5 at *
 go_wp2_with fail
 clear d4
 go_loopw [24] (fun i wr=>∃j:Nat,j≤AL/\i=.int .i64 j/\Hid (Zaa w.heap.size wr (.slice (some ⟨gv,0,none⟩) TN cv) (Ta.Zdn t c j))/\Hid (Below w.heap.size w wr)) (fun i _=>AL-(intOf i).toNat)
 case atStart=>exact⟨0,Nat.zero_le _,rfl,HO1,HBx⟩
 case round=>
  clear HO1 HBx;obtain⟨j,hj,rfl,hO,hB⟩:=hrel;have h1:=HC1.out.below hB.out;obtain⟨⟨d0,d1,d2,d3⟩,d4,d5,d6⟩:=sevC h1;have h3:=H3.out.only (Zaz hB.out (Nat.le_of_lt hq));have hqr:=Zab h1
  by_cases hjt:j<AL
  ·have hjr:j<t.rows.length:=by have:=HRA.out;omega
   obtain⟨bb,ob,rfl,hbb,e0⟩:=h3.1.mB j (by have:=HBL.out;omega);obtain⟨b1,o1,a1,k1,rfl,hb1,e1,hrd⟩:=h3.1.mR j hjr;obtain⟨g31,g32,g33⟩:=HG6.out j hjr;obtain⟨bk,hbk⟩:∃bk:Nat,t.basis.getD j 0=bk:=⟨(t.basis.getD j 0).toNat,by have:0≤t.basis.getD j 0:=g32;omega⟩;have HBK:=zH (show Ta.bas t j=bk from hbk);rw[hbk] at e0;have hrl:((rr t.rows j).length:Int)=t.cols+t.rows.length+1:=g31;obtain⟨RW,hRW⟩:∃RW,rr t.rows j=RW:=⟨_,rfl⟩;have HRW:=zH (show Ta.row t j=RW from hRW);rw[hRW] at e1 hrd hrl;have hcr:c<RW.length:=by have:=HTN.out;omega
   obtain⟨b5,o5,rfl,hb5,p0,p1⟩:=hrd.at c hcr;have Hsk:=zH (fun h=>Zs5 (c:=c) HBK.out (show ¬(bk:Int)<t.cols from h));have Hst:=zH (fun h=>Zwq (c:=c) HBK.out (show (bk:Int)<t.cols from h));rw[HTN.out] at Hsk Hst;rw[HRW.out,show ((bk:Nat):Int).toNat=bk from rfl] at Hst;obtain⟨x,hx⟩:∃x,Ve.at_ RW c=x:=⟨_,rfl⟩;rw[hx] at p0 p1 Hst;have hls:(Ta.Zdn t c j).length=TN:=by rw[Ta.Zft,HTN.out];simp
   generalize Ta.Zdn t c j=ls at *;have HNg:=zH (Zb9 x);obtain⟨y,hy⟩:∃y,Ta.negR x=y:=⟨_,rfl⟩;rw[hy] at HNg Hst;clear h1 h3 g31 g32 g33 hbk hRW hx hrd hrl hy
   by_cases hlc:bk<TN
   ·have hd1:decide ((bk:Int)<(TN:Int))=true:=by rw[decide_eq_true_iff];omega
    have hN:=zH (Hst.out (by omega));have hlk:bk<ls.length:=by omega
    have n1:(bk:Int)<(TN:Int):=by omega
    have n3:(c:Int)<(RW.length:Int):=by omega
    have Hls:=zH hls;clear hls hcr hjr Hsk Hst
    go_wp2_with fail
    refine (HNg.out _).mono ?_;rintro e w4 ⟨rfl,k4⟩;have hO4:=hO.out.below k4;have hB4:=hB.out.trans (k4.mono hB.out.size);rw[<-Hls.out] at hO4;obtain⟨⟨v0,s0⟩,f0,⟨v1,s1⟩,f1⟩:=hO4.spots bk hlk;have hP:=hO4.put bk y hlk;rw[<-hN.out,Hls.out] at hP;have HFin:=zH hP;have HBf:=zH (Zfj hB4 HHG.out (bk*2) (bk*2+1) (.int .i64 y.1) (.int .i64 y.2));clear hP hO4 hB4 k4 d0 d1 d2 d3 d4 d5 d6 e0 e1 p0 p1 hN
    go_wp2_with fail
    go_roundw
    case rel=>exact⟨j+1,by omega,by go_num,HFin,HBf⟩
    case measure=>simp[intOf];omega
   ·have hd1:decide ((bk:Int)<(TN:Int))=false:=by rw[decide_eq_false_iff_not];omega
    have hN:=zH (Hsk.out (by omega));rw[<-hN.out] at hO;clear Hsk Hst
    go_wp2_with fail
    go_roundw
    case rel=>exact⟨j+1,by omega,by go_num,hO,hB⟩
    case measure=>simp[intOf];omega
  ·obtain rfl:j=AL:=by omega
   go_wp2_with fail
   go_ret;exact⟨_,rfl,hO.out,hB.out⟩
end Go.Proofs.YtlohljkfphljgaaGreat
