/- The parts SxA, SxB, SxC, SxD, SxE. -/
import Derived.Test.YtlohljkfphljgaaGreatGMt
import Derived.Test.YtlohljkfphljgaaGreatGLk
import Derived.Test.YtlohljkfphljgaaGreatGTa
import Derived.Test.YtlohljkfphljgaaGreatStA
import Derived.Test.YtlohljkfphljgaaGreatHLpI1
import Derived.Test.YtlohljkfphljgaaGreatTaP
import Derived.Test.YtlohljkfphljgaaGreatGSi
import Derived.Test.YtlohljkfphljgaaGreatGTd
import Derived.Test.YtlohljkfphljgaaGreatHApR
set_option maxRecDepth 100000
set_option maxHeartbeats 8000000
namespace Go.Proofs.YtlohljkfphljgaaGreat
open Go.RowKit
open Ve (R)
open Ta (T)
open Lp (P)
def Off (q:Nat) (F:World->Prop) (w:World):Prop:=F w/\∀w',w.heap.size≤w'.heap.size->(∀k,k<w.heap.size->k≠q->w'.heap[k]? = w.heap[k]?)->F w'
theorem Off.only {q:Nat} {F:World->Prop} {w w':World} (h:Off q F w) (ho:Only q w w'):Off q F w':=
 ⟨h.2 w' ho.low.size (fun _ hk hne=>ho.block hne hk),fun w'' hs hk=>h.2 w'' (Nat.le_trans ho.low.size hs) fun k h1 h2=>(hk k (Nat.lt_of_lt_of_le h1 ho.low.size) h2).trans (ho.block h2 h1)⟩
theorem Off.Zwb {q a b:Nat} {F:World->Prop} {w:World} (h:Rg F a b w) (hq:q<a\/b≤q):Off q F w:=
 ⟨h.get,fun w' hs hk=>h.on w' hs fun k h1 h2=>hk k (by have:=h.size;omega) (by omega)⟩
theorem Off.mono {q:Nat} {F G:World->Prop} {w:World} (h:Off q F w) (hi:∀w',F w'->G w'):Off q G w:=⟨hi _ h.1,fun w' h1 h2=>hi _ (h.2 w' h1 h2)⟩
theorem Zaz {q:Nat} {w w':World} (h:Below w.heap.size w w') (hq:q≤w.heap.size):Only q w w':=⟨h.mono hq,fun k _ h2=>h.block k h2⟩
structure Wk (q:Nat) (w:World) (p:P) (t:T) (n:Nat) (bad:Bool):Prop where
 ex:∃(aA aB aC a b:Option Addr) (cA cB cC c1 c2:Nat),Zac w q #[.slice aA p.A.length cA,.slice aB p.B.length cB,.slice aC p.C.length cC,.slice a t.rows.length c1,.slice b t.basis.length c2,.int .i64 t.cols,.int .i64 n,.bool bad] 92/\
  Off q (fun w'=>LpIn w'.heap.size w' aA aB aC p) w/\Off q (fun w'=>Zc4 w'.heap.size w' a b t) w
def Zki (q:Nat) (w:World):Prop:=∃(x0 x1 x2:Value) (a:Option Addr) (l c:Nat) (x4 x5:Value) (n:Int),Zac w q #[x0,x1,x2,.slice a l c,x4,x5,.int .i64 n,.bool true] 92
theorem Wk.only {q:Nat} {w w':World} {p:P} {t:T} {n:Nat} {bad:Bool} (h:Wk q w p t n bad) (hb:Below w.heap.size w w'):Wk q w' p t n bad:=by
 obtain⟨aA,aB,aC,a,b,cA,cB,cC,c1,c2,h1,h2,h3⟩:=h;have ho:=Zaz hb (Nat.le_of_lt (Zab h1));exact⟨aA,aB,aC,a,b,cA,cB,cC,c1,c2,h1.below hb,h2.only ho,h3.only ho⟩
theorem Wk.lt {q:Nat} {w:World} {p:P} {t:T} {n:Nat} {bad:Bool} (h:Wk q w p t n bad):q<w.heap.size:=by
 obtain⟨_,_,_,_,_,_,_,_,_,_,h1,_⟩:=h;exact Zab h1
theorem Z0b {q:Nat} {w:World} {aA aB aC:Option Addr} {p:P} (cA cB cC:Nat) (h:Rg (fun w'=>LpC w' (.slice aA p.A.length cA) (.slice aB p.B.length cB) (.slice aC p.C.length cC) p) 0 w.heap.size w) (hq:w.heap.size≤q) :
  Off q (fun w'=>LpIn w'.heap.size w' aA aB aC p) w:=(Off.Zwb h (.inr hq)).mono fun w' h=>by
 obtain⟨a,b,c,c1,c2,c3,e1,e2,e3,hi⟩:=h;injection e1 with e1 _ _
 injection e2 with e2 _ _
 injection e3 with e3 _ _
 subst e1 e2 e3;exact hi
theorem Zkd {w:World} {a b:Option Addr} {c1 c2:Nat} {t:T} (h:TabC w (.slice a t.rows.length c1) (.slice b t.basis.length c2) (.int .i64 t.cols) t):Zc4 w.heap.size w a b t:=by
 obtain⟨a',b',c1',c2',e1,e2,_,hi⟩:=h;injection e1 with e1 _ _
 injection e2 with e2 _ _
 subst e1 e2;exact hi
theorem Zyi {q:Nat} {t:T} {k:Bool} {w w':World} {e:Ending} (h:Zkf t k w e w') (hq:q<w.heap.size) :
  ∃(a b:Option Addr) (c1 c2:Nat),e=.returned (.tuple #[.agg #[.slice a t.rows.length c1,.slice b t.basis.length c2,.int .i64 t.cols],.bool k])/\Off q (fun w'=>Zc4 w'.heap.size w' a b t) w'/\Below w.heap.size w w':=by
 obtain⟨vR,vB,he,ho,hb⟩:=h;obtain⟨a,b,c1,c2,e1,e2,_,_⟩:=(Zkh.new ho).Zbe;subst e1 e2;exact⟨a,b,c1,c2,he,(Off.Zwb (Zkh.new ho).rg (.inl hq)).mono fun w' h=>Zkd h.Zbe,hb⟩
theorem Zd9 (x:R) (w:World):Calls Tryz.prog 93 #[.agg #[.int .i64 x.1,.int .i64 x.2]] w fun e w'=>e=.returned (.agg #[.int .i64 (Ta.negR x).1,.int .i64 (Ta.negR x).2])/\Below w.heap.size w w':=by
 rw[show (Ta.negR x).1=Ta.w64 (-x.1) from rfl,show (Ta.negR x).2=x.2 from rfl,<-Zi0];obtain⟨y,hy⟩:∃y,IntKind.i64.wrap (-x.1)=y:=⟨_,rfl⟩;have Hy:=zH hy;rw[hy];have Hb:=zH (((Below.refl w.heap.size w).alloc (Nat.le_refl _) (.cells #[.int .i64 x.1,.int .i64 x.2] 31)).alloc (by rw[Zar];omega) (.cells #[.int .i64 0,.int .i64 0] 31))
 go_enter Tryz.func93,Tryz.ntmps93
 go_wp2_with fail
 exact bodyPost_ret (v:=.agg #[.int .i64 y,.int .i64 x.2]) (by simp[results,Tryz.results93,go_sem]) rfl ⟨rfl,by (repeat' (first|exact Below.refl _ _|exact Nat.le_refl _|refine Below.setCell ?_ ?_ _|refine Below.alloc ?_ ?_ _|refine below_drewN ?_ _|refine Below.drew ?_ | (simp;done) | (simp;omega)))⟩
theorem eight {w:World} {q:Nat} {x0 x1 x2 x3 x4 x5 x6 x7:Value} {t:TypeId} (h:Zac w q #[x0,x1,x2,x3,x4,x5,x6,x7] t) :
  (w.cell? ⟨q,0,none⟩=some x0/\w.cell? ⟨q,1,none⟩=some x1/\w.cell? ⟨q,2,none⟩=some x2)/\(w.cell? ⟨q,3,none⟩=some x3/\w.cell? ⟨q,4,none⟩=some x4/\w.cell? ⟨q,5,none⟩=some x5)/\w.cell? ⟨q,6,none⟩=some x6/\w.cell? ⟨q,7,none⟩=some x7:=
 ⟨⟨h.cell 0,h.cell 1,h.cell 2⟩,⟨h.cell 3,h.cell 4,h.cell 5⟩,h.cell 6,h.cell 7⟩
theorem Zx3 {w:World} {q:Nat} {cs:Array Value} {t:TypeId} (h:Zac w q cs t):(w.frozen? ⟨q,3,none⟩=false/\w.frozen? ⟨q,4,none⟩=false/\w.frozen? ⟨q,5,none⟩=false)/\w.frozen? ⟨q,6,none⟩=false/\w.frozen? ⟨q,7,none⟩=false:=
 ⟨⟨h.free 3,h.free 4,h.free 5⟩,h.free 6,h.free 7⟩
theorem set8 {w:World} {q:Nat} {x0 x1 x2 x3 x4 x5 x6 x7:Value} {t:TypeId} (h:Zac w q #[x0,x1,x2,x3,x4,x5,x6,x7] t) (y3 y4 y5 y6 y7:Value) :
  Zac (((((w.setCell ⟨q,3,none⟩ y3).setCell ⟨q,4,none⟩ y4).setCell ⟨q,5,none⟩ y5).setCell ⟨q,6,none⟩ y6).setCell ⟨q,7,none⟩ y7) q #[x0,x1,x2,y3,y4,y5,y6,y7] t:=by
 have:=((((h.set 3 y3).set 4 y4).set 5 y5).set 6 y6).set 7 y7
 simpa using this
theorem set7 {w:World} {q:Nat} {x0 x1 x2 x3 x4 x5 x6 x7:Value} {t:TypeId} (h:Zac w q #[x0,x1,x2,x3,x4,x5,x6,x7] t) (y7:Value) :
  Zac (w.setCell ⟨q,7,none⟩ y7) q #[x0,x1,x2,x3,x4,x5,x6,y7] t:=by
 have:=h.set 7 y7
 simpa using this
def Z0o (q:Nat) (p:P) (s:T×Nat) (r c:Int) (w:World) (e:Ending) (w':World):Prop:=
 e=.returned (.tuple #[])/\Only q w w'/\(match Ta.Zcc s r c with|some s'=>Wk q w' p s'.1 s'.2 false|none=>Zki q w')
theorem Zjp {q:Nat} {w:World} {p:P} {t:T} {n:Nat} (h:Wk q w p t n false) (hf:Zca t) (hn:n≤1000) (r c:Int) (hr:(Lit.int .i64 r).wf=true) (hc:(Lit.int .i64 c).wf=true) :
  Calls Tryz.prog 188 #[.pointer (some ⟨q,0,none⟩),.int .i64 r,.int .i64 c] w (Z0o q p (t,n) r c w):=by
 obtain⟨aA,aB,aC,a,b,cA,cB,cC,c1,c2,h1,h2,h3⟩:=h;have hlt:=Zab h1;have H1:=zH h1;have H2:=zH h2
 by_cases hfull:n<1000
 ·have hb:decide ((n:Int)≥1000)=false:=by rw[decide_eq_false_iff_not];omega
  have HPv:=zH (Zja w.heap.size a b c1 c2 t r c hr hc hf w (Nat.le_refl _) h3.1);obtain⟨KK,hKK⟩:∃KK,Ta.pivK t r c=KK:=⟨_,rfl⟩;have HK:=zH hKK;rw[hKK] at HPv;rw[show tabV a b c1 c2 t=.agg #[.slice a t.rows.length c1,.slice b t.basis.length c2,.int .i64 t.cols] from rfl] at HPv;obtain⟨⟨d0,d1,d2⟩,⟨d3,d4,d5⟩,d6,d7⟩:=eight h1;obtain⟨RL,hRL⟩:∃RL,RL=t.rows.length:=⟨_,rfl⟩;obtain⟨BL,hBL⟩:∃BL,BL=t.basis.length:=⟨_,rfl⟩;rw[<-hRL,<-hBL] at HPv;rw[<-hRL] at d3;rw[<-hBL] at d4;clear h1 h2 h3 hKK hr hc hf hRL hBL
  go_enter Tryz.func188,Tryz.ntmps188
  go_wp2_with fail
  refine HPv.out.mono ?_;rintro e w1 hm;obtain⟨a',b',c1',c2',rfl,ho,k⟩:=Zyi hm hlt;have hC1:=H1.out.below k;have hO1:=H2.out.only (Zaz k (Nat.le_of_lt hlt));have hs1:=k.size;obtain⟨t1,ht1⟩:∃t1,Ta.piv t r c=t1:=⟨_,rfl⟩;rw[ht1] at ho ⊢;have HT1:=zH ht1;have hC2:=hC1.more (.cells #[.slice a' t1.rows.length c1',.slice b' t1.basis.length c2',.int .i64 t1.cols] 39);have hP2:=hO1.only (Zaz ((Below.refl w1.heap.size w1).alloc (Nat.le_refl _) (.cells #[.slice a' t1.rows.length c1',.slice b' t1.basis.length c2',.int .i64 t1.cols] 39)) (by omega));have hT2:=ho.only (Zaz ((Below.refl w1.heap.size w1).alloc (Nat.le_refl _) (.cells #[.slice a' t1.rows.length c1',.slice b' t1.basis.length c2',.int .i64 t1.cols] 39)) (by omega));have hN2:=(Zaz k (Nat.le_of_lt hlt)).trans (Zaz ((Below.refl w1.heap.size w1).alloc (Nat.le_refl _) (.cells #[.slice a' t1.rows.length c1',.slice b' t1.basis.length c2',.int .i64 t1.cols] 39)) (by omega));have hbx:=Zac.new w1 #[.slice a' t1.rows.length c1',.slice b' t1.basis.length c2',.int .i64 t1.cols] 39;have HP2:=zH hP2;have HT2:=zH hT2;have HN2:=zH hN2;have HC2:=zH hC2;have HBX:=zH hbx;have hqne:q≠w1.heap.size:=by omega
  have Hqne:=zH hqne;clear ht1 hm ho k hC1 hO1 hs1 hC2 hP2 hT2 hN2 hbx d0 d1 d2 d3 d4 d5 d6 d7 H1 H2 HPv;obtain⟨L1,hL1⟩:∃L1,t1.rows.length=L1:=⟨_,rfl⟩;obtain⟨L2,hL2⟩:∃L2,t1.basis.length=L2:=⟨_,rfl⟩;obtain⟨L3,hL3⟩:∃L3,t1.cols=L3:=⟨_,rfl⟩;have HL1:=zH hL1;have HL2:=zH hL2;have HL3:=zH hL3;rw[hL1,hL2,hL3] at HP2 HT2 HN2 HC2 HBX;rw[hL1,hL2,hL3];clear hL1 hL2 hL3;obtain⟨W,hW⟩:∃W,W=w1.alloc (.cells #[.slice a' L1 c1',.slice b' L2 c2',.int .i64 L3] 39):=⟨_,rfl⟩;rw[<-hW] at HP2 HT2 HN2 HC2 HBX;obtain⟨qb,hqb⟩:∃qb,w1.heap.size=qb:=⟨_,rfl⟩;rw[hqb] at HBX Hqne;have HW:=zH hW;have HQB:=zH hqb;clear hW hqb;obtain⟨⟨d0,d1,d2⟩,⟨d3,d4,d5⟩,d6,d7⟩:=eight HC2.out;obtain⟨⟨f3,f4,f5⟩,f6,f7⟩:=Zx3 HC2.out;have m0:W.cell? ⟨qb,0,none⟩=some (.slice a' L1 c1'):=HBX.out.cell 0;have m1:W.cell? ⟨qb,1,none⟩=some (.slice b' L2 c2'):=HBX.out.cell 1;have m2:W.cell? ⟨qb,2,none⟩=some (.int .i64 L3):=HBX.out.cell 2;have HC3:=zH (fun y=>set8 HC2.out (.slice a' L1 c1') (.slice b' L2 c2') (.int .i64 L3) (.int .i64 ((n:Int)+1)) y);have HN3:=zH (fun y=>((((HN2.out.setCell 3 (.slice a' L1 c1')).setCell 4 (.slice b' L2 c2')).setCell 5 (.int .i64 L3)).setCell 6 (.int .i64 ((n:Int)+1))).setCell 7 y);have HS3:=zH (fun y=>(((((Only.refl q W).setCell 3 (.slice a' L1 c1')).setCell 4 (.slice b' L2 c2')).setCell 5 (.int .i64 L3)).setCell 6 (.int .i64 ((n:Int)+1))).setCell 7 y);cases KK with
  | true=>
   have hst:Ta.Zcc (t,n) r c=some (t1,n+1):=by rw[Ta.Zti hfull HK.out,HT1.out]
   have HST:=zH hst;clear hst HK HT1
   go_upto_region 3 with fail
   rw[HQB.out,<-HW.out]
   go_wp2_with fail
   go_end0
   refine⟨rfl,HN3.out _,?_⟩;rw[HST.out];exact⟨aA,aB,aC,a',b',cA,cB,cC,c1',c2',by rw[HL1.out,HL2.out,HL3.out];exact HC3.out _,HP2.out.only (HS3.out _),HT2.out.only (HS3.out _)⟩
  | false=>
   have hst:Ta.Zcc (t,n) r c=none:=Ta.Zxc HK.out;have HST:=zH hst;clear hst HK HT1
   go_upto_region 3 with fail
   rw[HQB.out,<-HW.out]
   go_wp2_with fail
   go_end0
   refine⟨rfl,HN3.out _,?_⟩;rw[HST.out];exact⟨_,_,_,_,_,_,_,_,_,HC3.out _⟩
 ·have hb:decide ((n:Int)≥1000)=true:=by rw[decide_eq_true_iff];omega
  have hst:Ta.Zcc (t,n) r c=none:=Ta.Zqf hfull;have HST:=zH hst;obtain⟨⟨d0,d1,d2⟩,⟨d3,d4,d5⟩,d6,d7⟩:=eight h1;obtain⟨⟨f3,f4,f5⟩,f6,f7⟩:=Zx3 h1;clear hst h1 h2 h3 H2
  go_enter Tryz.func188,Tryz.ntmps188
  go_wp2_with fail
  go_end0
  refine⟨rfl,(Only.refl q w).setCell 7 _,?_⟩;rw[HST.out];exact⟨_,_,_,_,_,_,_,_,_,set7 H1.out _⟩
def hdC (p:P) (f:Bool) (j:Nat):List R:=(List.range j).map fun i=>if f then (0,1) else Ve.at_ p.C i
def tlC (f:Bool) (j:Nat):List R:=(List.range j).map fun _=>if f then (1,1) else (0,1)
def costs (p:P) (f:Bool):List R:=if f then Ta.Zgf p else Ta.Zdq p
theorem Zx7 (p:P) (f:Bool) (j:Nat):hdC p f (j+1)=hdC p f j++[if f then (0,1) else Ve.at_ p.C j]:=by simp[hdC,List.range_succ]
theorem Zzp (f:Bool) (j:Nat):tlC f (j+1)=tlC f j++[if f then (1,1) else (0,1)]:=by simp[tlC,List.range_succ]
theorem Zq7 (p:P) (f:Bool) (j:Nat):(hdC p f j).length=j:=by simp[hdC]
theorem Zxd (f:Bool) (j:Nat):(tlC f j).length=j:=by simp[tlC]
theorem Zsb (p:P) (f:Bool):hdC p f p.C.length++tlC f p.A.length=costs p f:=by
 cases f
 ·show _=Ta.Zdq p
  unfold Ta.Zdq Lp.Za1
  congr 1
  apply List.ext_getElem
  ·simp[hdC]
  ·intro i h1 h2
   simp[hdC,Ve.at_,h2]
 ·show _=Ta.Zgf p
  unfold Ta.Zgf Lp.Za1 hdC tlC;rfl
theorem Zo8 (p:P) (f:Bool):(costs p f).length=p.C.length+p.A.length:=by rw[<-Zsb,List.length_append,Zq7,Zxd]
theorem Zjn (B:Nat) (a b c:Option Addr) (c1 c2 c3:Nat) (p:P) (hC:p.C.length≤1000) (hA:p.A.length≤1000) (f:Bool) (w:World) (hBw:B≤w.heap.size) (hz:LpIn B w a b c p) :
  Calls Tryz.prog 140 #[.agg #[.slice a p.A.length c1,.slice b p.B.length c2,.slice c p.C.length c3],.bool f] w (Zbg (costs p f) w):=by
 have hb0:=(Below.refl w.heap.size w).alloc (Nat.le_refl _) (.cells #[.slice a p.A.length c1,.slice b p.B.length c2,.slice c p.C.length c3] 28);have hb:=hb0.alloc (by rw[Zar];omega) (.cells #[] 31);have hx:=(Tri.new w (.slice a p.A.length c1) (.slice b p.B.length c2) (.slice c p.C.length c3) 28).more (.cells #[] 31);have ho:Zaa w.heap.size ((w.alloc (.cells #[.slice a p.A.length c1,.slice b p.B.length c2,.slice c p.C.length c3] 28)).alloc (.cells #[] 31)) (.slice (some ⟨w.heap.size+1,0,none⟩) 0 0) (hdC p f 0):=by
  have:=World.ownsRow_made (base:=w.heap.size) (e:=31) (size:=2) (w.alloc (.cells #[.slice a p.A.length c1,.slice b p.B.length c2,.slice c p.C.length c3] 28)) #[] 0 (by rw[Zar];omega) (Nat.zero_le _) rfl;rw[Zar] at this;exact this
 have Hz:=zH ((hz.mono hBw).below hb);have Hb:=zH hb;have Hx:=zH hx;have Ho:=zH ho;have HE:=zH (Zsb p f);generalize costs p f=CS at *;clear hz hb hb0 hx ho
 go_enter Tryz.func140,Tryz.ntmps140
 go_wp2_with fail
 go_loopw [5,6] (fun v i wr=>∃k:Nat,k≤p.C.length/\i=.int .i64 k/\Hid (Zaa w.heap.size wr v (hdC p f k))/\Hid (Tri wr w.heap.size (.slice a p.A.length c1) (.slice b p.B.length c2) (.slice c p.C.length c3) 28/\∀g,v.ownBlock=some g->g≠w.heap.size)/\Hid (LpIn w.heap.size wr a b c p)/\Hid (Below w.heap.size w wr)) (fun _ i _=>p.C.length-(intOf i).toNat)
 case atStart=>exact⟨0,Nat.zero_le _,rfl,Ho.out,⟨Hx.out,fun g hg=>by simp[Value.ownBlock] at hg;omega⟩,Hz.out,Hb.out⟩
 case round=>
  obtain⟨k,hk,rfl,hO,hT,hZ,hB⟩:=hrel;obtain⟨x0,x1,x2,_⟩:=hT.out.1.cells
  by_cases hlt:k<p.C.length
  ·have He:=zH (Zx7 p f k)
   have Hlen:=zH (Nat.le_of_eq (Zq7 p f k));have hrd:=hZ.out.mC.at k hlt;cases f with
   | true=>
    have Hat:=zH (show (if true=true then ((0,1):R) else Ve.at_ p.C k)=(0,1) from rfl);clear hrd;rw[Hat.out] at He;generalize hdC p true k=ls at *
    go_wp2_with fail
    refine (Za4 0 _).mono ?_;rintro e w3 ⟨rfl,hb3⟩;have HBx:=zH (hB.out.trans (hb3.mono hB.out.size));have HOx:=zH (hO.out.below hb3);have HTx:=zH (hT.out.1.below hb3);have HZx:=zH (hZ.out.below (hb3.mono hB.out.size));clear hb3 x0 x1 x2;have Hown:Hid (Zaa w.heap.size (w3.alloc (.cells #[.int .i64 0,.int .i64 1] 31)) _ ls):=Zaa.alloc HOx.out (.cells #[.int .i64 0,.int .i64 1] 31);have Hone:=zH (Zb2 w3 (0,1));have hsw:=HBx.out.size;have hlenx:=Hlen.out
    go_wp2_with (at_builtin;refine Zaj rfl _ _ rfl w.heap.size _ ls rfl Hown.out _ [(0,1)] 1 1 rfl rfl _ Hone.out (by simp;omega) (by rw[Zar];omega) ?_)
    intro v4 w4 hown hgrow;have hkb:Below w.heap.size w3 w4:=((Below.refl w.heap.size w3).alloc hsw (.cells #[.int .i64 0,.int .i64 1] 31)).grown hgrow (by rw[Zar];omega) (fun g hg=>(World.ownsRow.lt Hown.out g hg).1);have HB4:=zH (HBx.out.trans hkb);have HO4:=zH hown;have h9:=HTx.out.more (.cells #[.int .i64 0,.int .i64 1] 31);have h8:Tri w4 w.heap.size _ _ _ 28:=(hgrow.block w.heap.size (Zab h9) (fun e=>hT.out.2 _ e.symm rfl)).trans h9;have h7:∀g,v4.ownBlock=some g->g≠w.heap.size:=fun g hg e=>(TyAt.ne (Zav hown hg) (⟨_,h8⟩:TyAt w4 w.heap.size 28) (by decide)) e
    have HT4:=zH (And.intro h8 h7);clear h9 h8 h7;have HZ4:=zH (HZx.out.below hkb);rw[<-He.out] at HO4;clear hown hgrow hkb hsw Hown Hone HBx HOx HZx HTx hlenx
    go_wp2_with fail
    go_roundw
    case rel=>exact⟨k+1,by omega,by go_num,HO4,HT4,HZ4,HB4⟩
    case measure=>simp[intOf];omega
   | false=>
    obtain⟨bb,o,rfl,_,p0,p1⟩:=hrd;obtain⟨y1,hy1⟩:∃y,(Ve.at_ p.C k).1=y:=⟨_,rfl⟩;obtain⟨y2,hy2⟩:∃y,(Ve.at_ p.C k).2=y:=⟨_,rfl⟩;have Hat:=zH (show (if false=true then ((0,1):R) else Ve.at_ p.C k)=(y1,y2) by rw[<-hy1,<-hy2];rfl);rw[hy1] at p0;rw[hy2] at p1;clear hy1 hy2;rw[Hat.out] at He;generalize hdC p false k=ls at *;have HBx:=hB;have HOx:=hO;have HZx:=hZ;have HTx:=zH hT.out.1;have Hown:Hid (Zaa w.heap.size (wr.alloc (.cells #[.int .i64 y1,.int .i64 y2] 31)) _ ls):=Zaa.alloc HOx.out (.cells #[.int .i64 y1,.int .i64 y2] 31);have Hone:=zH (Zb2 wr (y1,y2));have hsw:=HBx.out.size;have hlenx:=Hlen.out
    go_wp2_with (at_builtin;refine Zaj rfl _ _ rfl w.heap.size _ ls rfl Hown.out _ [(y1,y2)] 1 1 rfl rfl _ Hone.out (by simp;omega) (by rw[Zar];omega) ?_)
    intro v4 w4 hown hgrow;have hkb:Below w.heap.size wr w4:=((Below.refl w.heap.size wr).alloc hsw (.cells #[.int .i64 y1,.int .i64 y2] 31)).grown hgrow (by rw[Zar];omega) (fun g hg=>(World.ownsRow.lt Hown.out g hg).1);have HB4:=zH (HBx.out.trans hkb);have HO4:=zH hown;have h9:=HTx.out.more (.cells #[.int .i64 y1,.int .i64 y2] 31);have h8:Tri w4 w.heap.size _ _ _ 28:=(hgrow.block w.heap.size (Zab h9) (fun e=>hT.out.2 _ e.symm rfl)).trans h9;have h7:∀g,v4.ownBlock=some g->g≠w.heap.size:=fun g hg e=>(TyAt.ne (Zav hown hg) (⟨_,h8⟩:TyAt w4 w.heap.size 28) (by decide)) e
    have HT4:=zH (And.intro h8 h7);clear h9 h8 h7;have HZ4:=zH (HZx.out.below hkb);rw[<-He.out] at HO4;clear hown hgrow hkb hsw Hown Hone HBx HOx HZx HTx hlenx
    go_wp2_with fail
    go_roundw
    case rel=>exact⟨k+1,by omega,by go_num,HO4,HT4,HZ4,HB4⟩
    case measure=>simp[intOf];omega
  ·obtain rfl:k=p.C.length:=by omega
   go_wp2_with fail
   obtain⟨w9,hw9⟩:∃w9,w9=wr:=⟨_,rfl⟩;rw[<-hw9] at hO hT hZ hB ⊢;clear hw9
   go_loopw [5,7] (fun v i wr=>∃k:Nat,k≤p.A.length/\i=.int .i64 k/\Hid (Zaa w.heap.size wr v (hdC p f p.C.length++tlC f k))/\Hid (Tri wr w.heap.size (.slice a p.A.length c1) (.slice b p.B.length c2) (.slice c p.C.length c3) 28/\∀g,v.ownBlock=some g->g≠w.heap.size)/\Hid (Below w.heap.size w wr)) (fun _ i _=>p.A.length-(intOf i).toNat)
   case atStart=>exact⟨0,Nat.zero_le _,rfl,zH (by show Zaa _ _ _ (_++[]);rw[List.append_nil];exact hO.out),hT,hB⟩
   case round=>
    clear hO hT hZ hB;obtain⟨k,hk,rfl,hO,hT,hB⟩:=hrel;obtain⟨x0,x1,x2,_⟩:=hT.out.1.cells
    by_cases hlt:k<p.A.length
    ·have He:=zH (show hdC p f p.C.length++tlC f (k+1)=(hdC p f p.C.length++tlC f k)++[if f then (1,1) else (0,1)] by rw[Zzp,List.append_assoc])
     have Hlen:=zH (Nat.le_of_eq (show (hdC p f p.C.length++tlC f k).length=p.C.length+k by rw[List.length_append,Zq7,Zxd]));generalize hdC p f p.C.length++tlC f k=ls at *;cases f with
     | true=>
      have Hat:=zH (show (if true=true then ((1,1):R) else (0,1))=(1,1) from rfl);rw[Hat.out] at He
      go_wp2_with fail
      refine (Zfw true _).mono ?_;rintro e w2 ⟨rfl,rfl⟩
      go_wp2_with fail
      refine (Za4 1 _).mono ?_;rintro e w3 ⟨rfl,hb3⟩;have HBx:=zH (hB.out.trans (hb3.mono hB.out.size));have HOx:=zH (hO.out.below hb3);have HTx:=zH (hT.out.1.below hb3);clear hb3 x0 x1 x2;have Hown:Hid (Zaa w.heap.size (w3.alloc (.cells #[.int .i64 1,.int .i64 1] 31)) _ ls):=Zaa.alloc HOx.out (.cells #[.int .i64 1,.int .i64 1] 31);have Hone:=zH (Zb2 w3 (1,1));have hsw:=HBx.out.size;have hlenx:=Hlen.out
      go_wp2_with (at_builtin;refine Zaj rfl _ _ rfl w.heap.size _ ls rfl Hown.out _ [(1,1)] 1 1 rfl rfl _ Hone.out (by simp;omega) (by rw[Zar];omega) ?_)
      intro v4 w4 hown hgrow;have hkb:Below w.heap.size w3 w4:=((Below.refl w.heap.size w3).alloc hsw (.cells #[.int .i64 1,.int .i64 1] 31)).grown hgrow (by rw[Zar];omega) (fun g hg=>(World.ownsRow.lt Hown.out g hg).1);have HB4:=zH (HBx.out.trans hkb);have HO4:=zH hown;have h9:=HTx.out.more (.cells #[.int .i64 1,.int .i64 1] 31);have h8:Tri w4 w.heap.size _ _ _ 28:=(hgrow.block w.heap.size (Zab h9) (fun e=>hT.out.2 _ e.symm rfl)).trans h9;have h7:∀g,v4.ownBlock=some g->g≠w.heap.size:=fun g hg e=>(TyAt.ne (Zav hown hg) (⟨_,h8⟩:TyAt w4 w.heap.size 28) (by decide)) e
      have HT4:=zH (And.intro h8 h7);clear h9 h8 h7;rw[<-He.out] at HO4;clear hown hgrow hkb hsw Hown Hone HBx HOx HTx hlenx
      go_wp2_with fail
      go_roundw
      case rel=>exact⟨k+1,by omega,by go_num,HO4,HT4,HB4⟩
      case measure=>simp[intOf];omega
     | false=>
      have Hat:=zH (show (if false=true then ((1,1):R) else (0,1))=(0,1) from rfl);rw[Hat.out] at He
      go_wp2_with fail
      refine (Zfw false _).mono ?_;rintro e w2 ⟨rfl,rfl⟩
      go_wp2_with fail
      refine (Za4 0 _).mono ?_;rintro e w3 ⟨rfl,hb3⟩;have HBx:=zH (hB.out.trans (hb3.mono hB.out.size));have HOx:=zH (hO.out.below hb3);have HTx:=zH (hT.out.1.below hb3);clear hb3 x0 x1 x2;have Hown:Hid (Zaa w.heap.size (w3.alloc (.cells #[.int .i64 0,.int .i64 1] 31)) _ ls):=Zaa.alloc HOx.out (.cells #[.int .i64 0,.int .i64 1] 31);have Hone:=zH (Zb2 w3 (0,1));have hsw:=HBx.out.size;have hlenx:=Hlen.out
      go_wp2_with (at_builtin;refine Zaj rfl _ _ rfl w.heap.size _ ls rfl Hown.out _ [(0,1)] 1 1 rfl rfl _ Hone.out (by simp;omega) (by rw[Zar];omega) ?_)
      intro v4 w4 hown hgrow;have hkb:Below w.heap.size w3 w4:=((Below.refl w.heap.size w3).alloc hsw (.cells #[.int .i64 0,.int .i64 1] 31)).grown hgrow (by rw[Zar];omega) (fun g hg=>(World.ownsRow.lt Hown.out g hg).1);have HB4:=zH (HBx.out.trans hkb);have HO4:=zH hown;have h9:=HTx.out.more (.cells #[.int .i64 0,.int .i64 1] 31);have h8:Tri w4 w.heap.size _ _ _ 28:=(hgrow.block w.heap.size (Zab h9) (fun e=>hT.out.2 _ e.symm rfl)).trans h9;have h7:∀g,v4.ownBlock=some g->g≠w.heap.size:=fun g hg e=>(TyAt.ne (Zav hown hg) (⟨_,h8⟩:TyAt w4 w.heap.size 28) (by decide)) e
      have HT4:=zH (And.intro h8 h7);clear h9 h8 h7;rw[<-He.out] at HO4;clear hown hgrow hkb hsw Hown Hone HBx HOx HTx hlenx
      go_wp2_with fail
      go_roundw
      case rel=>exact⟨k+1,by omega,by go_num,HO4,HT4,HB4⟩
      case measure=>simp[intOf];omega
    ·obtain rfl:k=p.A.length:=by omega
     have hO9:=hO.out;rw[HE.out] at hO9;have HO9:=zH hO9;clear hO9
     go_wp2_with fail
     go_ret;exact⟨_,rfl,HO9.out,hB.out⟩
theorem Zo9 (p:P) (cs:List R) (base:Int) (k:Nat):(List.range (k+1)).map (Ta.Zek p cs base)=(List.range k).map (Ta.Zek p cs base)++[Ta.Zek p cs base k]:=by simp[List.range_succ]
theorem Z1q (an ad bn bd:Int):∃kk:Bool,∀w:World,Calls Tryz.prog 189 #[.agg #[.int .i64 an,.int .i64 ad],.agg #[.int .i64 bn,.int .i64 bd]] w fun e w'=>e=.returned (.tuple #[.agg #[.int .i64 (Ta.subR (an,ad) (bn,bd)).1,.int .i64 (Ta.subR (an,ad) (bn,bd)).2],.bool kk])/\Below w.heap.size w w':=
 ⟨_,fun w=>Zr4 an ad bn bd w⟩
theorem twoc {w:World} {q:Nat} {x y:Value} {t:TypeId} (h:Zac w q #[x,y] t):w.cell? ⟨q,0,none⟩=some x/\w.cell? ⟨q,1,none⟩=some y/\w.frozen? ⟨q,0,none⟩=false/\w.frozen? ⟨q,1,none⟩=false:=⟨h.cell 0,h.cell 1,h.free 0,h.free 1⟩
def Got2 (B:World) (N D:Int) (k:Bool) (p b:Value) (wx:World):Prop:=
 ∃q:Nat,p=.pointer (some ⟨q,0,none⟩)/\b=.bool k/\Zac wx q #[.int .i64 N,.int .i64 D] 31/\B.heap.size≤q/\Since B wx
theorem Got2.last {B wx:World} (h:Since B wx) (N D:Int) (k:Bool):Got2 B N D k (.pointer (some ⟨wx.heap.size,0,none⟩)) (.bool k) (wx.alloc (.cells #[.int .i64 N,.int .i64 D] 31)):=
 ⟨_,rfl,rfl,Zac.new _ _ _,h.low.size,h.alloc _⟩
theorem Got2.set {B:World} {x y:Value} {q:Nat} {wx:World} (h:Own2 B x y 31 q wx) (N D:Int) (k:Bool) :
  Got2 B N D k (.pointer (some ⟨q,0,none⟩)) (.bool k) ((wx.setCell ⟨q,0,none⟩ (.int .i64 N)).setCell ⟨q,1,none⟩ (.int .i64 D)):=by
 have hc:Zac wx q #[x,y] 31:=h.at_;have:=(hc.set 0 (.int .i64 N)).set 1 (.int .i64 D);exact⟨q,rfl,rfl,by simpa using this,h.hi,h.set2 _ _⟩
theorem Got2.drew {B:World} {N D:Int} {k:Bool} {p b:Value} {wx:World} (h:Got2 B N D k p b wx):Got2 B N D k p b wx.drew:=by
 obtain⟨q,h1,h2,h3,h4,h5⟩:=h;exact⟨q,h1,h2,h3,h4,h5.drew⟩
theorem Zl4 {q:Nat} {w:World} {p:P} {t:T} {n:Nat} (h:Wk q w p t n false) (hv:Lp.vldP p=true) (hcols:t.cols=p.C.length) (ad:Option Addr) (cc:Nat) (cs:List R) (hcs:cs.length=p.C.length+p.A.length+1) (base:Int) (hk:Zah w.heap.size w ad cs) :
  Calls Tryz.prog 141 #[.pointer (some ⟨q,0,none⟩),.slice ad cs.length cc,.int .i64 base] w (Zbg (Ta.Zc8 p cs base) w):=by
 obtain⟨_,hC70,hA8,hBA,_,_⟩:=Lp.Zas hv;have HW:=zH h;have HK:=zH hk;have HCS:=zH hcs;obtain⟨CL,hCL⟩:∃CL,p.C.length=CL:=⟨_,rfl⟩;obtain⟨AL,hAL⟩:∃AL,p.A.length=AL:=⟨_,rfl⟩;obtain⟨NL,hNL⟩:∃NL,cs.length=NL:=⟨_,rfl⟩;have HCL:=zH hCL;have HAL:=zH hAL;have HNL:=zH hNL;have HBA:=zH hBA;have HTC:=zH hcols;have hNN:NL=CL+AL+1:=by rw[<-hNL,<-hCL,<-hAL];exact hcs
 have HNN:=zH hNN;have hC1:CL≤70:=by omega
 have hA1:AL≤8:=by omega
 rw[hNL];have hb:=(Below.refl w.heap.size w).alloc (Nat.le_refl _) (.cells #[] 31);have Hb:=zH hb;have Ho:=zH (show Zaa w.heap.size (w.alloc (.cells #[] 31)) (.slice (some ⟨w.heap.size,0,none⟩) 0 0) ((List.range 0).map (Ta.Zek p cs base)) from World.ownsRow_made w #[] 0 (Nat.le_refl _) (Nat.zero_le _) rfl);clear h hk hcs hCL hAL hNL hBA hcols hNN hC70 hA8 hb
 go_enter Tryz.func141,Tryz.ntmps141
 go_wp2_with fail
 go_loopw [7,8] (fun v i wr=>∃k:Nat,k≤AL/\i=.int .i64 k/\Hid (Zaa w.heap.size wr v ((List.range k).map (Ta.Zek p cs base)))/\Hid (Below w.heap.size w wr)) (fun _ i _=>AL-(intOf i).toNat)
 case atStart=>exact⟨0,Nat.zero_le _,rfl,Ho.out,Hb.out⟩
 case round=>
  obtain⟨k,hk,rfl,hO,hB⟩:=hrel;obtain⟨aA,aB,aC,a,b,cA,cB,cC,c1,c2,h1,h2,h3⟩:=(HW.out.only hB.out);rw[HAL.out,HTC.out,HCL.out] at h1;obtain⟨⟨d0,d1,d2⟩,⟨d3,d4,d5⟩,d6,d7⟩:=eight h1;have hqw:=Zab h1
  by_cases hlt:k<AL
  ·have hbk:k<p.B.length:=by have:=HBA.out;have:=HAL.out;omega
   have hck:CL+k<cs.length:=by have:=HNL.out;have:=HNN.out;omega
   obtain⟨b1,o1,rfl,hbb,r0,r1⟩:=(HK.out.below hB.out).at (CL+k) hck;obtain⟨b2,o2,rfl,hbb2,g0⟩:=h2.1.mB k hbk;have hq1:b1<wr.heap.size:=Nat.lt_of_lt_of_le hbb hB.out.size;have He:=zH (Zo9 p cs base k);have HD:=zH (show Ta.Zek p cs base k=if p.B.getD k 0<0 then Ta.negR (Ta.subR (base,1) (Ve.at_ cs (CL+k))) else Ta.subR (base,1) (Ve.at_ cs (CL+k)) by unfold Ta.Zek;rw[HCL.out]);have Hlen:=zH (show ((List.range k).map (Ta.Zek p cs base)).length≤k by simp);obtain⟨kb,hkb⟩:=Z1q base 1 (Ve.at_ cs (CL+k)).1 (Ve.at_ cs (CL+k)).2;have HX2:=zH hkb;clear hkb;obtain⟨sx,hsx⟩:∃sx,Ta.subR (base,1) (Ve.at_ cs (CL+k))=sx:=⟨_,rfl⟩;rw[show ((Ve.at_ cs (CL+k)).1,(Ve.at_ cs (CL+k)).2)=Ve.at_ cs (CL+k) from rfl,hsx] at HX2;rw[hsx] at HD;obtain⟨sn,sd⟩:=sx;generalize (List.range k).map (Ta.Zek p cs base)=ls at *;generalize Ta.Zek p cs base k=dk at *;generalize (Ve.at_ cs (CL+k)).1=e1 at *;generalize (Ve.at_ cs (CL+k)).2=e2 at *;generalize p.B.getD k 0=bk at *;have hwrap:IntKind.i64.wrap ((CL:Int)+(k:Int))=(CL:Int)+(k:Int):=IntWalk.i64_in _ (by omega);have hck0:(0:Int)≤(CL:Int)+(k:Int):=by omega
   have hcki:((CL:Int)+(k:Int)).toNat=CL+k:=by omega
   have hckl:(CL:Int)+(k:Int)<(NL:Int):=by have:=HNN.out;omega
   have HKp:Hid (∀w',Since wr w'->w'.cell? ⟨q,5,none⟩=some (.int .i64 CL)/\w'.cell? ⟨b1,o1+(CL+k)*2,none⟩=some (.int .i64 e1)/\w'.cell? ⟨b1,o1+(CL+k)*2+1,none⟩=some (.int .i64 e2)/\Since wr w'):=fun w' hs=>⟨hs.cell hqw d5,hs.cell hq1 r0,hs.cell hq1 r1,hs⟩
   have hin:=(Since.refl wr).drew;clear hsx
   go_upto_region 5 with fail
   go_cut [9,10] (fun bx kk wx=>Got2 wr sn sd kb bx kk wx)
   case first=>
    refine wp_region_held_drew (S:=fun w'=>w'.cell? ⟨q,5,none⟩=some (.int .i64 CL)/\w'.cell? ⟨b1,o1+(CL+k)*2,none⟩=some (.int .i64 e1)/\w'.cell? ⟨b1,o1+(CL+k)*2+1,none⟩=some (.int .i64 e2)/\Since wr w') (by kernel_rfl) ?_ (fun hHeld=>?_)
    ·exact HKp.out _ hin
    have hh:=hin;refine tk1 0 ⟨some 23,_,3,_,_,none⟩ ?_;refine tk1 2 ⟨some 25,_,26,_,_,none⟩ ?_;refine tk1 3 ⟨some 26,_,90,_,_,none⟩ ?_;refine tk1 4 ⟨some 27,_,0,_,_,none⟩ ?_;refine tk1 5 ⟨some 28,_,0,_,_,none⟩ ?_;refine tk1 6 ⟨some 29,_,0,_,_,none⟩ ?_;refine tk1 7 ⟨some 30,_,3,_,_,none⟩ ?_;refine tk1 8 ⟨some 31,_,3,_,_,none⟩ ?_;refine tk1 9 ⟨some 32,_,3,_,_,none⟩ ?_;refine tk1 10 ⟨some 33,_,0,_,_,none⟩ ?_;refine tk1 11 ⟨some 34,_,31,_,_,none⟩ ?_
    try simp only[Act.put,zA,zB,zC]
    refine wpAnyH_ready (rs:=[1,16]) (by kernel_rfl) (by simp) ?_;refine AllReadyH.cons (o:=⟨some 24,.call { callee:=.value (.func 91),args:=#[.tmp 23],argTypes:=#[3] },31,"l07_simplex.go:96",#[⟨0,.data⟩],none⟩) (rs:=[16]) rfl (fun K hK=>?_) (AllReadyH.cons (o:=⟨some 9,.alloc 31,0,"l07_simplex.go:96",#[],none⟩) (rs:=[]) rfl (fun K hK=>?_) AllReadyH.nil)
    ·go_simp
     (go_at_call 91;refine (Za9 (Za4 base _) hh).mono ?_;rintro e wa ⟨⟨rfl,_⟩,hh2⟩;clear hh;have hh:=hh2;clear hh2)
     refine hK.out _ _ ?_ (fun hHeld=>?_)
     ·exact HKp.out _ hh
     clear hK K
     try simp only[Act.put,zA,zB,zC]
     refine wpAnyH_ready (rs:=[12,16]) (by kernel_rfl) (by simp) ?_;refine AllReadyH.cons (o:=⟨some 35,.call { callee:=.value (.func 189),args:=#[.tmp 24,.tmp 34],argTypes:=#[31,31] },107,"l07_simplex.go:96",#[⟨1,.data⟩,⟨11,.data⟩,⟨1,.chain⟩],none⟩) (rs:=[16]) rfl (fun K hK=>?_) (AllReadyH.cons (o:=⟨some 9,.alloc 31,0,"l07_simplex.go:96",#[],none⟩) (rs:=[]) rfl (fun K hK=>?_) AllReadyH.nil)
     ·go_simp
      (go_at_call 189;refine (Za9 (HX2.out _) hh).mono ?_;rintro e wb ⟨⟨rfl,_⟩,hh2⟩;clear hh;have hh:=hh2;clear hh2)
      refine hK.out _ _ ?_ (fun hHeld=>?_)
      ·exact HKp.out _ hh
      clear hK K;refine tk1 13 ⟨some 22,_,107,_,_,none⟩ ?_;refine tk1 14 ⟨some 36,_,31,_,_,none⟩ ?_;refine tk1 15 ⟨some 37,_,4,_,_,none⟩ ?_
      try simp only[Act.put,zA,zB,zC]
      refine rd1 16 ⟨some 9,_,0,_,_,none⟩ fun K hK=>?_
      go_simp
      skip
      refine hK.out _ _ ?_ (fun hHeld=>?_)
      ·exact HKp.out _ (hh.alloc _)
      clear hK K
      try simp only[Act.put,zA,zB,zC]
      refine rd1 17 ⟨none,_,0,_,_,none⟩ fun K hK=>?_
      go_simp
      skip
      refine hK.out _ _ ?_ (fun hHeld=>?_)
      ·exact HKp.out _ (hh.alloc _)
      clear hK K;refine tk1 18 ⟨some 10,_,4,_,_,none⟩ ?_
      try simp only[Act.put,zA,zB,zC]
      refine wpAnyH_done (by kernel_rfl) ?_ _
      go_wp2_with fail
      go_meet
      exact Got2.last hh _ _ _
     ·go_simp
      skip
      refine hK.out _ _ ?_ (fun hHeld=>?_)
      ·exact HKp.out _ (hh.alloc _)
      clear hK K;have ho:=hh.new (.int .i64 0) (.int .i64 0) 31;refine rd1 12 ⟨some 35,_,107,_,_,none⟩ fun K hK=>?_
      go_simp
      (go_at_call 189;refine (Zcn (HX2.out _) ho).mono ?_;rintro e wb ⟨⟨rfl,_⟩,ho2⟩;clear ho;have ho:=ho2;clear ho2;obtain⟨z0,z1,f0,f1⟩:=Own2.own ho)
      refine hK.out _ _ ?_ (fun hHeld=>?_)
      ·exact HKp.out _ ho.since
      clear hK K;refine tk1 13 ⟨some 22,_,107,_,_,none⟩ ?_;refine tk1 14 ⟨some 36,_,31,_,_,none⟩ ?_;refine tk1 15 ⟨some 37,_,4,_,_,none⟩ ?_
      try simp only[Act.put,zA,zB,zC]
      refine rd1 17 ⟨none,_,0,_,_,none⟩ fun K hK=>?_
      go_simp
      skip
      refine hK.out _ _ ?_ (fun hHeld=>?_)
      ·exact HKp.out _ (ho.set2 _ _)
      clear hK K;refine tk1 18 ⟨some 10,_,4,_,_,none⟩ ?_
      try simp only[Act.put,zA,zB,zC]
      refine wpAnyH_done (by kernel_rfl) ?_ _
      go_wp2_with fail
      go_meet
      exact Got2.set ho _ _ _
    ·go_simp
     skip
     refine hK.out _ _ ?_ (fun hHeld=>?_)
     ·exact HKp.out _ (hh.alloc _)
     clear hK K;have ho:Own2 wr (.int .i64 0) (.int .i64 0) 31 wr.heap.size _:=hh.new (.int .i64 0) (.int .i64 0) 31;refine rd1 1 ⟨some 24,_,31,_,_,none⟩ fun K hK=>?_
     go_simp
     (go_at_call 91;refine (Zcn (Za4 base _) ho).mono ?_;rintro e wa ⟨⟨rfl,_⟩,ho2⟩;clear ho;have ho:=ho2;clear ho2)
     refine hK.out _ _ ?_ (fun hHeld=>?_)
     ·exact HKp.out _ ho.since
     clear hK K
     try simp only[Act.put,zA,zB,zC]
     refine rd1 12 ⟨some 35,_,107,_,_,none⟩ fun K hK=>?_
     go_simp
     (go_at_call 189;refine (Zcn (HX2.out _) ho).mono ?_;rintro e wb ⟨⟨rfl,_⟩,ho2⟩;clear ho;have ho:=ho2;clear ho2;obtain⟨z0,z1,f0,f1⟩:=Own2.own ho)
     refine hK.out _ _ ?_ (fun hHeld=>?_)
     ·exact HKp.out _ ho.since
     clear hK K;refine tk1 13 ⟨some 22,_,107,_,_,none⟩ ?_;refine tk1 14 ⟨some 36,_,31,_,_,none⟩ ?_;refine tk1 15 ⟨some 37,_,4,_,_,none⟩ ?_
     try simp only[Act.put,zA,zB,zC]
     refine rd1 17 ⟨none,_,0,_,_,none⟩ fun K hK=>?_
     go_simp
     skip
     refine hK.out _ _ ?_ (fun hHeld=>?_)
     ·exact HKp.out _ (ho.set2 _ _)
     clear hK K;refine tk1 18 ⟨some 10,_,4,_,_,none⟩ ?_
     try simp only[Act.put,zA,zB,zC]
     refine wpAnyH_done (by kernel_rfl) ?_ _
     go_wp2_with fail
     go_meet
     exact Got2.set ho _ _ _
   case rest=>
    obtain⟨w3,rfl⟩:∃q:World,q=wc:=⟨_,rfl⟩;obtain⟨qx,rfl,rfl,hcx,hqx,hs3⟩:=hcut;have HS3:=zH hs3;have hB3:=zH (hB.out.trans (hs3.low.mono hB.out.size));have hO3:=zH (hO.out.below hs3.low);have h13:=h1.below hs3.low;have g3:=hs3.cell (p:=⟨b2,o2+k,none⟩) hbb2 g0;obtain⟨x0,x1,y0,y1⟩:=twoc hcx;have HCX:=zH hcx;have hon:∀g,u7.ownBlock=some g->g≠qx:=fun g hg=>by have:=(World.ownsRow.lt hO.out g hg).2;omega
    have HOn:=zH hon;clear hin HKp HX2 hO hon d0 d1 d2 d3 d4 d5 d6 d7 r0 r1 g0 hcx hs3 hwrap hck0 hcki hckl;obtain⟨⟨d0,d1,d2⟩,⟨d3,d4,d5⟩,d6,d7⟩:=eight h13;clear h13
    by_cases hneg:bk<0
    ·have q1:decide (bk<0)=true:=decide_eq_true hneg
     obtain⟨y,hy⟩:∃y,IntKind.i64.wrap (-sn)=y:=⟨_,rfl⟩;have HDk:=zH (show (y,sd)=dk by rw[HD.out,if_pos hneg,<-hy,Zi0];rfl);have HBx:=zH (hB3.out.setCell (p:=⟨qx,0,none⟩) (show w.heap.size≤qx by have:=hB.out.size;omega) (.int .i64 y));have HOx:Hid (Zaa w.heap.size (w3.setCell ⟨qx,0,none⟩ (.int .i64 y)) u7 ls):=Zao hO3.out (fun e=>HOn.out _ e rfl);have hc5:Zac (w3.setCell ⟨qx,0,none⟩ (.int .i64 y)) qx #[.int .i64 y,.int .i64 sd] 31:=by
      have:=HCX.out.set 0 (.int .i64 y)
      simpa using this
     have HC5:=zH hc5;clear hO3 HD hc5
     go_upto_region 8 with fail
     generalize hW5:(w3.setCell ⟨qx,0,none⟩ (.int .i64 y))=w5 at *;obtain⟨r5,r6,_,_⟩:=twoc HC5.out;have Hone:=zH (Zb2 w5 (y,sd));have hsw:=HBx.out.size;have hlenx:=Hlen.out;have Hown:Hid (Zaa w.heap.size (w5.alloc (.cells #[.int .i64 y,.int .i64 sd] 31)) _ ls):=Zaa.alloc HOx.out (.cells #[.int .i64 y,.int .i64 sd] 31)
     go_wp2_with (at_builtin;refine Zaj rfl _ _ rfl w.heap.size _ ls rfl Hown.out _ [(y,sd)] 1 1 rfl rfl _ Hone.out (by simp;omega) (by rw[Zar];omega) ?_)
     intro v4 w4 hown hgrow;have hkb:Below w.heap.size w5 w4:=((Below.refl w.heap.size w5).alloc hsw (.cells #[.int .i64 y,.int .i64 sd] 31)).grown hgrow (by rw[Zar];omega) (fun g hg=>(World.ownsRow.lt Hown.out g hg).1);have HB4:=zH (HBx.out.trans hkb);have HO4:=zH hown;rw[HDk.out,<-He.out] at HO4;clear hown hgrow hkb hsw Hown Hone HBx HOx hlenx
     go_wp2_with fail
     go_roundw
     case rel=>exact⟨k+1,by omega,by go_num,HO4,HB4⟩
     case measure=>simp[intOf];omega
    ·have q1:decide (bk<0)=false:=decide_eq_false hneg
     have HDk:=zH (show (sn,sd)=dk by rw[HD.out,if_neg hneg]);have HBx:=hB3;have HOx:=hO3;clear HD
     go_upto_region 8 with fail
     have Hone:=zH (Zb2 w3 (sn,sd));have hsw:=HBx.out.size;have hlenx:=Hlen.out;have Hown:Hid (Zaa w.heap.size (w3.alloc (.cells #[.int .i64 sn,.int .i64 sd] 31)) _ ls):=Zaa.alloc HOx.out (.cells #[.int .i64 sn,.int .i64 sd] 31)
     go_wp2_with (at_builtin;refine Zaj rfl _ _ rfl w.heap.size _ ls rfl Hown.out _ [(sn,sd)] 1 1 rfl rfl _ Hone.out (by simp;omega) (by rw[Zar];omega) ?_)
     intro v4 w4 hown hgrow;have hkb:Below w.heap.size w3 w4:=((Below.refl w.heap.size w3).alloc hsw (.cells #[.int .i64 sn,.int .i64 sd] 31)).grown hgrow (by rw[Zar];omega) (fun g hg=>(World.ownsRow.lt Hown.out g hg).1);have HB4:=zH (HBx.out.trans hkb);have HO4:=zH hown;rw[HDk.out,<-He.out] at HO4;clear hown hgrow hkb hsw Hown Hone HBx HOx hlenx
     go_wp2_with fail
     go_roundw
     case rel=>exact⟨k+1,by omega,by go_num,HO4,HB4⟩
     case measure=>simp[intOf];omega
  ·obtain rfl:k=AL:=by omega
   have HE:=zH (show (List.range k).map (Ta.Zek p cs base)=Ta.Zc8 p cs base by unfold Ta.Zc8;rw[HAL.out]);generalize Ta.Zc8 p cs base=DR at *;generalize (List.range k).map (Ta.Zek p cs base)=ls at *
   go_wp2_with fail
   go_ret;exact⟨_,rfl,by rw[<-HE.out];exact hO.out,hB.out⟩
theorem Zot {n:Int} (h:-9223372036854775808≤n/\n≤9223372036854775807):(Lit.int .i64 n).wf=true:=by
 have e1:IntKind.i64.min=-9223372036854775808:=rfl;have e2:IntKind.i64.max=9223372036854775807:=rfl;simp[Lit.wf,e1,e2];exact h
theorem Zcs {p:P} {t:T} {n:Nat} (hv:Lp.vldP p=true) (h:Ta.Same p (t,n)):Zca t/\t.rows.length≤8/\0≤t.cols/\t.cols≤70/\n≤1000:=by
 obtain⟨_,hC,hA,_,_,_⟩:=Lp.Zas hv;obtain⟨h1,h2,h3,h4⟩:=h;simp only at h1 h2 h3 h4;obtain⟨g1,g2,g3,g4⟩:=Ta.Za2 h1;refine⟨⟨by omega,fun k hk=>?_,by omega,Zot (by omega)⟩,by omega,by omega,by omega,h4⟩;have h5:((rr t.rows k).length:Int)=t.cols+t.rows.length+1:=(g4 k hk).1;omega
theorem Zkz (cost:List R):∀k,-1≤Ta.ent cost k/\Ta.ent cost k<k
 | 0=>⟨by show (-1:Int)≤-1;omega,by show (-1:Int)<0;omega⟩
 | k+1=>by
  have h:=Zkz cost k;unfold Ta.ent
  split
  ·omega
  ·split<;>omega
theorem Zm0 (cost:List R) (last:Int):-1≤Ta.entR cost last/\Ta.entR cost last≤cost.length:=by
 unfold Ta.entR
 split
 ·have:=Zkz cost last.toNat
  omega
 ·omega
theorem Zpo (t:T) (c:Int):-1≤Ta.lvR t c/\Ta.lvR t c≤t.rows.length:=by
 unfold Ta.lvR
 split
 ·have:=Ta.Zss t c.toNat t.rows.length
  omega
 ·omega
def pivN (q:Nat) (w:World):Nat:=match w.cell? ⟨q,6,none⟩ with
 | some (.int _ n)=>n.toNat
 | _=>0
theorem Wk.piv {q:Nat} {w:World} {p:P} {t:T} {n:Nat} {bad:Bool} (h:Wk q w p t n bad):pivN q w=n:=by
 obtain⟨_,_,_,_,_,_,_,_,_,_,h1,_⟩:=h;obtain⟨_,_,d6,_⟩:=eight h1;unfold pivN;rw[d6];simp
def Zh1 (q:Nat) (p:P) (RR:Option ((T×Nat)×List R×Int)) (w:World) (e:Ending) (w':World):Prop:=
 Only q w w'/\(match RR with
  | none=>(∃(v:Value) (c:Int),e=.returned (.tuple #[v,.int .i64 c]))/\Zki q w'
  | some (s,cs,col)=>∃(a:Option Addr) (c:Nat),e=.returned (.tuple #[.slice a cs.length c,.int .i64 col])/\Wk q w' p s.1 s.2 false/\Zah w'.heap.size w' a cs)
theorem Zh1.bad {q:Nat} {p:P} {RR:Option ((T×Nat)×List R×Int)} {w:World} {w':World} (hR:RR=none) (ho:Only q w w') (v:Value) (c:Int) (hb:Zki q w'):Zh1 q p RR w (.returned (.tuple #[v,.int .i64 c])) w':=by
 subst hR;exact⟨ho,⟨v,c,rfl⟩,hb⟩
theorem Zh1.good {q:Nat} {p:P} {RR:Option ((T×Nat)×List R×Int)} {w:World} {w':World} {t:T} {n:Nat} {cs:List R} {col:Int} (hR:RR=some ((t,n),cs,col)) (ho:Only q w w') (a:Option Addr) (c:Nat) (hb:Wk q w' p t n false) (hk:Zah w'.heap.size w' a cs):Zh1 q p RR w (.returned (.tuple #[.slice a cs.length c,.int .i64 col])) w':=by
 subst hR;exact⟨ho,a,c,rfl,hb,hk⟩
theorem Zjo {q:Nat} {w:World} {p:P} {t:T} {n:Nat} (h:Wk q w p t n false) (hv:Lp.vldP p=true) (hS:Ta.Same p (t,n)) (ad:Option Addr) (cc:Nat) (cost:List R) (hcl:cost.length≤1048576) (hk:Off q (fun w'=>Zah w'.heap.size w' ad cost) w) :
  Calls Tryz.prog 139 #[.pointer (some ⟨q,0,none⟩),.slice ad cost.length cc] w (Zh1 q p (Ta.ph cost (t,n)) w):=by
 obtain⟨RR,hRR⟩:∃RR,Ta.ph cost (t,n)=RR:=⟨_,rfl⟩;rw[hRR];have H:=zH h;have HS:=zH hS;have HR:=zH hRR;have HK:=zH hk;have HV:=zH hv;have HCL:=zH hcl;obtain⟨NL,hNL⟩:∃NL,cost.length=NL:=⟨_,rfl⟩;have HNL:=zH hNL;rw[hNL];clear h hS hRR hk hv hcl hNL
 go_enter Tryz.func139,Tryz.ntmps139
 go_wp2_with fail
 go_loopw [6] (fun _ wr=>∃(t':T) (n':Nat),Hid (Ta.Same p (t',n'))/\Hid (Wk q wr p t' n' false)/\Hid (Only q w wr)/\Hid (Ta.ph cost (t',n')=RR)) (fun _ wr=>1001-pivN q wr)
 case atStart=>exact⟨t,n,HS,H,Only.refl q w,HR⟩
 case round=>
  obtain⟨t',n',hS,hW,hO,hE⟩:=hrel;obtain⟨aA,aB,aC,a,b,cA,cB,cC,c1,c2,h1,h2,h3⟩:=hW.out;have hqr:=Zab h1;have hkr:=HK.out.only hO.out;obtain⟨hft,hr8,hc0,hc70,hn1⟩:=Zcs HV.out hS.out;have HCR:=zH (Zp5 wr.heap.size a b ad c1 c2 cc t' cost hft HCL.out wr (Nat.le_refl _) h3.1 hkr.1);rw[HNL.out,show tabV a b c1 c2 t'=.agg #[.slice a t'.rows.length c1,.slice b t'.basis.length c2,.int .i64 t'.cols] from rfl] at HCR;obtain⟨K,hK⟩:∃K,Ta.Zco t' cost=K:=⟨_,rfl⟩;obtain⟨CS,hCS⟩:∃CS,Ta.Zdm t' cost=CS:=⟨_,rfl⟩;obtain⟨RL,hRL⟩:∃RL,t'.rows.length=RL:=⟨_,rfl⟩;obtain⟨BL,hBL⟩:∃BL,t'.basis.length=BL:=⟨_,rfl⟩;rw[hK,hCS,hRL,hBL] at HCR;have HFT:=zH hft;have HHK:=zH hK;have HCS:=zH hCS;have HRL:=zH hRL;have HBL:=zH hBL;have H1:=zH h1;have H2:=zH h2;have H3:=zH h3;rw[hRL,hBL] at H1;rw[hRL,hBL] at h1;obtain⟨⟨d0,d1,d2⟩,⟨d3,d4,d5⟩,d6,d7⟩:=eight h1;clear h1 h2 h3 hft hK hCS hRL hBL hkr
  go_wp2_with fail
  refine HCR.out.mono ?_;rintro e w1 ⟨v,rfl,ho,hb1⟩;obtain⟨av,cv,rfl,hrd,_,_⟩:=Zai ho;have C1:=H1.out.below hb1;have HO1:=zH (hO.out.trans (Zaz hb1 (Nat.le_of_lt hqr)));have HB1:=zH hb1;have HRD:=zH hrd;obtain⟨XL,hXL⟩:∃XL,CS.length=XL:=⟨_,rfl⟩;have HXL:=zH hXL;rw[hXL];clear d0 d1 d2 d3 d4 d5 d6 d7 ho hrd hb1 hXL HCR;obtain⟨⟨d0,d1,d2⟩,⟨d3,d4,d5⟩,d6,d7⟩:=eight C1;obtain⟨⟨f3,f4,f5⟩,f6,f7⟩:=Zx3 C1;have HC1:=zH C1;clear C1;cases K with
  | false=>
   have HN:Hid (RR=none):=by show _=_;rw[<-hE.out];exact Ta.Z0g HHK.out
   go_wp2_with fail
   go_ret2
   exact Zh1.bad HN.out (HO1.out.setCell 7 _) _ _ ⟨_,_,_,_,_,_,_,_,_,set7 HC1.out _⟩
  | true=>
   have hlen:CS.length≤1048576:=by
    have:=Ta.Zbj HHK.out;rw[HCS.out] at this;omega
   obtain⟨EC,hEC⟩:∃EC,Ta.entR CS t'.cols=EC:=⟨_,rfl⟩;have hEC2:Ta.entC t' cost=EC:=by rw[<-hEC,<-HCS.out];rfl
   have hr1:=Zm0 CS t'.cols;rw[hEC] at hr1;have hwc:(Lit.int .i64 t'.cols).wf=true:=HFT.out.cols;have HEN:=zH (fun (w':World) (hs:Since w1 w')=>(show Calls Tryz.prog 16 #[.agg #[.slice a RL c1,.slice b BL c2,.int .i64 t'.cols],.slice av XL cv,.int .i64 t'.cols] w' (fun e w''=>e=.returned (.int .i64 EC)/\Below w'.heap.size w' w'') by
    have:=Zht w1.heap.size a b av c1 c2 cv t' CS t'.cols hwc hlen w' hs.low.size (HRD.out.below hs.low);rw[hEC,HXL.out,show tabV a b c1 c2 t'=.agg #[.slice a t'.rows.length c1,.slice b t'.basis.length c2,.int .i64 t'.cols] from rfl,HRL.out,HBL.out] at this;exact this))
   have hin:=Since.refl w1;have hqw:=Zab HC1.out;have Cell:=zH (fun w' (hs:Since w1 w')=>(show w'.cell? ⟨q,3,none⟩=some (.slice a RL c1)/\w'.cell? ⟨q,4,none⟩=some (.slice b BL c2)/\w'.cell? ⟨q,5,none⟩=some (.int .i64 t'.cols)/\Since w1 w' from ⟨hs.cell hqw d3,hs.cell hqw d4,hs.cell hqw d5,hs⟩));have HEC2:=zH hEC2;have HR1:=zH hr1;have HLEN:=zH hlen;clear hEC hEC2 hr1 hwc d0 d1 d2 d6 d7 f3 f4 f5 f6 f7 hlen;obtain⟨TC,hTC⟩:∃TC,t'.cols=TC:=⟨_,rfl⟩;have HTC:=zH hTC;rw[hTC] at HEN Cell d5 HC1 hc0 hc70;clear hTC
   go_upto_region 5 with fail
   go_region_held3 (fun w'=>w'.cell? ⟨q,3,none⟩=some (.slice a RL c1)/\w'.cell? ⟨q,4,none⟩=some (.slice b BL c2)/\w'.cell? ⟨q,5,none⟩=some (.int .i64 TC)/\Since w1 w') (first|exact Cell.out _ (by assumption) | exact Cell.out _ (Since.drew (by assumption)))
    (first | (go_at_call 16;refine (Za9 (HEN.out _ (by first|assumption|exact Since.drew (by assumption))) (by first|assumption|exact Since.drew (by assumption))).mono ?_;rintro e w' ⟨⟨rfl,_⟩,hin2⟩))
   obtain⟨w2,rfl⟩:∃w2,w2=w':=⟨_,rfl⟩;have HC2:=zH (HC1.out.below hin2.low);have HO2:=zH (HO1.out.trans (Zaz hin2.low (Nat.le_of_lt hqw)));have HB2:=zH (HB1.out.trans (hin2.low.mono HB1.out.size));have HRD2:=zH ((HRD.out.below hin2.low).mono hin2.low.size);clear d3 d4 d5 Cell HEN hin hin2 HC1 HO1 HB1 HRD;obtain⟨⟨d0,d1,d2⟩,⟨d3,d4,d5⟩,d6,d7⟩:=eight HC2.out;obtain⟨⟨f3,f4,f5⟩,f6,f7⟩:=Zx3 HC2.out
   by_cases hneg:EC<0
   ·have hd:decide (EC<0)=true:=decide_eq_true hneg
    have hE1:EC=-1:=by have:=HR1.out;omega
    have HN:Hid (RR=some ((t',n'),CS,-1)):=by
     show _=_;rw[<-hE.out,Ta.Zrp hn1 HHK.out (by rw[HEC2.out,Ta.Z00 hneg];show (-1:Int)<0;omega)];rw[HCS.out,HEC2.out,hE1]
    have HWk:Hid (Wk q w2 p t' n' false):=hW.out.only HB2.out
    go_wp2_with fail
    go_ret2
    rw[<-HXL.out];exact Zh1.good HN.out HO2.out _ _ HWk.out HRD2.out
   ·have hd:decide (EC<0)=false:=decide_eq_false hneg
    have hwe:(Lit.int .i64 EC).wf=true:=Zot (by have:=HR1.out;have:=HLEN.out;omega);have hT2:=(H3.out.only (Zaz HB2.out (Nat.le_of_lt hqr))).1;have HLV:=zH (Zl1 w2.heap.size a b c1 c2 t' EC hwe HFT.out w2 (Nat.le_refl _) hT2);obtain⟨LV,hLV⟩:∃LV,Ta.lvR t' EC=LV:=⟨_,rfl⟩;have HHL:=zH hLV;have hr2:=Zpo t' EC;rw[hLV] at hr2;have HR2:=zH hr2;rw[hLV,show tabV a b c1 c2 t'=.agg #[.slice a t'.rows.length c1,.slice b t'.basis.length c2,.int .i64 t'.cols] from rfl,HRL.out,HBL.out,HTC.out] at HLV;have hwl:(Lit.int .i64 LV).wf=true:=Zot (by omega);clear hT2 hLV hr2
    go_wp2_with fail
    refine HLV.out.mono ?_;rintro e w3 ⟨rfl,hb3⟩;have HB3:=zH (HB2.out.trans (hb3.mono HB2.out.size));have HO3:=zH (HO2.out.trans (Zaz hb3 (Nat.le_of_lt (Zab HC2.out))));have HRD3:=zH ((HRD2.out.below hb3).mono hb3.size);have HWk:Hid (Wk q w3 p t' n' false):=hW.out.only HB3.out;clear d0 d1 d2 d3 d4 d5 d6 d7 f3 f4 f5 f6 f7 hb3 HC2 HO2 HRD2 HLV HB2
    by_cases hl:LV<0
    ·have hd2:decide (LV<0)=true:=decide_eq_true hl
     have HN:Hid (RR=some ((t',n'),CS,EC)):=by
      show _=_;rw[<-hE.out,Ta.Zrp hn1 HHK.out (by rw[HEC2.out,HHL.out];exact hl)];rw[HCS.out,HEC2.out]
     go_wp2_with fail
     go_ret2
     rw[<-HXL.out];exact Zh1.good HN.out HO3.out _ _ HWk.out HRD3.out
    ·have hd2:decide (LV<0)=false:=decide_eq_false hl
     have HPV:=zH (Zjp HWk.out HFT.out hn1 LV EC hwl hwe);have HPH:=zH (fun (h3:Ta.Zcc (t',n') LV EC=none)=>(show RR=none by
      rw[<-hE.out];exact Ta.Zwi (by rw[HEC2.out,HHL.out];exact hl) (by rw[HEC2.out,HHL.out];exact h3)))
     have HPM:=zH (fun (s:T×Nat) (h3:Ta.Zcc (t',n') LV EC=some s)=>(show Ta.ph cost s=RR by
      rw[<-hE.out];exact (Ta.Zwh HHK.out (by rw[HEC2.out,HHL.out];exact hl) (by rw[HEC2.out,HHL.out];exact h3)).symm))
     obtain⟨ST,hST⟩:∃ST,Ta.Zcc (t',n') LV EC=ST:=⟨_,rfl⟩;have HST:=zH hST;clear hST
     go_wp2_with fail
     refine HPV.out.mono ?_;rintro e w4 ⟨rfl,ho4,hm⟩;rw[HST.out] at hm;have HO4:=zH (HO3.out.trans ho4);clear ho4 HPV;cases ST with
     | none=>
      have HN:=zH (HPH.out HST.out);have HBd:=zH (show Zki q w4 from hm);obtain⟨x0,x1,x2,x3,l3,y3,x4,x5,m,k1⟩:=HBd.out;obtain⟨⟨d0,d1,d2⟩,⟨d3,d4,d5⟩,d6,d7⟩:=eight k1;clear hm k1
      go_wp2_with fail
      go_ret2
      exact Zh1.bad HN.out HO4.out _ _ HBd.out
     | some s=>
      obtain⟨t4,n4⟩:=s;have HN:=zH (HPM.out _ HST.out);have HS4:=zH (Ta.Zin hS.out HST.out);have hn4:n4=n'+1/\n'<1000:=by
       obtain⟨q1,_,q2⟩:=Ta.Zfy HST.out;injection q2 with _ q2
       exact⟨q2,q1⟩
      have HG:=zH (show Wk q w4 p t4 n4 false from hm);obtain⟨_,_,_,_,_,_,_,_,_,_,k1,_⟩:=HG.out;obtain⟨⟨d0,d1,d2⟩,⟨d3,d4,d5⟩,d6,d7⟩:=eight k1;clear hm k1;have hp1:=hW.out.piv;have hp2:=HG.out.piv
      go_wp2_with fail
      go_roundw
      case rel=>exact⟨t4,n4,HS4,HG,HO4,HN⟩
      case measure=>simp only[hp1,hp2];omega
def WkOr (q:Nat) (p:P) (o:Option (T×Nat)) (w:World):Prop:=match o with
 | none=>Zki q w
 | some s=>Wk q w p s.1 s.2 false
def Z1u (q:Nat) (p:P) (o:Option (T×Nat)) (w:World) (e:Ending) (w':World):Prop:=e=.returned (.tuple #[])/\Only q w w'/\WkOr q p o w'
theorem Zmx {s:T×Nat} {t:T} {n k:Nat} {b:Int} (h:Ta.drive s k=some (t,n)) (hb:Ta.bas t k=b) (hlt:b<t.cols):Ta.drive s (k+1)=some (t,n):=by
 rw[Ta.Zfo h];show (if Ta.bas t k<t.cols then some (t,n) else _)=_;rw[if_pos (by rw[hb];exact hlt)]
theorem Zmy {s:T×Nat} {t:T} {n k:Nat} {b:Int} (h:Ta.drive s k=some (t,n)) (hb:Ta.bas t k=b) (hlt:¬b<t.cols) (hf:Ta.fstN (Ta.row t k) t.cols.toNat=-1):Ta.drive s (k+1)=some (t,n):=by
 rw[Ta.Zfo h];show (if Ta.bas t k<t.cols then some (t,n) else if Ta.fstN (Ta.row t k) t.cols.toNat<0 then some (t,n) else _)=_;rw[if_neg (by rw[hb];exact hlt),if_pos (by rw[hf];show (-1:Int)<0;omega)]
theorem Zmz {s:T×Nat} {t:T} {n k j:Nat} {b:Int} (h:Ta.drive s k=some (t,n)) (hb:Ta.bas t k=b) (hlt:¬b<t.cols) (hf:Ta.fstN (Ta.row t k) t.cols.toNat=j):Ta.drive s (k+1)=Ta.Zcc (t,n) k j:=by
 rw[Ta.Zfo h];show (if Ta.bas t k<t.cols then some (t,n) else if Ta.fstN (Ta.row t k) t.cols.toNat<0 then some (t,n) else Ta.Zcc (t,n) k (Ta.fstN (Ta.row t k) t.cols.toNat))=_;rw[if_neg (by rw[hb];exact hlt),hf,if_neg (by omega)]
theorem Zqa {q:Nat} {w:World} {p:P} {t:T} {n:Nat} (h:Wk q w p t n false) (hv:Lp.vldP p=true) (hS:Ta.Same p (t,n)) :
  Calls Tryz.prog 142 #[.pointer (some ⟨q,0,none⟩)] w (Z1u q p (Ta.drive (t,n) p.A.length) w):=by
 obtain⟨RR,hRR⟩:∃RR,Ta.drive (t,n) p.A.length=RR:=⟨_,rfl⟩;rw[hRR];have H:=zH (show WkOr q p (some (t,n)) w from h);have HS:=zH hS;have HR:=zH hRR;have HV:=zH hv;obtain⟨AL,hAL⟩:∃AL,p.A.length=AL:=⟨_,rfl⟩;have HAL:=zH hAL;rw[hAL] at HR;have hq:=h.lt;have hA8:AL≤8:=by have:=(Lp.Zas hv).2.2.1;omega
 clear h hS hRR hv hAL
 go_enter Tryz.func142,Tryz.ntmps142
 go_wp2_with fail
 go_loopw [2] (fun i wr=>∃(k:Nat) (DS:Option (T×Nat)),k≤AL/\i=.int .i64 k/\Hid (Ta.drive (t,n) k=DS)/\Hid (WkOr q p DS wr)/\Hid (Only q w wr)) (fun i _=>AL-(intOf i).toNat)
 case atStart=>exact⟨0,_,Nat.zero_le _,rfl,rfl,H,Only.refl q w⟩
 case round=>
  obtain⟨k,DS,hk,rfl,hD,hM,hO⟩:=hrel;cases DS with
  | none=>
   have HN:Hid (RR=none):=by show _=_;rw[<-HR.out];exact Ta.Zgi hD.out AL hk
   have HBd:=zH (show Zki q wr from hM.out);obtain⟨x0,x1,x2,x3,l3,y3,x4,x5,m,k1⟩:=HBd.out;obtain⟨⟨d0,d1,d2⟩,⟨d3,d4,d5⟩,d6,d7⟩:=eight k1;clear k1
   by_cases hlt:k<l3
   ·go_wp2_with fail
    go_end0
    exact⟨rfl,hO.out,by rw[HN.out];exact HBd.out⟩
   ·go_wp2_with fail
    go_end0
    exact⟨rfl,hO.out,by rw[HN.out];exact HBd.out⟩
  | some s=>
   obtain⟨t',n'⟩:=s;have hW:=zH (show Wk q wr p t' n' false from hM.out);have hS':=zH (Ta.Zdy HS.out hD.out);obtain⟨hft,hr8,hc0,hc70,hn1⟩:=Zcs HV.out hS'.out;obtain⟨g1,g2,g3,g4⟩:=hS'.out;simp only at g1 g2 g3;obtain⟨_,_,g5,g6⟩:=Ta.Za2 g1;obtain⟨aA,aB,aC,a,b,cA,cB,cC,c1,c2,h1,h2,h3⟩:=hW.out;have hRA:t'.rows.length=AL:=g2.trans HAL.out;rw[hRA,g5.trans hRA] at h1;obtain⟨⟨d0,d1,d2⟩,⟨d3,d4,d5⟩,d6,d7⟩:=eight h1
   by_cases hlt:k<AL
   ·obtain⟨bb,ob,rfl,hbb,e0⟩:=h3.1.mB k (by omega)
    obtain⟨b1,o1,a1,k1,rfl,hb1,e1,hrd⟩:=h3.1.mR k (by omega);obtain⟨bk,hbk⟩:∃bk,t'.basis.getD k 0=bk:=⟨_,rfl⟩;have HBK:=zH (show Ta.bas t' k=bk from hbk);rw[hbk] at e0;have hrl:((rr t'.rows k).length:Int)=t'.cols+t'.rows.length+1:=(g6 k (by omega)).1;obtain⟨TC,hTC⟩:∃TC,t'.cols=TC:=⟨_,rfl⟩;have HTC:=zH hTC;obtain⟨RW,hRW⟩:∃RW,rr t'.rows k=RW:=⟨_,rfl⟩;have HRW:=zH (show Ta.row t' k=RW from hRW);rw[hRW] at e1 hrd hrl;rw[hTC] at hc0 hc70 hrl d5;have H1:=zH h1;have HFT:=zH hft;have HRD:=zH hrd;have hqr:=Zab h1;clear h1 h2 h3 g1 g2 g3 g4 g5 g6 hft hbk hTC hRW hrd
    go_upto_region 3 with fail
    go_region
    have Hd:=zH ((Below.refl wr.heap.size wr).drew);have HO2:=zH hO.out.drew;have HW2:=zH (hW.out.only Hd.out);have HRD2:Hid (Zah wr.drew.heap.size wr.drew a1 RW):=HRD.out.below Hd.out;have H12:=zH (H1.out.below Hd.out);have e12:wr.drew.cell? ⟨b1,o1+k,none⟩=some (.slice a1 RW.length k1):=e1;have hs2:wr.drew.heap.size=wr.heap.size:=rfl;have hqd:q<wr.drew.heap.size:=hqr;have hb1d:b1<wr.drew.heap.size:=hb1;clear Hd HRD H1 hO hM d0 d1 d2 d3 d4 d5 d6 d7 e0 e1 hs2
    by_cases hlc:bk<TC
    ·have hd1:decide (bk<TC)=true:=decide_eq_true hlc
     have HN:=zH (Zmx hD.out HBK.out (by rw[HTC.out];exact hlc))
     go_wp2_with fail
     go_roundw
     case rel=>exact⟨k+1,_,by omega,by go_num,HN,HW2,HO2⟩
     case measure=>simp[intOf];omega
    ·have hd1:decide (bk<TC)=false:=decide_eq_false hlc
     have HNo:=zH (Zmy hD.out HBK.out (by rw[HTC.out];exact hlc));have HSt:=zH (fun (j:Nat) hf=>Zmz (j:=j) hD.out HBK.out (by rw[HTC.out];exact hlc) hf);rw[HTC.out,HRW.out] at HNo HSt;obtain⟨wd,hwd⟩:∃wd,wr.drew=wd:=⟨_,rfl⟩;rw[hwd] at HO2 HW2 HRD2 H12 e12 hqd hb1d;rw[hwd];rw[HTC.out] at H12;have HRT:=zH hRA;obtain⟨TN,rfl⟩:∃TN:Nat,TC=TN:=⟨TC.toNat,by omega⟩;clear hwd hqr hb1 hD hW HBK
     go_wp2_with fail
     go_loopw [3] (fun i wr=>∃j:Nat,j≤TN/\i=.int .i64 j/\Hid (∀i,i<j->(Ve.at_ RW i).1=0)/\Hid (Below wd.heap.size wd wr)) (fun i _=>TN-(intOf i).toNat)
     case atStart=>exact⟨0,Nat.zero_le _,rfl,fun i hi=>absurd hi (by omega),Below.refl _ _⟩
     case round=>
      obtain⟨j,hj,rfl,hZ,hB⟩:=hrel;have H13:=zH (H12.out.below hB.out);obtain⟨⟨d0,d1,d2⟩,⟨d3,d4,d5⟩,d6,d7⟩:=eight H13.out;have HW3:=zH (HW2.out.only hB.out);have HO3:=zH (HO2.out.trans (Zaz hB.out (Nat.le_of_lt hqd)))
      by_cases hjt:j<TN
      ·have hjr:j<RW.length:=by omega
       have e3:=(hB.out.cell (p:=⟨b1,o1+k,none⟩) hb1d).trans e12;obtain⟨b5,o5,rfl,hb5,p0,p1⟩:=(HRD2.out.below hB.out).at j hjr;obtain⟨x,hx⟩:∃x,(Ve.at_ RW j).1=x:=⟨_,rfl⟩;have HX:=zH hx;rw[hx] at p0;clear hx
       by_cases hxz:x=0
       ·subst hxz
        have HZ2:=zH (show ∀i,i<j+1->(Ve.at_ RW i).1=0 from fun i hi=>by
         by_cases e:i=j
         ·subst e;exact HX.out
         ·exact hZ.out i (by omega))
        go_wp2_with fail
        go_roundw
        case rel=>exact⟨j+1,by omega,by go_num,HZ2,hB⟩
        case measure=>simp[intOf];omega
       ·have hf:=Ta.Zk3 hZ.out (by rw[HX.out];exact hxz) TN hjt
        have HSt2:=zH (HSt.out j hf);have HPV:=zH (Zjp HW3.out HFT.out hn1 (k:Int) (j:Int) (Zot (by omega)) (Zot (by omega)));clear hf
        go_wp2_with fail
        refine HPV.out.mono ?_;rintro e w4 ⟨rfl,ho4,hm⟩;have HO4:=zH (HO3.out.trans ho4);have HM4:=zH (show WkOr q p (Ta.Zcc (t',n') k j) w4 by
         revert hm
         rcases Ta.Zcc (t',n') k j with _|s'<;>exact fun h=>h)
        clear ho4 hm HPV d0 d1 d2 d3 d4 d5 d6 d7 p0 p1
        go_wp2_with fail
        go_roundw
        case rel=>exact⟨k+1,_,by omega,by go_num,HSt2,HM4,HO4⟩
        case measure=>simp[intOf];omega
      ·obtain rfl:j=TN:=by omega
       have HN:=zH (HNo.out (Ta.Zj4 hZ.out))
       go_wp2_with fail
       go_roundw
       case rel=>exact⟨k+1,_,by omega,by go_num,HN,HW3,HO3⟩
       case measure=>simp[intOf];omega
   ·have HN:Hid (RR=some (t',n')):=by
     show _=_;obtain rfl:k=AL:=by omega
     rw[<-HR.out];exact hD.out
    go_wp2_with fail
    go_end0
    exact⟨rfl,hO.out,by rw[HN.out];exact hW.out⟩
def ray0 (c m:Nat):List R:=(List.range m).map fun j=>if j=c then (1,1) else (0,1)
theorem Zwp (c m:Nat):ray0 c (m+1)=ray0 c m++[if m=c then (1,1) else (0,1)]:=by simp[ray0,List.range_succ]
theorem Zy6 (c m:Nat):(ray0 c m).length=m:=by simp[ray0]
theorem Zs5 {t:T} {c k:Nat} {b:Int} (hb:Ta.bas t k=b) (h:¬b<t.cols):Ta.Zdn t c (k+1)=Ta.Zdn t c k:=by
 show (if Ta.bas t k<t.cols then _ else Ta.Zdn t c k)=_;rw[if_neg (by rw[hb];exact h)]
theorem Zwq {t:T} {c k:Nat} {b:Int} (hb:Ta.bas t k=b) (h:b<t.cols):Ta.Zdn t c (k+1)=(Ta.Zdn t c k).set b.toNat (Ta.negR (Ve.at_ (Ta.row t k) c)):=by
 show (if Ta.bas t k<t.cols then (Ta.Zdn t c k).set (Ta.bas t k).toNat (Ta.negR (Ve.at_ (Ta.row t k) c)) else _)=_;rw[if_pos (by rw[hb];exact h),hb]
theorem Zum {q:Nat} {w:World} {p:P} {t:T} {n:Nat} (h:Wk q w p t n false) (hv:Lp.vldP p=true) (hS:Ta.Same p (t,n)) (c:Nat) (hc:(c:Int)<t.cols) :
  Calls Tryz.prog 144 #[.pointer (some ⟨q,0,none⟩),.int .i64 c] w (Zbg (Ta.Zdn t c p.A.length) w):=by
 have hq:=h.lt;have HW:=zH h;obtain⟨hft,hr8,hc0,hc70,hn1⟩:=Zcs hv hS;obtain⟨g1,g2,g3,g4⟩:=hS;simp only at g1 g2 g3;obtain⟨_,_,g5,g6⟩:=Ta.Za2 g1;obtain⟨AL,hAL⟩:∃AL,p.A.length=AL:=⟨_,rfl⟩;rw[hAL];have hRA:t.rows.length=AL:=g2.trans hAL;have HRA:=zH hRA;have HG6:=zH g6;have HBL:=zH (g5.trans hRA);obtain⟨TN,hTN⟩:∃TN:Nat,t.cols=TN:=⟨t.cols.toNat,by omega⟩;have HTN:=zH hTN;have hT1:TN≤70:=by omega
 have hcT:c<TN:=by omega
 have hA8:AL≤8:=by omega
 have HE:=zH (show ray0 c TN=Ta.Zdn t c 0 by show _=(List.range t.cols.toNat).map _;rw[hTN];rfl);have hb:=(Below.refl w.heap.size w).alloc (Nat.le_refl _) (.cells #[] 31);have Hb:=zH hb;have Ho:=zH (show Zaa w.heap.size (w.alloc (.cells #[] 31)) (.slice (some ⟨w.heap.size,0,none⟩) 0 0) (ray0 c 0) from World.ownsRow_made w #[] 0 (Nat.le_refl _) (Nat.zero_le _) rfl);clear h hv hft hr8 hc0 hc70 hn1 g1 g2 g3 g4 g5 g6 hAL hRA hTN hc hb
 go_enter Tryz.func144,Tryz.ntmps144
 go_wp2_with fail
 go_loopw [5,6] (fun v i wr=>∃k:Nat,k≤TN/\i=.int .i64 k/\Hid (Zaa w.heap.size wr v (ray0 c k))/\Hid (Below w.heap.size w wr)) (fun _ i _=>TN-(intOf i).toNat)
 case atStart=>exact⟨0,Nat.zero_le _,rfl,Ho.out,Hb.out⟩
 case round=>
  obtain⟨k,hk,rfl,hO,hB⟩:=hrel;obtain⟨aA,aB,aC,a,b,cA,cB,cC,c1,c2,h1,h2,h3⟩:=HW.out.only hB.out;rw[HRA.out,HBL.out,HTN.out] at h1;obtain⟨⟨d0,d1,d2⟩,⟨d3,d4,d5⟩,d6,d7⟩:=eight h1
  by_cases hlt:k<TN
  ·have He:=zH (Zwp c k)
   have Hlen:=zH (Nat.le_of_eq (Zy6 c k));generalize ray0 c k=ls at *
   by_cases hkc:k=c
   ·have hbeq:decide ((k:Int)=(c:Int))=true:=by rw[decide_eq_true_iff];omega
    have hbq:((k:Int) == (c:Int))=true:=by simp;omega
    have Hat:=zH (show (if k=c then ((1,1):R) else (0,1))=(1,1) by rw[if_pos hkc]);rw[Hat.out] at He
    go_wp2_with fail
    first|rw[hbq] | skip
    refine (Zfw true _).mono ?_;rintro e w2 ⟨rfl,rfl⟩
    go_wp2_with fail
    refine (Za4 1 _).mono ?_;rintro e w3 ⟨rfl,hb3⟩;have HBx:=zH (hB.out.trans (hb3.mono hB.out.size));have HOx:=zH (hO.out.below hb3);clear hb3 d0 d1 d2 d3 d4 d5 d6 d7 h1 h2 h3;have Hown:Hid (Zaa w.heap.size (w3.alloc (.cells #[.int .i64 1,.int .i64 1] 31)) _ ls):=Zaa.alloc HOx.out (.cells #[.int .i64 1,.int .i64 1] 31);have Hone:=zH (Zb2 w3 (1,1));have hsw:=HBx.out.size;have hlenx:=Hlen.out
    go_wp2_with (at_builtin;refine Zaj rfl _ _ rfl w.heap.size _ ls rfl Hown.out _ [(1,1)] 1 1 rfl rfl _ Hone.out (by simp;omega) (by rw[Zar];omega) ?_)
    intro v4 w4 hown hgrow;have hkb:Below w.heap.size w3 w4:=((Below.refl w.heap.size w3).alloc hsw (.cells #[.int .i64 1,.int .i64 1] 31)).grown hgrow (by rw[Zar];omega) (fun g hg=>(World.ownsRow.lt Hown.out g hg).1);have HB4:=zH (HBx.out.trans hkb);have HO4:=zH hown;rw[<-He.out] at HO4;clear hown hgrow hkb hsw Hown Hone HBx HOx hlenx
    go_wp2_with fail
    go_roundw
    case rel=>exact⟨k+1,by omega,by go_num,HO4,HB4⟩
    case measure=>simp[intOf];omega
   ·have hbeq:decide ((k:Int)=(c:Int))=false:=by rw[decide_eq_false_iff_not];omega
    have hbq:((k:Int) == (c:Int))=false:=by simp;omega
    have Hat:=zH (show (if k=c then ((1,1):R) else (0,1))=(0,1) by rw[if_neg hkc]);rw[Hat.out] at He
    go_wp2_with fail
    first|rw[hbq] | skip
    refine (Zfw false _).mono ?_;rintro e w2 ⟨rfl,rfl⟩
    go_wp2_with fail
    refine (Za4 0 _).mono ?_;rintro e w3 ⟨rfl,hb3⟩;have HBx:=zH (hB.out.trans (hb3.mono hB.out.size));have HOx:=zH (hO.out.below hb3);clear hb3 d0 d1 d2 d3 d4 d5 d6 d7 h1 h2 h3;have Hown:Hid (Zaa w.heap.size (w3.alloc (.cells #[.int .i64 0,.int .i64 1] 31)) _ ls):=Zaa.alloc HOx.out (.cells #[.int .i64 0,.int .i64 1] 31);have Hone:=zH (Zb2 w3 (0,1));have hsw:=HBx.out.size;have hlenx:=Hlen.out
    go_wp2_with (at_builtin;refine Zaj rfl _ _ rfl w.heap.size _ ls rfl Hown.out _ [(0,1)] 1 1 rfl rfl _ Hone.out (by simp;omega) (by rw[Zar];omega) ?_)
    intro v4 w4 hown hgrow;have hkb:Below w.heap.size w3 w4:=((Below.refl w.heap.size w3).alloc hsw (.cells #[.int .i64 0,.int .i64 1] 31)).grown hgrow (by rw[Zar];omega) (fun g hg=>(World.ownsRow.lt Hown.out g hg).1);have HB4:=zH (HBx.out.trans hkb);have HO4:=zH hown;rw[<-He.out] at HO4;clear hown hgrow hkb hsw Hown Hone HBx HOx hlenx
    go_wp2_with fail
    go_roundw
    case rel=>exact⟨k+1,by omega,by go_num,HO4,HB4⟩
    case measure=>simp[intOf];omega
  ·obtain rfl:k=TN:=by omega
   have HO0:Hid (Zaa w.heap.size wr u5 (Ta.Zdn t c 0)):=by show Zaa _ _ _ _;rw[<-HE.out];exact hO.out
   have hrl0:(Ta.Zdn t c 0).length=k:=by rw[Ta.Zft,HTN.out];simp
   obtain⟨av,cv,rfl,_⟩:=Zai HO0.out;rw[hrl0] at HO0;rw[hrl0];clear hO
   go_wp2_with fail
   obtain⟨w9,hw9⟩:∃w9,w9=wr:=⟨_,rfl⟩;rw[<-hw9] at HO0 hB ⊢;clear hw9 hrl0 d0 d1 d2 d3 d4 d5 d6 d7 h1 h2 h3
   go_loopw [7] (fun i wr=>∃j:Nat,j≤AL/\i=.int .i64 j/\Hid (Zaa w.heap.size wr (.slice av k cv) (Ta.Zdn t c j))/\Hid (Below w.heap.size w wr)) (fun i _=>AL-(intOf i).toNat)
   case atStart=>exact⟨0,Nat.zero_le _,rfl,HO0,hB⟩
   case round=>
    clear HO0 hB;obtain⟨j,hj,rfl,hO,hB⟩:=hrel;obtain⟨aA,aB,aC,a,b,cA,cB,cC,c1,c2,h1,h2,h3⟩:=HW.out.only hB.out;rw[HRA.out,HBL.out,HTN.out] at h1;obtain⟨⟨d0,d1,d2⟩,⟨d3,d4,d5⟩,d6,d7⟩:=eight h1;have hqr:=Zab h1
    by_cases hjt:j<AL
    ·have hjr:j<t.rows.length:=by have:=HRA.out;omega
     obtain⟨bb,ob,rfl,hbb,e0⟩:=h3.1.mB j (by have:=HBL.out;omega);obtain⟨b1,o1,a1,k1,rfl,hb1,e1,hrd⟩:=h3.1.mR j hjr;obtain⟨g31,g32,g33⟩:=HG6.out j hjr;obtain⟨bk,hbk⟩:∃bk:Nat,t.basis.getD j 0=bk:=⟨(t.basis.getD j 0).toNat,by have:0≤t.basis.getD j 0:=g32;omega⟩;have HBK:=zH (show Ta.bas t j=bk from hbk);rw[hbk] at e0;have hrl:((rr t.rows j).length:Int)=t.cols+t.rows.length+1:=g31;obtain⟨RW,hRW⟩:∃RW,rr t.rows j=RW:=⟨_,rfl⟩;have HRW:=zH (show Ta.row t j=RW from hRW);rw[hRW] at e1 hrd hrl;have hcr:c<RW.length:=by have:=HTN.out;omega
     obtain⟨b5,o5,rfl,hb5,p0,p1⟩:=hrd.at c hcr;have Hsk:=zH (fun h=>Zs5 (c:=c) HBK.out (show ¬(bk:Int)<t.cols from h));have Hst:=zH (fun h=>Zwq (c:=c) HBK.out (show (bk:Int)<t.cols from h));rw[HTN.out] at Hsk Hst;rw[HRW.out,show ((bk:Nat):Int).toNat=bk from rfl] at Hst;obtain⟨x,hx⟩:∃x,Ve.at_ RW c=x:=⟨_,rfl⟩;rw[hx] at p0 p1 Hst;have hls:(Ta.Zdn t c j).length=k:=by rw[Ta.Zft,HTN.out];simp
     generalize Ta.Zdn t c j=ls at *;clear h2 h3 g31 g32 g33 hbk hRW hx hrd hrl
     go_upto_region 9 with fail
     go_region
     all_goals (try clear hrun)
     have Hd:=zH ((Below.refl wr.heap.size wr).drew);have hOd:Hid (Zaa w.heap.size wr.drew (.slice av k cv) ls):=hO.out.below Hd.out;have HBd:=zH hB.out.drew
     by_cases hlc:bk<k
     ·have hd1:decide ((bk:Int)<(k:Int))=true:=by rw[decide_eq_true_iff];omega
      have hN:=zH (Hst.out (by omega));have hlk:bk<ls.length:=by omega
      obtain⟨gv,rfl,hq9,hg1,hg2⟩:=Zaa.block hOd.out (by omega);clear hq9;have hO':Zaa w.heap.size wr.drew (.slice (some ⟨gv,0,none⟩) ls.length cv) ls:=by rw[hls];exact hOd.out
      obtain⟨⟨v0,s0⟩,f0,⟨v1,s1⟩,f1⟩:=hO'.spots bk hlk;have HP:=zH (fun (w':World) (h:Since wr.drew w')=>(Zaa.put (hO'.below h.low) bk (Ta.negR x) hlk));have HSp:=zH (fun (w':World) (h:Since wr.drew w')=>(hO'.below h.low).spots bk hlk);have Cell:=zH (fun (w':World) (h:Since wr.drew w')=>(show w'.cell? ⟨q,4,none⟩=some (.slice (some ⟨bb,ob,none⟩) AL c2)/\w'.cell? ⟨bb,ob+j,none⟩=some (.int .i64 bk)/\w'.cell? ⟨q,3,none⟩=some (.slice (some ⟨b1,o1,none⟩) AL c1)/\w'.cell? ⟨b1,o1+j,none⟩=some (.slice (some ⟨b5,o5,none⟩) RW.length k1)/\w'.cell? ⟨b5,o5+c*2,none⟩=some (.int .i64 x.1)/\w'.cell? ⟨b5,o5+c*2+1,none⟩=some (.int .i64 x.2)/\Since wr.drew w' from
       ⟨h.cell hqr d4,h.cell hbb e0,h.cell hqr d3,h.cell hb1 e1,h.cell hb5 p0,h.cell hb5 p1,h⟩))
      have hin0:=(Since.refl wr.drew).drew;have n1:(bk:Int)<(k:Int):=by omega
      have n2:(j:Int)<(AL:Int):=by omega
      have n3:(c:Int)<(RW.length:Int):=by omega
      have HHG:=zH (show w.heap.size≤gv from hg1);have Hhls:=zH hls;clear hO' d0 d1 d2 d3 d4 d5 d6 d7 e0 e1 p0 p1 s0 f0 s1 f1 hlk hls hg1 hg2 hqr hbb hb1 hb5 hjr hcr hd1
      go_upto_region 10 with fail
      refine Zaf (S:=(fun w'=>w'.cell? ⟨q,4,none⟩=some (.slice (some ⟨bb,ob,none⟩) AL c2)/\w'.cell? ⟨bb,ob+j,none⟩=some (.int .i64 bk)/\w'.cell? ⟨q,3,none⟩=some (.slice (some ⟨b1,o1,none⟩) AL c1)/\w'.cell? ⟨b1,o1+j,none⟩=some (.slice (some ⟨b5,o5,none⟩) RW.length k1)/\w'.cell? ⟨b5,o5+c*2,none⟩=some (.int .i64 x.1)/\w'.cell? ⟨b5,o5+c*2+1,none⟩=some (.int .i64 x.2)/\Since wr.drew w')) 22 (by kernel_rfl) ?_ (fun hHeld=>?_)
      ·exact Cell.out _ hin0
      refine tk2 0 ⟨some 50,_,26,_,_,none⟩ ?_;refine tk2 1 ⟨some 51,_,90,_,_,none⟩ ?_;refine tk2 2 ⟨some 52,_,0,_,_,none⟩ ?_;refine tk2 3 ⟨some 53,_,0,_,_,none⟩ ?_;refine tk2 4 ⟨some 54,_,0,_,_,none⟩ ?_;refine tk2 5 ⟨some 55,_,25,_,_,none⟩ ?_;refine tk2 6 ⟨some 56,_,3,_,_,none⟩ ?_;refine tk2 7 ⟨some 57,_,0,_,_,none⟩ ?_;refine tk2 8 ⟨some 58,_,3,_,_,none⟩ ?_;refine tk2 9 ⟨some 59,_,90,_,_,none⟩ ?_;refine tk2 10 ⟨some 60,_,0,_,_,none⟩ ?_;refine tk2 11 ⟨some 61,_,0,_,_,none⟩ ?_;refine tk2 12 ⟨some 62,_,0,_,_,none⟩ ?_;refine tk2 13 ⟨some 63,_,37,_,_,none⟩ ?_;refine tk2 14 ⟨some 64,_,3,_,_,none⟩ ?_;refine tk2 15 ⟨some 65,_,0,_,_,none⟩ ?_;refine tk2 16 ⟨some 66,_,26,_,_,none⟩ ?_;refine tk2 17 ⟨some 67,_,3,_,_,none⟩ ?_;refine tk2 18 ⟨some 68,_,0,_,_,none⟩ ?_;refine tk2 19 ⟨some 69,_,31,_,_,none⟩ ?_
      try simp only[Act.put,zA,zB,zC]
      refine rd2 20 ⟨some 70,_,31,_,_,none⟩ fun K hK=>?_
      go_simp
      (go_at_call 93;refine (Za9 (Zd9 x _) hin0).mono ?_;rintro e w4 ⟨⟨rfl,_⟩,hin4⟩)
      refine hK.out _ _ ?_ (fun hHeld=>?_)
      ·exact Cell.out _ hin4
      clear hK K;refine tk2 21 ⟨some 71,_,0,_,_,none⟩ ?_
      try simp only[Act.put,zA,zB,zC]
      obtain⟨⟨v0,s0⟩,f0,⟨v1,s1⟩,f1⟩:=HSp.out _ hin4;refine rd3 22 ⟨none,_,0,_,_,none⟩ fun K hK=>?_
      go_simp
      refine hK.out _ _ ?_;clear hK K;refine Zal (by kernel_rfl) ?_ _;have hFin:=HP.out _ hin4;rw[<-hN.out,Hhls.out] at hFin;have HFin:=zH hFin;have HBf:=zH (Zfj (HBd.out.trans (hin4.low.mono HBd.out.size)) HHG.out (bk*2) (bk*2+1) (.int .i64 (Ta.negR x).1) (.int .i64 (Ta.negR x).2));clear hFin s0 s1 f0 f1 hin4 HP HSp Cell hin0 hN
      go_wp2_with fail
      go_roundw
      case rel=>exact⟨j+1,by omega,by go_num,HFin,HBf⟩
      case measure=>simp[intOf];omega
     ·have hd1:decide ((bk:Int)<(k:Int))=false:=by rw[decide_eq_false_iff_not];omega
      have hN:=zH (Hsk.out (by omega));rw[<-hN.out] at hOd
      go_wp2_with fail
      go_roundw
      case rel=>exact⟨j+1,by omega,by go_num,hOd,HBd⟩
      case measure=>simp[intOf];omega
    ·obtain rfl:j=AL:=by omega
     go_wp2_with fail
     go_ret;exact⟨_,rfl,hO.out,hB.out⟩
end Go.Proofs.YtlohljkfphljgaaGreat
