/- The parts Mat, Mat2, LpA, NumOpen, LkIn, PyC2, EqI, LpOpen, LpR, LpR2, LpR3, GmB. -/
import Derived.Test.YtjfnleilddgjiaaGreatHGmA
import Derived.Test.YtjfnleilddgjiaaGreatGVa
import Derived.Test.YtjfnleilddgjiaaGreatHGrI
import Derived.Test.YtjfnleilddgjiaaGreatGM
import Derived.Deep.Matrix
import Derived.Lib.SmallJoins
import Derived.Test.YtjfnleilddgjiaaGreatHPyA
import Derived.Test.YtjfnleilddgjiaaGreatGRa
set_option maxRecDepth 100000
set_option maxHeartbeats 1000000
namespace Go.Proofs.YtjfnleilddgjiaaGreat
open Go.RowKit
open Ve (R)
def rw_ (L:List (List Int)) (k:Nat):List Int:=L.getD k []
theorem Z3p {L:List (List Int)} {k:Nat} (h:k<L.length):L[k]? = some (rw_ L k):=by
 unfold rw_;rw[List.getD_eq_getElem?_getD,List.getElem?_eq_getElem h];rfl
def Zgh (B:Nat) (w:World) (a:Option Addr) (L:List (List Int)):Prop:=
 ∀j,j<L.length->∃(b o:Nat) (a':Option Addr) (c':Nat),a=some ⟨b,o,none⟩/\b<B/\w.cell? ⟨b,o+j,none⟩=some (.slice a' (rw_ L j).length c')/\Zas B w a' (rw_ L j)
theorem Zgh.below {B:Nat} {w w':World} {a:Option Addr} {L:List (List Int)} (h:Zgh B w a L) (hb:Below B w w'):Zgh B w' a L:=fun j hj=>by
 obtain⟨b,o,a',c',h1,h2,h3,h4⟩:=h j hj;exact⟨b,o,a',c',h1,h2,by rw[hb.cell (p:=⟨b,o+j,none⟩) h2];exact h3,h4.below hb⟩
theorem Zgh.mono {B B':Nat} {w:World} {a:Option Addr} {L:List (List Int)} (h:Zgh B w a L) (hB:B≤B'):Zgh B' w a L:=fun j hj=>by
 obtain⟨b,o,a',c',h1,h2,h3,h4⟩:=h j hj;exact⟨b,o,a',c',h1,by omega,h3,h4.mono hB⟩
theorem Zgh.drewN {B:Nat} {w:World} {a:Option Addr} {L:List (List Int)} (h:Zgh B w a L) (d:Nat):Zgh B (w.drewN d) a L:=h
def cellsOf:List (List Int)->Nat
 | []=>0
 | r::L=>r.length+cellsOf L
theorem Zpf (L:List (List Int)) (k:Nat) (h:k<L.length):cellsOf (L.take (k+1))=cellsOf (L.take k)+(rw_ L k).length:=by
 induction L generalizing k with
 | nil=>simp at h
 | cons r L ih=>
  cases k with
  | zero=>simp[cellsOf,rw_]
  | succ k=>
   have:=ih k (by simpa using h);simp only[List.take_succ_cons,cellsOf];have e:rw_ (r::L) (k+1)=rw_ L k:=by simp[rw_]
   rw[e];omega
theorem Zky (L:List (List Int)) (k:Nat) (h:k<L.length):(rw_ L k).length≤cellsOf L:=by
 induction L generalizing k with
 | nil=>simp at h
 | cons r L ih=>
  cases k with
  | zero=>simp[cellsOf,rw_]
  | succ k=>
   have:=ih k (by simpa using h);have e:rw_ (r::L) (k+1)=rw_ L k:=by simp[rw_]
   rw[e];simp only[cellsOf];omega
theorem Zm6 (L:List (List Int)) (k:Nat):cellsOf (L.take k)≤cellsOf L:=by
 induction L generalizing k with
 | nil=>simp
 | cons r L ih=>
  cases k with
  | zero=>simp[cellsOf]
  | succ k=>
   have:=ih k;simp only[List.take_succ_cons,cellsOf];omega
def Lens (L:List (List Int)):Prop:=∀k,k<L.length->(rw_ L k).length≤9223372036854775807
def Zu5 (lo hi:Nat) (w:World) (vs:List Value) (L:List (List Int)) (k:Nat):Prop:=
 (∀j,j<k->∃v,vs[j]? = some v/\Zae lo w v (rw_ L j)/\∀b,v.ownBlock=some b->b<hi)/\∀i j v v' b,i<j->j<k->vs[i]? = some v->vs[j]? = some v'->v.ownBlock=some b->v'.ownBlock≠some b
def Zel (lo hi:Nat) (w:World) (v:Value) (L:List (List Int)):Prop:=
 ∃(g n:Nat) (vs:List Value),v=.slice (some ⟨g,0,none⟩) L.length n/\g<hi/\w.ownsRow lo 22 1 (.slice (some ⟨g,0,none⟩) L.length n) L.length vs/\Zu5 (g+1) hi w vs L L.length
theorem Zel.same {lo hi:Nat} {w w':World} {v:Value} {L:List (List Int)} (h:Zel lo hi w v L) (hs:∀k,lo≤k->k<hi->k<w.heap.size->w'.heap[k]? = w.heap[k]?):Zel lo hi w' v L:=by
 obtain⟨g,n,vs,rfl,hgh,h1,h2,h3⟩:=h;have hg:=World.ownsRow.lt h1 g rfl;refine⟨g,n,vs,rfl,hgh,Zav h1 fun b hb=>?_,fun j hj=>?_,h3⟩
 ·obtain rfl:g=b:=by simpa [Value.ownBlock] using hb
  exact hs g hg.1 hgh hg.2
 ·obtain⟨v,e,ho,hb⟩:=h2 j hj
  refine⟨v,e,ho.same fun b hb2=>?_,hb⟩;have:=World.ownsRow.lt ho b hb2;exact hs b (by omega) (hb b hb2) this.2
theorem Zel.below {lo hi:Nat} {w w':World} {v:Value} {L:List (List Int)} (h:Zel lo hi w v L) (hb:Below w.heap.size w w'):Zel lo hi w' v L:=
 h.same fun k _ _ hk=>hb.block k hk
theorem Zel.turned {lo hi l2 h2:Nat} {w w':World} {v:Value} {L:List (List Int)} (h:Zel lo hi w v L) (ht:Turned l2 h2 w w') (ha:hi≤l2\/h2≤lo):Zel lo hi w' v L:=
 h.same fun k h1 h2 hk=>ht.block k hk (by omega)
theorem Zel.wider {lo hi lo' hi':Nat} {w:World} {v:Value} {L:List (List Int)} (h:Zel lo hi w v L) (h1:lo'≤lo) (h2:hi≤hi'):Zel lo' hi' w v L:=by
 obtain⟨g,n,vs,rfl,hgh,k1,k2,k3⟩:=h;have hr:w.ownsRow lo' 22 1 (.slice (some ⟨g,0,none⟩) L.length n) L.length vs:=by
  obtain⟨e1,e2|⟨g',cap,cur,e,hg,rest⟩⟩:=k1
  ·exact⟨e1,.inl e2⟩
  ·exact⟨e1,.inr ⟨g',cap,cur,e,by omega,rest⟩⟩
 exact⟨g,n,vs,rfl,by omega,hr,fun j hj=>by
  obtain⟨v,e,ho,hb⟩:=k2 j hj;exact⟨v,e,ho,fun b hb2=>by have:=hb b hb2;omega⟩,k3⟩
theorem Zel.reads {lo hi:Nat} {w:World} {v:Value} {L:List (List Int)} (h:Zel lo hi w v L) :
  ∃(a:Option Addr) (cap:Nat),v=.slice a L.length cap/\Zgh hi w a L:=by
 obtain⟨g,n,vs,rfl,hgh,h1,h2,h3⟩:=h;have hg:=World.ownsRow.lt h1 g rfl;refine⟨_,_,rfl,fun j hj=>?_⟩;obtain⟨v,e,ho,hb⟩:=h2 j hj;obtain⟨a,cap,rfl,hr,ha,hne⟩:=Zax ho;refine⟨g,0,a,cap,rfl,hgh,?_,fun i hi2=>?_⟩
 ·rw[Nat.zero_add,World.ownsRow.cellAt h1 j (by omega)]
  exact e
 ·obtain⟨b,o,e1,e2,e3⟩:=Zas.Zbv (B:=w.heap.size) hr (fun p hp=>(ha p hp).2) i hi2
  exact⟨b,o,e1,hb b (by rw[e1];rfl),e3⟩
theorem Zp1:(Tryz.prog.info? 22).map (fun i=>(i.zero,i.size,i.bytes))=some (some (.slice none 0 0),1,24):=by kernel_rfl
def Z33 (L:List (List Int)) (w:World) (e:Ending) (w':World):Prop:=∃v,e=.returned v/\Zel w.heap.size w'.heap.size w' v L/\Below w.heap.size w w'
def Zi3 (B g n k:Nat) (wr:World) (L:List (List Int)):Prop:=
 ∃vs:List Value,wr.ownsRow B 22 1 (.slice (some ⟨g,0,none⟩) n n) n vs/\Zu5 (g+1) wr.heap.size wr vs L k
theorem Zi3.kept {B g n k:Nat} {w w':World} {L:List (List Int)} (h:Zi3 B g n k w L) (hb:Below w.heap.size w w'):Zi3 B g n k w' L:=by
 obtain⟨vs,h1,h2,h3⟩:=h;exact⟨vs,Zav h1 fun b hg=>hb.block b (World.ownsRow.lt h1 b hg).2,fun j hj=>by
  obtain⟨v,e,ho,hlt⟩:=h2 j hj;exact⟨v,e,ho.below hb,fun b h=>Nat.lt_of_lt_of_le (hlt b h) hb.size⟩,h3⟩
theorem Zae.raise {B B':Nat} {w:World} {v:Value} {xs:List Int} (h:Zae B w v xs) (hB:B'≤B):Zae B' w v xs:=by
 obtain⟨h1,h2|⟨g,cap,cur,e,hg,rest⟩⟩:=h
 ·exact⟨h1,.inl h2⟩
 ·exact⟨h1,.inr ⟨g,cap,cur,e,by omega,rest⟩⟩
theorem Zi3.next {B g n k:Nat} {w w':World} {L:List (List Int)} {u:Value} (h:Zi3 B g n k w L) (hk:k<n) (hg:g<w.heap.size) (hb:Below w.heap.size w w') (ho:Zae w.heap.size w' u (rw_ L k)) :
  Zi3 B g n (k+1) (w'.setCell ⟨g,k,none⟩ u) L:=by
 obtain⟨vs,h1,h2,h3⟩:=h;have h1':w'.ownsRow B 22 1 (.slice (some ⟨g,0,none⟩) n n) n vs:=Zav h1 fun b hg=>hb.block b (World.ownsRow.lt h1 b hg).2
 have hl:vs.length=n:=by have:=h1.1;omega
 have hst:=h1'.stored k u;have old:∀j,j<k+1->j≠k->(vs.set k u)[j]? = vs[j]?:=fun j _ e=>by rw[List.getElem?_set_ne (fun h=>e h.symm)]
 have new:(vs.set k u)[k]? = some u:=by rw[List.getElem?_set_self (by omega)]
 refine⟨vs.set k u,hst.1,fun j hj=>?_,fun i j v v' b hij hj hv hv' hb1 hb2=>?_⟩
 ·by_cases e:j=k
  ·subst e
   refine⟨u,new,(ho.raise (show g+1≤w.heap.size by omega)).same fun b hb1=>?_,fun b hb1=>by have:=World.ownsRow.lt ho b hb1;simpa [World.setCell] using this.2⟩;have:=World.ownsRow.lt ho b hb1;rw[Below.heap_setCell _ _ _ _ (show b≠g by omega)]
  ·obtain⟨v,e1,e2,e3⟩:=h2 j (by omega)
   refine⟨v,by rw[old j hj e];exact e1,(e2.below hb).same fun b hb1=>?_,fun b hb1=>by have:=e3 b hb1;have:=hb.size;simp[World.setCell];omega⟩;have:=World.ownsRow.lt e2 b hb1;rw[Below.heap_setCell _ _ _ _ (show b≠g by omega)]
 ·rw[old i (by omega) (by omega)] at hv
  by_cases e:j=k
  ·subst e
   rw[new] at hv';obtain rfl:=Option.some.inj hv';have a1:=(World.ownsRow.lt ho b hb2).1;obtain⟨v2,e1,e2,_⟩:=h2 i (by omega);rw[hv] at e1;obtain rfl:=Option.some.inj e1;have a2:=(World.ownsRow.lt e2 b hb1).2;omega
  ·rw[old j hj e] at hv'
   exact h3 i j v v' b hij (by omega) hv hv' hb1 hb2
open Lp (P)
structure LpIn (B:Nat) (w:World) (a b c:Option Addr) (p:P):Prop where
 mA:Zgh B w a p.A
 mB:Zas B w b p.B
 mC:Zaj B w c p.C
theorem LpIn.below {B:Nat} {w w':World} {a b c:Option Addr} {p:P} (h:LpIn B w a b c p) (hb:Below B w w'):LpIn B w' a b c p:=⟨h.mA.below hb,h.mB.below hb,h.mC.below hb⟩
theorem LpIn.mono {B B':Nat} {w:World} {a b c:Option Addr} {p:P} (h:LpIn B w a b c p) (hB:B≤B'):LpIn B' w a b c p:=⟨h.mA.mono hB,h.mB.mono hB,h.mC.mono hB⟩
theorem LpIn.drewN {B:Nat} {w:World} {a b c:Option Addr} {p:P} (h:LpIn B w a b c p) (d:Nat):LpIn B (w.drewN d) a b c p:=⟨h.mA,h.mB,h.mC⟩
def lpN (p:P):Nat:=p.A.length+cellsOf p.A+p.B.length+p.C.length
def Z42 (p:P):Prop:=p.A.length≤9223372036854775807/\Lens p.A/\p.B.length≤9223372036854775807/\p.C.length≤9223372036854775807
structure Zcd (p:P):Prop where
 A:p.A.length≤1048576
 row:∀k,k<p.A.length->(rw_ p.A k).length≤1048576
 B:p.B.length≤1048576
 C:p.C.length≤1048576
 marks:1+cellsOf p.A+p.B.length≤1048577
 markA:1+cellsOf p.A≤1048576
theorem Zwi {p:P} (h:lpN p≤1048576):Zcd p:=by
 unfold lpN at h;refine⟨by omega,fun k hk=>by have:=Zky p.A k hk;omega,by omega,by omega,by omega,?_⟩;obtain⟨A,Bv,Cv⟩:=p
 rcases A with _|⟨r,L⟩
 ·simp[cellsOf]
 ·simp only[List.length_cons] at h;simp only;omega
structure Zhj (lo hi:Nat) (w:World) (v:Value) (p:P):Prop where
 ex:∃(m1 m2:Nat) (vA vB vC:Value),v=.agg #[vA,vB,vC]/\lo≤m1/\m1≤m2/\m2≤hi/\hi≤w.heap.size/\Zel lo m1 w vA p.A/\(Zae m1 w vB p.B/\∀g,vB.ownBlock=some g->g<m2)/\(Zaa m2 w vC p.C/\∀g,vC.ownBlock=some g->g<hi)
theorem Zhj.below {lo hi:Nat} {w w':World} {v:Value} {p:P} (h:Zhj lo hi w v p) (hb:Below w.heap.size w w'):Zhj lo hi w' v p:=by
 obtain⟨m1,m2,vA,vB,vC,rfl,h1,h2,h3,h4,hA,⟨hB,kB⟩,hC,kC⟩:=h;exact⟨m1,m2,vA,vB,vC,rfl,h1,h2,h3,Nat.le_trans h4 hb.size,hA.below hb,⟨hB.below hb,kB⟩,hC.below hb,kC⟩
theorem Zhj.reads {lo hi:Nat} {w:World} {v:Value} {p:P} (h:Zhj lo hi w v p) :
  ∃(a b c:Option Addr) (c1 c2 c3:Nat),v=.agg #[.slice a p.A.length c1,.slice b p.B.length c2,.slice c p.C.length c3]/\LpIn hi w a b c p/\hi≤w.heap.size:=by
 obtain⟨m1,m2,vA,vB,vC,rfl,h1,h2,h3,h4,hA,⟨hB,kB⟩,hC,kC⟩:=h;obtain⟨a,c1,rfl,rA⟩:=hA.reads;obtain⟨b,c2,rfl,rB,pB,_⟩:=Zax hB;obtain⟨c,c3,rfl,rC,pC,_⟩:=Zai hC;refine⟨a,b,c,c1,c2,c3,rfl,⟨rA.mono (by omega),Zas.Zbv rB fun q hq=>?_,rC.narrow fun q hq=>kC q.block (by rw[hq];rfl)⟩,h4⟩;have:=kB q.block (by rw[hq];rfl);omega
def Tri (w:World) (q:Nat) (x y z:Value) (t:TypeId):Prop:=w.heap[q]? = some (.cells #[x,y,z] t)
theorem Tri.cells {w:World} {q:Nat} {x y z:Value} {t:TypeId} (h:Tri w q x y z t) :
  w.cell? ⟨q,0,none⟩=some x/\w.cell? ⟨q,1,none⟩=some y/\w.cell? ⟨q,2,none⟩=some z/\w.frozen? ⟨q,0,none⟩=false/\w.frozen? ⟨q,1,none⟩=false/\w.frozen? ⟨q,2,none⟩=false:=by
 unfold Tri at h;simp[World.cell?,World.frozen?,h]
theorem Tri.below {w w':World} {q:Nat} {x y z:Value} {t:TypeId} (h:Tri w q x y z t) (hb:Below w.heap.size w w'):Tri w' q x y z t:=(hb.block q (Zab h)).trans h
theorem Tri.new (w:World) (x y z:Value) (t:TypeId):Tri (w.alloc (.cells #[x,y,z] t)) w.heap.size x y z t:=by show (w.heap.push _)[w.heap.size]? = _;simp
theorem Tri.more {w:World} {q:Nat} {x y z:Value} {t:TypeId} (h:Tri w q x y z t) (o:Obj):Tri (w.alloc o) q x y z t:=by
 have hl:=Zab h;show (w.heap.push _)[q]? = _;rw[Array.getElem?_push_lt hl,<-Array.getElem?_eq_getElem hl];exact h
theorem Tri.other {w:World} {q:Nat} {x y z:Value} {t:TypeId} (h:Tri w q x y z t) {p:Addr} (hp:p.block≠q) (u:Value):Tri (w.setCell p u) q x y z t:=by
 obtain⟨b,o,sp⟩:=p;show (w.setCell _ u).heap[q]? = _;rw[Below.heap_setCell _ _ _ _ (fun e=>hp e.symm)];exact h
theorem Tri.set0 {w:World} {q:Nat} {x y z:Value} {t:TypeId} (h:Tri w q x y z t) (u:Value):Tri (w.setCell ⟨q,0,none⟩ u) q u y z t:=by
 show (w.heap.modify q _)[q]? = _;rw[Array.getElem?_modify,show w.heap[q]? = _ from h];simp
theorem Tri.set1 {w:World} {q:Nat} {x y z:Value} {t:TypeId} (h:Tri w q x y z t) (u:Value):Tri (w.setCell ⟨q,1,none⟩ u) q x u z t:=by
 show (w.heap.modify q _)[q]? = _;rw[Array.getElem?_modify,show w.heap[q]? = _ from h];simp
theorem Tri.set2 {w:World} {q:Nat} {x y z:Value} {t:TypeId} (h:Tri w q x y z t) (u:Value):Tri (w.setCell ⟨q,2,none⟩ u) q x y u t:=by
 show (w.heap.modify q _)[q]? = _;rw[Array.getElem?_modify,show w.heap[q]? = _ from h];simp
open Go.RowKit Go.Deep Go.ChangeShapes Go.WideShapes
theorem Zaj.of_low {n:Nat} {w w':World} {a:Option Addr} {xs:List R} (h:Zaj n w a xs) (hk:∀k,k<n->w'.heap[k]? = w.heap[k]?):Zaj n w' a xs:=fun j x hx=>by
 obtain⟨b,o,e1,h2,h3,h4⟩:=h j x hx;have hc:∀i,w'.cell? ⟨b,i,none⟩=w.cell? ⟨b,i,none⟩:=fun i=>World.cell?_of_block (w:=w) (a:=⟨b,i,none⟩) (hk b h2)
 exact⟨b,o,e1,h2,by rw[hc];exact h3,by rw[hc];exact h4⟩
theorem Zgh.same {n:Nat} {w w':World} {a:Option Addr} {L:List (List Int)} (h:Zgh n w a L) (hk:∀k,k<n->w'.heap[k]? = w.heap[k]?):Zgh n w' a L:=fun j hj=>by
 obtain⟨b,o,a',c',e1,h2,h3,h4⟩:=h j hj;exact⟨b,o,a',c',e1,h2,by rw[World.cell?_of_block (w:=w) (a:=⟨b,o+j,none⟩) (hk b h2)];exact h3,h4.same hk⟩
open Gm (G)
theorem Zv9 (x y:R) (w:World):Calls Tryz.prog 95 #[.agg #[.int .i64 x.1,.int .i64 x.2],.agg #[.int .i64 y.1,.int .i64 y.2]] w fun e w'=>e=.returned (.int .i64 (Py.cmp x y))/\Below w.heap.size w w':=Ze1 x.1 x.2 y.1 y.2 w
open Lp (Res)
def Z38 (s:Value) (x y z:Value) (n d pv:Value):Array Value:=#[s,x,y,z,n,d,pv]
/-! ### Results -/
structure Zey (B:Nat) (w:World) (a b c:Option Addr) (r:Res):Prop where
 mX:Zaj B w a r.X
 mY:Zaj B w b r.Y
 mR:Zaj B w c r.ray
theorem Zey.below {B:Nat} {w w':World} {a b c:Option Addr} {p:Res} (h:Zey B w a b c p) (hb:Below B w w'):Zey B w' a b c p:=⟨h.mX.below hb,h.mY.below hb,h.mR.below hb⟩
theorem Zey.mono {B B':Nat} {w:World} {a b c:Option Addr} {p:Res} (h:Zey B w a b c p) (hB:B≤B'):Zey B' w a b c p:=⟨h.mX.mono hB,h.mY.mono hB,h.mR.mono hB⟩
theorem Zey.drewN {B:Nat} {w:World} {a b c:Option Addr} {p:Res} (h:Zey B w a b c p) (d:Nat):Zey B (w.drewN d) a b c p:=⟨h.mX,h.mY,h.mR⟩
def resN (r:Res):Nat:=r.X.length+r.Y.length+r.ray.length
def Z4h (r:Res):Prop:=r.X.length≤9223372036854775807/\r.Y.length≤9223372036854775807/\r.ray.length≤9223372036854775807
def resV (a b c:Option Addr) (c1 c2 c3:Nat) (r:Res):Value:=
 .agg #[.int .i64 r.status,.slice a r.X.length c1,.slice b r.Y.length c2,.slice c r.ray.length c3,.int .i64 r.value.1,.int .i64 r.value.2,.int .i64 r.pivots]
structure Zdt (r:Res):Prop where
 X:r.X.length≤1048576
 Y:r.Y.length≤1048576
 R:r.ray.length≤1048576
 N:resN r≤1048576
theorem Zou {r:Res} (h:resN r≤1048576):Zdt r:=by
 have h':=h;unfold resN at h';exact⟨by omega,by omega,by omega,h⟩
structure Zm4 (lo hi:Nat) (w:World) (v:Value) (r:Res):Prop where
 ex:∃(m1 m2:Nat) (a b c:Option Addr) (c1 c2 c3:Nat),v=resV a b c c1 c2 c3 r/\lo≤m1/\m1≤m2/\m2≤hi/\hi≤w.heap.size/\(Zaa lo w (.slice a r.X.length c1) r.X/\∀g,(Value.slice a r.X.length c1).ownBlock=some g->g<m1)/\
  (Zaa m1 w (.slice b r.Y.length c2) r.Y/\∀g,(Value.slice b r.Y.length c2).ownBlock=some g->g<m2)/\(Zaa m2 w (.slice c r.ray.length c3) r.ray/\∀g,(Value.slice c r.ray.length c3).ownBlock=some g->g<hi)
theorem Zm4.below {lo hi:Nat} {w w':World} {v:Value} {r:Res} (h:Zm4 lo hi w v r) (hb:Below w.heap.size w w'):Zm4 lo hi w' v r:=by
 obtain⟨m1,m2,a,b,c,c1,c2,c3,rfl,h1,h2,h3,h4,⟨hA,kA⟩,⟨hB,kB⟩,hC,kC⟩:=h;exact⟨m1,m2,a,b,c,c1,c2,c3,rfl,h1,h2,h3,Nat.le_trans h4 hb.size,⟨hA.below hb,kA⟩,⟨hB.below hb,kB⟩,hC.below hb,kC⟩
theorem Zaa.Zr2 {lo hi:Nat} {w:World} {a:Option Addr} {c:Nat} {xs:List R} (h:Zaa lo w (.slice a xs.length c) xs) (hb:∀g,(Value.slice a xs.length c).ownBlock=some g->g<hi):Zaj hi w a xs:=by
 obtain⟨a',c',e,h1,_,_⟩:=Zai h;obtain⟨rfl,rfl⟩:a=a'/\c=c':=by injection e with e1 e2 e3;exact⟨e1,e3⟩
 exact h1.narrow fun q hq=>hb q.block (by rw[hq];rfl)
theorem Zm4.reads {lo hi:Nat} {w:World} {v:Value} {r:Res} (h:Zm4 lo hi w v r):∃(a b c:Option Addr) (c1 c2 c3:Nat),v=resV a b c c1 c2 c3 r/\Zey hi w a b c r/\hi≤w.heap.size:=by
 obtain⟨m1,m2,a,b,c,c1,c2,c3,rfl,h1,h2,h3,h4,⟨hA,kA⟩,⟨hB,kB⟩,hC,kC⟩:=h;exact⟨a,b,c,c1,c2,c3,rfl,⟨(hA.Zr2 kA).mono (by omega),(hB.Zr2 kB).mono (by omega),hC.Zr2 kC⟩,h4⟩
theorem Zng {w:World} {x y:Value} {g:G} (h:GmC w x y g) (t:TypeId):GmC (w.alloc (.cells #[x,y] t)) x y g/\Below w.heap.size w (w.alloc (.cells #[x,y] t)):=
 ⟨h.up ((Below.refl _ _).alloc (Nat.le_refl _) _),(Below.refl _ _).alloc (Nat.le_refl _) _⟩
theorem Zfa (x a b:Int) (r:Bool) (h:decide (a≤x/\x≤b)=r) (w:World):Calls Tryz.prog 59 #[.int .i64 x,.int .i64 a,.int .i64 b] w fun e w'=>e=.returned (.bool r)/\w'=w:=(Za0 x a b r h w).mono fun _ _ ⟨h1,h2⟩=>⟨h1,h2.symm⟩
theorem Zqr (n:Nat) (hn:n≤5) (w:World):Calls Tryz.prog 77 #[.int .i64 n] w fun e w'=>e=.returned (.int .i64 ((2 ^ n:Nat):Int))/\w'=w:=(Zc4 n hn w).mono fun _ _ ⟨h1,h2⟩=>⟨h1,h2.symm⟩
theorem Zox {g:G} (h:¬(1≤g.n/\g.n≤5)):Gm.shape g=false:=by unfold Gm.shape;simp only[h,decide_false,Bool.false_and]
theorem Ztp {g:G} {m:Nat} (h:g.n=m) (h1:1≤m) (h2:m≤5):Gm.shape g=decide (g.v.length=2 ^ m):=by
 have h3:(1≤g.n/\g.n≤5):=by omega
 have h4:g.n.toNat=m:=by omega
 unfold Gm.shape;rw[h4,decide_eq_true h3];rfl
theorem Zaz {w:World} {x y:Value} {g:G} (b:Bool) (hb:Gm.vld g=b) (h:GmC w x y g) (hf:GmOk g) :
  Calls Tryz.prog 64 #[.agg #[x,y]] w fun e w'=>e=.returned (.bool b)/\Below w.heap.size w w':=by
 obtain⟨gn,gv⟩:=g;obtain⟨a,c,rfl,rfl,hi⟩:=h;have hl:gv.length≤1048576:=hf.1;dsimp only at hi ⊢;have HBl:=zH ((Below.refl w.heap.size w).alloc (Nat.le_refl _) (.cells #[.int .i64 gn,.slice a gv.length c] 30));have HI:=zH (hi.below HBl.out);have HV:=zH hb;clear hi hb hf
 go_enter Tryz.func64,Tryz.ntmps64
 go_wp2_with fail
 go_loop [3] (fun i=>∃k:Nat,k≤gv.length/\i=.int .i64 k/\Hid (∀j,j<k->decide (-500≤gv.getD j 0/\gv.getD j 0≤500)=true)) (fun i=>gv.length-(intOf i).toNat)
 case atStart=>exact⟨0,Nat.zero_le _,rfl,fun j hj=>absurd hj (by omega)⟩
 case round=>
  obtain⟨k,hk,rfl,hA⟩:=hrel
  by_cases hlt:k<gv.length
  ·obtain⟨bb,o,rfl,_,hc⟩:=HI.out k hlt
   rcases hv:decide (-500≤gv.getD k 0/\gv.getD k 0≤500) with _|_
   ·have Hr:=zH (show false=b from (Gm.Znn (g:=⟨gn,gv⟩) (Gm.Zq7 hlt hv)).symm.trans HV.out)
    generalize gv.getD k 0=x at *;have Hv:=zH hv;clear hv
    go_wp2_with fail
    refine (Za0 x (-500) 500 false Hv.out _).mono ?_;rintro e w1 ⟨rfl,rfl⟩
    go_wp2_with fail
    go_ret;exact⟨Zac Hr.out,HBl.out⟩
   ·have HA2:Hid (∀j,j<k+1->decide (-500≤gv.getD j 0/\gv.getD j 0≤500)=true):=fun j hj=>by
     by_cases e:j=k
     ·subst e;exact hv
     ·exact hA.out j (by omega)
    generalize gv.getD k 0=x at *;have Hv:=zH hv;clear hv
    go_wp2_with fail
    refine (Za0 x (-500) 500 true Hv.out _).mono ?_;rintro e w1 ⟨rfl,rfl⟩
    go_wp2_with fail
    go_round
    case rel=>exact⟨k+1,by omega,by go_num,HA2⟩
    case measure=>simp[intOf];omega
  ·have HW:=zH (Gm.Zno fun j hj=>hA.out j (by omega))
   clear hA
   by_cases hn:1≤gn/\gn≤5
   ·obtain⟨m,hm⟩:∃m:Nat,gn=m:=⟨gn.toNat,by omega⟩
    subst hm;have HS:=zH (Ztp (g:=⟨(m:Int),gv⟩) rfl (by omega) (by omega));have Hd:=zH (show decide (1≤(m:Int)/\(m:Int)≤5)=true by rw[decide_eq_true_iff];omega);have hm5:m≤5:=by omega
    have hpw:2 ^ m≤32:=Nat.pow_le_pow_right (by omega) hm5;have hp1:1≤2 ^ m:=Nat.one_le_two_pow;have HC:=zH (fun W=>Zqr m hm5 W);clear hn
    by_cases hlen:gv.length=2 ^ m
    ·have HS2:=zH (HS.out.trans (decide_eq_true hlen))
     have Hr:=zH ((Gm.Zt1 (g:=⟨(m:Int),gv⟩) HS2.out HW.out).symm.trans HV.out);have hpos:0<gv.length:=by omega
     have heq:((gv.length:Int) == ((2 ^ m:Nat):Int))=true:=by rw[hlen];simp
     obtain⟨bb,o,rfl,_,hc⟩:=HI.out 0 hpos;rw[Nat.add_zero] at hc;have Hz:Hid ((gv.getD 0 0 == 0)=b):=by
      have:=Hr.out;unfold Gm.Zyb at this;show _=_;rw[<-this,Bool.eq_iff_iff];simp
     clear hlen HS HS2 Hr HV HW;generalize 2 ^ m=q at *;generalize gv.getD 0 0=z at *
     go_wp2_with fail
     go_quiet (first | (go_at_call 59;exact Calls.quiet_of_same (Zfa m 1 5 true Hd.out _)) | (go_at_call 77;exact Calls.quiet_of_same (HC.out _)))
     go_wp2_with fail
     go_ret;exact⟨Zac Hz.out,below_drewN HBl.out nq⟩
    ·have Hr:=zH ((Gm.Zg2 (g:=⟨(m:Int),gv⟩) (HS.out.trans (decide_eq_false hlen))).symm.trans HV.out)
     have heq:((gv.length:Int) == ((2 ^ m:Nat):Int))=false:=(Zfx hlen).1;clear hlen HS HV HW;generalize 2 ^ m=q at *
     go_wp2_with fail
     go_quiet (first | (go_at_call 59;exact Calls.quiet_of_same (Zfa m 1 5 true Hd.out _)) | (go_at_call 77;exact Calls.quiet_of_same (HC.out _)))
     go_wp2_with fail
     go_ret;exact⟨Zac Hr.out,below_drewN HBl.out nq⟩
   ·have Hr:=zH ((Gm.Zg2 (g:=⟨gn,gv⟩) (Zox hn)).symm.trans HV.out)
    have Hd:=zH (show decide (1≤gn/\gn≤5)=false by rw[decide_eq_false_iff_not];exact hn);clear hn HV HW
    go_wp2_with fail
    go_quiet (first | (go_at_call 59;exact Calls.quiet_of_same (Zfa gn 1 5 false Hd.out _)))
    go_wp2_with fail
    go_ret;exact⟨Zac Hr.out,below_drewN HBl.out nq⟩
theorem Ze7 {w:World} {x y:Value} {g:G} (h:GmC w x y g) (hf:GmOk g) :
  Calls Tryz.prog 48 #[.agg #[x,y]] w fun e w'=>e=.returned (.int .i64 (Gm.Zbt g))/\Below w.heap.size w w':=by
 rcases hv:Gm.vld g with _|_
 ·have Hg:=zH (Gm.Zoc hv)
  have HV:=zH hv;have Hb:=Zng h 30;have HX:=zH Hb.1;have HB:=zH Hb.2;rw[Hg.out];clear hv Hb h
  go_enter Tryz.func48,Tryz.ntmps48
  go_wp2_with fail
  refine (Zaz false HV.out HX.out hf).mono ?_;rintro e w1 ⟨rfl,k⟩;have HB1:=zH (HB.out.trans (k.mono HB.out.size));clear k
  go_wp2_with fail
  go_ret;exact⟨rfl,HB1.out⟩
 ·obtain⟨m,hm,z,hz⟩:∃m,g.v.length=m+1/\∃z,g.v.getD m 0=z:=⟨g.v.length-1,by have:=Gm.Zcu hv;omega,_,rfl⟩
  have Hg:=zH (show Gm.Zbt g=z by rw[Gm.Zgn hv,hm,<-hz];rfl);have HV:=zH hv;have hi0:=h;obtain⟨a,c,rfl,e1,hi⟩:=hi0;obtain⟨bb,o,rfl,_,hc⟩:=hi m (by omega);rw[hm] at e1;subst e1;rw[hz] at hc;have HX:=zH (Zng h 30).1;have HB:=zH (Zng h 30).2;have HC:=zH (Zad.new w #[.int .i64 g.n,.slice (some ⟨bb,o,none⟩) (m+1) c] 30);have hm2:m≤1048576:=by have:=hf.1;omega
  have HK:=zH (show bb<w.heap.size/\w.cell? ⟨bb,o+m,none⟩=some (.int .i64 z) from ⟨by assumption,hc⟩);rw[Hg.out];clear hv h hi hc hm hz
  go_enter Tryz.func48,Tryz.ntmps48
  go_wp2_with fail
  refine (Zaz true HV.out HX.out hf).mono ?_;rintro e w1 ⟨rfl,k⟩;have HB1:=zH (HB.out.trans (k.mono HB.out.size));obtain⟨m0,m1⟩:=two (HC.out.below k);have hc1:w1.cell? ⟨bb,o+m,none⟩=some (.int .i64 z):=(HB1.out.cell (p:=⟨bb,o+m,none⟩) HK.out.1).trans HK.out.2;clear k
  go_wp2_with fail
  go_ret;exact⟨rfl,HB1.out⟩
end Go.Proofs.YtjfnleilddgjiaaGreat
