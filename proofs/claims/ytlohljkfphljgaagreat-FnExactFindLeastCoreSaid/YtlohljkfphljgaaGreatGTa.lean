/- The parts TaW, TaL1, TaL2, TaL3, TaF, LkTab, TaA, TaB, TaC, TaD. -/
import Derived.Test.YtlohljkfphljgaaGreatGMt
import Derived.Test.YtlohljkfphljgaaGreatGLb
import Derived.Laws.AppendOwnNone
import Derived.Test.YtlohljkfphljgaaGreatGLa
import Derived.Test.YtlohljkfphljgaaGreatHGrI
import Derived.Test.YtlohljkfphljgaaGreatGLk
import Derived.Test.YtlohljkfphljgaaGreatHApR
import Derived.Test.YtlohljkfphljgaaGreatGVb
import Derived.IntWalk
import Derived.Deep.RegionHeld3
set_option maxRecDepth 100000
set_option maxHeartbeats 4000000
namespace Go.Proofs.YtlohljkfphljgaaGreat
open Go.RowKit
open Ve (R)
open Ta (T)
def rr (L:List (List R)) (k:Nat):List R:=L.getD k []
theorem Zta {L:List (List R)} {k:Nat} (h:k<L.length):L[k]? = some (rr L k):=by
 unfold rr;rw[List.getD_eq_getElem?_getD,List.getElem?_eq_getElem h];rfl
theorem Zru {L:List (List R)} {k:Nat} {x:List R} (h:L[k]? = some x):rr L k=x:=by
 unfold rr;rw[List.getD_eq_getElem?_getD,h];rfl
def Zdo (B:Nat) (w:World) (a:Option Addr) (L:List (List R)):Prop:=
 ∀j,j<L.length->∃(b o:Nat) (a':Option Addr) (c':Nat),a=some ⟨b,o,none⟩/\b<B/\w.cell? ⟨b,o+j,none⟩=some (.slice a' (rr L j).length c')/\Zah B w a' (rr L j)
theorem Zdo.below {B:Nat} {w w':World} {a:Option Addr} {L:List (List R)} (h:Zdo B w a L) (hb:Below B w w'):Zdo B w' a L:=fun j hj=>by
 obtain⟨b,o,a',c',h1,h2,h3,h4⟩:=h j hj;exact⟨b,o,a',c',h1,h2,by rw[hb.cell (p:=⟨b,o+j,none⟩) h2];exact h3,h4.below hb⟩
theorem Zdo.mono {B B':Nat} {w:World} {a:Option Addr} {L:List (List R)} (h:Zdo B w a L) (hB:B≤B'):Zdo B' w a L:=fun j hj=>by
 obtain⟨b,o,a',c',h1,h2,h3,h4⟩:=h j hj;exact⟨b,o,a',c',h1,by omega,h3,h4.mono hB⟩
theorem Zb0 {w:World} {B1 B2 s1 s2 n1 n2:Nat} {T1 T2:TypeId} {v1 v2:Value} {xs1 xs2:List Value} (h1:w.ownsRow B1 T1 s1 v1 n1 xs1) (h2:w.ownsRow B2 T2 s2 v2 n2 xs2) (hT:T1≠T2):∀g,v1.ownBlock=some g->v2.ownBlock≠some g:=fun g e1 e2=>by
 obtain⟨_,⟨rfl,_⟩ | ⟨g1,c1,cur1,rfl,_,hh1,_⟩⟩:=h1
 ·cases e1
 ·obtain⟨_,⟨rfl,_⟩ | ⟨g2,c2,cur2,rfl,_,hh2,_⟩⟩:=h2
  ·cases e2
  ·obtain rfl:g1=g:=by simpa [Value.ownBlock] using e1
   obtain rfl:g2=g1:=by simpa [Value.ownBlock] using e2
   rw[hh1] at hh2;injection hh2 with hh2
   injection hh2 with e3 e4
   exact hT e4
def Zbt (B:Nat) (w:World) (v:Value) (L:List (List R)):Prop:=
 ∃vs:List Value,w.ownsRow B 26 1 v L.length vs/\∀j,j<L.length->∃u,vs[j]? = some u/\Zaa B w u (rr L j)
theorem Zbt.below {B:Nat} {w w':World} {v:Value} {L:List (List R)} (h:Zbt B w v L) (hb:Below w.heap.size w w'):Zbt B w' v L:=by
 obtain⟨vs,h1,h2⟩:=h;refine⟨vs,World.ownsRow.kept h1 (row:=none) ⟨hb.os,hb.tape,hb.output,hb.size,fun k hk _=>hb.block k hk⟩ (by cases v.ownBlock<;>simp),fun j hj=>?_⟩;obtain⟨u,e,ho⟩:=h2 j hj;exact⟨u,e,ho.below hb⟩
theorem Zbt.raise {B B':Nat} {w:World} {v:Value} {L:List (List R)} (h:Zbt B w v L) (hB:B'≤B):Zbt B' w v L:=by
 obtain⟨vs,⟨e1,e2⟩,h2⟩:=h;refine⟨vs,⟨e1,?_⟩,fun j hj=>?_⟩
 ·rcases e2 with e2|⟨g',cap,cur,e,hg,rest⟩
  ·exact .inl e2
  ·exact .inr ⟨g',cap,cur,e,by omega,rest⟩
 ·obtain⟨u,e,ho⟩:=h2 j hj
  exact⟨u,e,ho.raise hB⟩
theorem Zbt.reads {B:Nat} {w:World} {v:Value} {L:List (List R)} (h:Zbt B w v L) :
  ∃(a:Option Addr) (cap:Nat),v=.slice a L.length cap/\Zdo w.heap.size w a L/\(∀q,a=some q->B≤q.block):=by
 obtain⟨vs,h1,h2⟩:=h;have h1':=h1;obtain⟨e1,⟨rfl,hn⟩ | ⟨g,cap,cur,rfl,hg,hh,hr⟩⟩:=h1'
 ·have:L = []:=List.eq_nil_of_length_eq_zero hn
  subst this;exact⟨none,0,rfl,fun j hj=>absurd hj (by simp),fun q hq=>by cases hq⟩
 ·refine⟨some ⟨g,0,none⟩,cap,rfl,fun j hj=>?_,fun q hq=>by obtain rfl:=Option.some.inj hq;exact hg⟩
  obtain⟨u,e,ho⟩:=h2 j hj;obtain⟨a,c,rfl,hrd,_,_⟩:=Zai ho;refine⟨g,0,a,c,rfl,Zab hh,?_,hrd⟩;rw[Nat.zero_add,World.ownsRow.cellAt h1 j (by omega)];exact e
theorem Zle:(Tryz.prog.info? 26).map (fun i=>(i.zero,i.size,i.bytes))=some (some (.slice none 0 0),1,24):=by kernel_rfl
theorem Zcf:(31:TypeId)≠26:=by decide
theorem Zha:(31:TypeId)≠3:=by decide
theorem Zcx:(26:TypeId)≠3:=by decide
theorem Zbt.nil (B:Nat) (w:World):Zbt B w (.slice none 0 0) []:=⟨[],World.ownsRow_nil _ _ _ _,fun j hj=>absurd hj (by simp)⟩
theorem Zbt.snoc {B:Nat} {w w':World} {v v' u:Value} {vs:List Value} {L:List (List R)} {x:List R} (h1:w.ownsRow B 26 1 v L.length vs) (h2:∀j,j<L.length->∃u,vs[j]? = some u/\Zaa B w u (rr L j)) (hu:Zaa B w u x)
  (hown:w'.ownsRow B 26 1 v' (L.length+1) (vs++[u])) (hg:w.grownBy w' v.ownBlock):Zbt B w' v' (L++[x]):=by
 have hl:vs.length=L.length:=by have:=h1.1;omega
 have keep:∀(u':Value) (xs:List R),Zaa B w u' xs->Zaa B w' u' xs:=fun u' xs ho=>
  World.ownsRow.kept ho hg (by
   cases hv:u'.ownBlock with
   | none=>exact .inl rfl
   | some g=>exact .inr fun e=>Zb0 ho h1 Zcf g hv e.symm)
 refine⟨vs++[u],by rw[List.length_append];exact hown,fun j hj=>?_⟩
 by_cases e:j<L.length
 ·obtain⟨u',e1,ho⟩:=h2 j e
  refine⟨u',by rw[List.getElem?_append_left (by omega)];exact e1,?_⟩;have:rr (L++[x]) j=rr L j:=by
   unfold rr;rw[List.getD_eq_getElem?_getD,List.getD_eq_getElem?_getD,List.getElem?_append_left e]
  rw[this];exact keep u' _ ho
 ·have e2:j=L.length:=by rw[List.length_append] at hj;simp at hj;omega
  subst e2;refine⟨u,by rw[<-hl,List.getElem?_append_right (Nat.le_refl _)];simp,?_⟩;have:rr (L++[x]) L.length=x:=Zru (by rw[List.getElem?_append_right (Nat.le_refl _)];simp);rw[this];exact keep u _ hu
structure Zc4 (B:Nat) (w:World) (a b:Option Addr) (t:T):Prop where
 mR:Zdo B w a t.rows
 mB:Zat B w b t.basis
theorem Zc4.below {B:Nat} {w w':World} {a b:Option Addr} {t:T} (h:Zc4 B w a b t) (hb:Below B w w'):Zc4 B w' a b t:=⟨h.mR.below hb,h.mB.below hb⟩
theorem Zc4.mono {B B':Nat} {w:World} {a b:Option Addr} {t:T} (h:Zc4 B w a b t) (hB:B≤B'):Zc4 B' w a b t:=⟨h.mR.mono hB,h.mB.mono hB⟩
structure Zca (t:T):Prop where
 rows:t.rows.length≤1048576
 row:∀k,k<t.rows.length->(rr t.rows k).length≤1048576
 basis:t.basis.length≤1048576
 cols:(Lit.int .i64 t.cols).wf=true
def tabV (a b:Option Addr) (c1 c2:Nat) (t:T):Value:=.agg #[.slice a t.rows.length c1,.slice b t.basis.length c2,.int .i64 t.cols]
structure Zf4 (B:Nat) (w:World) (v:Value) (t:T):Prop where
 ex:∃vR vB:Value,v=.agg #[vR,vB,.int .i64 t.cols]/\Zbt B w vR t.rows/\Zad B w vB t.basis
theorem Zf4.below {B:Nat} {w w':World} {v:Value} {t:T} (h:Zf4 B w v t) (hb:Below w.heap.size w w'):Zf4 B w' v t:=by
 obtain⟨vR,vB,rfl,h1,h2⟩:=h;exact⟨vR,vB,rfl,h1.below hb,h2.below hb⟩
theorem Zf4.raise {B B':Nat} {w:World} {v:Value} {t:T} (h:Zf4 B w v t) (hB:B'≤B):Zf4 B' w v t:=by
 obtain⟨vR,vB,rfl,h1,h2⟩:=h;exact⟨vR,vB,rfl,h1.raise hB,h2.raise hB⟩
theorem Zf4.reads {B:Nat} {w:World} {v:Value} {t:T} (h:Zf4 B w v t):∃(a b:Option Addr) (c1 c2:Nat),v=tabV a b c1 c2 t/\Zc4 w.heap.size w a b t:=by
 obtain⟨vR,vB,rfl,h1,h2⟩:=h;obtain⟨a,c1,rfl,r1,_⟩:=h1.reads;obtain⟨b,c2,rfl,r2,r3,_⟩:=Zaw h2;exact⟨a,b,c1,c2,rfl,r1,Zat.Zcb r2 fun q hq=>(r3 q hq).2⟩
def Zj0 (t:T) (w:World) (e:Ending) (w':World):Prop:=∃v,e=.returned v/\Zf4 w.heap.size w' v t/\Below w.heap.size w w'
def Zkf (t:T) (k:Bool) (w:World) (e:Ending) (w':World):Prop:=∃vR vB:Value,e=.returned (.tuple #[.agg #[vR,vB,.int .i64 t.cols],.bool k])/\Zf4 w.heap.size w' (.agg #[vR,vB,.int .i64 t.cols]) t/\Below w.heap.size w w'
theorem Zdo.drewN {B:Nat} {w:World} {a:Option Addr} {L:List (List R)} (h:Zdo B w a L) (d:Nat):Zdo B (w.drewN d) a L:=h
def Zb4:List (List R)->Nat
 | []=>0
 | r::L=>r.length+Zb4 L
theorem Zqq (L:List (List R)) (k:Nat) (h:k<L.length):Zb4 (L.take (k+1))=Zb4 (L.take k)+(rr L k).length:=by
 induction L generalizing k with
 | nil=>simp at h
 | cons r L ih=>
  cases k with
  | zero=>simp[Zb4,rr]
  | succ k=>
   have:=ih k (by simpa using h);simp only[List.take_succ_cons,Zb4];have e:rr (r::L) (k+1)=rr L k:=by simp[rr]
   rw[e];omega
theorem Ztt (L:List (List R)) (k:Nat) (h:k<L.length):(rr L k).length≤Zb4 L:=by
 induction L generalizing k with
 | nil=>simp at h
 | cons r L ih=>
  cases k with
  | zero=>simp[Zb4,rr]
  | succ k=>
   have:=ih k (by simpa using h);have e:rr (r::L) (k+1)=rr L k:=by simp[rr]
   rw[e];simp only[Zb4];omega
theorem Zoz (L:List (List R)) (k:Nat):Zb4 (L.take k)≤Zb4 L:=by
 induction L generalizing k with
 | nil=>simp
 | cons r L ih=>
  cases k with
  | zero=>simp[Zb4]
  | succ k=>
   have:=ih k;simp only[List.take_succ_cons,Zb4];omega
def Z3g (L:List (List R)):Prop:=∀k,k<L.length->(rr L k).length≤9223372036854775807
def Zr8 (lo hi:Nat) (w:World) (vs:List Value) (L:List (List R)) (k:Nat):Prop:=
 (∀j,j<k->∃v,vs[j]? = some v/\Zaa lo w v (rr L j)/\∀b,v.ownBlock=some b->b<hi)/\∀i j v v' b,i<j->j<k->vs[i]? = some v->vs[j]? = some v'->v.ownBlock=some b->v'.ownBlock≠some b
def Zcm (lo hi:Nat) (w:World) (v:Value) (L:List (List R)):Prop:=
 ∃(g n:Nat) (vs:List Value),v=.slice (some ⟨g,0,none⟩) L.length n/\g<hi/\w.ownsRow lo 26 1 (.slice (some ⟨g,0,none⟩) L.length n) L.length vs/\Zr8 (g+1) hi w vs L L.length
theorem Zcm.same {lo hi:Nat} {w w':World} {v:Value} {L:List (List R)} (h:Zcm lo hi w v L) (hs:∀k,lo≤k->k<hi->k<w.heap.size->w'.heap[k]? = w.heap[k]?):Zcm lo hi w' v L:=by
 obtain⟨g,n,vs,rfl,hgh,h1,h2,h3⟩:=h;have hg:=World.ownsRow.lt h1 g rfl;refine⟨g,n,vs,rfl,hgh,Zak h1 fun b hb=>?_,fun j hj=>?_,h3⟩
 ·obtain rfl:g=b:=by simpa [Value.ownBlock] using hb
  exact hs g hg.1 hgh hg.2
 ·obtain⟨v,e,ho,hb⟩:=h2 j hj
  refine⟨v,e,ho.same fun b hb2=>?_,hb⟩;have:=World.ownsRow.lt ho b hb2;exact hs b (by omega) (hb b hb2) this.2
theorem Zcm.below {lo hi:Nat} {w w':World} {v:Value} {L:List (List R)} (h:Zcm lo hi w v L) (hb:Below w.heap.size w w'):Zcm lo hi w' v L:=
 h.same fun k _ _ hk=>hb.block k hk
theorem Zcm.turned {lo hi l2 h2:Nat} {w w':World} {v:Value} {L:List (List R)} (h:Zcm lo hi w v L) (ht:Turned l2 h2 w w') (ha:hi≤l2\/h2≤lo):Zcm lo hi w' v L:=
 h.same fun k h1 h2 hk=>ht.block k hk (by omega)
theorem Zcm.wider {lo hi lo' hi':Nat} {w:World} {v:Value} {L:List (List R)} (h:Zcm lo hi w v L) (h1:lo'≤lo) (h2:hi≤hi'):Zcm lo' hi' w v L:=by
 obtain⟨g,n,vs,rfl,hgh,k1,k2,k3⟩:=h;have hr:w.ownsRow lo' 26 1 (.slice (some ⟨g,0,none⟩) L.length n) L.length vs:=by
  obtain⟨e1,e2|⟨g',cap,cur,e,hg,rest⟩⟩:=k1
  ·exact⟨e1,.inl e2⟩
  ·exact⟨e1,.inr ⟨g',cap,cur,e,by omega,rest⟩⟩
 exact⟨g,n,vs,rfl,by omega,hr,fun j hj=>by
  obtain⟨v,e,ho,hb⟩:=k2 j hj;exact⟨v,e,ho,fun b hb2=>by have:=hb b hb2;omega⟩,k3⟩
theorem Zcm.reads {lo hi:Nat} {w:World} {v:Value} {L:List (List R)} (h:Zcm lo hi w v L) :
  ∃(a:Option Addr) (cap:Nat),v=.slice a L.length cap/\Zdo hi w a L:=by
 obtain⟨g,n,vs,rfl,hgh,h1,h2,h3⟩:=h;have hg:=World.ownsRow.lt h1 g rfl;refine⟨_,_,rfl,fun j hj=>?_⟩;obtain⟨v,e,ho,hb⟩:=h2 j hj;obtain⟨a,cap,rfl,hr,ha,hne⟩:=Zai ho;refine⟨g,0,a,cap,rfl,hgh,?_,?_⟩
 ·rw[Nat.zero_add,World.ownsRow.cellAt h1 j (by omega)]
  exact e
 ·exact hr.narrow fun p hp=>by obtain rfl:=hp;exact hb p.block rfl
def Z1y (L:List (List R)) (w:World) (e:Ending) (w':World):Prop:=∃v,e=.returned v/\Zcm w.heap.size w'.heap.size w' v L/\Below w.heap.size w w'
def Zg3 (B g n k:Nat) (wr:World) (L:List (List R)):Prop:=
 ∃vs:List Value,wr.ownsRow B 26 1 (.slice (some ⟨g,0,none⟩) n n) n vs/\Zr8 (g+1) wr.heap.size wr vs L k
theorem Zg3.kept {B g n k:Nat} {w w':World} {L:List (List R)} (h:Zg3 B g n k w L) (hb:Below w.heap.size w w'):Zg3 B g n k w' L:=by
 obtain⟨vs,h1,h2,h3⟩:=h;exact⟨vs,Zak h1 fun b hg=>hb.block b (World.ownsRow.lt h1 b hg).2,fun j hj=>by
  obtain⟨v,e,ho,hlt⟩:=h2 j hj;exact⟨v,e,ho.below hb,fun b h=>Nat.lt_of_lt_of_le (hlt b h) hb.size⟩,h3⟩
theorem Zg3.next {B g n k:Nat} {w w':World} {L:List (List R)} {u:Value} (h:Zg3 B g n k w L) (hk:k<n) (hg:g<w.heap.size) (hb:Below w.heap.size w w') (ho:Zaa w.heap.size w' u (rr L k)) :
  Zg3 B g n (k+1) (w'.setCell ⟨g,k,none⟩ u) L:=by
 obtain⟨vs,h1,h2,h3⟩:=h;have h1':w'.ownsRow B 26 1 (.slice (some ⟨g,0,none⟩) n n) n vs:=Zak h1 fun b hg=>hb.block b (World.ownsRow.lt h1 b hg).2
 have hl:vs.length=n:=by have:=h1.1;omega
 have hst:=h1'.stored k u;have old:∀j,j<k+1->j≠k->(vs.set k u)[j]? = vs[j]?:=fun j _ e=>by rw[List.getElem?_set_ne (fun h=>e h.symm)]
 have new:(vs.set k u)[k]? = some u:=by rw[List.getElem?_set_self (by omega)]
 refine⟨vs.set k u,hst.1,fun j hj=>?_,fun i j v v' b hij hj hv hv' hb1 hb2=>?_⟩
 ·by_cases e:j=k
  ·subst e
   refine⟨u,new,(ho.raise (show g+1≤w.heap.size by omega)).same fun b hb1=>?_,fun b hb1=>by have:=World.ownsRow.lt ho b hb1;simpa [World.setCell] using this.2⟩;have:=World.ownsRow.lt ho b hb1;rw[Below.heap_setCell _ _ _ _ (show b≠g by omega)]
  ·obtain⟨v,e1,e2,e3⟩:=h2 j (by omega)
   refine⟨v,by rw[old j hj e];exact e1,(e2.below hb).same fun b hb1=>?_,fun b hb1=>by have:=e3 b hb1;have:=hb.size;simp[World.setCell];omega⟩;have:=World.ownsRow.lt e2 b hb1;rw[Below.heap_setCell _ _ _ _ (show b≠g by omega)]
 ·rw[old i (by omega) (by omega)] at hv
  by_cases e:j=k
  ·subst e
   rw[new] at hv';obtain rfl:=Option.some.inj hv';have a1:=(World.ownsRow.lt ho b hb2).1;obtain⟨v2,e1,e2,_⟩:=h2 i (by omega);rw[hv] at e1;obtain rfl:=Option.some.inj e1;have a2:=(World.ownsRow.lt e2 b hb1).2;omega
  ·rw[old j hj e] at hv'
   exact h3 i j v v' b hij (by omega) hv hv' hb1 hb2
/-! ### Slices of rows -/
theorem Zdw.ty {lo hi:Nat} {w:World} {u:Value} {xs:List R} (h:Zdw lo hi w u xs) {b:Nat} (hb:Blk u xs.length b):TyAt w b 31:=by
 obtain⟨a,c,rfl,h2⟩:=h;exact Zav (h2 hb.1).1 hb.2
theorem Zby.ty {lo hi:Nat} {w:World} {u:Value} {xs:List Int} (h:Zby lo hi w u xs) {b:Nat} (hb:Blk u xs.length b):TyAt w b 3:=by
 obtain⟨a,c,rfl,h2⟩:=h;exact Zav (h2 hb.1).1 hb.2
def Zfe (T:TypeId) (w w':World):Prop:=∀b T',TyAt w b T'->T'≠T->w'.heap[b]? = w.heap[b]?
theorem Zfe.refl (T:TypeId) (w:World):Zfe T w w:=fun _ _ _ _=>rfl
theorem Zfe.trans {T:TypeId} {a b c:World} (h:Zfe T a b) (k:Zfe T b c):Zfe T a c:=fun i T' h1 h2=>(k i T' (h1.same (h i T' h1 h2)) h2).trans (h i T' h1 h2)
theorem Zfe.Zof {T:TypeId} {w w':World} {row:Option Nat} (h:w.grownBy w' row) (hr:∀g,row=some g->TyAt w g T):Zfe T w w':=fun b T' h1 h2=>by
 obtain⟨cs,e⟩:=h1;exact h.block b (Zab e) fun e2=>(TyAt.ne (hr b e2.symm) ⟨cs,e⟩ (fun e3=>h2 e3.symm)) rfl
def Z3i (lo hi:Nat) (w:World) (a:Option Addr) (j:Nat) (u:Value):Prop:=∃g o:Nat,a=some ⟨g,o,none⟩/\lo≤g/\g<hi/\w.cell? ⟨g,o+j,none⟩=some u/\TyAt w g 26
structure Shape (lo hi:Nat) (w:World) (a:Option Addr) (us:Nat->Value) (L:List (List R)):Prop where
 out:∀j,j<L.length->Z3i lo hi w a j (us j)
 apart:∀i j,i<j->j<L.length->∀b,Blk (us i) (rr L i).length b->¬Blk (us j) (rr L j).length b
def ResM (lo hi:Nat) (w:World) (v:Value) (L:List (List R)):Prop:=
 ∃(a:Option Addr) (cap:Nat) (us:Nat->Value),v=.slice a L.length cap/\hi≤w.heap.size/\Shape lo hi w a us L/\∀j,j<L.length->Zdw lo hi w (us j) (rr L j)
theorem ResM.size {lo hi:Nat} {w:World} {v:Value} {L:List (List R)} (h:ResM lo hi w v L):hi≤w.heap.size:=by
 obtain⟨_,_,_,_,hh,_⟩:=h;exact hh
theorem ResM.reads {lo hi:Nat} {w:World} {v:Value} {L:List (List R)} (h:ResM lo hi w v L):∃(a:Option Addr) (cap:Nat),v=.slice a L.length cap/\Zdo hi w a L:=by
 obtain⟨a,cap,us,rfl,_,h1,h2⟩:=h;refine⟨a,cap,rfl,fun j hj=>?_⟩;obtain⟨g,o,rfl,_,h3,h4,_⟩:=h1.out j hj;obtain⟨a',c',e,h5⟩:=(h2 j hj).reads;exact⟨g,o,a',c',rfl,h3,by rw[h4,e],h5⟩
theorem Shape.below {lo hi:Nat} {w w':World} {a:Option Addr} {us:Nat->Value} {L:List (List R)} (h:Shape lo hi w a us L) (hh:hi≤w.heap.size) (hb:Below w.heap.size w w'):Shape lo hi w' a us L:=
 ⟨fun j hj=>by
  obtain⟨g,o,e,h1,h2,h3,h4⟩:=h.out j hj;exact⟨g,o,e,h1,h2,by rw[hb.cell (p:=⟨g,o+j,none⟩) (show g<w.heap.size by omega)];exact h3,h4.same (hb.block g (by omega))⟩,h.apart⟩
theorem ResM.below {lo hi:Nat} {w w':World} {v:Value} {L:List (List R)} (h:ResM lo hi w v L) (hb:Below w.heap.size w w'):ResM lo hi w' v L:=by
 obtain⟨a,cap,us,rfl,hh,h1,h2⟩:=h;exact⟨a,cap,us,rfl,Nat.le_trans hh hb.size,h1.below hh hb,fun j hj=>(h2 j hj).below hb⟩
theorem ResM.turned {lo hi l2 h2:Nat} {w w':World} {v:Value} {L:List (List R)} (h:ResM lo hi w v L) (ht:Turned l2 h2 w w') (ha:hi≤l2\/h2≤lo):ResM lo hi w' v L:=by
 obtain⟨a,cap,us,rfl,hh,k1,k2⟩:=h;refine⟨a,cap,us,rfl,Nat.le_trans hh ht.size,⟨fun j hj=>?_,k1.apart⟩,fun j hj=>(k2 j hj).same fun b hb=>?_⟩
 ·obtain⟨g,o,e,h3,h4,h5,h6⟩:=k1.out j hj
  exact⟨g,o,e,h3,h4,by rw[World.cell?_of_block (w:=w) (a:=⟨g,o+j,none⟩) (ht.block g (by omega) (by omega))];exact h5,h6.same (ht.block g (by omega) (by omega))⟩
 ·have:=(k2 j hj).blk hb
  exact ht.block b this.2.2 (by omega)
theorem ResM.kept {lo hi:Nat} {T:TypeId} {w w':World} {v:Value} {L:List (List R)} (h:ResM lo hi w v L) (hs:w.heap.size≤w'.heap.size) (hk:Zfe T w w') (h1:31≠T) (h2:26≠T):ResM lo hi w' v L:=by
 obtain⟨a,cap,us,rfl,hh,k1,k2⟩:=h;refine⟨a,cap,us,rfl,Nat.le_trans hh hs,⟨fun j hj=>?_,k1.apart⟩,fun j hj=>(k2 j hj).same fun b hb=>?_⟩
 ·obtain⟨g,o,e,h3,h4,h5,h6⟩:=k1.out j hj
  have h7:=hk g _ h6 h2;exact⟨g,o,e,h3,h4,by rw[World.cell?_of_block (w:=w) (a:=⟨g,o+j,none⟩) h7];exact h5,h6.same h7⟩
 ·exact hk b _ ((k2 j hj).ty hb) h1
theorem Zby.kept {lo hi:Nat} {T:TypeId} {w w':World} {u:Value} {xs:List Int} (h:Zby lo hi w u xs) (hk:Zfe T w w') (h1:3≠T):Zby lo hi w' u xs:=h.same fun b hb=>hk b _ (h.ty hb) h1
theorem ResM.wider {lo hi lo' hi':Nat} {w:World} {v:Value} {L:List (List R)} (h:ResM lo hi w v L) (h1:lo'≤lo) (h2:hi≤hi') (h3:hi'≤w.heap.size):ResM lo' hi' w v L:=by
 obtain⟨a,cap,us,rfl,hh,k1,k2⟩:=h;refine⟨a,cap,us,rfl,h3,⟨fun j hj=>?_,k1.apart⟩,fun j hj=>(k2 j hj).wider h1 h2⟩;obtain⟨g,o,e,q1,q2,q3,q4⟩:=k1.out j hj;exact⟨g,o,e,by omega,by omega,q3,q4⟩
theorem Zcm.res {lo hi:Nat} {w:World} {v:Value} {L:List (List R)} (h:Zcm lo hi w v L) (hh:hi≤w.heap.size):ResM lo hi w v L:=by
 obtain⟨g,n,vs,rfl,hgh,h1,h2,h3⟩:=h;have hg:=World.ownsRow.lt h1 g rfl;have hl:vs.length=L.length:=by have:=h1.1;omega
 have hv:∀j,j<L.length->vs[j]? = some (vs.getD j (.bool false)):=fun j hj=>by
  rw[List.getD_eq_getElem?_getD,List.getElem?_eq_getElem (by omega)];rfl
 refine⟨_,n,fun j=>vs.getD j (.bool false),rfl,hh,⟨fun j hj=>⟨g,0,rfl,hg.1,hgh,?_,Zav h1 rfl⟩,fun i j hij hj b hb hb2=>?_⟩,fun j hj=>?_⟩
 ·rw[Nat.zero_add,World.ownsRow.cellAt h1 j (by omega)]
  exact hv j hj
 ·exact h3 i j _ _ b hij hj (hv i (by omega)) (hv j hj) hb.2 hb2.2
 ·obtain⟨v,e,ho,hlt⟩:=h2 j hj
  rw[hv j hj] at e;obtain rfl:=Option.some.inj e;exact Zdw.Zhg (ho.raise (by omega)) hlt
def Z0e:Nat->List (List R)->List (List R)
 | _,[]=>[]
 | k,r::L=>Zbo k r.length::Z0e (k+2*r.length) L
open Go.RowKit Go.Deep Go.ChangeShapes Go.WideShapes
def tabN (t:T):Nat:=t.rows.length+Zb4 t.rows+t.basis.length
def Z0q (t:T):Prop:=t.rows.length≤9223372036854775807/\Z3g t.rows/\t.basis.length≤9223372036854775807
structure Zdh (lo hi:Nat) (w:World) (v:Value) (t:T):Prop where
 ex:∃vR vB:Value,v=.agg #[vR,vB,.int .i64 t.cols]/\ResM lo hi w vR t.rows/\Zby lo hi w vB t.basis
theorem Zdh.below {lo hi:Nat} {w w':World} {v:Value} {t:T} (h:Zdh lo hi w v t) (hb:Below w.heap.size w w'):Zdh lo hi w' v t:=by
 obtain⟨vR,vB,rfl,h1,h2⟩:=h;exact⟨vR,vB,rfl,h1.below hb,h2.below hb⟩
theorem Zdh.turned {lo hi l2 h2:Nat} {w w':World} {v:Value} {t:T} (h:Zdh lo hi w v t) (ht:Turned l2 h2 w w') (ha:hi≤l2\/h2≤lo):Zdh lo hi w' v t:=by
 obtain⟨vR,vB,rfl,h1,h2⟩:=h;exact⟨vR,vB,rfl,h1.turned ht ha,h2.turned ht ha⟩
theorem Zdh.reads {lo hi:Nat} {w:World} {v:Value} {t:T} (h:Zdh lo hi w v t):∃(a b:Option Addr) (c1 c2:Nat),v=tabV a b c1 c2 t/\Zc4 hi w a b t/\hi≤w.heap.size:=by
 obtain⟨vR,vB,rfl,h1,h2⟩:=h;have hh:=h1.size;obtain⟨a,c1,rfl,r1⟩:=h1.reads;obtain⟨b,c2,rfl,r2⟩:=h2.reads;exact⟨a,b,c1,c2,rfl,⟨r1,r2⟩,hh⟩
def Z3b (t:T) (w:World) (e:Ending) (w':World):Prop:=∃v,e=.returned v/\Zdh w.heap.size w'.heap.size w' v t/\Below w.heap.size w w'
def Z1z (t:T) (k:Bool) (w:World) (e:Ending) (w':World):Prop:=∃v,e=.returned (.tuple #[v,.bool k])/\Zdh w.heap.size w'.heap.size w' v t/\Below w.heap.size w w'
def Z4c (t:T):T:=⟨Z0e 1 t.rows,Zc2 (1+2*Zb4 t.rows) t.basis.length,t.cols⟩
def Z4h (t:T):Int:=1+2*(Zb4 t.rows:Int)+(t.basis.length:Int)
def TabC (w:World) (x y z:Value) (t:T):Prop:=∃(a b:Option Addr) (c1 c2:Nat),x=.slice a t.rows.length c1/\y=.slice b t.basis.length c2/\z=.int .i64 t.cols/\Zc4 w.heap.size w a b t
theorem TabC.up {w w':World} {x y z:Value} {t:T} (h:TabC w x y z t) (hb:Below w.heap.size w w'):TabC w' x y z t:=by
 obtain⟨a,b,c1,c2,e1,e2,e3,hi⟩:=h;exact⟨a,b,c1,c2,e1,e2,e3,(hi.below hb).mono hb.size⟩
theorem TabC.one {w:World} {x y z:Value} {t:T} (h:TabC w x y z t):x.oneCell'=true/\y.oneCell'=true/\z.oneCell'=true:=by
 obtain⟨a,b,c1,c2,rfl,rfl,rfl,_⟩:=h;exact⟨rfl,rfl,rfl⟩
def Z3c (t:T):Prop:=Z0q t/\(Lit.int .i64 t.cols).wf=true
def Z4a (w:World) (t:T) (e:Ending) (w':World):Prop:=∃x y z:Value,e=.returned (.agg #[x,y,z])/\TabC w' x y z t/\Zdh w.heap.size w'.heap.size w' (.agg #[x,y,z]) t
def Z3m (f:FuncId) (g:T->T->Bool):Prop:=∀(w:World) (u0 u1 u2 v0 v1 v2:Value) (s t:T),Zca s->Zca t->TabC w u0 u1 u2 s->TabC w v0 v1 v2 t->
 Calls Tryz.prog f #[.agg #[u0,u1,u2],.agg #[v0,v1,v2]] w fun e w'=>e=.returned (.bool (g s t))/\Below w.heap.size w w'
def Z4g (t:T):Prop:=Zca t/\tabN t≤1048576
theorem Zdh.size {lo hi:Nat} {w:World} {v:Value} {t:T} (h:Zdh lo hi w v t):hi≤w.heap.size:=by
 obtain⟨_,_,_,h1,_⟩:=h.ex;exact h1.size
theorem Zdo.same {n:Nat} {w w':World} {a:Option Addr} {L:List (List R)} (h:Zdo n w a L) (hk:∀k,k<n->w'.heap[k]? = w.heap[k]?):Zdo n w' a L:=fun j hj=>by
 obtain⟨b,o,a',c',e1,h2,h3,h4⟩:=h j hj;have hc:∀b i,b<n->w'.cell? ⟨b,i,none⟩=w.cell? ⟨b,i,none⟩:=fun b i hb=>World.cell?_of_block (w:=w) (a:=⟨b,i,none⟩) (hk b hb)
 refine⟨b,o,a',c',e1,h2,by rw[hc _ _ h2];exact h3,fun j x hx=>?_⟩;obtain⟨b,o,e1,h2,h3,h4⟩:=h4 j x hx;exact⟨b,o,e1,h2,by rw[hc _ _ h2];exact h3,by rw[hc _ _ h2];exact h4⟩
theorem TabC.rg {w:World} {x y z:Value} {t:T} (h:TabC w x y z t):Rg (fun w'=>TabC w' x y z t) 0 w.heap.size w:=
 ⟨h,Nat.le_refl _,fun w' hs hk=>by
  obtain⟨a,b,c1,c2,e1,e2,e3,hi⟩:=h;exact⟨a,b,c1,c2,e1,e2,e3,Zc4.mono ⟨hi.mR.same fun k h=>hk k (Nat.zero_le _) h,hi.mB.same fun k h=>hk k (Nat.zero_le _) h⟩ hs⟩⟩
theorem Zdh.Zbe {lo hi:Nat} {w:World} {x y z:Value} {t:T} (h:Zdh lo hi w (.agg #[x,y,z]) t):TabC w x y z t:=by
 obtain⟨a,b,c1,c2,e,hi,hh⟩:=h.reads;unfold tabV at e;injection e with e
 have e1:x=.slice a t.rows.length c1:=by have:=congrArg (fun q=>q[0]?) e;simpa using this
 have e2:y=.slice b t.basis.length c2:=by have:=congrArg (fun q=>q[1]?) e;simpa using this
 have e3:z=.int .i64 t.cols:=by have:=congrArg (fun q=>q[2]?) e;simpa using this
 exact⟨a,b,c1,c2,e1,e2,e3,hi.mono hh⟩
theorem Zdh.rg {lo hi:Nat} {w:World} {v:Value} {t:T} (h:Zdh lo hi w v t):Rg (fun w'=>Zdh lo hi w' v t) lo hi w:=by
 refine⟨h,h.size,fun w' hs hk=>?_⟩;obtain⟨vR,vB,rfl,⟨a,cap,us,rfl,hh,k1,k2⟩,h2⟩:=h;refine⟨_,vB,rfl,⟨a,cap,us,rfl,Nat.le_trans hh hs,⟨fun j hj=>?_,k1.apart⟩,fun j hj=>(k2 j hj).same fun b hb=>?_⟩,h2.same fun b hb=>?_⟩
 ·obtain⟨g,o,e,h3,h4,h5,h6⟩:=k1.out j hj
  exact⟨g,o,e,h3,h4,by rw[World.cell?_of_block (w:=w) (a:=⟨g,o+j,none⟩) (hk g h3 h4)];exact h5,h6.same (hk g h3 h4)⟩
 ·have:=(k2 j hj).blk hb
  exact hk b this.1 this.2.1
 ·have:=h2.blk hb
  exact hk b this.1 this.2.1
theorem Zfw (b:Bool) (w:World):Calls Tryz.prog 99 #[.bool b] w fun e w'=>e=.returned (.int .i64 (if b then 1 else 0))/\w=w':=by
 cases b
 ·go_enter Tryz.func99,Tryz.ntmps99
  go_wp2_with fail
  go_ret;exact⟨rfl,rfl⟩
 ·go_enter Tryz.func99,Tryz.ntmps99
  go_wp2_with fail
  go_ret;exact⟨rfl,rfl⟩
theorem Zhw (B:Nat) (a:Option Addr) (c:Nat) (xs:List R) (hn:xs.length≤2000000) (w:World) (hBw:B≤w.heap.size) (h1:Zah B w a xs):Calls Tryz.prog 63 #[.slice a xs.length c] w (Zbg xs w):=by
 have hb:=(Below.refl w.heap.size w).alloc (Nat.le_refl _) (.cells #[] 31);have HO1:Hid (Zaa w.heap.size (w.alloc (.cells #[] 31)) (.slice (some ⟨w.heap.size,0,none⟩) 0 0) []):=World.ownsRow_made w #[] 0 (Nat.le_refl _) (Nat.zero_le _) rfl;have H1:=zH ((h1.mono hBw).below hb);have Hb:=zH hb;clear h1 hb
 go_enter Tryz.func63,Tryz.ntmps63
 go_wp2_with (at_builtin;refine Zaj rfl _ _ rfl w.heap.size _ [] rfl HO1.out a xs _ c rfl rfl _ H1.out (by simp;omega) Hb.out.size ?_)
 intro v' w3 hown hgrow;have HO:=zH hown;have HB:=zH (Hb.out.grown hgrow Hb.out.size (fun g hg=>(World.ownsRow.lt HO1.out g hg).1));clear hown hgrow
 go_wp2_with fail
 go_ret;exact⟨_,rfl,HO.out,HB.out⟩
theorem Zkb (x y:R) (w:World):Calls Tryz.prog 77 #[.agg #[.int .i64 x.1,.int .i64 x.2],.agg #[.int .i64 y.1,.int .i64 y.2]] w fun e w'=>e=.returned (.tuple #[.agg #[.int .i64 (Ta.divR x y).1,.int .i64 (Ta.divR x y).2],.bool (Ta.divK x y)])/\Below w.heap.size w w':=Zr2 x.1 x.2 y.1 y.2 w
theorem Zoo (B:Nat) (a1:Option Addr) (c1:Nat) (xs:List R) (u:R) (hn:xs.length≤1048576) (w:World) (hBw:B≤w.heap.size) (h1:Zah B w a1 xs) :
  Calls Tryz.prog 192 #[.slice a1 xs.length c1,.agg #[.int .i64 u.1,.int .i64 u.2]] w (Zcw (Ta.dvR xs u) (Ta.dvK xs u) w):=by
 obtain⟨D,hD⟩:∃D,Ta.dvR xs u=D:=⟨_,rfl⟩;obtain⟨K,hK⟩:∃K,Ta.dvK xs u=K:=⟨_,rfl⟩;rw[hD,hK];have HD:=zH hD;have HK:=zH hK;have H1:=zH (h1.mono hBw);clear h1 hD hK;have HU1:=zH ((Zau.new w u).alloc (.cells #[] 31));have HO1:Hid (Zaa (w.heap.size+1) ((w.alloc (.cells #[.int .i64 u.1,.int .i64 u.2] 31)).alloc (.cells #[] 31)) (.slice (some ⟨w.heap.size+1,0,none⟩) 0 0) []):=by
  have h:=World.ownsRow_made (base:=w.heap.size+1) (e:=31) (size:=2) (w.alloc (.cells #[.int .i64 u.1,.int .i64 u.2] 31)) #[] 0 (by rw[Zar];omega) (Nat.zero_le _) rfl;rw[Zar] at h;exact h
 have HB1:Hid (Below w.heap.size w ((w.alloc (.cells #[.int .i64 u.1,.int .i64 u.2] 31)).alloc (.cells #[] 31))):=by
  show Below _ _ _
  (repeat' (first|exact Below.refl _ _|exact Nat.le_refl _|refine Below.setCell ?_ ?_ _|refine Below.alloc ?_ ?_ _|refine below_drewN ?_ _|refine Below.drew ?_ | (simp;done) | (simp;omega)))
 go_enter Tryz.func192,Tryz.ntmps192
 go_wp2_with fail
 go_loopg [6,7] xs.length (fun gk v i wr=>∃k:Nat,gk+k=xs.length/\i=.int .i64 k/\Hid (Zau wr w.heap.size u)/\Hid (Zaa (w.heap.size+1) wr v (Ve.upto (Ta.dv xs u) k))/\Hid (∀j,j<k->(Ta.dv xs u j).2=true)/\Hid (Below w.heap.size w wr))
 case atStart=>exact⟨0,by omega,rfl,HU1,HO1,fun j hj=>absurd hj (by omega),HB1⟩
 case round=>
  obtain⟨k,hk,rfl,hU,hO,hA,hB⟩:=hrel
  by_cases hlt:k<xs.length
  ·obtain⟨b1,o1,rfl,l1,p0,p1⟩:=(H1.out.below hB.out).at k hlt
   obtain⟨u0,u1,-,-⟩:=hU.out.four;have hsz:=hB.out.size;have hul:=hU.out.lt;have HQ:Hid (Quad b1 (o1+k*2) w.heap.size 0 (Ve.at_ xs k) u wr):=⟨p0,p1,u0,u1,by omega,by omega⟩;have hin:=Since.refl wr;have HS:=zH (show Ta.dv xs u k=(Ta.divR (Ve.at_ xs k) u,Ta.divK (Ve.at_ xs k) u) from rfl);have Hj:=zH hk;clear hk;generalize Ve.at_ xs k=x at *
   go_upto_region 5 with (fail)
   go_cut [8,9] (fun p b wx=>Got wr (Ta.divR x u).1 (Ta.divR x u).2 (Ta.divK x u) p b wx)
   case first=>
    go_region_held3 (fun w'=>w'.cell? ⟨b1,o1+k*2,none⟩=some (.int .i64 x.1)/\w'.cell? ⟨b1,o1+k*2+1,none⟩=some (.int .i64 x.2)/\w'.cell? ⟨w.heap.size,0,none⟩=some (.int .i64 u.1)/\w'.cell? ⟨w.heap.size,1,none⟩=some (.int .i64 u.2)/\Since wr w') (first|exact Quad.five HQ (by assumption) | exact Quad.five HQ (Since.drew (by assumption)) | exact Quad.five HQ (Own2.since (by assumption)) | exact Quad.five HQ (Since.drew (Own2.since (by assumption))) | exact Quad.five HQ (Since.alloc (by assumption) _) | exact Quad.five HQ (Since.drew (Since.alloc (by assumption) _)) | exact Quad.five HQ (Own2.set2 (by assumption) _ _) | exact Quad.five HQ (Since.drew (Own2.set2 (by assumption) _ _)))
     (first | (go_at_call 77;refine (Zcn (Zkb x u _) (B:=wr) (x:=.int .i64 0) (y:=.int .i64 0) (t:=31) (by first|assumption|exact Own2.drew (by assumption) | exact Since.new (by assumption) _ _ _|exact Own2.drew (Since.new (by assumption) _ _ _))).mono ?_;rintro e w' ⟨⟨rfl,_⟩,hin3⟩;obtain⟨z0,z1,f0,f1⟩:=Own2.own hin3) | (go_at_call 77;refine (Za9 (Zkb x u _) (B:=wr) (by first|assumption|exact Since.drew (by assumption))).mono ?_;rintro e w' ⟨⟨rfl,_⟩,hin2⟩))
    all_goals
     go_wp2_with fail
     go_meet
     first
     | exact Got.last (by assumption) _ _ _ _
     | exact Got.set (by assumption) _ _ _
     | exact Got.drew (Got.last (by assumption) _ _ _ _)
     | exact Got.drew (Got.set (by assumption) _ _ _)
   case rest=>
    obtain⟨wf,rfl⟩:∃wf:World,wf=wc:=⟨_,rfl⟩;obtain⟨q2,rfl,rfl,n0,n1,hq2,hq2h,hs2⟩:=hcut;have HB2:=zH (hB.out.trans (hs2.low.mono hsz));have HU2:=zH (hU.out.below hs2.low);have HO2:=zH (hO.out.below hs2.low);clear hs2 p0 p1 u0 u1 hin HQ hq2 hq2h hU hO hB;generalize Ta.divR x u=A at *;generalize Ta.divK x u=ak at *;cases ak with
    | false=>
     have hE0:Ta.dvK xs u=false:=Ve.Zkk (n:=xs.length) hlt (show (Ta.dv xs u k).2=false by rw[HS.out]);have HE1:Hid ([]=D):=by show _=_;rw[<-HD.out];unfold Ta.dvR;exact (Ve.Zs1 hE0).symm
     have HE2:Hid (false=K):=by show _=_;rw[<-HK.out,hE0]
     clear hE0
     go_wp2_with fail
     go_ret2
     refine⟨_,Zc6 HE2.out,?_,HB2.out.alloc HB2.out.size _⟩;rw[<-HE1.out];exact World.ownsRow_made _ #[] 0 HB2.out.size (Nat.zero_le _) rfl
    | true=>
     have hsz2:=HB2.out.size;have hlen:=Nat.le_of_eq (Ve.Zb6 (Ta.dv xs u) k);have Hown:Hid (Zaa (w.heap.size+1) (wf.alloc (.cells #[.int .i64 A.1,.int .i64 A.2] 31)) _ _):=Zaa.alloc HO2.out (.cells #[.int .i64 A.1,.int .i64 A.2] 31);have He:=zH (show Ve.upto (Ta.dv xs u) (k+1)=Ve.upto (Ta.dv xs u) k++[A] by rw[Ve.Ziw,HS.out]);have HA2:Hid (∀j,j<k+1->(Ta.dv xs u j).2=true):=fun j hj=>by
      by_cases e:j=k
      ·subst e;rw[HS.out]
      ·exact hA.out j (by omega)
     have Hone:=zH (Zb2 wf A);generalize Ve.upto (Ta.dv xs u) k=zs at *
     go_wp2_with (at_builtin;refine Zaj rfl _ _ rfl (w.heap.size+1) _ zs rfl Hown.out _ [A] 1 1 rfl rfl _ Hone.out (by simp;omega) (by rw[Zar];have:=HU2.out.lt;omega) ?_)
     intro v' w1 hown' hgrow;have hne:=World.ownsRow.lt Hown.out;have Ho1:=zH hown';have Hb1:=zH ((HB2.out.alloc hsz2 (.cells #[.int .i64 A.1,.int .i64 A.2] 31)).grown hgrow (by simp;omega) (fun g hg=>by have:=(hne g hg).1;omega));have Hu1:Hid (Zau w1 w.heap.size u):=(hgrow.block w.heap.size ((HU2.out.alloc _).lt) (fun e=>by have:=(hne w.heap.size e.symm).1;omega)).trans (HU2.out.alloc _);rw[<-He.out] at Ho1;clear hown' hgrow hne
     go_wp2_with fail
     go_roundg (gk-1)
     case measure=>have:=Hj.out;omega
     case rel=>exact⟨k+1,by have:=Hj.out;omega,by go_num,Hu1,Ho1,HA2,Hb1⟩
  ·have he:k=xs.length:=by omega
   have HE:Hid (Ve.upto (Ta.dv xs u) k=D/\true=K):=by
    have h4:Ta.dvK xs u=true:=by
     unfold Ta.dvK Ve.allK;rw[List.all_eq_true];exact fun j hj=>hA.out j (by rw[he];simpa using hj)
    have h5:Ta.dvR xs u=Ve.upto (Ta.dv xs u) xs.length:=Ve.Zds h4;rw[HD.out] at h5;rw[HK.out] at h4;rw[he];exact⟨h5.symm,h4.symm⟩
   clear he
   go_wp2_with fail
   go_ret2
   exact⟨_,Zc6 HE.out.2,(by rw[<-HE.out.1];exact hO.out.lower (Nat.le_succ _)),hB.out⟩
theorem Zlf (x a b:Int) (r:Bool) (h:decide (a≤x/\x≤b)=r) (w:World):Calls Tryz.prog 76 #[.int .i64 x,.int .i64 a,.int .i64 b] w fun e w'=>e=.returned (.bool r)/\w'=w:=(Za0 x a b r h w).mono fun _ _ ⟨h1,h2⟩=>⟨h1,h2.symm⟩
theorem Zc4.drewN {B:Nat} {w:World} {a b:Option Addr} {t:T} (h:Zc4 B w a b t) (d:Nat):Zc4 B (w.drewN d) a b t:=⟨h.mR,h.mB⟩
theorem Zwu (t:T) (k:Nat):Ta.row t k=rr t.rows k:=rfl
theorem Zf3 (B:Nat) (a b:Option Addr) (c1 c2:Nat) (t:T) (hn:Zca t) (g:Bool) (hg:Ta.good t=g) (w:World) (hBw:B≤w.heap.size) (hz:Zc4 B w a b t) :
  Calls Tryz.prog 75 #[tabV a b c1 c2 t] w fun e w'=>e=.returned (.bool g)/\Below w.heap.size w w':=by
 obtain⟨nr,nw,nb,_⟩:=hn;have hb:=(Below.refl w.heap.size w).alloc (Nat.le_refl _) (.cells #[.slice a t.rows.length c1,.slice b t.basis.length c2,.int .i64 t.cols] 39);have hx:=Tri.new w (.slice a t.rows.length c1) (.slice b t.basis.length c2) (.int .i64 t.cols) 39;have Hz:=zH ((hz.mono hBw).below hb);have Hb:=zH hb;have Hx:=zH hx;have Hg:=zH hg;have HW:=zH nw;rw[show tabV a b c1 c2 t=.agg #[.slice a t.rows.length c1,.slice b t.basis.length c2,.int .i64 t.cols] from rfl];obtain⟨L,B1,C⟩:=t;simp only at nr nb;clear hz hb hx hg nw
 by_cases q0:C<0
 ·have Hr:=zH (show false=g by rw[<-Hg.out];unfold Ta.good;simp only;rw[decide_eq_false (by omega:¬0≤C)];rfl)
  have hd:decide (C<0)=true:=by rw[decide_eq_true_iff];exact q0
  go_enter Tryz.func75,Tryz.ntmps75
  go_wp2_with fail
  go_ret;exact⟨Zae Hr.out,Hb.out⟩
 ·have hd:decide (C<0)=false:=by rw[decide_eq_false_iff_not];exact q0
  by_cases q1:C≤1000
  ·have hd1:decide (C>1000)=false:=by rw[decide_eq_false_iff_not];omega
   by_cases q2:B1.length=L.length
   ·have hd2:((B1.length:Int) != (L.length:Int))=false:=by rw[q2];simp
    have Hq2:=zH q2;clear q2;have hs1:IntKind.i64.wrap (C+(L.length:Int))=C+(L.length:Int):=IntWalk.i64_in _ (by omega);have hs2:IntKind.i64.wrap (C+(L.length:Int)+1)=C+(L.length:Int)+1:=IntWalk.i64_in _ (by omega);have hs3:IntKind.i64.wrap (C+(L.length:Int)-1)=C+(L.length:Int)-1:=IntWalk.i64_in _ (by omega);have S1:=zH hs1;have S2:=zH hs2;have S3:=zH hs3;clear hs1 hs2 hs3
    go_enter Tryz.func75,Tryz.ntmps75
    go_wp2_with fail
    go_loopw [4] (fun i wr=>∃k:Nat,k≤L.length/\i=.int .i64 k/\Hid (∀j,j<k->Ta.rowOk ⟨L,B1,C⟩ j=true)/\Hid (∃d,wr=(w.alloc (.cells #[.slice a L.length c1,.slice b B1.length c2,.int .i64 C] 39)).drewN d)) (fun i _=>L.length-(intOf i).toNat)
    case atStart=>exact⟨0,Nat.zero_le _,rfl,fun j hj=>absurd hj (by omega),0,rfl⟩
    case round=>
     obtain⟨k,hk,rfl,hOk,hD⟩:=hrel;have hxr:Tri wr w.heap.size (.slice a L.length c1) (.slice b B1.length c2) (.int .i64 C) 39:=by obtain⟨d,rfl⟩:=hD.out;exact Hx.out
     have hzr:Zc4 w.heap.size wr a b ⟨L,B1,C⟩:=by obtain⟨d,rfl⟩:=hD.out;exact Hz.out.drewN d
     have hbr:Below w.heap.size w wr:=by obtain⟨d,rfl⟩:=hD.out;exact below_drewN Hb.out d
     have Hbr:=zH hbr;obtain⟨x0,x1,x2,_⟩:=hxr.cells
     by_cases hlt:k<L.length
     ·obtain⟨b1,o1,a',c',rfl,_,hcell,_⟩:=hzr.mR k hlt
      obtain⟨b2,o2,rfl,_,hbas⟩:=hzr.mB k (by have:=Hq2.out;simp only;omega);have hkb:(k:Int)<(B1.length:Int):=by have:=Hq2.out;omega
      have hkb2:(k:Int)<(L.length:Int):=by omega
      have hkb3:(0:Int)≤(k:Int):=by omega
      have hrl:=HW.out k hlt;simp only at hcell hbas hrl;have Hdef:=zH (show Ta.rowOk ⟨L,B1,C⟩ k=(decide (((rr L k).length:Int)=C+L.length+1) && decide (0≤B1.getD k 0/\B1.getD k 0≤C+L.length-1)) from rfl);have Hbad:=zH (fun (h:Ta.rowOk ⟨L,B1,C⟩ k=false)=>(show false=g from (Ta.Zq5 (t:=⟨L,B1,C⟩) hlt h).symm.trans Hg.out));have Hgood:=zH (fun (h:Ta.rowOk ⟨L,B1,C⟩ k=true)=>(fun j (hj:j<k+1)=>(show Ta.rowOk ⟨L,B1,C⟩ j=true from by
       by_cases e:j=k
       ·subst e;exact h
       ·exact hOk.out j (by omega))))
      clear hxr hzr hbr;generalize B1.getD k 0=z at *;generalize (rr L k).length=m at *
      by_cases hl:(m:Int)=C+L.length+1
      ·have hne:((m:Int) != C+(L.length:Int)+1)=false:=by rw[hl];simp
       rcases hq:decide (0≤z/\z≤C+(L.length:Int) - 1) with _|_
       ·have Hr:=zH (Hbad.out (by rw[Hdef.out,hq];simp))
        have Hq:=zH hq;clear hq Hbad Hgood Hdef hl
        go_wp2_with fail
        have e1:=S1.out;have e2:=S2.out;have e3:=S3.out
        go_quiet (first | (go_at_call 76;exact Calls.quiet_of_same (Zlf z 0 (C+(L.length:Int)-1) false Hq.out _)))
        clear e1 e2 e3
        go_wp2_with fail
        go_ret;exact⟨Zae Hr.out,below_drewN Hbr.out nq⟩
       ·have HOk2:=zH (Hgood.out (by rw[Hdef.out,hq,hl];simp))
        have Hq:=zH hq;clear hq Hbad Hgood Hdef hl
        go_wp2_with fail
        have e1:=S1.out;have e2:=S2.out;have e3:=S3.out
        go_quiet (first | (go_at_call 76;exact Calls.quiet_of_same (Zlf z 0 (C+(L.length:Int)-1) true Hq.out _)))
        clear e1 e2 e3
        go_wp2_with fail
        go_roundw
        case rel=>exact⟨k+1,by omega,by go_num,HOk2,by obtain⟨d,rfl⟩:=hD.out;exact⟨d+nq,by simp[Nat.add_comm]⟩⟩
        case measure=>simp[intOf];omega
      ·have hne:((m:Int) != C+(L.length:Int)+1)=true:=by rw[bne,beq_eq_false_iff_ne.2 hl];rfl
       have Hr:=zH (Hbad.out (by rw[Hdef.out];simp[hl]));clear Hbad Hgood Hdef hl
       go_wp2_with fail
       have e1:=S1.out;have e2:=S2.out
       go_quiet (fail)
       clear e1 e2
       go_wp2_with fail
       go_ret;exact⟨Zae Hr.out,below_drewN Hbr.out nq⟩
     ·have Hr:=zH (show true=g by rw[<-Hg.out];exact (Ta.Znw (t:=⟨L,B1,C⟩) (by show 0≤C;omega) q1 Hq2.out fun j hj=>hOk.out j (by simp only at hj;omega)).symm)
      clear hxr hzr hbr
      go_wp2_with fail
      go_ret;exact⟨Zae Hr.out,Hbr.out⟩
   ·have Hr:=zH (show false=g by rw[<-Hg.out];unfold Ta.good;simp[q2])
    obtain⟨l1,l2⟩:=Zfq q2
    go_enter Tryz.func75,Tryz.ntmps75
    go_wp2_with fail
    go_ret;exact⟨Zae Hr.out,Hb.out⟩
  ·have hd1:decide (C>1000)=true:=by rw[decide_eq_true_iff];omega
   have Hr:=zH (show false=g by rw[<-Hg.out];unfold Ta.good;simp only;rw[decide_eq_false q1];simp)
   go_enter Tryz.func75,Tryz.ntmps75
   go_wp2_with fail
   go_ret;exact⟨Zae Hr.out,Hb.out⟩
theorem Zg1 {w:World} {ops:Array Oper} {o:Oper} {a:Act} {K:Act->World->Prop} {Q:Exit->Act->World->Prop} {E:Prop} (hgd:o.guard=none) (s x:Operand)
  (hop:o.op=Op.call { callee:=Callee.builtin Builtin.append,args:=#[s,x],argTypes:=#[37,37] }) (B:Nat) (v:Value) (L:List (List R)) (hs:a.eval s=v) (hown:Zbt B w v L) (q:Nat) (u:Value) (r:List R) (hx:a.eval x=.slice (some ⟨q,0,none⟩) 1 1)
  (hq:w.cell? ⟨q,0,none⟩=some u) (hu:Zaa B w u r) (hlen:L.length≤4000000) (hB:B≤w.heap.size) (hK:∀v' w',Zbt B w' v' (L++[r])->w.grownBy w' v.ownBlock->K (a.put o.dst v') w'):if Region.wanted o (yielded ops a.tmps)=true then Oper.wp Tryz.prog o a w K Q else E:=by
 have hw:Region.wanted o (yielded ops a.tmps)=true:=by simp[Region.wanted,hgd]
 rw[if_pos hw];obtain⟨i0,hi,hz0,hz1,hz2⟩:=info_parts Zle;obtain⟨vs,h1,h2⟩:=hown;refine wp_append_own w s x 37 hop B 26 i0 (.slice none 0 0) 1 24 Tryz.underlying37 hi hz0 hz1 hz2 rfl (by decide) v L.length vs hs h1 ⟨q,0,none⟩ 1 1 [u] hx rfl ?_ ?_ (by unfold maxLen;omega) (by omega) hB ?_
 ·intro j u' hj
  match j with
  | 0=>simp at hj;subst hj;simpa [Addr.add] using hq
  | j+1=>simp at hj
 ·intro u' hu'
  simp at hu';subst hu';obtain⟨a',c',rfl,_⟩:=Zai hu;rfl
 ·intro v' w' h3 h4 _
  exact hK v' w' (Zbt.snoc h1 h2 hu h3 h4) h4
theorem Zbt.apart {B:Nat} {w:World} {v:Value} {L:List (List R)} (h:Zbt B w v L):∀g,v.ownBlock=some g->B≤g/\g<w.heap.size:=by
 obtain⟨vs,h1,_⟩:=h;exact World.ownsRow.lt h1
end Go.Proofs.YtlohljkfphljgaaGreat
