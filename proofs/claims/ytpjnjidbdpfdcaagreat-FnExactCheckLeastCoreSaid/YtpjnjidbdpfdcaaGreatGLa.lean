/- The parts Mat, Mat2, LpA. -/
import Derived.Test.YtpjnjidbdpfdcaaGreatGK
import Derived.Test.YtpjnjidbdpfdcaaGreatGVa
import Derived.Test.YtpjnjidbdpfdcaaGreatGrI
import Derived.Test.YtpjnjidbdpfdcaaGreatGM
namespace Go.Proofs.YtpjnjidbdpfdcaaGreat
open Go.RowKit
open Ve (R)
def rw_ (L:List (List Int)) (k:Nat):List Int:=L.getD k []
def Zdc (B:Nat) (w:World) (a:Option Addr) (L:List (List Int)):Prop:=
 ∀j,j<L.length->∃(b o:Nat) (a':Option Addr) (c':Nat),a=some ⟨b,o,none⟩/\b<B/\w.cell? ⟨b,o+j,none⟩=some (.slice a' (rw_ L j).length c')/\Zal B w a' (rw_ L j)
theorem Zdc.below {B:Nat} {w w':World} {a:Option Addr} {L:List (List Int)} (h:Zdc B w a L) (hb:Below B w w'):Zdc B w' a L:=fun j hj=>by
 obtain⟨b,o,a',c',h1,h2,h3,h4⟩:=h j hj;exact⟨b,o,a',c',h1,h2,by rw[hb.cell (p:=⟨b,o+j,none⟩) h2];exact h3,h4.below hb⟩
theorem Zdc.mono {B B':Nat} {w:World} {a:Option Addr} {L:List (List Int)} (h:Zdc B w a L) (hB:B≤B'):Zdc B' w a L:=fun j hj=>by
 obtain⟨b,o,a',c',h1,h2,h3,h4⟩:=h j hj;exact⟨b,o,a',c',h1,by omega,h3,h4.mono hB⟩
theorem Zdc.drewN {B:Nat} {w:World} {a:Option Addr} {L:List (List Int)} (h:Zdc B w a L) (d:Nat):Zdc B (w.drewN d) a L:=h
def cellsOf:List (List Int)->Nat
 | []=>0
 | r::L=>r.length+cellsOf L
theorem Zio (L:List (List Int)) (k:Nat) (h:k<L.length):(rw_ L k).length≤cellsOf L:=by
 induction L generalizing k with
 | nil=>simp at h
 | cons r L ih=>
  cases k with
  | zero=>simp[cellsOf,rw_]
  | succ k=>
   have:=ih k (by simpa using h);have e:rw_ (r::L) (k+1)=rw_ L k:=by simp[rw_]
   rw[e];simp only[cellsOf];omega
def Lens (L:List (List Int)):Prop:=∀k,k<L.length->(rw_ L k).length≤9223372036854775807
def Zlb (lo hi:Nat) (w:World) (vs:List Value) (L:List (List Int)) (k:Nat):Prop:=
 (∀j,j<k->∃v,vs[j]? = some v/\Zab lo w v (rw_ L j)/\∀b,v.ownBlock=some b->b<hi)/\∀i j v v' b,i<j->j<k->vs[i]? = some v->vs[j]? = some v'->v.ownBlock=some b->v'.ownBlock≠some b
def Zbx (lo hi:Nat) (w:World) (v:Value) (L:List (List Int)):Prop:=
 ∃(g n:Nat) (vs:List Value),v=.slice (some ⟨g,0,none⟩) L.length n/\g<hi/\w.ownsRow lo 22 1 (.slice (some ⟨g,0,none⟩) L.length n) L.length vs/\Zlb (g+1) hi w vs L L.length
theorem Zbx.same {lo hi:Nat} {w w':World} {v:Value} {L:List (List Int)} (h:Zbx lo hi w v L) (hs:∀k,lo≤k->k<hi->k<w.heap.size->w'.heap[k]? = w.heap[k]?):Zbx lo hi w' v L:=by
 obtain⟨g,n,vs,rfl,hgh,h1,h2,h3⟩:=h;have hg:=World.ownsRow.lt h1 g rfl;refine⟨g,n,vs,rfl,hgh,Zan h1 fun b hb=>?_,fun j hj=>?_,h3⟩
 ·obtain rfl:g=b:=by simpa [Value.ownBlock] using hb
  exact hs g hg.1 hgh hg.2
 ·obtain⟨v,e,ho,hb⟩:=h2 j hj
  refine⟨v,e,ho.same fun b hb2=>?_,hb⟩;have:=World.ownsRow.lt ho b hb2;exact hs b (by omega) (hb b hb2) this.2
theorem Zbx.below {lo hi:Nat} {w w':World} {v:Value} {L:List (List Int)} (h:Zbx lo hi w v L) (hb:Below w.heap.size w w'):Zbx lo hi w' v L:=
 h.same fun k _ _ hk=>hb.block k hk
theorem Zbx.turned {lo hi l2 h2:Nat} {w w':World} {v:Value} {L:List (List Int)} (h:Zbx lo hi w v L) (ht:Turned l2 h2 w w') (ha:hi≤l2\/h2≤lo):Zbx lo hi w' v L:=
 h.same fun k h1 h2 hk=>ht.block k hk (by omega)
theorem Zbx.wider {lo hi lo' hi':Nat} {w:World} {v:Value} {L:List (List Int)} (h:Zbx lo hi w v L) (h1:lo'≤lo) (h2:hi≤hi'):Zbx lo' hi' w v L:=by
 obtain⟨g,n,vs,rfl,hgh,k1,k2,k3⟩:=h;have hr:w.ownsRow lo' 22 1 (.slice (some ⟨g,0,none⟩) L.length n) L.length vs:=by
  obtain⟨e1,e2|⟨g',cap,cur,e,hg,rest⟩⟩:=k1
  ·exact⟨e1,.inl e2⟩
  ·exact⟨e1,.inr ⟨g',cap,cur,e,by omega,rest⟩⟩
 exact⟨g,n,vs,rfl,by omega,hr,fun j hj=>by
  obtain⟨v,e,ho,hb⟩:=k2 j hj;exact⟨v,e,ho,fun b hb2=>by have:=hb b hb2;omega⟩,k3⟩
theorem Zbx.reads {lo hi:Nat} {w:World} {v:Value} {L:List (List Int)} (h:Zbx lo hi w v L) :
  ∃(a:Option Addr) (cap:Nat),v=.slice a L.length cap/\Zdc hi w a L:=by
 obtain⟨g,n,vs,rfl,hgh,h1,h2,h3⟩:=h;have hg:=World.ownsRow.lt h1 g rfl;refine⟨_,_,rfl,fun j hj=>?_⟩;obtain⟨v,e,ho,hb⟩:=h2 j hj;obtain⟨a,cap,rfl,hr,ha,hne⟩:=Zbb ho;refine⟨g,0,a,cap,rfl,hgh,?_,fun i hi2=>?_⟩
 ·rw[Nat.zero_add,World.ownsRow.cellAt h1 j (by omega)]
  exact e
 ·obtain⟨b,o,e1,e2,e3⟩:=Zal.Zdl (B:=w.heap.size) hr (fun p hp=>(ha p hp).2) i hi2
  exact⟨b,o,e1,hb b (by rw[e1];rfl),e3⟩
theorem Zl4:(Tryz.prog.info? 22).map (fun i=>(i.zero,i.size,i.bytes))=some (some (.slice none 0 0),1,24):=by kernel_rfl
def Zq3 (L:List (List Int)) (w:World) (e:Ending) (w':World):Prop:=∃v,e=.returned v/\Zbx w.heap.size w'.heap.size w' v L/\Below w.heap.size w w'
def Zim (B g n k:Nat) (wr:World) (L:List (List Int)):Prop:=
 ∃vs:List Value,wr.ownsRow B 22 1 (.slice (some ⟨g,0,none⟩) n n) n vs/\Zlb (g+1) wr.heap.size wr vs L k
theorem Zim.kept {B g n k:Nat} {w w':World} {L:List (List Int)} (h:Zim B g n k w L) (hb:Below w.heap.size w w'):Zim B g n k w' L:=by
 obtain⟨vs,h1,h2,h3⟩:=h;exact⟨vs,Zan h1 fun b hg=>hb.block b (World.ownsRow.lt h1 b hg).2,fun j hj=>by
  obtain⟨v,e,ho,hlt⟩:=h2 j hj;exact⟨v,e,ho.below hb,fun b h=>Nat.lt_of_lt_of_le (hlt b h) hb.size⟩,h3⟩
theorem Zab.raise {B B':Nat} {w:World} {v:Value} {xs:List Int} (h:Zab B w v xs) (hB:B'≤B):Zab B' w v xs:=by
 obtain⟨h1,h2|⟨g,cap,cur,e,hg,rest⟩⟩:=h
 ·exact⟨h1,.inl h2⟩
 ·exact⟨h1,.inr ⟨g,cap,cur,e,by omega,rest⟩⟩
open Lp (P)
structure LpIn (B:Nat) (w:World) (a b c:Option Addr) (p:P):Prop where
 mA:Zdc B w a p.A
 mB:Zal B w b p.B
 mC:Zah B w c p.C
theorem LpIn.below {B:Nat} {w w':World} {a b c:Option Addr} {p:P} (h:LpIn B w a b c p) (hb:Below B w w'):LpIn B w' a b c p:=⟨h.mA.below hb,h.mB.below hb,h.mC.below hb⟩
theorem LpIn.mono {B B':Nat} {w:World} {a b c:Option Addr} {p:P} (h:LpIn B w a b c p) (hB:B≤B'):LpIn B' w a b c p:=⟨h.mA.mono hB,h.mB.mono hB,h.mC.mono hB⟩
theorem LpIn.drewN {B:Nat} {w:World} {a b c:Option Addr} {p:P} (h:LpIn B w a b c p) (d:Nat):LpIn B (w.drewN d) a b c p:=⟨h.mA,h.mB,h.mC⟩
def lpN (p:P):Nat:=p.A.length+cellsOf p.A+p.B.length+p.C.length
def Zru (p:P):Prop:=p.A.length≤9223372036854775807/\Lens p.A/\p.B.length≤9223372036854775807/\p.C.length≤9223372036854775807
structure Zct (p:P):Prop where
 A:p.A.length≤1048576
 row:∀k,k<p.A.length->(rw_ p.A k).length≤1048576
 B:p.B.length≤1048576
 C:p.C.length≤1048576
 marks:1+cellsOf p.A+p.B.length≤1048577
 markA:1+cellsOf p.A≤1048576
theorem Zl8 {p:P} (h:lpN p≤1048576):Zct p:=by
 unfold lpN at h;refine⟨by omega,fun k hk=>by have:=Zio p.A k hk;omega,by omega,by omega,by omega,?_⟩;obtain⟨A,Bv,Cv⟩:=p
 rcases A with _|⟨r,L⟩
 ·simp[cellsOf]
 ·simp only[List.length_cons] at h;simp only;omega
structure Zdd (lo hi:Nat) (w:World) (v:Value) (p:P):Prop where
 ex:∃(m1 m2:Nat) (vA vB vC:Value),v=.agg #[vA,vB,vC]/\lo≤m1/\m1≤m2/\m2≤hi/\hi≤w.heap.size/\Zbx lo m1 w vA p.A/\(Zab m1 w vB p.B/\∀g,vB.ownBlock=some g->g<m2)/\(Zad m2 w vC p.C/\∀g,vC.ownBlock=some g->g<hi)
theorem Zdd.below {lo hi:Nat} {w w':World} {v:Value} {p:P} (h:Zdd lo hi w v p) (hb:Below w.heap.size w w'):Zdd lo hi w' v p:=by
 obtain⟨m1,m2,vA,vB,vC,rfl,h1,h2,h3,h4,hA,⟨hB,kB⟩,hC,kC⟩:=h;exact⟨m1,m2,vA,vB,vC,rfl,h1,h2,h3,Nat.le_trans h4 hb.size,hA.below hb,⟨hB.below hb,kB⟩,hC.below hb,kC⟩
theorem Zdd.reads {lo hi:Nat} {w:World} {v:Value} {p:P} (h:Zdd lo hi w v p) :
  ∃(a b c:Option Addr) (c1 c2 c3:Nat),v=.agg #[.slice a p.A.length c1,.slice b p.B.length c2,.slice c p.C.length c3]/\LpIn hi w a b c p/\hi≤w.heap.size:=by
 obtain⟨m1,m2,vA,vB,vC,rfl,h1,h2,h3,h4,hA,⟨hB,kB⟩,hC,kC⟩:=h;obtain⟨a,c1,rfl,rA⟩:=hA.reads;obtain⟨b,c2,rfl,rB,pB,_⟩:=Zbb hB;obtain⟨c,c3,rfl,rC,pC,_⟩:=Za1 hC;refine⟨a,b,c,c1,c2,c3,rfl,⟨rA.mono (by omega),Zal.Zdl rB fun q hq=>?_,rC.narrow fun q hq=>kC q.block (by rw[hq];rfl)⟩,h4⟩;have:=kB q.block (by rw[hq];rfl);omega
def Tri (w:World) (q:Nat) (x y z:Value) (t:TypeId):Prop:=w.heap[q]? = some (.cells #[x,y,z] t)
theorem Tri.cells {w:World} {q:Nat} {x y z:Value} {t:TypeId} (h:Tri w q x y z t) :
  w.cell? ⟨q,0,none⟩=some x/\w.cell? ⟨q,1,none⟩=some y/\w.cell? ⟨q,2,none⟩=some z/\w.frozen? ⟨q,0,none⟩=false/\w.frozen? ⟨q,1,none⟩=false/\w.frozen? ⟨q,2,none⟩=false:=by
 unfold Tri at h;simp[World.cell?,World.frozen?,h]
theorem Tri.below {w w':World} {q:Nat} {x y z:Value} {t:TypeId} (h:Tri w q x y z t) (hb:Below w.heap.size w w'):Tri w' q x y z t:=(hb.block q (Zag h)).trans h
theorem Tri.new (w:World) (x y z:Value) (t:TypeId):Tri (w.alloc (.cells #[x,y,z] t)) w.heap.size x y z t:=by show (w.heap.push _)[w.heap.size]? = _;simp
theorem Tri.more {w:World} {q:Nat} {x y z:Value} {t:TypeId} (h:Tri w q x y z t) (o:Obj):Tri (w.alloc o) q x y z t:=by
 have hl:=Zag h;show (w.heap.push _)[q]? = _;rw[Array.getElem?_push_lt hl,<-Array.getElem?_eq_getElem hl];exact h
theorem Tri.other {w:World} {q:Nat} {x y z:Value} {t:TypeId} (h:Tri w q x y z t) {p:Addr} (hp:p.block≠q) (u:Value):Tri (w.setCell p u) q x y z t:=by
 obtain⟨b,o,sp⟩:=p;show (w.setCell _ u).heap[q]? = _;rw[Below.heap_setCell _ _ _ _ (fun e=>hp e.symm)];exact h
theorem Tri.set0 {w:World} {q:Nat} {x y z:Value} {t:TypeId} (h:Tri w q x y z t) (u:Value):Tri (w.setCell ⟨q,0,none⟩ u) q u y z t:=by
 show (w.heap.modify q _)[q]? = _;rw[Array.getElem?_modify,show w.heap[q]? = _ from h];simp
theorem Tri.set1 {w:World} {q:Nat} {x y z:Value} {t:TypeId} (h:Tri w q x y z t) (u:Value):Tri (w.setCell ⟨q,1,none⟩ u) q x u z t:=by
 show (w.heap.modify q _)[q]? = _;rw[Array.getElem?_modify,show w.heap[q]? = _ from h];simp
theorem Tri.set2 {w:World} {q:Nat} {x y z:Value} {t:TypeId} (h:Tri w q x y z t) (u:Value):Tri (w.setCell ⟨q,2,none⟩ u) q x y u t:=by
 show (w.heap.modify q _)[q]? = _;rw[Array.getElem?_modify,show w.heap[q]? = _ from h];simp
end Go.Proofs.YtpjnjidbdpfdcaaGreat
