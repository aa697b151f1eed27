/- The parts Ix, LpAp, LpV, LkLp, LkLpr. -/
import Derived.Test.YtjfnleilddgjiaaGreatHGrI
import Derived.Test.YtjfnleilddgjiaaGreatHGmB
import Derived.Test.YtjfnleilddgjiaaGreatHGmA
import Derived.Maps.AppendAt
import Derived.Test.YtjfnleilddgjiaaGreatHPyP
import Derived.Test.YtjfnleilddgjiaaGreatGM
import Derived.Deep.RegionHeld3
import Derived.Test.YtjfnleilddgjiaaGreatHPyA
import Derived.Test.YtjfnleilddgjiaaGreatGVa
namespace Go.Proofs.YtjfnleilddgjiaaGreat
open Go.RowKit
theorem Ze3:3≠22:=by decide
theorem Z3q {L:List (List Int)} {j:Nat} {x:List Int} (h:L[j]? = some x):rw_ L j=x:=by
 unfold rw_;rw[List.getD_eq_getElem?_getD,h];rfl
theorem Zl5 {L:List (List Int)} {j:Nat} {x:List Int} (h:j<L.length):rw_ (L.set j x) j=x:=Z3q (by simp[h])
theorem Zqi {L:List (List Int)} {i j:Nat} {x:List Int} (h:i≠j):rw_ (L.set j x) i=rw_ L i:=by
 unfold rw_;rw[List.getD_eq_getElem?_getD,List.getD_eq_getElem?_getD,List.getElem?_set_ne (fun e=>h e.symm)]
theorem Zr7 {L:List (List Int)} {j:Nat} {x:List Int} (h:j<L.length):rw_ (L++[x]) j=rw_ L j:=by
 unfold rw_;rw[List.getD_eq_getElem?_getD,List.getD_eq_getElem?_getD,List.getElem?_append_left h]
theorem Zr6 {L:List (List Int)} {x:List Int}:rw_ (L++[x]) L.length=x:=Z3q (by rw[List.getElem?_append_right (Nat.le_refl _)];simp)
structure Zc7 (lo:Nat) (w:World) (vs:List Value) (L:List (List Int)):Prop where
 len:vs.length=L.length
 own:∀(j:Nat) (u:Value),vs[j]? = some u->Zae lo w u (rw_ L j)
 apart:∀(i j:Nat) (u v:Value),i≠j->vs[i]? = some u->vs[j]? = some v->∀b,u.ownBlock=some b->v.ownBlock≠some b
theorem Zc7.kept {lo:Nat} {w w':World} {vs:List Value} {L:List (List Int)} (h:Zc7 lo w vs L) (hk:∀b,lo≤b->b<w.heap.size->TyAt w b 3->w'.heap[b]? = w.heap[b]?):Zc7 lo w' vs L:=
 ⟨h.len,fun j u e=>Zav (h.own j u e) fun g hg=>hk g (World.ownsRow.lt (h.own j u e) g hg).1 (World.ownsRow.lt (h.own j u e) g hg).2 (Zay (h.own j u e) hg),h.apart⟩
theorem Zc7.grew {lo j:Nat} {w w1:World} {vs:List Value} {u u':Value} {x:List Int} {L:List (List Int)} (h:Zc7 lo w vs L) (hj:vs[j]? = some u) (hu:Zae lo w1 u' x) (hg:w.grownBy w1 u.ownBlock) (hat:u'.ownBlock=u.ownBlock\/u'.ownBlock=some w.heap.size):Zc7 lo w1 (vs.set j u') (L.set j x):=by
 have hjl:j<vs.length:=(List.getElem?_eq_some_iff.1 hj).1;have hl:=h.len;have far:∀(i:Nat) (v:Value),i≠j->vs[i]? = some v->∀b,v.ownBlock=some b->u'.ownBlock≠some b:=fun i v hne e b hb hb2=>by
  rcases hat with hat|hat
  ·rw[hat] at hb2
   exact h.apart i j v u hne e hj b hb hb2
  ·rw[hat] at hb2
   have:=(World.ownsRow.lt (h.own i v e) b hb).2;injection hb2 with hb2
   omega
 have at2:∀(i:Nat) (v:Value),(vs.set j u')[i]? = some v->(i=j/\v=u')\/(i≠j/\vs[i]? = some v):=fun i v e=>by
  by_cases ei:i=j
  ·subst ei
   rw[List.getElem?_set_self hjl] at e;exact .inl ⟨rfl,(Option.some.inj e).symm⟩
  ·rw[List.getElem?_set_ne (fun e=>ei e.symm)] at e
   exact .inr ⟨ei,e⟩
 refine⟨by simpa using hl,fun i v e=>?_,fun i i' u1 u2 hii e1 e2 b hb1 hb2=>?_⟩
 ·rcases at2 i v e with ⟨rfl,rfl⟩ | ⟨hne,e⟩
  ·rw[Zl5 (by omega)]
   exact hu
  ·rw[Zqi hne]
   exact Zav (h.own i v e) fun b hb=>hg.block b (World.ownsRow.lt (h.own i v e) b hb).2 (fun e2=>h.apart i j v u hne e hj b hb e2.symm)
 ·rcases at2 i u1 e1 with ⟨d1,d2⟩ | ⟨hne,k1⟩
  ·rcases at2 i' u2 e2 with ⟨d3,_⟩ | ⟨hne2,k2⟩
   ·exact hii (d1.trans d3.symm)
   ·exact far i' u2 hne2 k2 b hb2 (by rw[<-d2];exact hb1)
  ·rcases at2 i' u2 e2 with ⟨d3,d4⟩ | ⟨hne2,k2⟩
   ·exact far i u1 hne k1 b hb1 (by rw[<-d4];exact hb2)
   ·exact h.apart i i' u1 u2 hii k1 k2 b hb1 hb2
theorem Zc7.snoc {lo:Nat} {w:World} {vs:List Value} {u:Value} {x:List Int} {L:List (List Int)} (h:Zc7 lo w vs L) (hu:Zae lo w u x) (hap:∀(j:Nat) (u1:Value),vs[j]? = some u1->∀b,u1.ownBlock=some b->u.ownBlock≠some b):Zc7 lo w (vs++[u]) (L++[x]):=by
 have hl:=h.len;have two:∀i v0,(vs++[u])[i]? = some v0->(i<L.length/\vs[i]? = some v0)\/(i=L.length/\v0=u):=fun i v0 e=>by
  by_cases hi:i<L.length
  ·rw[List.getElem?_append_left (by omega)] at e
   exact .inl ⟨hi,e⟩
  ·have hlt:=(List.getElem?_eq_some_iff.1 e).1
   simp at hlt;have hi2:i=vs.length:=by omega
   subst hi2;rw[List.getElem?_append_right (Nat.le_refl _)] at e;simp at e;exact .inr ⟨hl,e.symm⟩
 refine⟨by simp[hl],fun i v e=>?_,fun i j u1 u2 hij e1 e2 b hb1 hb2=>?_⟩
 ·rcases two i v e with ⟨hi,e⟩ | ⟨rfl,rfl⟩
  ·rw[Zr7 hi]
   exact h.own i v e
  ·rw[Zr6]
   exact hu
 ·rcases two i u1 e1 with ⟨hi,k1⟩ | ⟨d1,d2⟩
  ·rcases two j u2 e2 with ⟨hj,k2⟩ | ⟨d3,d4⟩
   ·exact h.apart i j u1 u2 hij k1 k2 b hb1 hb2
   ·exact hap i u1 k1 b hb1 (by rw[<-d4];exact hb2)
  ·rcases two j u2 e2 with ⟨hj,k2⟩ | ⟨d3,_⟩
   ·exact hap j u2 k2 b hb2 (by rw[<-d2];exact hb1)
   ·exact hij (d1.trans d3.symm)
def Zbj (lo:Nat) (w:World) (vA vB:Value) (A:List (List Int)) (B:List Int):Prop:=∃vs,w.ownsRow lo 22 1 vA A.length vs/\Zc7 lo w (vB::vs) (B::A)
theorem Zbj.nil (lo:Nat) (w:World):Zbj lo w (.slice none 0 0) (.slice none 0 0) [] []:=by
 refine⟨[],World.ownsRow_nil _ _ _ _,rfl,fun j u e=>?_,fun i j u v hij e1 e2=>?_⟩
 ·match j with
  | 0=>simp at e;subst e;exact World.ownsRow_nil _ _ _ _
  | j+1=>simp at e
 ·match i,j with
  | 0,0=>exact absurd rfl hij
  | 0,j+1=>simp at e2
  | i+1,_=>simp at e1
theorem Zbj.shape {lo:Nat} {w:World} {vA vB:Value} {A:List (List Int)} {B:List Int} (h:Zbj lo w vA vB A B):(∃(a:Option Addr) (c:Nat),vA=.slice a A.length c)/\∃(b:Option Addr) (c:Nat),vB=.slice b B.length c:=by
 obtain⟨vs,⟨_,hs⟩,h2⟩:=h;refine⟨?_,Zau (h2.own 0 vB rfl)⟩;obtain⟨rfl,e⟩ | ⟨g,cap,cur,rfl,_⟩:=hs
 ·exact⟨none,0,by rw[e]⟩
 ·exact⟨_,_,rfl⟩
theorem Zbj.b {lo:Nat} {w:World} {vA vB:Value} {A:List (List Int)} {B:List Int} (h:Zbj lo w vA vB A B):Zae lo w vB B:=by
 obtain⟨vs,_,h2⟩:=h;exact h2.own 0 vB rfl
theorem Zbj.apart {lo:Nat} {w:World} {vA vB:Value} {A:List (List Int)} {B:List Int} (h:Zbj lo w vA vB A B):∀g,vA.ownBlock=some g->lo≤g/\g<w.heap.size/\TyAt w g 22:=by
 obtain⟨vs,h1,_⟩:=h;exact fun g hg=>⟨(World.ownsRow.lt h1 g hg).1,(World.ownsRow.lt h1 g hg).2,Zay h1 hg⟩
theorem Zbj.kept {lo:Nat} {w w':World} {vA vB:Value} {A:List (List Int)} {B:List Int} (h:Zbj lo w vA vB A B) (hk:∀b,lo≤b->b<w.heap.size->(TyAt w b 3\/TyAt w b 22)->w'.heap[b]? = w.heap[b]?):Zbj lo w' vA vB A B:=by
 obtain⟨vs,h1,h2⟩:=h;exact⟨vs,Zav h1 fun g hg=>hk g (World.ownsRow.lt h1 g hg).1 (World.ownsRow.lt h1 g hg).2 (.inr (Zay h1 hg)),h2.kept fun b e1 e2 e3=>hk b e1 e2 (.inl e3)⟩
theorem Zbj.below {lo:Nat} {w w':World} {vA vB:Value} {A:List (List Int)} {B:List Int} (h:Zbj lo w vA vB A B) (hb:Below w.heap.size w w'):Zbj lo w' vA vB A B:=
 h.kept fun b _ h2 _=>hb.block b h2
theorem Zbj.set {lo q i:Nat} {w:World} {vA vB u:Value} {t:TypeId} {A:List (List Int)} {B:List Int} (h:Zbj lo w vA vB A B) (hq:TyAt w q t) (h1:t≠3) (h2:t≠22):Zbj lo (w.setCell ⟨q,i,none⟩ u) vA vB A B:=
 h.kept fun b _ _ hb=>Below.heap_setCell _ _ _ _ (by
  rcases hb with hb|hb
  ·exact fun e=>(TyAt.ne hq hb h1) e.symm
  ·exact fun e=>(TyAt.ne hq hb h2) e.symm)
theorem Zbj.grown {lo:Nat} {w w':World} {vA vB:Value} {row:Option Nat} {t:TypeId} {A:List (List Int)} {B:List Int} (h:Zbj lo w vA vB A B) (hg:w.grownBy w' row) (hr:∀g,row=some g->TyAt w g t) (h1:t≠3) (h2:t≠22):Zbj lo w' vA vB A B:=
 h.kept fun b _ hlt hb=>hg.block b hlt (fun e=>by
  rcases hb with hb|hb
  ·exact (TyAt.ne (hr b e.symm) hb h1) rfl
  ·exact (TyAt.ne (hr b e.symm) hb h2) rfl)
theorem Zbj.raise {lo B':Nat} {w:World} {vA vB:Value} {A:List (List Int)} {B:List Int} (h:Zbj lo w vA vB A B) (hB:B'≤lo):Zbj B' w vA vB A B:=by
 obtain⟨vs,⟨e1,e2⟩,h2⟩:=h;refine⟨vs,⟨e1,?_⟩,h2.len,fun j u e=>(h2.own j u e).raise hB,h2.apart⟩
 rcases e2 with e2|⟨g',cap,cur,e,hg,rest⟩
 ·exact .inl e2
 ·exact .inr ⟨g',cap,cur,e,by omega,rest⟩
theorem Zbj.spot {lo n c j:Nat} {w:World} {a:Option Addr} {vB:Value} {A:List (List Int)} {B:List Int} (h:Zbj lo w (.slice a n c) vB A B) (hj:j<A.length) :
  ∃g u,a=some ⟨g,0,none⟩/\lo≤g/\g<w.heap.size/\w.cell? ⟨g,j,none⟩=some u/\w.frozen? ⟨g,j,none⟩=false/\Zae lo w u (rw_ A j)/\TyAt w g 22:=by
 obtain⟨vs,h1,h2⟩:=h;have hl:vs.length=A.length:=by have:=h2.len;simpa using this
 have h1':=h1;obtain⟨e1,⟨e,h0⟩ | ⟨g,cap,cur,e,hg,hh,hr⟩⟩:=h1'
 ·omega
 ·injection e with e2 e3 e4
  subst e2 e3 e4;have hv:vs[j]? = some vs[j]:=List.getElem?_eq_getElem (by omega);exact⟨g,vs[j],rfl,hg,Zab hh,by rw[World.ownsRow.cellAt h1 j (by omega)];exact hv,World.ownsRow.frozenAt h1 _,h2.own (j+1) _ hv,Zay h1 rfl⟩
theorem Zbj.reads {lo:Nat} {w:World} {vA vB:Value} {A:List (List Int)} {B:List Int} (h:Zbj lo w vA vB A B):∃(a:Option Addr) (cap:Nat),vA=.slice a A.length cap/\Zgh w.heap.size w a A:=by
 obtain⟨a,cap,rfl⟩:=h.shape.1;refine⟨a,cap,rfl,fun j hj=>?_⟩;obtain⟨g,u,rfl,_,hgl,hc,_,ho,_⟩:=h.spot hj;obtain⟨a2,c2,rfl,hr,ha,_⟩:=Zax ho;refine⟨g,0,a2,c2,rfl,hgl,by rw[Nat.zero_add];exact hc,fun i hi=>?_⟩;exact Zas.Zbv (B:=w.heap.size) hr (fun p hp=>(ha p hp).2) i hi
theorem Zbj.Z4p {lo:Nat} {w w1:World} {vA vB v':Value} {x:List Int} {A:List (List Int)} {B:List Int} (h:Zbj lo w vA vB A B) (hu:Zae lo w1 v' x) (hg:w.grownBy w1 vB.ownBlock) (hat:v'.ownBlock=vB.ownBlock\/v'.ownBlock=some w.heap.size):Zbj lo w1 vA v' A x:=by
 obtain⟨vs,h1,h2⟩:=h;refine⟨vs,Zav h1 fun b hb=>hg.block b (World.ownsRow.lt h1 b hb).2 (fun e=>Za1 (h2.own 0 vB rfl) (Zay h1 hb) Ze3 e.symm),?_⟩;exact h2.grew (j:=0) rfl hu hg hat
theorem Zbj.grew {lo g c n j:Nat} {w w1:World} {vB u u':Value} {x:List Int} {A:List (List Int)} {B:List Int} (h:Zbj lo w (.slice (some ⟨g,0,none⟩) n c) vB A B) (hj:j<A.length) (hc:w.cell? ⟨g,j,none⟩=some u) (hu:Zae lo w1 u' x) (hg:w.grownBy w1 u.ownBlock) (hat:u'.ownBlock=u.ownBlock\/u'.ownBlock=some w.heap.size) :
  Zbj lo (w1.setCell ⟨g,j,none⟩ u') (.slice (some ⟨g,0,none⟩) n c) vB (A.set j x) B:=by
 obtain⟨vs,h1,h2⟩:=h;obtain rfl:n=A.length:=by
  obtain⟨_,⟨e,_⟩ | ⟨g',cap,cur,e,_⟩⟩:=h1
  ·cases e
  ·injection e
 have hl:vs.length=A.length:=by have:=h2.len;simpa using this
 have hvj:vs[j]? = some u:=by rw[<-World.ownsRow.cellAt h1 j (by omega)];exact hc
 have h1':w1.ownsRow lo 22 1 (.slice (some ⟨g,0,none⟩) A.length c) A.length vs:=Zav h1 fun b hb=>hg.block b (World.ownsRow.lt h1 b hb).2 (fun e=>Za1 (h2.own (j+1) u hvj) (Zay h1 hb) Ze3 e.symm)
 have h3:=h2.grew (j:=j+1) hvj hu hg hat;have hs:=World.ownsRow.stored h1' j u';refine⟨vs.set j u',by simpa using hs.1,?_⟩;have hty:TyAt w1 g 22:=Zay h1' rfl;exact h3.kept fun b _ _ hb=>Below.heap_setCell _ _ _ _ (fun e=>TyAt.ne hb hty Ze3 e)
theorem Zbj.snoc {lo:Nat} {w w':World} {vA v' vB u:Value} {vs:List Value} {A:List (List Int)} {B:List Int} {x:List Int} (h1:w.ownsRow lo 22 1 vA A.length vs) (h2:Zc7 lo w (vB::vs) (B::A)) (hu:Zae lo w u x)
  (hap:∀(j:Nat) (u1:Value),(vB::vs)[j]? = some u1->∀b,u1.ownBlock=some b->u.ownBlock≠some b) (hown:w'.ownsRow lo 22 1 v' (A.length+1) (vs++[u])) (hg:w.grownBy w' vA.ownBlock):Zbj lo w' v' vB (A++[x]) B:=by
 refine⟨vs++[u],by rw[List.length_append];exact hown,?_⟩;have h3:=h2.snoc hu hap;exact h3.kept fun b _ hlt hb=>hg.block b hlt (fun e=>TyAt.ne hb (Zay h1 e.symm) Ze3 rfl)
theorem Zc7.elem {lo j k b n c:Nat} {w:World} {vs:List Value} {L:List (List Int)} (h:Zc7 lo w vs L) (hj:vs[j]? = some (.slice (some ⟨b,0,none⟩) n c)) (y:Int):Zc7 lo (w.setCell ⟨b,k,none⟩ (.int .i64 y)) vs (L.set j ((rw_ L j).set k y)):=by
 have hjl:j<vs.length:=(List.getElem?_eq_some_iff.1 hj).1;have hl:=h.len;refine⟨by simpa using hl,fun i v e=>?_,h.apart⟩
 by_cases ei:i=j
 ·subst ei
  rw[hj] at e;obtain rfl:=Option.some.inj e;rw[Zl5 (by omega)];have ho:=h.own i _ hj;obtain⟨a',c',e2⟩:=Zau ho;injection e2 with _ e3 _
  subst e3;have h9:=Zw0 ho k y;rw[List.length_set] at h9;exact h9
 ·rw[Zqi ei]
  exact Zah (h.own i v e) (fun e2=>h.apart i j v _ ei e hj b e2 rfl)
theorem Zbj.elem {lo g c n j k b n2 c2:Nat} {w:World} {vB:Value} {A:List (List Int)} {B:List Int} (h:Zbj lo w (.slice (some ⟨g,0,none⟩) n c) vB A B) (hj:j<A.length) (hc:w.cell? ⟨g,j,none⟩=some (.slice (some ⟨b,0,none⟩) n2 c2)) (y:Int) :
  Zbj lo (w.setCell ⟨b,k,none⟩ (.int .i64 y)) (.slice (some ⟨g,0,none⟩) n c) vB (A.set j ((rw_ A j).set k y)) B:=by
 obtain⟨vs,h1,h2⟩:=h;obtain rfl:n=A.length:=by
  obtain⟨_,⟨e,_⟩ | ⟨g',cap,cur,e,_⟩⟩:=h1
  ·cases e
  ·injection e
 have hl:vs.length=A.length:=by have:=h2.len;simpa using this
 have hvj:vs[j]? = some (.slice (some ⟨b,0,none⟩) n2 c2):=by rw[<-World.ownsRow.cellAt h1 j (by omega)];exact hc
 have hbt:=Zay (h2.own (j+1) _ hvj) (g:=b) rfl;refine⟨vs,?_,h2.elem (j:=j+1) hvj y⟩;rw[List.length_set];exact Zah h1 (fun e=>TyAt.ne hbt (Zay h1 e) Ze3 rfl)
open Ve (R)
theorem Za9 {w:World} {q:Nat} {x y z:Value} {t:TypeId} (h:Tri w q x y z t):TyAt w q t:=⟨_,h⟩
theorem Zee:45≠3/\45≠22/\59≠3/\59≠22/\59≠45/\3≠45/\22≠45/\3≠59/\22≠59:=by decide
theorem Zi0 {w:World} {ops:Array Oper} {rest:List Oper} {o:Oper} {a:Act} {Q:Exit->Act->World->Prop} (hg:o.guard=none) (s x:Operand)
  (hop:o.op=Op.call { callee:=Callee.builtin Builtin.append,args:=#[s,x],argTypes:=#[43,43] }) (lo:Nat) (vA vB:Value) (A:List (List Int)) (B:List Int) (vs:List Value) (hs:a.eval s=vA) (hown:w.ownsRow lo 22 1 vA A.length vs) (hrows:Zc7 lo w (vB::vs) (B::A))
  (q:Nat) (u:Value) (r:List Int) (hx:a.eval x=.slice (some ⟨q,0,none⟩) 1 1) (hq:w.cell? ⟨q,0,none⟩=some u) (hu:Zae lo w u r) (hap:∀(j:Nat) (u1:Value),(vB::vs)[j]? = some u1->∀b,u1.ownBlock=some b->u.ownBlock≠some b) (hlen:A.length≤4000000) (hB:lo≤w.heap.size)
  (hK:∀v' w',Zbj lo w' v' vB (A++[r]) B->w.grownBy w' vA.ownBlock->wpList Tryz.prog ops Q rest (a.put o.dst v') w'):wpList Tryz.prog ops Q (o::rest) a w:=by
 obtain⟨i0,hi,hz0,hz1,hz2⟩:=info_parts Zp1;refine wpList_append_own w hg s x 43 hop lo 22 i0 (.slice none 0 0) 1 24 Tryz.underlying43 hi hz0 hz1 hz2 rfl (by decide) vA A.length vs hs hown ⟨q,0,none⟩ 1 1 [u] hx rfl ?_ ?_ (by unfold maxLen;omega) (by omega) hB ?_
 ·intro j u' hj
  match j with
  | 0=>simp at hj;subst hj;simpa [Addr.add] using hq
  | j+1=>simp at hj
 ·intro u' hu'
  simp at hu';subst hu';obtain⟨a',c',rfl,_⟩:=Zax hu;rfl
 ·intro v' w' h3 h4 _
  exact hK v' w' (Zbj.snoc hown hrows hu hap h3 h4) h4
theorem Zj3 {w:World} {ops:Array Oper} {o:Oper} {a:Act} {K:Act->World->Prop} {Q:Exit->Act->World->Prop} {E:Prop} (hgd:o.guard=none) (s x:Operand)
  (hop:o.op=Op.call { callee:=Callee.builtin Builtin.append,args:=#[s,x],argTypes:=#[43,43] }) (lo:Nat) (vA vB:Value) (A:List (List Int)) (B:List Int) (vs:List Value) (hs:a.eval s=vA) (hown:w.ownsRow lo 22 1 vA A.length vs) (hrows:Zc7 lo w (vB::vs) (B::A))
  (q:Nat) (u:Value) (r:List Int) (hx:a.eval x=.slice (some ⟨q,0,none⟩) 1 1) (hq:w.cell? ⟨q,0,none⟩=some u) (hu:Zae lo w u r) (hap:∀(j:Nat) (u1:Value),(vB::vs)[j]? = some u1->∀b,u1.ownBlock=some b->u.ownBlock≠some b) (hlen:A.length≤4000000) (hB:lo≤w.heap.size)
  (hK:∀v' w',Zbj lo w' v' vB (A++[r]) B->w.grownBy w' vA.ownBlock->K (a.put o.dst v') w'):if Region.wanted o (yielded ops a.tmps)=true then Oper.wp Tryz.prog o a w K Q else E:=by
 have hw:Region.wanted o (yielded ops a.tmps)=true:=by simp[Region.wanted,hgd]
 rw[if_pos hw];obtain⟨i0,hi,hz0,hz1,hz2⟩:=info_parts Zp1;refine wp_append_own w s x 43 hop lo 22 i0 (.slice none 0 0) 1 24 Tryz.underlying43 hi hz0 hz1 hz2 rfl (by decide) vA A.length vs hs hown ⟨q,0,none⟩ 1 1 [u] hx rfl ?_ ?_ (by unfold maxLen;omega) (by omega) hB ?_
 ·intro j u' hj
  match j with
  | 0=>simp at hj;subst hj;simpa [Addr.add] using hq
  | j+1=>simp at hj
 ·intro u' hu'
  simp at hu';subst hu';obtain⟨a',c',rfl,_⟩:=Zax hu;rfl
 ·intro v' w' h3 h4 _
  exact hK v' w' (Zbj.snoc hown hrows hu hap h3 h4) h4
theorem Zd6 {w:World} {ops:Array Oper} {o:Oper} {a:Act} {K:Act->World->Prop} {Q:Exit->Act->World->Prop} {E:Prop} (hgd:o.guard=none) (s x:Operand)
  (hop:o.op=Op.call { callee:=Callee.builtin Builtin.append,args:=#[s,x],argTypes:=#[26,26] }) (B:Nat) (v:Value) (xs:List R) (hs:a.eval s=v) (hown:Zaa B w v xs) (b o1:Nat) (ys:List R) (n c:Nat) (hn:n=ys.length) (hx:a.eval x=.slice (some ⟨b,o1,none⟩) n c)
  (n0:Nat) (hr:Zaj n0 w (some ⟨b,o1,none⟩) ys) (hlen:xs.length+ys.length≤4000000) (hB:B≤w.heap.size) (hK:∀v' w',Zaa B w' v' (xs++ys)->w.grownBy w' v.ownBlock->K (a.put o.dst v') w'):if Region.wanted o (yielded ops a.tmps)=true then Oper.wp Tryz.prog o a w K Q else E:=by
 have hw:Region.wanted o (yielded ops a.tmps)=true:=by simp[Region.wanted,hgd]
 rw[if_pos hw];subst hn;obtain⟨i0,hi,hz0,hz1,hz2⟩:=info_parts Zdf;refine wp_append_own w s x 26 hop B 59 i0 (.agg #[.int .i64 0,.int .i64 0]) 2 16 Tryz.underlying26 hi hz0 hz1 hz2 rfl (by decide) v xs.length (Zat xs) hs hown ⟨b,o1,none⟩ ys.length c (Zat ys) hx (Zch ys) (fun j u hj=>Zgu hr j u hj) (fun u hu=>cells_one ys u hu) (by unfold maxLen;omega) (by omega) hB ?_;intro v' w' h1 h2 _;refine hK v' w' ?_ h2;unfold Zaa;rw[List.length_append,Zfh];exact h1
theorem Zb4 {w:World} {ops:Array Oper} {rest:List Oper} {o:Oper} {a:Act} {Q:Exit->Act->World->Prop} (hgd:o.guard=none) (s x:Operand)
  (hop:o.op=Op.call { callee:=Callee.builtin Builtin.append,args:=#[s,x],argTypes:=#[22,22] }) (B:Nat) (v:Value) (xs:List Int) (hs:a.eval s=v) (hown:Zae B w v xs) (b:Nat) (y:Int) (hx:a.eval x=.slice (some ⟨b,0,none⟩) 1 1)
  (hr:w.cell? ⟨b,0,none⟩=some (.int .i64 y)) (hlen:xs.length≤4000000) (hB:B≤w.heap.size) (hK:∀v' w',Zae B w' v' (xs++[y])->w.grownBy w' v.ownBlock->(v'.ownBlock=v.ownBlock\/v'.ownBlock=some w.heap.size)->wpList Tryz.prog ops Q rest (a.put o.dst v') w'):wpList Tryz.prog ops Q (o::rest) a w:=by
 obtain⟨i0,hi,hz0,hz1,hz2⟩:=info_parts Zde;refine wpList_append_own_at w hgd s x 22 hop B 3 i0 (.int .i64 0) 1 8 Tryz.underlying22 hi hz0 hz1 hz2 rfl (by decide) v xs.length (xs.map (Value.int .i64)) hs hown ⟨b,0,none⟩ 1 1 [.int .i64 y] hx rfl (by
  intro j u' hj
  match j with
  | 0=>simp at hj;subst hj;simpa [Addr.add] using hr
  | j+1=>simp at hj) (by
  intro u' hu';simp at hu';subst hu';rfl) (by unfold maxLen;omega) (by omega) hB ?_
 intro v' w' h2 h3 _ h5;refine hK v' w' ?_ h3 h5;unfold Zae;rw[List.length_append,List.map_append];exact h2
structure LpBe (q:Nat) (w wr:World) (vA vB vC:Value) (A:List (List Int)) (B:List Int) (C:List R):Prop where
 hq:w.heap.size<q
 box:Tri wr q vA vB vC 45
 res:Tri wr w.heap.size (.slice none 0 0) (.slice none 0 0) (.slice none 0 0) 45
 ab:Zbj w.heap.size wr vA vB A B
 c:Zaa w.heap.size wr vC C
 low:Below w.heap.size w wr
section
variable {q:Nat} {w wr:World} {vA vB vC:Value} {A:List (List Int)} {B:List Int} {C:List R}
theorem LpBe.lt (h:LpBe q w wr vA vB vC A B C):q<wr.heap.size/\w.heap.size<wr.heap.size:=by
 have h1:=Zab h.box;have:=h.hq;omega
theorem LpBe.below {w2:World} (h:LpBe q w wr vA vB vC A B C) (hb:Below wr.heap.size wr w2):LpBe q w w2 vA vB vC A B C:=
 ⟨h.hq,h.box.below hb,h.res.below hb,h.ab.below hb,Zaa.below h.c hb,h.low.trans (hb.mono (by have:=h.lt;omega))⟩
theorem LpBe.alloc (h:LpBe q w wr vA vB vC A B C) (o:Obj):LpBe q w (wr.alloc o) vA vB vC A B C:=h.below ((Below.refl _ _).alloc (Nat.le_refl _) o)
theorem LpBe.triC {w3:World} (h:LpBe q w wr vA vB vC A B C) (hg:wr.grownBy w3 vC.ownBlock):Tri w3 q vA vB vC 45:=
 (hg.block q (Zab h.box) (fun e=>Za1 h.c (Za9 h.box) Zee.2.2.2.2.1 e.symm)).trans h.box
theorem LpBe.triB {w3:World} (h:LpBe q w wr vA vB vC A B C) (hg:wr.grownBy w3 vB.ownBlock):Tri w3 q vA vB vC 45:=
 (hg.block q (Zab h.box) (fun e=>Za1 h.ab.b (Za9 h.box) Zee.2.2.2.2.2.1 e.symm)).trans h.box
theorem LpBe.triA {w3:World} (h:LpBe q w wr vA vB vC A B C) (hg:wr.grownBy w3 vA.ownBlock):Tri w3 q vA vB vC 45:=
 (hg.block q (Zab h.box) (fun e=>TyAt.ne (h.ab.apart q e.symm).2.2 (Za9 h.box) Zee.2.2.2.2.2.2.1 rfl)).trans h.box
theorem LpBe.putC {w3:World} {vC':Value} {C':List R} (h:LpBe q w wr vA vB vC A B C) (hg:wr.grownBy w3 vC.ownBlock) (hC:Zaa w.heap.size w3 vC' C'):LpBe q w (w3.setCell ⟨q,2,none⟩ vC') vA vB vC' A B C':=by
 have h2:=h.hq;have t:=h.triC hg;have hlo:∀g,vC.ownBlock=some g->w.heap.size≤g:=fun g hg'=>(World.ownsRow.lt h.c g hg').1
 have r:Tri w3 w.heap.size (.slice none 0 0) (.slice none 0 0) (.slice none 0 0) 45:=(hg.block _ (Zab h.res) (fun e=>Za1 h.c (Za9 h.res) Zee.2.2.2.2.1 e.symm)).trans h.res;exact⟨h2,t.set2 vC',r.other (p:=⟨q,2,none⟩) (show q≠w.heap.size by omega) vC',
  (h.ab.grown hg (fun g hg'=>Zay h.c hg') Zee.2.2.1 Zee.2.2.2.1).set (Za9 t) Zee.1 Zee.2.1,Zah hC (Za1 hC (Za9 t) Zee.2.2.2.2.1),
  (h.low.grown hg h.low.size hlo).setCell (p:=⟨q,2,none⟩) (show w.heap.size≤q by omega) vC'⟩
theorem LpBe.putB {w3:World} {vB':Value} {B':List Int} (h:LpBe q w wr vA vB vC A B C) (hg:wr.grownBy w3 vB.ownBlock) (hB:Zae w.heap.size w3 vB' B') (hat:vB'.ownBlock=vB.ownBlock\/vB'.ownBlock=some wr.heap.size):LpBe q w (w3.setCell ⟨q,1,none⟩ vB') vA vB' vC A B' C:=by
 have h2:=h.hq;have t:=h.triB hg;have hlo:∀g,vB.ownBlock=some g->w.heap.size≤g:=fun g hg'=>(World.ownsRow.lt h.ab.b g hg').1
 have r:Tri w3 w.heap.size (.slice none 0 0) (.slice none 0 0) (.slice none 0 0) 45:=(hg.block _ (Zab h.res) (fun e=>Za1 h.ab.b (Za9 h.res) Zee.2.2.2.2.2.1 e.symm)).trans h.res;have c3:Zaa w.heap.size w3 vC C:=Zav h.c fun g hg'=>hg.block g (World.ownsRow.lt h.c g hg').2 (fun e=>Za1 h.ab.b (Zay h.c hg') Zee.2.2.2.2.2.2.2.1 e.symm)
 exact⟨h2,t.set1 vB',r.other (p:=⟨q,1,none⟩) (show q≠w.heap.size by omega) vB',
  (h.ab.Z4p hB hg hat).set (Za9 t) Zee.1 Zee.2.1,Zah c3 (Za1 c3 (Za9 t) Zee.2.2.2.2.1),
  (h.low.grown hg h.low.size hlo).setCell (p:=⟨q,1,none⟩) (show w.heap.size≤q by omega) vB'⟩
theorem LpBe.putA {w3:World} {vA':Value} {A':List (List Int)} (h:LpBe q w wr vA vB vC A B C) (hg:wr.grownBy w3 vA.ownBlock) (hA:Zbj w.heap.size w3 vA' vB A' B):LpBe q w (w3.setCell ⟨q,0,none⟩ vA') vA' vB vC A' B C:=by
 have h2:=h.hq;have t:=h.triA hg;have hlo:∀g,vA.ownBlock=some g->w.heap.size≤g:=fun g hg'=>(h.ab.apart g hg').1
 have r:Tri w3 w.heap.size (.slice none 0 0) (.slice none 0 0) (.slice none 0 0) 45:=(hg.block _ (Zab h.res) (fun e=>TyAt.ne (h.ab.apart _ e.symm).2.2 (Za9 h.res) Zee.2.2.2.2.2.2.1 rfl)).trans h.res;have c3:Zaa w.heap.size w3 vC C:=Zav h.c fun g hg'=>hg.block g (World.ownsRow.lt h.c g hg').2 (fun e=>TyAt.ne (h.ab.apart g e.symm).2.2 (Zay h.c hg') Zee.2.2.2.2.2.2.2.2 rfl)
 exact⟨h2,t.set0 vA',r.other (p:=⟨q,0,none⟩) (show q≠w.heap.size by omega) vA',
  hA.set (Za9 t) Zee.1 Zee.2.1,Zah c3 (Za1 c3 (Za9 t) Zee.2.2.2.2.1),
  (h.low.grown hg h.low.size hlo).setCell (p:=⟨q,0,none⟩) (show w.heap.size≤q by omega) vA'⟩
theorem LpBe.later {w2:World} (h:LpBe q w wr vA vB vC A B C) (hb:Below wr.heap.size wr w2) :
  ∃vs,w2.ownsRow w.heap.size 22 1 vA A.length vs/\Zc7 w.heap.size w2 (vB::vs) (B::A)/\∀(j:Nat) (u1:Value),(vB::vs)[j]? = some u1->∀b,u1.ownBlock=some b->b<wr.heap.size:=by
 obtain⟨vs,h1,h2⟩:=h.ab;exact⟨vs,Zav h1 fun g hg=>hb.block g (World.ownsRow.lt h1 g hg).2,h2.kept fun b _ e2 _=>hb.block b e2,fun j u1 e b hb=>(World.ownsRow.lt (h2.own j u1 e) b hb).2⟩
theorem LpBe.fin (h:LpBe q w wr vA vB vC A B C) :
  Tri (((wr.setCell ⟨w.heap.size,0,none⟩ vA).setCell ⟨w.heap.size,1,none⟩ vB).setCell ⟨w.heap.size,2,none⟩ vC) w.heap.size vA vB vC 45/\
  Zbj w.heap.size (((wr.setCell ⟨w.heap.size,0,none⟩ vA).setCell ⟨w.heap.size,1,none⟩ vB).setCell ⟨w.heap.size,2,none⟩ vC) vA vB A B/\
  Zaa w.heap.size (((wr.setCell ⟨w.heap.size,0,none⟩ vA).setCell ⟨w.heap.size,1,none⟩ vB).setCell ⟨w.heap.size,2,none⟩ vC) vC C/\
  Below w.heap.size w (((wr.setCell ⟨w.heap.size,0,none⟩ vA).setCell ⟨w.heap.size,1,none⟩ vB).setCell ⟨w.heap.size,2,none⟩ vC):=by
 have t0:=h.res.set0 vA;have t1:=t0.set1 vB;have hc:=Za1 h.c (Za9 h.res) Zee.2.2.2.2.1;exact⟨t1.set2 vC,((h.ab.set (Za9 h.res) Zee.1 Zee.2.1).set (Za9 t0) Zee.1 Zee.2.1).set (Za9 t1) Zee.1 Zee.2.1,Zah (Zah (Zah h.c hc) hc) hc,
  ((h.low.setCell (p:=⟨w.heap.size,0,none⟩) (Nat.le_refl _) vA).setCell (p:=⟨w.heap.size,1,none⟩) (Nat.le_refl _) vB).setCell (p:=⟨w.heap.size,2,none⟩) (Nat.le_refl _) vC⟩
end
def Zj6 (p:Lp.P) (k:Bool) (w:World) (e:Ending) (w':World):Prop:=
 ∃vA vB vC:Value,e=.returned (.tuple #[.agg #[vA,vB,vC],.bool k])/\Zbj w.heap.size w' vA vB p.A p.B/\Zaa w.heap.size w' vC p.C/\Below w.heap.size w w'
open Go.RowKit
open Ve (R)
open Lp (P Res)
def LpC (w:World) (x y z:Value) (p:P):Prop:=∃(a b c:Option Addr) (c1 c2 c3:Nat),x=.slice a p.A.length c1/\y=.slice b p.B.length c2/\z=.slice c p.C.length c3/\LpIn w.heap.size w a b c p
theorem LpC.up {w w':World} {x y z:Value} {p:P} (h:LpC w x y z p) (hb:Below w.heap.size w w'):LpC w' x y z p:=by
 obtain⟨a,b,c,c1,c2,c3,e1,e2,e3,hi⟩:=h;exact⟨a,b,c,c1,c2,c3,e1,e2,e3,(hi.below hb).mono hb.size⟩
theorem LpC.one {w:World} {x y z:Value} {p:P} (h:LpC w x y z p):x.oneCell'=true/\y.oneCell'=true/\z.oneCell'=true:=by
 obtain⟨a,b,c,c1,c2,c3,rfl,rfl,rfl,_⟩:=h;exact⟨rfl,rfl,rfl⟩
def ResC (w:World) (u0 u1 u2 u3 u4 u5 u6:Value) (r:Res):Prop:=∃(a b c:Option Addr) (c1 c2 c3:Nat),u0=.int .i64 r.status/\u1=.slice a r.X.length c1/\u2=.slice b r.Y.length c2/\u3=.slice c r.ray.length c3/\u4=.int .i64 r.value.1/\u5=.int .i64 r.value.2/\u6=.int .i64 r.pivots/\Zey w.heap.size w a b c r
theorem ResC.up {w w':World} {u0 u1 u2 u3 u4 u5 u6:Value} {r:Res} (h:ResC w u0 u1 u2 u3 u4 u5 u6 r) (hb:Below w.heap.size w w'):ResC w' u0 u1 u2 u3 u4 u5 u6 r:=by
 obtain⟨a,b,c,c1,c2,c3,e0,e1,e2,e3,e4,e5,e6,hi⟩:=h;exact⟨a,b,c,c1,c2,c3,e0,e1,e2,e3,e4,e5,e6,(hi.below hb).mono hb.size⟩
theorem ResC.one {w:World} {u0 u1 u2 u3 u4 u5 u6:Value} {r:Res} (h:ResC w u0 u1 u2 u3 u4 u5 u6 r):u0.oneCell'=true/\u1.oneCell'=true/\u2.oneCell'=true/\u3.oneCell'=true/\u4.oneCell'=true/\u5.oneCell'=true/\u6.oneCell'=true:=by
 obtain⟨a,b,c,c1,c2,c3,rfl,rfl,rfl,rfl,rfl,rfl,rfl,_⟩:=h;exact⟨rfl,rfl,rfl,rfl,rfl,rfl,rfl⟩
def Z5a (w:World) (p:P) (e:Ending) (w':World):Prop:=∃x y z:Value,e=.returned (.agg #[x,y,z])/\LpC w' x y z p/\Zhj w.heap.size w'.heap.size w' (.agg #[x,y,z]) p
def Z44 (w:World) (r:Res) (e:Ending) (w':World):Prop:=∃u0 u1 u2 u3 u4 u5 u6:Value,e=.returned (.agg #[u0,u1,u2,u3,u4,u5,u6])/\ResC w' u0 u1 u2 u3 u4 u5 u6 r/\Zm4 w.heap.size w'.heap.size w' (.agg #[u0,u1,u2,u3,u4,u5,u6]) r
def Z4i (f:FuncId) (g:Res->Res->Bool):Prop:=∀(w:World) (u0 u1 u2 u3 u4 u5 u6 v0 v1 v2 v3 v4 v5 v6:Value) (r s:Res),Zdt r->Zdt s->ResC w u0 u1 u2 u3 u4 u5 u6 r->ResC w v0 v1 v2 v3 v4 v5 v6 s->
 Calls Tryz.prog f #[.agg #[u0,u1,u2,u3,u4,u5,u6],.agg #[v0,v1,v2,v3,v4,v5,v6]] w fun e w'=>e=.returned (.bool (g r s))/\Below w.heap.size w w'
def Z43 (f:FuncId) (g:P->Res->Bool):Prop:=∀(w:World) (x y z u0 u1 u2 u3 u4 u5 u6:Value) (p:P) (r:Res),Zcd p->Zdt r->(Lit.int .i64 r.status).wf=true->LpC w x y z p->ResC w u0 u1 u2 u3 u4 u5 u6 r->
 Calls Tryz.prog f #[.agg #[x,y,z],.agg #[u0,u1,u2,u3,u4,u5,u6]] w fun e w'=>e=.returned (.bool (g p r))/\Below w.heap.size w w'
open Lp (P)
def LpOk (p:P):Prop:=Zcd p
theorem lpOk {p:P} (h:lpN p≤1048576):LpOk p:=Zwi h
theorem LpC.rg {w:World} {x y z:Value} {p:P} (h:LpC w x y z p):Rg (fun w'=>LpC w' x y z p) 0 w.heap.size w:=
 ⟨h,Nat.le_refl _,fun w' hs hk=>by
  obtain⟨a,b,c,c1,c2,c3,e1,e2,e3,hi⟩:=h;exact⟨a,b,c,c1,c2,c3,e1,e2,e3,LpIn.mono ⟨hi.mA.same fun k h=>hk k (Nat.zero_le _) h,hi.mB.same fun k h=>hk k (Nat.zero_le _) h,hi.mC.of_low fun k h=>hk k (Nat.zero_le _) h⟩ hs⟩⟩
theorem Zhj.size {lo hi:Nat} {w:World} {v:Value} {p:P} (h:Zhj lo hi w v p):hi≤w.heap.size:=by
 obtain⟨_,_,_,_,_,_,_,_,_,h4,_⟩:=h.ex;exact h4
theorem Zhj.Zdx {lo hi:Nat} {w:World} {x y z:Value} {p:P} (h:Zhj lo hi w (.agg #[x,y,z]) p):LpC w x y z p:=by
 obtain⟨a,b,c,c1,c2,c3,e,hi,hh⟩:=h.reads;injection e with e
 have e1:x=.slice a p.A.length c1:=by have:=congrArg (fun q=>q[0]?) e;simpa using this
 have e2:y=.slice b p.B.length c2:=by have:=congrArg (fun q=>q[1]?) e;simpa using this
 have e3:z=.slice c p.C.length c3:=by have:=congrArg (fun q=>q[2]?) e;simpa using this
 exact⟨a,b,c,c1,c2,c3,e1,e2,e3,hi.mono hh⟩
def LpX (w:World) (x y z:Value) (p:P):Prop:=LpC w x y z p/\∀(b:Option Addr) (n c:Nat),y=.slice b n c->p.B.length≤c
theorem Zhj.Zot {lo hi:Nat} {w:World} {x y z:Value} {p:P} (h:Zhj lo hi w (.agg #[x,y,z]) p):LpX w x y z p:=by
 refine⟨h.Zdx,fun b n c e=>?_⟩;obtain⟨m1,m2,vA,vB,vC,e2,_,_,_,_,_,⟨hB,_⟩,_⟩:=h;injection e2 with e2
 have e3:y=vB:=by have:=congrArg (fun q=>q[1]?) e2;simpa using this
 subst e3;obtain⟨_,⟨e4,h4⟩ | ⟨g,cap,cur,e4,_,_,hnc,_⟩⟩:=hB
 ·omega
 ·rw[e] at e4
  injection e4 with e5 e6 e7
  omega
theorem Zhj.rg {lo hi:Nat} {w:World} {v:Value} {p:P} (h:Zhj lo hi w v p):Rg (fun w'=>Zhj lo hi w' v p) lo hi w:=by
 refine⟨h,h.size,fun w' hs hk=>?_⟩;obtain⟨m1,m2,vA,vB,vC,rfl,h1,h2,h3,h4,hA,⟨hB,kB⟩,hC,kC⟩:=h;exact⟨m1,m2,vA,vB,vC,rfl,h1,h2,h3,Nat.le_trans h4 hs,hA.same fun k a1 a2 _=>hk k a1 (by omega),⟨Zav hB fun g hg=>by have:=World.ownsRow.lt hB g hg;have:=kB g hg;exact hk g (by omega) (by omega),kB⟩,
  Zav hC fun g hg=>by have:=World.ownsRow.lt hC g hg;have:=kC g hg;exact hk g (by omega) (by omega),kC⟩
def RsLP (lo hi:Nat) (w:World) (v:Value) (p:P):Prop:=∃(vA vB vC:Value) (vs:List Value),v=.agg #[vA,vB,vC]/\w.ownsRow lo 22 1 vA p.A.length vs/\Zc7 lo w (vB::vs) (p.B::p.A)/\(∀g,vA.ownBlock=some g->g<hi)/\
 (∀(j:Nat) (u:Value),(vB::vs)[j]? = some u->∀b,u.ownBlock=some b->b<hi)/\Zaa lo w vC p.C/\(∀g,vC.ownBlock=some g->g<hi)/\hi≤w.heap.size
theorem RsLP.of {lo:Nat} {w:World} {vA vB vC:Value} {p:P} (h1:Zbj lo w vA vB p.A p.B) (h2:Zaa lo w vC p.C):RsLP lo w.heap.size w (.agg #[vA,vB,vC]) p:=by
 obtain⟨vs,k1,k2⟩:=h1;exact⟨vA,vB,vC,vs,rfl,k1,k2,fun g hg=>(World.ownsRow.lt k1 g hg).2,fun j u e b hb=>(World.ownsRow.lt (k2.own j u e) b hb).2,h2,fun g hg=>(World.ownsRow.lt h2 g hg).2,Nat.le_refl _⟩
theorem Zc7.same {lo hi:Nat} {w w':World} {vs:List Value} {L:List (List Int)} (h:Zc7 lo w vs L) (hb:∀(j:Nat) (u:Value),vs[j]? = some u->∀b,u.ownBlock=some b->b<hi) (hk:∀k,lo≤k->k<hi->w'.heap[k]? = w.heap[k]?):Zc7 lo w' vs L:=
 ⟨h.len,fun j u e=>Zav (h.own j u e) fun g hg=>hk g (World.ownsRow.lt (h.own j u e) g hg).1 (hb j u e g hg),h.apart⟩
theorem RsLP.rg {lo hi:Nat} {w:World} {v:Value} {p:P} (h:RsLP lo hi w v p):Rg (fun w'=>RsLP lo hi w' v p) lo hi w:=by
 have h0:=h;obtain⟨vA,vB,vC,vs,rfl,h1,h2,h3,h4,h5,h6,h7⟩:=h;exact⟨h0,h7,fun w' hs hk=>⟨vA,vB,vC,vs,rfl,Zav h1 fun g hg=>hk g (World.ownsRow.lt h1 g hg).1 (h3 g hg),h2.same h4 hk,h3,h4,Zav h5 fun g hg=>hk g (World.ownsRow.lt h5 g hg).1 (h6 g hg),h6,Nat.le_trans h7 hs⟩⟩
theorem RsLP.Zot {lo hi:Nat} {w:World} {x y z:Value} {p:P} (h:RsLP lo hi w (.agg #[x,y,z]) p):LpX w x y z p:=by
 obtain⟨vA,vB,vC,vs,e,h1,h2,_,_,h3,_⟩:=h;injection e with e
 have e1:x=vA:=by have:=congrArg (fun q=>q[0]?) e;simpa using this
 have e2:y=vB:=by have:=congrArg (fun q=>q[1]?) e;simpa using this
 have e3:z=vC:=by have:=congrArg (fun q=>q[2]?) e;simpa using this
 subst e1 e2 e3;have hab:Zbj lo w x y p.A p.B:=⟨vs,h1,h2⟩;obtain⟨a,c1,rfl,hA⟩:=hab.reads;obtain⟨b,c2,rfl,hb,hb2,_⟩:=Zax hab.b;obtain⟨c,c3,rfl,hc,_⟩:=Zai h3;refine⟨⟨a,b,c,c1,c2,c3,rfl,rfl,rfl,hA,Zas.Zbv hb fun q hq=>(hb2 q hq).2,?_⟩,fun b' n c' e=>?_⟩
 ·exact hc
 ·injection e with e1 e2 e3
  subst e3;obtain⟨_,⟨e4,h4⟩ | ⟨g,cap,cur,e4,_,_,hnc,_⟩⟩:=hab.b
  ·omega
  ·injection e4 with e5 e6 e7
   omega
theorem RsLP.Zdx {lo hi:Nat} {w:World} {x y z:Value} {p:P} (h:RsLP lo hi w (.agg #[x,y,z]) p):LpC w x y z p:=h.Zot.1
theorem Zj6.res {p:P} {k:Bool} {w w':World} {e:Ending} (h:Zj6 p k w e w'):(∃x y z:Value,e=.returned (.tuple #[.agg #[x,y,z],.bool k])/\RsLP w.heap.size w'.heap.size w' (.agg #[x,y,z]) p)/\Below w.heap.size w w':=by
 obtain⟨vA,vB,vC,he,h1,h2,hb⟩:=h;exact⟨⟨vA,vB,vC,he,RsLP.of h1 h2⟩,hb⟩
def Z49 (w w':World):Prop:=∀b T,TyAt w b T->T≠3->w'.heap[b]? = w.heap[b]?
def mkM (k0:Nat) (A:List (List Int)):Nat->List (List Int)
 | 0=>A
 | k+1=>(mkM k0 A k).set k (Zs8 (k0+cellsOf (A.take k)) (rw_ A k).length)
def lprN (p:P):Int:=1+(cellsOf p.A:Int)+(p.B.length:Int)+2*(p.C.length:Int)
def Z4q (p:P):P:=⟨mkM 1 p.A p.A.length,Zs8 (1+cellsOf p.A) p.B.length,Zp7 (1+cellsOf p.A+p.B.length) p.C.length⟩
def Z2s (p:P):Prop:=lpN p≤1048576
theorem Z2s.ok {p:P} (h:Z2s p):LpOk p:=lpOk h
end Go.Proofs.YtjfnleilddgjiaaGreat
