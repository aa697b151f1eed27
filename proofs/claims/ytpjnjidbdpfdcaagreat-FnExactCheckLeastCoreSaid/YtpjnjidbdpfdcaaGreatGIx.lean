/- The parts Ix, LpAp. -/
import Derived.Test.YtpjnjidbdpfdcaaGreatGrI
import Derived.Test.YtpjnjidbdpfdcaaGreatGLa
import Derived.Test.YtpjnjidbdpfdcaaGreatGK
import Derived.Maps.AppendAt
import Derived.Test.YtpjnjidbdpfdcaaGreatApR
import Derived.Test.YtpjnjidbdpfdcaaGreatGM
namespace Go.Proofs.YtpjnjidbdpfdcaaGreat
open Go.RowKit
theorem Zbt:3≠22:=by decide
theorem Zpr {L:List (List Int)} {j:Nat} {x:List Int} (h:L[j]? = some x):rw_ L j=x:=by
 unfold rw_;rw[List.getD_eq_getElem?_getD,h];rfl
theorem Zfs {L:List (List Int)} {j:Nat} {x:List Int} (h:j<L.length):rw_ (L.set j x) j=x:=Zpr (by simp[h])
theorem Zia {L:List (List Int)} {i j:Nat} {x:List Int} (h:i≠j):rw_ (L.set j x) i=rw_ L i:=by
 unfold rw_;rw[List.getD_eq_getElem?_getD,List.getD_eq_getElem?_getD,List.getElem?_set_ne (fun e=>h e.symm)]
theorem Zjh {L:List (List Int)} {j:Nat} {x:List Int} (h:j<L.length):rw_ (L++[x]) j=rw_ L j:=by
 unfold rw_;rw[List.getD_eq_getElem?_getD,List.getD_eq_getElem?_getD,List.getElem?_append_left h]
theorem Zjg {L:List (List Int)} {x:List Int}:rw_ (L++[x]) L.length=x:=Zpr (by rw[List.getElem?_append_right (Nat.le_refl _)];simp)
structure Zbi (lo:Nat) (w:World) (vs:List Value) (L:List (List Int)):Prop where
 len:vs.length=L.length
 own:∀(j:Nat) (u:Value),vs[j]? = some u->Zab lo w u (rw_ L j)
 apart:∀(i j:Nat) (u v:Value),i≠j->vs[i]? = some u->vs[j]? = some v->∀b,u.ownBlock=some b->v.ownBlock≠some b
theorem Zbi.kept {lo:Nat} {w w':World} {vs:List Value} {L:List (List Int)} (h:Zbi lo w vs L) (hk:∀b,lo≤b->b<w.heap.size->TyAt w b 3->w'.heap[b]? = w.heap[b]?):Zbi lo w' vs L:=
 ⟨h.len,fun j u e=>Zan (h.own j u e) fun g hg=>hk g (World.ownsRow.lt (h.own j u e) g hg).1 (World.ownsRow.lt (h.own j u e) g hg).2 (Za3 (h.own j u e) hg),h.apart⟩
theorem Zbi.grew {lo j:Nat} {w w1:World} {vs:List Value} {u u':Value} {x:List Int} {L:List (List Int)} (h:Zbi lo w vs L) (hj:vs[j]? = some u) (hu:Zab lo w1 u' x) (hg:w.grownBy w1 u.ownBlock) (hat:u'.ownBlock=u.ownBlock\/u'.ownBlock=some w.heap.size):Zbi lo w1 (vs.set j u') (L.set j x):=by
 have hjl:j<vs.length:=(List.getElem?_eq_some_iff.1 hj).1;have hl:=h.len;have far:∀(i:Nat) (v:Value),i≠j->vs[i]? = some v->∀b,v.ownBlock=some b->u'.ownBlock≠some b:=fun i v hne e b hb hb2=>by
  rcases hat with hat|hat
  ·rw[hat] at hb2
   exact h.apart i j v u hne e hj b hb hb2
  ·rw[hat] at hb2
   have:=(World.ownsRow.lt (h.own i v e) b hb).2;injection hb2 with hb2
   omega
 have at2:∀(i:Nat) (v:Value),(vs.set j u')[i]? = some v->(i=j/\v=u')\/(i≠j/\vs[i]? = some v):=fun i v e=>by
  by_cases ei:i=j
  ·subst ei
   rw[List.getElem?_set_self hjl] at e;exact .inl ⟨rfl,(Option.some.inj e).symm⟩
  ·rw[List.getElem?_set_ne (fun e=>ei e.symm)] at e
   exact .inr ⟨ei,e⟩
 refine⟨by simpa using hl,fun i v e=>?_,fun i i' u1 u2 hii e1 e2 b hb1 hb2=>?_⟩
 ·rcases at2 i v e with ⟨rfl,rfl⟩ | ⟨hne,e⟩
  ·rw[Zfs (by omega)]
   exact hu
  ·rw[Zia hne]
   exact Zan (h.own i v e) fun b hb=>hg.block b (World.ownsRow.lt (h.own i v e) b hb).2 (fun e2=>h.apart i j v u hne e hj b hb e2.symm)
 ·rcases at2 i u1 e1 with ⟨d1,d2⟩ | ⟨hne,k1⟩
  ·rcases at2 i' u2 e2 with ⟨d3,_⟩ | ⟨hne2,k2⟩
   ·exact hii (d1.trans d3.symm)
   ·exact far i' u2 hne2 k2 b hb2 (by rw[<-d2];exact hb1)
  ·rcases at2 i' u2 e2 with ⟨d3,d4⟩ | ⟨hne2,k2⟩
   ·exact far i u1 hne k1 b hb1 (by rw[<-d4];exact hb2)
   ·exact h.apart i i' u1 u2 hii k1 k2 b hb1 hb2
theorem Zbi.snoc {lo:Nat} {w:World} {vs:List Value} {u:Value} {x:List Int} {L:List (List Int)} (h:Zbi lo w vs L) (hu:Zab lo w u x) (hap:∀(j:Nat) (u1:Value),vs[j]? = some u1->∀b,u1.ownBlock=some b->u.ownBlock≠some b):Zbi lo w (vs++[u]) (L++[x]):=by
 have hl:=h.len;have two:∀i v0,(vs++[u])[i]? = some v0->(i<L.length/\vs[i]? = some v0)\/(i=L.length/\v0=u):=fun i v0 e=>by
  by_cases hi:i<L.length
  ·rw[List.getElem?_append_left (by omega)] at e
   exact .inl ⟨hi,e⟩
  ·have hlt:=(List.getElem?_eq_some_iff.1 e).1
   simp at hlt;have hi2:i=vs.length:=by omega
   subst hi2;rw[List.getElem?_append_right (Nat.le_refl _)] at e;simp at e;exact .inr ⟨hl,e.symm⟩
 refine⟨by simp[hl],fun i v e=>?_,fun i j u1 u2 hij e1 e2 b hb1 hb2=>?_⟩
 ·rcases two i v e with ⟨hi,e⟩ | ⟨rfl,rfl⟩
  ·rw[Zjh hi]
   exact h.own i v e
  ·rw[Zjg]
   exact hu
 ·rcases two i u1 e1 with ⟨hi,k1⟩ | ⟨d1,d2⟩
  ·rcases two j u2 e2 with ⟨hj,k2⟩ | ⟨d3,d4⟩
   ·exact h.apart i j u1 u2 hij k1 k2 b hb1 hb2
   ·exact hap i u1 k1 b hb1 (by rw[<-d4];exact hb2)
  ·rcases two j u2 e2 with ⟨hj,k2⟩ | ⟨d3,_⟩
   ·exact hap j u2 k2 b hb2 (by rw[<-d2];exact hb1)
   ·exact hij (d1.trans d3.symm)
def Zax (lo:Nat) (w:World) (vA vB:Value) (A:List (List Int)) (B:List Int):Prop:=∃vs,w.ownsRow lo 22 1 vA A.length vs/\Zbi lo w (vB::vs) (B::A)
theorem Zax.nil (lo:Nat) (w:World):Zax lo w (.slice none 0 0) (.slice none 0 0) [] []:=by
 refine⟨[],World.ownsRow_nil _ _ _ _,rfl,fun j u e=>?_,fun i j u v hij e1 e2=>?_⟩
 ·match j with
  | 0=>simp at e;subst e;exact World.ownsRow_nil _ _ _ _
  | j+1=>simp at e
 ·match i,j with
  | 0,0=>exact absurd rfl hij
  | 0,j+1=>simp at e2
  | i+1,_=>simp at e1
theorem Zax.shape {lo:Nat} {w:World} {vA vB:Value} {A:List (List Int)} {B:List Int} (h:Zax lo w vA vB A B):(∃(a:Option Addr) (c:Nat),vA=.slice a A.length c)/\∃(b:Option Addr) (c:Nat),vB=.slice b B.length c:=by
 obtain⟨vs,⟨_,hs⟩,h2⟩:=h;refine⟨?_,Zak (h2.own 0 vB rfl)⟩;obtain⟨rfl,e⟩ | ⟨g,cap,cur,rfl,_⟩:=hs
 ·exact⟨none,0,by rw[e]⟩
 ·exact⟨_,_,rfl⟩
theorem Zax.b {lo:Nat} {w:World} {vA vB:Value} {A:List (List Int)} {B:List Int} (h:Zax lo w vA vB A B):Zab lo w vB B:=by
 obtain⟨vs,_,h2⟩:=h;exact h2.own 0 vB rfl
theorem Zax.apart {lo:Nat} {w:World} {vA vB:Value} {A:List (List Int)} {B:List Int} (h:Zax lo w vA vB A B):∀g,vA.ownBlock=some g->lo≤g/\g<w.heap.size/\TyAt w g 22:=by
 obtain⟨vs,h1,_⟩:=h;exact fun g hg=>⟨(World.ownsRow.lt h1 g hg).1,(World.ownsRow.lt h1 g hg).2,Za3 h1 hg⟩
theorem Zax.kept {lo:Nat} {w w':World} {vA vB:Value} {A:List (List Int)} {B:List Int} (h:Zax lo w vA vB A B) (hk:∀b,lo≤b->b<w.heap.size->(TyAt w b 3\/TyAt w b 22)->w'.heap[b]? = w.heap[b]?):Zax lo w' vA vB A B:=by
 obtain⟨vs,h1,h2⟩:=h;exact⟨vs,Zan h1 fun g hg=>hk g (World.ownsRow.lt h1 g hg).1 (World.ownsRow.lt h1 g hg).2 (.inr (Za3 h1 hg)),h2.kept fun b e1 e2 e3=>hk b e1 e2 (.inl e3)⟩
theorem Zax.below {lo:Nat} {w w':World} {vA vB:Value} {A:List (List Int)} {B:List Int} (h:Zax lo w vA vB A B) (hb:Below w.heap.size w w'):Zax lo w' vA vB A B:=
 h.kept fun b _ h2 _=>hb.block b h2
theorem Zax.set {lo q i:Nat} {w:World} {vA vB u:Value} {t:TypeId} {A:List (List Int)} {B:List Int} (h:Zax lo w vA vB A B) (hq:TyAt w q t) (h1:t≠3) (h2:t≠22):Zax lo (w.setCell ⟨q,i,none⟩ u) vA vB A B:=
 h.kept fun b _ _ hb=>Below.heap_setCell _ _ _ _ (by
  rcases hb with hb|hb
  ·exact fun e=>(TyAt.ne hq hb h1) e.symm
  ·exact fun e=>(TyAt.ne hq hb h2) e.symm)
theorem Zax.grown {lo:Nat} {w w':World} {vA vB:Value} {row:Option Nat} {t:TypeId} {A:List (List Int)} {B:List Int} (h:Zax lo w vA vB A B) (hg:w.grownBy w' row) (hr:∀g,row=some g->TyAt w g t) (h1:t≠3) (h2:t≠22):Zax lo w' vA vB A B:=
 h.kept fun b _ hlt hb=>hg.block b hlt (fun e=>by
  rcases hb with hb|hb
  ·exact (TyAt.ne (hr b e.symm) hb h1) rfl
  ·exact (TyAt.ne (hr b e.symm) hb h2) rfl)
theorem Zax.raise {lo B':Nat} {w:World} {vA vB:Value} {A:List (List Int)} {B:List Int} (h:Zax lo w vA vB A B) (hB:B'≤lo):Zax B' w vA vB A B:=by
 obtain⟨vs,⟨e1,e2⟩,h2⟩:=h;refine⟨vs,⟨e1,?_⟩,h2.len,fun j u e=>(h2.own j u e).raise hB,h2.apart⟩
 rcases e2 with e2|⟨g',cap,cur,e,hg,rest⟩
 ·exact .inl e2
 ·exact .inr ⟨g',cap,cur,e,by omega,rest⟩
theorem Zax.spot {lo n c j:Nat} {w:World} {a:Option Addr} {vB:Value} {A:List (List Int)} {B:List Int} (h:Zax lo w (.slice a n c) vB A B) (hj:j<A.length) :
  ∃g u,a=some ⟨g,0,none⟩/\lo≤g/\g<w.heap.size/\w.cell? ⟨g,j,none⟩=some u/\w.frozen? ⟨g,j,none⟩=false/\Zab lo w u (rw_ A j)/\TyAt w g 22:=by
 obtain⟨vs,h1,h2⟩:=h;have hl:vs.length=A.length:=by have:=h2.len;simpa using this
 have h1':=h1;obtain⟨e1,⟨e,h0⟩ | ⟨g,cap,cur,e,hg,hh,hr⟩⟩:=h1'
 ·omega
 ·injection e with e2 e3 e4
  subst e2 e3 e4;have hv:vs[j]? = some vs[j]:=List.getElem?_eq_getElem (by omega);exact⟨g,vs[j],rfl,hg,Zag hh,by rw[World.ownsRow.cellAt h1 j (by omega)];exact hv,World.ownsRow.frozenAt h1 _,h2.own (j+1) _ hv,Za3 h1 rfl⟩
theorem Zax.reads {lo:Nat} {w:World} {vA vB:Value} {A:List (List Int)} {B:List Int} (h:Zax lo w vA vB A B):∃(a:Option Addr) (cap:Nat),vA=.slice a A.length cap/\Zdc w.heap.size w a A:=by
 obtain⟨a,cap,rfl⟩:=h.shape.1;refine⟨a,cap,rfl,fun j hj=>?_⟩;obtain⟨g,u,rfl,_,hgl,hc,_,ho,_⟩:=h.spot hj;obtain⟨a2,c2,rfl,hr,ha,_⟩:=Zbb ho;refine⟨g,0,a2,c2,rfl,hgl,by rw[Nat.zero_add];exact hc,fun i hi=>?_⟩;exact Zal.Zdl (B:=w.heap.size) hr (fun p hp=>(ha p hp).2) i hi
theorem Zax.Zqj {lo:Nat} {w w1:World} {vA vB v':Value} {x:List Int} {A:List (List Int)} {B:List Int} (h:Zax lo w vA vB A B) (hu:Zab lo w1 v' x) (hg:w.grownBy w1 vB.ownBlock) (hat:v'.ownBlock=vB.ownBlock\/v'.ownBlock=some w.heap.size):Zax lo w1 vA v' A x:=by
 obtain⟨vs,h1,h2⟩:=h;refine⟨vs,Zan h1 fun b hb=>hg.block b (World.ownsRow.lt h1 b hb).2 (fun e=>Zaz (h2.own 0 vB rfl) (Za3 h1 hb) Zbt e.symm),?_⟩;exact h2.grew (j:=0) rfl hu hg hat
theorem Zax.grew {lo g c n j:Nat} {w w1:World} {vB u u':Value} {x:List Int} {A:List (List Int)} {B:List Int} (h:Zax lo w (.slice (some ⟨g,0,none⟩) n c) vB A B) (hj:j<A.length) (hc:w.cell? ⟨g,j,none⟩=some u) (hu:Zab lo w1 u' x) (hg:w.grownBy w1 u.ownBlock) (hat:u'.ownBlock=u.ownBlock\/u'.ownBlock=some w.heap.size) :
  Zax lo (w1.setCell ⟨g,j,none⟩ u') (.slice (some ⟨g,0,none⟩) n c) vB (A.set j x) B:=by
 obtain⟨vs,h1,h2⟩:=h;obtain rfl:n=A.length:=by
  obtain⟨_,⟨e,_⟩ | ⟨g',cap,cur,e,_⟩⟩:=h1
  ·cases e
  ·injection e
 have hl:vs.length=A.length:=by have:=h2.len;simpa using this
 have hvj:vs[j]? = some u:=by rw[<-World.ownsRow.cellAt h1 j (by omega)];exact hc
 have h1':w1.ownsRow lo 22 1 (.slice (some ⟨g,0,none⟩) A.length c) A.length vs:=Zan h1 fun b hb=>hg.block b (World.ownsRow.lt h1 b hb).2 (fun e=>Zaz (h2.own (j+1) u hvj) (Za3 h1 hb) Zbt e.symm)
 have h3:=h2.grew (j:=j+1) hvj hu hg hat;have hs:=World.ownsRow.stored h1' j u';refine⟨vs.set j u',by simpa using hs.1,?_⟩;have hty:TyAt w1 g 22:=Za3 h1' rfl;exact h3.kept fun b _ _ hb=>Below.heap_setCell _ _ _ _ (fun e=>TyAt.ne hb hty Zbt e)
theorem Zax.snoc {lo:Nat} {w w':World} {vA v' vB u:Value} {vs:List Value} {A:List (List Int)} {B:List Int} {x:List Int} (h1:w.ownsRow lo 22 1 vA A.length vs) (h2:Zbi lo w (vB::vs) (B::A)) (hu:Zab lo w u x)
  (hap:∀(j:Nat) (u1:Value),(vB::vs)[j]? = some u1->∀b,u1.ownBlock=some b->u.ownBlock≠some b) (hown:w'.ownsRow lo 22 1 v' (A.length+1) (vs++[u])) (hg:w.grownBy w' vA.ownBlock):Zax lo w' v' vB (A++[x]) B:=by
 refine⟨vs++[u],by rw[List.length_append];exact hown,?_⟩;have h3:=h2.snoc hu hap;exact h3.kept fun b _ hlt hb=>hg.block b hlt (fun e=>TyAt.ne hb (Za3 h1 e.symm) Zbt rfl)
theorem Zbi.elem {lo j k b n c:Nat} {w:World} {vs:List Value} {L:List (List Int)} (h:Zbi lo w vs L) (hj:vs[j]? = some (.slice (some ⟨b,0,none⟩) n c)) (y:Int):Zbi lo (w.setCell ⟨b,k,none⟩ (.int .i64 y)) vs (L.set j ((rw_ L j).set k y)):=by
 have hjl:j<vs.length:=(List.getElem?_eq_some_iff.1 hj).1;have hl:=h.len;refine⟨by simpa using hl,fun i v e=>?_,h.apart⟩
 by_cases ei:i=j
 ·subst ei
  rw[hj] at e;obtain rfl:=Option.some.inj e;rw[Zfs (by omega)];have ho:=h.own i _ hj;obtain⟨a',c',e2⟩:=Zak ho;injection e2 with _ e3 _
  subst e3;have h9:=Zpm ho k y;rw[List.length_set] at h9;exact h9
 ·rw[Zia ei]
  exact Zbh (h.own i v e) (fun e2=>h.apart i j v _ ei e hj b e2 rfl)
theorem Zax.elem {lo g c n j k b n2 c2:Nat} {w:World} {vB:Value} {A:List (List Int)} {B:List Int} (h:Zax lo w (.slice (some ⟨g,0,none⟩) n c) vB A B) (hj:j<A.length) (hc:w.cell? ⟨g,j,none⟩=some (.slice (some ⟨b,0,none⟩) n2 c2)) (y:Int) :
  Zax lo (w.setCell ⟨b,k,none⟩ (.int .i64 y)) (.slice (some ⟨g,0,none⟩) n c) vB (A.set j ((rw_ A j).set k y)) B:=by
 obtain⟨vs,h1,h2⟩:=h;obtain rfl:n=A.length:=by
  obtain⟨_,⟨e,_⟩ | ⟨g',cap,cur,e,_⟩⟩:=h1
  ·cases e
  ·injection e
 have hl:vs.length=A.length:=by have:=h2.len;simpa using this
 have hvj:vs[j]? = some (.slice (some ⟨b,0,none⟩) n2 c2):=by rw[<-World.ownsRow.cellAt h1 j (by omega)];exact hc
 have hbt:=Za3 (h2.own (j+1) _ hvj) (g:=b) rfl;refine⟨vs,?_,h2.elem (j:=j+1) hvj y⟩;rw[List.length_set];exact Zbh h1 (fun e=>TyAt.ne hbt (Za3 h1 e) Zbt rfl)
open Ve (R)
theorem Za4 {w:World} {q:Nat} {x y z:Value} {t:TypeId} (h:Tri w q x y z t):TyAt w q t:=⟨_,h⟩
theorem Za0:47≠3/\47≠22/\35≠3/\35≠22/\35≠47/\3≠47/\22≠47/\3≠35/\22≠35:=by decide
theorem Za6 {w:World} {ops:Array Oper} {o:Oper} {a:Act} {K:Act->World->Prop} {Q:Exit->Act->World->Prop} {E:Prop} (hgd:o.guard=none) (s x:Operand)
  (hop:o.op=Op.call { callee:=Callee.builtin Builtin.append,args:=#[s,x],argTypes:=#[45,45] }) (lo:Nat) (vA vB:Value) (A:List (List Int)) (B:List Int) (vs:List Value) (hs:a.eval s=vA) (hown:w.ownsRow lo 22 1 vA A.length vs) (hrows:Zbi lo w (vB::vs) (B::A))
  (q:Nat) (u:Value) (r:List Int) (hx:a.eval x=.slice (some ⟨q,0,none⟩) 1 1) (hq:w.cell? ⟨q,0,none⟩=some u) (hu:Zab lo w u r) (hap:∀(j:Nat) (u1:Value),(vB::vs)[j]? = some u1->∀b,u1.ownBlock=some b->u.ownBlock≠some b) (hlen:A.length≤4000000) (hB:lo≤w.heap.size)
  (hK:∀v' w',Zax lo w' v' vB (A++[r]) B->w.grownBy w' vA.ownBlock->K (a.put o.dst v') w'):if Region.wanted o (yielded ops a.tmps)=true then Oper.wp Tryz.prog o a w K Q else E:=by
 have hw:Region.wanted o (yielded ops a.tmps)=true:=by simp[Region.wanted,hgd]
 rw[if_pos hw];obtain⟨i0,hi,hz0,hz1,hz2⟩:=info_parts Zl4;refine wp_append_own w s x 45 hop lo 22 i0 (.slice none 0 0) 1 24 Tryz.underlying45 hi hz0 hz1 hz2 rfl (by decide) vA A.length vs hs hown ⟨q,0,none⟩ 1 1 [u] hx rfl ?_ ?_ (by unfold maxLen;omega) (by omega) hB ?_
 ·intro j u' hj
  match j with
  | 0=>simp at hj;subst hj;simpa [Addr.add] using hq
  | j+1=>simp at hj
 ·intro u' hu'
  simp at hu';subst hu';obtain⟨a',c',rfl,_⟩:=Zbb hu;rfl
 ·intro v' w' h3 h4 _
  exact hK v' w' (Zax.snoc hown hrows hu hap h3 h4) h4
theorem Zbu {w:World} {ops:Array Oper} {o:Oper} {a:Act} {K:Act->World->Prop} {Q:Exit->Act->World->Prop} {E:Prop} (hgd:o.guard=none) (s x:Operand)
  (hop:o.op=Op.call { callee:=Callee.builtin Builtin.append,args:=#[s,x],argTypes:=#[36,36] }) (B:Nat) (v:Value) (xs:List R) (hs:a.eval s=v) (hown:Zad B w v xs) (b o1:Nat) (ys:List R) (n c:Nat) (hn:n=ys.length) (hx:a.eval x=.slice (some ⟨b,o1,none⟩) n c)
  (n0:Nat) (hr:Zah n0 w (some ⟨b,o1,none⟩) ys) (hlen:xs.length+ys.length≤4000000) (hB:B≤w.heap.size) (hK:∀v' w',Zad B w' v' (xs++ys)->w.grownBy w' v.ownBlock->K (a.put o.dst v') w'):if Region.wanted o (yielded ops a.tmps)=true then Oper.wp Tryz.prog o a w K Q else E:=by
 have hw:Region.wanted o (yielded ops a.tmps)=true:=by simp[Region.wanted,hgd]
 rw[if_pos hw];subst hn;obtain⟨i0,hi,hz0,hz1,hz2⟩:=info_parts Zc5;refine wp_append_own w s x 36 hop B 35 i0 (.agg #[.int .i64 0,.int .i64 0]) 2 16 Tryz.underlying36 hi hz0 hz1 hz2 rfl (by decide) v xs.length (Zau xs) hs hown ⟨b,o1,none⟩ ys.length c (Zau ys) hx (Zb3 ys) (fun j u hj=>Zh6 hr j u hj) (fun u hu=>cells_one ys u hu) (by unfold maxLen;omega) (by omega) hB ?_;intro v' w' h1 h2 _;refine hK v' w' ?_ h2;unfold Zad;rw[List.length_append,Zej];exact h1
theorem Za7 {w:World} {ops:Array Oper} {o:Oper} {a:Act} {K:Act->World->Prop} {Q:Exit->Act->World->Prop} {E:Prop} (hgd:o.guard=none) (s x:Operand)
  (hop:o.op=Op.call { callee:=Callee.builtin Builtin.append,args:=#[s,x],argTypes:=#[22,22] }) (B:Nat) (v:Value) (xs:List Int) (hs:a.eval s=v) (hown:Zab B w v xs) (b:Nat) (y:Int) (hx:a.eval x=.slice (some ⟨b,0,none⟩) 1 1)
  (hr:w.cell? ⟨b,0,none⟩=some (.int .i64 y)) (hlen:xs.length≤4000000) (hB:B≤w.heap.size) (hK:∀v' w',Zab B w' v' (xs++[y])->w.grownBy w' v.ownBlock->(v'.ownBlock=v.ownBlock\/v'.ownBlock=some w.heap.size)->K (a.put o.dst v') w'):if Region.wanted o (yielded ops a.tmps)=true then Oper.wp Tryz.prog o a w K Q else E:=by
 have hw:Region.wanted o (yielded ops a.tmps)=true:=by simp[Region.wanted,hgd]
 rw[if_pos hw];obtain⟨i0,hi,hz0,hz1,hz2⟩:=info_parts Zb9;obtain⟨v',w',hrun,h2,h3,_,h5⟩:=run_append_own_at (P:=Tryz.prog) w B 22 o.type 3 i0 (.int .i64 0) 1 8 Tryz.underlying22 hi hz0 hz1 hz2 rfl (by decide) v xs.length (xs.map (Value.int .i64)) hown ⟨b,0,none⟩ 1 1 [.int .i64 y] rfl (by
  intro j u' hj
  match j with
  | 0=>simp at hj;subst hj;simpa [Addr.add] using hr
  | j+1=>simp at hj) (by
  intro u' hu';simp at hu';subst hu';rfl) (by unfold maxLen;omega) (by omega) hB
 unfold Oper.wp execOp;simp only[hop,resolve,invoke,builtin,Sem.run_bind,Sem.run_pure,Result.andThen_ok,List.map_toArray,List.map_cons,List.map_nil,hs,hx,hrun];refine hK v' w' ?_ h3 h5;unfold Zab;rw[List.length_append,List.map_append];exact h2
theorem Zat {w:World} {ops:Array Oper} {rest:List Oper} {o:Oper} {a:Act} {Q:Exit->Act->World->Prop} (hgd:o.guard=none) (s x:Operand)
  (hop:o.op=Op.call { callee:=Callee.builtin Builtin.append,args:=#[s,x],argTypes:=#[22,22] }) (B:Nat) (v:Value) (xs:List Int) (hs:a.eval s=v) (hown:Zab B w v xs) (b:Nat) (y:Int) (hx:a.eval x=.slice (some ⟨b,0,none⟩) 1 1)
  (hr:w.cell? ⟨b,0,none⟩=some (.int .i64 y)) (hlen:xs.length≤4000000) (hB:B≤w.heap.size) (hK:∀v' w',Zab B w' v' (xs++[y])->w.grownBy w' v.ownBlock->(v'.ownBlock=v.ownBlock\/v'.ownBlock=some w.heap.size)->wpList Tryz.prog ops Q rest (a.put o.dst v') w'):wpList Tryz.prog ops Q (o::rest) a w:=by
 obtain⟨i0,hi,hz0,hz1,hz2⟩:=info_parts Zb9;refine wpList_append_own_at w hgd s x 22 hop B 3 i0 (.int .i64 0) 1 8 Tryz.underlying22 hi hz0 hz1 hz2 rfl (by decide) v xs.length (xs.map (Value.int .i64)) hs hown ⟨b,0,none⟩ 1 1 [.int .i64 y] hx rfl (by
  intro j u' hj
  match j with
  | 0=>simp at hj;subst hj;simpa [Addr.add] using hr
  | j+1=>simp at hj) (by
  intro u' hu';simp at hu';subst hu';rfl) (by unfold maxLen;omega) (by omega) hB ?_
 intro v' w' h2 h3 _ h5;refine hK v' w' ?_ h3 h5;unfold Zab;rw[List.length_append,List.map_append];exact h2
structure LpBe (q:Nat) (w wr:World) (vA vB vC:Value) (A:List (List Int)) (B:List Int) (C:List R):Prop where
 hq:w.heap.size<q
 box:Tri wr q vA vB vC 47
 res:Tri wr w.heap.size (.slice none 0 0) (.slice none 0 0) (.slice none 0 0) 47
 ab:Zax w.heap.size wr vA vB A B
 c:Zad w.heap.size wr vC C
 low:Below w.heap.size w wr
section
variable {q:Nat} {w wr:World} {vA vB vC:Value} {A:List (List Int)} {B:List Int} {C:List R}
theorem LpBe.lt (h:LpBe q w wr vA vB vC A B C):q<wr.heap.size/\w.heap.size<wr.heap.size:=by
 have h1:=Zag h.box;have:=h.hq;omega
theorem LpBe.below {w2:World} (h:LpBe q w wr vA vB vC A B C) (hb:Below wr.heap.size wr w2):LpBe q w w2 vA vB vC A B C:=
 ⟨h.hq,h.box.below hb,h.res.below hb,h.ab.below hb,Zad.below h.c hb,h.low.trans (hb.mono (by have:=h.lt;omega))⟩
theorem LpBe.alloc (h:LpBe q w wr vA vB vC A B C) (o:Obj):LpBe q w (wr.alloc o) vA vB vC A B C:=h.below ((Below.refl _ _).alloc (Nat.le_refl _) o)
theorem LpBe.triC {w3:World} (h:LpBe q w wr vA vB vC A B C) (hg:wr.grownBy w3 vC.ownBlock):Tri w3 q vA vB vC 47:=
 (hg.block q (Zag h.box) (fun e=>Zaz h.c (Za4 h.box) Za0.2.2.2.2.1 e.symm)).trans h.box
theorem LpBe.triB {w3:World} (h:LpBe q w wr vA vB vC A B C) (hg:wr.grownBy w3 vB.ownBlock):Tri w3 q vA vB vC 47:=
 (hg.block q (Zag h.box) (fun e=>Zaz h.ab.b (Za4 h.box) Za0.2.2.2.2.2.1 e.symm)).trans h.box
theorem LpBe.triA {w3:World} (h:LpBe q w wr vA vB vC A B C) (hg:wr.grownBy w3 vA.ownBlock):Tri w3 q vA vB vC 47:=
 (hg.block q (Zag h.box) (fun e=>TyAt.ne (h.ab.apart q e.symm).2.2 (Za4 h.box) Za0.2.2.2.2.2.2.1 rfl)).trans h.box
theorem LpBe.putC {w3:World} {vC':Value} {C':List R} (h:LpBe q w wr vA vB vC A B C) (hg:wr.grownBy w3 vC.ownBlock) (hC:Zad w.heap.size w3 vC' C'):LpBe q w (w3.setCell ⟨q,2,none⟩ vC') vA vB vC' A B C':=by
 have h2:=h.hq;have t:=h.triC hg;have hlo:∀g,vC.ownBlock=some g->w.heap.size≤g:=fun g hg'=>(World.ownsRow.lt h.c g hg').1
 have r:Tri w3 w.heap.size (.slice none 0 0) (.slice none 0 0) (.slice none 0 0) 47:=(hg.block _ (Zag h.res) (fun e=>Zaz h.c (Za4 h.res) Za0.2.2.2.2.1 e.symm)).trans h.res;exact⟨h2,t.set2 vC',r.other (p:=⟨q,2,none⟩) (show q≠w.heap.size by omega) vC',
  (h.ab.grown hg (fun g hg'=>Za3 h.c hg') Za0.2.2.1 Za0.2.2.2.1).set (Za4 t) Za0.1 Za0.2.1,Zbh hC (Zaz hC (Za4 t) Za0.2.2.2.2.1),
  (h.low.grown hg h.low.size hlo).setCell (p:=⟨q,2,none⟩) (show w.heap.size≤q by omega) vC'⟩
theorem LpBe.putB {w3:World} {vB':Value} {B':List Int} (h:LpBe q w wr vA vB vC A B C) (hg:wr.grownBy w3 vB.ownBlock) (hB:Zab w.heap.size w3 vB' B') (hat:vB'.ownBlock=vB.ownBlock\/vB'.ownBlock=some wr.heap.size):LpBe q w (w3.setCell ⟨q,1,none⟩ vB') vA vB' vC A B' C:=by
 have h2:=h.hq;have t:=h.triB hg;have hlo:∀g,vB.ownBlock=some g->w.heap.size≤g:=fun g hg'=>(World.ownsRow.lt h.ab.b g hg').1
 have r:Tri w3 w.heap.size (.slice none 0 0) (.slice none 0 0) (.slice none 0 0) 47:=(hg.block _ (Zag h.res) (fun e=>Zaz h.ab.b (Za4 h.res) Za0.2.2.2.2.2.1 e.symm)).trans h.res;have c3:Zad w.heap.size w3 vC C:=Zan h.c fun g hg'=>hg.block g (World.ownsRow.lt h.c g hg').2 (fun e=>Zaz h.ab.b (Za3 h.c hg') Za0.2.2.2.2.2.2.2.1 e.symm)
 exact⟨h2,t.set1 vB',r.other (p:=⟨q,1,none⟩) (show q≠w.heap.size by omega) vB',
  (h.ab.Zqj hB hg hat).set (Za4 t) Za0.1 Za0.2.1,Zbh c3 (Zaz c3 (Za4 t) Za0.2.2.2.2.1),
  (h.low.grown hg h.low.size hlo).setCell (p:=⟨q,1,none⟩) (show w.heap.size≤q by omega) vB'⟩
theorem LpBe.putA {w3:World} {vA':Value} {A':List (List Int)} (h:LpBe q w wr vA vB vC A B C) (hg:wr.grownBy w3 vA.ownBlock) (hA:Zax w.heap.size w3 vA' vB A' B):LpBe q w (w3.setCell ⟨q,0,none⟩ vA') vA' vB vC A' B C:=by
 have h2:=h.hq;have t:=h.triA hg;have hlo:∀g,vA.ownBlock=some g->w.heap.size≤g:=fun g hg'=>(h.ab.apart g hg').1
 have r:Tri w3 w.heap.size (.slice none 0 0) (.slice none 0 0) (.slice none 0 0) 47:=(hg.block _ (Zag h.res) (fun e=>TyAt.ne (h.ab.apart _ e.symm).2.2 (Za4 h.res) Za0.2.2.2.2.2.2.1 rfl)).trans h.res;have c3:Zad w.heap.size w3 vC C:=Zan h.c fun g hg'=>hg.block g (World.ownsRow.lt h.c g hg').2 (fun e=>TyAt.ne (h.ab.apart g e.symm).2.2 (Za3 h.c hg') Za0.2.2.2.2.2.2.2.2 rfl)
 exact⟨h2,t.set0 vA',r.other (p:=⟨q,0,none⟩) (show q≠w.heap.size by omega) vA',
  hA.set (Za4 t) Za0.1 Za0.2.1,Zbh c3 (Zaz c3 (Za4 t) Za0.2.2.2.2.1),
  (h.low.grown hg h.low.size hlo).setCell (p:=⟨q,0,none⟩) (show w.heap.size≤q by omega) vA'⟩
theorem LpBe.later {w2:World} (h:LpBe q w wr vA vB vC A B C) (hb:Below wr.heap.size wr w2) :
  ∃vs,w2.ownsRow w.heap.size 22 1 vA A.length vs/\Zbi w.heap.size w2 (vB::vs) (B::A)/\∀(j:Nat) (u1:Value),(vB::vs)[j]? = some u1->∀b,u1.ownBlock=some b->b<wr.heap.size:=by
 obtain⟨vs,h1,h2⟩:=h.ab;exact⟨vs,Zan h1 fun g hg=>hb.block g (World.ownsRow.lt h1 g hg).2,h2.kept fun b _ e2 _=>hb.block b e2,fun j u1 e b hb=>(World.ownsRow.lt (h2.own j u1 e) b hb).2⟩
theorem LpBe.fin (h:LpBe q w wr vA vB vC A B C) :
  Tri (((wr.setCell ⟨w.heap.size,0,none⟩ vA).setCell ⟨w.heap.size,1,none⟩ vB).setCell ⟨w.heap.size,2,none⟩ vC) w.heap.size vA vB vC 47/\
  Zax w.heap.size (((wr.setCell ⟨w.heap.size,0,none⟩ vA).setCell ⟨w.heap.size,1,none⟩ vB).setCell ⟨w.heap.size,2,none⟩ vC) vA vB A B/\
  Zad w.heap.size (((wr.setCell ⟨w.heap.size,0,none⟩ vA).setCell ⟨w.heap.size,1,none⟩ vB).setCell ⟨w.heap.size,2,none⟩ vC) vC C/\
  Below w.heap.size w (((wr.setCell ⟨w.heap.size,0,none⟩ vA).setCell ⟨w.heap.size,1,none⟩ vB).setCell ⟨w.heap.size,2,none⟩ vC):=by
 have t0:=h.res.set0 vA;have t1:=t0.set1 vB;have hc:=Zaz h.c (Za4 h.res) Za0.2.2.2.2.1;exact⟨t1.set2 vC,((h.ab.set (Za4 h.res) Za0.1 Za0.2.1).set (Za4 t0) Za0.1 Za0.2.1).set (Za4 t1) Za0.1 Za0.2.1,Zbh (Zbh (Zbh h.c hc) hc) hc,
  ((h.low.setCell (p:=⟨w.heap.size,0,none⟩) (Nat.le_refl _) vA).setCell (p:=⟨w.heap.size,1,none⟩) (Nat.le_refl _) vB).setCell (p:=⟨w.heap.size,2,none⟩) (Nat.le_refl _) vC⟩
end
def Zcj (p:Lp.P) (k:Bool) (w:World) (e:Ending) (w':World):Prop:=
 ∃vA vB vC:Value,e=.returned (.tuple #[.agg #[vA,vB,vC],.bool k])/\Zax w.heap.size w' vA vB p.A p.B/\Zad w.heap.size w' vC p.C/\Below w.heap.size w w'
end Go.Proofs.YtpjnjidbdpfdcaaGreat
