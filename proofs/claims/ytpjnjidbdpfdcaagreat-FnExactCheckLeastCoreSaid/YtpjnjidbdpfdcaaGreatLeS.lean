/- An LP in its box while it is made, with a row of integers beside it. -/
import Derived.Test.YtpjnjidbdpfdcaaGreatHLeN
import Derived.Test.YtpjnjidbdpfdcaaGreatGLk
namespace Go.Proofs.YtpjnjidbdpfdcaaGreat
open Go.RowKit
open Ve (R)
structure LsA (q:Nat) (w wr:World) (vC u:Value) (C:List R) (ls:List Int):Prop where
 be:LpBe q w wr (.slice none 0 0) (.slice none 0 0) vC [] [] C
 own:Zab w.heap.size wr u ls
theorem LsA.below {q:Nat} {w wr w2:World} {vC u:Value} {C:List R} {ls:List Int} (h:LsA q w wr vC u C ls) (hb:Below wr.heap.size wr w2):LsA q w w2 vC u C ls:=⟨h.be.below hb,h.own.below hb⟩
theorem LsA.since {q:Nat} {w wr w2:World} {vC u:Value} {C:List R} {ls:List Int} (h:LsA q w wr vC u C ls) (hs:Since wr w2):LsA q w w2 vC u C ls:=h.below hs.low
theorem LsA.alloc {q:Nat} {w wr:World} {vC u:Value} {C:List R} {ls:List Int} (h:LsA q w wr vC u C ls) (o:Obj):LsA q w (wr.alloc o) vC u C ls:=h.below ((Below.refl _ _).alloc (Nat.le_refl _) o)
theorem Zmj {lo q:Nat} {w wr w3:World} {u vC x y z vC':Value} {C:List R} {ls:List Int} (h:Zab lo wr u ls) (hC:Zad w.heap.size wr vC C) (hq:Tri wr q x y z 47) (hg:wr.grownBy w3 vC.ownBlock) (i:Nat):Zab lo (w3.setCell ⟨q,i,none⟩ vC') u ls:=by
 have h3:Zab lo w3 u ls:=Zan h fun g hg'=>hg.block g (World.ownsRow.lt h g hg').2 (fun e=>Zaz hC (Za3 h hg') Za0.2.2.1 e.symm)
 have hq3:Tri w3 q x y z 47:=(hg.block q (Zag hq) (fun e=>Zaz hC (Za4 hq) Za0.2.2.2.2.1 e.symm)).trans hq;exact Zbh h3 (Zaz h3 (Za4 hq3) Za0.2.2.2.2.2.1)
theorem LsA.putC {q:Nat} {w wr w3:World} {vC vC' u:Value} {C C':List R} {ls:List Int} (h:LsA q w wr vC u C ls) (hg:wr.grownBy w3 vC.ownBlock) (hC:Zad w.heap.size w3 vC' C'):LsA q w (w3.setCell ⟨q,2,none⟩ vC') vC' u C' ls:=
 ⟨h.be.putC hg hC,Zmj h.own h.be.c h.be.box hg 2⟩
theorem LsA.putU {q:Nat} {w wr w3:World} {vC u u':Value} {C:List R} {ls ls':List Int} (h:LsA q w wr vC u C ls) (hg:wr.grownBy w3 u.ownBlock) (hU:Zab w.heap.size w3 u' ls'):LsA q w w3 vC u' C ls':=by
 have hlo:∀g,u.ownBlock=some g->w.heap.size≤g:=fun g hg'=>(World.ownsRow.lt h.own g hg').1
 exact⟨⟨h.be.hq,(hg.block q (Zag h.be.box) (fun e=>Zaz h.own (Za4 h.be.box) Za0.2.2.2.2.2.1 e.symm)).trans h.be.box,
  (hg.block _ (Zag h.be.res) (fun e=>Zaz h.own (Za4 h.be.res) Za0.2.2.2.2.2.1 e.symm)).trans h.be.res,Zax.nil _ _,
  Zan h.be.c fun g hg'=>hg.block g (World.ownsRow.lt h.be.c g hg').2 (fun e=>Zaz h.own (Za3 h.be.c hg') Za0.2.2.2.2.2.2.2.1 e.symm),
  h.be.low.grown hg h.be.low.size hlo⟩,hU⟩
structure LsB (n q:Nat) (w wr:World) (vA vB vC u:Value) (A:List (List Int)) (B:List Int) (C:List R) (ls:List Int):Prop where
 be:LpBe q w wr vA vB vC A B C
 ab:Zax n wr vA vB A B
 own:Zab w.heap.size wr u ls
 lt:∀b,u.ownBlock=some b->b<n
 sz:w.heap.size≤n/\n≤wr.heap.size
section
variable {n q:Nat} {w wr:World} {vA vB vC u:Value} {A:List (List Int)} {B:List Int} {C:List R} {ls:List Int}
theorem LsA.rows (h:LsA q w wr vC u C ls):LsB wr.heap.size q w wr (.slice none 0 0) (.slice none 0 0) vC u [] [] C ls:=
 ⟨h.be,Zax.nil _ _,h.own,fun b hb=>(World.ownsRow.lt h.own b hb).2,Nat.le_of_lt h.be.lt.2,Nat.le_refl _⟩
theorem LsB.below {w2:World} (h:LsB n q w wr vA vB vC u A B C ls) (hb:Below wr.heap.size wr w2):LsB n q w w2 vA vB vC u A B C ls:=
 ⟨h.be.below hb,h.ab.below hb,h.own.below hb,h.lt,h.sz.1,Nat.le_trans h.sz.2 hb.size⟩
theorem LsB.alloc (h:LsB n q w wr vA vB vC u A B C ls) (o:Obj):LsB n q w (wr.alloc o) vA vB vC u A B C ls:=h.below ((Below.refl _ _).alloc (Nat.le_refl _) o)
theorem LsB.later {w2:World} (h:LsB n q w wr vA vB vC u A B C ls) (hb:Below wr.heap.size wr w2) :
  ∃vs,w2.ownsRow n 22 1 vA A.length vs/\Zbi n w2 (vB::vs) (B::A)/\∀(j:Nat) (u1:Value),(vB::vs)[j]? = some u1->∀b,u1.ownBlock=some b->b<wr.heap.size:=by
 obtain⟨vs,h1,h2⟩:=h.ab;exact⟨vs,Zan h1 fun g hg=>hb.block g (World.ownsRow.lt h1 g hg).2,h2.kept fun b _ e2 _=>hb.block b e2,fun j u1 e b hb=>(World.ownsRow.lt (h2.own j u1 e) b hb).2⟩
theorem LsB.putA {w3:World} {vA':Value} {A':List (List Int)} (h:LsB n q w wr vA vB vC u A B C ls) (hg:wr.grownBy w3 vA.ownBlock) (hA:Zax n w3 vA' vB A' B):LsB n q w (w3.setCell ⟨q,0,none⟩ vA') vA' vB vC u A' B C ls:=by
 have t:=h.be.triA hg;have h3:Zab w.heap.size w3 u ls:=Zan h.own fun g hg'=>hg.block g (World.ownsRow.lt h.own g hg').2 (fun e=>by have:=(h.ab.apart g e.symm).1;have:=h.lt g hg';omega)
 exact⟨h.be.putA hg (hA.raise h.sz.1),hA.set (Za4 t) Za0.1 Za0.2.1,Zbh h3 (Zaz h3 (Za4 t) Za0.2.2.2.2.2.1),h.lt,h.sz.1,by have:=h.sz.2;have:=hg.size;simp only[World.setCell,Array.size_modify];omega⟩
theorem LsB.putB {w3:World} {vB':Value} {B':List Int} (h:LsB n q w wr vA vB vC u A B C ls) (hg:wr.grownBy w3 vB.ownBlock) (hB:Zab n w3 vB' B') (hat:vB'.ownBlock=vB.ownBlock\/vB'.ownBlock=some wr.heap.size):LsB n q w (w3.setCell ⟨q,1,none⟩ vB') vA vB' vC u A B' C ls:=by
 have t:=h.be.triB hg;have h3:Zab w.heap.size w3 u ls:=Zan h.own fun g hg'=>hg.block g (World.ownsRow.lt h.own g hg').2 (fun e=>by have:=(World.ownsRow.lt h.ab.b g e.symm).1;have:=h.lt g hg';omega)
 exact⟨h.be.putB hg (hB.raise h.sz.1) hat,(h.ab.Zqj hB hg hat).set (Za4 t) Za0.1 Za0.2.1,Zbh h3 (Zaz h3 (Za4 t) Za0.2.2.2.2.2.1),h.lt,h.sz.1,by have:=h.sz.2;have:=hg.size;simp only[World.setCell,Array.size_modify];omega⟩
theorem LsB.Zrf {w3:World} {u':Value} {ls':List Int} (h:LsB n q w wr vA vB vC u A B C ls) (hg:wr.grownBy w3 u.ownBlock) (_:Zab w.heap.size w3 u' ls') (hat:u'.ownBlock=u.ownBlock\/u'.ownBlock=some wr.heap.size) :
  LpBe q w w3 vA vB vC A B C/\∃vs,w3.ownsRow w.heap.size 22 1 vA A.length vs/\Zbi w.heap.size w3 (vB::vs) (B::A)/\∀(j:Nat) (u1:Value),(vB::vs)[j]? = some u1->∀b,u1.ownBlock=some b->u'.ownBlock≠some b:=by
 have hlo:∀g,u.ownBlock=some g->w.heap.size≤g:=fun g hg'=>(World.ownsRow.lt h.own g hg').1
 have hk:∀b,n≤b->b<wr.heap.size->w3.heap[b]? = wr.heap[b]?:=fun b b1 b2=>hg.block b b2 (fun e=>by have:=h.lt b e.symm;omega)
 have hab:Zax n w3 vA vB A B:=h.ab.kept fun b b1 b2 _=>hk b b1 b2
 refine⟨⟨h.be.hq,(hg.block q (Zag h.be.box) (fun e=>Zaz h.own (Za4 h.be.box) Za0.2.2.2.2.2.1 e.symm)).trans h.be.box,
  (hg.block _ (Zag h.be.res) (fun e=>Zaz h.own (Za4 h.be.res) Za0.2.2.2.2.2.1 e.symm)).trans h.be.res,hab.raise h.sz.1,
  Zan h.be.c fun g hg'=>hg.block g (World.ownsRow.lt h.be.c g hg').2 (fun e=>Zaz h.own (Za3 h.be.c hg') Za0.2.2.2.2.2.2.2.1 e.symm),
  h.be.low.grown hg h.be.low.size hlo⟩,?_⟩
 obtain⟨vs,⟨e1,e2⟩,h2⟩:=h.ab;refine⟨vs,?_,⟨h2.len,fun j u1 e=>?_,h2.apart⟩,fun j u1 e b hb hb2=>?_⟩
 ·have h1:w3.ownsRow n 22 1 vA A.length vs:=Zan ⟨e1,e2⟩ fun b hb=>hk b (World.ownsRow.lt ⟨e1,e2⟩ b hb).1 (World.ownsRow.lt ⟨e1,e2⟩ b hb).2
  obtain⟨d1,d2⟩:=h1;refine⟨d1,?_⟩
  rcases d2 with d2|⟨g',cap,cur,e,hg',rest⟩
  ·exact .inl d2
  ·exact .inr ⟨g',cap,cur,e,by have:=h.sz.1;omega,rest⟩
 ·exact (show Zab n w3 u1 _ from Zan (h2.own j u1 e) fun b hb=>hk b (World.ownsRow.lt (h2.own j u1 e) b hb).1 (World.ownsRow.lt (h2.own j u1 e) b hb).2).raise h.sz.1
 ·have hr:=World.ownsRow.lt (h2.own j u1 e) b hb
  rcases hat with hat|hat
  ·rw[hat] at hb2
   have:=h.lt b hb2;omega
  ·rw[hat] at hb2
   injection hb2 with hb2
   omega
end
end Go.Proofs.YtpjnjidbdpfdcaaGreat
