/- The parts QTail, LeS. -/
import Derived.Test.YtlohljkfphljgaaGreatGB
import Derived.StillTail
import Derived.Deep.QuietTactic
import Derived.BigQuiet
import Derived.Test.YtlohljkfphljgaaGreatGLk
import Derived.Test.YtlohljkfphljgaaGreatCrA
namespace Go.Proofs.YtlohljkfphljgaaGreat
section
variable {P:Program} {ops:Array Oper} {md:Region.Mode} {C:World->Prop}
def Zfz (P:Program) (md:Region.Mode) (ops:Array Oper) (C:World->Prop) (n:Nat) (L:Array Bool->Act->Prop):Nat->Array Bool->Act->Prop
 | 0,listed,a=>L listed a
 | f+1,listed,a=>Region.ready md ops listed≠[]/\∀i∈Region.ready md ops listed,i<n/\qOp P ops C i (Zfz P md ops C n L f (listed.setIfInBounds i true)) a
theorem Zfz.any {n g:Nat} {L:Array Bool->Act->Prop} {Q':Exit->Act->World->Prop} (hL:∀listed a w,C w->L listed a->wpAny P md ops Q' g listed a w) :
  ∀(f:Nat) (listed:Array Bool) (a:Act) (w:World),C w->Zfz P md ops C n L f listed a->wpAny P md ops Q' (f+g) listed a w
 | 0,listed,a,w,hw,h=>by rw[Nat.zero_add];exact hL _ _ _ hw h
 | f+1,listed,a,w,hw,h=>by
  rw[show f+1+g=(f+g)+1 by omega];exact⟨fun h0=>absurd h0 h.1,fun i hi=>wpOp_of_qOp hw (fun a' w' hw' h'=>Zfz.any hL f _ a' w' hw' h') (h.2 i hi).2⟩
theorem Zfz.first {n i:Nat} {oi:Oper} {v:Value} {L:Array Bool->Act->Prop} (hi:ops[i]? = some oi) (hsel:∀(j:Nat) (o:Oper) cs b,ops[j]? = some o->o.op≠.select cs b)
  (hs:Region.sinkB md ops n=true) (hc:Region.chainB md ops n=true) (hn:n<ops.size) (hin:i<n) (hdone:∀listed a,L listed a->∀j∈Region.ready md ops listed,n≤j) :
  ∀(f:Nat) (listed:Array Bool) (a:Act),HeadInv md ops n listed->
   (∀j oj,ops[j]? = some oj->j≠i->listed.getD j true=false->(∀e∈oj.after,Region.binds md e=true->e.on≠i)->oi.apart ops oj=true)->
   i∈Region.ready md ops listed->YieldsIn P ops C oi v a->
   Zfz P md ops C n L f (listed.setIfInBounds i true) (a.put oi.dst v)->Zfz P md ops C n L (f+1) listed a:=by
 intro f
 induction f with
 | zero=>
  intro listed a inv _ hr hy H;have hun:=(mem_ready.1 hr).1;refine⟨fun h=>(by rw[h] at hr;cases hr),fun j hj=>?_⟩;have hjn:j<n:=by
   rcases Nat.lt_or_ge j n with h|h
   ·exact h
   ·exact absurd hj (tail_waits hs hc hn inv _ i rfl hin hun j h)
  refine⟨hjn,?_⟩
  by_cases hji:j=i
  ·subst hji;exact hy.qOp hi H
  ·have:=hdone _ _ H j (ready_mono hj hji)
   omega
 | succ f ih=>
  intro listed a inv hfree hr hy H;have hun:=(mem_ready.1 hr).1;refine⟨fun h=>(by rw[h] at hr;cases hr),fun j hj=>?_⟩;have hjn:j<n:=by
   rcases Nat.lt_or_ge j n with h|h
   ·exact h
   ·exact absurd hj (tail_waits hs hc hn inv _ i rfl hin hun j h)
  refine⟨hjn,?_⟩
  by_cases hji:j=i
  ·subst hji;exact hy.qOp hi H
  ·have h1:=(H.2 j (ready_mono hj hji)).2
   obtain⟨hjun,oj,hoj,hall⟩:=mem_ready.1 hj;have hnot:∀e∈oj.after,Region.binds md e=true->e.on≠i:=fun e he hb heq=>by
    have h1:=hall e he hb;rw[heq,getD_both hun] at h1;cases h1
   have h2:=qOp_put hoj (hfree j oj hoj hji hjun hnot) (fun cs b=>hsel i oi cs b hi) (fun cs b=>hsel j oj cs b hoj) hy h1;have hfree':∀k ok,ops[k]? = some ok->k≠i->(listed.setIfInBounds j true).getD k true=false->
     (∀e∈ok.after,Region.binds md e=true->e.on≠i)->oi.apart ops ok=true:=fun k ok hk hki hun hno=>by
    refine hfree k ok hk hki ?_ hno
    by_cases hjk:j=k
    ·subst hjk;exact hjun
    ·rw[getD_set_ne true hjk] at hun;exact hun
   refine qOp_mono (fun a' h3=>ih (listed.setIfInBounds j true) a' (inv.set hj hjn) hfree' (ready_mono hr (Ne.symm hji)) h3.1 ?_) h2;rw[Array.setIfInBounds_comm _ _ hji];exact h3.2
theorem Zfz.lex {n g:Nat} {Lq:Act->Prop} (hsel:Region.noSelect ops=true) (hs:Region.sinkB md ops n=true) (hc:Region.chainB md ops n=true) (hn:n<ops.size) :
  ∀(l:List Oper) (k:Nat) (listed:Array Bool) (a:Act),(∀j,j<l.length->l[j]? = ops[k+j]?)->k+l.length=n->HeadInv md ops n listed->
  Region.lexHead md ops g l.length k listed=true->wpQuiet P ops C Lq l a->Zfz P md ops C n (fun listed' a'=>Region.seqB md ops g n listed'=true/\Lq a') l.length listed a
 | [],k,listed,a,_,hk,_,hB,h=>by
  have:k=n:=by simpa using hk
  subst this;exact⟨by simpa [Region.lexHead] using hB,h⟩
 | o::l,k,listed,a,hl,hk,inv,hB,h=>by
  have h0:ops[k]? = some o:=by simpa using (hl 0 (by simp)).symm
  simp only[List.length_cons,Region.lexHead,Bool.and_eq_true] at hB;obtain⟨⟨hr,hf⟩,hB'⟩:=hB;have hkn:k<n:=by simp only[List.length_cons] at hk;omega
  have hr':k∈Region.ready md ops listed:=by simpa using hr
  have hst:qOp P ops C k (wpQuiet P ops C Lq l) a:=by unfold qOp;simp only[h0];exact h
  obtain⟨v,hy,hK⟩:=yieldsIn_of_qOp h0 hst;exact Zfz.first h0 (Region.noSelect_spec hsel) hs hc hn hkn (fun listed' a' hL=>seqB_ready hL.1) l.length listed a inv (Region.free_spec h0 hf) hr' hy
   (Zfz.lex hsel hs hc hn l (k+1) _ _ (fun j hj=>by have:=hl (j+1) (by simp;omega);simpa [Nat.add_assoc,Nat.add_comm 1 j] using this) (by simp only[List.length_cons] at hk;omega) (inv.set hr' hkn) hB' hK)
theorem Zi8 {id:Nat} {Q:Exit->Act->World->Prop} {a:Act} {w:World} {l:List Oper} (n:Nat) (hm:P.follows .mixedOrders=true) (hB:Region.lexTailB .any l.toArray n=true)
  (h:wpQuiet P l.toArray (fun w'=>∃m,w'=w.drewN m) (fun a'=>∀w',(∃m,w'=w.drewN m)->wpList P l.toArray Q (l.drop n) a' w') (l.take n) a):(Code.region id l.toArray true).wp P Q a w:=by
 simp only[Region.lexTailB,Bool.and_eq_true,decide_eq_true_eq] at hB;obtain⟨⟨⟨⟨hsel,hn⟩,hs⟩,hc⟩,hlex⟩:=hB;have hn':n<l.length:=by simpa using hn
 have htl:(l.take n).length=n:=by simp;omega
 have hdl:(l.drop n).length=l.toArray.size-n:=by simp
 have inv0:HeadInv .any l.toArray n (Array.replicate l.toArray.size false):=
  ⟨by simp,fun j oj _ hl=>(by rw[getD_replicate_false] at hl;cases hl),fun t _ ht=>getD_in (by simpa using ht) (getD_replicate_false _ _)⟩
 have H:=Zfz.lex (md:=.any) (g:=l.toArray.size-n) hsel hs hc hn (l.take n) 0 _ a (fun j hj=>by
  have hj':j<n:=by rw[htl] at hj;exact hj
  simp[hj']) (by simpa using htl) inv0 (by rw[htl];exact hlex) h
 refine wp_region_any hm ?_;have:=Zfz.any (Q':=Q) (g:=l.toArray.size-n) (fun listed a' w' hw' hL=>by
  have:=wpAny_of_seq (md:=.any) (Q':=Q) (l.drop n) n listed a' w' (fun j=>by simp[List.getElem?_drop]) (by rw[hdl];exact hL.1) (hL.2 w' hw')
  rwa [hdl] at this) _ _ _ _ ⟨1,rfl⟩ H
 rw[htl,show n+(l.toArray.size-n)=l.toArray.size by omega] at this;exact this
end
open Go.RowKit
open Ve (R)
structure LsA (q:Nat) (w wr:World) (vC u:Value) (C:List R) (ls:List Int):Prop where
 be:LpBe q w wr (.slice none 0 0) (.slice none 0 0) vC [] [] C
 own:Zad w.heap.size wr u ls
theorem LsA.below {q:Nat} {w wr w2:World} {vC u:Value} {C:List R} {ls:List Int} (h:LsA q w wr vC u C ls) (hb:Below wr.heap.size wr w2):LsA q w w2 vC u C ls:=⟨h.be.below hb,h.own.below hb⟩
theorem LsA.since {q:Nat} {w wr w2:World} {vC u:Value} {C:List R} {ls:List Int} (h:LsA q w wr vC u C ls) (hs:Since wr w2):LsA q w w2 vC u C ls:=h.below hs.low
theorem LsA.alloc {q:Nat} {w wr:World} {vC u:Value} {C:List R} {ls:List Int} (h:LsA q w wr vC u C ls) (o:Obj):LsA q w (wr.alloc o) vC u C ls:=h.below ((Below.refl _ _).alloc (Nat.le_refl _) o)
theorem Zwd {lo q:Nat} {w wr w3:World} {u vC x y z vC':Value} {C:List R} {ls:List Int} (h:Zad lo wr u ls) (hC:Zaa w.heap.size wr vC C) (hq:Tri wr q x y z 28) (hg:wr.grownBy w3 vC.ownBlock) (i:Nat):Zad lo (w3.setCell ⟨q,i,none⟩ vC') u ls:=by
 have h3:Zad lo w3 u ls:=Zak h fun g hg'=>hg.block g (World.ownsRow.lt h g hg').2 (fun e=>Za7 hC (Zav h hg') Zbk.2.2.1 e.symm)
 have hq3:Tri w3 q x y z 28:=(hg.block q (Zab hq) (fun e=>Za7 hC (Zax hq) Zbk.2.2.2.2.1 e.symm)).trans hq;exact Zao h3 (Za7 h3 (Zax hq3) Zbk.2.2.2.2.2.1)
theorem LsA.putC {q:Nat} {w wr w3:World} {vC vC' u:Value} {C C':List R} {ls:List Int} (h:LsA q w wr vC u C ls) (hg:wr.grownBy w3 vC.ownBlock) (hC:Zaa w.heap.size w3 vC' C'):LsA q w (w3.setCell ⟨q,2,none⟩ vC') vC' u C' ls:=
 ⟨h.be.putC hg hC,Zwd h.own h.be.c h.be.box hg 2⟩
theorem LsA.putU {q:Nat} {w wr w3:World} {vC u u':Value} {C:List R} {ls ls':List Int} (h:LsA q w wr vC u C ls) (hg:wr.grownBy w3 u.ownBlock) (hU:Zad w.heap.size w3 u' ls'):LsA q w w3 vC u' C ls':=by
 have hlo:∀g,u.ownBlock=some g->w.heap.size≤g:=fun g hg'=>(World.ownsRow.lt h.own g hg').1
 exact⟨⟨h.be.hq,(hg.block q (Zab h.be.box) (fun e=>Za7 h.own (Zax h.be.box) Zbk.2.2.2.2.2.1 e.symm)).trans h.be.box,
  (hg.block _ (Zab h.be.res) (fun e=>Za7 h.own (Zax h.be.res) Zbk.2.2.2.2.2.1 e.symm)).trans h.be.res,Zbd.nil _ _,
  Zak h.be.c fun g hg'=>hg.block g (World.ownsRow.lt h.be.c g hg').2 (fun e=>Za7 h.own (Zav h.be.c hg') Zbk.2.2.2.2.2.2.2.1 e.symm),
  h.be.low.grown hg h.be.low.size hlo⟩,hU⟩
structure LsB (n q:Nat) (w wr:World) (vA vB vC u:Value) (A:List (List Int)) (B:List Int) (C:List R) (ls:List Int):Prop where
 be:LpBe q w wr vA vB vC A B C
 ab:Zbd n wr vA vB A B
 own:Zad w.heap.size wr u ls
 lt:∀b,u.ownBlock=some b->b<n
 sz:w.heap.size≤n/\n≤wr.heap.size
section
variable {n q:Nat} {w wr:World} {vA vB vC u:Value} {A:List (List Int)} {B:List Int} {C:List R} {ls:List Int}
theorem LsA.rows (h:LsA q w wr vC u C ls):LsB wr.heap.size q w wr (.slice none 0 0) (.slice none 0 0) vC u [] [] C ls:=
 ⟨h.be,Zbd.nil _ _,h.own,fun b hb=>(World.ownsRow.lt h.own b hb).2,Nat.le_of_lt h.be.lt.2,Nat.le_refl _⟩
theorem LsB.below {w2:World} (h:LsB n q w wr vA vB vC u A B C ls) (hb:Below wr.heap.size wr w2):LsB n q w w2 vA vB vC u A B C ls:=
 ⟨h.be.below hb,h.ab.below hb,h.own.below hb,h.lt,h.sz.1,Nat.le_trans h.sz.2 hb.size⟩
theorem LsB.alloc (h:LsB n q w wr vA vB vC u A B C ls) (o:Obj):LsB n q w (wr.alloc o) vA vB vC u A B C ls:=h.below ((Below.refl _ _).alloc (Nat.le_refl _) o)
theorem LsB.later {w2:World} (h:LsB n q w wr vA vB vC u A B C ls) (hb:Below wr.heap.size wr w2) :
  ∃vs,w2.ownsRow n 25 1 vA A.length vs/\Zc1 n w2 (vB::vs) (B::A)/\∀(j:Nat) (u1:Value),(vB::vs)[j]? = some u1->∀b,u1.ownBlock=some b->b<wr.heap.size:=by
 obtain⟨vs,h1,h2⟩:=h.ab;exact⟨vs,Zak h1 fun g hg=>hb.block g (World.ownsRow.lt h1 g hg).2,h2.kept fun b _ e2 _=>hb.block b e2,fun j u1 e b hb=>(World.ownsRow.lt (h2.own j u1 e) b hb).2⟩
theorem LsB.putA {w3:World} {vA':Value} {A':List (List Int)} (h:LsB n q w wr vA vB vC u A B C ls) (hg:wr.grownBy w3 vA.ownBlock) (hA:Zbd n w3 vA' vB A' B):LsB n q w (w3.setCell ⟨q,0,none⟩ vA') vA' vB vC u A' B C ls:=by
 have t:=h.be.triA hg;have h3:Zad w.heap.size w3 u ls:=Zak h.own fun g hg'=>hg.block g (World.ownsRow.lt h.own g hg').2 (fun e=>by have:=(h.ab.apart g e.symm).1;have:=h.lt g hg';omega)
 exact⟨h.be.putA hg (hA.raise h.sz.1),hA.set (Zax t) Zbk.1 Zbk.2.1,Zao h3 (Za7 h3 (Zax t) Zbk.2.2.2.2.2.1),h.lt,h.sz.1,by have:=h.sz.2;have:=hg.size;simp only[World.setCell,Array.size_modify];omega⟩
theorem LsB.putB {w3:World} {vB':Value} {B':List Int} (h:LsB n q w wr vA vB vC u A B C ls) (hg:wr.grownBy w3 vB.ownBlock) (hB:Zad n w3 vB' B') (hat:vB'.ownBlock=vB.ownBlock\/vB'.ownBlock=some wr.heap.size):LsB n q w (w3.setCell ⟨q,1,none⟩ vB') vA vB' vC u A B' C ls:=by
 have t:=h.be.triB hg;have h3:Zad w.heap.size w3 u ls:=Zak h.own fun g hg'=>hg.block g (World.ownsRow.lt h.own g hg').2 (fun e=>by have:=(World.ownsRow.lt h.ab.b g e.symm).1;have:=h.lt g hg';omega)
 exact⟨h.be.putB hg (hB.raise h.sz.1) hat,(h.ab.Z2i hB hg hat).set (Zax t) Zbk.1 Zbk.2.1,Zao h3 (Za7 h3 (Zax t) Zbk.2.2.2.2.2.1),h.lt,h.sz.1,by have:=h.sz.2;have:=hg.size;simp only[World.setCell,Array.size_modify];omega⟩
theorem LsB.Z3t {w3:World} {u':Value} {ls':List Int} (h:LsB n q w wr vA vB vC u A B C ls) (hg:wr.grownBy w3 u.ownBlock) (_:Zad w.heap.size w3 u' ls') (hat:u'.ownBlock=u.ownBlock\/u'.ownBlock=some wr.heap.size) :
  LpBe q w w3 vA vB vC A B C/\∃vs,w3.ownsRow w.heap.size 25 1 vA A.length vs/\Zc1 w.heap.size w3 (vB::vs) (B::A)/\∀(j:Nat) (u1:Value),(vB::vs)[j]? = some u1->∀b,u1.ownBlock=some b->u'.ownBlock≠some b:=by
 have hlo:∀g,u.ownBlock=some g->w.heap.size≤g:=fun g hg'=>(World.ownsRow.lt h.own g hg').1
 have hk:∀b,n≤b->b<wr.heap.size->w3.heap[b]? = wr.heap[b]?:=fun b b1 b2=>hg.block b b2 (fun e=>by have:=h.lt b e.symm;omega)
 have hab:Zbd n w3 vA vB A B:=h.ab.kept fun b b1 b2 _=>hk b b1 b2
 refine⟨⟨h.be.hq,(hg.block q (Zab h.be.box) (fun e=>Za7 h.own (Zax h.be.box) Zbk.2.2.2.2.2.1 e.symm)).trans h.be.box,
  (hg.block _ (Zab h.be.res) (fun e=>Za7 h.own (Zax h.be.res) Zbk.2.2.2.2.2.1 e.symm)).trans h.be.res,hab.raise h.sz.1,
  Zak h.be.c fun g hg'=>hg.block g (World.ownsRow.lt h.be.c g hg').2 (fun e=>Za7 h.own (Zav h.be.c hg') Zbk.2.2.2.2.2.2.2.1 e.symm),
  h.be.low.grown hg h.be.low.size hlo⟩,?_⟩
 obtain⟨vs,⟨e1,e2⟩,h2⟩:=h.ab;refine⟨vs,?_,⟨h2.len,fun j u1 e=>?_,h2.apart⟩,fun j u1 e b hb hb2=>?_⟩
 ·have h1:w3.ownsRow n 25 1 vA A.length vs:=Zak ⟨e1,e2⟩ fun b hb=>hk b (World.ownsRow.lt ⟨e1,e2⟩ b hb).1 (World.ownsRow.lt ⟨e1,e2⟩ b hb).2
  obtain⟨d1,d2⟩:=h1;refine⟨d1,?_⟩
  rcases d2 with d2|⟨g',cap,cur,e,hg',rest⟩
  ·exact .inl d2
  ·exact .inr ⟨g',cap,cur,e,by have:=h.sz.1;omega,rest⟩
 ·exact (show Zad n w3 u1 _ from Zak (h2.own j u1 e) fun b hb=>hk b (World.ownsRow.lt (h2.own j u1 e) b hb).1 (World.ownsRow.lt (h2.own j u1 e) b hb).2).raise h.sz.1
 ·have hr:=World.ownsRow.lt (h2.own j u1 e) b hb
  rcases hat with hat|hat
  ·rw[hat] at hb2
   have:=h.lt b hb2;omega
  ·rw[hat] at hb2
   injection hb2 with hb2
   omega
end
end Go.Proofs.YtlohljkfphljgaaGreat
