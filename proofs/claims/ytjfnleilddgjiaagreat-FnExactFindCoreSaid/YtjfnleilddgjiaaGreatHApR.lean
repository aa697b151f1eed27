/- The parts QTail, TdM, ApR. -/
import Derived.Test.YtjfnleilddgjiaaGreatGB
import Derived.StillTail
import Derived.Deep.QuietTactic
import Derived.BigQuiet
import Derived.Test.YtjfnleilddgjiaaGreatGMt
import Derived.Test.YtjfnleilddgjiaaGreatHGrI
import Derived.Test.YtjfnleilddgjiaaGreatGVb
namespace Go.Proofs.YtjfnleilddgjiaaGreat
section
variable {P:Program} {ops:Array Oper} {md:Region.Mode} {C:World→Prop}
def wpHead (P:Program) (md:Region.Mode) (ops:Array Oper) (C:World→Prop) (n:Nat) (L:Array Bool→Act→Prop):Nat→Array Bool→Act→Prop
 | 0,listed,a=>L listed a
 | f+1,listed,a=>Region.ready md ops listed≠[]∧∀i∈Region.ready md ops listed,i<n∧qOp P ops C i (wpHead P md ops C n L f (listed.setIfInBounds i true)) a
theorem wpHead.any {n g:Nat} {L:Array Bool→Act→Prop} {Q':Exit→Act→World→Prop} (hL:∀listed a w,C w→L listed a→wpAny P md ops Q' g listed a w) :
  ∀(f:Nat) (listed:Array Bool) (a:Act) (w:World),C w→wpHead P md ops C n L f listed a→wpAny P md ops Q' (f+g) listed a w
 | 0,listed,a,w,hw,h=>by rw[Nat.zero_add];exact hL _ _ _ hw h
 | f+1,listed,a,w,hw,h=>by
  rw[show f+1+g=(f+g)+1 by omega]
  exact⟨fun h0=>absurd h0 h.1,fun i hi=>wpOp_of_qOp hw (fun a' w' hw' h'=>wpHead.any hL f _ a' w' hw' h') (h.2 i hi).2⟩
theorem wpHead.first {n i:Nat} {oi:Oper} {v:Value} {L:Array Bool→Act→Prop} (hi:ops[i]? = some oi) (hsel:∀(j:Nat) (o:Oper) cs b,ops[j]? = some o→o.op≠.select cs b)
  (hs:Region.sinkB md ops n=true) (hc:Region.chainB md ops n=true) (hn:n<ops.size) (hin:i<n) (hdone:∀listed a,L listed a→∀j∈Region.ready md ops listed,n≤j) :
  ∀(f:Nat) (listed:Array Bool) (a:Act),HeadInv md ops n listed→
   (∀j oj,ops[j]? = some oj→j≠i→listed.getD j true=false→(∀e∈oj.after,Region.binds md e=true→e.on≠i)→oi.apart ops oj=true)→
   i∈Region.ready md ops listed→YieldsIn P ops C oi v a→
   wpHead P md ops C n L f (listed.setIfInBounds i true) (a.put oi.dst v)→wpHead P md ops C n L (f+1) listed a:=by
 intro f
 induction f with
 | zero=>
  intro listed a inv _ hr hy H
  have hun:=(mem_ready.1 hr).1
  refine⟨fun h=>(by rw[h] at hr;cases hr),fun j hj=>?_⟩
  have hjn:j<n:=by
   rcases Nat.lt_or_ge j n with h|h
   ·exact h
   ·exact absurd hj (tail_waits hs hc hn inv _ i rfl hin hun j h)
  refine⟨hjn,?_⟩
  by_cases hji:j=i
  ·subst hji;exact hy.qOp hi H
  ·have:=hdone _ _ H j (ready_mono hj hji)
   omega
 | succ f ih=>
  intro listed a inv hfree hr hy H
  have hun:=(mem_ready.1 hr).1
  refine⟨fun h=>(by rw[h] at hr;cases hr),fun j hj=>?_⟩
  have hjn:j<n:=by
   rcases Nat.lt_or_ge j n with h|h
   ·exact h
   ·exact absurd hj (tail_waits hs hc hn inv _ i rfl hin hun j h)
  refine⟨hjn,?_⟩
  by_cases hji:j=i
  ·subst hji;exact hy.qOp hi H
  ·have h1:=(H.2 j (ready_mono hj hji)).2
   obtain⟨hjun,oj,hoj,hall⟩:=mem_ready.1 hj
   have hnot:∀e∈oj.after,Region.binds md e=true→e.on≠i:=fun e he hb heq=>by
    have h1:=hall e he hb
    rw[heq,getD_both hun] at h1
    cases h1
   have h2:=qOp_put hoj (hfree j oj hoj hji hjun hnot) (fun cs b=>hsel i oi cs b hi) (fun cs b=>hsel j oj cs b hoj) hy h1
   have hfree':∀k ok,ops[k]? = some ok→k≠i→(listed.setIfInBounds j true).getD k true=false→
     (∀e∈ok.after,Region.binds md e=true→e.on≠i)→oi.apart ops ok=true:=fun k ok hk hki hun hno=>by
    refine hfree k ok hk hki ?_ hno
    by_cases hjk:j=k
    ·subst hjk;exact hjun
    ·rw[getD_set_ne true hjk] at hun;exact hun
   refine qOp_mono (fun a' h3=>ih (listed.setIfInBounds j true) a' (inv.set hj hjn) hfree' (ready_mono hr (Ne.symm hji)) h3.1 ?_) h2
   rw[Array.setIfInBounds_comm _ _ hji]
   exact h3.2
theorem wpHead.lex {n g:Nat} {Lq:Act→Prop} (hsel:Region.noSelect ops=true) (hs:Region.sinkB md ops n=true) (hc:Region.chainB md ops n=true) (hn:n<ops.size) :
  ∀(l:List Oper) (k:Nat) (listed:Array Bool) (a:Act),(∀j,j<l.length→l[j]? = ops[k+j]?)→k+l.length=n→HeadInv md ops n listed→
  Region.lexHead md ops g l.length k listed=true→wpQuiet P ops C Lq l a→wpHead P md ops C n (fun listed' a'=>Region.seqB md ops g n listed'=true∧Lq a') l.length listed a
 | [],k,listed,a,_,hk,_,hB,h=>by
  have:k=n:=by simpa using hk
  subst this
  exact⟨by simpa [Region.lexHead] using hB,h⟩
 | o::l,k,listed,a,hl,hk,inv,hB,h=>by
  have h0:ops[k]? = some o:=by simpa using (hl 0 (by simp)).symm
  simp only[List.length_cons,Region.lexHead,Bool.and_eq_true] at hB
  obtain⟨⟨hr,hf⟩,hB'⟩:=hB
  have hkn:k<n:=by simp only[List.length_cons] at hk;omega
  have hr':k∈Region.ready md ops listed:=by simpa using hr
  have hst:qOp P ops C k (wpQuiet P ops C Lq l) a:=by unfold qOp;simp only[h0];exact h
  obtain⟨v,hy,hK⟩:=yieldsIn_of_qOp h0 hst
  exact wpHead.first h0 (Region.noSelect_spec hsel) hs hc hn hkn (fun listed' a' hL=>seqB_ready hL.1) l.length listed a inv (Region.free_spec h0 hf) hr' hy
   (wpHead.lex hsel hs hc hn l (k+1) _ _ (fun j hj=>by have:=hl (j+1) (by simp;omega);simpa [Nat.add_assoc,Nat.add_comm 1 j] using this) (by simp only[List.length_cons] at hk;omega) (inv.set hr' hkn) hB' hK)
theorem region_quiet_tail {id:Nat} {Q:Exit→Act→World→Prop} {a:Act} {w:World} {l:List Oper} (n:Nat) (hm:P.follows .mixedOrders=true) (hB:Region.lexTailB .any l.toArray n=true)
  (h:wpQuiet P l.toArray (fun w'=>∃m,w'=w.drewN m) (fun a'=>∀w',(∃m,w'=w.drewN m)→wpList P l.toArray Q (l.drop n) a' w') (l.take n) a):(Code.region id l.toArray true).wp P Q a w:=by
 simp only[Region.lexTailB,Bool.and_eq_true,decide_eq_true_eq] at hB
 obtain⟨⟨⟨⟨hsel,hn⟩,hs⟩,hc⟩,hlex⟩:=hB
 have hn':n<l.length:=by simpa using hn
 have htl:(l.take n).length=n:=by simp;omega
 have hdl:(l.drop n).length=l.toArray.size-n:=by simp
 have inv0:HeadInv .any l.toArray n (Array.replicate l.toArray.size false):=
  ⟨by simp,fun j oj _ hl=>(by rw[getD_replicate_false] at hl;cases hl),fun t _ ht=>getD_in (by simpa using ht) (getD_replicate_false _ _)⟩
 have H:=wpHead.lex (md:=.any) (g:=l.toArray.size-n) hsel hs hc hn (l.take n) 0 _ a (fun j hj=>by
  have hj':j<n:=by rw[htl] at hj;exact hj
  simp[hj']) (by simpa using htl) inv0 (by rw[htl];exact hlex) h
 refine wp_region_any hm ?_
 have:=wpHead.any (Q':=Q) (g:=l.toArray.size-n) (fun listed a' w' hw' hL=>by
  have:=wpAny_of_seq (md:=.any) (Q':=Q) (l.drop n) n listed a' w' (fun j=>by simp[List.getElem?_drop]) (by rw[hdl];exact hL.1) (hL.2 w' hw')
  rwa [hdl] at this) _ _ _ _ ⟨1,rfl⟩ H
 rw[htl,show n+(l.toArray.size-n)=l.toArray.size by omega] at this
 exact this
end
end Go.Proofs.YtjfnleilddgjiaaGreat
namespace Go.Proofs.YtjfnleilddgjiaaGreat.Ta
open Ve (R at_)
theorem neg_is {x:R} (h:Ve.vld x=true):negR x=(-x.1,x.2):=by
 have:=Ra.vld_yes h
 unfold negR w64
 rw[show (-x.1+9223372036854775808) % 18446744073709551616-9223372036854775808=-x.1 by omega]
theorem upto_at {f:Nat→R×Bool} {n j:Nat} (h:j<n):at_ (Ve.upto f n) j=(f j).1:=by simp[at_,Ve.upto,h]
theorem dv_at {l:List R} {y:R} {j:Nat} (h:dvK l y=true) (hj:j<l.length):at_ (dvR l y) j=divR (at_ l j) y∧divK (at_ l j) y=true:=by
 unfold dvR
 unfold dvK at h
 rw[Ve.out_yes h,upto_at hj]
 exact⟨rfl,Ve.allK_yes h _ hj⟩
theorem sc_at {a b:List R} {k:R} {j:Nat} (h:Ve.scK a k b=true) (hj:j<a.length):at_ (Ve.scR a k b) j=Ve.addR (at_ a j) (Ve.mulR k (at_ b j))∧Ve.addK (at_ a j) (Ve.mulR k (at_ b j))=true:=by
 unfold Ve.scK at h
 unfold Ve.scR
 simp only[Bool.and_eq_true,decide_eq_true_eq] at h
 rw[if_pos h.1,Ve.out_yes h.2,upto_at hj]
 exact⟨rfl,Ve.allK_yes h.2 _ hj⟩
end Go.Proofs.YtjfnleilddgjiaaGreat.Ta
namespace Go.Proofs.YtjfnleilddgjiaaGreat
open Go.RowKit
open Ve (R)
theorem ratsIn_cells {n:Nat} {w:World} {b o:Nat} {ys:List R} (h:RatsIn n w (some ⟨b,o,none⟩) ys):∀j u,(cellsR ys)[j]? = some u→w.cell? ((⟨b,o,none⟩:Addr).add j)=some u:=fun j u hu=>by
 have hlt:j<ys.length*2:=by have:=(List.getElem?_eq_some_iff.1 hu).1;rw[cellsR_len] at this;exact this
 obtain⟨b',o',e,_,c0,c1⟩:=h.at (j / 2) (by omega)
 obtain⟨rfl,rfl⟩:b=b'∧o=o':=by injection e with e;injection e with e1 e2;exact⟨e1,e2⟩
 obtain⟨e0,e1⟩:=cellsR_at ys (j / 2) _ (Ve.at_get (by omega:j / 2<ys.length))
 rw[Addr.add_lit]
 rcases Nat.mod_two_eq_zero_or_one j with hm|hm
 ·rw[show j / 2*2=j by omega] at e0 c0
  rw[e0] at hu
  rw[c0,←hu]
 ·rw[show j / 2*2+1=j by omega] at e1
  rw[show o+j / 2*2+1=o+j by omega] at c1
  rw[e1] at hu
  rw[c1,←hu]
theorem cells_append:∀(xs ys:List R),cellsR (xs++ys)=cellsR xs++cellsR ys
 | [],_=>rfl
 | x::xs,ys=>by simp only[cellsR,List.cons_append,cells_append xs ys]
theorem cells_one:∀(xs:List R) (v:Value),v∈cellsR xs→v.oneCell'=true
 | [],v,h=>by simp[cellsR] at h
 | x::xs,v,h=>by
  simp only[cellsR,List.mem_cons] at h
  rcases h with rfl|rfl|h
  ·rfl
  ·rfl
  ·exact cells_one xs v h
theorem wpList_append_rats {w:World} {ops:Array Oper} {rest:List Oper} {o:Oper} {a:Act} {Q:Exit→Act→World→Prop} (hg:o.guard=none) (s x:Operand)
  (hop:o.op=Op.call { callee:=Callee.builtin Builtin.append,args:=#[s,x],argTypes:=#[26,26] }) (B:Nat) (v:Value) (xs:List R) (hs:a.eval s=v) (hown:OwnRats B w v xs) (ad:Option Addr) (ys:List R) (n c:Nat) (hn:n=ys.length) (hx:a.eval x=.slice ad n c)
  (n0:Nat) (hr:RatsIn n0 w ad ys) (hlen:xs.length+ys.length≤4000000) (hB:B≤w.heap.size) (hK:∀v' w',OwnRats B w' v' (xs++ys)→w.grownBy w' v.ownBlock→wpList Tryz.prog ops Q rest (a.put o.dst v') w'):wpList Tryz.prog ops Q (o::rest) a w:=by
 subst hn
 obtain⟨i0,hi,hz0,hz1,hz2⟩:=info_parts info_rat
 cases ad with
 | none=>
  have h0:ys = []:=by
   cases ys with
   | nil=>rfl
   | cons y ys=>obtain⟨b,o,e,_⟩:=hr 0 y rfl;cases e
  subst h0
  refine wpList_plain hg fun K hK'=>?_
  have hrun:=run_append_none (P:=Tryz.prog) (w:=w) B 26 o.type 59 i0 2 Tryz.underlying26 hi v xs.length _ c hown
  unfold Oper.wp
  simp only[List.length_nil] at hx
  simp[execOp,hop,resolve,invoke,builtin,hs,hx,hrun,Result.andThen]
  exact hK' _ _ (hK v w (by simpa using hown) (World.grownBy.refl _ _))
 | some q=>
  obtain⟨b,o1,sp⟩:=q
  refine wpList_append_own _ hg s x 26 hop B 59 i0 (.agg #[.int .i64 0,.int .i64 0]) 2 16 Tryz.underlying26 hi hz0 hz1 hz2 rfl (by decide) v xs.length (cellsR xs) hs hown ⟨b,o1,sp⟩ ys.length c (cellsR ys) hx (cellsR_len ys) ?_ (fun u hu=>cells_one ys u hu) (by unfold maxLen;omega) (by omega) hB ?_
  ·intro j u hj
   have hlt:j<ys.length*2:=by have:=(List.getElem?_eq_some_iff.1 hj).1;rw[cellsR_len] at this;exact this
   obtain⟨b',o',e,_⟩:=hr.at (j / 2) (by omega)
   have e2:sp=none:=by
    simp only[Option.some.injEq,Addr.mk.injEq] at e
    exact e.2.2
   subst e2
   exact ratsIn_cells hr j u hj
  ·intro v' w' h1 h2 _
   refine hK v' w' ?_ h2
   unfold OwnRats
   rw[List.length_append,cells_append]
   exact h1
theorem one_rat (w:World) (x:R):RatsIn (w.heap.size+1) (w.alloc (.cells #[.int .i64 x.1,.int .i64 x.2] 59)) (some ⟨w.heap.size,0,none⟩) [x]:=fun j y hj=>by
 match j with
 | 0=>
  simp at hj
  subst hj
  have h:=(BoxAt.new w x).four
  exact⟨w.heap.size,0,rfl,Nat.lt_succ_self _,h.1,h.2.1⟩
 | j+1=>simp at hj
end Go.Proofs.YtjfnleilddgjiaaGreat
