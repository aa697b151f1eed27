/- The parts HeldT, TdM, ApR. -/
import Derived.Test.YtlohljkfphljgaaGreatGB
import Derived.StillTail
import Derived.Deep.RegionHeld3
import Derived.Test.YtlohljkfphljgaaGreatGMt
import Derived.Test.YtlohljkfphljgaaGreatHGrI
import Derived.Test.YtlohljkfphljgaaGreatGVb
namespace Go.Proofs.YtlohljkfphljgaaGreat
section
variable {P:Program} {ops:Array Oper} {Q:Exit->Act->World->Prop} {md:Region.Mode} {S:World->Prop} {n:Nat}
def Zdl (P:Program) (md:Region.Mode) (ops:Array Oper) (Q:Exit->Act->World->Prop) (S:World->Prop) (n:Nat):Nat->Array Bool->Act->World->Prop
 | 0,listed,a,w=>Region.ready md ops listed = []/\Q .normal a w
 | fuel+1,listed,a,w=>(Region.ready md ops listed = []->Q .normal a w)/\
  ∀i∈Region.ready md ops listed,wpOp P ops Q i (fun a' w'=>(i<n->S w')/\Zdl P md ops Q S n fuel (listed.setIfInBounds i true) a' w') a w
theorem Zng:∀(fuel:Nat) (listed:Array Bool) (a:Act) (w:World),Zdl P md ops Q S n fuel listed a w->wpAny P md ops Q fuel listed a w
 | 0,_,_,_,h=>h
 | fuel+1,_,_,_,h=>⟨h.1,fun i hi=>wpOp_mono (fun a' w' h'=>Zng fuel _ a' w' h'.2) (h.2 i hi)⟩
theorem Zqk {i:Nat} {oi:Oper} {v:Value} (hi:ops[i]? = some oi) (hsel:∀(j:Nat) (o:Oper) cs b,ops[j]? = some o->o.op≠.select cs b)
  (hs:Region.sinkB md ops n=true) (hc:Region.chainB md ops n=true) (hn:n<ops.size) (hin:i<n)
  (hQ:∀c a w,Q (.panic c) (a.put oi.dst v) w->Q (.panic c) a w) :
  ∀(fuel:Nat) (listed:Array Bool) (a:Act) (w:World),HeadInv md ops n listed->
   (∀j oj,ops[j]? = some oj->j≠i->listed.getD j true=false->(∀e∈oj.after,Region.binds md e=true->e.on≠i)->oi.apart ops oj=true)->
   i∈Region.ready md ops listed->YieldsIf P ops S oi v a->S w->
   Zdl P md ops Q S n fuel (listed.setIfInBounds i true) (a.put oi.dst v) w->Zdl P md ops Q S n (fuel+1) listed a w:=by
 intro fuel
 induction fuel with
 | zero=>
  intro listed a w _ _ hr hy hS H;refine⟨fun h=>(by rw[h] at hr;cases hr),fun j hj=>?_⟩
  by_cases hji:j=i
  ·subst hji;exact hy.wpOp hi hS ⟨fun _=>hS,H⟩
  ·have:=ready_mono hj hji
   rw[H.1] at this;cases this
 | succ fuel ih=>
  intro listed a w inv hfree hr hy hS H;have hun:=(mem_ready.1 hr).1;refine⟨fun h=>(by rw[h] at hr;cases hr),fun j hj=>?_⟩
  by_cases hji:j=i
  ·subst hji;exact hy.wpOp hi hS ⟨fun _=>hS,H⟩
  ·have hjn:j<n:=by
    rcases Nat.lt_or_ge j n with h|h
    ·exact h
    ·exact absurd hj (tail_waits hs hc hn inv _ i rfl hin hun j h)
   have h1:=H.2 j (ready_mono hj hji);obtain⟨hjun,oj,hoj,hall⟩:=mem_ready.1 hj;have hnot:∀e∈oj.after,Region.binds md e=true->e.on≠i:=fun e he hb heq=>by
    have h1:=hall e he hb;rw[heq,getD_both hun] at h1;cases h1
   have h2:=wpOp_putIf hoj (hfree j oj hoj hji hjun hnot) (fun cs b=>hsel i oi cs b hi) (fun cs b=>hsel j oj cs b hoj) hQ hy h1;have hfree':∀k ok,ops[k]? = some ok->k≠i->(listed.setIfInBounds j true).getD k true=false->
     (∀e∈ok.after,Region.binds md e=true->e.on≠i)->oi.apart ops ok=true:=fun k ok hk hki hun hno=>by
    refine hfree k ok hk hki ?_ hno
    by_cases hjk:j=k
    ·subst hjk;exact hjun
    ·rw[getD_set_ne true hjk] at hun;exact hun
   refine wpOp_mono (fun a' w' h3=>⟨h3.2.1,ih (listed.setIfInBounds j true) a' w' (inv.set hj hjn) hfree' (ready_mono hr (Ne.symm hji)) h3.1 (h3.2.1 hjn) ?_⟩) h2;rw[Array.setIfInBounds_comm _ _ hji];exact h3.2.2
def Region.Z0x (md:Region.Mode) (ops:Array Oper) (n:Nat) (listed:Array Bool):Bool:=
 decide (listed.size=ops.size) && ((List.range ops.size).all fun j=>!listed.getD j false || ((ops[j]?).map fun o=>o.after.toList.all fun e=>!Region.binds md e || listed.getD e.on false).getD true) &&
  (List.range ops.size).all fun t=>decide (t<n) || !listed.getD t true
theorem Zt1 {listed:Array Bool} (h:Region.Z0x md ops n listed=true):HeadInv md ops n listed:=by
 simp only[Region.Z0x,Bool.and_eq_true,decide_eq_true_eq] at h;obtain⟨⟨h1,h2⟩,h3⟩:=h;refine⟨h1,fun j oj hj hl e he hb=>?_,fun t ht ht'=>?_⟩
 ·have hlt:j<ops.size:=(Array.getElem?_eq_some_iff.1 hj).1
  have:=List.all_eq_true.1 h2 j (List.mem_range.2 hlt);rw[hl,hj] at this;simp only[Bool.not_true,Bool.false_or,Option.map_some,Option.getD_some] at this;have:=List.all_eq_true.1 this e (Array.mem_toList_iff.2 he);rw[hb] at this
  simpa using this
 ·have:=List.all_eq_true.1 h3 t (List.mem_range.2 ht')
  simp only[Bool.or_eq_true,decide_eq_true_eq,Bool.not_eq_true'] at this;exact this.resolve_left (by omega)
def Region.takeB (md:Region.Mode) (ops:Array Oper) (n:Nat) (listed:Array Bool) (i:Nat):Bool:=
 Region.noSelect ops && (decide (n<ops.size) && (decide (i<n) && (Region.sinkB md ops n && (Region.chainB md ops n && (Region.Z0x md ops n listed && (Region.free md ops listed i && (Region.ready md ops listed).contains i))))))
theorem Zl9 {i:Nat} {oi:Oper} {v:Value} {fuel:Nat} {listed:Array Bool} {a:Act} {w:World} (hi:ops[i]? = some oi)
  (hB:Region.takeB md ops n listed i=true) (hQ:∀c a w,Q (.panic c) (a.put oi.dst v) w->Q (.panic c) a w) (hy:YieldsIf P ops S oi v a) (hS:S w)
  (h:Zdl P md ops Q S n fuel (listed.setIfInBounds i true) (a.put oi.dst v) w):Zdl P md ops Q S n (fuel+1) listed a w:=by
 simp only[Region.takeB,Bool.and_eq_true,decide_eq_true_eq] at hB;obtain⟨b1,b2,b3,b4,b5,b6,b7,b8⟩:=hB;exact Zqk hi (Region.noSelect_spec b1) b4 b5 b2 b3 hQ fuel listed a w (Zt1 b6) (Region.free_spec hi b7) (by simpa using b8) hy hS h
theorem tkTu {i:Nat} {oi:Oper} {fuel:Nat} {listed:Array Bool} {a:Act} {w:World} (hi:ops[i]? = some oi)
  (hS:S w) (h:Zdl P md ops Q S n fuel (listed.setIfInBounds i true) (a.put oi.dst undef) w)
  (hB:Region.takeB md ops n listed i=true:=by kernel_rfl) (hQ:∀c a w,Q (.panic c) (a.put oi.dst undef) w->Q (.panic c) a w:=by exact fun _ _ _ h=>h) (hw:Region.wanted oi (yielded ops a.tmps)=false:=by rfl):Zdl P md ops Q S n (fuel+1) listed a w:=
 Zl9 hi hB hQ (Or.inr ⟨hw,rfl⟩) hS h
def Zay (P:Program) (md:Region.Mode) (ops:Array Oper) (Q:Exit->Act->World->Prop) (S:World->Prop) (n fuel:Nat) (listed:Array Bool) (a:Act) (w:World) (rs:List Nat):Prop:=
 ∀i∈rs,wpOp P ops Q i (fun a' w'=>(i<n->S w')/\Zdl P md ops Q S n fuel (listed.setIfInBounds i true) a' w') a w
theorem Zay.nil {fuel:Nat} {listed:Array Bool} {a:Act} {w:World}:Zay P md ops Q S n fuel listed a w []:=fun _ h=>by cases h
theorem Zay.cons {fuel:Nat} {listed:Array Bool} {a:Act} {w:World} {i:Nat} {o:Oper} {rs:List Nat} (ho:ops[i]? = some o)
  (h:∀K':Act->World->Prop,Shut (∀a w,S w->(S w->Zdl P md ops Q S n fuel (listed.setIfInBounds i true) a w)->K' a w)->if Region.wanted o (yielded ops a.tmps)=true then Oper.wp P o a w K' Q else K' (a.put o.dst undef) w)
  (hs:Zay P md ops Q S n fuel listed a w rs):Zay P md ops Q S n fuel listed a w (i::rs):=fun j hj=>by
 rcases List.mem_cons.1 hj with rfl|hj
 ·exact wpOp_step ho (fun K' hK=>h K' (fun a w hS hW=>hK a w ⟨fun _=>hS,hW hS⟩))
 ·exact hs j hj
theorem Zay.last {fuel:Nat} {listed:Array Bool} {a:Act} {w:World} {i:Nat} {o:Oper} {rs:List Nat} (ho:ops[i]? = some o) (hn:decide (n≤i)=true)
  (h:∀K':Act->World->Prop,Shut (∀a w,Zdl P md ops Q S n fuel (listed.setIfInBounds i true) a w->K' a w)->if Region.wanted o (yielded ops a.tmps)=true then Oper.wp P o a w K' Q else K' (a.put o.dst undef) w)
  (hs:Zay P md ops Q S n fuel listed a w rs):Zay P md ops Q S n fuel listed a w (i::rs):=fun j hj=>by
 rcases List.mem_cons.1 hj with rfl|hj
 ·refine wpOp_step ho (fun K' hK=>h K' (fun a w hW=>hK a w ⟨fun hlt=>?_,hW⟩))
  have:=of_decide_eq_true hn;omega
 ·exact hs j hj
theorem Zct {rs:List Nat} {fuel:Nat} {listed:Array Bool} {a:Act} {w:World} (hr:Region.ready md ops listed=rs) (hne:rs≠[])
  (h:Zay P md ops Q S n fuel listed a w rs):Zdl P md ops Q S n (fuel+1) listed a w:=⟨fun h0=>absurd (hr▸h0) hne,hr▸h⟩
theorem Zal {listed:Array Bool} {a:Act} {w:World} (hr:Region.ready md ops listed = []) (h:Q .normal a w) :
  ∀fuel,Zdl P md ops Q S n fuel listed a w
 | 0=>⟨hr,h⟩
 | _+1=>⟨fun _=>h,by rw[hr];simp⟩
theorem Zaf {id:Nat} (n:Nat) {a:Act} {w:World} (hm:P.follows .mixedOrders=true) (hS:S w.drew)
  (h:S w.drew->Zdl P .any ops Q S n ops.size (Array.replicate ops.size false) a w.drew):(Code.region id ops true).wp P Q a w:=
 wp_region_any hm (Zng _ _ _ _ (h hS))
theorem tk2 {fuel:Nat} {listed:Array Bool} {a:Act} {w:World} (i:Nat) (oi:Oper) {v:Value} (h:Zdl P md ops Q S n fuel (listed.setIfInBounds i true) (a.put oi.dst v) w) (hi:ops[i]? = some oi:=by rfl)
  (hy:∀w,S w->(execOp a.eval oi).run P w=.ok (.value v) w:=by intro w hSw;(try dsimp only at hSw);go_simp;try (with_reducible rfl)) (hS:S w:=by assumption)
  (hB:Region.takeB md ops n listed i=true:=by kernel_rfl) (hQ:∀c a w,Q (.panic c) (a.put oi.dst v) w->Q (.panic c) a w:=by exact fun _ _ _ h=>h) (hw:Region.wanted oi (yielded ops a.tmps)=true:=by rfl):Zdl P md ops Q S n (fuel+1) listed a w:=
 Zl9 hi hB hQ (Or.inl ⟨hw,hy⟩) hS h
theorem rd2 {fuel:Nat} {listed:Array Bool} {a:Act} {w:World} (i:Nat) (o:Oper)
  (h:∀K':Act->World->Prop,Shut (∀a w,S w->(S w->Zdl P md ops Q S n fuel (listed.setIfInBounds i true) a w)->K' a w)->if Region.wanted o (yielded ops a.tmps)=true then Oper.wp P o a w K' Q else K' (a.put o.dst undef) w)
  (hr:Region.ready md ops listed = [i]:=by kernel_rfl) (ho:ops[i]? = some o:=by rfl):Zdl P md ops Q S n (fuel+1) listed a w:=Zct hr (by simp) (Zay.cons ho h Zay.nil)
theorem rd3 {fuel:Nat} {listed:Array Bool} {a:Act} {w:World} (i:Nat) (o:Oper)
  (h:∀K':Act->World->Prop,Shut (∀a w,Zdl P md ops Q S n fuel (listed.setIfInBounds i true) a w->K' a w)->if Region.wanted o (yielded ops a.tmps)=true then Oper.wp P o a w K' Q else K' (a.put o.dst undef) w)
  (hr:Region.ready md ops listed = [i]:=by kernel_rfl) (ho:ops[i]? = some o:=by rfl) (hn:decide (n≤i)=true:=by rfl):Zdl P md ops Q S n (fuel+1) listed a w:=Zct hr (by simp) (Zay.last ho hn h Zay.nil)
end
end Go.Proofs.YtlohljkfphljgaaGreat
namespace Go.Proofs.YtlohljkfphljgaaGreat.Ta
open Ve (R at_)
theorem Z2p {x:R} (h:Ve.vld x=true):negR x=(-x.1,x.2):=by
 have:=Ra.Zch h;unfold negR w64;rw[show (-x.1+9223372036854775808) % 18446744073709551616-9223372036854775808=-x.1 by omega]
theorem upto_at {f:Nat->R×Bool} {n j:Nat} (h:j<n):at_ (Ve.upto f n) j=(f j).1:=by simp[at_,Ve.upto,h]
theorem Z3p {l:List R} {y:R} {j:Nat} (h:dvK l y=true) (hj:j<l.length):at_ (dvR l y) j=divR (at_ l j) y/\divK (at_ l j) y=true:=by
 unfold dvR;unfold dvK at h;rw[Ve.Zds h,upto_at hj];exact⟨rfl,Ve.Zg4 h _ hj⟩
theorem Z1m {a b:List R} {k:R} {j:Nat} (h:Ve.scK a k b=true) (hj:j<a.length):at_ (Ve.scR a k b) j=Ve.addR (at_ a j) (Ve.mulR k (at_ b j))/\Ve.addK (at_ a j) (Ve.mulR k (at_ b j))=true:=by
 unfold Ve.scK at h;unfold Ve.scR;simp only[Bool.and_eq_true,decide_eq_true_eq] at h;rw[if_pos h.1,Ve.Zds h.2,upto_at hj];exact⟨rfl,Ve.Zg4 h.2 _ hj⟩
end Go.Proofs.YtlohljkfphljgaaGreat.Ta
namespace Go.Proofs.YtlohljkfphljgaaGreat
open Go.RowKit
open Ve (R)
theorem Zgt {n:Nat} {w:World} {b o:Nat} {ys:List R} (h:Zah n w (some ⟨b,o,none⟩) ys):∀j u,(Zaq ys)[j]? = some u->w.cell? ((⟨b,o,none⟩:Addr).add j)=some u:=fun j u hu=>by
 have hlt:j<ys.length*2:=by have:=(List.getElem?_eq_some_iff.1 hu).1;rw[Zb7] at this;exact this
 obtain⟨b',o',e,_,c0,c1⟩:=h.at (j / 2) (by omega);obtain⟨rfl,rfl⟩:b=b'/\o=o':=by injection e with e;injection e with e1 e2;exact⟨e1,e2⟩
 obtain⟨e0,e1⟩:=Zkn ys (j / 2) _ (Ve.Zzw (by omega:j / 2<ys.length));rw[Addr.add_lit]
 rcases Nat.mod_two_eq_zero_or_one j with hm|hm
 ·rw[show j / 2*2=j by omega] at e0 c0
  rw[e0] at hu;rw[c0,<-hu]
 ·rw[show j / 2*2+1=j by omega] at e1
  rw[show o+j / 2*2+1=o+j by omega] at c1;rw[e1] at hu;rw[c1,<-hu]
theorem Ze8:∀(xs ys:List R),Zaq (xs++ys)=Zaq xs++Zaq ys
 | [],_=>rfl
 | x::xs,ys=>by simp only[Zaq,List.cons_append,Ze8 xs ys]
theorem cells_one:∀(xs:List R) (v:Value),v∈Zaq xs->v.oneCell'=true
 | [],v,h=>by simp[Zaq] at h
 | x::xs,v,h=>by
  simp only[Zaq,List.mem_cons] at h
  rcases h with rfl|rfl|h
  ·rfl
  ·rfl
  ·exact cells_one xs v h
theorem Zaj {w:World} {ops:Array Oper} {rest:List Oper} {o:Oper} {a:Act} {Q:Exit->Act->World->Prop} (hg:o.guard=none) (s x:Operand)
  (hop:o.op=Op.call { callee:=Callee.builtin Builtin.append,args:=#[s,x],argTypes:=#[26,26] }) (B:Nat) (v:Value) (xs:List R) (hs:a.eval s=v) (hown:Zaa B w v xs) (ad:Option Addr) (ys:List R) (n c:Nat) (hn:n=ys.length) (hx:a.eval x=.slice ad n c)
  (n0:Nat) (hr:Zah n0 w ad ys) (hlen:xs.length+ys.length≤4000000) (hB:B≤w.heap.size) (hK:∀v' w',Zaa B w' v' (xs++ys)->w.grownBy w' v.ownBlock->wpList Tryz.prog ops Q rest (a.put o.dst v') w'):wpList Tryz.prog ops Q (o::rest) a w:=by
 subst hn;obtain⟨i0,hi,hz0,hz1,hz2⟩:=info_parts Zeo;cases ad with
 | none=>
  have h0:ys = []:=by
   cases ys with
   | nil=>rfl
   | cons y ys=>obtain⟨b,o,e,_⟩:=hr 0 y rfl;cases e
  subst h0;refine wpList_plain hg fun K hK'=>?_
  have hrun:=Zdt (P:=Tryz.prog) (w:=w) B 26 o.type 31 i0 2 Tryz.underlying26 hi v xs.length _ c hown;unfold Oper.wp;simp only[List.length_nil] at hx;simp[execOp,hop,resolve,invoke,builtin,hs,hx,hrun,Result.andThen];exact hK' _ _ (hK v w (by simpa using hown) (World.grownBy.refl _ _))
 | some q=>
  obtain⟨b,o1,sp⟩:=q;refine wpList_append_own _ hg s x 26 hop B 31 i0 (.agg #[.int .i64 0,.int .i64 0]) 2 16 Tryz.underlying26 hi hz0 hz1 hz2 rfl (by decide) v xs.length (Zaq xs) hs hown ⟨b,o1,sp⟩ ys.length c (Zaq ys) hx (Zb7 ys) ?_ (fun u hu=>cells_one ys u hu) (by unfold maxLen;omega) (by omega) hB ?_
  ·intro j u hj
   have hlt:j<ys.length*2:=by have:=(List.getElem?_eq_some_iff.1 hj).1;rw[Zb7] at this;exact this
   obtain⟨b',o',e,_⟩:=hr.at (j / 2) (by omega);have e2:sp=none:=by
    simp only[Option.some.injEq,Addr.mk.injEq] at e;exact e.2.2
   subst e2;exact Zgt hr j u hj
  ·intro v' w' h1 h2 _
   refine hK v' w' ?_ h2;unfold Zaa;rw[List.length_append,Ze8];exact h1
theorem Zb2 (w:World) (x:R):Zah (w.heap.size+1) (w.alloc (.cells #[.int .i64 x.1,.int .i64 x.2] 31)) (some ⟨w.heap.size,0,none⟩) [x]:=fun j y hj=>by
 match j with
 | 0=>
  simp at hj;subst hj;have h:=(Zau.new w x).four;exact⟨w.heap.size,0,rfl,Nat.lt_succ_self _,h.1,h.2.1⟩
 | j+1=>simp at hj
end Go.Proofs.YtlohljkfphljgaaGreat
