/- A region that draws its order, a condition S held behind each operation before number n, and behind none from n on: what stands there (an append, a store) comes last, in its order. -/
import Derived.Test.YtpjnjidbdpfdcaaGreatGB
import Derived.StillTail
import Derived.Deep.RegionHeld3
namespace Go.Proofs.YtpjnjidbdpfdcaaGreat
section
variable {P:Program} {ops:Array Oper} {Q:Exit->Act->World->Prop} {md:Region.Mode} {S:World->Prop} {n:Nat}
def Zbn (P:Program) (md:Region.Mode) (ops:Array Oper) (Q:Exit->Act->World->Prop) (S:World->Prop) (n:Nat):Nat->Array Bool->Act->World->Prop
 | 0,listed,a,w=>Region.ready md ops listed = []/\Q .normal a w
 | fuel+1,listed,a,w=>(Region.ready md ops listed = []->Q .normal a w)/\
  ∀i∈Region.ready md ops listed,wpOp P ops Q i (fun a' w'=>(i<n->S w')/\Zbn P md ops Q S n fuel (listed.setIfInBounds i true) a' w') a w
theorem Zgr:∀(fuel:Nat) (listed:Array Bool) (a:Act) (w:World),Zbn P md ops Q S n fuel listed a w->wpAny P md ops Q fuel listed a w
 | 0,_,_,_,h=>h
 | fuel+1,_,_,_,h=>⟨h.1,fun i hi=>wpOp_mono (fun a' w' h'=>Zgr fuel _ a' w' h'.2) (h.2 i hi)⟩
theorem Zik {i:Nat} {oi:Oper} {v:Value} (hi:ops[i]? = some oi) (hsel:∀(j:Nat) (o:Oper) cs b,ops[j]? = some o->o.op≠.select cs b)
  (hs:Region.sinkB md ops n=true) (hc:Region.chainB md ops n=true) (hn:n<ops.size) (hin:i<n)
  (hQ:∀c a w,Q (.panic c) (a.put oi.dst v) w->Q (.panic c) a w) :
  ∀(fuel:Nat) (listed:Array Bool) (a:Act) (w:World),HeadInv md ops n listed->
   (∀j oj,ops[j]? = some oj->j≠i->listed.getD j true=false->(∀e∈oj.after,Region.binds md e=true->e.on≠i)->oi.apart ops oj=true)->
   i∈Region.ready md ops listed->YieldsIf P ops S oi v a->S w->
   Zbn P md ops Q S n fuel (listed.setIfInBounds i true) (a.put oi.dst v) w->Zbn P md ops Q S n (fuel+1) listed a w:=by
 intro fuel
 induction fuel with
 | zero=>
  intro listed a w _ _ hr hy hS H;refine⟨fun h=>(by rw[h] at hr;cases hr),fun j hj=>?_⟩
  by_cases hji:j=i
  ·subst hji;exact hy.wpOp hi hS ⟨fun _=>hS,H⟩
  ·have:=ready_mono hj hji
   rw[H.1] at this;cases this
 | succ fuel ih=>
  intro listed a w inv hfree hr hy hS H;have hun:=(mem_ready.1 hr).1;refine⟨fun h=>(by rw[h] at hr;cases hr),fun j hj=>?_⟩
  by_cases hji:j=i
  ·subst hji;exact hy.wpOp hi hS ⟨fun _=>hS,H⟩
  ·have hjn:j<n:=by
    rcases Nat.lt_or_ge j n with h|h
    ·exact h
    ·exact absurd hj (tail_waits hs hc hn inv _ i rfl hin hun j h)
   have h1:=H.2 j (ready_mono hj hji);obtain⟨hjun,oj,hoj,hall⟩:=mem_ready.1 hj;have hnot:∀e∈oj.after,Region.binds md e=true->e.on≠i:=fun e he hb heq=>by
    have h1:=hall e he hb;rw[heq,getD_both hun] at h1;cases h1
   have h2:=wpOp_putIf hoj (hfree j oj hoj hji hjun hnot) (fun cs b=>hsel i oi cs b hi) (fun cs b=>hsel j oj cs b hoj) hQ hy h1;have hfree':∀k ok,ops[k]? = some ok->k≠i->(listed.setIfInBounds j true).getD k true=false->
     (∀e∈ok.after,Region.binds md e=true->e.on≠i)->oi.apart ops ok=true:=fun k ok hk hki hun hno=>by
    refine hfree k ok hk hki ?_ hno
    by_cases hjk:j=k
    ·subst hjk;exact hjun
    ·rw[getD_set_ne true hjk] at hun;exact hun
   refine wpOp_mono (fun a' w' h3=>⟨h3.2.1,ih (listed.setIfInBounds j true) a' w' (inv.set hj hjn) hfree' (ready_mono hr (Ne.symm hji)) h3.1 (h3.2.1 hjn) ?_⟩) h2;rw[Array.setIfInBounds_comm _ _ hji];exact h3.2.2
def Region.Zpb (md:Region.Mode) (ops:Array Oper) (n:Nat) (listed:Array Bool):Bool:=
 decide (listed.size=ops.size) && ((List.range ops.size).all fun j=>!listed.getD j false || ((ops[j]?).map fun o=>o.after.toList.all fun e=>!Region.binds md e || listed.getD e.on false).getD true) &&
  (List.range ops.size).all fun t=>decide (t<n) || !listed.getD t true
theorem Zk1 {listed:Array Bool} (h:Region.Zpb md ops n listed=true):HeadInv md ops n listed:=by
 simp only[Region.Zpb,Bool.and_eq_true,decide_eq_true_eq] at h;obtain⟨⟨h1,h2⟩,h3⟩:=h;refine⟨h1,fun j oj hj hl e he hb=>?_,fun t ht ht'=>?_⟩
 ·have hlt:j<ops.size:=(Array.getElem?_eq_some_iff.1 hj).1
  have:=List.all_eq_true.1 h2 j (List.mem_range.2 hlt);rw[hl,hj] at this;simp only[Bool.not_true,Bool.false_or,Option.map_some,Option.getD_some] at this;have:=List.all_eq_true.1 this e (Array.mem_toList_iff.2 he);rw[hb] at this
  simpa using this
 ·have:=List.all_eq_true.1 h3 t (List.mem_range.2 ht')
  simp only[Bool.or_eq_true,decide_eq_true_eq,Bool.not_eq_true'] at this;exact this.resolve_left (by omega)
def Region.takeB (md:Region.Mode) (ops:Array Oper) (n:Nat) (listed:Array Bool) (i:Nat):Bool:=
 Region.noSelect ops && (decide (n<ops.size) && (decide (i<n) && (Region.sinkB md ops n && (Region.chainB md ops n && (Region.Zpb md ops n listed && (Region.free md ops listed i && (Region.ready md ops listed).contains i))))))
theorem Zf0 {i:Nat} {oi:Oper} {v:Value} {fuel:Nat} {listed:Array Bool} {a:Act} {w:World} (hi:ops[i]? = some oi)
  (hB:Region.takeB md ops n listed i=true) (hQ:∀c a w,Q (.panic c) (a.put oi.dst v) w->Q (.panic c) a w) (hy:YieldsIf P ops S oi v a) (hS:S w)
  (h:Zbn P md ops Q S n fuel (listed.setIfInBounds i true) (a.put oi.dst v) w):Zbn P md ops Q S n (fuel+1) listed a w:=by
 simp only[Region.takeB,Bool.and_eq_true,decide_eq_true_eq] at hB;obtain⟨b1,b2,b3,b4,b5,b6,b7,b8⟩:=hB;exact Zik hi (Region.noSelect_spec b1) b4 b5 b2 b3 hQ fuel listed a w (Zk1 b6) (Region.free_spec hi b7) (by simpa using b8) hy hS h
theorem tkTu {i:Nat} {oi:Oper} {fuel:Nat} {listed:Array Bool} {a:Act} {w:World} (hi:ops[i]? = some oi)
  (hS:S w) (h:Zbn P md ops Q S n fuel (listed.setIfInBounds i true) (a.put oi.dst undef) w)
  (hB:Region.takeB md ops n listed i=true:=by kernel_rfl) (hQ:∀c a w,Q (.panic c) (a.put oi.dst undef) w->Q (.panic c) a w:=by exact fun _ _ _ h=>h) (hw:Region.wanted oi (yielded ops a.tmps)=false:=by rfl):Zbn P md ops Q S n (fuel+1) listed a w:=
 Zf0 hi hB hQ (Or.inr ⟨hw,rfl⟩) hS h
def Zay (P:Program) (md:Region.Mode) (ops:Array Oper) (Q:Exit->Act->World->Prop) (S:World->Prop) (n fuel:Nat) (listed:Array Bool) (a:Act) (w:World) (rs:List Nat):Prop:=
 ∀i∈rs,wpOp P ops Q i (fun a' w'=>(i<n->S w')/\Zbn P md ops Q S n fuel (listed.setIfInBounds i true) a' w') a w
theorem Zay.nil {fuel:Nat} {listed:Array Bool} {a:Act} {w:World}:Zay P md ops Q S n fuel listed a w []:=fun _ h=>by cases h
theorem Zay.cons {fuel:Nat} {listed:Array Bool} {a:Act} {w:World} {i:Nat} {o:Oper} {rs:List Nat} (ho:ops[i]? = some o)
  (h:∀K':Act->World->Prop,Shut (∀a w,S w->(S w->Zbn P md ops Q S n fuel (listed.setIfInBounds i true) a w)->K' a w)->if Region.wanted o (yielded ops a.tmps)=true then Oper.wp P o a w K' Q else K' (a.put o.dst undef) w)
  (hs:Zay P md ops Q S n fuel listed a w rs):Zay P md ops Q S n fuel listed a w (i::rs):=fun j hj=>by
 rcases List.mem_cons.1 hj with rfl|hj
 ·exact wpOp_step ho (fun K' hK=>h K' (fun a w hS hW=>hK a w ⟨fun _=>hS,hW hS⟩))
 ·exact hs j hj
theorem Zay.last {fuel:Nat} {listed:Array Bool} {a:Act} {w:World} {i:Nat} {o:Oper} {rs:List Nat} (ho:ops[i]? = some o) (hn:decide (n≤i)=true)
  (h:∀K':Act->World->Prop,Shut (∀a w,Zbn P md ops Q S n fuel (listed.setIfInBounds i true) a w->K' a w)->if Region.wanted o (yielded ops a.tmps)=true then Oper.wp P o a w K' Q else K' (a.put o.dst undef) w)
  (hs:Zay P md ops Q S n fuel listed a w rs):Zay P md ops Q S n fuel listed a w (i::rs):=fun j hj=>by
 rcases List.mem_cons.1 hj with rfl|hj
 ·refine wpOp_step ho (fun K' hK=>h K' (fun a w hW=>hK a w ⟨fun hlt=>?_,hW⟩))
  have:=of_decide_eq_true hn;omega
 ·exact hs j hj
theorem Zcc {rs:List Nat} {fuel:Nat} {listed:Array Bool} {a:Act} {w:World} (hr:Region.ready md ops listed=rs) (hne:rs≠[])
  (h:Zay P md ops Q S n fuel listed a w rs):Zbn P md ops Q S n (fuel+1) listed a w:=⟨fun h0=>absurd (hr▸h0) hne,hr▸h⟩
theorem Zas {listed:Array Bool} {a:Act} {w:World} (hr:Region.ready md ops listed = []) (h:Q .normal a w) :
  ∀fuel,Zbn P md ops Q S n fuel listed a w
 | 0=>⟨hr,h⟩
 | _+1=>⟨fun _=>h,by rw[hr];simp⟩
theorem Zai {id:Nat} (n:Nat) {a:Act} {w:World} (hm:P.follows .mixedOrders=true) (hS:S w.drew)
  (h:S w.drew->Zbn P .any ops Q S n ops.size (Array.replicate ops.size false) a w.drew):(Code.region id ops true).wp P Q a w:=
 wp_region_any hm (Zgr _ _ _ _ (h hS))
theorem tk2 {fuel:Nat} {listed:Array Bool} {a:Act} {w:World} (i:Nat) (oi:Oper) {v:Value} (h:Zbn P md ops Q S n fuel (listed.setIfInBounds i true) (a.put oi.dst v) w) (hi:ops[i]? = some oi:=by rfl)
  (hy:∀w,S w->(execOp a.eval oi).run P w=.ok (.value v) w:=by intro w hSw;(try dsimp only at hSw);go_simp;try (with_reducible rfl)) (hS:S w:=by assumption)
  (hB:Region.takeB md ops n listed i=true:=by kernel_rfl) (hQ:∀c a w,Q (.panic c) (a.put oi.dst v) w->Q (.panic c) a w:=by exact fun _ _ _ h=>h) (hw:Region.wanted oi (yielded ops a.tmps)=true:=by rfl):Zbn P md ops Q S n (fuel+1) listed a w:=
 Zf0 hi hB hQ (Or.inl ⟨hw,hy⟩) hS h
theorem rd2 {fuel:Nat} {listed:Array Bool} {a:Act} {w:World} (i:Nat) (o:Oper)
  (h:∀K':Act->World->Prop,Shut (∀a w,S w->(S w->Zbn P md ops Q S n fuel (listed.setIfInBounds i true) a w)->K' a w)->if Region.wanted o (yielded ops a.tmps)=true then Oper.wp P o a w K' Q else K' (a.put o.dst undef) w)
  (hr:Region.ready md ops listed = [i]:=by kernel_rfl) (ho:ops[i]? = some o:=by rfl):Zbn P md ops Q S n (fuel+1) listed a w:=Zcc hr (by simp) (Zay.cons ho h Zay.nil)
theorem rd3 {fuel:Nat} {listed:Array Bool} {a:Act} {w:World} (i:Nat) (o:Oper)
  (h:∀K':Act->World->Prop,Shut (∀a w,Zbn P md ops Q S n fuel (listed.setIfInBounds i true) a w->K' a w)->if Region.wanted o (yielded ops a.tmps)=true then Oper.wp P o a w K' Q else K' (a.put o.dst undef) w)
  (hr:Region.ready md ops listed = [i]:=by kernel_rfl) (ho:ops[i]? = some o:=by rfl) (hn:decide (n≤i)=true:=by rfl):Zbn P md ops Q S n (fuel+1) listed a w:=Zcc hr (by simp) (Zay.last ho hn h Zay.nil)
end
end Go.Proofs.YtpjnjidbdpfdcaaGreat
