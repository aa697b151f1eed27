/- spec.IsBalancedCollection, impl.IsBalancedCollection. -/
import Derived.Test.YtjfnleilddgjiaaGreatCrB
import Derived.Test.YtjfnleilddgjiaaGreatGLb
import Derived.Test.YtjfnleilddgjiaaGreatGLp
import Derived.Test.YtjfnleilddgjiaaGreatHLkCo
import Derived.Test.YtjfnleilddgjiaaGreatGLi
import Derived.Test.YtjfnleilddgjiaaGreatHLkCo
namespace Go.Proofs.YtjfnleilddgjiaaGreat
open Go.RowKit
open Ve (R)
open Gm (G)
namespace Cr
theorem shape_n {n:Int} {w:List R} (h:¬(1≤n∧n≤5)):shapeOk n w=false:=by unfold shapeOk;rw[decide_eq_false h];rfl
theorem shape_len {m:Nat} {w:List R} (h:w.length≠2 ^ m-1):shapeOk (m:Int) w=false:=by
 unfold shapeOk
 rw[Int.toNat_natCast,decide_eq_false h]
 simp
end Cr
theorem cr_cells (b:Nat):∀(L:List (List Int)),(∀r∈L,r.length≤b)→cellsOf L≤L.length*b
 | [],_=>by simp[cellsOf]
 | r::L,h=>by
  have h1:=cr_cells b L fun x hx=>h x (List.mem_cons_of_mem _ hx)
  have h2:=h r (by simp)
  simp only[cellsOf,List.length_cons,Nat.succ_mul]
  omega
theorem bal_small (g:G):lpN (Cr.bal g)≤1048576:=by
 unfold lpN
 rcases hv:Gm.vld g with _|_
 ·rw[Cr.bal_no hv]
  simp[Cr.lp0,cellsOf]
 ·rw[Cr.bal_yes hv]
  have hn:=Gm.vld_n hv
  have hl:=Gm.vld_len hv
  have e1:(Cr.lp g).A.length=g.n.toNat:=Cr.rowsTo_len _ _
  have e2:(Cr.lp g).B.length=g.n.toNat:=Cr.onesTo_len _
  have e3:(Cr.lp g).C.length=g.v.length-1:=Cr.cost_len _ _
  have e4:=cr_cells 31 (Cr.lp g).A fun r hr=>by
   have hr':r∈Cr.rowsTo (g.v.length-1) g.n.toNat:=hr
   unfold Cr.rowsTo at hr'
   obtain⟨j,_,rfl⟩:=List.mem_map.1 hr'
   rw[Cr.mrow_len]
   omega
  rw[e1] at e4
  rw[e1,e2,e3]
  have h5:g.n.toNat≤5:=by omega
  have h6:g.n.toNat*31≤5*31:=Nat.mul_le_mul_right _ h5
  omega
end Go.Proofs.YtjfnleilddgjiaaGreat
