/- Reduced costs, plainly; a call that makes a slice, since a world. -/
import Derived.Test.YtkindblhafejfaaTaW
import Derived.Test.YtkindblhafejfaaGRa
import Derived.Laws.BitsLemmas
namespace Go.Proofs.Ytkindblhafejfaa
open Go.RowKit
open Ve (R)
open Ta (T)
theorem wrap_w64 (x : Int) : IntKind.i64.wrap x = Ta.w64 x := IntKind.wrap_i64 x
theorem Ta.cost_no {t : T} {cost : List R} (h : Ta.costK t cost = false) : Ta.costR t cost = [] := by unfold Ta.costR; rw [h]; rfl
theorem Ta.cost_form {t : T} {cost : List R} (h : Ta.good t = false) : Ta.costK t cost = false := by unfold Ta.costK; rw [h]; rfl
theorem Ta.cost_len_no {t : T} {cost : List R} (h : (cost.length : Int) ≠ t.cols + t.rows.length) : Ta.costK t cost = false := by unfold Ta.costK; simp [h]
theorem Ta.cost_end {t : T} {cost : List R} (h : Ta.good t = true) (h2 : (cost.length : Int) = t.cols + t.rows.length) : Ta.costK t cost = (Ta.cr t cost t.rows.length).2 := by unfold Ta.costK; rw [h]; simp [h2]
theorem Ta.cost_yes {t : T} {cost : List R} (h : Ta.costK t cost = true) : Ta.costR t cost = (Ta.cr t cost t.rows.length).1 := by unfold Ta.costR; rw [if_pos h]
/-- A call that makes a slice and says whether, since a world. -/
theorem calls_made {P : Program} {f : FuncId} {args : Array Value} {W wx : World} {xs : List R} {k : Bool} (hs : Since W wx) (h : Calls P f args wx (MakesRatsK xs k wx)) :
    Calls P f args wx fun e w' => (∃ v, e = .returned (.tuple #[v, .bool k]) ∧ OwnRats W.heap.size w' v xs) ∧ Since W w' := h.mono fun _ _ ⟨v, he, ho, hb⟩ => ⟨⟨v, he, ho.lower hs.low.size⟩, hs.trans hb⟩
end Go.Proofs.Ytkindblhafejfaa
