/- CountCoalitions, HasPlayer, SizeOf, IsSubset, Union, Overlap on both sides: what each returns; the world is as it was. -/
import Derived.Test.YtmjmjilpcekngaaChecked
import Derived.Test.YtmjmjilpcekngaaGM
import Derived.Handy
import Derived.LoopTactic
import Derived.Outline
import Derived.Lib.Hide
import Derived.WalkSpells
import Derived.WalkLawsBesides
import Derived.IntWalk
namespace Go.Proofs.Ytmjmjilpcekngaa
open Go.RowKit

theorem ret_int {k : IntKind} {a b : Int} (h : a = b) : Ending.returned (.int k a) = .returned (.int k b) := by rw [h]
theorem ret_bool {a b : Bool} (h : a = b) : Ending.returned (.bool a) = .returned (.bool b) := by rw [h]

theorem spec_l1In (x a b : Int) (r : Bool) (h : decide (a ≤ x ∧ x ≤ b) = r) (w : World) : Calls Try.prog 38 #[.int .i64 x, .int .i64 a, .int .i64 b] w fun e w' => e = .returned (.bool r) ∧ w = w' := by
 by_cases h1 : a ≤ x
 ·
  have hb1 : decide (a ≤ x) = true := by rw [decide_eq_true_iff]; exact h1
  have H := Lib.hid (show decide (x ≤ b) = r by rw [← h]; simp [h1])
  clear h
  go_enter Try.func38, Try.ntmps38
  go_wp2_with fail
  go_ret
  exact ⟨ret_bool H.out, rfl⟩
 ·
  have hb1 : decide (a ≤ x) = false := by rw [decide_eq_false_iff_not]; exact h1
  have H := Lib.hid (show false = r by rw [← h]; simp [h1])
  clear h
  go_enter Try.func38, Try.ntmps38
  go_wp2_with fail
  go_ret
  exact ⟨ret_bool H.out, rfl⟩
end Go.Proofs.Ytmjmjilpcekngaa
