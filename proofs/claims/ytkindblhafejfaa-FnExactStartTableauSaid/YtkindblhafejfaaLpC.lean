/- spec.l5Dot, l5NotNegative. -/
import Derived.Test.YtkindblhafejfaaLpB2
import Derived.Test.YtkindblhafejfaaGVb
namespace Go.Proofs.Ytkindblhafejfaa
open Go.RowKit
open Ve (R)
open Lp (P)
theorem ir_length (l : List Int) : (Lp.ir l).length ≤ l.length := by
  unfold Lp.ir Ve.outR
  split
  · simp
  · simp
/-- One element, as l5NotNegative looks at it. -/
def nnOk (x : R) : Bool := Ve.vld x && decide (0 ≤ x.1)
theorem nn_bad {v : List R} {k : Nat} (hk : k < v.length) (h : nnOk (Ve.at_ v k) = false) : Lp.nonneg v = false := by
  rw [Bool.eq_false_iff]
  intro h2
  have := Lp.nonneg_at h2 hk
  unfold nnOk at h
  simp [this] at h
theorem nn_good {v : List R} (h : ∀ k, k < v.length → nnOk (Ve.at_ v k) = true) : Lp.nonneg v = true := by
  unfold Lp.nonneg
  rw [List.all_eq_true]
  intro x hx
  obtain ⟨k, hk, rfl⟩ := List.getElem_of_mem hx
  have := h k hk
  have e : Ve.at_ v k = v[k] := by unfold Ve.at_; rw [List.getD_eq_getElem?_getD, List.getElem?_eq_getElem hk]; rfl
  rw [e] at this
  exact this
end Go.Proofs.Ytkindblhafejfaa
