/- spec.l5Dual. -/
import Derived.Test.YtkindblhafejfaaLpE2
namespace Go.Proofs.Ytkindblhafejfaa
open Go.RowKit
open Ve (R)
open Lp (P)
/-- One column, as l5Dual looks at it. -/
def duOk (p : P) (y c : List R) (j : Nat) : Bool := Lp.idK (Lp.col p j) y && Lp.notLess (Ve.at_ c j) (Lp.idR (Lp.col p j) y)
theorem du_bad {p : P} {y c : List R} {j : Nat} (hj : j < p.C.length) (h : duOk p y c j = false) : Lp.dual p y c = false := by
  rw [Bool.eq_false_iff]
  intro h2
  unfold Lp.dual at h2
  rw [List.all_eq_true] at h2
  have h3 := h2 j (by simpa using hj)
  unfold duOk at h
  rw [h] at h3
  cases h3
theorem du_good {p : P} {y c : List R} (h : ∀ j, j < p.C.length → duOk p y c j = true) : Lp.dual p y c = true := by
  unfold Lp.dual
  rw [List.all_eq_true]
  intro k hk
  exact h k (by simpa using hk)
theorem compare_rat (x y : R) (w : World) : Calls Try.prog 62 #[.agg #[.int .i64 x.1, .int .i64 x.2], .agg #[.int .i64 y.1, .int .i64 y.2]] w fun e w' => e = .returned (.int .i64 (Ra.cmp x.1 x.2 y.1 y.2)) ∧ Below w.heap.size w w' := spec_CompareRat x.1 x.2 y.1 y.2 w
end Go.Proofs.Ytkindblhafejfaa
