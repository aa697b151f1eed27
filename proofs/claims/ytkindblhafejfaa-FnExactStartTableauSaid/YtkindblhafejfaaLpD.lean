/- spec.ColumnOf, l5Zeros. -/
import Derived.Test.YtkindblhafejfaaLpC
namespace Go.Proofs.Ytkindblhafejfaa
open Go.RowKit
open Ve (R)
open Lp (P)
/-- What ColumnOf answers. -/
def colOf (p : P) (j : Int) : List Int := if Lp.vldP p = true ∧ 0 ≤ j ∧ j < p.C.length then Lp.col p j.toNat else []
/-- The first k of a column. -/
def cl (p : P) (j k : Nat) : List Int := (List.range k).map fun i => (rw_ p.A i).getD j 0
theorem cl_len (p : P) (j k : Nat) : (cl p j k).length = k := by simp [cl]
theorem cl_next (p : P) (j k : Nat) : cl p j (k + 1) = cl p j k ++ [(rw_ p.A k).getD j 0] := by simp [cl, List.range_succ]
theorem cl_all (p : P) (j : Nat) : cl p j p.A.length = Lp.col p j := by
  apply List.ext_getElem
  · simp [cl, Lp.col]
  · intro i h1 h2
    have hi : i < p.A.length := by simpa [cl] using h1
    simp [cl, Lp.col, rw_, hi]
theorem col_no_valid {p : P} {j : Int} (h : Lp.vldP p = false) : colOf p j = [] := by unfold colOf; simp [h]
theorem col_no_column {p : P} {j : Int} (h : decide (0 ≤ j ∧ j ≤ (p.C.length : Int) - 1) = false) : colOf p j = [] := by
  unfold colOf
  rw [decide_eq_false_iff_not] at h
  rw [if_neg (fun h2 => h ⟨h2.2.1, by omega⟩)]
theorem col_yes {p : P} {j : Nat} (h : Lp.vldP p = true) (hj : j < p.C.length) : colOf p j = Lp.col p j := by
  unfold colOf
  rw [if_pos ⟨h, by omega, by omega⟩]; rfl
end Go.Proofs.Ytkindblhafejfaa
