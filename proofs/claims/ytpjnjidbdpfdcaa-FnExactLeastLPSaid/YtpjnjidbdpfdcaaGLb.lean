/- The parts LpB, LpB2, LpC, LpD. -/
import Derived.Test.YtpjnjidbdpfdcaaGLa
import Derived.Test.YtpjnjidbdpfdcaaGVa
import Derived.Test.YtpjnjidbdpfdcaaGVb
namespace Go.Proofs.Ytpjnjidbdpfdcaa
open Go.RowKit
open Ve (R)
open Lp (P)
theorem small_at {l : List Int} {k : Nat} (hk : k < l.length) (h : decide (-5000 ≤ l.getD k 0 ∧ l.getD k 0 ≤ 5000) = false) : Lp.small l = false := by
 rw [Bool.eq_false_iff]
 intro h2
 unfold Lp.small at h2
 rw [List.all_eq_true] at h2
 have := h2 _ (List.getElem_mem hk)
 rw [List.getD_eq_getElem?_getD, List.getElem?_eq_getElem hk] at h
 simp only [Option.getD_some] at h
 rw [h] at this
 cases this
theorem small_all {l : List Int} (h : ∀ k, k < l.length → decide (-5000 ≤ l.getD k 0 ∧ l.getD k 0 ≤ 5000) = true) : Lp.small l = true := by
 unfold Lp.small
 rw [List.all_eq_true]
 intro x hx
 obtain ⟨k, hk, rfl⟩ := List.getElem_of_mem hx
 have := h k hk
 rw [List.getD_eq_getElem?_getD, List.getElem?_eq_getElem hk] at this
 exact this
end Go.Proofs.Ytpjnjidbdpfdcaa

namespace Go.Proofs.Ytpjnjidbdpfdcaa
open Go.RowKit
open Ve (R)
open Lp (P)
theorem rows_row (p : P) (k : Nat) : Lp.row p k = rw_ p.A k := rfl
def rowOk (p : P) (k : Nat) : Bool := decide ((rw_ p.A k).length = p.C.length) && Lp.small (rw_ p.A k)
theorem rows_bad {p : P} {k : Nat} (hk : k < p.A.length) (h : rowOk p k = false) : Lp.vldP p = false := by
 rw [Bool.eq_false_iff]
 intro h2
 have h3 := Lp.rows_at (Lp.vld_parts h2).1 hk
 unfold rowOk at h
 rw [← rows_row] at h
 simp [h3] at h
theorem rows_good {p : P} (h : ∀ k, k < p.A.length → rowOk p k = true) : Lp.rows p = true := by
 unfold Lp.rows
 rw [List.all_eq_true]
 intro k hk
 exact h k (by simpa using hk)
end Go.Proofs.Ytpjnjidbdpfdcaa

namespace Go.Proofs.Ytpjnjidbdpfdcaa
open Go.RowKit
open Ve (R)
open Lp (P)
theorem ir_length (l : List Int) : (Lp.ir l).length ≤ l.length := by
 unfold Lp.ir Ve.outR
 split
 ·
  simp
 ·
  simp
def nnOk (x : R) : Bool := Ve.vld x && decide (0 ≤ x.1)
theorem nn_bad {v : List R} {k : Nat} (hk : k < v.length) (h : nnOk (Ve.at_ v k) = false) : Lp.nonneg v = false := by
 rw [Bool.eq_false_iff]
 intro h2
 have := Lp.nonneg_at h2 hk
 unfold nnOk at h
 simp [this] at h
theorem nn_good {v : List R} (h : ∀ k, k < v.length → nnOk (Ve.at_ v k) = true) : Lp.nonneg v = true := by
 unfold Lp.nonneg
 rw [List.all_eq_true]
 intro x hx
 obtain ⟨k, hk, rfl⟩ := List.getElem_of_mem hx
 have := h k hk
 have e : Ve.at_ v k = v[k] := by unfold Ve.at_; rw [List.getD_eq_getElem?_getD, List.getElem?_eq_getElem hk]; rfl
 rw [e] at this
 exact this
end Go.Proofs.Ytpjnjidbdpfdcaa

namespace Go.Proofs.Ytpjnjidbdpfdcaa
open Go.RowKit
open Ve (R)
open Lp (P)
def colOf (p : P) (j : Int) : List Int := if Lp.vldP p = true ∧ 0 ≤ j ∧ j < p.C.length then Lp.col p j.toNat else []
def cl (p : P) (j k : Nat) : List Int := (List.range k).map fun i => (rw_ p.A i).getD j 0
theorem cl_len (p : P) (j k : Nat) : (cl p j k).length = k := by simp [cl]
theorem cl_next (p : P) (j k : Nat) : cl p j (k + 1) = cl p j k ++ [(rw_ p.A k).getD j 0] := by simp [cl, List.range_succ]
theorem cl_all (p : P) (j : Nat) : cl p j p.A.length = Lp.col p j := by
 apply List.ext_getElem
 ·
  simp [cl, Lp.col]
 ·
  intro i h1 h2
  have hi : i < p.A.length := by simpa [cl] using h1
  simp [cl, Lp.col, rw_, hi]
theorem col_no_valid {p : P} {j : Int} (h : Lp.vldP p = false) : colOf p j = [] := by unfold colOf; simp [h]
theorem col_no_column {p : P} {j : Int} (h : decide (0 ≤ j ∧ j ≤ (p.C.length : Int) - 1) = false) : colOf p j = [] := by
 unfold colOf
 rw [decide_eq_false_iff_not] at h
 rw [if_neg (fun h2 => h ⟨h2.2.1, by omega⟩)]
theorem col_yes {p : P} {j : Nat} (h : Lp.vldP p = true) (hj : j < p.C.length) : colOf p j = Lp.col p j := by
 unfold colOf
 rw [if_pos ⟨h, by omega, by omega⟩]; rfl
theorem zeros_next (k : Nat) : Lp.zerosR (k + 1) = Lp.zerosR k ++ [(0, 1)] := by simp [Lp.zerosR, List.range_succ]
theorem zeros_len (k : Nat) : (Lp.zerosR k).length = k := by simp [Lp.zerosR]
end Go.Proofs.Ytpjnjidbdpfdcaa
