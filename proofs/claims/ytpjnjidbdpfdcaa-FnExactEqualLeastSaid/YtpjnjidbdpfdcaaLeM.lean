/- The least core in plain terms: its LP, what is found, which results are right; nothing of the program. -/
import Derived.Test.YtpjnjidbdpfdcaaCrM
namespace Go.Proofs.Ytpjnjidbdpfdcaa.Le
open Ve (R at_)
open Gm (G)
open Lp (P)
def rowsN (n k : Nat) : List (List Int) := (List.range k).map fun j => Cr.mrow j n ++ [-1]
theorem rowsN_len (n k : Nat) : (rowsN n k).length = k := by simp [rowsN]
theorem rowsN_more (n k : Nat) : rowsN n (k + 1) = rowsN n k ++ [Cr.mrow k n ++ [-1]] := by simp [rowsN, List.range_succ]
theorem rowsN_at {n k j : Nat} (h : j < k) : (rowsN n k).getD j [] = Cr.mrow j n ++ [-1] := by simp [rowsN, List.getD_eq_getElem?_getD, h]
def zerosTo (k : Nat) : List Int := (List.range k).map fun _ => 0
theorem zerosTo_len (k : Nat) : (zerosTo k).length = k := by simp [zerosTo]
theorem zerosTo_more (k : Nat) : zerosTo (k + 1) = zerosTo k ++ [0] := by simp [zerosTo, List.range_succ]
def lp (g : G) : P := ⟨rowsN (g.v.length - 2) g.n.toNat ++ [Cr.onesTo (g.v.length - 2) ++ [0]], zerosTo g.n.toNat ++ [1], Cr.cost g (g.v.length - 2) ++ [(Gm.grand g, 1)]⟩
def can (g : G) : Bool := Gm.vld g && decide (2 ≤ g.n)
def least (g : G) : P := if can g then lp g else Cr.lp0
theorem least_yes {g : G} (h : can g = true) : least g = lp g := if_pos h
theorem least_no {g : G} (h : can g = false) : least g = Cr.lp0 := by unfold least; rw [h]; rfl
theorem can_vld {g : G} (h : can g = true) : Gm.vld g = true ∧ 2 ≤ g.n := by
 unfold can at h
 simpa using h
theorem can_bad {g : G} (h : Gm.vld g = false) : can g = false := by unfold can; rw [h]; rfl
theorem can_one {g : G} (h : g.n < 2) : can g = false := by unfold can; rw [decide_eq_false (by omega)]; simp
theorem can_is {g : G} (h : Gm.vld g = true) (h2 : 2 ≤ g.n) : can g = true := by unfold can; rw [h, decide_eq_true h2]; rfl
structure Lst where
 ok : Bool
 ex : R
 point : List R
 weights : List R
end Go.Proofs.Ytpjnjidbdpfdcaa.Le
