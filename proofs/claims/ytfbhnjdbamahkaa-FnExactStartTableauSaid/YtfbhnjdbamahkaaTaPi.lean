/- A row divided in place, in plain terms: k elements done. -/
import Derived.Test.YtfbhnjdbamahkaaTaPm
namespace Go.Proofs.Ytfbhnjdbamahkaa.Ta
open Ve (R at_)
def dvAt (l : List R) (y : R) (k : Nat) : List R := Ve.upto (dv l y) k ++ l.drop k
theorem dvAt_zero (l : List R) (y : R) : dvAt l y 0 = l := by simp [dvAt, Ve.upto_zero]
theorem dvAt_len {l : List R} {y : R} {k : Nat} (h : k ≤ l.length) : (dvAt l y k).length = l.length := by
  simp only [dvAt, List.length_append, Ve.upto_len, List.length_drop]; omega
theorem dvAt_next {l : List R} {y : R} {k : Nat} (h : k < l.length) : (dvAt l y k).set k (dv l y k).1 = dvAt l y (k + 1) := by
  unfold dvAt
  rw [Ve.upto_succ, List.set_append_right _ _ (by rw [Ve.upto_len]; exact Nat.le_refl _), Ve.upto_len, Nat.sub_self, List.drop_eq_getElem_cons h, List.set_cons_zero, List.append_assoc]
  rfl
theorem dvAt_end {l : List R} {y : R} (h : dvK l y = true) : dvAt l y l.length = dvR l y := by
  unfold dvAt dvR
  rw [Ve.out_yes h, List.drop_length, List.append_nil]
theorem dvAt_rest {l : List R} {y : R} {k j : Nat} (h : k ≤ j) : at_ (dvAt l y k) j = at_ l j := by
  unfold dvAt at_
  rw [List.getD_eq_getElem?_getD, List.getD_eq_getElem?_getD, List.getElem?_append_right (by rw [Ve.upto_len]; exact h), Ve.upto_len, List.getElem?_drop]
  congr 2; omega
theorem dvK_no {l : List R} {y : R} {k : Nat} (hk : k < l.length) (h : (dv l y k).2 = false) : dvK l y = false := Ve.allK_no hk h
theorem dvK_zero (l : List R) (y : R) : Ve.allK (dv l y) 0 = true := rfl
/-- Dividing by a fraction that is 0 does not fit. -/
theorem divK_zero {x y : R} (h : y.1 = 0) : divK x y = false := by
  unfold divK
  rw [h, Int.mul_zero]
  rcases hh : Ra.opK (Ra.two x.1 x.2 0 y.2) (x.1 * y.2) 0 with _ | _
  · rfl
  · obtain ⟨_, f, _⟩ := Ra.op_true hh
    exact absurd f (by simp [Ra.fits])
end Go.Proofs.Ytfbhnjdbamahkaa.Ta
