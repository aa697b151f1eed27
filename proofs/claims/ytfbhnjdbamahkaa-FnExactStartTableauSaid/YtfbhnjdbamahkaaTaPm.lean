/- Pivots in plain terms: the rows when k of them have been looked at. -/
import Derived.Test.YtfbhnjdbamahkaaTaM
namespace Go.Proofs.Ytfbhnjdbamahkaa.Ta
open Ve (R at_)
theorem rowsAt_zero (t : T) (r c : Nat) : rowsAt t r c 0 = t.rows.set r (main t r c) := by
  refine List.ext_getElem? fun j => ?_
  by_cases h : j < t.rows.length
  · rw [rowsAt_get t r c 0 j h]
    by_cases e : j = r
    · subst e; simp [h]
    · rw [if_neg e, if_neg (Nat.not_lt_zero j), List.getElem?_set_ne (fun e' => e e'.symm)]
      unfold row
      rw [List.getD_eq_getElem?_getD, List.getElem?_eq_getElem h]
      rfl
  · rw [List.getElem?_eq_none (by rw [rowsAt_len]; omega), List.getElem?_eq_none (by simp; omega)]
theorem rowsAt_still {t : T} {r c k : Nat} (h : still t r c k = true) : rowsAt t r c (k + 1) = rowsAt t r c k := by
  refine List.ext_getElem? fun j => ?_
  by_cases hl : j < t.rows.length
  · rw [rowsAt_get t r c _ j hl, rowsAt_get t r c _ j hl]
    by_cases e : j = r
    · rw [if_pos e, if_pos e]
    · rw [if_neg e, if_neg e]
      by_cases ek : j = k
      · subst ek
        rw [if_pos (Nat.lt_succ_self j), if_neg (Nat.lt_irrefl j)]
        unfold still at h
        simp only [Bool.or_eq_true, decide_eq_true_eq] at h
        unfold nextR
        rw [if_neg e, if_pos (h.resolve_left e)]
      · by_cases hk : j < k
        · rw [if_pos (by omega), if_pos hk]
        · rw [if_neg (by omega), if_neg hk]
  · rw [List.getElem?_eq_none (by rw [rowsAt_len]; omega), List.getElem?_eq_none (by rw [rowsAt_len]; omega)]
theorem rowsAt_next {t : T} {r c k : Nat} (h : still t r c k = false) : rowsAt t r c (k + 1) = (rowsAt t r c k).set k (Ve.scR (row t k) (negR (at_ (row t k) c)) (main t r c)) := by
  unfold still at h
  simp only [Bool.or_eq_false_iff, decide_eq_false_iff_not] at h
  refine List.ext_getElem? fun j => ?_
  by_cases hl : j < t.rows.length
  · rw [rowsAt_get t r c _ j hl]
    by_cases ek : j = k
    · subst ek
      rw [if_neg h.1, if_pos (Nat.lt_succ_self j), List.getElem?_set_self (by rw [rowsAt_len]; exact hl)]
      unfold nextR
      rw [if_neg h.1, if_neg h.2]
    · rw [List.getElem?_set_ne (fun e => ek e.symm), rowsAt_get t r c _ j hl]
      by_cases e : j = r
      · rw [if_pos e, if_pos e]
      · rw [if_neg e, if_neg e]
        by_cases hk : j < k
        · rw [if_pos (by omega), if_pos hk]
        · rw [if_neg (by omega), if_neg hk]
  · rw [List.getElem?_eq_none (by rw [rowsAt_len]; omega), List.getElem?_eq_none (by simp; rw [rowsAt_len]; omega)]
theorem may_parts {t : T} {r c : Int} (h : may t r c = true) : good t = true ∧ (0 ≤ r ∧ r ≤ (t.rows.length : Int) - 1) ∧ (0 ≤ c ∧ c ≤ t.cols + t.rows.length - 1) ∧ (at_ (row t r.toNat) c.toNat).1 ≠ 0 := by
  unfold may at h
  simp only [Bool.and_eq_true, decide_eq_true_eq, Bool.not_eq_true', decide_eq_false_iff_not] at h
  exact ⟨h.1, h.2.1, h.2.2.1, h.2.2.2⟩
theorem piv_no {t : T} {r c : Int} (h : pivK t r c = false) : piv t r c = t := by unfold piv; rw [h]; rfl
theorem piv_yes {t : T} {r c : Int} (h : pivK t r c = true) : piv t r c = ⟨rowsAt t r.toNat c.toNat t.rows.length, t.basis.set r.toNat c, t.cols⟩ := by unfold piv; rw [h]; rfl
theorem pivK_may {t : T} {r c : Int} (h : may t r c = false) : pivK t r c = false := by unfold pivK; rw [h]; rfl
theorem pivK_main {t : T} {r c : Int} (h : mainK t r.toNat c.toNat = false) : pivK t r c = false := by unfold pivK; rw [h]; simp
theorem pivK_row {t : T} {r c : Int} {k : Nat} (hk : k < t.rows.length) (h : nextK t r.toNat c.toNat k = false) : pivK t r c = false := by
  unfold pivK; rw [allNext_no hk h]; simp
theorem pivK_all {t : T} {r c : Int} (h1 : may t r c = true) (h2 : mainK t r.toNat c.toNat = true) (h3 : allNext t r.toNat c.toNat t.rows.length = true) : pivK t r c = true := by
  unfold pivK; rw [h1, h2, h3]; rfl
theorem allNext_zero (t : T) (r c : Nat) : allNext t r c 0 = true := rfl
theorem allNext_more {t : T} {r c k : Nat} (h : allNext t r c k = true) (h2 : nextK t r c k = true) : allNext t r c (k + 1) = true := by rw [allNext_succ, h, h2]; rfl
theorem nextK_still {t : T} {r c k : Nat} (h : still t r c k = true) : nextK t r c k = true := by unfold nextK; rw [h]; rfl
theorem nextK_sc {t : T} {r c k : Nat} (h : still t r c k = false) : nextK t r c k = Ve.scK (row t k) (negR (at_ (row t k) c)) (main t r c) := by unfold nextK; rw [h]; rfl
end Go.Proofs.Ytfbhnjdbamahkaa.Ta
