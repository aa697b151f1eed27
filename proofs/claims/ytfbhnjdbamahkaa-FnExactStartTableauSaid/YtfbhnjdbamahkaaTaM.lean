/- Tableaus in plain terms: what the specification's functions of chapter 6 answer; nothing of the program. -/
import Derived.Test.YtfbhnjdbamahkaaGM
namespace Go.Proofs.Ytfbhnjdbamahkaa.Ta
open Ve (R at_)

structure T where
  rows : List (List R)
  basis : List Int
  cols : Int
def row (t : T) (k : Nat) : List R := t.rows.getD k []
def bas (t : T) (k : Nat) : Int := t.basis.getD k 0
/-- One row of the form that l6Good asks. -/
def rowOk (t : T) (k : Nat) : Bool := decide (((row t k).length : Int) = t.cols + t.rows.length + 1) && decide (0 ≤ bas t k ∧ bas t k ≤ t.cols + t.rows.length - 1)
def good (t : T) : Bool := decide (0 ≤ t.cols) && (decide (t.cols ≤ 1000) && (decide (t.basis.length = t.rows.length) && (List.range t.rows.length).all (rowOk t)))
theorem good_parts {t : T} (h : good t = true) : 0 ≤ t.cols ∧ t.cols ≤ 1000 ∧ t.basis.length = t.rows.length ∧ ∀ k, k < t.rows.length → ((row t k).length : Int) = t.cols + t.rows.length + 1 ∧ 0 ≤ bas t k ∧ bas t k ≤ t.cols + t.rows.length - 1 := by
  unfold good at h
  simp only [Bool.and_eq_true, decide_eq_true_eq, List.all_eq_true, List.mem_range] at h
  refine ⟨h.1, h.2.1, h.2.2.1, fun k hk => ?_⟩
  have := h.2.2.2 k hk
  unfold rowOk at this
  simp only [Bool.and_eq_true, decide_eq_true_eq] at this
  exact ⟨this.1, this.2.1, this.2.2⟩
theorem good_mk {t : T} (h0 : 0 ≤ t.cols) (h1 : t.cols ≤ 1000) (h2 : t.basis.length = t.rows.length) (h : ∀ k, k < t.rows.length → rowOk t k = true) : good t = true := by
  unfold good
  simp only [Bool.and_eq_true, decide_eq_true_eq, List.all_eq_true, List.mem_range]
  exact ⟨h0, h1, h2, h⟩
theorem good_no {t : T} {k : Nat} (hk : k < t.rows.length) (h : rowOk t k = false) : good t = false := by
  rw [Bool.eq_false_iff]
  intro h2
  unfold good at h2
  simp only [Bool.and_eq_true, decide_eq_true_eq, List.all_eq_true, List.mem_range] at h2
  rw [h2.2.2.2 k hk] at h
  cases h
/-- Quotients. -/
def divR (x y : R) : R := (Ra.opN (Ra.two x.1 x.2 y.1 y.2) (x.1 * y.2) (x.2 * y.1), Ra.opD (Ra.two x.1 x.2 y.1 y.2) (x.1 * y.2) (x.2 * y.1))
def divK (x y : R) : Bool := Ra.opK (Ra.two x.1 x.2 y.1 y.2) (x.1 * y.2) (x.2 * y.1)
def dv (l : List R) (y : R) (j : Nat) : R × Bool := (divR (at_ l j) y, divK (at_ l j) y)
def dvR (l : List R) (y : R) : List R := Ve.outR (dv l y) l.length
def dvK (l : List R) (y : R) : Bool := Ve.allK (dv l y) l.length
/-- What 64 bits hold of a number. -/
def w64 (x : Int) : Int := (x + 9223372036854775808) % 18446744073709551616 - 9223372036854775808
def negR (x : R) : R := (w64 (-x.1), x.2)
/-- The pivot's row, and each other. -/
def main (t : T) (r c : Nat) : List R := dvR (row t r) (at_ (row t r) c)
def mainK (t : T) (r c : Nat) : Bool := dvK (row t r) (at_ (row t r) c)
def still (t : T) (r c k : Nat) : Bool := decide (k = r) || decide (at_ (row t k) c = (0, 1))
def nextR (t : T) (r c k : Nat) : List R := if k = r then main t r c else if at_ (row t k) c = (0, 1) then row t k else Ve.scR (row t k) (negR (at_ (row t k) c)) (main t r c)
def nextK (t : T) (r c k : Nat) : Bool := still t r c k || Ve.scK (row t k) (negR (at_ (row t k) c)) (main t r c)
def allNext (t : T) (r c n : Nat) : Bool := (List.range n).all (nextK t r c)
theorem allNext_succ (t : T) (r c k : Nat) : allNext t r c (k + 1) = (allNext t r c k && nextK t r c k) := by simp [allNext, List.range_succ]
theorem allNext_no {t : T} {r c k n : Nat} (hk : k < n) (h : nextK t r c k = false) : allNext t r c n = false := by
  rw [Bool.eq_false_iff]
  intro h2
  unfold allNext at h2
  rw [List.all_eq_true] at h2
  rw [h2 k (by simpa using hk)] at h
  cases h
/-- The rows when k of them have been looked at. -/
def rowsAt (t : T) (r c k : Nat) : List (List R) := (List.range t.rows.length).map fun j => if j = r then main t r c else if j < k then nextR t r c j else row t j
theorem rowsAt_len (t : T) (r c k : Nat) : (rowsAt t r c k).length = t.rows.length := by simp [rowsAt]
theorem rowsAt_get (t : T) (r c k j : Nat) (h : j < t.rows.length) : (rowsAt t r c k)[j]? = some (if j = r then main t r c else if j < k then nextR t r c j else row t j) := by simp [rowsAt, h]
def may (t : T) (r c : Int) : Bool := good t && (decide (0 ≤ r ∧ r ≤ (t.rows.length : Int) - 1) && (decide (0 ≤ c ∧ c ≤ t.cols + t.rows.length - 1) && !decide ((at_ (row t r.toNat) c.toNat).1 = 0)))
def pivK (t : T) (r c : Int) : Bool := may t r c && (mainK t r.toNat c.toNat && allNext t r.toNat c.toNat t.rows.length)
def piv (t : T) (r c : Int) : T := if pivK t r c then ⟨rowsAt t r.toNat c.toNat t.rows.length, t.basis.set r.toNat c, t.cols⟩ else t
/-- Reduced costs, k rows subtracted. -/
def cr (t : T) (cost : List R) : Nat → List R × Bool
  | 0 => (cost ++ [(0, 1)], Ve.good cost)
  | k + 1 => if (cr t cost k).2 then (Ve.scR (cr t cost k).1 (negR (at_ cost (bas t k).toNat)) (row t k), Ve.scK (cr t cost k).1 (negR (at_ cost (bas t k).toNat)) (row t k)) else cr t cost k
def costK (t : T) (cost : List R) : Bool := (good t && decide ((cost.length : Int) = t.cols + t.rows.length)) && (cr t cost t.rows.length).2
def costR (t : T) (cost : List R) : List R := if costK t cost then (cr t cost t.rows.length).1 else []
theorem cr_stop {t : T} {cost : List R} {k : Nat} (h : (cr t cost k).2 = false) : ∀ n, k ≤ n → (cr t cost n).2 = false
  | 0, hn => by obtain rfl : k = 0 := by omega
                exact h
  | n + 1, hn => by
    by_cases e : k = n + 1
    · subst e; exact h
    · have := cr_stop h n (by omega)
      show (if (cr t cost n).2 then _ else cr t cost n).2 = false
      rw [this]; exact this
theorem cr_step {t : T} {cost : List R} {k : Nat} (h : (cr t cost k).2 = true) : cr t cost (k + 1) = (Ve.scR (cr t cost k).1 (negR (at_ cost (bas t k).toNat)) (row t k), Ve.scK (cr t cost k).1 (negR (at_ cost (bas t k).toNat)) (row t k)) := by
  show (if (cr t cost k).2 then _ else _) = _
  rw [h]; rfl
theorem sc_full {a : List R} {u : R} {b : List R} (h : Ve.scK a u b = true) : (Ve.scR a u b).length = a.length := by
  unfold Ve.scK at h
  unfold Ve.scR
  simp only [Bool.and_eq_true, decide_eq_true_eq] at h
  rw [if_pos h.1, Ve.out_yes h.2, Ve.upto_len]
theorem dv_full {l : List R} {y : R} (h : dvK l y = true) : (dvR l y).length = l.length := by
  unfold dvR
  rw [Ve.out_yes h, Ve.upto_len]
theorem cr_len {t : T} {cost : List R} : ∀ {k : Nat}, (cr t cost k).2 = true → (cr t cost k).1.length = cost.length + 1
  | 0, _ => by simp [cr]
  | k + 1, h => by
    by_cases hk : (cr t cost k).2 = true
    · rw [cr_step hk] at h ⊢
      rw [sc_full h]
      exact cr_len hk
    · have := cr_stop (k := k) (by simpa using hk) (k + 1) (by omega)
      rw [this] at h
      cases h
theorem cost_len {t : T} {cost : List R} (h : costK t cost = true) : ((costR t cost).length : Int) = t.cols + t.rows.length + 1 := by
  have h' := h
  unfold costK at h'
  simp only [Bool.and_eq_true, decide_eq_true_eq] at h'
  unfold costR
  rw [if_pos h, cr_len h'.2]
  omega
/-- Right-hand sides at their columns: k rows done. -/
def sol (t : T) : Nat → List R
  | 0 => Lp.zerosR (t.cols + t.rows.length).toNat
  | k + 1 => (sol t k).set (bas t k).toNat (at_ (row t k) (t.cols + t.rows.length).toNat)
def solR (t : T) : List R := if good t then sol t t.rows.length else []
theorem sol_len (t : T) : ∀ k, (sol t k).length = (t.cols + t.rows.length).toNat
  | 0 => by simp [sol, Lp.zerosR]
  | k + 1 => by simp [sol, sol_len t k]
/-- A pivot keeps the form. -/
theorem piv_good {t : T} {r c : Int} (h : good t = true) : good (piv t r c) = true ∧ (piv t r c).rows.length = t.rows.length ∧ (piv t r c).cols = t.cols := by
  unfold piv
  by_cases hp : pivK t r c = true
  · rw [if_pos hp]
    unfold pivK may at hp
    simp only [Bool.and_eq_true, decide_eq_true_eq] at hp
    obtain ⟨⟨_, ⟨hr0, hr1⟩, ⟨hc0, hc1⟩, _⟩, hm, hall⟩ := hp
    obtain ⟨g0, g1, g2, g3⟩ := good_parts h
    have hrl : r.toNat < t.rows.length := by omega
    have hml : ((main t r.toNat c.toNat).length : Int) = t.cols + t.rows.length + 1 := by
      unfold main
      rw [dv_full hm]
      exact (g3 r.toNat hrl).1
    refine ⟨good_mk g0 g1 (by simp [rowsAt_len, g2]) fun k hk => ?_, rowsAt_len _ _ _ _, rfl⟩
    have hk2 : k < t.rows.length := by simpa [rowsAt_len] using hk
    unfold rowOk
    have hrow : row ⟨rowsAt t r.toNat c.toNat t.rows.length, t.basis.set r.toNat c, t.cols⟩ k = if k = r.toNat then main t r.toNat c.toNat else nextR t r.toNat c.toNat k := by
      unfold row
      rw [List.getD_eq_getElem?_getD, rowsAt_get _ _ _ _ _ hk2]
      simp [hk2]
    have hbas : bas ⟨rowsAt t r.toNat c.toNat t.rows.length, t.basis.set r.toNat c, t.cols⟩ k = if k = r.toNat then c else bas t k := by
      unfold bas
      rw [List.getD_eq_getElem?_getD, List.getD_eq_getElem?_getD]
      by_cases e : k = r.toNat
      · subst e
        rw [List.getElem?_set_self (by omega), if_pos rfl]; rfl
      · rw [List.getElem?_set_ne (fun h => e h.symm), if_neg e]
    simp only [rowsAt_len]
    rw [hrow, hbas]
    have hg := g3 k hk2
    by_cases e : k = r.toNat
    · rw [if_pos e, if_pos e]
      simp only [Bool.and_eq_true, decide_eq_true_eq]
      exact ⟨hml, by omega, by omega⟩
    · rw [if_neg e, if_neg e]
      simp only [Bool.and_eq_true, decide_eq_true_eq]
      refine ⟨?_, hg.2⟩
      unfold nextR
      rw [if_neg e]
      by_cases hz : at_ (row t k) c.toNat = (0, 1)
      · rw [if_pos hz]; exact hg.1
      · rw [if_neg hz]
        have hn : nextK t r.toNat c.toNat k = true := by
          unfold allNext at hall
          rw [List.all_eq_true] at hall
          exact hall k (by simpa using hk2)
        unfold nextK still at hn
        simp only [e, hz, decide_false, Bool.false_or] at hn
        rw [sc_full hn]
        exact hg.1
  · rw [if_neg hp]
    exact ⟨h, rfl, rfl⟩
end Go.Proofs.Ytfbhnjdbamahkaa.Ta
