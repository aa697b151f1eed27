/- The simplex method's two choices in plain terms; nothing of the program. -/
import Derived.Test.YtfbhnjdbamahkaaTaM
namespace Go.Proofs.Ytfbhnjdbamahkaa.Ta
open Ve (R at_)
/-- The sign of a fraction, as the comparison with 0 tells it. -/
def sgn (x : R) : Int := Ra.cmp x.1 x.2 0 1
/-- The first column with a cost below 0, k columns looked at. -/
def ent (cost : List R) : Nat → Int
  | 0 => -1
  | k + 1 => if 0 ≤ ent cost k then ent cost k else if sgn (at_ cost k) < 0 then k else -1
theorem ent_none {cost : List R} : ∀ {k : Nat}, (∀ j, j < k → ¬ sgn (at_ cost j) < 0) → ent cost k = -1
  | 0, _ => rfl
  | k + 1, h => by
    have h1 := ent_none (k := k) fun j hj => h j (by omega)
    unfold ent
    rw [h1, if_neg (by omega), if_neg (h k (by omega))]
theorem ent_first {cost : List R} {j : Nat} (h : ∀ i, i < j → ¬ sgn (at_ cost i) < 0) (hj : sgn (at_ cost j) < 0) : ∀ n, j < n → ent cost n = j
  | 0, hn => absurd hn (by omega)
  | n + 1, hn => by
    by_cases e : j = n
    · subst e
      unfold ent
      rw [ent_none h, if_neg (by omega), if_pos hj]
    · have := ent_first h hj n (by omega)
      unfold ent
      rw [this, if_pos (by omega)]
def entR (cost : List R) (last : Int) : Int := if last ≤ cost.length then ent cost last.toNat else -1
/-- One row looked at: the row to leave, and its quotient. -/
def lvOk (t : T) (c k : Nat) : Bool := decide (0 < sgn (at_ (row t k) c)) && divK (at_ (row t k) (t.cols + t.rows.length).toNat) (at_ (row t k) c)
def lvQ (t : T) (c k : Nat) : R := divR (at_ (row t k) (t.cols + t.rows.length).toNat) (at_ (row t k) c)
def how (x y : R) : Int := Ra.cmp x.1 x.2 y.1 y.2
def takes (t : T) (best : Int) (least q : R) (k : Nat) : Bool := decide (best < 0) || (decide (how q least < 0) || (decide (how q least = 0) && decide (bas t k < bas t best.toNat)))
def lv (t : T) (c : Nat) : Nat → Int × R
  | 0 => (-1, (0, 0))
  | k + 1 => if lvOk t c k && takes t (lv t c k).1 (lv t c k).2 (lvQ t c k) k then ((k : Int), lvQ t c k) else lv t c k
theorem lv_yes {t : T} {c k : Nat} (h : lvOk t c k = true) (h2 : takes t (lv t c k).1 (lv t c k).2 (lvQ t c k) k = true) : lv t c (k + 1) = ((k : Int), lvQ t c k) := by
  show (if _ then _ else _) = _
  rw [h, h2]; rfl
theorem lv_skip {t : T} {c k : Nat} (h : lvOk t c k = false) : lv t c (k + 1) = lv t c k := by
  show (if _ then _ else _) = _
  rw [h]; rfl
theorem lv_stay {t : T} {c k : Nat} (h2 : takes t (lv t c k).1 (lv t c k).2 (lvQ t c k) k = false) : lv t c (k + 1) = lv t c k := by
  show (if _ then _ else _) = _
  rw [h2, Bool.and_false]; rfl
theorem lv_range (t : T) (c : Nat) : ∀ k, -1 ≤ (lv t c k).1 ∧ (lv t c k).1 < k
  | 0 => by simp [lv]
  | k + 1 => by
    have h := lv_range t c k
    show -1 ≤ (if _ then _ else lv t c k : Int × R).1 ∧ (if _ then _ else lv t c k : Int × R).1 < _
    split
    · simp only; omega
    · omega
def lvR (t : T) (c : Int) : Int := if good t && decide (0 ≤ c ∧ c ≤ t.cols + t.rows.length - 1) then (lv t c.toNat t.rows.length).1 else -1
theorem lv_form {t : T} {c : Int} (h : good t = false) : lvR t c = -1 := by unfold lvR; rw [h]; rfl
theorem lv_col {t : T} {c : Int} (h : decide (0 ≤ c ∧ c ≤ t.cols + t.rows.length - 1) = false) : lvR t c = -1 := by unfold lvR; rw [h, Bool.and_false]; rfl
theorem lv_end {t : T} {c : Nat} (h : good t = true) (h2 : decide (0 ≤ (c : Int) ∧ (c : Int) ≤ t.cols + t.rows.length - 1) = true) : lvR t c = (lv t c t.rows.length).1 := by unfold lvR; rw [h, h2]; rfl
/-- A valid fraction is above 0 exactly if its numerator is. -/
theorem sgn_num {x : R} (h : Ra.vld x.1 x.2 = true) : (0 < sgn x ↔ 0 < x.1) ∧ (sgn x < 0 ↔ x.1 < 0) := by
  have h2 : Ra.two x.1 x.2 0 1 = true := by unfold Ra.two; rw [h]; rfl
  unfold sgn Ra.cmp
  rw [if_pos h2]
  rcases Int.lt_trichotomy x.1 0 with h3 | h3 | h3
  · rw [if_pos (by omega)]; omega
  · rw [if_neg (by omega), if_neg (by omega)]; omega
  · rw [if_neg (by omega), if_pos (by omega)]; omega
theorem divK_vld {x y : R} (h : divK x y = true) : Ra.vld x.1 x.2 = true ∧ Ra.vld y.1 y.2 = true := by
  unfold divK at h
  obtain ⟨k, _⟩ := Ra.op_true h
  exact ⟨(Ra.two_yes k).1, (Ra.two_yes k).2⟩
/-- What the code asks of a row. -/
theorem lvOk_num (t : T) (c k : Nat) : lvOk t c k = (decide (0 < (at_ (row t k) c).1) && divK (at_ (row t k) (t.cols + t.rows.length).toNat) (at_ (row t k) c)) := by
  unfold lvOk
  rcases h : divK (at_ (row t k) (t.cols + t.rows.length).toNat) (at_ (row t k) c) with _ | _
  · simp
  · rw [decide_eq_decide.2 (sgn_num (divK_vld h).2).1]
end Go.Proofs.Ytfbhnjdbamahkaa.Ta
