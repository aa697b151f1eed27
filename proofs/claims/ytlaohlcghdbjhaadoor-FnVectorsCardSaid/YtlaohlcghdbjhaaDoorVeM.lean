/- Vectors of fractions in plain terms: the product by partial sums, a + k * b, lists of numbers as fractions, linearity; nothing of the program. -/
import Derived.Test.YtlaohlcghdbjhaaDoorRaM2
namespace Go.Proofs.YtlaohlcghdbjhaaDoor.Ve

abbrev R := Int × Int
def vld (x : R) : Bool := Ra.vld x.1 x.2
def mulR (x y : R) : R := (Ra.opN (Ra.two x.1 x.2 y.1 y.2) (x.1 * y.1) (x.2 * y.2), Ra.opD (Ra.two x.1 x.2 y.1 y.2) (x.1 * y.1) (x.2 * y.2))
def mulK (x y : R) : Bool := Ra.opK (Ra.two x.1 x.2 y.1 y.2) (x.1 * y.1) (x.2 * y.2)
def addR (x y : R) : R := (Ra.opN (Ra.two x.1 x.2 y.1 y.2) (x.1 * y.2 + y.1 * x.2) (x.2 * y.2), Ra.opD (Ra.two x.1 x.2 y.1 y.2) (x.1 * y.2 + y.1 * x.2) (x.2 * y.2))
def addK (x y : R) : Bool := Ra.opK (Ra.two x.1 x.2 y.1 y.2) (x.1 * y.2 + y.1 * x.2) (x.2 * y.2)

theorem op_zero {k : Bool} {x y : Int} (h : Ra.opK k x y = false) : Ra.opN k x y = 0 ∧ Ra.opD k x y = 0 := by
  unfold Ra.opK at h
  unfold Ra.opN Ra.opD
  cases k
  · exact ⟨rfl, rfl⟩
  · exact Ra.rn_no (by simpa using h)
theorem mul_no {x y : R} (h : mulK x y = false) : mulR x y = (0, 0) := by
  obtain ⟨h1, h2⟩ := op_zero h
  unfold mulR
  rw [h1, h2]
theorem add_no {x y : R} (h : addK x y = false) : addR x y = (0, 0) := by
  obtain ⟨h1, h2⟩ := op_zero h
  unfold addR
  rw [h1, h2]
theorem vld_zero : vld (0, 0) = false := by decide
theorem two_right (x y : R) (h : vld y = false) : Ra.two x.1 x.2 y.1 y.2 = false := by unfold Ra.two; rw [show Ra.vld y.1 y.2 = false from h]; simp
theorem two_left (x y : R) (h : vld x = false) : Ra.two x.1 x.2 y.1 y.2 = false := by unfold Ra.two; rw [show Ra.vld x.1 x.2 = false from h]; rfl
theorem addK_right (x y : R) (h : vld y = false) : addK x y = false := by unfold addK; rw [two_right x y h]; rfl
theorem addK_left (x y : R) (h : vld x = false) : addK x y = false := by unfold addK; rw [two_left x y h]; rfl
/-- A sum with a product that does not fit does not fit. -/
theorem add_mul_no (s : R) {x y : R} (h : mulK x y = false) : addK s (mulR x y) = false := addK_right _ _ (by rw [mul_no h]; exact vld_zero)
theorem both {s x y : R} : (mulK x y && addK s (mulR x y)) = addK s (mulR x y) := by
  cases h : mulK x y
  · rw [add_mul_no s h]; rfl
  · rfl
theorem mul_vld {x y : R} (h : mulK x y = true) : vld (mulR x y) = true := by
  obtain ⟨_, f, e1, e2⟩ := Ra.op_true h
  unfold vld mulR
  rw [e1, e2]
  exact Ra.fits_vld f
theorem add_vld {x y : R} (h : addK x y = true) : vld (addR x y) = true := by
  obtain ⟨_, f, e1, e2⟩ := Ra.op_true h
  unfold vld addR
  rw [e1, e2]
  exact Ra.fits_vld f
theorem mulK_vld {x y : R} (h : mulK x y = true) : vld x = true ∧ vld y = true := Ra.two_yes (Ra.op_true h).1
theorem addK_vld {x y : R} (h : addK x y = true) : vld x = true ∧ vld y = true := Ra.two_yes (Ra.op_true h).1

/-! ### The value of a fraction -/
def val (x : R) : Rat := (x.1 : Rat) / (x.2 : Rat)
theorem den_ne {x : R} (h : vld x = true) : (x.2 : Rat) ≠ 0 := by
  have := (Ra.vld_yes h).1
  intro h0
  have h1 : x.2 = 0 := by simpa using h0
  omega
theorem val_eq {n d a b : Int} (hd : d ≠ 0) (hb : b ≠ 0) (h : a * d = n * b) : (a : Rat) / (b : Rat) = (n : Rat) / (d : Rat) := by
  have hd' : (d : Rat) ≠ 0 := by intro h0; exact hd (by simpa using h0)
  have hb' : (b : Rat) ≠ 0 := by intro h0; exact hb (by simpa using h0)
  have h' : (a : Rat) * (d : Rat) = (n : Rat) * (b : Rat) := by rw [← Rat.intCast_mul, ← Rat.intCast_mul, h]
  grind
theorem val_rn {n d : Int} (h : Ra.fits n d = true) : ((Ra.rn n d : Int) : Rat) / ((Ra.rd n d : Int) : Rat) = (n : Rat) / (d : Rat) := by
  have hd : d ≠ 0 := by intro h0; rw [h0, Ra.fits_zero] at h; cases h
  have v := Ra.vld_yes (Ra.fits_vld h)
  exact val_eq hd (by omega) (Ra.cross h)
theorem val_mul {x y : R} (h : mulK x y = true) : val (mulR x y) = val x * val y := by
  obtain ⟨k, f, e1, e2⟩ := Ra.op_true h
  have h1 := den_ne (Ra.two_yes k).1
  have h2 := den_ne (x := y) (Ra.two_yes k).2
  unfold val mulR
  rw [e1, e2]
  show ((Ra.rn _ _ : Int) : Rat) / ((Ra.rd _ _ : Int) : Rat) = _
  rw [val_rn f, Rat.intCast_mul, Rat.intCast_mul]
  grind
theorem val_add {x y : R} (h : addK x y = true) : val (addR x y) = val x + val y := by
  obtain ⟨k, f, e1, e2⟩ := Ra.op_true h
  have h1 := den_ne (Ra.two_yes k).1
  have h2 := den_ne (x := y) (Ra.two_yes k).2
  unfold val addR
  rw [e1, e2]
  show ((Ra.rn _ _ : Int) : Rat) / ((Ra.rd _ _ : Int) : Rat) = _
  rw [val_rn f, Rat.intCast_add, Rat.intCast_mul, Rat.intCast_mul, Rat.intCast_mul]
  grind
theorem val_inj {x y : R} (hx : vld x = true) (hy : vld y = true) (h : val x = val y) : x = y := by
  have h1 := den_ne hx
  have h2 := den_ne hy
  have h3 : (x.1 : Rat) * (y.2 : Rat) = (y.1 : Rat) * (x.2 : Rat) := by unfold val at h; grind
  have h4 : x.1 * y.2 = y.1 * x.2 := by
    rw [← Rat.intCast_mul, ← Rat.intCast_mul] at h3
    exact Rat.intCast_inj.1 h3
  obtain ⟨e1, e2⟩ := Ra.canon hx hy h4
  exact Prod.ext e1 e2

/-! ### Products, by partial sums -/
def at_ (l : List R) (k : Nat) : R := l.getD k (0, 0)
def acc (a b : List R) : Nat → R × Bool
  | 0 => ((0, 1), true)
  | k + 1 => (addR (acc a b k).1 (mulR (at_ a k) (at_ b k)), addK (acc a b k).1 (mulR (at_ a k) (at_ b k)))
theorem acc_zero (a b : List R) : acc a b 0 = ((0, 1), true) := rfl
theorem acc_succ (a b : List R) (k : Nat) : acc a b (k + 1) = (addR (acc a b k).1 (mulR (at_ a k) (at_ b k)), addK (acc a b k).1 (mulR (at_ a k) (at_ b k))) := rfl
theorem acc_no {a b : List R} {k : Nat} (h : (acc a b k).2 = false) : (acc a b k).1 = (0, 0) := by
  cases k with
  | zero => cases h
  | succ k => rw [acc_succ] at h ⊢; exact add_no h
theorem acc_stays {a b : List R} {k : Nat} (h : (acc a b k).2 = false) : (acc a b (k + 1)).2 = false := by
  rw [acc_succ, acc_no h]
  show addK (0, 0) (mulR (at_ a k) (at_ b k)) = false
  exact addK_left _ _ vld_zero
theorem acc_from {a b : List R} {k : Nat} (h : (acc a b k).2 = false) : ∀ n, k ≤ n → (acc a b n).2 = false
  | 0, hn => by obtain rfl : k = 0 := by omega
                exact h
  | n + 1, hn => by
    by_cases e : k = n + 1
    · subst e; exact h
    · exact acc_stays (acc_from h n (by omega))
theorem acc_all {a b : List R} {k n : Nat} (h : (acc a b n).2 = true) (hk : k ≤ n) : (acc a b k).2 = true := by
  cases h2 : (acc a b k).2
  · rw [acc_from h2 n hk] at h; cases h
  · rfl
theorem acc_vld {a b : List R} {k : Nat} (h : (acc a b k).2 = true) : vld (acc a b k).1 = true := by
  cases k with
  | zero => show vld (0, 1) = true; decide
  | succ k => rw [acc_succ] at h ⊢; exact add_vld h
theorem acc_val {a b : List R} {k : Nat} (h : (acc a b (k + 1)).2 = true) : val (acc a b (k + 1)).1 = val (acc a b k).1 + val (at_ a k) * val (at_ b k) := by
  rw [acc_succ] at h ⊢
  have hm : mulK (at_ a k) (at_ b k) = true := by
    cases h2 : mulK (at_ a k) (at_ b k)
    · have := add_mul_no (acc a b k).1 h2
      rw [show addK (acc a b k).1 (mulR (at_ a k) (at_ b k)) = true from h] at this; cases this
    · rfl
  rw [show (addR (acc a b k).1 (mulR (at_ a k) (at_ b k)), addK (acc a b k).1 (mulR (at_ a k) (at_ b k))).1 = addR (acc a b k).1 (mulR (at_ a k) (at_ b k)) from rfl, val_add h, val_mul hm]
/-- DotRat's two answers. -/
def dotK (a b : List R) : Bool := decide (a.length = b.length) && (acc a b a.length).2
def dotR (a b : List R) : R := if a.length = b.length then (acc a b a.length).1 else (0, 0)
theorem dot_len {a b : List R} (h : a.length ≠ b.length) : dotR a b = (0, 0) ∧ dotK a b = false := by unfold dotR dotK; simp [h]
theorem dot_same {a b : List R} (h : a.length = b.length) : dotR a b = (acc a b a.length).1 ∧ dotK a b = (acc a b a.length).2 := by unfold dotR dotK; simp [h]
/-- A partial sum that does not fit ends it. -/
theorem dot_cut {a b : List R} {k : Nat} (h : a.length = b.length) (hk : k ≤ a.length) (hn : (acc a b k).2 = false) : dotR a b = (0, 0) ∧ dotK a b = false := by
  have h1 := acc_from hn a.length hk
  obtain ⟨e1, e2⟩ := dot_same h
  rw [e1, e2]
  exact ⟨acc_no h1, h1⟩

/-! ### Lists that are built element by element, while each fits -/
/-- All of the first n fit. -/
def allK (f : Nat → R × Bool) (n : Nat) : Bool := (List.range n).all fun j => (f j).2
def outR (f : Nat → R × Bool) (n : Nat) : List R := if allK f n then (List.range n).map fun j => (f j).1 else []
def upto (f : Nat → R × Bool) (k : Nat) : List R := (List.range k).map fun j => (f j).1
theorem upto_zero (f : Nat → R × Bool) : upto f 0 = [] := rfl
theorem upto_succ (f : Nat → R × Bool) (k : Nat) : upto f (k + 1) = upto f k ++ [(f k).1] := by simp [upto, List.range_succ]
theorem upto_len (f : Nat → R × Bool) (k : Nat) : (upto f k).length = k := by simp [upto]
theorem upto_at (f : Nat → R × Bool) (n j : Nat) (h : j < n) : at_ (upto f n) j = (f j).1 := by simp [at_, upto, h]
theorem allK_zero (f : Nat → R × Bool) : allK f 0 = true := rfl
theorem allK_succ (f : Nat → R × Bool) (k : Nat) : allK f (k + 1) = (allK f k && (f k).2) := by simp [allK, List.range_succ]
theorem allK_yes {f : Nat → R × Bool} {n : Nat} (h : allK f n = true) : ∀ j, j < n → (f j).2 = true := by
  intro j hj
  unfold allK at h
  rw [List.all_eq_true] at h
  exact h j (by simpa using hj)
theorem allK_no {f : Nat → R × Bool} {n k : Nat} (hk : k < n) (h : (f k).2 = false) : allK f n = false := by
  cases h2 : allK f n
  · rfl
  · rw [allK_yes h2 k hk] at h; cases h
theorem out_yes {f : Nat → R × Bool} {n : Nat} (h : allK f n = true) : outR f n = upto f n := by unfold outR; rw [if_pos h]; rfl
theorem out_no {f : Nat → R × Bool} {n : Nat} (h : allK f n = false) : outR f n = [] := by unfold outR; rw [h]; rfl
theorem out_len (f : Nat → R × Bool) (n : Nat) : (outR f n).length ≤ n := by unfold outR; split <;> simp
theorem all_congr {f g : Nat → R × Bool} {n : Nat} (h : ∀ j, j < n → f j = g j) : allK f n = allK g n ∧ outR f n = outR g n := by
  have e1 : allK f n = allK g n := by
    unfold allK
    rw [Bool.eq_iff_iff, List.all_eq_true, List.all_eq_true]
    exact ⟨fun h1 x hx => by rw [← h x (by simpa using hx)]; exact h1 x hx, fun h1 x hx => by rw [h x (by simpa using hx)]; exact h1 x hx⟩
  refine ⟨e1, ?_⟩
  unfold outR
  rw [e1]
  split
  · exact List.map_congr_left fun x hx => by rw [h x (by simpa using hx)]
  · rfl
/-- AddScaled's elements. -/
def sc (a : List R) (k : R) (b : List R) (j : Nat) : R × Bool := (addR (at_ a j) (mulR k (at_ b j)), addK (at_ a j) (mulR k (at_ b j)))
def scK (a : List R) (k : R) (b : List R) : Bool := decide (a.length = b.length) && allK (sc a k b) a.length
def scR (a : List R) (k : R) (b : List R) : List R := if a.length = b.length then outR (sc a k b) a.length else []
theorem sc_len {a : List R} {k : R} {b : List R} (h : a.length ≠ b.length) : scR a k b = [] ∧ scK a k b = false := by unfold scR scK; simp [h]
theorem sc_same {a : List R} {k : R} {b : List R} (h : a.length = b.length) : scR a k b = outR (sc a k b) a.length ∧ scK a k b = allK (sc a k b) a.length := by unfold scR scK; simp [h]
theorem sc_short (a : List R) (k : R) (b : List R) : (scR a k b).length ≤ a.length := by
  unfold scR
  split
  · exact out_len _ _
  · simp
/-- IntsToRats's elements. -/
def inr (n : Int) : Bool := decide (-1000000000 ≤ n ∧ n ≤ 1000000000)
theorem inr_fits (n : Int) : Ra.fits n 1 = inr n := by
  have hg : (Int.gcd n 1 : Int) = 1 := by rw [Int.gcd_one_right]; rfl
  have hn : Ra.num n 1 = n := by unfold Ra.num; rw [hg, if_neg (by omega)]; exact Int.ediv_one n
  have hd : Ra.den n 1 = 1 := by unfold Ra.den; rw [hg, if_neg (by omega)]; rfl
  cases h : inr n
  · have h' := of_decide_eq_false h
    cases h2 : Ra.fits n 1
    · rfl
    · exfalso
      have v := Ra.vld_yes (Ra.fits_vld h2)
      rw [(Ra.rn_yes h2).1, hn] at v
      omega
  · have h' := of_decide_eq_true h
    have hv : Ra.vld n 1 = true := Ra.vld_mk (by omega) (by omega) h'.1 h'.2 (Int.gcd_one_right n)
    exact (Ra.own_form hv).1
theorem inr_rn {n : Int} (h : inr n = true) : Ra.rn n 1 = n ∧ Ra.rd n 1 = 1 := by
  have h' := of_decide_eq_true h
  exact (Ra.own_form (Ra.vld_mk (by omega) (by omega) h'.1 h'.2 (Int.gcd_one_right n))).2
def ofI (zs : List Int) (j : Nat) : R × Bool := ((Ra.rn (zs.getD j 0) 1, Ra.rd (zs.getD j 0) 1), Ra.fits (zs.getD j 0) 1)
/-- The whole list, valid. -/
def good (v : List R) : Bool := v.all vld
theorem good_at {v : List R} {k : Nat} (hk : k < v.length) (h : vld (at_ v k) = false) : good v = false := by
  cases h2 : good v
  · rfl
  · unfold good at h2
    rw [List.all_eq_true] at h2
    have e : at_ v k = v[k] := by unfold at_; rw [List.getD_eq_getElem?_getD, List.getElem?_eq_getElem hk]; rfl
    rw [e, h2 _ (List.getElem_mem hk)] at h; cases h
theorem good_all {v : List R} (h : ∀ k, k < v.length → vld (at_ v k) = true) : good v = true := by
  unfold good
  rw [List.all_eq_true]
  intro x hx
  obtain ⟨k, hk, rfl⟩ := List.mem_iff_getElem.1 hx
  have e : at_ v k = v[k] := by unfold at_; rw [List.getD_eq_getElem?_getD, List.getElem?_eq_getElem hk]; rfl
  rw [← e]; exact h k hk
theorem at_get {v : List R} {k : Nat} (hk : k < v.length) : v[k]? = some (at_ v k) := by
  unfold at_; rw [List.getD_eq_getElem?_getD, List.getElem?_eq_getElem hk]; rfl
theorem eq_of_at {a b : List R} (hl : a.length = b.length) (h : ∀ k, k < a.length → at_ a k = at_ b k) : a = b := by
  apply List.ext_getElem? fun k => ?_
  rcases Nat.lt_or_ge k a.length with h1 | h1
  · rw [at_get h1, at_get (hl ▸ h1), h k h1]
  · rw [List.getElem?_eq_none h1, List.getElem?_eq_none (hl ▸ h1)]

/-! ### Products are linear, where they fit -/
/-- (1, 2, .., n). -/
def ones (n : Nat) : List R := (List.range n).map fun j => (((j + 1 : Nat) : Int), 1)
theorem ones_len (n : Nat) : (ones n).length = n := by simp [ones]
theorem ones_succ (n : Nat) : ones (n + 1) = ones n ++ [(((n + 1 : Nat) : Int), 1)] := by simp [ones, List.range_succ]
theorem linear_acc (a b : List R) (k : R) (o : List R) (n : Nat) (hs : allK (sc a k b) n = true)
    (h1 : (acc (upto (sc a k b) n) o n).2 = true) (h2 : (acc a o n).2 = true) (h3 : (acc b o n).2 = true) :
    ∀ m, m ≤ n → val (acc (upto (sc a k b) n) o m).1 = val (acc a o m).1 + val k * val (acc b o m).1
  | 0, _ => by rw [acc_zero, acc_zero, acc_zero]; unfold val; grind
  | m + 1, hm => by
    have ih := linear_acc a b k o n hs h1 h2 h3 m (by omega)
    rw [acc_val (acc_all h1 hm), acc_val (acc_all h2 hm), acc_val (acc_all h3 hm), ih, upto_at _ _ _ (by omega)]
    have hk := allK_yes hs m (by omega)
    have hm' : mulK k (at_ b m) = true := by
      cases h : mulK k (at_ b m)
      · have := add_mul_no (at_ a m) h
        rw [show addK (at_ a m) (mulR k (at_ b m)) = true from hk] at this; cases this
      · rfl
    have e : val (sc a k b m).1 = val (at_ a m) + val k * val (at_ b m) := by
      show val (addR (at_ a m) (mulR k (at_ b m))) = _
      rw [val_add hk, val_mul hm']
    rw [e]
    grind
/-- Promise 4. -/
theorem linear (a b : List R) (k : R) (o : List R) (hk : scK a k b = true) (h1 : dotK (scR a k b) o = true) (h2 : dotK a o = true) (h3 : dotK b o = true)
    (h4 : mulK k (dotR b o) = true) (h5 : addK (dotR a o) (mulR k (dotR b o)) = true) : dotR (scR a k b) o = addR (dotR a o) (mulR k (dotR b o)) := by
  have hl : a.length = b.length := by unfold scK at hk; simp at hk; exact hk.1
  have hs : allK (sc a k b) a.length = true := by rw [← (sc_same hl).2]; exact hk
  have e : scR a k b = upto (sc a k b) a.length := by rw [(sc_same hl).1, out_yes hs]
  have ho : a.length = o.length := by unfold dotK at h2; simp at h2; exact h2.1
  have hol : (scR a k b).length = o.length := by rw [e, upto_len]; exact ho
  have d1 := (dot_same hol)
  have d2 := (dot_same ho)
  have d3 := (dot_same (a := b) (b := o) (by omega))
  rw [d1.2, e, upto_len] at h1
  rw [d2.2] at h2
  rw [d3.2, ← hl] at h3
  have hv := linear_acc a b k o a.length hs h1 h2 h3 a.length (Nat.le_refl _)
  refine val_inj ?_ (add_vld h5) ?_
  · rw [d1.1, e, upto_len]; exact acc_vld h1
  · rw [val_add h5, val_mul h4, d1.1, d2.1, d3.1, e, upto_len, ← hl]; exact hv
end Go.Proofs.YtlaohlcghdbjhaaDoor.Ve
