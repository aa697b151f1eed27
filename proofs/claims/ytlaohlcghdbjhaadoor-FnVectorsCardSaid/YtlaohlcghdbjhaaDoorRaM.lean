/- Fractions in plain terms: valid ones, the reduced one, sums, products, order, floor; nothing of the program. -/
namespace Go.Proofs.YtlaohlcghdbjhaaDoor.Ra

/-- n / d is valid. -/
def vld (n d : Int) : Bool := decide (1 ≤ d ∧ d ≤ 1000000000 ∧ -1000000000 ≤ n ∧ n ≤ 1000000000 ∧ Int.gcd n d = 1)
theorem vld_yes {n d : Int} (h : vld n d = true) : 1 ≤ d ∧ d ≤ 1000000000 ∧ -1000000000 ≤ n ∧ n ≤ 1000000000 ∧ Int.gcd n d = 1 := by unfold vld at h; exact of_decide_eq_true h
theorem vld_no {n d : Int} (h : vld n d = false) : ¬ (1 ≤ d ∧ d ≤ 1000000000 ∧ -1000000000 ≤ n ∧ n ≤ 1000000000 ∧ Int.gcd n d = 1) := by unfold vld at h; exact of_decide_eq_false h
theorem vld_mk {n d : Int} (h1 : 1 ≤ d) (h2 : d ≤ 1000000000) (h3 : -1000000000 ≤ n) (h4 : n ≤ 1000000000) (h5 : Int.gcd n d = 1) : vld n d = true := by unfold vld; exact decide_eq_true ⟨h1, h2, h3, h4, h5⟩

/-- In the range of numbers before reduction. -/
def wide (n : Int) : Bool := decide (-1000000000000000000 ≤ n ∧ n ≤ 1000000000000000000)
theorem wide_yes {n : Int} (h : wide n = true) : -1000000000000000000 ≤ n ∧ n ≤ 1000000000000000000 := by unfold wide at h; exact of_decide_eq_true h

/-- The numerator and denominator, reduced, the denominator above 0. -/
def num (n d : Int) : Int := (if d < 0 then -n else n) / (Int.gcd n d : Int)
def den (n d : Int) : Int := (if d < 0 then -d else d) / (Int.gcd n d : Int)
/-- RatOf's three numbers. -/
def fits (n d : Int) : Bool := d != 0 && wide n && wide d && vld (num n d) (den n d)
def rn (n d : Int) : Int := if fits n d then num n d else 0
def rd (n d : Int) : Int := if fits n d then den n d else 0

theorem gcd_pos {n d : Int} (h : d ≠ 0) : 0 < Int.gcd n d := Int.gcd_pos_of_ne_zero_right _ h
theorem den_pos {n d : Int} (h : d ≠ 0) : 1 ≤ den n d := by
  have hg := gcd_pos (n := n) h
  have hd : (Int.gcd n d : Int) ∣ d := Int.gcd_dvd_right _ _
  unfold den
  obtain ⟨k, hk⟩ := hd
  have hg' : (0 : Int) < (Int.gcd n d : Int) := by omega
  generalize (Int.gcd n d : Int) = g at *
  subst hk
  split
  · rename_i h1
    rw [← Int.mul_neg, Int.mul_ediv_cancel_left _ (by omega)]
    rcases Int.lt_or_le k 0 with h2 | h2
    · omega
    · have := Int.mul_nonneg (show 0 ≤ g by omega) h2; omega
  · rename_i h1
    rw [Int.mul_ediv_cancel_left _ (by omega)]
    rcases Int.lt_or_le 0 k with h2 | h2
    · omega
    · exfalso
      have h3 := Int.mul_nonpos_of_nonneg_of_nonpos (show 0 ≤ g by omega) h2
      omega
theorem gcd_num_den {n d : Int} (h : d ≠ 0) : Int.gcd (num n d) (den n d) = 1 := by
  have hg := gcd_pos (n := n) h
  unfold num den
  split
  · have e : Int.gcd n d = Int.gcd (-n) (-d) := by rw [Int.neg_gcd, Int.gcd_neg]
    rw [e]
    rw [e] at hg
    exact Int.gcd_ediv_gcd_ediv_gcd hg
  · exact Int.gcd_ediv_gcd_ediv_gcd hg
/-- impl's test: the bounds alone. -/
theorem vld_red {n d : Int} (h : d ≠ 0) : vld (num n d) (den n d) = decide (-1000000000 ≤ num n d ∧ num n d ≤ 1000000000 ∧ den n d ≤ 1000000000) := by
  have h1 := den_pos (n := n) h
  have h2 := gcd_num_den (n := n) h
  unfold vld
  rw [Bool.eq_iff_iff, decide_eq_true_iff, decide_eq_true_iff]
  exact ⟨fun ⟨_, b, c, d, _⟩ => ⟨c, d, b⟩, fun ⟨a, b, c⟩ => ⟨h1, c, a, b, h2⟩⟩
/-- A fraction is valid exactly if it is its own reduced form. -/
theorem own_form {n d : Int} (h : vld n d = true) : fits n d = true ∧ rn n d = n ∧ rd n d = d := by
  have hv := vld_yes h
  have e1 : num n d = n := by unfold num; rw [if_neg (by omega), hv.2.2.2.2]; simp
  have e2 : den n d = d := by unfold den; rw [if_neg (by omega), hv.2.2.2.2]; simp
  have hf : fits n d = true := by
    unfold fits wide
    rw [e1, e2, h]
    have a : (d != 0) = true := by rw [bne_iff_ne]; omega
    have b : decide (-1000000000000000000 ≤ n ∧ n ≤ 1000000000000000000) = true := by rw [decide_eq_true_iff]; omega
    have c : decide (-1000000000000000000 ≤ d ∧ d ≤ 1000000000000000000) = true := by rw [decide_eq_true_iff]; omega
    rw [a, b, c]; rfl
  exact ⟨hf, by unfold rn; rw [if_pos hf, e1], by unfold rd; rw [if_pos hf, e2]⟩
theorem fits_vld {n d : Int} (h : fits n d = true) : vld (rn n d) (rd n d) = true := by
  have h2 := h
  unfold fits at h2
  simp only [Bool.and_eq_true] at h2
  unfold rn rd
  rw [if_pos h, if_pos h]
  exact h2.2
theorem not_own {n d : Int} (h : vld n d = false) : (fits n d && (rn n d == n && rd n d == d)) = false := by
  rcases hf : fits n d with _ | _
  · rfl
  · have hv := fits_vld hf
    rcases h1 : (rn n d == n && rd n d == d) with _ | _
    · rfl
    · simp only [Bool.and_eq_true, beq_iff_eq] at h1
      rw [h1.1, h1.2, h] at hv
      exact absurd hv (by decide)
theorem rn_no {n d : Int} (h : fits n d = false) : rn n d = 0 ∧ rd n d = 0 := by
  unfold rn rd; rw [h]; exact ⟨rfl, rfl⟩
theorem rn_bd (n d : Int) : -1000000000 ≤ rn n d ∧ rn n d ≤ 1000000000 ∧ 0 ≤ rd n d ∧ rd n d ≤ 1000000000 := by
  rcases hf : fits n d with _ | _
  · obtain ⟨a, b⟩ := rn_no hf; omega
  · have := vld_yes (fits_vld hf); omega

/-- The four operations' fractions before reduction. -/
theorem prod_bd {a b x y : Int} (ha : -1000000000 ≤ a) (ha' : a ≤ 1000000000) (hb : -1000000000 ≤ b) (hb' : b ≤ 1000000000) (hx : x = a * b) (_hy : y = 0) : -1000000000000000000 ≤ x ∧ x ≤ 1000000000000000000 := by
  subst hx
  have h1 : a.natAbs ≤ 1000000000 := by omega
  have h2 : b.natAbs ≤ 1000000000 := by omega
  have h3 : (a * b).natAbs ≤ 1000000000 * 1000000000 := by rw [Int.natAbs_mul]; exact Nat.mul_le_mul h1 h2
  omega
theorem mul_bd (a b : Int) (ha : -1000000000 ≤ a) (ha' : a ≤ 1000000000) (hb : -1000000000 ≤ b) (hb' : b ≤ 1000000000) : -1000000000000000000 ≤ a * b ∧ a * b ≤ 1000000000000000000 := prod_bd ha ha' hb hb' rfl (rfl : (0 : Int) = 0)

/-- The reduced fraction is the fraction: crosswise. -/
theorem cross {n d : Int} (h : fits n d = true) : rn n d * d = n * rd n d := by
  have h2 := h
  unfold fits at h2
  simp only [Bool.and_eq_true, bne_iff_ne] at h2
  have hd : d ≠ 0 := h2.1.1.1
  have hg := gcd_pos (n := n) hd
  unfold rn rd
  rw [if_pos h, if_pos h]
  unfold num den
  obtain ⟨a, ha⟩ : (Int.gcd n d : Int) ∣ n := Int.gcd_dvd_left _ _
  obtain ⟨b, hb⟩ : (Int.gcd n d : Int) ∣ d := Int.gcd_dvd_right _ _
  have hg' : (Int.gcd n d : Int) ≠ 0 := by omega
  generalize (Int.gcd n d : Int) = g at *
  subst ha hb
  split
  · rw [← Int.mul_neg, ← Int.mul_neg, Int.mul_ediv_cancel_left _ hg', Int.mul_ediv_cancel_left _ hg']; grind
  · rw [Int.mul_ediv_cancel_left _ hg', Int.mul_ediv_cancel_left _ hg']; grind
theorem dvd_of_coprime {a b c : Int} (h : Int.gcd a b = 1) (hd : b ∣ a * c) : b ∣ c := by
  have h1 : Nat.Coprime b.natAbs a.natAbs := by
    have h0 : Nat.gcd a.natAbs b.natAbs = 1 := by rw [← Int.gcd_eq_natAbs_gcd_natAbs]; exact h
    unfold Nat.Coprime; rw [Nat.gcd_comm]; exact h0
  have h2 : b.natAbs ∣ a.natAbs * c.natAbs := by rw [← Int.natAbs_mul]; exact Int.natAbs_dvd_natAbs.2 hd
  exact Int.natAbs_dvd_natAbs.1 (Nat.Coprime.dvd_of_dvd_mul_left h1 h2)
/-- Valid fractions of one value are one. -/
theorem canon {a b c e : Int} (h1 : vld a b = true) (h2 : vld c e = true) (hx : a * e = c * b) : a = c ∧ b = e := by
  have v1 := vld_yes h1
  have v2 := vld_yes h2
  have d1 : b ∣ e := dvd_of_coprime v1.2.2.2.2 ⟨c, by rw [hx, Int.mul_comm]⟩
  have d2 : e ∣ b := dvd_of_coprime v2.2.2.2.2 ⟨a, by rw [← hx, Int.mul_comm]⟩
  have hbe : b = e := Int.dvd_antisymm (by omega) (by omega) d1 d2
  subst hbe
  exact ⟨Int.eq_of_mul_eq_mul_right (by omega) hx, rfl⟩
theorem mul_cancel {a b k : Int} (hk : k ≠ 0) (h : a * k = b * k) : a = b := Int.eq_of_mul_eq_mul_right hk h
theorem back_add {an ad bn bd sn sd tn td : Int} (hs : sn * (ad * bd) = (an * bd + bn * ad) * sd) (ht : tn * (sd * bd) = (sn * bd - bn * sd) * td) (h1 : sd ≠ 0) (h2 : bd ≠ 0) : tn * ad = an * td := by
  have hk : sd * bd ≠ 0 := Int.mul_ne_zero h1 h2
  apply mul_cancel hk
  grind
theorem back_mul {an ad bn bd pn pd qn qd : Int} (hp : pn * (ad * bd) = (an * bn) * pd) (hq : qn * (pd * bn) = (pn * bd) * qd) (h1 : pd ≠ 0) (h2 : bn ≠ 0) (h3 : bd ≠ 0) : qn * ad = an * qd := by
  have hk : pd * bn * bd ≠ 0 := Int.mul_ne_zero (Int.mul_ne_zero h1 h2) h3
  apply mul_cancel hk
  grind
/-- The sign of the reduced fraction is that of the numerator. -/
theorem sign_pos {n d : Int} (h : fits n d = true) (hd : 0 < d) : decide (0 < rn n d) = decide (0 < n) := by
  have hx := cross h
  have hv := (vld_yes (fits_vld h)).1
  rw [Bool.eq_iff_iff, decide_eq_true_iff, decide_eq_true_iff]
  constructor
  · intro h1
    have : 0 < n * rd n d := by rw [← hx]; exact Int.mul_pos h1 hd
    exact Int.pos_of_mul_pos_left this (by omega)
  · intro h1
    have : 0 < rn n d * d := by rw [hx]; exact Int.mul_pos h1 (by omega)
    exact Int.pos_of_mul_pos_left this hd

theorem tdiv_num {n d : Int} (h : d < 0) : (-n).tdiv (Int.gcd n d : Int) = num n d := by
  unfold num
  rw [if_pos h, Int.tdiv_eq_ediv_of_dvd (Int.dvd_neg.2 (Int.gcd_dvd_left _ _))]
theorem tdiv_num' {n d : Int} (h : ¬ d < 0) : n.tdiv (Int.gcd n d : Int) = num n d := by
  unfold num
  rw [if_neg h, Int.tdiv_eq_ediv_of_dvd (Int.gcd_dvd_left _ _)]
theorem div_den {n d : Int} (h : d < 0) : (-d) / (Int.gcd n d : Int) = den n d := by unfold den; rw [if_pos h]
theorem div_den' {n d : Int} (h : ¬ d < 0) : d / (Int.gcd n d : Int) = den n d := by unfold den; rw [if_neg h]
theorem abs_quo {x g : Int} (hg : 0 < g) (hd : g ∣ x) : (x / g).natAbs ≤ x.natAbs := by
  obtain ⟨k, rfl⟩ := hd
  rw [Int.mul_ediv_cancel_left _ (by omega), Int.natAbs_mul]
  exact Nat.le_mul_of_pos_left _ (by omega)
theorem num_bd {n d : Int} (h : d ≠ 0) (hn : -1000000000000000000 ≤ n) (hn' : n ≤ 1000000000000000000) : -1000000000000000000 ≤ num n d ∧ num n d ≤ 1000000000000000000 := by
  have hg := gcd_pos (n := n) h
  have h1 : (num n d).natAbs ≤ n.natAbs := by
    unfold num
    split
    · refine Nat.le_trans (abs_quo (by omega) (Int.dvd_neg.2 (Int.gcd_dvd_left _ _))) ?_
      rw [Int.natAbs_neg]; exact Nat.le_refl _
    · exact abs_quo (by omega) (Int.gcd_dvd_left _ _)
  omega
theorem den_bd {n d : Int} (h : d ≠ 0) (hn : -1000000000000000000 ≤ d) (hn' : d ≤ 1000000000000000000) : 1 ≤ den n d ∧ den n d ≤ 1000000000000000000 := by
  have hg := gcd_pos (n := n) h
  have h1 : (den n d).natAbs ≤ d.natAbs := by
    unfold den
    split
    · refine Nat.le_trans (abs_quo (by omega) (Int.dvd_neg.2 (Int.gcd_dvd_right _ _))) ?_
      rw [Int.natAbs_neg]; exact Nat.le_refl _
    · exact abs_quo (by omega) (Int.gcd_dvd_right _ _)
  have h2 := den_pos (n := n) h
  omega
theorem fits_zero (n : Int) : fits n 0 = false := by unfold fits; simp
theorem fits_nwide {n d : Int} (h : wide n = false) : fits n d = false := by unfold fits; rw [h]; simp
theorem fits_dwide {n d : Int} (h : wide d = false) : fits n d = false := by unfold fits; rw [h]; simp
theorem fits_is {n d : Int} (h : d ≠ 0) (hn : wide n = true) (hd : wide d = true) : fits n d = vld (num n d) (den n d) := by
  unfold fits; rw [hn, hd]
  have : (d != 0) = true := by rw [bne_iff_ne]; exact h
  rw [this]; rfl
theorem rn_yes {n d : Int} (h : fits n d = true) : rn n d = num n d ∧ rd n d = den n d := by unfold rn rd; rw [if_pos h, if_pos h]; exact ⟨rfl, rfl⟩

/-- An operation's three answers: its arguments are valid (k), and the fraction X / Y before reduction. -/
def opN (k : Bool) (x y : Int) : Int := if k then rn x y else 0
def opD (k : Bool) (x y : Int) : Int := if k then rd x y else 0
def opK (k : Bool) (x y : Int) : Bool := k && fits x y
theorem op_yes (x y : Int) : opN true x y = rn x y ∧ opD true x y = rd x y ∧ opK true x y = fits x y := ⟨rfl, rfl, rfl⟩
theorem op_no (x y : Int) : opN false x y = 0 ∧ opD false x y = 0 ∧ opK false x y = false := ⟨rfl, rfl, rfl⟩
/-- Both are valid. -/
def two (an ad bn bd : Int) : Bool := vld an ad && vld bn bd
theorem vld_neg (n d : Int) : vld (-n) d = vld n d := by
  unfold vld
  rw [Int.neg_gcd, Bool.eq_iff_iff, decide_eq_true_iff, decide_eq_true_iff]
  omega
/-- The products of valid fractions' numbers. -/
theorem prods {an ad bn bd : Int} (h1 : vld an ad = true) (h2 : vld bn bd = true) :
    (-1000000000000000000 ≤ an * bd ∧ an * bd ≤ 1000000000000000000) ∧ (-1000000000000000000 ≤ bn * ad ∧ bn * ad ≤ 1000000000000000000) ∧
    (-1000000000000000000 ≤ ad * bd ∧ ad * bd ≤ 1000000000000000000) ∧ (-1000000000000000000 ≤ an * bn ∧ an * bn ≤ 1000000000000000000) ∧ (-1000000000000000000 ≤ ad * bn ∧ ad * bn ≤ 1000000000000000000) := by
  have v1 := vld_yes h1
  have v2 := vld_yes h2
  exact ⟨mul_bd _ _ (by omega) (by omega) (by omega) (by omega), mul_bd _ _ (by omega) (by omega) (by omega) (by omega), mul_bd _ _ (by omega) (by omega) (by omega) (by omega), mul_bd _ _ (by omega) (by omega) (by omega) (by omega), mul_bd _ _ (by omega) (by omega) (by omega) (by omega)⟩
/-- The order, as a number. -/
def cmp (an ad bn bd : Int) : Int := if two an ad bn bd then (if an * bd < bn * ad then -1 else if bn * ad < an * bd then 1 else 0) else 0
theorem cmp_no {an ad bn bd : Int} (h : two an ad bn bd = false) : cmp an ad bn bd = 0 := by unfold cmp; rw [h]; rfl
theorem cmp_lt {an ad bn bd : Int} (h : two an ad bn bd = true) (hl : an * bd < bn * ad) : cmp an ad bn bd = -1 := by unfold cmp; rw [if_pos h, if_pos hl]
theorem cmp_gt {an ad bn bd : Int} (h : two an ad bn bd = true) (hl : bn * ad < an * bd) : cmp an ad bn bd = 1 := by unfold cmp; rw [if_pos h, if_neg (by omega), if_pos hl]
theorem cmp_eq {an ad bn bd : Int} (hl : an * bd = bn * ad) : cmp an ad bn bd = 0 := by unfold cmp; rw [hl]; simp
/-- The floor. -/
def flo (n d : Int) : Int := if vld n d then n / d else 0
theorem flo_no {n d : Int} (h : vld n d = false) : flo n d = 0 := by unfold flo; rw [h]; rfl
theorem flo_yes {n d : Int} (h : vld n d = true) : flo n d = n / d := by unfold flo; rw [if_pos h]
theorem floor_neg {n d : Int} (hd : 1 ≤ d) (h : n.tmod d < 0) : n.tdiv d - 1 = n / d := by
  have h1 := Int.tmod_add_mul_tdiv n d
  have h2 := Int.emod_add_mul_ediv n d
  have h3 := Int.emod_nonneg n (show d ≠ 0 by omega)
  have h4 := Int.emod_lt_of_pos n (show 0 < d by omega)
  have h5 : -d < n.tmod d := by have := Int.lt_tmod_of_pos n (show 0 < d by omega); omega
  have e : d * (n.tdiv d - 1 - n / d) = n % d - n.tmod d - d := by rw [Int.mul_sub, Int.mul_sub]; omega
  rcases Int.lt_trichotomy (n.tdiv d - 1 - n / d) 0 with h6 | h6 | h6
  · have := Int.mul_le_mul_of_nonneg_left (show n.tdiv d - 1 - n / d ≤ -1 by omega) (show 0 ≤ d by omega)
    omega
  · omega
  · have := Int.mul_le_mul_of_nonneg_left (show 1 ≤ n.tdiv d - 1 - n / d by omega) (show 0 ≤ d by omega)
    omega
theorem floor_pos {n d : Int} (hd : 1 ≤ d) (h : ¬ n.tmod d < 0) : n.tdiv d = n / d := by
  have h1 := Int.tmod_add_mul_tdiv n d
  have h2 := Int.emod_add_mul_ediv n d
  have h3 := Int.emod_nonneg n (show d ≠ 0 by omega)
  have h4 := Int.emod_lt_of_pos n (show 0 < d by omega)
  have h5 : n.tmod d < d := Int.tmod_lt_of_pos n (show 0 < d by omega)
  have e : d * (n.tdiv d - n / d) = n % d - n.tmod d := by rw [Int.mul_sub]; omega
  rcases Int.lt_trichotomy (n.tdiv d - n / d) 0 with h6 | h6 | h6
  · have := Int.mul_le_mul_of_nonneg_left (show n.tdiv d - n / d ≤ -1 by omega) (show 0 ≤ d by omega)
    omega
  · omega
  · have := Int.mul_le_mul_of_nonneg_left (show 1 ≤ n.tdiv d - n / d by omega) (show 0 ≤ d by omega)
    omega
theorem tdiv_bd (n d : Int) : (n.tdiv d).natAbs ≤ n.natAbs := by
  rw [Int.natAbs_tdiv]
  exact Nat.div_le_self _ _
theorem two_yes {an ad bn bd : Int} (h : two an ad bn bd = true) : vld an ad = true ∧ vld bn bd = true := by unfold two at h; rw [Bool.and_eq_true] at h; exact h
theorem two_neg (an ad bn bd : Int) : two an ad (-bn) bd = two an ad bn bd := by unfold two; rw [vld_neg]
end Go.Proofs.YtlaohlcghdbjhaaDoor.Ra
