/- The parts CoM, RaM, RaM2, VeM, LpM, LpM2. -/
import Derived.Laws.BitsLemmas
namespace Go.Proofs.Ytpjnjidbdpfdcaa.Co

def has (s : Int) (k : Nat) : Bool := decide (0 ≤ s ∧ s / 2 ^ k % 2 = 1)
def good (s : Int) : Bool := decide (0 ≤ s ∧ s ≤ 31)
theorem good_yes {s : Int} (h : good s = true) : 0 ≤ s ∧ s ≤ 31 := by unfold good at h; exact of_decide_eq_true h
theorem good_no {s : Int} (h : good s = false) : ¬ (0 ≤ s ∧ s ≤ 31) := by unfold good at h; exact of_decide_eq_false h
theorem good_fin {s : Int} (h : good s = true) : ∃ n : Fin 32, s = (n.val : Int) := by
  have := good_yes h
  exact ⟨⟨s.toNat, by omega⟩, by show s = ((s.toNat : Nat) : Int); omega⟩
theorem has_neg {s : Int} {k : Nat} (h : s < 0) : has s k = false := by unfold has; rw [decide_eq_false_iff_not]; omega
theorem has_pos {s : Int} {k : Nat} (h : 0 ≤ s) : has s k = (s / 2 ^ k % 2 == 1) := by
  unfold has
  rw [Bool.eq_iff_iff, decide_eq_true_iff, beq_iff_eq]
  exact ⟨fun a => a.2, fun a => ⟨h, a⟩⟩

theorem and1 (n : Int) : bits .and .i64 n 1 = n % 2 := by
  have h1 : (BitVec.ofInt 64 1).toNat = 2 ^ 1 - 1 := by decide
  have key : (BitVec.ofInt 64 n &&& BitVec.ofInt 64 1).toNat = (n % ((2 ^ 64 : Nat) : Int)).toNat % 2 ^ 1 := by
    rw [BitVec.toNat_and, BitVec.toNat_ofInt, h1, Nat.and_two_pow_sub_one_eq_mod]
  show IntKind.i64.wrap ((BitVec.ofInt 64 n &&& BitVec.ofInt 64 1).toNat : Nat) = n % 2
  rw [key, IntKind.wrap_i64]
  omega
theorem and31 (n : Int) : bits .and .i64 n 31 = n % 32 := by
  have h1 : (BitVec.ofInt 64 31).toNat = 2 ^ 5 - 1 := by decide
  have key : (BitVec.ofInt 64 n &&& BitVec.ofInt 64 31).toNat = (n % ((2 ^ 64 : Nat) : Int)).toNat % 2 ^ 5 := by
    rw [BitVec.toNat_and, BitVec.toNat_ofInt, h1, Nat.and_two_pow_sub_one_eq_mod]
  show IntKind.i64.wrap ((BitVec.ofInt 64 n &&& BitVec.ofInt 64 31).toNat : Nat) = n % 32
  rw [key, IntKind.wrap_i64]
  omega

def size (s : Int) : Nat → Int
  | 0 => 0
  | k + 1 => size s k + if has s k then 1 else 0
theorem size_bd (s : Int) : ∀ k, 0 ≤ size s k ∧ size s k ≤ k
  | 0 => by simp [size]
  | k + 1 => by have := size_bd s k; unfold size; split <;> omega
theorem size_yes {s : Int} {k : Nat} (h : has s k = true) : size s (k + 1) = size s k + 1 := by simp [size, h]
theorem size_no {s : Int} {k : Nat} (h : has s k = false) : size s (k + 1) = size s k := by simp [size, h]
theorem size_neg {s : Int} (h : s < 0) : ∀ k, size s k = 0
  | 0 => rfl
  | k + 1 => by rw [size_no (has_neg h), size_neg h k]
theorem has_mod {s : Int} (h : 0 ≤ s) : ∀ k, k < 5 → has (s % 32) k = has s k := by
  intro k hk
  rw [has_pos h, has_pos (by omega), Bool.eq_iff_iff, beq_iff_eq, beq_iff_eq]
  match k, hk with
  | 0, _ => simp <;> omega
  | 1, _ => simp <;> omega
  | 2, _ => simp <;> omega
  | 3, _ => simp <;> omega
  | 4, _ => simp <;> omega
theorem size_mod {s : Int} (h : 0 ≤ s) : size (s % 32) 5 = size s 5 := by
  simp only [size, has_mod h 0 (by omega), has_mod h 1 (by omega), has_mod h 2 (by omega), has_mod h 3 (by omega), has_mod h 4 (by omega)]

def uni (a b : Int) : Nat → Int
  | 0 => 0
  | k + 1 => uni a b k + if has a k || has b k then 2 ^ k else 0
def ovl (a b : Int) : Nat → Int
  | 0 => 0
  | k + 1 => ovl a b k + if has a k && has b k then 2 ^ k else 0
def sub (a b : Int) : Nat → Bool
  | 0 => true
  | k + 1 => sub a b k && (!has a k || has b k)
theorem two_pow (k : Nat) (h : k < 5) : (1 : Int) ≤ 2 ^ k ∧ (2 : Int) ^ k ≤ 16 := by
  match k, h with
  | 0, _ => decide
  | 1, _ => decide
  | 2, _ => decide
  | 3, _ => decide
  | 4, _ => decide
theorem uni_bd (a b : Int) : ∀ k, k ≤ 5 → 0 ≤ uni a b k ∧ uni a b k ≤ 16 * k
  | 0, _ => by simp [uni]
  | k + 1, h => by have := uni_bd a b k (by omega); have := two_pow k (by omega); unfold uni; split <;> omega
theorem ovl_bd (a b : Int) : ∀ k, k ≤ 5 → 0 ≤ ovl a b k ∧ ovl a b k ≤ 16 * k
  | 0, _ => by simp [ovl]
  | k + 1, h => by have := ovl_bd a b k (by omega); have := two_pow k (by omega); unfold ovl; split <;> omega
theorem uni_all : ∀ a b : Fin 32, uni (a.val : Int) (b.val : Int) 5 = bits .or .i64 (a.val : Int) (b.val : Int) := by decide +kernel
theorem ovl_all : ∀ a b : Fin 32, ovl (a.val : Int) (b.val : Int) 5 = bits .and .i64 (a.val : Int) (b.val : Int) := by decide +kernel
theorem sub_all : ∀ a b : Fin 32, sub (a.val : Int) (b.val : Int) 5 = (bits .and .i64 (a.val : Int) (b.val : Int) == (a.val : Int)) := by decide +kernel
theorem uni_is {a b : Int} (ha : good a = true) (hb : good b = true) : bits .or .i64 a b = uni a b 5 := by
  obtain ⟨n, rfl⟩ := good_fin ha; obtain ⟨m, rfl⟩ := good_fin hb; exact (uni_all n m).symm
theorem ovl_is {a b : Int} (ha : good a = true) (hb : good b = true) : bits .and .i64 a b = ovl a b 5 := by
  obtain ⟨n, rfl⟩ := good_fin ha; obtain ⟨m, rfl⟩ := good_fin hb; exact (ovl_all n m).symm
theorem sub_is {a b : Int} (ha : good a = true) (hb : good b = true) : (bits .and .i64 a b == a) = sub a b 5 := by
  obtain ⟨n, rfl⟩ := good_fin ha; obtain ⟨m, rfl⟩ := good_fin hb; exact (sub_all n m).symm
def cnt (n : Int) : Int := if 0 ≤ n ∧ n ≤ 5 then 2 ^ n.toNat else 0
end Go.Proofs.Ytpjnjidbdpfdcaa.Co

namespace Go.Proofs.Ytpjnjidbdpfdcaa.Ra

def vld (n d : Int) : Bool := decide (1 ≤ d ∧ d ≤ 1000000000 ∧ -1000000000 ≤ n ∧ n ≤ 1000000000 ∧ Int.gcd n d = 1)
theorem vld_yes {n d : Int} (h : vld n d = true) : 1 ≤ d ∧ d ≤ 1000000000 ∧ -1000000000 ≤ n ∧ n ≤ 1000000000 ∧ Int.gcd n d = 1 := by unfold vld at h; exact of_decide_eq_true h
theorem vld_no {n d : Int} (h : vld n d = false) : ¬ (1 ≤ d ∧ d ≤ 1000000000 ∧ -1000000000 ≤ n ∧ n ≤ 1000000000 ∧ Int.gcd n d = 1) := by unfold vld at h; exact of_decide_eq_false h
theorem vld_mk {n d : Int} (h1 : 1 ≤ d) (h2 : d ≤ 1000000000) (h3 : -1000000000 ≤ n) (h4 : n ≤ 1000000000) (h5 : Int.gcd n d = 1) : vld n d = true := by unfold vld; exact decide_eq_true ⟨h1, h2, h3, h4, h5⟩

def wide (n : Int) : Bool := decide (-1000000000000000000 ≤ n ∧ n ≤ 1000000000000000000)
theorem wide_yes {n : Int} (h : wide n = true) : -1000000000000000000 ≤ n ∧ n ≤ 1000000000000000000 := by unfold wide at h; exact of_decide_eq_true h

def num (n d : Int) : Int := (if d < 0 then -n else n) / (Int.gcd n d : Int)
def den (n d : Int) : Int := (if d < 0 then -d else d) / (Int.gcd n d : Int)
def fits (n d : Int) : Bool := d != 0 && wide n && wide d && vld (num n d) (den n d)
def rn (n d : Int) : Int := if fits n d then num n d else 0
def rd (n d : Int) : Int := if fits n d then den n d else 0

theorem gcd_pos {n d : Int} (h : d ≠ 0) : 0 < Int.gcd n d := Int.gcd_pos_of_ne_zero_right _ h
theorem den_pos {n d : Int} (h : d ≠ 0) : 1 ≤ den n d := by
  have hg := gcd_pos (n := n) h
  have hd : (Int.gcd n d : Int) ∣ d := Int.gcd_dvd_right _ _
  unfold den
  obtain ⟨k, hk⟩ := hd
  have hg' : (0 : Int) < (Int.gcd n d : Int) := by omega
  generalize (Int.gcd n d : Int) = g at *
  subst hk
  split
  · rename_i h1
    rw [← Int.mul_neg, Int.mul_ediv_cancel_left _ (by omega)]
    rcases Int.lt_or_le k 0 with h2 | h2
    · omega
    · have := Int.mul_nonneg (show 0 ≤ g by omega) h2; omega
  · rename_i h1
    rw [Int.mul_ediv_cancel_left _ (by omega)]
    rcases Int.lt_or_le 0 k with h2 | h2
    · omega
    · exfalso
      have h3 := Int.mul_nonpos_of_nonneg_of_nonpos (show 0 ≤ g by omega) h2
      omega
theorem gcd_num_den {n d : Int} (h : d ≠ 0) : Int.gcd (num n d) (den n d) = 1 := by
  have hg := gcd_pos (n := n) h
  unfold num den
  split
  · have e : Int.gcd n d = Int.gcd (-n) (-d) := by rw [Int.neg_gcd, Int.gcd_neg]
    rw [e]
    rw [e] at hg
    exact Int.gcd_ediv_gcd_ediv_gcd hg
  · exact Int.gcd_ediv_gcd_ediv_gcd hg
theorem vld_red {n d : Int} (h : d ≠ 0) : vld (num n d) (den n d) = decide (-1000000000 ≤ num n d ∧ num n d ≤ 1000000000 ∧ den n d ≤ 1000000000) := by
  have h1 := den_pos (n := n) h
  have h2 := gcd_num_den (n := n) h
  unfold vld
  rw [Bool.eq_iff_iff, decide_eq_true_iff, decide_eq_true_iff]
  exact ⟨fun ⟨_, b, c, d, _⟩ => ⟨c, d, b⟩, fun ⟨a, b, c⟩ => ⟨h1, c, a, b, h2⟩⟩
theorem own_form {n d : Int} (h : vld n d = true) : fits n d = true ∧ rn n d = n ∧ rd n d = d := by
  have hv := vld_yes h
  have e1 : num n d = n := by unfold num; rw [if_neg (by omega), hv.2.2.2.2]; simp
  have e2 : den n d = d := by unfold den; rw [if_neg (by omega), hv.2.2.2.2]; simp
  have hf : fits n d = true := by
    unfold fits wide
    rw [e1, e2, h]
    have a : (d != 0) = true := by rw [bne_iff_ne]; omega
    have b : decide (-1000000000000000000 ≤ n ∧ n ≤ 1000000000000000000) = true := by rw [decide_eq_true_iff]; omega
    have c : decide (-1000000000000000000 ≤ d ∧ d ≤ 1000000000000000000) = true := by rw [decide_eq_true_iff]; omega
    rw [a, b, c]; rfl
  exact ⟨hf, by unfold rn; rw [if_pos hf, e1], by unfold rd; rw [if_pos hf, e2]⟩
theorem fits_vld {n d : Int} (h : fits n d = true) : vld (rn n d) (rd n d) = true := by
  have h2 := h
  unfold fits at h2
  simp only [Bool.and_eq_true] at h2
  unfold rn rd
  rw [if_pos h, if_pos h]
  exact h2.2
theorem not_own {n d : Int} (h : vld n d = false) : (fits n d && (rn n d == n && rd n d == d)) = false := by
  rcases hf : fits n d with _ | _
  · rfl
  · have hv := fits_vld hf
    rcases h1 : (rn n d == n && rd n d == d) with _ | _
    · rfl
    · simp only [Bool.and_eq_true, beq_iff_eq] at h1
      rw [h1.1, h1.2, h] at hv
      exact absurd hv (by decide)
theorem rn_no {n d : Int} (h : fits n d = false) : rn n d = 0 ∧ rd n d = 0 := by
  unfold rn rd; rw [h]; exact ⟨rfl, rfl⟩
theorem rn_bd (n d : Int) : -1000000000 ≤ rn n d ∧ rn n d ≤ 1000000000 ∧ 0 ≤ rd n d ∧ rd n d ≤ 1000000000 := by
  rcases hf : fits n d with _ | _
  · obtain ⟨a, b⟩ := rn_no hf; omega
  · have := vld_yes (fits_vld hf); omega

theorem prod_bd {a b x y : Int} (ha : -1000000000 ≤ a) (ha' : a ≤ 1000000000) (hb : -1000000000 ≤ b) (hb' : b ≤ 1000000000) (hx : x = a * b) (_hy : y = 0) : -1000000000000000000 ≤ x ∧ x ≤ 1000000000000000000 := by
  subst hx
  have h1 : a.natAbs ≤ 1000000000 := by omega
  have h2 : b.natAbs ≤ 1000000000 := by omega
  have h3 : (a * b).natAbs ≤ 1000000000 * 1000000000 := by rw [Int.natAbs_mul]; exact Nat.mul_le_mul h1 h2
  omega
theorem mul_bd (a b : Int) (ha : -1000000000 ≤ a) (ha' : a ≤ 1000000000) (hb : -1000000000 ≤ b) (hb' : b ≤ 1000000000) : -1000000000000000000 ≤ a * b ∧ a * b ≤ 1000000000000000000 := prod_bd ha ha' hb hb' rfl (rfl : (0 : Int) = 0)

theorem cross {n d : Int} (h : fits n d = true) : rn n d * d = n * rd n d := by
  have h2 := h
  unfold fits at h2
  simp only [Bool.and_eq_true, bne_iff_ne] at h2
  have hd : d ≠ 0 := h2.1.1.1
  have hg := gcd_pos (n := n) hd
  unfold rn rd
  rw [if_pos h, if_pos h]
  unfold num den
  obtain ⟨a, ha⟩ : (Int.gcd n d : Int) ∣ n := Int.gcd_dvd_left _ _
  obtain ⟨b, hb⟩ : (Int.gcd n d : Int) ∣ d := Int.gcd_dvd_right _ _
  have hg' : (Int.gcd n d : Int) ≠ 0 := by omega
  generalize (Int.gcd n d : Int) = g at *
  subst ha hb
  split
  · rw [← Int.mul_neg, ← Int.mul_neg, Int.mul_ediv_cancel_left _ hg', Int.mul_ediv_cancel_left _ hg']; grind
  · rw [Int.mul_ediv_cancel_left _ hg', Int.mul_ediv_cancel_left _ hg']; grind
theorem dvd_of_coprime {a b c : Int} (h : Int.gcd a b = 1) (hd : b ∣ a * c) : b ∣ c := by
  have h1 : Nat.Coprime b.natAbs a.natAbs := by
    have h0 : Nat.gcd a.natAbs b.natAbs = 1 := by rw [← Int.gcd_eq_natAbs_gcd_natAbs]; exact h
    unfold Nat.Coprime; rw [Nat.gcd_comm]; exact h0
  have h2 : b.natAbs ∣ a.natAbs * c.natAbs := by rw [← Int.natAbs_mul]; exact Int.natAbs_dvd_natAbs.2 hd
  exact Int.natAbs_dvd_natAbs.1 (Nat.Coprime.dvd_of_dvd_mul_left h1 h2)
theorem canon {a b c e : Int} (h1 : vld a b = true) (h2 : vld c e = true) (hx : a * e = c * b) : a = c ∧ b = e := by
  have v1 := vld_yes h1
  have v2 := vld_yes h2
  have d1 : b ∣ e := dvd_of_coprime v1.2.2.2.2 ⟨c, by rw [hx, Int.mul_comm]⟩
  have d2 : e ∣ b := dvd_of_coprime v2.2.2.2.2 ⟨a, by rw [← hx, Int.mul_comm]⟩
  have hbe : b = e := Int.dvd_antisymm (by omega) (by omega) d1 d2
  subst hbe
  exact ⟨Int.eq_of_mul_eq_mul_right (by omega) hx, rfl⟩
theorem mul_cancel {a b k : Int} (hk : k ≠ 0) (h : a * k = b * k) : a = b := Int.eq_of_mul_eq_mul_right hk h
theorem back_add {an ad bn bd sn sd tn td : Int} (hs : sn * (ad * bd) = (an * bd + bn * ad) * sd) (ht : tn * (sd * bd) = (sn * bd - bn * sd) * td) (h1 : sd ≠ 0) (h2 : bd ≠ 0) : tn * ad = an * td := by
  have hk : sd * bd ≠ 0 := Int.mul_ne_zero h1 h2
  apply mul_cancel hk
  grind
theorem back_mul {an ad bn bd pn pd qn qd : Int} (hp : pn * (ad * bd) = (an * bn) * pd) (hq : qn * (pd * bn) = (pn * bd) * qd) (h1 : pd ≠ 0) (h2 : bn ≠ 0) (h3 : bd ≠ 0) : qn * ad = an * qd := by
  have hk : pd * bn * bd ≠ 0 := Int.mul_ne_zero (Int.mul_ne_zero h1 h2) h3
  apply mul_cancel hk
  grind
theorem sign_pos {n d : Int} (h : fits n d = true) (hd : 0 < d) : decide (0 < rn n d) = decide (0 < n) := by
  have hx := cross h
  have hv := (vld_yes (fits_vld h)).1
  rw [Bool.eq_iff_iff, decide_eq_true_iff, decide_eq_true_iff]
  constructor
  · intro h1
    have : 0 < n * rd n d := by rw [← hx]; exact Int.mul_pos h1 hd
    exact Int.pos_of_mul_pos_left this (by omega)
  · intro h1
    have : 0 < rn n d * d := by rw [hx]; exact Int.mul_pos h1 (by omega)
    exact Int.pos_of_mul_pos_left this hd

theorem tdiv_num {n d : Int} (h : d < 0) : (-n).tdiv (Int.gcd n d : Int) = num n d := by
  unfold num
  rw [if_pos h, Int.tdiv_eq_ediv_of_dvd (Int.dvd_neg.2 (Int.gcd_dvd_left _ _))]
theorem tdiv_num' {n d : Int} (h : ¬ d < 0) : n.tdiv (Int.gcd n d : Int) = num n d := by
  unfold num
  rw [if_neg h, Int.tdiv_eq_ediv_of_dvd (Int.gcd_dvd_left _ _)]
theorem div_den {n d : Int} (h : d < 0) : (-d) / (Int.gcd n d : Int) = den n d := by unfold den; rw [if_pos h]
theorem div_den' {n d : Int} (h : ¬ d < 0) : d / (Int.gcd n d : Int) = den n d := by unfold den; rw [if_neg h]
theorem abs_quo {x g : Int} (hg : 0 < g) (hd : g ∣ x) : (x / g).natAbs ≤ x.natAbs := by
  obtain ⟨k, rfl⟩ := hd
  rw [Int.mul_ediv_cancel_left _ (by omega), Int.natAbs_mul]
  exact Nat.le_mul_of_pos_left _ (by omega)
theorem num_bd {n d : Int} (h : d ≠ 0) (hn : -1000000000000000000 ≤ n) (hn' : n ≤ 1000000000000000000) : -1000000000000000000 ≤ num n d ∧ num n d ≤ 1000000000000000000 := by
  have hg := gcd_pos (n := n) h
  have h1 : (num n d).natAbs ≤ n.natAbs := by
    unfold num
    split
    · refine Nat.le_trans (abs_quo (by omega) (Int.dvd_neg.2 (Int.gcd_dvd_left _ _))) ?_
      rw [Int.natAbs_neg]; exact Nat.le_refl _
    · exact abs_quo (by omega) (Int.gcd_dvd_left _ _)
  omega
theorem den_bd {n d : Int} (h : d ≠ 0) (hn : -1000000000000000000 ≤ d) (hn' : d ≤ 1000000000000000000) : 1 ≤ den n d ∧ den n d ≤ 1000000000000000000 := by
  have hg := gcd_pos (n := n) h
  have h1 : (den n d).natAbs ≤ d.natAbs := by
    unfold den
    split
    · refine Nat.le_trans (abs_quo (by omega) (Int.dvd_neg.2 (Int.gcd_dvd_right _ _))) ?_
      rw [Int.natAbs_neg]; exact Nat.le_refl _
    · exact abs_quo (by omega) (Int.gcd_dvd_right _ _)
  have h2 := den_pos (n := n) h
  omega
theorem fits_zero (n : Int) : fits n 0 = false := by unfold fits; simp
theorem fits_nwide {n d : Int} (h : wide n = false) : fits n d = false := by unfold fits; rw [h]; simp
theorem fits_dwide {n d : Int} (h : wide d = false) : fits n d = false := by unfold fits; rw [h]; simp
theorem fits_is {n d : Int} (h : d ≠ 0) (hn : wide n = true) (hd : wide d = true) : fits n d = vld (num n d) (den n d) := by
  unfold fits; rw [hn, hd]
  have : (d != 0) = true := by rw [bne_iff_ne]; exact h
  rw [this]; rfl
theorem rn_yes {n d : Int} (h : fits n d = true) : rn n d = num n d ∧ rd n d = den n d := by unfold rn rd; rw [if_pos h, if_pos h]; exact ⟨rfl, rfl⟩

def opN (k : Bool) (x y : Int) : Int := if k then rn x y else 0
def opD (k : Bool) (x y : Int) : Int := if k then rd x y else 0
def opK (k : Bool) (x y : Int) : Bool := k && fits x y
theorem op_yes (x y : Int) : opN true x y = rn x y ∧ opD true x y = rd x y ∧ opK true x y = fits x y := ⟨rfl, rfl, rfl⟩
theorem op_no (x y : Int) : opN false x y = 0 ∧ opD false x y = 0 ∧ opK false x y = false := ⟨rfl, rfl, rfl⟩
def two (an ad bn bd : Int) : Bool := vld an ad && vld bn bd
theorem vld_neg (n d : Int) : vld (-n) d = vld n d := by
  unfold vld
  rw [Int.neg_gcd, Bool.eq_iff_iff, decide_eq_true_iff, decide_eq_true_iff]
  omega
theorem prods {an ad bn bd : Int} (h1 : vld an ad = true) (h2 : vld bn bd = true) :
    (-1000000000000000000 ≤ an * bd ∧ an * bd ≤ 1000000000000000000) ∧ (-1000000000000000000 ≤ bn * ad ∧ bn * ad ≤ 1000000000000000000) ∧
    (-1000000000000000000 ≤ ad * bd ∧ ad * bd ≤ 1000000000000000000) ∧ (-1000000000000000000 ≤ an * bn ∧ an * bn ≤ 1000000000000000000) ∧ (-1000000000000000000 ≤ ad * bn ∧ ad * bn ≤ 1000000000000000000) := by
  have v1 := vld_yes h1
  have v2 := vld_yes h2
  exact ⟨mul_bd _ _ (by omega) (by omega) (by omega) (by omega), mul_bd _ _ (by omega) (by omega) (by omega) (by omega), mul_bd _ _ (by omega) (by omega) (by omega) (by omega), mul_bd _ _ (by omega) (by omega) (by omega) (by omega), mul_bd _ _ (by omega) (by omega) (by omega) (by omega)⟩
def cmp (an ad bn bd : Int) : Int := if two an ad bn bd then (if an * bd < bn * ad then -1 else if bn * ad < an * bd then 1 else 0) else 0
theorem cmp_no {an ad bn bd : Int} (h : two an ad bn bd = false) : cmp an ad bn bd = 0 := by unfold cmp; rw [h]; rfl
theorem cmp_lt {an ad bn bd : Int} (h : two an ad bn bd = true) (hl : an * bd < bn * ad) : cmp an ad bn bd = -1 := by unfold cmp; rw [if_pos h, if_pos hl]
theorem cmp_gt {an ad bn bd : Int} (h : two an ad bn bd = true) (hl : bn * ad < an * bd) : cmp an ad bn bd = 1 := by unfold cmp; rw [if_pos h, if_neg (by omega), if_pos hl]
theorem cmp_eq {an ad bn bd : Int} (hl : an * bd = bn * ad) : cmp an ad bn bd = 0 := by unfold cmp; rw [hl]; simp
def flo (n d : Int) : Int := if vld n d then n / d else 0
theorem flo_no {n d : Int} (h : vld n d = false) : flo n d = 0 := by unfold flo; rw [h]; rfl
theorem flo_yes {n d : Int} (h : vld n d = true) : flo n d = n / d := by unfold flo; rw [if_pos h]
theorem floor_neg {n d : Int} (hd : 1 ≤ d) (h : n.tmod d < 0) : n.tdiv d - 1 = n / d := by
  have h1 := Int.tmod_add_mul_tdiv n d
  have h2 := Int.emod_add_mul_ediv n d
  have h3 := Int.emod_nonneg n (show d ≠ 0 by omega)
  have h4 := Int.emod_lt_of_pos n (show 0 < d by omega)
  have h5 : -d < n.tmod d := by have := Int.lt_tmod_of_pos n (show 0 < d by omega); omega
  have e : d * (n.tdiv d - 1 - n / d) = n % d - n.tmod d - d := by rw [Int.mul_sub, Int.mul_sub]; omega
  rcases Int.lt_trichotomy (n.tdiv d - 1 - n / d) 0 with h6 | h6 | h6
  · have := Int.mul_le_mul_of_nonneg_left (show n.tdiv d - 1 - n / d ≤ -1 by omega) (show 0 ≤ d by omega)
    omega
  · omega
  · have := Int.mul_le_mul_of_nonneg_left (show 1 ≤ n.tdiv d - 1 - n / d by omega) (show 0 ≤ d by omega)
    omega
theorem floor_pos {n d : Int} (hd : 1 ≤ d) (h : ¬ n.tmod d < 0) : n.tdiv d = n / d := by
  have h1 := Int.tmod_add_mul_tdiv n d
  have h2 := Int.emod_add_mul_ediv n d
  have h3 := Int.emod_nonneg n (show d ≠ 0 by omega)
  have h4 := Int.emod_lt_of_pos n (show 0 < d by omega)
  have h5 : n.tmod d < d := Int.tmod_lt_of_pos n (show 0 < d by omega)
  have e : d * (n.tdiv d - n / d) = n % d - n.tmod d := by rw [Int.mul_sub]; omega
  rcases Int.lt_trichotomy (n.tdiv d - n / d) 0 with h6 | h6 | h6
  · have := Int.mul_le_mul_of_nonneg_left (show n.tdiv d - n / d ≤ -1 by omega) (show 0 ≤ d by omega)
    omega
  · omega
  · have := Int.mul_le_mul_of_nonneg_left (show 1 ≤ n.tdiv d - n / d by omega) (show 0 ≤ d by omega)
    omega
theorem tdiv_bd (n d : Int) : (n.tdiv d).natAbs ≤ n.natAbs := by
  rw [Int.natAbs_tdiv]
  exact Nat.div_le_self _ _
theorem two_yes {an ad bn bd : Int} (h : two an ad bn bd = true) : vld an ad = true ∧ vld bn bd = true := by unfold two at h; rw [Bool.and_eq_true] at h; exact h
theorem two_neg (an ad bn bd : Int) : two an ad (-bn) bd = two an ad bn bd := by unfold two; rw [vld_neg]
end Go.Proofs.Ytpjnjidbdpfdcaa.Ra

namespace Go.Proofs.Ytpjnjidbdpfdcaa.Ra

theorem op_true {k : Bool} {x y : Int} (h : opK k x y = true) : k = true ∧ fits x y = true ∧ opN k x y = rn x y ∧ opD k x y = rd x y := by
  unfold opK at h
  rw [Bool.and_eq_true] at h
  exact ⟨h.1, h.2, by unfold opN; rw [if_pos h.1], by unfold opD; rw [if_pos h.1]⟩
theorem same_pair {a b c d : Int} (h : a = c ∧ b = d) : (a == c && b == d) = true := by rw [h.1, h.2]; simp
theorem field_add (an ad bn bd : Int) (h1 : opK (two an ad bn bd) (an * bd + bn * ad) (ad * bd) = true)
    (h2 : opK (two (opN (two an ad bn bd) (an * bd + bn * ad) (ad * bd)) (opD (two an ad bn bd) (an * bd + bn * ad) (ad * bd)) bn bd)
      (opN (two an ad bn bd) (an * bd + bn * ad) (ad * bd) * bd - bn * opD (two an ad bn bd) (an * bd + bn * ad) (ad * bd)) (opD (two an ad bn bd) (an * bd + bn * ad) (ad * bd) * bd) = true) :
    (opN (two (opN (two an ad bn bd) (an * bd + bn * ad) (ad * bd)) (opD (two an ad bn bd) (an * bd + bn * ad) (ad * bd)) bn bd)
      (opN (two an ad bn bd) (an * bd + bn * ad) (ad * bd) * bd - bn * opD (two an ad bn bd) (an * bd + bn * ad) (ad * bd)) (opD (two an ad bn bd) (an * bd + bn * ad) (ad * bd) * bd) == an &&
     opD (two (opN (two an ad bn bd) (an * bd + bn * ad) (ad * bd)) (opD (two an ad bn bd) (an * bd + bn * ad) (ad * bd)) bn bd)
      (opN (two an ad bn bd) (an * bd + bn * ad) (ad * bd) * bd - bn * opD (two an ad bn bd) (an * bd + bn * ad) (ad * bd)) (opD (two an ad bn bd) (an * bd + bn * ad) (ad * bd) * bd) == ad) = true := by
  obtain ⟨k1, f1, e1, e2⟩ := op_true h1
  rw [e1, e2] at h2 ⊢
  obtain ⟨k2, f2, e3, e4⟩ := op_true h2
  rw [e3, e4]
  have c1 := cross f1
  have c2 := cross f2
  have va := (two_yes k1).1
  have vb := (two_yes k1).2
  have vs := vld_yes (fits_vld f1)
  have vb' := vld_yes vb
  have hx := back_add c1 c2 (by omega) (by omega)
  exact same_pair (canon (fits_vld f2) va hx)
theorem field_mul (an ad bn bd : Int) (h1 : opK (two an ad bn bd) (an * bn) (ad * bd) = true)
    (h2 : opK (two (opN (two an ad bn bd) (an * bn) (ad * bd)) (opD (two an ad bn bd) (an * bn) (ad * bd)) bn bd)
      (opN (two an ad bn bd) (an * bn) (ad * bd) * bd) (opD (two an ad bn bd) (an * bn) (ad * bd) * bn) = true) :
    (opN (two (opN (two an ad bn bd) (an * bn) (ad * bd)) (opD (two an ad bn bd) (an * bn) (ad * bd)) bn bd)
      (opN (two an ad bn bd) (an * bn) (ad * bd) * bd) (opD (two an ad bn bd) (an * bn) (ad * bd) * bn) == an &&
     opD (two (opN (two an ad bn bd) (an * bn) (ad * bd)) (opD (two an ad bn bd) (an * bn) (ad * bd)) bn bd)
      (opN (two an ad bn bd) (an * bn) (ad * bd) * bd) (opD (two an ad bn bd) (an * bn) (ad * bd) * bn) == ad) = true := by
  obtain ⟨k1, f1, e1, e2⟩ := op_true h1
  rw [e1, e2] at h2 ⊢
  obtain ⟨k2, f2, e3, e4⟩ := op_true h2
  rw [e3, e4]
  have c1 := cross f1
  have c2 := cross f2
  have va := (two_yes k1).1
  have vb' := vld_yes (two_yes k1).2
  have vp := vld_yes (fits_vld f1)
  have hne : rd (an * bn) (ad * bd) * bn ≠ 0 := by
    intro h0
    have := f2
    unfold fits at this
    rw [h0] at this
    simp at this
  have hbn : bn ≠ 0 := fun h => hne (by rw [h, Int.mul_zero])
  have hx := back_mul c1 c2 (by omega) hbn (by omega)
  exact same_pair (canon (fits_vld f2) va hx)
theorem field_cmp (an ad bn bd : Int) (h : opK (two an ad bn bd) (an * bd - bn * ad) (ad * bd) = true) :
    decide (0 < opN (two an ad bn bd) (an * bd - bn * ad) (ad * bd)) = decide (0 < cmp an ad bn bd) := by
  obtain ⟨k1, f1, e1, e2⟩ := op_true h
  rw [e1]
  have va := vld_yes (two_yes k1).1
  have vb := vld_yes (two_yes k1).2
  rw [sign_pos f1 (Int.mul_pos (by omega) (by omega))]
  rcases Int.lt_trichotomy (an * bd) (bn * ad) with h1 | h1 | h1
  · rw [cmp_lt k1 h1, decide_eq_decide]; omega
  · rw [cmp_eq h1, decide_eq_decide]; omega
  · rw [cmp_gt k1 h1, decide_eq_decide]; omega
end Go.Proofs.Ytpjnjidbdpfdcaa.Ra

namespace Go.Proofs.Ytpjnjidbdpfdcaa.Ve

abbrev R := Int × Int
def vld (x : R) : Bool := Ra.vld x.1 x.2
def mulR (x y : R) : R := (Ra.opN (Ra.two x.1 x.2 y.1 y.2) (x.1 * y.1) (x.2 * y.2), Ra.opD (Ra.two x.1 x.2 y.1 y.2) (x.1 * y.1) (x.2 * y.2))
def mulK (x y : R) : Bool := Ra.opK (Ra.two x.1 x.2 y.1 y.2) (x.1 * y.1) (x.2 * y.2)
def addR (x y : R) : R := (Ra.opN (Ra.two x.1 x.2 y.1 y.2) (x.1 * y.2 + y.1 * x.2) (x.2 * y.2), Ra.opD (Ra.two x.1 x.2 y.1 y.2) (x.1 * y.2 + y.1 * x.2) (x.2 * y.2))
def addK (x y : R) : Bool := Ra.opK (Ra.two x.1 x.2 y.1 y.2) (x.1 * y.2 + y.1 * x.2) (x.2 * y.2)

theorem op_zero {k : Bool} {x y : Int} (h : Ra.opK k x y = false) : Ra.opN k x y = 0 ∧ Ra.opD k x y = 0 := by
  unfold Ra.opK at h
  unfold Ra.opN Ra.opD
  cases k
  · exact ⟨rfl, rfl⟩
  · exact Ra.rn_no (by simpa using h)
theorem mul_no {x y : R} (h : mulK x y = false) : mulR x y = (0, 0) := by
  obtain ⟨h1, h2⟩ := op_zero h
  unfold mulR
  rw [h1, h2]
theorem add_no {x y : R} (h : addK x y = false) : addR x y = (0, 0) := by
  obtain ⟨h1, h2⟩ := op_zero h
  unfold addR
  rw [h1, h2]
theorem vld_zero : vld (0, 0) = false := by decide
theorem two_right (x y : R) (h : vld y = false) : Ra.two x.1 x.2 y.1 y.2 = false := by unfold Ra.two; rw [show Ra.vld y.1 y.2 = false from h]; simp
theorem two_left (x y : R) (h : vld x = false) : Ra.two x.1 x.2 y.1 y.2 = false := by unfold Ra.two; rw [show Ra.vld x.1 x.2 = false from h]; rfl
theorem addK_right (x y : R) (h : vld y = false) : addK x y = false := by unfold addK; rw [two_right x y h]; rfl
theorem addK_left (x y : R) (h : vld x = false) : addK x y = false := by unfold addK; rw [two_left x y h]; rfl
theorem add_mul_no (s : R) {x y : R} (h : mulK x y = false) : addK s (mulR x y) = false := addK_right _ _ (by rw [mul_no h]; exact vld_zero)
theorem both {s x y : R} : (mulK x y && addK s (mulR x y)) = addK s (mulR x y) := by
  cases h : mulK x y
  · rw [add_mul_no s h]; rfl
  · rfl
theorem mul_vld {x y : R} (h : mulK x y = true) : vld (mulR x y) = true := by
  obtain ⟨_, f, e1, e2⟩ := Ra.op_true h
  unfold vld mulR
  rw [e1, e2]
  exact Ra.fits_vld f
theorem add_vld {x y : R} (h : addK x y = true) : vld (addR x y) = true := by
  obtain ⟨_, f, e1, e2⟩ := Ra.op_true h
  unfold vld addR
  rw [e1, e2]
  exact Ra.fits_vld f
theorem mulK_vld {x y : R} (h : mulK x y = true) : vld x = true ∧ vld y = true := Ra.two_yes (Ra.op_true h).1
theorem addK_vld {x y : R} (h : addK x y = true) : vld x = true ∧ vld y = true := Ra.two_yes (Ra.op_true h).1

/-! ### The value of a fraction -/
def val (x : R) : Rat := (x.1 : Rat) / (x.2 : Rat)
theorem den_ne {x : R} (h : vld x = true) : (x.2 : Rat) ≠ 0 := by
  have := (Ra.vld_yes h).1
  intro h0
  have h1 : x.2 = 0 := by simpa using h0
  omega
theorem val_eq {n d a b : Int} (hd : d ≠ 0) (hb : b ≠ 0) (h : a * d = n * b) : (a : Rat) / (b : Rat) = (n : Rat) / (d : Rat) := by
  have hd' : (d : Rat) ≠ 0 := by intro h0; exact hd (by simpa using h0)
  have hb' : (b : Rat) ≠ 0 := by intro h0; exact hb (by simpa using h0)
  have h' : (a : Rat) * (d : Rat) = (n : Rat) * (b : Rat) := by rw [← Rat.intCast_mul, ← Rat.intCast_mul, h]
  grind
theorem val_rn {n d : Int} (h : Ra.fits n d = true) : ((Ra.rn n d : Int) : Rat) / ((Ra.rd n d : Int) : Rat) = (n : Rat) / (d : Rat) := by
  have hd : d ≠ 0 := by intro h0; rw [h0, Ra.fits_zero] at h; cases h
  have v := Ra.vld_yes (Ra.fits_vld h)
  exact val_eq hd (by omega) (Ra.cross h)
theorem val_mul {x y : R} (h : mulK x y = true) : val (mulR x y) = val x * val y := by
  obtain ⟨k, f, e1, e2⟩ := Ra.op_true h
  have h1 := den_ne (Ra.two_yes k).1
  have h2 := den_ne (x := y) (Ra.two_yes k).2
  unfold val mulR
  rw [e1, e2]
  show ((Ra.rn _ _ : Int) : Rat) / ((Ra.rd _ _ : Int) : Rat) = _
  rw [val_rn f, Rat.intCast_mul, Rat.intCast_mul]
  grind
theorem val_add {x y : R} (h : addK x y = true) : val (addR x y) = val x + val y := by
  obtain ⟨k, f, e1, e2⟩ := Ra.op_true h
  have h1 := den_ne (Ra.two_yes k).1
  have h2 := den_ne (x := y) (Ra.two_yes k).2
  unfold val addR
  rw [e1, e2]
  show ((Ra.rn _ _ : Int) : Rat) / ((Ra.rd _ _ : Int) : Rat) = _
  rw [val_rn f, Rat.intCast_add, Rat.intCast_mul, Rat.intCast_mul, Rat.intCast_mul]
  grind
theorem val_inj {x y : R} (hx : vld x = true) (hy : vld y = true) (h : val x = val y) : x = y := by
  have h1 := den_ne hx
  have h2 := den_ne hy
  have h3 : (x.1 : Rat) * (y.2 : Rat) = (y.1 : Rat) * (x.2 : Rat) := by unfold val at h; grind
  have h4 : x.1 * y.2 = y.1 * x.2 := by
    rw [← Rat.intCast_mul, ← Rat.intCast_mul] at h3
    exact Rat.intCast_inj.1 h3
  obtain ⟨e1, e2⟩ := Ra.canon hx hy h4
  exact Prod.ext e1 e2

/-! ### Products, by partial sums -/
def at_ (l : List R) (k : Nat) : R := l.getD k (0, 0)
def acc (a b : List R) : Nat → R × Bool
  | 0 => ((0, 1), true)
  | k + 1 => (addR (acc a b k).1 (mulR (at_ a k) (at_ b k)), addK (acc a b k).1 (mulR (at_ a k) (at_ b k)))
theorem acc_zero (a b : List R) : acc a b 0 = ((0, 1), true) := rfl
theorem acc_succ (a b : List R) (k : Nat) : acc a b (k + 1) = (addR (acc a b k).1 (mulR (at_ a k) (at_ b k)), addK (acc a b k).1 (mulR (at_ a k) (at_ b k))) := rfl
theorem acc_no {a b : List R} {k : Nat} (h : (acc a b k).2 = false) : (acc a b k).1 = (0, 0) := by
  cases k with
  | zero => cases h
  | succ k => rw [acc_succ] at h ⊢; exact add_no h
theorem acc_stays {a b : List R} {k : Nat} (h : (acc a b k).2 = false) : (acc a b (k + 1)).2 = false := by
  rw [acc_succ, acc_no h]
  show addK (0, 0) (mulR (at_ a k) (at_ b k)) = false
  exact addK_left _ _ vld_zero
theorem acc_from {a b : List R} {k : Nat} (h : (acc a b k).2 = false) : ∀ n, k ≤ n → (acc a b n).2 = false
  | 0, hn => by obtain rfl : k = 0 := by omega
                exact h
  | n + 1, hn => by
    by_cases e : k = n + 1
    · subst e; exact h
    · exact acc_stays (acc_from h n (by omega))
theorem acc_all {a b : List R} {k n : Nat} (h : (acc a b n).2 = true) (hk : k ≤ n) : (acc a b k).2 = true := by
  cases h2 : (acc a b k).2
  · rw [acc_from h2 n hk] at h; cases h
  · rfl
theorem acc_vld {a b : List R} {k : Nat} (h : (acc a b k).2 = true) : vld (acc a b k).1 = true := by
  cases k with
  | zero => show vld (0, 1) = true; decide
  | succ k => rw [acc_succ] at h ⊢; exact add_vld h
theorem acc_val {a b : List R} {k : Nat} (h : (acc a b (k + 1)).2 = true) : val (acc a b (k + 1)).1 = val (acc a b k).1 + val (at_ a k) * val (at_ b k) := by
  rw [acc_succ] at h ⊢
  have hm : mulK (at_ a k) (at_ b k) = true := by
    cases h2 : mulK (at_ a k) (at_ b k)
    · have := add_mul_no (acc a b k).1 h2
      rw [show addK (acc a b k).1 (mulR (at_ a k) (at_ b k)) = true from h] at this; cases this
    · rfl
  rw [show (addR (acc a b k).1 (mulR (at_ a k) (at_ b k)), addK (acc a b k).1 (mulR (at_ a k) (at_ b k))).1 = addR (acc a b k).1 (mulR (at_ a k) (at_ b k)) from rfl, val_add h, val_mul hm]
def dotK (a b : List R) : Bool := decide (a.length = b.length) && (acc a b a.length).2
def dotR (a b : List R) : R := if a.length = b.length then (acc a b a.length).1 else (0, 0)
theorem dot_len {a b : List R} (h : a.length ≠ b.length) : dotR a b = (0, 0) ∧ dotK a b = false := by unfold dotR dotK; simp [h]
theorem dot_same {a b : List R} (h : a.length = b.length) : dotR a b = (acc a b a.length).1 ∧ dotK a b = (acc a b a.length).2 := by unfold dotR dotK; simp [h]
theorem dot_cut {a b : List R} {k : Nat} (h : a.length = b.length) (hk : k ≤ a.length) (hn : (acc a b k).2 = false) : dotR a b = (0, 0) ∧ dotK a b = false := by
  have h1 := acc_from hn a.length hk
  obtain ⟨e1, e2⟩ := dot_same h
  rw [e1, e2]
  exact ⟨acc_no h1, h1⟩

/-! ### Lists that are built element by element, while each fits -/
def allK (f : Nat → R × Bool) (n : Nat) : Bool := (List.range n).all fun j => (f j).2
def outR (f : Nat → R × Bool) (n : Nat) : List R := if allK f n then (List.range n).map fun j => (f j).1 else []
def upto (f : Nat → R × Bool) (k : Nat) : List R := (List.range k).map fun j => (f j).1
theorem upto_zero (f : Nat → R × Bool) : upto f 0 = [] := rfl
theorem upto_succ (f : Nat → R × Bool) (k : Nat) : upto f (k + 1) = upto f k ++ [(f k).1] := by simp [upto, List.range_succ]
theorem upto_len (f : Nat → R × Bool) (k : Nat) : (upto f k).length = k := by simp [upto]
theorem upto_at (f : Nat → R × Bool) (n j : Nat) (h : j < n) : at_ (upto f n) j = (f j).1 := by simp [at_, upto, h]
theorem allK_zero (f : Nat → R × Bool) : allK f 0 = true := rfl
theorem allK_succ (f : Nat → R × Bool) (k : Nat) : allK f (k + 1) = (allK f k && (f k).2) := by simp [allK, List.range_succ]
theorem allK_yes {f : Nat → R × Bool} {n : Nat} (h : allK f n = true) : ∀ j, j < n → (f j).2 = true := by
  intro j hj
  unfold allK at h
  rw [List.all_eq_true] at h
  exact h j (by simpa using hj)
theorem allK_no {f : Nat → R × Bool} {n k : Nat} (hk : k < n) (h : (f k).2 = false) : allK f n = false := by
  cases h2 : allK f n
  · rfl
  · rw [allK_yes h2 k hk] at h; cases h
theorem out_yes {f : Nat → R × Bool} {n : Nat} (h : allK f n = true) : outR f n = upto f n := by unfold outR; rw [if_pos h]; rfl
theorem out_no {f : Nat → R × Bool} {n : Nat} (h : allK f n = false) : outR f n = [] := by unfold outR; rw [h]; rfl
theorem out_len (f : Nat → R × Bool) (n : Nat) : (outR f n).length ≤ n := by unfold outR; split <;> simp
theorem all_congr {f g : Nat → R × Bool} {n : Nat} (h : ∀ j, j < n → f j = g j) : allK f n = allK g n ∧ outR f n = outR g n := by
  have e1 : allK f n = allK g n := by
    unfold allK
    rw [Bool.eq_iff_iff, List.all_eq_true, List.all_eq_true]
    exact ⟨fun h1 x hx => by rw [← h x (by simpa using hx)]; exact h1 x hx, fun h1 x hx => by rw [h x (by simpa using hx)]; exact h1 x hx⟩
  refine ⟨e1, ?_⟩
  unfold outR
  rw [e1]
  split
  · exact List.map_congr_left fun x hx => by rw [h x (by simpa using hx)]
  · rfl
def sc (a : List R) (k : R) (b : List R) (j : Nat) : R × Bool := (addR (at_ a j) (mulR k (at_ b j)), addK (at_ a j) (mulR k (at_ b j)))
def scK (a : List R) (k : R) (b : List R) : Bool := decide (a.length = b.length) && allK (sc a k b) a.length
def scR (a : List R) (k : R) (b : List R) : List R := if a.length = b.length then outR (sc a k b) a.length else []
theorem sc_len {a : List R} {k : R} {b : List R} (h : a.length ≠ b.length) : scR a k b = [] ∧ scK a k b = false := by unfold scR scK; simp [h]
theorem sc_same {a : List R} {k : R} {b : List R} (h : a.length = b.length) : scR a k b = outR (sc a k b) a.length ∧ scK a k b = allK (sc a k b) a.length := by unfold scR scK; simp [h]
theorem sc_short (a : List R) (k : R) (b : List R) : (scR a k b).length ≤ a.length := by
  unfold scR
  split
  · exact out_len _ _
  · simp
def inr (n : Int) : Bool := decide (-1000000000 ≤ n ∧ n ≤ 1000000000)
theorem inr_fits (n : Int) : Ra.fits n 1 = inr n := by
  have hg : (Int.gcd n 1 : Int) = 1 := by rw [Int.gcd_one_right]; rfl
  have hn : Ra.num n 1 = n := by unfold Ra.num; rw [hg, if_neg (by omega)]; exact Int.ediv_one n
  have hd : Ra.den n 1 = 1 := by unfold Ra.den; rw [hg, if_neg (by omega)]; rfl
  cases h : inr n
  · have h' := of_decide_eq_false h
    cases h2 : Ra.fits n 1
    · rfl
    · exfalso
      have v := Ra.vld_yes (Ra.fits_vld h2)
      rw [(Ra.rn_yes h2).1, hn] at v
      omega
  · have h' := of_decide_eq_true h
    have hv : Ra.vld n 1 = true := Ra.vld_mk (by omega) (by omega) h'.1 h'.2 (Int.gcd_one_right n)
    exact (Ra.own_form hv).1
theorem inr_rn {n : Int} (h : inr n = true) : Ra.rn n 1 = n ∧ Ra.rd n 1 = 1 := by
  have h' := of_decide_eq_true h
  exact (Ra.own_form (Ra.vld_mk (by omega) (by omega) h'.1 h'.2 (Int.gcd_one_right n))).2
def ofI (zs : List Int) (j : Nat) : R × Bool := ((Ra.rn (zs.getD j 0) 1, Ra.rd (zs.getD j 0) 1), Ra.fits (zs.getD j 0) 1)
def good (v : List R) : Bool := v.all vld
theorem good_at {v : List R} {k : Nat} (hk : k < v.length) (h : vld (at_ v k) = false) : good v = false := by
  cases h2 : good v
  · rfl
  · unfold good at h2
    rw [List.all_eq_true] at h2
    have e : at_ v k = v[k] := by unfold at_; rw [List.getD_eq_getElem?_getD, List.getElem?_eq_getElem hk]; rfl
    rw [e, h2 _ (List.getElem_mem hk)] at h; cases h
theorem good_all {v : List R} (h : ∀ k, k < v.length → vld (at_ v k) = true) : good v = true := by
  unfold good
  rw [List.all_eq_true]
  intro x hx
  obtain ⟨k, hk, rfl⟩ := List.mem_iff_getElem.1 hx
  have e : at_ v k = v[k] := by unfold at_; rw [List.getD_eq_getElem?_getD, List.getElem?_eq_getElem hk]; rfl
  rw [← e]; exact h k hk
theorem at_get {v : List R} {k : Nat} (hk : k < v.length) : v[k]? = some (at_ v k) := by
  unfold at_; rw [List.getD_eq_getElem?_getD, List.getElem?_eq_getElem hk]; rfl
theorem eq_of_at {a b : List R} (hl : a.length = b.length) (h : ∀ k, k < a.length → at_ a k = at_ b k) : a = b := by
  apply List.ext_getElem? fun k => ?_
  rcases Nat.lt_or_ge k a.length with h1 | h1
  · rw [at_get h1, at_get (hl ▸ h1), h k h1]
  · rw [List.getElem?_eq_none h1, List.getElem?_eq_none (hl ▸ h1)]

/-! ### Products are linear, where they fit -/
def ones (n : Nat) : List R := (List.range n).map fun j => (((j + 1 : Nat) : Int), 1)
theorem ones_len (n : Nat) : (ones n).length = n := by simp [ones]
theorem ones_succ (n : Nat) : ones (n + 1) = ones n ++ [(((n + 1 : Nat) : Int), 1)] := by simp [ones, List.range_succ]
theorem linear_acc (a b : List R) (k : R) (o : List R) (n : Nat) (hs : allK (sc a k b) n = true)
    (h1 : (acc (upto (sc a k b) n) o n).2 = true) (h2 : (acc a o n).2 = true) (h3 : (acc b o n).2 = true) :
    ∀ m, m ≤ n → val (acc (upto (sc a k b) n) o m).1 = val (acc a o m).1 + val k * val (acc b o m).1
  | 0, _ => by rw [acc_zero, acc_zero, acc_zero]; unfold val; grind
  | m + 1, hm => by
    have ih := linear_acc a b k o n hs h1 h2 h3 m (by omega)
    rw [acc_val (acc_all h1 hm), acc_val (acc_all h2 hm), acc_val (acc_all h3 hm), ih, upto_at _ _ _ (by omega)]
    have hk := allK_yes hs m (by omega)
    have hm' : mulK k (at_ b m) = true := by
      cases h : mulK k (at_ b m)
      · have := add_mul_no (at_ a m) h
        rw [show addK (at_ a m) (mulR k (at_ b m)) = true from hk] at this; cases this
      · rfl
    have e : val (sc a k b m).1 = val (at_ a m) + val k * val (at_ b m) := by
      show val (addR (at_ a m) (mulR k (at_ b m))) = _
      rw [val_add hk, val_mul hm']
    rw [e]
    grind
theorem linear (a b : List R) (k : R) (o : List R) (hk : scK a k b = true) (h1 : dotK (scR a k b) o = true) (h2 : dotK a o = true) (h3 : dotK b o = true)
    (h4 : mulK k (dotR b o) = true) (h5 : addK (dotR a o) (mulR k (dotR b o)) = true) : dotR (scR a k b) o = addR (dotR a o) (mulR k (dotR b o)) := by
  have hl : a.length = b.length := by unfold scK at hk; simp at hk; exact hk.1
  have hs : allK (sc a k b) a.length = true := by rw [← (sc_same hl).2]; exact hk
  have e : scR a k b = upto (sc a k b) a.length := by rw [(sc_same hl).1, out_yes hs]
  have ho : a.length = o.length := by unfold dotK at h2; simp at h2; exact h2.1
  have hol : (scR a k b).length = o.length := by rw [e, upto_len]; exact ho
  have d1 := (dot_same hol)
  have d2 := (dot_same ho)
  have d3 := (dot_same (a := b) (b := o) (by omega))
  rw [d1.2, e, upto_len] at h1
  rw [d2.2] at h2
  rw [d3.2, ← hl] at h3
  have hv := linear_acc a b k o a.length hs h1 h2 h3 a.length (Nat.le_refl _)
  refine val_inj ?_ (add_vld h5) ?_
  · rw [d1.1, e, upto_len]; exact acc_vld h1
  · rw [val_add h5, val_mul h4, d1.1, d2.1, d3.1, e, upto_len, ← hl]; exact hv
end Go.Proofs.Ytpjnjidbdpfdcaa.Ve

namespace Go.Proofs.Ytpjnjidbdpfdcaa.Lp
open Ve (R val at_ acc dotR dotK)

/-! ### Sums -/
def sm (f : Nat → Rat) : Nat → Rat
  | 0 => 0
  | n + 1 => sm f n + f n
theorem sm_congr {f g : Nat → Rat} : ∀ {n : Nat}, (∀ i, i < n → f i = g i) → sm f n = sm g n
  | 0, _ => rfl
  | n + 1, h => by
    show sm f n + f n = sm g n + g n
    rw [sm_congr (fun i hi => h i (by omega)), h n (by omega)]
theorem sm_zero : ∀ n : Nat, sm (fun _ => 0) n = 0
  | 0 => rfl
  | n + 1 => by show sm (fun _ => 0) n + 0 = 0; rw [sm_zero n]; grind
theorem sm_add (f g : Nat → Rat) : ∀ n : Nat, sm (fun i => f i + g i) n = sm f n + sm g n
  | 0 => by show (0 : Rat) = 0 + 0; grind
  | n + 1 => by show sm (fun i => f i + g i) n + (f n + g n) = (sm f n + f n) + (sm g n + g n); rw [sm_add f g n]; grind
theorem sm_mul (f : Nat → Rat) (c : Rat) : ∀ n : Nat, sm (fun i => f i * c) n = sm f n * c
  | 0 => by show (0 : Rat) = 0 * c; grind
  | n + 1 => by show sm (fun i => f i * c) n + f n * c = (sm f n + f n) * c; rw [sm_mul f c n]; grind
theorem sm_swap (f : Nat → Nat → Rat) (m : Nat) : ∀ n : Nat, sm (fun i => sm (fun j => f i j) n) m = sm (fun j => sm (fun i => f i j) m) n
  | 0 => sm_zero m
  | n + 1 => by
    show sm (fun i => sm (fun j => f i j) n + f i n) m = sm (fun j => sm (fun i => f i j) m) n + sm (fun i => f i n) m
    rw [sm_add, sm_swap f m n]
theorem sm_le {f g : Nat → Rat} : ∀ {n : Nat}, (∀ i, i < n → f i ≤ g i) → sm f n ≤ sm g n
  | 0, _ => by show (0 : Rat) ≤ 0; grind
  | n + 1, h => by
    have h1 := sm_le (f := f) (g := g) (n := n) (fun i hi => h i (by omega))
    have h2 := h n (by omega)
    show sm f n + f n ≤ sm g n + g n
    grind
theorem mul_le {a b c : Rat} (h : a ≤ b) (hc : 0 ≤ c) : a * c ≤ b * c := Rat.mul_le_mul_of_nonneg_right h hc
theorem weak (a : Nat → Nat → Rat) (m n : Nat) (x y b c : Nat → Rat) (hx : ∀ j, j < n → 0 ≤ x j) (hb : ∀ i, i < m → sm (fun j => a i j * x j) n = b i) (hd : ∀ j, j < n → sm (fun i => a i j * y i) m ≤ c j) :
    sm (fun i => b i * y i) m ≤ sm (fun j => c j * x j) n := by
  have e1 : sm (fun i => b i * y i) m = sm (fun i => sm (fun j => a i j * y i * x j) n) m := sm_congr fun i hi => by
    rw [← hb i hi, ← sm_mul]
    exact sm_congr fun j _ => by grind
  have e2 : ∀ j, sm (fun i => a i j * y i * x j) m = sm (fun i => a i j * y i) m * x j := fun j => sm_mul (fun i => a i j * y i) (x j) m
  rw [e1, sm_swap]
  refine sm_le fun j hj => ?_
  rw [e2 j]
  exact mul_le (hd j hj) (hx j hj)

/-! ### Values of products -/
theorem val_zero : val (0, 1) = 0 := by unfold val; grind
theorem acc_sum (a b : List R) : ∀ n : Nat, (acc a b n).2 = true → val (acc a b n).1 = sm (fun i => val (at_ a i) * val (at_ b i)) n
  | 0, _ => val_zero
  | n + 1, h => by rw [Ve.acc_val h, acc_sum a b n (Ve.acc_all h (by omega))]; rfl
theorem dot_parts {a b : List R} (h : dotK a b = true) : a.length = b.length ∧ (acc a b a.length).2 = true := by unfold dotK at h; simpa using h
theorem dot_val {a b : List R} (h : dotK a b = true) : val (dotR a b) = sm (fun i => val (at_ a i) * val (at_ b i)) a.length := by
  obtain ⟨h1, h2⟩ := dot_parts h
  rw [(Ve.dot_same h1).1]
  exact acc_sum a b _ h2
theorem dot_vld {a b : List R} (h : dotK a b = true) : Ve.vld (dotR a b) = true := by
  obtain ⟨h1, h2⟩ := dot_parts h
  rw [(Ve.dot_same h1).1]
  exact Ve.acc_vld h2
def ir (l : List Int) : List R := Ve.outR (Ve.ofI l) l.length
def irK (l : List Int) : Bool := Ve.allK (Ve.ofI l) l.length
theorem ir_at {l : List Int} (h : irK l = true) {i : Nat} (hi : i < l.length) : at_ (ir l) i = (l.getD i 0, 1) := by
  unfold ir
  rw [Ve.out_yes h, Ve.upto_at _ _ _ hi]
  have h1 := Ve.allK_yes h i hi
  have h2 : Ve.inr (l.getD i 0) = true := by rw [← Ve.inr_fits]; exact h1
  obtain ⟨e1, e2⟩ := Ve.inr_rn h2
  show (Ra.rn (l.getD i 0) 1, Ra.rd (l.getD i 0) 1) = _
  rw [e1, e2]
theorem ir_len {l : List Int} (h : irK l = true) : (ir l).length = l.length := by unfold ir; rw [Ve.out_yes h, Ve.upto_len]
theorem val_int (n : Int) : val (n, 1) = (n : Rat) := by unfold val; show (n : Rat) / ((1 : Int) : Rat) = n; grind
def idK (l : List Int) (v : List R) : Bool := irK l && dotK (ir l) v
def idR (l : List Int) (v : List R) : R := if idK l v then dotR (ir l) v else (0, 0)
theorem id_yes {l : List Int} {v : List R} (h : idK l v = true) : irK l = true ∧ dotK (ir l) v = true ∧ idR l v = dotR (ir l) v ∧ l.length = v.length := by
  have h' := h
  unfold idK at h'
  rw [Bool.and_eq_true] at h'
  refine ⟨h'.1, h'.2, by unfold idR; rw [if_pos h], ?_⟩
  have := (dot_parts h'.2).1
  rw [ir_len h'.1] at this
  exact this
theorem id_no {l : List Int} {v : List R} (h : idK l v = false) : idR l v = (0, 0) := by unfold idR; rw [h]; rfl
theorem id_val {l : List Int} {v : List R} (h : idK l v = true) : val (idR l v) = sm (fun i => ((l.getD i 0 : Int) : Rat) * val (at_ v i)) l.length := by
  obtain ⟨h1, h2, h3, _⟩ := id_yes h
  rw [h3, dot_val h2, ir_len h1]
  exact sm_congr fun i hi => by rw [ir_at h1 hi, val_int]
theorem id_vld {l : List Int} {v : List R} (h : idK l v = true) : Ve.vld (idR l v) = true := by
  obtain ⟨_, h2, h3, _⟩ := id_yes h
  rw [h3]; exact dot_vld h2

/-! ### The order of fractions, and values -/
theorem den_pos {x : R} (h : Ve.vld x = true) : (0 : Rat) < (x.2 : Rat) := by
  have := (Ra.vld_yes h).1
  have h1 : ((0 : Int) : Rat) < ((x.2 : Int) : Rat) := Rat.intCast_lt_intCast.2 (by omega)
  simpa using h1
theorem val_sign {x : R} (h : Ve.vld x = true) : (0 ≤ val x ↔ 0 ≤ x.1) := by
  have hd := den_pos h
  have hv : val x * (x.2 : Rat) = (x.1 : Rat) := by unfold val; grind
  constructor
  · intro h1
    have h2 : (0 : Rat) * (x.2 : Rat) ≤ val x * (x.2 : Rat) := mul_le h1 (by grind)
    rw [hv] at h2
    have h3 : ((0 : Int) : Rat) ≤ ((x.1 : Int) : Rat) := by simpa using h2
    exact Rat.intCast_le_intCast.1 h3
  · intro h1
    have h3 : ((0 : Int) : Rat) ≤ ((x.1 : Int) : Rat) := Rat.intCast_le_intCast.2 h1
    rcases Rat.le_total (a := 0) (b := val x) with h4 | h4
    · exact h4
    · have h5 : val x * (x.2 : Rat) ≤ 0 * (x.2 : Rat) := mul_le h4 (by grind)
      rw [hv] at h5
      have h6 : (x.1 : Rat) = 0 := by
        have : (0 : Rat) ≤ (x.1 : Rat) := by simpa using h3
        grind
      have : val x = 0 := by unfold val; rw [h6]; grind
      rw [this]; grind
theorem val_neg {x : R} (h : Ve.vld x = true) : (val x < 0 ↔ x.1 < 0) := by
  have := val_sign h
  grind
theorem val_pos {x : R} (h : Ve.vld x = true) : (0 < val x ↔ 0 < x.1) := by
  have h1 := val_sign h
  have hd := den_pos h
  constructor
  · intro h2
    have h3 := h1.1 (by grind)
    rcases Int.lt_or_eq_of_le h3 with h4 | h4
    · exact h4
    · exfalso
      have : val x = 0 := by unfold val; rw [← h4]; grind
      rw [this] at h2
      grind
  · intro h2
    have h3 := h1.2 (by omega)
    rcases Rat.le_iff_lt_or_eq.1 h3 with h4 | h4
    · exact h4
    · exfalso
      have hv : val x * (x.2 : Rat) = (x.1 : Rat) := by unfold val; grind
      rw [← h4] at hv
      have : (x.1 : Rat) = ((0 : Int) : Rat) := by rw [← hv]; grind
      have := Rat.intCast_inj.1 this
      omega
def notLess (c s : R) : Bool := decide (¬ Ra.cmp c.1 c.2 s.1 s.2 < 0)
theorem cmp_val {c s : R} (hc : Ve.vld c = true) (hs : Ve.vld s = true) : (Ra.cmp c.1 c.2 s.1 s.2 < 0 ↔ val c < val s) := by
  have hd := den_pos hc
  have he := den_pos hs
  have hv1 : val c * (c.2 : Rat) = (c.1 : Rat) := by unfold val; grind
  have hv2 : val s * (s.2 : Rat) = (s.1 : Rat) := by unfold val; grind
  have h2 : Ra.two c.1 c.2 s.1 s.2 = true := by unfold Ra.two; rw [show Ra.vld c.1 c.2 = true from hc, show Ra.vld s.1 s.2 = true from hs]; rfl
  have key : (c.1 * s.2 < s.1 * c.2 ↔ val c < val s) := by
    have e1 : ((c.1 * s.2 : Int) : Rat) = val c * ((c.2 : Rat) * (s.2 : Rat)) := by rw [Rat.intCast_mul, ← hv1]; grind
    have e2 : ((s.1 * c.2 : Int) : Rat) = val s * ((c.2 : Rat) * (s.2 : Rat)) := by rw [Rat.intCast_mul, ← hv2]; grind
    have hp : (0 : Rat) < (c.2 : Rat) * (s.2 : Rat) := Rat.mul_pos hd he
    rw [← Rat.intCast_lt_intCast, e1, e2]
    constructor
    · intro h
      rcases Rat.le_total (a := val s) (b := val c) with h3 | h3
      · have := mul_le h3 (show (0 : Rat) ≤ (c.2 : Rat) * (s.2 : Rat) by grind)
        grind
      · rcases Rat.le_iff_lt_or_eq.1 h3 with h4 | h4
        · exact h4
        · rw [h4] at h; grind
    · intro h
      exact Rat.mul_lt_mul_of_pos_right h hp
  unfold Ra.cmp
  rw [if_pos h2]
  constructor
  · intro h
    split at h
    · rename_i h3; exact key.1 h3
    · split at h <;> omega
  · intro h
    rw [if_pos (key.2 h)]
    decide
theorem notLess_val {c s : R} (hc : Ve.vld c = true) (hs : Ve.vld s = true) (h : notLess c s = true) : val s ≤ val c := by
  have h1 := of_decide_eq_true h
  rw [cmp_val hc hs] at h1
  grind
end Go.Proofs.Ytpjnjidbdpfdcaa.Lp

namespace Go.Proofs.Ytpjnjidbdpfdcaa.Lp
open Ve (R val at_ acc dotR dotK)

structure P where
  A : List (List Int)
  B : List Int
  C : List R
structure Res where
  status : Int
  X : List R
  Y : List R
  ray : List R
  value : R
  pivots : Int
def small (l : List Int) : Bool := l.all fun z => decide (-5000 ≤ z ∧ z ≤ 5000)
def row (p : P) (i : Nat) : List Int := p.A.getD i []
def rows (p : P) : Bool := (List.range p.A.length).all fun i => decide ((row p i).length = p.C.length) && small (row p i)
def vldP (p : P) : Bool := rows p && (decide (p.C.length ≤ 70) && (decide (p.A.length ≤ 8) && (decide (p.B.length = p.A.length) && (small p.B && Ve.good p.C))))
def col (p : P) (j : Nat) : List Int := p.A.map fun r => r.getD j 0
def nonneg (v : List R) : Bool := v.all fun x => Ve.vld x && decide (0 ≤ x.1)
def gives (p : P) (v : List R) (b : List Int) : Bool := (List.range p.A.length).all fun i => idK (row p i) v && decide (idR (row p i) v = (b.getD i 0, 1))
def feas (p : P) (x : List R) : Bool := vldP p && (decide (x.length = p.C.length) && (nonneg x && gives p x p.B))
def dual (p : P) (y c : List R) : Bool := (List.range p.C.length).all fun j => idK (col p j) y && notLess (at_ c j) (idR (col p j) y)
def zerosR (n : Nat) : List R := (List.range n).map fun _ => (0, 1)
def zerosI (n : Nat) : List Int := (List.range n).map fun _ => 0
def opt (p : P) (r : Res) : Bool := feas p r.X && (decide (r.Y.length = p.B.length) && (dual p r.Y p.C && (dotK p.C r.X && (idK p.B r.Y && (decide (dotR p.C r.X = idR p.B r.Y) && decide (dotR p.C r.X = r.value))))))
def inf (p : P) (r : Res) : Bool := decide (r.Y.length = p.B.length) && (dual p r.Y (zerosR p.C.length) && (idK p.B r.Y && decide (0 < (idR p.B r.Y).1)))
def unb (p : P) (r : Res) : Bool := feas p r.X && (decide (r.ray.length = p.C.length) && (nonneg r.ray && (gives p r.ray (zerosI p.B.length) && (dotK p.C r.ray && decide ((dotR p.C r.ray).1 < 0)))))
def chk (p : P) (r : Res) : Bool := vldP p && (if r.status = 1 then opt p r else if r.status = 2 then inf p r else if r.status = 3 then unb p r else false)

theorem vld_parts {p : P} (h : vldP p = true) : rows p = true ∧ p.C.length ≤ 70 ∧ p.A.length ≤ 8 ∧ p.B.length = p.A.length ∧ small p.B = true ∧ Ve.good p.C = true := by
  unfold vldP at h
  simp only [Bool.and_eq_true, decide_eq_true_eq] at h
  exact ⟨h.1, h.2.1, h.2.2.1, h.2.2.2.1, h.2.2.2.2.1, h.2.2.2.2.2⟩
theorem rows_at {p : P} (h : rows p = true) {i : Nat} (hi : i < p.A.length) : (row p i).length = p.C.length ∧ small (row p i) = true := by
  unfold rows at h
  rw [List.all_eq_true] at h
  have := h i (by simpa using hi)
  simpa using this
theorem good_get {v : List R} (h : Ve.good v = true) {j : Nat} (hj : j < v.length) : Ve.vld (at_ v j) = true := by
  cases h2 : Ve.vld (at_ v j)
  · rw [Ve.good_at hj h2] at h; cases h
  · rfl
theorem nonneg_at {v : List R} (h : nonneg v = true) {j : Nat} (hj : j < v.length) : Ve.vld (at_ v j) = true ∧ 0 ≤ (at_ v j).1 := by
  unfold nonneg at h
  rw [List.all_eq_true] at h
  have e : at_ v j = v[j] := by unfold at_; rw [List.getD_eq_getElem?_getD, List.getElem?_eq_getElem hj]; rfl
  have := h v[j] (List.getElem_mem hj)
  rw [e]
  simpa using this
theorem nonneg_val {v : List R} (h : nonneg v = true) {j : Nat} (hj : j < v.length) : 0 ≤ val (at_ v j) := by
  obtain ⟨h1, h2⟩ := nonneg_at h hj
  exact (val_sign h1).2 h2
def co (p : P) (i j : Nat) : Rat := (((row p i).getD j 0 : Int) : Rat)
theorem col_at (p : P) (i j : Nat) (hi : i < p.A.length) : (((col p j).getD i 0 : Int) : Rat) = co p i j := by
  unfold col co row
  simp [hi]
theorem col_len (p : P) (j : Nat) : (col p j).length = p.A.length := by simp [col]
theorem gives_at {p : P} {v : List R} {b : List Int} (h : gives p v b = true) (hr : rows p = true) {i : Nat} (hi : i < p.A.length) : sm (fun j => co p i j * val (at_ v j)) p.C.length = ((b.getD i 0 : Int) : Rat) := by
  unfold gives at h
  rw [List.all_eq_true] at h
  have h1 := h i (by simpa using hi)
  rw [Bool.and_eq_true, decide_eq_true_eq] at h1
  have h2 := id_val h1.1
  rw [h1.2, val_int, (rows_at hr hi).1] at h2
  exact h2.symm
theorem dual_at {p : P} {y c : List R} (h : dual p y c = true) {j : Nat} (hj : j < p.C.length) (hc : Ve.vld (at_ c j) = true) : sm (fun i => co p i j * val (at_ y i)) p.A.length ≤ val (at_ c j) := by
  unfold dual at h
  rw [List.all_eq_true] at h
  have h1 := h j (by simpa using hj)
  rw [Bool.and_eq_true] at h1
  have h2 := id_val h1.1
  have h3 := notLess_val hc (id_vld h1.1) h1.2
  rw [col_len] at h2
  rw [h2] at h3
  have e : sm (fun i => co p i j * val (at_ y i)) p.A.length = sm (fun i => (((col p j).getD i 0 : Int) : Rat) * val (at_ y i)) p.A.length := sm_congr fun i hi => by rw [col_at p i j hi]
  rw [e]; exact h3
theorem feas_parts {p : P} {x : List R} (h : feas p x = true) : vldP p = true ∧ x.length = p.C.length ∧ nonneg x = true ∧ gives p x p.B = true := by
  unfold feas at h
  simpa using h
theorem weakP {p : P} {x y c : List R} {b : List Int} (hr : rows p = true) (hx : nonneg x = true) (hxl : x.length = p.C.length) (hg : gives p x b = true) (hd : dual p y c = true) (hc : ∀ j, j < p.C.length → Ve.vld (at_ c j) = true) :
    sm (fun i => ((b.getD i 0 : Int) : Rat) * val (at_ y i)) p.A.length ≤ sm (fun j => val (at_ c j) * val (at_ x j)) p.C.length :=
  weak (co p) p.A.length p.C.length (fun j => val (at_ x j)) (fun i => val (at_ y i)) (fun i => ((b.getD i 0 : Int) : Rat)) (fun j => val (at_ c j))
    (fun j hj => nonneg_val hx (by omega)) (fun i hi => gives_at hg hr hi) (fun j hj => dual_at hd hj (hc j hj))
theorem zeros_at {n j : Nat} (hj : j < n) : at_ (zerosR n) j = (0, 1) := by simp [at_, zerosR, hj]
theorem zerosI_at (n i : Nat) : (zerosI n).getD i 0 = 0 := by
  unfold zerosI
  rw [List.getD_eq_getElem?_getD, List.getElem?_map]
  rcases Nat.lt_or_ge i n with h | h
  · rw [List.getElem?_range h]; rfl
  · rw [List.getElem?_eq_none (by simpa using h)]; rfl
theorem opt_parts {p : P} {r : Res} (h : opt p r = true) : feas p r.X = true ∧ r.Y.length = p.B.length ∧ dual p r.Y p.C = true ∧ dotK p.C r.X = true ∧ idK p.B r.Y = true ∧ dotR p.C r.X = idR p.B r.Y ∧ dotR p.C r.X = r.value := by
  unfold opt at h
  simpa using h
theorem inf_parts {p : P} {r : Res} (h : inf p r = true) : r.Y.length = p.B.length ∧ dual p r.Y (zerosR p.C.length) = true ∧ idK p.B r.Y = true ∧ 0 < (idR p.B r.Y).1 := by
  unfold inf at h
  simpa using h
theorem unb_parts {p : P} {r : Res} (h : unb p r = true) : feas p r.X = true ∧ r.ray.length = p.C.length ∧ nonneg r.ray = true ∧ gives p r.ray (zerosI p.B.length) = true ∧ dotK p.C r.ray = true ∧ (dotR p.C r.ray).1 < 0 := by
  unfold unb at h
  simpa using h
theorem opt_least {p : P} {r : Res} {x : List R} (ho : opt p r = true) (hf : feas p x = true) (hk : dotK p.C x = true) : val r.value ≤ val (dotR p.C x) := by
  obtain ⟨f1, f2, f3, f4, f5, f6, f7⟩ := opt_parts ho
  obtain ⟨g1, g2, g3, g4⟩ := feas_parts hf
  obtain ⟨v1, v2, v3, v4, v5, v6⟩ := vld_parts g1
  have h := weakP v1 g3 g2 g4 f3 (fun j hj => good_get v6 hj)
  rw [← f7, f6, id_val f5, v4, dot_val hk]
  exact h
theorem opt_same {p : P} {r s : Res} (hr : opt p r = true) (hs : opt p s = true) : r.value = s.value := by
  obtain ⟨f1, f2, f3, f4, f5, f6, f7⟩ := opt_parts hr
  obtain ⟨g1, g2, g3, g4, g5, g6, g7⟩ := opt_parts hs
  have h1 := opt_least hr g1 g4
  have h2 := opt_least hs f1 f4
  rw [g7] at h1
  rw [f7] at h2
  refine Ve.val_inj (by rw [← f7]; exact dot_vld f4) (by rw [← g7]; exact dot_vld g4) ?_
  grind
theorem inf_none {p : P} {r : Res} {x : List R} (hi : inf p r = true) (hf : feas p x = true) : False := by
  obtain ⟨f1, f2, f3, f4⟩ := inf_parts hi
  obtain ⟨g1, g2, g3, g4⟩ := feas_parts hf
  obtain ⟨v1, v2, v3, v4, v5, v6⟩ := vld_parts g1
  have h := weakP v1 g3 g2 g4 f2 (fun j hj => by rw [zeros_at hj]; decide)
  have h2 := (val_pos (id_vld f3)).2 f4
  rw [id_val f3, v4] at h2
  have h3 : sm (fun j => val (at_ (zerosR p.C.length) j) * val (at_ x j)) p.C.length = 0 := by
    rw [← sm_zero p.C.length]
    exact sm_congr fun j hj => by rw [zeros_at hj, val_zero]; grind
  rw [h3] at h
  grind
theorem opt_unb {p : P} {r s : Res} (hr : opt p r = true) (hs : unb p s = true) : False := by
  obtain ⟨f1, f2, f3, f4, f5, f6, f7⟩ := opt_parts hr
  obtain ⟨g1, g2, g3, g4, g5, g6⟩ := unb_parts hs
  obtain ⟨v1, v2, v3, v4, v5, v6⟩ := vld_parts (feas_parts f1).1
  have h := weakP v1 g3 g2 g4 f3 (fun j hj => good_get v6 hj)
  have h2 := (val_neg (dot_vld g5)).2 g6
  rw [dot_val g5] at h2
  have h3 : sm (fun i => (((zerosI p.B.length).getD i 0 : Int) : Rat) * val (at_ r.Y i)) p.A.length = 0 := by
    rw [← sm_zero p.A.length]
    exact sm_congr fun i _ => by rw [zerosI_at]; grind
  rw [h3] at h
  grind
theorem chk_parts {p : P} {r : Res} (h : chk p r = true) : vldP p = true ∧ ((r.status = 1 ∧ opt p r = true) ∨ (r.status = 2 ∧ inf p r = true) ∨ (r.status = 3 ∧ unb p r = true)) := by
  unfold chk at h
  rw [Bool.and_eq_true] at h
  refine ⟨h.1, ?_⟩
  have h2 := h.2
  split at h2
  · exact .inl ⟨by assumption, h2⟩
  · split at h2
    · exact .inr (.inl ⟨by assumption, h2⟩)
    · split at h2
      · exact .inr (.inr ⟨by assumption, h2⟩)
      · cases h2
theorem agree {p : P} {r s : Res} (hr : chk p r = true) (hs : chk p s = true) : r.status = s.status ∧ (r.status = 1 → r.value = s.value) := by
  obtain ⟨_, h1⟩ := chk_parts hr
  obtain ⟨_, h2⟩ := chk_parts hs
  rcases h1 with ⟨a1, b1⟩ | ⟨a1, b1⟩ | ⟨a1, b1⟩ <;> rcases h2 with ⟨a2, b2⟩ | ⟨a2, b2⟩ | ⟨a2, b2⟩
  · exact ⟨by omega, fun _ => opt_same b1 b2⟩
  · exact absurd (opt_parts b1).1 (fun h => inf_none b2 h)
  · exact (opt_unb b1 b2).elim
  · exact absurd (opt_parts b2).1 (fun h => inf_none b1 h)
  · exact ⟨by omega, fun h => by omega⟩
  · exact absurd (unb_parts b2).1 (fun h => inf_none b1 h)
  · exact (opt_unb b2 b1).elim
  · exact absurd (unb_parts b1).1 (fun h => inf_none b2 h)
  · exact ⟨by omega, fun h => by omega⟩
theorem least {p : P} {r : Res} {x : List R} (hr : chk p r = true) (hf : feas p x = true) : r.status ≠ 2 ∧ (r.status = 1 → dotK p.C x = true → Ra.cmp r.value.1 r.value.2 (dotR p.C x).1 (dotR p.C x).2 ≤ 0) := by
  obtain ⟨_, h1⟩ := chk_parts hr
  rcases h1 with ⟨a1, b1⟩ | ⟨a1, b1⟩ | ⟨a1, b1⟩
  · refine ⟨by omega, fun _ hk => ?_⟩
    have h2 := opt_least b1 hf hk
    obtain ⟨f1, f2, f3, f4, f5, f6, f7⟩ := opt_parts b1
    have hv1 : Ve.vld r.value = true := by rw [← f7]; exact dot_vld f4
    have hv2 := dot_vld hk
    have h3 : ¬ Ra.cmp (dotR p.C x).1 (dotR p.C x).2 r.value.1 r.value.2 < 0 := by rw [cmp_val hv2 hv1]; grind
    -- the other way round
    unfold Ra.cmp at h3 ⊢
    have t1 : Ra.two r.value.1 r.value.2 (dotR p.C x).1 (dotR p.C x).2 = true := by unfold Ra.two; rw [show Ra.vld r.value.1 r.value.2 = true from hv1, show Ra.vld (dotR p.C x).1 (dotR p.C x).2 = true from hv2]; rfl
    have t2 : Ra.two (dotR p.C x).1 (dotR p.C x).2 r.value.1 r.value.2 = true := by unfold Ra.two; rw [show Ra.vld r.value.1 r.value.2 = true from hv1, show Ra.vld (dotR p.C x).1 (dotR p.C x).2 = true from hv2]; rfl
    rw [if_pos t2] at h3
    rw [if_pos t1]
    split
    · decide
    · split
      · rename_i h4 h5
        rw [if_pos h5] at h3
        exact absurd (by decide) h3
      · decide
  · exact (inf_none b1 hf).elim
  · exact ⟨by omega, fun h => by omega⟩
end Go.Proofs.Ytpjnjidbdpfdcaa.Lp
