/- Coalitions in plain terms: who belongs, how many, members, letters; nothing of the program. -/
import Derived.Laws.BitsLemmas
namespace Go.Proofs.Ytlaohlcghdbjhaa.Co

/-- Player k belongs to s. -/
def has (s : Int) (k : Nat) : Bool := decide (0 ≤ s ∧ s / 2 ^ k % 2 = 1)
/-- s is a coalition. -/
def good (s : Int) : Bool := decide (0 ≤ s ∧ s ≤ 31)
theorem good_yes {s : Int} (h : good s = true) : 0 ≤ s ∧ s ≤ 31 := by unfold good at h; exact of_decide_eq_true h
theorem good_no {s : Int} (h : good s = false) : ¬ (0 ≤ s ∧ s ≤ 31) := by unfold good at h; exact of_decide_eq_false h
theorem good_fin {s : Int} (h : good s = true) : ∃ n : Fin 32, s = (n.val : Int) := by
  have := good_yes h
  exact ⟨⟨s.toNat, by omega⟩, by show s = ((s.toNat : Nat) : Int); omega⟩
theorem has_neg {s : Int} {k : Nat} (h : s < 0) : has s k = false := by unfold has; rw [decide_eq_false_iff_not]; omega
theorem has_pos {s : Int} {k : Nat} (h : 0 ≤ s) : has s k = (s / 2 ^ k % 2 == 1) := by
  unfold has
  rw [Bool.eq_iff_iff, decide_eq_true_iff, beq_iff_eq]
  exact ⟨fun a => a.2, fun a => ⟨h, a⟩⟩

theorem and1 (n : Int) : bits .and .i64 n 1 = n % 2 := by
  have h1 : (BitVec.ofInt 64 1).toNat = 2 ^ 1 - 1 := by decide
  have key : (BitVec.ofInt 64 n &&& BitVec.ofInt 64 1).toNat = (n % ((2 ^ 64 : Nat) : Int)).toNat % 2 ^ 1 := by
    rw [BitVec.toNat_and, BitVec.toNat_ofInt, h1, Nat.and_two_pow_sub_one_eq_mod]
  show IntKind.i64.wrap ((BitVec.ofInt 64 n &&& BitVec.ofInt 64 1).toNat : Nat) = n % 2
  rw [key, IntKind.wrap_i64]
  omega
theorem and31 (n : Int) : bits .and .i64 n 31 = n % 32 := by
  have h1 : (BitVec.ofInt 64 31).toNat = 2 ^ 5 - 1 := by decide
  have key : (BitVec.ofInt 64 n &&& BitVec.ofInt 64 31).toNat = (n % ((2 ^ 64 : Nat) : Int)).toNat % 2 ^ 5 := by
    rw [BitVec.toNat_and, BitVec.toNat_ofInt, h1, Nat.and_two_pow_sub_one_eq_mod]
  show IntKind.i64.wrap ((BitVec.ofInt 64 n &&& BitVec.ofInt 64 31).toNat : Nat) = n % 32
  rw [key, IntKind.wrap_i64]
  omega

/-- How many of the first k players belong. -/
def size (s : Int) : Nat → Int
  | 0 => 0
  | k + 1 => size s k + if has s k then 1 else 0
theorem size_bd (s : Int) : ∀ k, 0 ≤ size s k ∧ size s k ≤ k
  | 0 => by simp [size]
  | k + 1 => by have := size_bd s k; unfold size; split <;> omega
theorem size_yes {s : Int} {k : Nat} (h : has s k = true) : size s (k + 1) = size s k + 1 := by simp [size, h]
theorem size_no {s : Int} {k : Nat} (h : has s k = false) : size s (k + 1) = size s k := by simp [size, h]
theorem size_neg {s : Int} (h : s < 0) : ∀ k, size s k = 0
  | 0 => rfl
  | k + 1 => by rw [size_no (has_neg h), size_neg h k]
theorem has_mod {s : Int} (h : 0 ≤ s) : ∀ k, k < 5 → has (s % 32) k = has s k := by
  intro k hk
  rw [has_pos h, has_pos (by omega), Bool.eq_iff_iff, beq_iff_eq, beq_iff_eq]
  match k, hk with
  | 0, _ => simp <;> omega
  | 1, _ => simp <;> omega
  | 2, _ => simp <;> omega
  | 3, _ => simp <;> omega
  | 4, _ => simp <;> omega
theorem size_mod {s : Int} (h : 0 ≤ s) : size (s % 32) 5 = size s 5 := by
  simp only [size, has_mod h 0 (by omega), has_mod h 1 (by omega), has_mod h 2 (by omega), has_mod h 3 (by omega), has_mod h 4 (by omega)]

/-- The players of both, and of one at least, as a number. -/
def uni (a b : Int) : Nat → Int
  | 0 => 0
  | k + 1 => uni a b k + if has a k || has b k then 2 ^ k else 0
def ovl (a b : Int) : Nat → Int
  | 0 => 0
  | k + 1 => ovl a b k + if has a k && has b k then 2 ^ k else 0
def sub (a b : Int) : Nat → Bool
  | 0 => true
  | k + 1 => sub a b k && (!has a k || has b k)
theorem two_pow (k : Nat) (h : k < 5) : (1 : Int) ≤ 2 ^ k ∧ (2 : Int) ^ k ≤ 16 := by
  match k, h with
  | 0, _ => decide
  | 1, _ => decide
  | 2, _ => decide
  | 3, _ => decide
  | 4, _ => decide
theorem uni_bd (a b : Int) : ∀ k, k ≤ 5 → 0 ≤ uni a b k ∧ uni a b k ≤ 16 * k
  | 0, _ => by simp [uni]
  | k + 1, h => by have := uni_bd a b k (by omega); have := two_pow k (by omega); unfold uni; split <;> omega
theorem ovl_bd (a b : Int) : ∀ k, k ≤ 5 → 0 ≤ ovl a b k ∧ ovl a b k ≤ 16 * k
  | 0, _ => by simp [ovl]
  | k + 1, h => by have := ovl_bd a b k (by omega); have := two_pow k (by omega); unfold ovl; split <;> omega
theorem uni_all : ∀ a b : Fin 32, uni (a.val : Int) (b.val : Int) 5 = bits .or .i64 (a.val : Int) (b.val : Int) := by decide +kernel
theorem ovl_all : ∀ a b : Fin 32, ovl (a.val : Int) (b.val : Int) 5 = bits .and .i64 (a.val : Int) (b.val : Int) := by decide +kernel
theorem sub_all : ∀ a b : Fin 32, sub (a.val : Int) (b.val : Int) 5 = (bits .and .i64 (a.val : Int) (b.val : Int) == (a.val : Int)) := by decide +kernel
theorem uni_is {a b : Int} (ha : good a = true) (hb : good b = true) : bits .or .i64 a b = uni a b 5 := by
  obtain ⟨n, rfl⟩ := good_fin ha; obtain ⟨m, rfl⟩ := good_fin hb; exact (uni_all n m).symm
theorem ovl_is {a b : Int} (ha : good a = true) (hb : good b = true) : bits .and .i64 a b = ovl a b 5 := by
  obtain ⟨n, rfl⟩ := good_fin ha; obtain ⟨m, rfl⟩ := good_fin hb; exact (ovl_all n m).symm
theorem sub_is {a b : Int} (ha : good a = true) (hb : good b = true) : (bits .and .i64 a b == a) = sub a b 5 := by
  obtain ⟨n, rfl⟩ := good_fin ha; obtain ⟨m, rfl⟩ := good_fin hb; exact (sub_all n m).symm
/-- The number of coalitions. -/
def cnt (n : Int) : Int := if 0 ≤ n ∧ n ≤ 5 then 2 ^ n.toNat else 0
end Go.Proofs.Ytlaohlcghdbjhaa.Co
