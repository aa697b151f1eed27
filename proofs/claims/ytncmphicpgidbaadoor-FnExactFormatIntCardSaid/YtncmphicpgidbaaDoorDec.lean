/- Plain arithmetic on decimal digits: what spec.FormatInt's loop keeps; no conditions. -/
import Derived.Lib.ItoaMem
namespace Go.Proofs.YtncmphicpgidbaaDoor.Dec
open Go

/-- The digits of u, none for 0. -/
def dd (u : Nat) : List UInt8 := if u = 0 then [] else Lib.decDigits u

theorem dd_zero : dd 0 = [] := by simp [dd]
theorem dd_pos {u : Nat} (h : u ≠ 0) : dd u = Lib.decDigits u := by simp [dd, h]
theorem dd_step {u : Nat} (h : u ≠ 0) : dd u = dd (u / 10) ++ [UInt8.ofNat (48 + u % 10)] := by
  rw [dd_pos h, Lib.decDigits]
  by_cases hu : u < 10
  · have h0 : u / 10 = 0 := by omega
    have h1 : u % 10 = u := by omega
    rw [dif_pos hu, h0, dd_zero, h1]; rfl
  · rw [dif_neg hu, dd_pos (by omega)]

/-- What the loop keeps: what is still to come, then what stands. -/
def Kept (n m : Int) (l : List UInt8) : Prop := (n < 0 → m ≤ 0) ∧ (0 < n → 0 ≤ m) ∧ dd m.natAbs ++ l = dd n.natAbs

theorem dd_len : ∀ (k u : Nat), u < 10 ^ k → (dd u).length ≤ k
  | 0, u, h => by
    have : u = 0 := by simpa using h
    subst this
    rw [dd_zero]; exact Nat.le_refl _
  | k + 1, u, h => by
    by_cases hu : u = 0
    · subst hu; rw [dd_zero]; simp
    · rw [dd_step hu, List.length_append]
      have := dd_len k (u / 10) (by rw [Nat.pow_succ] at h; omega)
      simp; omega
/-- The last digit, as a byte. -/
def digB (m : Int) : UInt8 := UInt8.ofNat (48 + m.natAbs % 10)
theorem digB_toNat (m : Int) : ((digB m).toNat : Int) = 48 + (m.natAbs % 10 : Nat) := by
  unfold digB
  rw [UInt8.toNat_ofNat_of_lt' (by show 48 + m.natAbs % 10 < 256; omega)]; omega
theorem digit_pos (m : Int) (h : 0 ≤ m) : 48 + m % 10 = ((digB m).toNat : Int) := by
  rw [digB_toNat]; omega
theorem tmod_neg (m : Int) (h : m < 0) : m.tmod 10 = -((m.natAbs % 10 : Nat) : Int) := by
  have e : (-m).tmod 10 = -(m.tmod 10) := Int.neg_tmod m 10
  have e2 : (-m).tmod 10 = (-m) % 10 := Int.tmod_eq_emod_of_nonneg (by omega)
  omega
theorem tmod_bd (m : Int) (h : m < 0) : -9 ≤ m.tmod 10 ∧ m.tmod 10 ≤ 0 := by rw [tmod_neg m h]; omega
theorem tdiv_neg_bd (m : Int) (h : m < 0) : m ≤ m.tdiv 10 ∧ m.tdiv 10 ≤ 0 ∧ (m.tdiv 10).natAbs < m.natAbs := by
  have e : (m.tdiv 10).natAbs = m.natAbs / 10 := by rw [Int.natAbs_tdiv]; rfl
  have : (-m).tdiv 10 = -(m.tdiv 10) := Int.neg_tdiv m 10
  have : 0 ≤ (-m).tdiv 10 := Int.tdiv_nonneg (by omega) (by omega)
  omega
theorem cat_bytes (b : UInt8) (l : List UInt8) : (ByteArray.mk #[b] ++ ByteArray.mk l.toArray) = ByteArray.mk (b :: l).toArray := by
  apply ByteArray.ext; simp [ByteArray.data_append]
theorem digit_neg (m : Int) (h : m < 0) : 48 + -m.tmod 10 = ((digB m).toNat : Int) := by
  rw [digB_toNat, tmod_neg m h]; omega
theorem digit_neg0 (m : Int) (h : m < 0) (h2 : ¬ m.tmod 10 < 0) : 48 + m.tmod 10 = ((digB m).toNat : Int) := by
  rw [digB_toNat]
  have := tmod_neg m h
  omega
theorem kept_start (n : Int) : Kept n n [] := ⟨fun h => by omega, fun h => by omega, by simp⟩

theorem kept_end {n : Int} {l : List UInt8} (h : Kept n 0 l) (hn : n ≠ 0) : l = Lib.decDigits n.natAbs := by
  have := h.2.2
  rw [show (0 : Int).natAbs = 0 from rfl, dd_zero, List.nil_append, dd_pos (by omega)] at this
  exact this

theorem kept_round {n m : Int} {l : List UInt8} (h : Kept n m l) (hm : m ≠ 0) :
    Kept n (m.tdiv 10) (digB m :: l) := by
  unfold digB
  obtain ⟨h1, h2, h3⟩ := h
  have e : (m.tdiv 10).natAbs = m.natAbs / 10 := by rw [Int.natAbs_tdiv]; rfl
  refine ⟨fun hn => ?_, fun hn => ?_, ?_⟩
  · have := h1 hn
    have : (-m).tdiv 10 = -(m.tdiv 10) := Int.neg_tdiv m 10
    have : 0 ≤ (-m).tdiv 10 := Int.tdiv_nonneg (by omega) (by omega)
    omega
  · exact Int.tdiv_nonneg (h2 hn) (by omega)
  · rw [e, ← h3, dd_step (u := m.natAbs) (by omega)]
    simp

theorem kept_len {n m : Int} {l : List UInt8} (h : Kept n m l) (h0 : -9223372036854775808 ≤ n) (h1 : n ≤ 9223372036854775807) : l.length ≤ 19 := by
  have e := congrArg List.length h.2.2
  rw [List.length_append] at e
  have := dd_len 19 n.natAbs (by simp; omega)
  omega
theorem itoa_zero : Lib.itoa 0 = [48] := by decide +kernel
theorem itoa_pos {n : Int} (h : 0 < n) : Lib.itoa n = Lib.decDigits n.natAbs := by
  unfold Lib.itoa; rw [if_neg (by omega)]; congr 1; omega
theorem itoa_neg {n : Int} (h : n < 0) : Lib.itoa n = 45 :: Lib.decDigits n.natAbs := by
  unfold Lib.itoa; rw [if_pos h]
end Go.Proofs.YtncmphicpgidbaaDoor.Dec
