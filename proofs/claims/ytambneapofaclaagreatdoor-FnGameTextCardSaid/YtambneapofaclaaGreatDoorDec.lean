/- Plain arithmetic on decimal digits: what spec.FormatInt's loop keeps; no conditions. -/
import Derived.Lib.ItoaMem
import Derived.Lib.AtoiTie
namespace Go.Proofs.YtambneapofaclaaGreatDoor.Dec
open Go

/-- The digits of u, none for 0. -/
def dd (u : Nat) : List UInt8 := if u = 0 then [] else Lib.decDigits u

theorem dd_zero : dd 0 = [] := by simp [dd]
theorem dd_pos {u : Nat} (h : u ≠ 0) : dd u = Lib.decDigits u := by simp [dd, h]
theorem dd_step {u : Nat} (h : u ≠ 0) : dd u = dd (u / 10) ++ [UInt8.ofNat (48 + u % 10)] := by
  rw [dd_pos h, Lib.decDigits]
  by_cases hu : u < 10
  · have h0 : u / 10 = 0 := by omega
    have h1 : u % 10 = u := by omega
    rw [dif_pos hu, h0, dd_zero, h1]; rfl
  · rw [dif_neg hu, dd_pos (by omega)]

/-- What the loop keeps: what is still to come, then what stands. -/
def Kept (n m : Int) (l : List UInt8) : Prop := (n < 0 → m ≤ 0) ∧ (0 < n → 0 ≤ m) ∧ dd m.natAbs ++ l = dd n.natAbs

theorem dd_len : ∀ (k u : Nat), u < 10 ^ k → (dd u).length ≤ k
  | 0, u, h => by
    have : u = 0 := by simpa using h
    subst this
    rw [dd_zero]; exact Nat.le_refl _
  | k + 1, u, h => by
    by_cases hu : u = 0
    · subst hu; rw [dd_zero]; simp
    · rw [dd_step hu, List.length_append]
      have := dd_len k (u / 10) (by rw [Nat.pow_succ] at h; omega)
      simp; omega
/-- The last digit, as a byte. -/
def digB (m : Int) : UInt8 := UInt8.ofNat (48 + m.natAbs % 10)
theorem digB_toNat (m : Int) : ((digB m).toNat : Int) = 48 + (m.natAbs % 10 : Nat) := by
  unfold digB
  rw [UInt8.toNat_ofNat_of_lt' (by show 48 + m.natAbs % 10 < 256; omega)]; omega
theorem digit_pos (m : Int) (h : 0 ≤ m) : 48 + m % 10 = ((digB m).toNat : Int) := by
  rw [digB_toNat]; omega
theorem tmod_neg (m : Int) (h : m < 0) : m.tmod 10 = -((m.natAbs % 10 : Nat) : Int) := by
  have e : (-m).tmod 10 = -(m.tmod 10) := Int.neg_tmod m 10
  have e2 : (-m).tmod 10 = (-m) % 10 := Int.tmod_eq_emod_of_nonneg (by omega)
  omega
theorem tmod_bd (m : Int) (h : m < 0) : -9 ≤ m.tmod 10 ∧ m.tmod 10 ≤ 0 := by rw [tmod_neg m h]; omega
theorem tdiv_neg_bd (m : Int) (h : m < 0) : m ≤ m.tdiv 10 ∧ m.tdiv 10 ≤ 0 ∧ (m.tdiv 10).natAbs < m.natAbs := by
  have e : (m.tdiv 10).natAbs = m.natAbs / 10 := by rw [Int.natAbs_tdiv]; rfl
  have : (-m).tdiv 10 = -(m.tdiv 10) := Int.neg_tdiv m 10
  have : 0 ≤ (-m).tdiv 10 := Int.tdiv_nonneg (by omega) (by omega)
  omega
theorem cat_bytes (b : UInt8) (l : List UInt8) : (ByteArray.mk #[b] ++ ByteArray.mk l.toArray) = ByteArray.mk (b :: l).toArray := by
  apply ByteArray.ext; simp [ByteArray.data_append]
theorem digit_neg (m : Int) (h : m < 0) : 48 + -m.tmod 10 = ((digB m).toNat : Int) := by
  rw [digB_toNat, tmod_neg m h]; omega
theorem digit_neg0 (m : Int) (h : m < 0) (h2 : ¬ m.tmod 10 < 0) : 48 + m.tmod 10 = ((digB m).toNat : Int) := by
  rw [digB_toNat]
  have := tmod_neg m h
  omega
theorem kept_start (n : Int) : Kept n n [] := ⟨fun h => by omega, fun h => by omega, by simp⟩

theorem kept_end {n : Int} {l : List UInt8} (h : Kept n 0 l) (hn : n ≠ 0) : l = Lib.decDigits n.natAbs := by
  have := h.2.2
  rw [show (0 : Int).natAbs = 0 from rfl, dd_zero, List.nil_append, dd_pos (by omega)] at this
  exact this

theorem kept_round {n m : Int} {l : List UInt8} (h : Kept n m l) (hm : m ≠ 0) :
    Kept n (m.tdiv 10) (digB m :: l) := by
  unfold digB
  obtain ⟨h1, h2, h3⟩ := h
  have e : (m.tdiv 10).natAbs = m.natAbs / 10 := by rw [Int.natAbs_tdiv]; rfl
  refine ⟨fun hn => ?_, fun hn => ?_, ?_⟩
  · have := h1 hn
    have : (-m).tdiv 10 = -(m.tdiv 10) := Int.neg_tdiv m 10
    have : 0 ≤ (-m).tdiv 10 := Int.tdiv_nonneg (by omega) (by omega)
    omega
  · exact Int.tdiv_nonneg (h2 hn) (by omega)
  · rw [e, ← h3, dd_step (u := m.natAbs) (by omega)]
    simp

theorem kept_len {n m : Int} {l : List UInt8} (h : Kept n m l) (h0 : -9223372036854775808 ≤ n) (h1 : n ≤ 9223372036854775807) : l.length ≤ 19 := by
  have e := congrArg List.length h.2.2
  rw [List.length_append] at e
  have := dd_len 19 n.natAbs (by simp; omega)
  omega
theorem itoa_zero : Lib.itoa 0 = [48] := by decide +kernel
theorem itoa_pos {n : Int} (h : 0 < n) : Lib.itoa n = Lib.decDigits n.natAbs := by
  unfold Lib.itoa; rw [if_neg (by omega)]; congr 1; omega
theorem itoa_neg {n : Int} (h : n < 0) : Lib.itoa n = 45 :: Lib.decDigits n.natAbs := by
  unfold Lib.itoa; rw [if_pos h]

/-! ### Numerals that are read -/
theorem digitVal_digit (d : Nat) (h : d < 10) : Lib.digitVal (UInt8.ofNat (48 + d)) = some d := by
  unfold Lib.digitVal
  rw [UInt8.toNat_ofNat_of_lt' (by show 48 + d < 256; omega), if_pos (by omega)]
  congr 1; omega
theorem decFrom_append : ∀ (a b : List UInt8) (acc n : Nat), Lib.decFrom acc a = some n → Lib.decFrom acc (a ++ b) = Lib.decFrom n b
  | [], b, acc, n, h => by simp only [Lib.decFrom, Option.some.injEq] at h; subst h; rfl
  | c :: a, b, acc, n, h => by
    simp only [Lib.decFrom, List.cons_append] at h ⊢
    cases hc : Lib.digitVal c with
    | none => simp [hc] at h
    | some d => simp only [hc] at h ⊢; exact decFrom_append a b _ n h
theorem decFrom_digits (u : Nat) : Lib.decFrom 0 (Lib.decDigits u) = some u := by
  induction u using Nat.strongRecOn with
  | _ u ih =>
    rw [Lib.decDigits]
    by_cases h : u < 10
    · rw [dif_pos h]; simp only [Lib.decFrom, digitVal_digit u h]; simp
    · rw [dif_neg h, decFrom_append _ _ _ _ (ih (u / 10) (by omega))]
      simp only [Lib.decFrom, digitVal_digit _ (Nat.mod_lt u (by decide : 0 < 10))]
      congr 1; omega
theorem decDigits_ne (u : Nat) : Lib.decDigits u ≠ [] := by
  rw [Lib.decDigits]; split <;> simp
theorem decNat_digits (u : Nat) : Lib.decNat (Lib.decDigits u) = some u := by
  unfold Lib.decNat
  rw [decFrom_digits]; cases h : Lib.decDigits u with
  | nil => exact absurd h (decDigits_ne u)
  | cons a b => rfl
theorem digits_digit (u : Nat) : ∀ c ∈ Lib.decDigits u, 48 ≤ c.toNat ∧ c.toNat ≤ 57 := by
  intro c hc
  obtain ⟨k, hk⟩ := List.getElem?_of_mem hc
  obtain ⟨d, hd⟩ := Lib.digit_of_decFrom _ _ _ (decFrom_digits u) k c hk
  unfold Lib.digitVal at hd
  split at hd
  · assumption
  · cases hd
theorem digits_head (u : Nat) : ∃ c r, Lib.decDigits u = c :: r ∧ 48 ≤ c.toNat ∧ c.toNat ≤ 57 := by
  cases h : Lib.decDigits u with
  | nil => exact absurd h (decDigits_ne u)
  | cons c r => exact ⟨c, r, rfl, digits_digit u c (by rw [h]; simp)⟩
theorem beq_ne (c : UInt8) (k : Nat) (hk : k < 256) (h : c.toNat ≠ k) : (c == UInt8.ofNat k) = false := by
  rw [beq_eq_false_iff_ne]; intro e; apply h; rw [e, UInt8.toNat_ofNat_of_lt' hk]
theorem atoi_itoa (n : Int) : Lib.atoi (Lib.itoa n) = some n := by
  unfold Lib.itoa
  by_cases h : n < 0
  · rw [if_pos h]
    simp only [Lib.atoi, beq_self_eq_true, if_true, decNat_digits, Option.map_some, Option.some.injEq]
    omega
  · rw [if_neg h]
    obtain ⟨c, r, e, h1, h2⟩ := digits_head n.toNat
    have d := decNat_digits n.toNat
    rw [e] at d ⊢
    simp only [Lib.atoi]
    have e1 : (c == 45) = false := beq_ne c 45 (by decide) (by omega)
    have e2 : (c == 43) = false := beq_ne c 43 (by decide) (by omega)
    rw [e1, e2, d]
    simp; omega
theorem decDigits_len (k u : Nat) (hk : 1 ≤ k) (h : u < 10 ^ k) : (Lib.decDigits u).length ≤ k := by
  by_cases hu : u = 0
  · subst hu; rw [Lib.decDigits]; simpa using hk
  · rw [← dd_pos hu]; exact dd_len k u h
theorem itoa_len13 (n : Int) (h0 : -999999999999 ≤ n) (h1 : n ≤ 999999999999) : (Lib.itoa n).length ≤ 13 := by
  unfold Lib.itoa
  split
  · have := decDigits_len 12 n.natAbs (by decide) (by show _ < 1000000000000; omega)
    simp; omega
  · have := decDigits_len 12 n.toNat (by decide) (by show _ < 1000000000000; omega)
    omega
theorem atoiAll_itoa (n : Int) (h0 : -999999999999 ≤ n) (h1 : n ≤ 999999999999) : Lib.atoiAll (Lib.itoa n) = .ok n := by
  have := itoa_len13 n h0 h1
  rw [Lib.atoiAll_short _ (by omega), atoi_itoa]; rfl
theorem itoa_inj {a b : Int} (h : Lib.itoa a = Lib.itoa b) : a = b := by
  have := atoi_itoa a
  rw [h, atoi_itoa] at this
  exact (Option.some.inj this).symm

/-! ### spec.l1Read as a plain function -/
def bodyOf (l : List UInt8) : List UInt8 := if l.head? = some 45 then l.tail else l
def signed (l : List UInt8) (u : Nat) : Int := if l.head? = some 45 then -(u : Int) else u
def rd (most : Nat) (l : List UInt8) : Option Int :=
  if (bodyOf l).length < 1 ∨ most < (bodyOf l).length then none else
  match Lib.decFrom 0 (bodyOf l) with
  | none => none
  | some u => if Lib.itoa (signed l u) = l then some (signed l u) else none

theorem decFrom_lt : ∀ (l : List UInt8) (acc n k : Nat), Lib.decFrom acc l = some n → acc < 10 ^ k → n < 10 ^ (k + l.length)
  | [], acc, n, k, h, ha => by simp only [Lib.decFrom, Option.some.injEq] at h; subst h; simpa using ha
  | c :: l, acc, n, k, h, ha => by
    simp only [Lib.decFrom] at h
    cases hc : Lib.digitVal c with
    | none => simp [hc] at h
    | some d =>
      simp only [hc] at h
      have hd : d < 10 := by
        unfold Lib.digitVal at hc
        split at hc
        · simp only [Option.some.injEq] at hc; omega
        · cases hc
      have := decFrom_lt l _ n (k + 1) h (by rw [Nat.pow_succ]; omega)
      rw [show k + (c :: l).length = k + 1 + l.length by simp; omega]
      exact this
theorem rd_some {most : Nat} {l : List UInt8} {n : Int} (h : rd most l = some n) : Lib.itoa n = l ∧ n.natAbs < 10 ^ most := by
  unfold rd at h
  split at h
  · cases h
  · rename_i hl
    split at h
    · cases h
    · rename_i u hu
      split at h
      · rename_i hi
        simp only [Option.some.injEq] at h
        subst h
        refine ⟨hi, ?_⟩
        have := decFrom_lt _ 0 u 0 hu (by simp)
        have h2 : 10 ^ (0 + (bodyOf l).length) ≤ 10 ^ most := Nat.pow_le_pow_right (by decide) (by omega)
        unfold signed
        split <;> omega
      · cases h
theorem rd_ok {most : Nat} (n : Int) (hm : 1 ≤ most) (hn : n.natAbs < 10 ^ most) : rd most (Lib.itoa n) = some n := by
  have hb : bodyOf (Lib.itoa n) = Lib.decDigits n.natAbs ∧ ∀ u, signed (Lib.itoa n) u = if n < 0 then -(u : Int) else u := by
    unfold bodyOf signed Lib.itoa
    by_cases h : n < 0
    · rw [if_pos h]; simp [h]
    · rw [if_neg h]
      obtain ⟨c, r, e, h1, h2⟩ := digits_head n.toNat
      have e1 : ((Lib.decDigits n.toNat).head? = some 45) = False := by
        rw [e]; simp; intro e; subst e; revert h1; decide
      simp only [e1, if_false, h]
      exact ⟨by congr 1; omega, fun _ => trivial⟩
  have hl := decDigits_len most n.natAbs hm hn
  have hne := decDigits_ne n.natAbs
  have hpos : 1 ≤ (Lib.decDigits n.natAbs).length := by
    cases h : Lib.decDigits n.natAbs with
    | nil => exact absurd h hne
    | cons a b => simp
  unfold rd
  rw [hb.1, if_neg (by omega), decFrom_digits]
  simp only [hb.2]
  have : (if n < 0 then -(n.natAbs : Int) else (n.natAbs : Int)) = n := by split <;> omega
  rw [this, if_pos rfl]
theorem rd_none {most : Nat} {l : List UInt8} (h : ∀ n : Int, n.natAbs < 10 ^ most → Lib.itoa n ≠ l) : rd most l = none := by
  cases hr : rd most l with
  | none => rfl
  | some n => exact absurd (rd_some hr).1 (h n (rd_some hr).2)

theorem rd_len {most : Nat} {l : List UInt8} (h : (bodyOf l).length < 1 ∨ most < (bodyOf l).length) : rd most l = none := by
  unfold rd; rw [if_pos h]
theorem rd_sick {most : Nat} {l : List UInt8} (k : Nat) (b : UInt8) (hk : (bodyOf l)[k]? = some b) (hb : ¬ (48 ≤ b.toNat ∧ b.toNat ≤ 57)) : rd most l = none := by
  unfold rd
  split
  · rfl
  · cases h : Lib.decFrom 0 (bodyOf l) with
    | none => rfl
    | some u =>
      obtain ⟨d, hd⟩ := Lib.digit_of_decFrom _ _ _ h k b hk
      unfold Lib.digitVal at hd
      rw [if_neg hb] at hd
      cases hd
theorem rd_yes {most : Nat} {l : List UInt8} {u : Nat} (h : ¬ ((bodyOf l).length < 1 ∨ most < (bodyOf l).length)) (hu : Lib.decFrom 0 (bodyOf l) = some u) :
    rd most l = if Lib.itoa (signed l u) = l then some (signed l u) else none := by
  unfold rd; rw [if_neg h, hu]
theorem dec_step {l : List UInt8} {k u : Nat} {b : UInt8} (h : Lib.decFrom 0 (l.take k) = some u) (hk : l[k]? = some b) (hb : 48 ≤ b.toNat ∧ b.toNat ≤ 57) :
    Lib.decFrom 0 (l.take (k + 1)) = some (u * 10 + (b.toNat - 48)) :=
  Lib.decFrom_take l k 0 u b (b.toNat - 48) h hk (by unfold Lib.digitVal; rw [if_pos hb])
theorem dec_bound {l : List UInt8} {k u : Nat} (h : Lib.decFrom 0 (l.take k) = some u) (hk : k ≤ 12) : u < 1000000000000 := by
  have h1 := decFrom_lt _ 0 u 0 h (by simp)
  have h2 : (l.take k).length ≤ 12 := Nat.le_trans (List.length_take_le _ _) hk
  have h3 : 10 ^ (0 + (l.take k).length) ≤ 10 ^ 12 := Nat.pow_le_pow_right (by decide) (by omega)
  have h4 : (10 : Nat) ^ 12 = 1000000000000 := by decide
  omega

theorem digits_lt (u k : Nat) (h : (Lib.decDigits u).length ≤ k) : u < 10 ^ k := by
  have h1 := decFrom_lt _ 0 u 0 (decFrom_digits u) (by simp)
  have h2 : 10 ^ (0 + (Lib.decDigits u).length) ≤ 10 ^ k := Nat.pow_le_pow_right (by decide) (by omega)
  omega
/-- The length tells whether ParseInt takes the numeral. -/
theorem len_in (n : Int) (h0 : -999999999999 ≤ n) (h1 : n ≤ 999999999999) : (Lib.itoa n).length ≤ 12 ∨ (n < 0 ∧ (Lib.itoa n).length ≤ 13) := by
  have := itoa_len13 n h0 h1
  by_cases h : n < 0
  · exact .inr ⟨h, this⟩
  · left
    unfold Lib.itoa
    rw [if_neg h]
    exact decDigits_len 12 n.toNat (by decide) (by show _ < 1000000000000; omega)
theorem len_out (n : Int) (h : n < -999999999999 ∨ 999999999999 < n) : 12 < (Lib.itoa n).length ∧ (n < 0 → 13 < (Lib.itoa n).length) := by
  have key : ∀ u : Nat, 999999999999 < u → 12 < (Lib.decDigits u).length := by
    intro u hu
    rcases Nat.lt_or_ge 12 (Lib.decDigits u).length with h | h
    · exact h
    · have : u < 1000000000000 := digits_lt u 12 h
      omega
  unfold Lib.itoa
  by_cases hn : n < 0
  · rw [if_pos hn]
    have := key n.natAbs (by omega)
    simp only [List.length_cons]
    omega
  · rw [if_neg hn]
    exact ⟨key n.toNat (by omega), fun h => absurd h hn⟩
end Go.Proofs.YtambneapofaclaaGreatDoor.Dec
