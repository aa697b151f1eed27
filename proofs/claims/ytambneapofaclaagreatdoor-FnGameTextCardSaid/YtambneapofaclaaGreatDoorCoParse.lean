/- ParseCoalition on both sides: the first coalition whose text it is. -/
import Derived.Test.YtambneapofaclaaGreatDoorCoFmt
namespace Go.Proofs.YtambneapofaclaaGreatDoor
open Go.RowKit

theorem str_ne {a b : ByteArray} (h : a ≠ b) : (a.toList == b.toList) = false := by
  rw [beq_eq_false_iff_ne]
  intro e
  apply h
  rw [ByteArray.toList_eq, ByteArray.toList_eq] at e
  exact ByteArray.ext (Array.toList_inj.1 e)
theorem str_eq {a b : ByteArray} (h : a = b) : (a.toList == b.toList) = true := by rw [h]; simp
/-- n is the first coalition below 32 whose text is t. -/
def First (t : ByteArray) (n : Nat) : Prop := n < 32 ∧ Co.text (n : Int) = t ∧ ∀ m, m < n → Co.text (m : Int) ≠ t
theorem first_or (t : ByteArray) : (∃ n, First t n) ∨ ∀ m : Nat, m < 32 → Co.text (m : Int) ≠ t := by
  have key : ∀ k : Nat, k ≤ 32 → (∃ n, First t n) ∨ ∀ m, m < k → Co.text (m : Int) ≠ t := by
    intro k
    induction k with
    | zero => intro _; exact .inr (fun m h => absurd h (by omega))
    | succ k ih =>
      intro hk
      rcases ih (by omega) with h | h
      · exact .inl h
      · by_cases e : Co.text (k : Int) = t
        · exact .inl ⟨k, by omega, e, h⟩
        · refine .inr (fun m hm => ?_)
          by_cases hmk : m = k
          · subst hmk; exact e
          · exact h m (by omega)
  exact key 32 (Nat.le_refl _)
/-- The answer of ParseCoalition. -/
def ParseR (t : ByteArray) (r : Int × Bool) : Prop := (∃ n, First t n ∧ r = ((n : Int), true)) ∨ ((∀ m : Nat, m < 32 → Co.text (m : Int) ≠ t) ∧ r = (0, false))
theorem parse_some (t : ByteArray) : ∃ r, ParseR t r := by
  rcases first_or t with ⟨n, h⟩ | h
  · exact ⟨_, .inl ⟨n, h, rfl⟩⟩
  · exact ⟨_, .inr ⟨h, rfl⟩⟩
def ParsePost (r : Int × Bool) (w : World) (e : Ending) (w' : World) : Prop := e = .returned (.tuple #[.int .i64 r.1, .bool r.2]) ∧ Below w.heap.size w w'

set_option maxRecDepth 100000 in
set_option maxHeartbeats 2000000 in
theorem impl_ParseCoalition (t : ByteArray) (r : Int × Bool) (hr : ParseR t r) (w : World) : Calls Tryz.prog 69 #[.string t] w (ParsePost r w) := by
  rcases hr with ⟨n, hn, rfl⟩ | ⟨hn, rfl⟩
  · have hn32 := hn.1
    have Hn := Lib.hid hn
    clear hn
    go_enter Tryz.func69, Tryz.ntmps69
    go_wp2_with fail
    refine (impl_CountCoalitions 5 (by omega) w).mono ?_
    rintro e w1 ⟨rfl, rfl⟩
    go_wp2_with fail
    go_loopw [4, 6] (fun _ i wr => ∃ k : Nat, k ≤ n ∧ i = .int .i64 k ∧ Hid (Below w.heap.size w wr)) (fun _ i _ => 32 - (intOf i).toNat)
    case atStart => exact ⟨0, Nat.zero_le _, rfl, Below.refl _ _⟩
    case round =>
      obtain ⟨k, hk, rfl, hB⟩ := hrel
      by_cases hlt : k < n
      · have ht := str_ne (Hn.out.2.2 k hlt)
        go_wp2_with fail
        refine (impl_FormatCoalition k wr).mono ?_
        rintro e w1 ⟨rfl, hb1⟩
        have Hb1 := Lib.hid (hB.out.trans (hb1.mono hB.out.size))
        clear hb1
        go_wp2_with fail
        go_roundw
        case rel => exact ⟨k + 1, by omega, by go_num, Hb1⟩
        case measure => simp [intOf]; omega
      · have he : k = n := by omega
        subst he
        have ht := str_eq Hn.out.2.1
        go_wp2_with fail
        refine (impl_FormatCoalition k wr).mono ?_
        rintro e w1 ⟨rfl, hb1⟩
        have Hb1 := Lib.hid (hB.out.trans (hb1.mono hB.out.size))
        clear hb1
        go_wp2_with fail
        go_ret2
        exact ⟨rfl, Hb1⟩
  · have Hn := Lib.hid hn
    clear hn
    go_enter Tryz.func69, Tryz.ntmps69
    go_wp2_with fail
    refine (impl_CountCoalitions 5 (by omega) w).mono ?_
    rintro e w1 ⟨rfl, rfl⟩
    go_wp2_with fail
    go_loopw [4, 6] (fun _ i wr => ∃ k : Nat, k ≤ 32 ∧ i = .int .i64 k ∧ Hid (Below w.heap.size w wr)) (fun _ i _ => 32 - (intOf i).toNat)
    case atStart => exact ⟨0, Nat.zero_le _, rfl, Below.refl _ _⟩
    case round =>
      obtain ⟨k, hk, rfl, hB⟩ := hrel
      by_cases hlt : k < 32
      · have ht := str_ne (Hn.out k hlt)
        go_wp2_with fail
        refine (impl_FormatCoalition k wr).mono ?_
        rintro e w1 ⟨rfl, hb1⟩
        have Hb1 := Lib.hid (hB.out.trans (hb1.mono hB.out.size))
        clear hb1
        go_wp2_with fail
        go_roundw
        case rel => exact ⟨k + 1, by omega, by go_num, Hb1⟩
        case measure => simp [intOf]; omega
      · go_wp2_with fail
        go_ret2
        exact ⟨rfl, hB⟩

set_option maxRecDepth 100000 in
set_option maxHeartbeats 2000000 in
theorem spec_ParseCoalition (t : ByteArray) (r : Int × Bool) (hr : ParseR t r) (w : World) : Calls Tryz.prog 58 #[.string t] w (ParsePost r w) := by
  rcases hr with ⟨n, hn, rfl⟩ | ⟨hn, rfl⟩
  · have hn32 := hn.1
    have Hn := Lib.hid hn
    clear hn
    go_enter Tryz.func58, Tryz.ntmps58
    go_wp2_with fail
    go_loopw [4] (fun i wr => ∃ k : Nat, k ≤ n ∧ i = .int .i64 k ∧ Hid (Below w.heap.size w wr)) (fun i _ => 32 - (intOf i).toNat)
    case atStart => exact ⟨0, Nat.zero_le _, rfl, Below.refl _ _⟩
    case round =>
      obtain ⟨k, hk, rfl, hB⟩ := hrel
      by_cases hlt : k < n
      · have ht := str_ne (Hn.out.2.2 k hlt)
        go_wp2_with fail
        refine (spec_FormatCoalition k wr).mono ?_
        rintro e w1 ⟨rfl, hb1⟩
        have Hb1 := Lib.hid (hB.out.trans (hb1.mono hB.out.size))
        clear hb1
        go_wp2_with fail
        go_roundw
        case rel => exact ⟨k + 1, by omega, by go_num, Hb1⟩
        case measure => simp [intOf]; omega
      · have he : k = n := by omega
        subst he
        have ht := str_eq Hn.out.2.1
        go_wp2_with fail
        refine (spec_FormatCoalition k wr).mono ?_
        rintro e w1 ⟨rfl, hb1⟩
        have Hb1 := Lib.hid (hB.out.trans (hb1.mono hB.out.size))
        clear hb1
        go_wp2_with fail
        go_ret2
        exact ⟨rfl, Hb1⟩
  · have Hn := Lib.hid hn
    clear hn
    go_enter Tryz.func58, Tryz.ntmps58
    go_wp2_with fail
    go_loopw [4] (fun i wr => ∃ k : Nat, k ≤ 32 ∧ i = .int .i64 k ∧ Hid (Below w.heap.size w wr)) (fun i _ => 32 - (intOf i).toNat)
    case atStart => exact ⟨0, Nat.zero_le _, rfl, Below.refl _ _⟩
    case round =>
      obtain ⟨k, hk, rfl, hB⟩ := hrel
      by_cases hlt : k < 32
      · have ht := str_ne (Hn.out k hlt)
        go_wp2_with fail
        refine (spec_FormatCoalition k wr).mono ?_
        rintro e w1 ⟨rfl, hb1⟩
        have Hb1 := Lib.hid (hB.out.trans (hb1.mono hB.out.size))
        clear hb1
        go_wp2_with fail
        go_roundw
        case rel => exact ⟨k + 1, by omega, by go_num, Hb1⟩
        case measure => simp [intOf]; omega
      · go_wp2_with fail
        go_ret2
        exact ⟨rfl, hB⟩
end Go.Proofs.YtambneapofaclaaGreatDoor
