/- The walk of spec.FormatInt: for every int it returns the decimal numeral; no conditions beyond the int's range. -/
import Derived.Test.YtambneapofaclaaGreatDoorChecked
import Derived.Test.YtambneapofaclaaGreatDoorDec
import Derived.Handy
import Derived.Below
import Derived.LoopTactic
import Derived.Outline
import Derived.Lib.Hide
import Derived.WalkSpells
import Derived.WalkLawsBesides
import Derived.Laws.BytesString
import Derived.Laws.Concat
import Derived.Laws.IdiomStrings
namespace Go.Proofs.YtambneapofaclaaGreatDoor
open Go.RowKit

theorem conv_one (wr : World) (v : Int) (b : UInt8) (h : v = (b.toNat : Int)) :
    (convert 22 9 (.slice (some ⟨wr.heap.size, 0, none⟩) 1 1)).run Tryz.prog (wr.alloc (.cells #[.int .u8 v] 5)) = .ok (.string ⟨#[b]⟩) (wr.alloc (.cells #[.int .u8 v] 5)) :=
  run_convert_bytes_back _ 22 9 5 ⟨wr.heap.size, 0, none⟩ 1 [b] Tryz.underlying22 Tryz.underlying5 Tryz.underlying9 (fun j hj => by
    have : j = 0 := by simp at hj; omega
    subst this
    subst h
    simp [Addr.add])
set_option maxRecDepth 100000 in
set_option maxHeartbeats 400000 in
theorem spec_FormatInt (n : Int) (h0 : -9223372036854775808 ≤ n) (h1 : n ≤ 9223372036854775807) (w : World) :
    Calls Tryz.prog 24 #[.int .i64 n] w fun e w' => e = .returned (.string ⟨(Lib.itoa n).toArray⟩) ∧ Below w.heap.size w w' := by
  by_cases hz : n = 0
  · subst hz
    go_enter Tryz.func24, Tryz.ntmps24
    go_wp2
    go_ret
    exact ⟨by rw [Dec.itoa_zero]; rfl, Below.refl _ _⟩
  · have hb0 : (n == 0) = false := by simpa using hz
    have hk := Lib.hid (Dec.kept_start n)
    go_enter Tryz.func24, Tryz.ntmps24
    go_wp2
    go_loopw [0, 4] (fun a o wr => ∃ m : Int, ∃ l : List UInt8, a = .int .i64 m ∧ o = .string ⟨l.toArray⟩ ∧ -9223372036854775808 ≤ m ∧ m ≤ 9223372036854775807 ∧ Hid (Dec.Kept n m l) ∧ Below w.heap.size w wr) (fun a _ _ => (intOf a).natAbs)
    case atStart => exact ⟨n, [], rfl, rfl, h0, h1, hk, Below.refl _ _⟩
    case round =>
      obtain ⟨m, l, rfl, rfl, hm0, hm1, hK, hbel⟩ := hrel
      have hlen := Dec.kept_len hK h0 h1
      by_cases hm : m = 0
      · subst hm
        have hl := Lib.hid (Dec.kept_end hK hz)
        by_cases hn : n < 0
        · have hbn : decide (n < 0) = true := by simpa using hn
          go_wp2
          go_ret
          refine ⟨?_, hbel⟩
          rw [Dec.itoa_neg hn, ← hl, ← Dec.cat_bytes]; rfl
        · have hbn : decide (n < 0) = false := by simpa using hn
          go_wp2
          go_ret
          refine ⟨?_, hbel⟩
          rw [Dec.itoa_pos (by omega), ← hl]; rfl
      · have hb : (m != 0) = true := by simpa using hm
        have hK' := Lib.hid (Dec.kept_round hK hm)
        by_cases hp : 0 < m
        · have hcv := conv_one wr _ _ (Dec.digit_pos m (by omega))
          have e10 : m.tdiv 10 = m / 10 := Int.tdiv_eq_ediv_of_nonneg (by omega)
          have hK2 : Hid (Dec.Kept n (m / 10) (Dec.digB m :: l)) := by rw [← e10]; exact hK'
          clear e10
          go_wp2
          go_roundw
          case rel => exact ⟨m / 10, Dec.digB m :: l, rfl, by rw [Dec.cat_bytes], by omega, by omega, hK2, hbel.alloc hbel.size _⟩
          case measure => simp [intOf]; omega
        · have hp' : m < 0 := by omega
          have hq := Dec.tdiv_neg_bd m hp'
          have hr := Dec.tmod_bd m hp'
          obtain ⟨hr1, hr2⟩ := hr
          by_cases h10 : m.tmod 10 < 0
          · have hcv := conv_one wr _ _ (Dec.digit_neg m hp')
            go_wp2
            go_roundw
            case rel => exact ⟨m.tdiv 10, Dec.digB m :: l, rfl, by rw [Dec.cat_bytes], by omega, by omega, hK', hbel.alloc hbel.size _⟩
            case measure => exact hq.2.2
          · have hcv := conv_one wr _ _ (Dec.digit_neg0 m hp' h10)
            go_wp2
            go_roundw
            case rel => exact ⟨m.tdiv 10, Dec.digB m :: l, rfl, by rw [Dec.cat_bytes], by omega, by omega, hK', hbel.alloc hbel.size _⟩
            case measure => exact hq.2.2
end Go.Proofs.YtambneapofaclaaGreatDoor
