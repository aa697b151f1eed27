/- AllValid on both sides; EqualVector on both sides. -/
import Derived.Test.YtlaohlcghdbjhaaDoorVec
import Derived.Test.YtlaohlcghdbjhaaDoorRaL0
import Derived.Test.YtlaohlcghdbjhaaDoorRaEq
namespace Go.Proofs.YtlaohlcghdbjhaaDoor
open Go.RowKit
open Ve (R)
set_option maxHeartbeats 1000000 in
theorem spec_AllValid (B : Nat) (a : Option Addr) (c : Nat) (xs : List R) (hn : xs.length ≤ 1048576) (w : World) (hBw : B ≤ w.heap.size) (h1 : RatsIn B w a xs) :
    Calls Tryd.prog 20 #[.slice a xs.length c] w fun e w' => e = .returned (.bool (Ve.good xs)) ∧ Below w.heap.size w w' := by
  obtain ⟨g, hg⟩ : ∃ g, Ve.good xs = g := ⟨_, rfl⟩
  rw [hg]
  have Hg := Lib.hid hg
  have H1 := Lib.hid (h1.mono hBw)
  clear hg h1
  go_enter Tryd.func20, Tryd.ntmps20
  go_wp2_with fail
  go_loopw [3] (fun i wr => ∃ k : Nat, k ≤ xs.length ∧ i = .int .i64 k ∧ Hid (∀ j, j < k → Ve.vld (Ve.at_ xs j) = true) ∧ Hid (Below w.heap.size w wr)) (fun i _ => xs.length - (intOf i).toNat)
  case atStart => exact ⟨0, Nat.zero_le _, rfl, fun j hj => absurd hj (by omega), Below.refl _ _⟩
  case round =>
    obtain ⟨k, hk, rfl, hA, hB⟩ := hrel
    by_cases hlt : k < xs.length
    · obtain ⟨b, o, rfl, hb, c0, c1⟩ := (H1.out.below hB.out).at k hlt
      rcases hv : Ve.vld (Ve.at_ xs k) with _ | _
      · have Hr := Lib.hid (show false = g from (Ve.good_at hlt hv).symm.trans Hg.out)
        have Hv := Lib.hid hv
        clear hv
        go_wp2_with fail
        refine (spec_IsValidRat _ _ false Hv.out _).mono ?_
        rintro e w1 ⟨rfl, hb1⟩
        have Hb := Lib.hid (hB.out.trans (hb1.mono hB.out.size))
        clear hb1
        go_wp2_with fail
        go_ret
        exact ⟨ret_bool Hr.out, Hb.out⟩
      · have HA2 : Hid (∀ j, j < k + 1 → Ve.vld (Ve.at_ xs j) = true) := fun j hj => by
          by_cases e : j = k
          · subst e; exact hv
          · exact hA.out j (by omega)
        have Hv := Lib.hid hv
        clear hv
        go_wp2_with fail
        refine (spec_IsValidRat _ _ true Hv.out _).mono ?_
        rintro e w1 ⟨rfl, hb1⟩
        have Hb := Lib.hid (hB.out.trans (hb1.mono hB.out.size))
        clear hb1
        go_wp2_with fail
        go_roundw
        case rel => exact ⟨k + 1, by omega, by go_num, HA2, Hb⟩
        case measure => simp [intOf]; omega
    · have Hr := Lib.hid (show true = g by rw [← Hg.out]; exact (Ve.good_all fun j hj => hA.out j (by omega)).symm)
      go_wp2_with fail
      go_ret
      exact ⟨ret_bool Hr.out, hB.out⟩
set_option maxHeartbeats 1000000 in
theorem impl_AllValid (B : Nat) (a : Option Addr) (c : Nat) (xs : List R) (hn : xs.length ≤ 1048576) (w : World) (hBw : B ≤ w.heap.size) (h1 : RatsIn B w a xs) :
    Calls Tryd.prog 19 #[.slice a xs.length c] w fun e w' => e = .returned (.bool (Ve.good xs)) ∧ Below w.heap.size w w' := by
  obtain ⟨g, hg⟩ : ∃ g, Ve.good xs = g := ⟨_, rfl⟩
  rw [hg]
  have Hg := Lib.hid hg
  have H1 := Lib.hid (h1.mono hBw)
  clear hg h1
  go_enter Tryd.func19, Tryd.ntmps19
  go_wp2_with fail
  go_loopw [7] (fun i wr => ∃ k : Nat, k ≤ xs.length ∧ i = .int .i64 k ∧ Hid (∀ j, j < k → Ve.vld (Ve.at_ xs j) = true) ∧ Hid (Below w.heap.size w wr)) (fun i _ => xs.length - (intOf i).toNat)
  case atStart => exact ⟨0, Nat.zero_le _, rfl, fun j hj => absurd hj (by omega), Below.refl _ _⟩
  case round =>
    obtain ⟨k, hk, rfl, hA, hB⟩ := hrel
    by_cases hlt : k < xs.length
    · obtain ⟨b, o, rfl, hb, c0, c1⟩ := (H1.out.below hB.out).at k hlt
      rcases hv : Ve.vld (Ve.at_ xs k) with _ | _
      · have Hr := Lib.hid (show false = g from (Ve.good_at hlt hv).symm.trans Hg.out)
        have Hv := Lib.hid hv
        clear hv
        go_wp2_with fail
        refine (impl_IsValidRat _ _ false Hv.out _).mono ?_
        rintro e w1 ⟨rfl, hb1⟩
        have Hb := Lib.hid ((hB.out.alloc hB.out.size (.cells #[.int .i64 (Ve.at_ xs k).1, .int .i64 (Ve.at_ xs k).2] 26)).trans (hb1.mono (by have := hB.out.size; rw [size1]; omega)))
        clear hb1
        go_wp2_with fail
        go_ret
        exact ⟨ret_bool Hr.out, Hb.out⟩
      · have HA2 : Hid (∀ j, j < k + 1 → Ve.vld (Ve.at_ xs j) = true) := fun j hj => by
          by_cases e : j = k
          · subst e; exact hv
          · exact hA.out j (by omega)
        have Hv := Lib.hid hv
        clear hv
        go_wp2_with fail
        refine (impl_IsValidRat _ _ true Hv.out _).mono ?_
        rintro e w1 ⟨rfl, hb1⟩
        have Hb := Lib.hid ((hB.out.alloc hB.out.size (.cells #[.int .i64 (Ve.at_ xs k).1, .int .i64 (Ve.at_ xs k).2] 26)).trans (hb1.mono (by have := hB.out.size; rw [size1]; omega)))
        clear hb1
        go_wp2_with fail
        go_roundw
        case rel => exact ⟨k + 1, by omega, by go_num, HA2, Hb⟩
        case measure => simp [intOf]; omega
    · have Hr := Lib.hid (show true = g by rw [← Hg.out]; exact (Ve.good_all fun j hj => hA.out j (by omega)).symm)
      go_wp2_with fail
      go_ret
      exact ⟨ret_bool Hr.out, hB.out⟩
theorem len_no {m n : Nat} (h : m ≠ n) : ((m : Int) == (n : Int)) = false ∧ ((m : Int) != (n : Int)) = true := by
  have h1 : ((m : Int) == (n : Int)) = false := by rw [beq_eq_false_iff_ne]; omega
  exact ⟨h1, by rw [bne, h1]; rfl⟩
def eqV (xs ys : List R) : Bool := decide (xs = ys)
set_option maxHeartbeats 1000000 in
theorem spec_EqualVector (B : Nat) (a1 a2 : Option Addr) (c1 c2 : Nat) (xs ys : List R) (hn : xs.length ≤ 1048576) (hn2 : ys.length ≤ 1048576) (w : World) (h1 : RatsIn B w a1 xs) (h2 : RatsIn B w a2 ys) :
    Calls Tryd.prog 16 #[.slice a1 xs.length c1, .slice a2 ys.length c2] w fun e w' => e = .returned (.bool (eqV xs ys)) ∧ ∃ d, w' = w.drewN d := by
  obtain ⟨g, hg⟩ : ∃ g, eqV xs ys = g := ⟨_, rfl⟩
  rw [hg]
  have H1 := Lib.hid h1
  have H2 := Lib.hid h2
  clear h1 h2
  by_cases hl : xs.length = ys.length
  · have Hg := Lib.hid hg
    have HL := Lib.hid hl
    rw [← hl]
    clear hg hl
    have he := eq_rat; have hne := ne_rat; have hgu := eqg_rat
    go_enter Tryd.func16, Tryd.ntmps16
    go_wp2_with fail
    go_loopw [5] (fun i wr => ∃ k : Nat, k ≤ xs.length ∧ i = .int .i64 k ∧ Hid (∀ j, j < k → Ve.at_ xs j = Ve.at_ ys j) ∧ Hid (∃ d, wr = w.drewN d)) (fun i _ => xs.length - (intOf i).toNat)
    case atStart => exact ⟨0, Nat.zero_le _, rfl, fun j hj => absurd hj (by omega), ⟨0, rfl⟩⟩
    case round =>
      obtain ⟨k, hk, rfl, hA, hD⟩ := hrel
      by_cases hlt : k < xs.length
      · have g1 : RatsIn B wr a1 xs := by obtain ⟨d, rfl⟩ := hD.out; exact H1.out
        have g2 : RatsIn B wr a2 ys := by obtain ⟨d, rfl⟩ := hD.out; exact H2.out
        obtain ⟨b1, o1, rfl, _, p0, p1⟩ := g1.at k hlt
        obtain ⟨b2, o2, rfl, _, q0, q1⟩ := g2.at k (HL.out ▸ hlt)
        rcases hv : ((Ve.at_ xs k).1 == (Ve.at_ ys k).1 && (Ve.at_ xs k).2 == (Ve.at_ ys k).2) with _ | _
        · have Hr : Hid (false = g) := by
            show _ = _
            rw [← Hg.out]; symm
            unfold eqV
            rw [decide_eq_false_iff_not]
            rintro rfl
            simp at hv
          generalize Ve.at_ xs k = x at *
          generalize Ve.at_ ys k = y at *
          go_wp2_with fail
          go_quiet (fail)
          go_wp2_with fail
          go_ret
          exact ⟨ret_bool Hr.out, by obtain ⟨d, rfl⟩ := hD.out; exact ⟨d + nq, by simp [Nat.add_comm]⟩⟩
        · have HA2 : Hid (∀ j, j < k + 1 → Ve.at_ xs j = Ve.at_ ys j) := fun j hj => by
            by_cases e : j = k
            · subst e
              rw [Bool.and_eq_true, beq_iff_eq, beq_iff_eq] at hv
              exact Prod.ext hv.1 hv.2
            · exact hA.out j (by omega)
          generalize Ve.at_ xs k = x at *
          generalize Ve.at_ ys k = y at *
          go_wp2_with fail
          go_quiet (fail)
          go_wp2_with fail
          go_roundw
          case rel => exact ⟨k + 1, by omega, by go_num, HA2, by obtain ⟨d, rfl⟩ := hD.out; exact ⟨d + nq, by simp [Nat.add_comm]⟩⟩
          case measure => simp [intOf]; omega
      · have Hr : Hid (true = g) := by
          show _ = _
          rw [← Hg.out]; symm
          unfold eqV
          rw [decide_eq_true_iff]
          exact Ve.eq_of_at HL.out fun j hj => hA.out j (by omega)
        go_wp2_with fail
        go_ret
        exact ⟨ret_bool Hr.out, hD.out⟩
  · have Hr : Hid (false = g) := by
      show _ = _
      rw [← hg]; symm
      unfold eqV
      rw [decide_eq_false_iff_not]
      rintro rfl
      exact hl rfl
    obtain ⟨l1, l2⟩ := len_no hl
    clear hg
    go_enter Tryd.func16, Tryd.ntmps16
    go_wp2_with fail
    go_ret
    exact ⟨ret_bool Hr.out, 0, rfl⟩
set_option maxHeartbeats 1000000 in
theorem slices_Equal (B : Nat) (a1 a2 : Option Addr) (c1 c2 : Nat) (xs ys : List R) (hn : xs.length ≤ 1048576) (hn2 : ys.length ≤ 1048576) (w : World) (h1 : RatsIn B w a1 xs) (h2 : RatsIn B w a2 ys) :
    Calls Tryd.prog 33 #[.slice a1 xs.length c1, .slice a2 ys.length c2] w fun e w' => e = .returned (.bool (eqV xs ys)) ∧ ∃ d, w' = w.drewN d := by
  obtain ⟨g, hg⟩ : ∃ g, eqV xs ys = g := ⟨_, rfl⟩
  rw [hg]
  have H1 := Lib.hid h1
  have H2 := Lib.hid h2
  clear h1 h2
  by_cases hl : xs.length = ys.length
  · have Hg := Lib.hid hg
    have HL := Lib.hid hl
    rw [← hl]
    clear hg hl
    have he := eq_rat; have hne := ne_rat; have hgu := eqg_rat
    go_enter Tryd.func33, Tryd.ntmps33
    go_wp2_with fail
    go_loopw [13] (fun i wr => ∃ k : Nat, k ≤ xs.length ∧ i = .int .i64 k ∧ Hid (∀ j, j < k → Ve.at_ xs j = Ve.at_ ys j) ∧ Hid (∃ d, wr = w.drewN d)) (fun i _ => xs.length - (intOf i).toNat)
    case atStart => exact ⟨0, Nat.zero_le _, rfl, fun j hj => absurd hj (by omega), ⟨0, rfl⟩⟩
    case round =>
      obtain ⟨k, hk, rfl, hA, hD⟩ := hrel
      by_cases hlt : k < xs.length
      · have g1 : RatsIn B wr a1 xs := by obtain ⟨d, rfl⟩ := hD.out; exact H1.out
        have g2 : RatsIn B wr a2 ys := by obtain ⟨d, rfl⟩ := hD.out; exact H2.out
        obtain ⟨b1, o1, rfl, _, p0, p1⟩ := g1.at k hlt
        obtain ⟨b2, o2, rfl, _, q0, q1⟩ := g2.at k (HL.out ▸ hlt)
        rcases hv : ((Ve.at_ xs k).1 == (Ve.at_ ys k).1 && (Ve.at_ xs k).2 == (Ve.at_ ys k).2) with _ | _
        · have Hr : Hid (false = g) := by
            show _ = _
            rw [← Hg.out]; symm
            unfold eqV
            rw [decide_eq_false_iff_not]
            rintro rfl
            simp at hv
          generalize Ve.at_ xs k = x at *
          generalize Ve.at_ ys k = y at *
          go_wp2_with fail
          go_quiet (fail)
          go_wp2_with fail
          go_ret
          exact ⟨ret_bool Hr.out, by obtain ⟨d, rfl⟩ := hD.out; exact ⟨d + nq, by simp [Nat.add_comm]⟩⟩
        · have HA2 : Hid (∀ j, j < k + 1 → Ve.at_ xs j = Ve.at_ ys j) := fun j hj => by
            by_cases e : j = k
            · subst e
              rw [Bool.and_eq_true, beq_iff_eq, beq_iff_eq] at hv
              exact Prod.ext hv.1 hv.2
            · exact hA.out j (by omega)
          generalize Ve.at_ xs k = x at *
          generalize Ve.at_ ys k = y at *
          go_wp2_with fail
          go_quiet (fail)
          go_wp2_with fail
          go_roundw
          case rel => exact ⟨k + 1, by omega, by go_num, HA2, by obtain ⟨d, rfl⟩ := hD.out; exact ⟨d + nq, by simp [Nat.add_comm]⟩⟩
          case measure => simp [intOf]; omega
      · have Hr : Hid (true = g) := by
          show _ = _
          rw [← Hg.out]; symm
          unfold eqV
          rw [decide_eq_true_iff]
          exact Ve.eq_of_at HL.out fun j hj => hA.out j (by omega)
        go_wp2_with fail
        go_ret
        exact ⟨ret_bool Hr.out, hD.out⟩
  · have Hr : Hid (false = g) := by
      show _ = _
      rw [← hg]; symm
      unfold eqV
      rw [decide_eq_false_iff_not]
      rintro rfl
      exact hl rfl
    obtain ⟨l1, l2⟩ := len_no hl
    clear hg
    go_enter Tryd.func33, Tryd.ntmps33
    go_wp2_with fail
    go_ret
    exact ⟨ret_bool Hr.out, 0, rfl⟩
set_option maxHeartbeats 1000000 in
theorem impl_EqualVector (B : Nat) (a1 a2 : Option Addr) (c1 c2 : Nat) (xs ys : List R) (hn : xs.length ≤ 1048576) (hn2 : ys.length ≤ 1048576) (w : World) (h1 : RatsIn B w a1 xs) (h2 : RatsIn B w a2 ys) :
    Calls Tryd.prog 9 #[.slice a1 xs.length c1, .slice a2 ys.length c2] w fun e w' => e = .returned (.bool (eqV xs ys)) ∧ ∃ d, w' = w.drewN d := by
  have HE := Lib.hid (slices_Equal B a1 a2 c1 c2 xs ys hn hn2 w h1 h2)
  generalize eqV xs ys = g at *
  clear h1 h2
  go_enter Tryd.func9, Tryd.ntmps9
  go_wp2_with fail
  refine HE.out.mono ?_
  rintro e w1 ⟨rfl, d, rfl⟩
  go_wp2_with fail
  go_ret
  exact ⟨rfl, d, rfl⟩
end Go.Proofs.YtlaohlcghdbjhaaDoor
