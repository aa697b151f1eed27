/- slices.Equal at integers. -/
import Derived.Test.YtccgebnbpfliiaaNumI
namespace Go.Proofs.Ytccgebnbpfliiaa
open Go.RowKit
set_option maxRecDepth 100000 in
set_option maxHeartbeats 1000000 in
theorem slices_EqualI (B : Nat) (a1 a2 : Option Addr) (c1 c2 : Nat) (xs ys : List Int) (hn : xs.length ≤ 1048576) (hn2 : ys.length ≤ 1048576) (g : Bool) (hg : decide (xs = ys) = g) (w : World) (h1 : NumsIn B w a1 xs) (h2 : NumsIn B w a2 ys) :
    Calls Try.prog 53 #[.slice a1 xs.length c1, .slice a2 ys.length c2] w fun e w' => e = .returned (.bool g) ∧ ∃ d, w' = w.drewN d := by
  have H1 := Lib.hid h1
  have H2 := Lib.hid h2
  clear h1 h2
  by_cases hl : xs.length = ys.length
  · have Hg := Lib.hid hg
    have HL := Lib.hid hl
    rw [← hl]
    clear hg hl
    go_enter Try.func53, Try.ntmps53
    go_wp2_with fail
    go_loopw [13] (fun i wr => ∃ k : Nat, k ≤ xs.length ∧ i = .int .i64 k ∧ Hid (∀ j, j < k → xs.getD j 0 = ys.getD j 0) ∧ Hid (∃ d, wr = w.drewN d)) (fun i _ => xs.length - (intOf i).toNat)
    case atStart => exact ⟨0, Nat.zero_le _, rfl, fun j hj => absurd hj (by omega), ⟨0, rfl⟩⟩
    case round =>
      obtain ⟨k, hk, rfl, hA, hD⟩ := hrel
      by_cases hlt : k < xs.length
      · have g1 : NumsIn B wr a1 xs := by obtain ⟨d, rfl⟩ := hD.out; exact H1.out.drewN d
        have g2 : NumsIn B wr a2 ys := by obtain ⟨d, rfl⟩ := hD.out; exact H2.out.drewN d
        obtain ⟨b1, o1, rfl, _, p0⟩ := g1 k hlt
        obtain ⟨b2, o2, rfl, _, q0⟩ := g2 k (HL.out ▸ hlt)
        clear g1 g2
        rcases hv : (xs.getD k 0 != ys.getD k 0) with _ | _
        · have HA2 : Hid (∀ j, j < k + 1 → xs.getD j 0 = ys.getD j 0) := fun j hj => by
            by_cases e : j = k
            · subst e
              simpa using hv
            · exact hA.out j (by omega)
          generalize xs.getD k 0 = x at *
          generalize ys.getD k 0 = y at *
          go_wp2_with fail
          go_quiet (fail)
          go_wp2_with fail
          go_roundw
          case rel => exact ⟨k + 1, by omega, by go_num, HA2, by obtain ⟨d, rfl⟩ := hD.out; exact ⟨d + nq, by simp [Nat.add_comm]⟩⟩
          case measure => simp [intOf]; omega
        · have Hr : Hid (false = g) := by
            show _ = _
            rw [← Hg.out]; symm
            rw [decide_eq_false_iff_not]
            rintro rfl
            simp at hv
          generalize xs.getD k 0 = x at *
          generalize ys.getD k 0 = y at *
          go_wp2_with fail
          go_quiet (fail)
          go_wp2_with fail
          go_ret
          exact ⟨ret_bool Hr.out, by obtain ⟨d, rfl⟩ := hD.out; exact ⟨d + nq, by simp [Nat.add_comm]⟩⟩
      · have Hr : Hid (true = g) := by
          show _ = _
          rw [← Hg.out]; symm
          rw [decide_eq_true_iff]
          exact ints_same HL.out fun j hj => hA.out j (by omega)
        go_wp2_with fail
        go_ret
        exact ⟨ret_bool Hr.out, hD.out⟩
  · have Hr : Hid (false = g) := by
      show _ = _
      rw [← hg]; symm
      rw [decide_eq_false_iff_not]
      rintro rfl
      exact hl rfl
    obtain ⟨l1, l2⟩ := len_no hl
    clear hg
    go_enter Try.func53, Try.ntmps53
    go_wp2_with fail
    go_ret
    exact ⟨ret_bool Hr.out, 0, rfl⟩
end Go.Proofs.Ytccgebnbpfliiaa
