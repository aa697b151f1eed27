/- spec.l5Small, IsValidLP, ColumnOf. -/
import Derived.Test.YtfbhnjdbamahkaaGLa
import Derived.Test.YtfbhnjdbamahkaaGVa
namespace Go.Proofs.Ytfbhnjdbamahkaa
open Go.RowKit
open Ve (R)
open Lp (P)
theorem small_at {l : List Int} {k : Nat} (hk : k < l.length) (h : decide (-5000 ≤ l.getD k 0 ∧ l.getD k 0 ≤ 5000) = false) : Lp.small l = false := by
  rw [Bool.eq_false_iff]
  intro h2
  unfold Lp.small at h2
  rw [List.all_eq_true] at h2
  have := h2 _ (List.getElem_mem hk)
  rw [List.getD_eq_getElem?_getD, List.getElem?_eq_getElem hk] at h
  simp only [Option.getD_some] at h
  rw [h] at this
  cases this
theorem small_all {l : List Int} (h : ∀ k, k < l.length → decide (-5000 ≤ l.getD k 0 ∧ l.getD k 0 ≤ 5000) = true) : Lp.small l = true := by
  unfold Lp.small
  rw [List.all_eq_true]
  intro x hx
  obtain ⟨k, hk, rfl⟩ := List.getElem_of_mem hx
  have := h k hk
  rw [List.getD_eq_getElem?_getD, List.getElem?_eq_getElem hk] at this
  exact this
set_option maxRecDepth 100000 in
set_option maxHeartbeats 1000000 in
theorem spec_l5Small (B : Nat) (a : Option Addr) (c : Nat) (l : List Int) (hn : l.length ≤ 1048576) (g : Bool) (hg : Lp.small l = g) (w : World) (h1 : NumsIn B w a l) :
    Calls Try.prog 79 #[.slice a l.length c] w fun e w' => e = .returned (.bool g) ∧ w = w' := by
  have H1 := Lib.hid h1
  have Hg := Lib.hid hg
  clear h1 hg
  go_enter Try.func79, Try.ntmps79
  go_wp2_with fail
  go_loop [3] (fun i => ∃ k : Nat, k ≤ l.length ∧ i = .int .i64 k ∧ Hid (∀ j, j < k → decide (-5000 ≤ l.getD j 0 ∧ l.getD j 0 ≤ 5000) = true)) (fun i => l.length - (intOf i).toNat)
  case atStart => exact ⟨0, Nat.zero_le _, rfl, fun j hj => absurd hj (by omega)⟩
  case round =>
    obtain ⟨k, hk, rfl, hA⟩ := hrel
    by_cases hlt : k < l.length
    · obtain ⟨b, o, rfl, _, hc⟩ := H1.out k hlt
      rcases hv : decide (-5000 ≤ l.getD k 0 ∧ l.getD k 0 ≤ 5000) with _ | _
      · have Hr := Lib.hid (show false = g from (small_at hlt hv).symm.trans Hg.out)
        generalize l.getD k 0 = x at *
        have Hv := Lib.hid hv
        clear hv
        go_wp2_with fail
        refine (spec_l1In x (-5000) 5000 false Hv.out _).mono ?_
        rintro e w1 ⟨rfl, rfl⟩
        go_wp2_with fail
        go_ret
        exact ⟨ret_bool Hr.out, rfl⟩
      · have HA2 : Hid (∀ j, j < k + 1 → decide (-5000 ≤ l.getD j 0 ∧ l.getD j 0 ≤ 5000) = true) := fun j hj => by
          by_cases e : j = k
          · subst e; exact hv
          · exact hA.out j (by omega)
        generalize l.getD k 0 = x at *
        have Hv := Lib.hid hv
        clear hv
        go_wp2_with fail
        refine (spec_l1In x (-5000) 5000 true Hv.out _).mono ?_
        rintro e w1 ⟨rfl, rfl⟩
        go_wp2_with fail
        go_round
        case rel => exact ⟨k + 1, by omega, by go_num, HA2⟩
        case measure => simp [intOf]; omega
    · have Hr := Lib.hid (show true = g by rw [← Hg.out]; exact (small_all fun j hj => hA.out j (by omega)).symm)
      go_wp2_with fail
      go_ret
      exact ⟨ret_bool Hr.out, rfl⟩
theorem l5Small_q (B : Nat) (a : Option Addr) (c : Nat) (l : List Int) (hn : l.length ≤ 1048576) (g : Bool) (hg : Lp.small l = g) (w : World) (h1 : NumsIn B w a l) :
    Calls Try.prog 79 #[.slice a l.length c] w fun e w' => e = .returned (.bool g) ∧ w' = w := (spec_l5Small B a c l hn g hg w h1).mono fun _ _ ⟨h1, h2⟩ => ⟨h1, h2.symm⟩
end Go.Proofs.Ytfbhnjdbamahkaa
