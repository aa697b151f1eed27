/- laws.sameInts, climbs: rows of integers that read alike; one that climbs. -/
import Derived.Test.YtkaelmankhepdaaIntsLaw
import Derived.Test.YtkaelmankhepdaaCoM2
namespace Go.Proofs.Ytkaelmankhepdaa
open Go.RowKit

set_option maxRecDepth 100000 in
set_option maxHeartbeats 400000 in
theorem laws_sameInts (a1 a2 : Option Addr) (c1 c2 : Nat) (xs : List Int) (hn : xs.length ≤ 1099511627776) (w : World) (h1 : IntsIn w a1 xs) (h2 : IntsIn w a2 xs) :
    Calls Try.prog 29 #[.slice a1 xs.length c1, .slice a2 xs.length c2] w (DrawnT w) := by
  have H1 := Lib.hid h1
  have H2 := Lib.hid h2
  clear h1 h2
  go_enter Try.func29, Try.ntmps29
  go_wp2_with fail
  go_loopw [5] (fun i wr => ∃ k : Nat, k ≤ xs.length ∧ i = .int .i64 k ∧ Hid (∃ d, wr = w.drewN d)) (fun i _ => xs.length - (intOf i).toNat)
  case atStart => exact ⟨0, Nat.zero_le _, rfl, ⟨0, rfl⟩⟩
  case round =>
    obtain ⟨k, hk, rfl, hD⟩ := hrel
    by_cases hlt : k < xs.length
    · have g1 : IntsIn wr a1 xs := by obtain ⟨d, rfl⟩ := hD.out; exact H1.out
      have g2 : IntsIn wr a2 xs := by obtain ⟨d, rfl⟩ := hD.out; exact H2.out
      obtain ⟨b1, o1, rfl, g1⟩ := g1.at k hlt
      obtain ⟨b2, o2, rfl, g2⟩ := g2.at k hlt
      go_wp2_with fail
      go_quiet (fail)
      go_wp2_with fail
      go_roundw
      case rel => exact ⟨k + 1, by omega, by go_num, by obtain ⟨d, rfl⟩ := hD.out; exact ⟨d + nq, by simp [Nat.add_comm]⟩⟩
      case measure => simp [intOf]; omega
    · go_wp2_with fail
      go_ret
      exact ⟨rfl, hD⟩
set_option maxRecDepth 100000 in
set_option maxHeartbeats 400000 in
theorem laws_climbs (a : Option Addr) (c : Nat) (xs : List Int) (hn : xs.length ≤ 1099511627776) (hc : Co.climb xs) (w : World) (h1 : IntsIn w a xs) :
    Calls Try.prog 31 #[.slice a xs.length c] w (DrawnT w) := by
  have H1 := Lib.hid h1
  have Hc := Lib.hid hc
  clear h1 hc
  go_enter Try.func31, Try.ntmps31
  go_wp2_with fail
  go_loopw [3] (fun i wr => ∃ k : Nat, k ≤ xs.length ∧ i = .int .i64 ((k + 1 : Nat) : Int) ∧ Hid (∃ d, wr = w.drewN d)) (fun i _ => xs.length + 1 - (intOf i).toNat)
  case atStart => exact ⟨0, Nat.zero_le _, rfl, ⟨0, rfl⟩⟩
  case round =>
    obtain ⟨k, hk, rfl, hD⟩ := hrel
    by_cases hlt : k + 1 < xs.length
    · have g1 : IntsIn wr a xs := by obtain ⟨d, rfl⟩ := hD.out; exact H1.out
      have hx1 : xs[k]? = some xs[k] := List.getElem?_eq_getElem (by omega)
      have hx2 : xs[k + 1]? = some xs[k + 1] := List.getElem?_eq_getElem hlt
      have hcl := Co.climb_at xs k _ _ Hc.out hx1 hx2
      obtain ⟨b1, o1, rfl, g2⟩ := g1 k _ hx1
      obtain ⟨b2, o2, he, g3⟩ := g1 (k + 1) _ hx2
      injection he with he
      injection he with hb ho
      subst hb
      subst ho
      have hb3 : decide (xs[k + 1] ≤ xs[k]) = false := by rw [decide_eq_false_iff_not]; omega
      have hk1 : (((k + 1 : Nat) : Int) - 1) = (k : Int) := by omega
      clear hx1 hx2 g1
      generalize xs[k] = x at *
      generalize xs[k + 1] = y at *
      go_wp2_with fail
      go_quiet (fail)
      go_wp2_with fail
      go_roundw
      case rel => exact ⟨k + 1, by omega, by go_num, by obtain ⟨d, rfl⟩ := hD.out; exact ⟨d + nq, by simp [Nat.add_comm]⟩⟩
      case measure => simp [intOf]; omega
    · go_wp2_with fail
      go_ret
      exact ⟨rfl, hD⟩
end Go.Proofs.Ytkaelmankhepdaa
