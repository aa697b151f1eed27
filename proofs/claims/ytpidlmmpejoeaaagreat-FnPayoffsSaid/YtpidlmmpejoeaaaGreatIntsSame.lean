/- laws.sameInts, climbs: rows of integers that read alike; one that climbs. -/
import Derived.Test.YtpidlmmpejoeaaaGreatIntsLaw
import Derived.Test.YtpidlmmpejoeaaaGreatCoM2
namespace Go.Proofs.YtpidlmmpejoeaaaGreat
open Go.RowKit

set_option maxRecDepth 100000 in
set_option maxHeartbeats 400000 in
theorem laws_sameInts (a1 a2 : Option Addr) (c1 c2 : Nat) (xs : List Int) (hn : xs.length ≤ 1099511627776) (w : World) (h1 : IntsIn w a1 xs) (h2 : IntsIn w a2 xs) :
  Calls Tryz.prog 11 #[.slice a1 xs.length c1, .slice a2 xs.length c2] w (DrawnT w) := by
 have H1 := Lib.hid h1
 have H2 := Lib.hid h2
 clear h1 h2
 go_enter Tryz.func11, Tryz.ntmps11
 go_wp2_with fail
 go_loopw [5] (fun i wr => ∃ k : Nat, k ≤ xs.length ∧ i = .int .i64 k ∧ Hid (∃ d, wr = w.drewN d)) (fun i _ => xs.length - (intOf i).toNat)
 case atStart => exact ⟨0, Nat.zero_le _, rfl, ⟨0, rfl⟩⟩
 case round =>
  obtain ⟨k, hk, rfl, hD⟩ := hrel
  by_cases hlt : k < xs.length
  ·
   have g1 : IntsIn wr a1 xs := by obtain ⟨d, rfl⟩ := hD.out; exact H1.out
   have g2 : IntsIn wr a2 xs := by obtain ⟨d, rfl⟩ := hD.out; exact H2.out
   obtain ⟨b1, o1, rfl, g1⟩ := g1.at k hlt
   obtain ⟨b2, o2, rfl, g2⟩ := g2.at k hlt
   go_wp2_with fail
   go_quiet (fail)
   go_wp2_with fail
   go_roundw
   case rel => exact ⟨k + 1, by omega, by go_num, by obtain ⟨d, rfl⟩ := hD.out; exact ⟨d + nq, by simp [Nat.add_comm]⟩⟩
   case measure => simp [intOf]; omega
  ·
   go_wp2_with fail
   go_ret
   exact ⟨rfl, hD⟩
end Go.Proofs.YtpidlmmpejoeaaaGreat
