/- impl.areWithin. -/
import Derived.Test.YtpjnjidbdpfdcaaNumI
import Derived.Test.YtpjnjidbdpfdcaaGB
namespace Go.Proofs.Ytpjnjidbdpfdcaa
open Go.RowKit
set_option maxRecDepth 100000 in
set_option maxHeartbeats 1000000 in
theorem impl_areWithin (B : Nat) (a : Option Addr) (c : Nat) (l : List Int) (m : Int) (hm : 0 ≤ m) (hm' : m ≤ 1000000000000000000) (hn : l.length ≤ 1048576) (g : Bool) (hg : Gm.within m l = g) (w : World) (h1 : NumsIn B w a l) :
  Calls Try.prog 53 #[.slice a l.length c, .int .i64 m] w fun e w' => e = .returned (.bool g) ∧ w = w' := by
 have H1 := zH h1
 have Hg := zH hg
 clear h1 hg
 go_enter Try.func53, Try.ntmps53
 go_wp2_with fail
 go_loop [9] (fun i => ∃ k : Nat, k ≤ l.length ∧ i = .int .i64 k ∧ Hid (∀ j, j < k → decide (-m ≤ l.getD j 0 ∧ l.getD j 0 ≤ m) = true)) (fun i => l.length - (intOf i).toNat)
 case atStart => exact ⟨0, Nat.zero_le _, rfl, fun j hj => absurd hj (by omega)⟩
 case round =>
  obtain ⟨k, hk, rfl, hA⟩ := hrel
  by_cases hlt : k < l.length
  ·
   obtain ⟨b, o, rfl, _, hc⟩ := H1.out k hlt
   rcases hv : decide (-m ≤ l.getD k 0 ∧ l.getD k 0 ≤ m) with _ | _
   ·
    have Hr := zH (show false = g from (Gm.within_no hlt hv).symm.trans Hg.out)
    generalize l.getD k 0 = x at *
    have Hv := zH hv
    clear hv
    go_wp2_with fail
    refine (impl_isWithin x m false Hv.out hm hm' _).mono ?_
    rintro e w1 ⟨rfl, rfl⟩
    go_wp2_with fail
    go_ret
    exact ⟨ret_bool Hr.out, rfl⟩
   ·
    have HA2 : Hid (∀ j, j < k + 1 → decide (-m ≤ l.getD j 0 ∧ l.getD j 0 ≤ m) = true) := fun j hj => by
     by_cases e : j = k
     ·
      subst e; exact hv
     ·
      exact hA.out j (by omega)
    generalize l.getD k 0 = x at *
    have Hv := zH hv
    clear hv
    go_wp2_with fail
    refine (impl_isWithin x m true Hv.out hm hm' _).mono ?_
    rintro e w1 ⟨rfl, rfl⟩
    go_wp2_with fail
    go_round
    case rel => exact ⟨k + 1, by omega, by go_num, HA2⟩
    case measure => simp [intOf]; omega
  ·
   have Hr := zH (show true = g by rw [← Hg.out]; exact (Gm.within_all fun j hj => hA.out j (by omega)).symm)
   go_wp2_with fail
   go_ret
   exact ⟨ret_bool Hr.out, rfl⟩
theorem impl_areWithin_q (B : Nat) (a : Option Addr) (c : Nat) (l : List Int) (m : Int) (hm : 0 ≤ m) (hm' : m ≤ 1000000000000000000) (hn : l.length ≤ 1048576) (g : Bool) (hg : Gm.within m l = g) (w : World) (h1 : NumsIn B w a l) :
  Calls Try.prog 53 #[.slice a l.length c, .int .i64 m] w fun e w' => e = .returned (.bool g) ∧ w' = w := (impl_areWithin B a c l m hm hm' hn g hg w h1).mono fun _ _ ⟨h1, h2⟩ => ⟨h1, h2.symm⟩
end Go.Proofs.Ytpjnjidbdpfdcaa
