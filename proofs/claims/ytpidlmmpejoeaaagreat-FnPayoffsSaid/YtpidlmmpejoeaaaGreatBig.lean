/- laws.big; a code that came in as bytes. -/
import Derived.Test.YtpidlmmpejoeaaaGreatDrawA
import Derived.Test.YtpidlmmpejoeaaaGreatRow
namespace Go.Proofs.YtpidlmmpejoeaaaGreat
open Go.RowKit

theorem code_of {B : Nat} {w : World} {a : Option Addr} {len : Nat} {zs : List Int} (h : IntsAt .u8 B w a len zs) : CodeAt B w a len :=
 ⟨h.1, fun i hi => by
  obtain ⟨b, o, h1, h2, h3, h4⟩ := h.2.2 i hi
  have e1 : IntKind.u8.min = 0 := rfl
  have e2 : IntKind.u8.max = 255 := rfl
  simp [Lit.wf, e1, e2] at h4
  exact ⟨b, o, _, h1, h2, h4.1, h4.2, h3⟩⟩
theorem big_no (a : Option Addr) (len cap : Nat) (hl : len ≤ 1048576) (w : World) :
  Calls Tryz.prog 4 #[.slice a len cap] w fun e w' => e = .returned (.bool false) ∧ w = w' := by
 have hb : decide ((1048576 : Int) < (len : Int)) = false := by rw [decide_eq_false_iff_not]; omega
 go_enter Tryz.func4, Tryz.ntmps4
 go_wp2_with fail
 go_ret
 exact ⟨rfl, rfl⟩
theorem big_yes (a : Option Addr) (len cap : Nat) (hl : 1048576 < len) (w : World) :
  Calls Tryz.prog 4 #[.slice a len cap] w fun e w' => e = .returned (.bool true) ∧ w = w' := by
 have hb : decide ((1048576 : Int) < (len : Int)) = true := by rw [decide_eq_true_iff]; omega
 go_enter Tryz.func4, Tryz.ntmps4
 go_wp2_with fail
 go_ret
 exact ⟨rfl, rfl⟩
end Go.Proofs.YtpidlmmpejoeaaaGreat
