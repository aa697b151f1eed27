/- The walks of FnExactFormatCoalition and FnExactParseCoalition: for every input the law returns true. -/
import Derived.Test.YtkaelmankhepdaaCoParse
namespace Go.Proofs.Ytkaelmankhepdaa
open Go.RowKit

set_option maxHeartbeats 400000 in
theorem fnExactFormatCoalition.walk (s : Int) (_wf : (Lit.int .i64 s).wf = true) (w : World) :
    Calls Try.prog 11 #[.int .i64 s] w fun e w' => e = .returned (.bool true) ∧ Below w.heap.size w w' := by
  go_enter Try.func11, Try.ntmps11
  go_wp2_with fail
  refine (spec_FormatCoalition s w).mono ?_
  rintro e w1 ⟨rfl, hb1⟩
  have Hb1 := Lib.hid hb1
  clear hb1
  go_wp2_with fail
  refine (impl_FormatCoalition s w1).mono ?_
  rintro e w2 ⟨rfl, hb2⟩
  have Hb2 := Lib.hid (Hb1.out.trans (hb2.mono Hb1.out.size))
  clear hb2
  go_wp2_with fail
  go_ret
  exact ⟨rfl, Hb2⟩
set_option maxHeartbeats 400000 in
theorem fnExactParseCoalition.walk (t : ByteArray) (_wf : t.size ≤ maxLen) (w : World) :
    Calls Try.prog 12 #[.string t] w fun e w' => e = .returned (.bool true) ∧ Below w.heap.size w w' := by
  by_cases hbig : 1048576 < t.size
  · have hb : decide ((1048576 : Int) < (t.size : Int)) = true := by rw [decide_eq_true_iff]; omega
    go_enter Try.func12, Try.ntmps12
    go_wp2_with fail
    go_ret
    exact ⟨rfl, Below.refl _ _⟩
  · have hb : decide ((1048576 : Int) < (t.size : Int)) = false := by rw [decide_eq_false_iff_not]; omega
    obtain ⟨⟨n, b⟩, hr⟩ := parse_some t
    have HR := Lib.hid hr
    clear hr
    go_enter Try.func12, Try.ntmps12
    go_wp2_with fail
    refine (spec_ParseCoalition t _ HR.out w).mono ?_
    rintro e w1 ⟨rfl, hb1⟩
    have Hb1 := Lib.hid hb1
    clear hb1
    go_wp2_with fail
    refine (impl_ParseCoalition t _ HR.out w1).mono ?_
    rintro e w2 ⟨rfl, hb2⟩
    have Hb2 := Lib.hid (Hb1.out.trans (hb2.mono Hb1.out.size))
    clear hb2
    go_wp2_with fail
    go_ret
    exact ⟨rfl, Hb2⟩
end Go.Proofs.Ytkaelmankhepdaa
