/- The walk of FnExactFormatInt: for every int the law returns true. -/
import Derived.Test.YtncmphicpgidbaaDoorIntB
import Derived.Test.YtncmphicpgidbaaDoorSpFmt
import Derived.Test.YtncmphicpgidbaaDoorTabs
namespace Go.Proofs.YtncmphicpgidbaaDoor
theorem pow_of3 {W : World} (h : laidMet Tryd.prog [("math/bits.deBruijn32tab", Rows.laid_math_bits_deBruijn32tab), ("math/bits.deBruijn64tab", Rows.laid_math_bits_deBruijn64tab), ("internal/strconv.uint64pow10", Rows.laid_internal_strconv_uint64pow10)] W) :
    Lib.TabIs Tryd.prog W "internal/strconv.uint64pow10" .u64 Lib.pow10Tab :=
  Lib.tabIs_of_head (rest := []) gPow tPow Tryd.underlying89 Tryd.underlying69 cellsU64 cellsPow h.tail.tail
namespace fnExactFormatInt
open Go.RowKit
theorem walk (n : Int) (wn : (Lit.int .i64 n).wf = true) (w : World) (htab : Lib.TabIs Tryd.prog w "internal/strconv.uint64pow10" .u64 Lib.pow10Tab) :
    Calls Tryd.prog 5 #[.int .i64 n] w fun e w' => e = .returned (.bool true) ∧ Below w.heap.size w w' := by
  have hb : -9223372036854775808 ≤ n ∧ n ≤ 9223372036854775807 := by
    have e1 : IntKind.i64.min = -9223372036854775808 := rfl
    have e2 : IntKind.i64.max = 9223372036854775807 := rfl
    simp [Lit.wf, e1, e2] at wn; omega
  obtain ⟨h0, h1⟩ := hb
  go_enter Tryd.func5, Tryd.ntmps5
  go_wp2_with fail
  refine (spec_FormatInt n h0 h1 _).mono ?_
  rintro e w1 ⟨rfl, hb1⟩
  have H1 := Lib.hid (Joins.var_stays gPow htab hb1 (Nat.le_refl _))
  go_wp2_with fail
  refine (impl_FormatInt0 n h0 h1 _ H1).mono ?_
  rintro e w2 ⟨rfl, hb2⟩
  go_wp2_with fail
  go_ret
  exact ⟨rfl, hb1.trans (hb2.mono hb1.size)⟩
end fnExactFormatInt
end Go.Proofs.YtncmphicpgidbaaDoor
