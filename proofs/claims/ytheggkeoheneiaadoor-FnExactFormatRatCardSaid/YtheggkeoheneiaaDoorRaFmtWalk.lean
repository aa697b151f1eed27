/- The walk of FnExactFormatRat: for every fraction the law returns true. -/
import Derived.Test.YtheggkeoheneiaaDoorRaFmt
import Derived.Test.YtheggkeoheneiaaDoorRows
import Derived.Lib.LaidTab
import Derived.Stop.LaidErr
namespace Go.Proofs.YtheggkeoheneiaaDoor
open Go.RowKit
theorem tPow3 : (Tryd.prog.globals[1]?).map (·.type) = some 87 := by kernel_rfl
theorem cellsPow3 : Tryd.prog.cellsOf 87 = 20 := by kernel_rfl
theorem cellsU643 : Tryd.prog.cellsOf 72 = 1 := by kernel_rfl
theorem pow_of3 {W : World} (h : laidMet Tryd.prog [("math/bits.deBruijn32tab", Rows.laid_math_bits_deBruijn32tab), ("math/bits.deBruijn64tab", Rows.laid_math_bits_deBruijn64tab), ("internal/strconv.uint64pow10", Rows.laid_internal_strconv_uint64pow10)] W) : PowAt W :=
  Lib.tabIs_of_head (rest := []) gPow tPow3 Tryd.underlying87 Tryd.underlying72 cellsU643 cellsPow3 h.tail.tail
namespace fnExactFormatRat
theorem walk (n d : Int) (w : World) (hp : PowAt w) :
    Calls Tryd.prog 4 #[.agg #[.int .i64 n, .int .i64 d]] w fun e w' => e = .returned (.bool true) ∧ Below w.heap.size w w' := by
  have hl : ((ByteArray.mk (Ra.fmt n d).toArray).toList == (ByteArray.mk (Ra.fmt n d).toArray).toList) = true := by simp
  have Hp := Lib.hid (hp.alloc (.cells #[.int .i64 n, .int .i64 d] 33))
  clear hp
  go_enter Tryd.func4, Tryd.ntmps4
  go_wp2_with fail
  refine (laws_toRat n d _).mono ?_
  rintro e w1 ⟨rfl, hb1⟩
  have Hb1 := Lib.hid hb1
  clear hb1
  go_wp2_with fail
  refine (spec_FormatRat n d _).mono ?_
  rintro e w2 ⟨rfl, hb2⟩
  have Hb2 := Lib.hid (Hb1.out.trans (hb2.mono Hb1.out.size))
  obtain ⟨a0, a1, hz⟩ := kept1 Hb2.out
  clear Hb1 hb2
  go_wp2_with fail
  refine (laws_toRat n d _).mono ?_
  rintro e w3 ⟨rfl, hb3⟩
  have Hb3 := Lib.hid (Hb2.out.trans (hb3.mono Hb2.out.size))
  clear Hb2 hb3 a0 a1 hz
  go_wp2_with fail
  refine (impl_FormatRat n d _ (Hp.out.below Hb3.out)).mono ?_
  rintro e w4 ⟨rfl, hb4⟩
  have Hb4 := Lib.hid (Hb3.out.trans (hb4.mono Hb3.out.size))
  clear Hb3 hb4
  go_wp2_with fail
  go_ret
  exact ⟨rfl, low1 Hb4.out⟩
end fnExactFormatRat
end Go.Proofs.YtheggkeoheneiaaDoor
