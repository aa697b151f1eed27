/- What a row's list of three variables gives: the table of powers of ten that strconv reads. -/
import Derived.Test.YtambneapofaclaaDoorPowA
import Derived.Test.YtambneapofaclaaDoorRows
import Derived.Lib.LaidTab
import Derived.Stop.LaidErr
namespace Go.Proofs.YtambneapofaclaaDoor
open Go.RowKit
theorem tPow3 : (Tryd.prog.globals[0]?).map (·.type) = some 52 := by kernel_rfl
theorem cellsPow3 : Tryd.prog.cellsOf 52 = 20 := by kernel_rfl
theorem cellsU643 : Tryd.prog.cellsOf 46 = 1 := by kernel_rfl
theorem pow_of3 {W : World} (h : laidMet Tryd.prog [("math/bits.deBruijn32tab", Rows.laid_math_bits_deBruijn32tab), ("math/bits.deBruijn64tab", Rows.laid_math_bits_deBruijn64tab), ("internal/strconv.uint64pow10", Rows.laid_internal_strconv_uint64pow10)] W) : PowAt W :=
  Lib.tabIs_of_head (rest := []) gPow tPow3 Tryd.underlying52 Tryd.underlying46 cellsU643 cellsPow3 h.tail.tail
end Go.Proofs.YtambneapofaclaaDoor
