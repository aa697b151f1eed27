/- spec.l3Sign; EnteringColumn, the specification's and the code's. -/
import Derived.Test.YtfbhnjdbamahkaaSiM
import Derived.Test.YtfbhnjdbamahkaaTaB
import Derived.Test.YtfbhnjdbamahkaaGTd
namespace Go.Proofs.Ytfbhnjdbamahkaa
open Go.RowKit
open Ve (R)
open Ta (T)
theorem spec_cmp (x y : R) (w : World) : Calls Try.prog 125 #[.agg #[.int .i64 x.1, .int .i64 x.2], .agg #[.int .i64 y.1, .int .i64 y.2]] w fun e w' => e = .returned (.int .i64 (Ta.how x y)) ∧ Below w.heap.size w w' := spec_CompareRat x.1 x.2 y.1 y.2 w
theorem impl_cmp (x y : R) (w : World) : Calls Try.prog 152 #[.agg #[.int .i64 x.1, .int .i64 x.2], .agg #[.int .i64 y.1, .int .i64 y.2]] w fun e w' => e = .returned (.int .i64 (Ta.how x y)) ∧ Below w.heap.size w w' := impl_CompareRat x.1 x.2 y.1 y.2 w
theorem impl_div (x y : R) (w : World) : Calls Try.prog 132 #[.agg #[.int .i64 x.1, .int .i64 x.2], .agg #[.int .i64 y.1, .int .i64 y.2]] w fun e w' => e = .returned (.tuple #[.agg #[.int .i64 (Ta.divR x y).1, .int .i64 (Ta.divR x y).2], .bool (Ta.divK x y)]) ∧ Below w.heap.size w w' := impl_DivRat x.1 x.2 y.1 y.2 w
end Go.Proofs.Ytfbhnjdbamahkaa
