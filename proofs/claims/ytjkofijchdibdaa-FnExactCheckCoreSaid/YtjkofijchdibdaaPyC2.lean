/- CompareExcesses, both sides. -/
import Derived.Test.YtjkofijchdibdaaPyA
import Derived.Test.YtjkofijchdibdaaGRa
namespace Go.Proofs.Ytjkofijchdibdaa
open Go.RowKit
open Ve (R)
open Gm (G)

theorem spec_cmpX (x y : R) (w : World) : Calls Try.prog 54 #[.agg #[.int .i64 x.1, .int .i64 x.2], .agg #[.int .i64 y.1, .int .i64 y.2]] w fun e w' => e = .returned (.int .i64 (Py.cmp x y)) ∧ Below w.heap.size w w' := spec_CompareRat x.1 x.2 y.1 y.2 w
theorem impl_cmpX (x y : R) (w : World) : Calls Try.prog 129 #[.agg #[.int .i64 x.1, .int .i64 x.2], .agg #[.int .i64 y.1, .int .i64 y.2]] w fun e w' => e = .returned (.int .i64 (Py.cmp x y)) ∧ Below w.heap.size w w' := impl_CompareRat x.1 x.2 y.1 y.2 w
theorem ne0 {z : Int} (h : z ≠ 0) : (z != 0) = true ∧ (z == 0) = false := ⟨by rw [bne_iff_ne]; exact h, by rw [beq_eq_false_iff_ne]; exact h⟩
end Go.Proofs.Ytjkofijchdibdaa
