/- The specification's ScaleGame. -/
import Derived.Test.YtodjapljoimkgaaGmC
import Derived.Test.YtodjapljoimkgaaLkInts
namespace Go.Proofs.Ytodjapljoimkgaa
open Go.RowKit
open Gm (G)
theorem two_boxes (w : World) (x y : Value) (t : TypeId) (W : World) (hW : W = (w.alloc (.cells #[x, y] t)).alloc (.cells #[.int .i64 0, .slice none 0 0] t)) :
    CellsAt W w.heap.size #[x, y] t ∧ CellsAt W (w.heap.size + 1) #[.int .i64 0, .slice none 0 0] t ∧ Below w.heap.size w W ∧ w.heap.size + 2 ≤ W.heap.size := by
  have h1 := ((CellsAt.new w #[x, y] t).more (.cells #[.int .i64 0, .slice none 0 0] t))
  have h3 := CellsAt.new (w.alloc (.cells #[x, y] t)) #[.int .i64 0, .slice none 0 0] t
  rw [size1] at h3
  subst hW
  exact ⟨h1, h3, ((Below.refl w.heap.size w).alloc (Nat.le_refl _) _).alloc (by rw [size1]; omega) _, by rw [size2]; omega⟩
end Go.Proofs.Ytodjapljoimkgaa
