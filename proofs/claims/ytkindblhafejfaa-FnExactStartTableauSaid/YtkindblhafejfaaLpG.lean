/- spec.l5Optimal. -/
import Derived.Test.YtkindblhafejfaaLpF
import Derived.Test.YtkindblhafejfaaGLr
namespace Go.Proofs.Ytkindblhafejfaa
open Go.RowKit
open Ve (R)
open Lp (P Res)
theorem ten_cells {W wr : World} {s q : Nat} {x y z : Value} {t t' : TypeId} {v0 v1 v2 v3 v4 v5 v6 : Value} (H : Hid (Tri W s x y z t ∧ CellsAt W q #[v0, v1, v2, v3, v4, v5, v6] t')) (hs : Since W wr) :
    (wr.cell? ⟨s, 0, none⟩ = some x ∧ wr.cell? ⟨s, 1, none⟩ = some y ∧ wr.cell? ⟨s, 2, none⟩ = some z) ∧ (wr.cell? ⟨q, 0, none⟩ = some v0 ∧ wr.cell? ⟨q, 1, none⟩ = some v1 ∧ wr.cell? ⟨q, 2, none⟩ = some v2 ∧ wr.cell? ⟨q, 3, none⟩ = some v3 ∧ wr.cell? ⟨q, 4, none⟩ = some v4 ∧ wr.cell? ⟨q, 5, none⟩ = some v5 ∧ wr.cell? ⟨q, 6, none⟩ = some v6) := by
  obtain ⟨h1, h2⟩ := H.out
  obtain ⟨a0, a1, a2, _⟩ := (h1.below hs.low).cells
  exact ⟨⟨a0, a1, a2⟩, (seven (h2.below hs.low)).1⟩
theorem two_boxes (w : World) (x y z : Value) (t t' : TypeId) (cs : Array Value) :
    Tri ((w.alloc (.cells #[x, y, z] t)).alloc (.cells cs t')) w.heap.size x y z t ∧ CellsAt ((w.alloc (.cells #[x, y, z] t)).alloc (.cells cs t')) (w.heap.size + 1) cs t' := by
  have h2 := CellsAt.new (w.alloc (.cells #[x, y, z] t)) cs t'
  rw [size1] at h2
  exact ⟨(Tri.new w x y z t).more _, h2⟩
end Go.Proofs.Ytkindblhafejfaa
