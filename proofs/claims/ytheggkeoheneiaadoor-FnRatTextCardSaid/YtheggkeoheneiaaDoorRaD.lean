/- Sums, differences, products, quotients of fractions on both sides: what each returns; what was there stays. -/
import Derived.Test.YtheggkeoheneiaaDoorRaC
import Derived.Test.YtheggkeoheneiaaDoorSince
namespace Go.Proofs.YtheggkeoheneiaaDoor
open Go.RowKit
theorem kept3 {w wx : World} {x0 x1 y0 y1 u0 u1 : Value} {t1 t2 t3 : TypeId} (hb : Below (((w.alloc (.cells #[x0, x1] t1)).alloc (.cells #[y0, y1] t2)).alloc (.cells #[u0, u1] t3)).heap.size (((w.alloc (.cells #[x0, x1] t1)).alloc (.cells #[y0, y1] t2)).alloc (.cells #[u0, u1] t3)) wx) :
    wx.cell? ⟨w.heap.size, 0, none⟩ = some x0 ∧ wx.cell? ⟨w.heap.size, 1, none⟩ = some x1 ∧ wx.cell? ⟨w.heap.size + 1, 0, none⟩ = some y0 ∧ wx.cell? ⟨w.heap.size + 1, 1, none⟩ = some y1 ∧
    wx.cell? ⟨w.heap.size + 2, 0, none⟩ = some u0 ∧ wx.cell? ⟨w.heap.size + 2, 1, none⟩ = some u1 ∧ wx.frozen? ⟨w.heap.size + 2, 0, none⟩ = false ∧ wx.frozen? ⟨w.heap.size + 2, 1, none⟩ = false ∧ w.heap.size + 2 < wx.heap.size := by
  have e : (((w.alloc (.cells #[x0, x1] t1)).alloc (.cells #[y0, y1] t2)).alloc (.cells #[u0, u1] t3)).heap = ((w.heap.push (.cells #[x0, x1] t1)).push (.cells #[y0, y1] t2)).push (.cells #[u0, u1] t3) := rfl
  have hz := hb.size
  have hk := hb.block
  rw [e] at hz hk
  simp only [Array.size_push] at hz hk
  have B0 : wx.heap[w.heap.size]? = some (.cells #[x0, x1] t1) := by rw [hk _ (by omega), Array.getElem?_push, if_neg (by simp only [Array.size_push]; omega), Array.getElem?_push, if_neg (by simp only [Array.size_push]; omega), Array.getElem?_push, if_pos rfl]
  have B1 : wx.heap[w.heap.size + 1]? = some (.cells #[y0, y1] t2) := by rw [hk _ (by omega), Array.getElem?_push, if_neg (by simp only [Array.size_push]; omega), Array.getElem?_push, if_pos (by simp only [Array.size_push])]
  have B2 : wx.heap[w.heap.size + 2]? = some (.cells #[u0, u1] t3) := by rw [hk _ (by omega), Array.getElem?_push, if_pos (by simp only [Array.size_push])]
  obtain ⟨a0, a1, -, -⟩ := cells2_of B0
  obtain ⟨b0, b1, -, -⟩ := cells2_of B1
  obtain ⟨c0, c1, f0, f1⟩ := cells2_of B2
  exact ⟨a0, a1, b0, b1, c0, c1, f0, f1, by omega⟩
theorem low3_set {w wx : World} {o1 o2 o3 : Obj} (hb : Below (((w.alloc o1).alloc o2).alloc o3).heap.size (((w.alloc o1).alloc o2).alloc o3) wx) (x y : Value) :
    Below w.heap.size w ((wx.setCell ⟨w.heap.size + 2, 0, none⟩ x).setCell ⟨w.heap.size + 2, 1, none⟩ y) :=
  ((((((Below.refl w.heap.size w).alloc (Nat.le_refl _) o1).alloc (by simp) o2).alloc (by simp; omega) o3).trans (hb.mono (by simp; omega))).setCell (p := ⟨w.heap.size + 2, 0, none⟩) (by simp) x).setCell (p := ⟨w.heap.size + 2, 1, none⟩) (by simp) y
end Go.Proofs.YtheggkeoheneiaaDoor
