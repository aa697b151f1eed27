/- SubRat of the specification, CompareRat, FloorRat, IsInteger on both sides: what each returns; what was there stays. -/
import Derived.Test.YtlaohlcghdbjhaaDoorRaE
namespace Go.Proofs.YtlaohlcghdbjhaaDoor
open Go.RowKit
theorem low3 {w wx : World} {o1 o2 o3 : Obj} (hb : Below (((w.alloc o1).alloc o2).alloc o3).heap.size (((w.alloc o1).alloc o2).alloc o3) wx) : Below w.heap.size w wx :=
  ((((Below.refl w.heap.size w).alloc (Nat.le_refl _) o1).alloc (by simp) o2).alloc (by simp; omega) o3).trans (hb.mono (by simp; omega))
theorem free3 {w wx : World} {x0 x1 y0 y1 u0 u1 : Value} {t1 t2 t3 : TypeId} (hb : Below (((w.alloc (.cells #[x0, x1] t1)).alloc (.cells #[y0, y1] t2)).alloc (.cells #[u0, u1] t3)).heap.size (((w.alloc (.cells #[x0, x1] t1)).alloc (.cells #[y0, y1] t2)).alloc (.cells #[u0, u1] t3)) wx) :
    wx.frozen? ⟨w.heap.size + 1, 0, none⟩ = false := by
  have e : (((w.alloc (.cells #[x0, x1] t1)).alloc (.cells #[y0, y1] t2)).alloc (.cells #[u0, u1] t3)).heap = ((w.heap.push (.cells #[x0, x1] t1)).push (.cells #[y0, y1] t2)).push (.cells #[u0, u1] t3) := rfl
  have hk := hb.block
  rw [e] at hk
  simp only [Array.size_push] at hk
  have B1 : wx.heap[w.heap.size + 1]? = some (.cells #[y0, y1] t2) := by rw [hk _ (by omega), Array.getElem?_push, if_neg (by simp only [Array.size_push]; omega), Array.getElem?_push, if_pos (by simp only [Array.size_push])]
  exact (cells2_of B1).2.2.1
theorem low2 {w wx : World} {o1 o2 : Obj} (hb : Below ((w.alloc o1).alloc o2).heap.size ((w.alloc o1).alloc o2) wx) : Below w.heap.size w wx :=
  (((Below.refl w.heap.size w).alloc (Nat.le_refl _) o1).alloc (by simp) o2).trans (hb.mono (by simp; omega))
theorem low1 {w wx : World} {o1 : Obj} (hb : Below (w.alloc o1).heap.size (w.alloc o1) wx) : Below w.heap.size w wx :=
  ((Below.refl w.heap.size w).alloc (Nat.le_refl _) o1).trans (hb.mono (by simp))
theorem kept2 {w wx : World} {x0 x1 y0 y1 : Value} {t1 t2 : TypeId} (hb : Below ((w.alloc (.cells #[x0, x1] t1)).alloc (.cells #[y0, y1] t2)).heap.size ((w.alloc (.cells #[x0, x1] t1)).alloc (.cells #[y0, y1] t2)) wx) :
    wx.cell? ⟨w.heap.size, 0, none⟩ = some x0 ∧ wx.cell? ⟨w.heap.size, 1, none⟩ = some x1 ∧ wx.cell? ⟨w.heap.size + 1, 0, none⟩ = some y0 ∧ wx.cell? ⟨w.heap.size + 1, 1, none⟩ = some y1 ∧ w.heap.size + 1 < wx.heap.size := by
  have e : ((w.alloc (.cells #[x0, x1] t1)).alloc (.cells #[y0, y1] t2)).heap = (w.heap.push (.cells #[x0, x1] t1)).push (.cells #[y0, y1] t2) := rfl
  have hz := hb.size
  have hk := hb.block
  rw [e] at hz hk
  simp only [Array.size_push] at hz hk
  have B0 : wx.heap[w.heap.size]? = some (.cells #[x0, x1] t1) := by rw [hk _ (by omega), Array.getElem?_push, if_neg (by simp only [Array.size_push]; omega), Array.getElem?_push, if_pos rfl]
  have B1 : wx.heap[w.heap.size + 1]? = some (.cells #[y0, y1] t2) := by rw [hk _ (by omega), Array.getElem?_push, if_pos (by simp only [Array.size_push])]
  obtain ⟨a0, a1, -, -⟩ := cells2_of B0
  obtain ⟨b0, b1, -, -⟩ := cells2_of B1
  exact ⟨a0, a1, b0, b1, by omega⟩
theorem kept1 {w wx : World} {x0 x1 : Value} {t1 : TypeId} (hb : Below (w.alloc (.cells #[x0, x1] t1)).heap.size (w.alloc (.cells #[x0, x1] t1)) wx) :
    wx.cell? ⟨w.heap.size, 0, none⟩ = some x0 ∧ wx.cell? ⟨w.heap.size, 1, none⟩ = some x1 ∧ w.heap.size < wx.heap.size := by
  have e : (w.alloc (.cells #[x0, x1] t1)).heap = w.heap.push (.cells #[x0, x1] t1) := rfl
  have hz := hb.size
  have hk := hb.block
  rw [e] at hz hk
  simp only [Array.size_push] at hz hk
  have B0 : wx.heap[w.heap.size]? = some (.cells #[x0, x1] t1) := by rw [hk _ (by omega), Array.getElem?_push, if_pos rfl]
  obtain ⟨a0, a1, -, -⟩ := cells2_of B0
  exact ⟨a0, a1, by omega⟩
theorem flo_key (n d : Int) (h : Ra.vld n d = true) : -1000000000 ≤ n.tdiv d ∧ n.tdiv d ≤ 1000000000 ∧ 1 ≤ d ∧ ((decide (n.tmod d < 0) = true ∧ n.tdiv d - 1 = Ra.flo n d) ∨ (decide (n.tmod d < 0) = false ∧ n.tdiv d = Ra.flo n d)) := by
  have v := Ra.vld_yes h
  have hb := Ra.tdiv_bd n d
  refine ⟨by omega, by omega, v.1, ?_⟩
  rw [Ra.flo_yes h]
  by_cases hm : n.tmod d < 0
  · exact .inl ⟨by rw [decide_eq_true_iff]; exact hm, Ra.floor_neg v.1 hm⟩
  · exact .inr ⟨by rw [decide_eq_false_iff_not]; exact hm, Ra.floor_pos v.1 hm⟩
end Go.Proofs.YtlaohlcghdbjhaaDoor
