/- Words for a stretch of a walk: since world B nothing that was there has turned; a pair of cells of the call's own, laid since. -/
import Derived.Test.YtlaohlcghdbjhaaDoorBase
import Derived.Deep.RegionHeld3
namespace Go.Proofs.YtlaohlcghdbjhaaDoor
open Go.RowKit

theorem cells2_of {w : World} {p : Nat} {x y : Value} {t : TypeId} (h : w.heap[p]? = some (.cells #[x, y] t)) :
    w.cell? ⟨p, 0, none⟩ = some x ∧ w.cell? ⟨p, 1, none⟩ = some y ∧ w.frozen? ⟨p, 0, none⟩ = false ∧ w.frozen? ⟨p, 1, none⟩ = false := by
  simp [World.cell?, World.frozen?, h]
theorem lt_of_at {w : World} {p : Nat} {o : Obj} (h : w.heap[p]? = some o) : p < w.heap.size := by
  rcases Nat.lt_or_ge p w.heap.size with h1 | h1
  · exact h1
  · rw [Array.getElem?_eq_none h1] at h; cases h
theorem size2 (w : World) (o1 o2 : Obj) : ((w.alloc o1).alloc o2).heap.size = w.heap.size + 2 := by show ((w.heap.push _).push _).size = _; simp
theorem size1 (w : World) (o1 : Obj) : (w.alloc o1).heap.size = w.heap.size + 1 := by show (w.heap.push _).size = _; simp

/-- Nothing of B has turned. -/
structure Since (B wx : World) : Prop where
  low : Below B.heap.size B wx
theorem Since.refl (B : World) : Since B B := ⟨Below.refl _ _⟩
theorem Since.trans {B wx wy : World} (h : Since B wx) (hb : Below wx.heap.size wx wy) : Since B wy := ⟨h.low.trans (hb.mono h.low.size)⟩
theorem Since.alloc {B wx : World} (h : Since B wx) (o : Obj) : Since B (wx.alloc o) := ⟨h.low.alloc h.low.size o⟩
theorem Since.drew {B wx : World} (h : Since B wx) : Since B wx.drew := ⟨h.low.drew⟩
theorem Since.drewN {B wx : World} (h : Since B wx) (n : Nat) : Since B (wx.drewN n) := ⟨below_drewN h.low n⟩
theorem Since.setCell {B wx : World} (h : Since B wx) {p : Addr} (hp : B.heap.size ≤ p.block) (u : Value) : Since B (wx.setCell p u) := ⟨h.low.setCell hp u⟩
theorem Since.cell {B wx : World} (h : Since B wx) {p : Addr} {v : Value} (hp : p.block < B.heap.size) (hv : B.cell? p = some v) : wx.cell? p = some v := cell_after h.low hp hv

/-- Block q, laid since, is the pair x, y. -/
structure Own2 (B : World) (x y : Value) (t : TypeId) (q : Nat) (wx : World) : Prop where
  since : Since B wx
  at_ : wx.heap[q]? = some (.cells #[x, y] t)
  hi : B.heap.size ≤ q
theorem Since.new {B wx : World} (h : Since B wx) (x y : Value) (t : TypeId) : Own2 B x y t wx.heap.size (wx.alloc (.cells #[x, y] t)) :=
  ⟨h.alloc _, by show (wx.heap.push _)[wx.heap.size]? = _; simp, h.low.size⟩
theorem Own2.trans {B : World} {x y : Value} {t : TypeId} {q : Nat} {wx wy : World} (h : Own2 B x y t q wx) (hb : Below wx.heap.size wx wy) : Own2 B x y t q wy :=
  ⟨h.since.trans hb, by rw [hb.block q (lt_of_at h.at_)]; exact h.at_, h.hi⟩
theorem Own2.drew {B : World} {x y : Value} {t : TypeId} {q : Nat} {wx : World} (h : Own2 B x y t q wx) : Own2 B x y t q wx.drew := ⟨h.since.drew, h.at_, h.hi⟩
theorem Own2.own {B : World} {x y : Value} {t : TypeId} {q : Nat} {wx : World} (h : Own2 B x y t q wx) :
    wx.cell? ⟨q, 0, none⟩ = some x ∧ wx.cell? ⟨q, 1, none⟩ = some y ∧ wx.frozen? ⟨q, 0, none⟩ = false ∧ wx.frozen? ⟨q, 1, none⟩ = false := cells2_of h.at_
theorem Own2.set2 {B : World} {x y : Value} {t : TypeId} {q : Nat} {wx : World} (h : Own2 B x y t q wx) (u v : Value) : Since B ((wx.setCell ⟨q, 0, none⟩ u).setCell ⟨q, 1, none⟩ v) :=
  (h.since.setCell (p := ⟨q, 0, none⟩) h.hi u).setCell (p := ⟨q, 1, none⟩) h.hi v
/-- The pair's place at the head of a stretch that begins behind two boxes. -/
theorem new2 (w : World) (o1 o2 : Obj) (x y : Value) (t : TypeId) : Own2 ((w.alloc o1).alloc o2) x y t (w.heap.size + 1 + 1) (((w.alloc o1).alloc o2).alloc (.cells #[x, y] t)) := by
  have h := (Since.refl ((w.alloc o1).alloc o2)).new x y t
  rw [size2] at h
  exact h
/-- A pair has been laid and set to N, D: its place p; the bool b beside it. -/
def Got (B : World) (N D : Int) (k : Bool) (p b : Value) (wx : World) : Prop :=
  ∃ q : Nat, p = .pointer (some ⟨q, 0, none⟩) ∧ b = .bool k ∧ wx.cell? ⟨q, 0, none⟩ = some (.int .i64 N) ∧ wx.cell? ⟨q, 1, none⟩ = some (.int .i64 D) ∧ q < wx.heap.size ∧ B.heap.size ≤ q ∧ Since B wx
theorem Got.last {B wx : World} (h : Since B wx) (N D : Int) (k : Bool) (t : TypeId) : Got B N D k (.pointer (some ⟨wx.heap.size, 0, none⟩)) (.bool k) (wx.alloc (.cells #[.int .i64 N, .int .i64 D] t)) := by
  have hn := h.new (.int .i64 N) (.int .i64 D) t
  exact ⟨_, rfl, rfl, hn.own.1, hn.own.2.1, by rw [size1]; omega, hn.hi, hn.since⟩
theorem Got.set {B : World} {x y : Value} {t : TypeId} {q : Nat} {wx : World} (h : Own2 B x y t q wx) (N D : Int) (k : Bool) :
    Got B N D k (.pointer (some ⟨q, 0, none⟩)) (.bool k) ((wx.setCell ⟨q, 0, none⟩ (.int .i64 N)).setCell ⟨q, 1, none⟩ (.int .i64 D)) :=
  ⟨q, rfl, rfl, (pair_set h.own.1 h.own.2.1).1, (pair_set h.own.1 h.own.2.1).2, by have := lt_of_at h.at_; simpa [World.setCell] using this, h.hi, h.set2 _ _⟩
theorem Got.drew {B : World} {N D : Int} {k : Bool} {p b : Value} {wx : World} (h : Got B N D k p b wx) : Got B N D k p b wx.drew := by
  obtain ⟨q, h1, h2, h3, h4, h5, h6, h7⟩ := h
  exact ⟨q, h1, h2, h3, h4, h5, h6, h7.drew⟩
end Go.Proofs.YtlaohlcghdbjhaaDoor
