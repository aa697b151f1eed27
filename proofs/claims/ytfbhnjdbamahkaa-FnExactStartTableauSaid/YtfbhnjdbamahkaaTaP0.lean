/- Tableaus of the call's own: stores into boxes and rows. -/
import Derived.Test.YtfbhnjdbamahkaaTaO
namespace Go.Proofs.Ytfbhnjdbamahkaa
open Go.RowKit
open Ve (R)
open Ta (T)
/-- What lies from B on, where what lies from B on has not turned. -/
theorem OwnRM.high {B : Nat} {w w' : World} {v : Value} {L : List (List R)} (h : OwnRM B w v L) (hk : ∀ k, B ≤ k → k < w.heap.size → w'.heap[k]? = w.heap[k]?) : OwnRM B w' v L := by
  obtain ⟨vs, h1, h2⟩ := h
  refine ⟨vs, owns_same h1 fun g hg => by have := World.ownsRow.lt h1 g hg; exact hk g this.1 this.2, fun j hj => ?_⟩
  obtain ⟨u, e, ho⟩ := h2 j hj
  exact ⟨u, e, owns_same ho fun g hg => by have := World.ownsRow.lt ho g hg; exact hk g this.1 this.2⟩
theorem OwnInts.high {B : Nat} {w w' : World} {v : Value} {xs : List Int} (h : OwnInts B w v xs) (hk : ∀ k, B ≤ k → k < w.heap.size → w'.heap[k]? = w.heap[k]?) : OwnInts B w' v xs :=
  owns_same h fun g hg => by have := World.ownsRow.lt h g hg; exact hk g this.1 this.2
theorem high_over {B q : Nat} {w : World} (hq : q < B) (x y z : Value) : ∀ k, B ≤ k → k < w.heap.size → (((w.setCell ⟨q, 0, none⟩ x).setCell ⟨q, 1, none⟩ y).setCell ⟨q, 2, none⟩ z).heap[k]? = w.heap[k]? := fun k h1 _ => by
  rw [Below.heap_setCell _ _ _ _ (show k ≠ q by omega), Below.heap_setCell _ _ _ _ (show k ≠ q by omega), Below.heap_setCell _ _ _ _ (show k ≠ q by omega)]
/-- The end: the result's box, which lies at w's size + 1, is set, and its cells answered. -/
theorem fin_pivot {w W wx w2 : World} {vR vB : Value} {t PV : T} {k KK : Bool} (hP : t = PV) (hK : k = KK) {cols : Int} (hc : t.cols = cols) (hW : W.heap.size ≤ wx.heap.size) (hR : OwnRM wx.heap.size w2 vR t.rows) (hB : OwnInts wx.heap.size w2 vB t.basis) (hb0 : Below w.heap.size w W)
    (hb : Below W.heap.size W w2) (hs : W.heap.size = w.heap.size + 2) (x y z : Value) : MakesTabK PV KK w (.returned (.tuple #[.agg #[vR, vB, .int .i64 cols], .bool k])) (((w2.setCell ⟨w.heap.size + 1, 0, none⟩ x).setCell ⟨w.heap.size + 1, 1, none⟩ y).setCell ⟨w.heap.size + 1, 2, none⟩ z) := by
  subst hP hK hc
  have hh := high_over (w := w2) (show w.heap.size + 1 < wx.heap.size by omega) x y z
  exact ⟨vR, vB, rfl, ⟨vR, vB, rfl, (hR.high hh).raise (by omega), (hB.high hh).raise2 (by omega)⟩, low_over (hb0.trans (hb.mono (by omega))) (Nat.le_succ _) _ _ _⟩
/-- A row of the call's own, entered. -/
theorem rows_put {B g c n j : Nat} {w : World} {u : Value} {x : List R} {L : List (List R)} (h : OwnRM B w (.slice (some ⟨g, 0, none⟩) n c) L) (hn : n = L.length) (hj : j < L.length) (hu : OwnRats B w u x) : OwnRM B (w.setCell ⟨g, j, none⟩ u) (.slice (some ⟨g, 0, none⟩) n c) (L.set j x) := by
  subst hn
  obtain ⟨vs, h1, h2⟩ := h
  have keep : ∀ (u' : Value) (xs : List R), OwnRats B w u' xs → OwnRats B (w.setCell ⟨g, j, none⟩ u) u' xs := fun u' xs ho =>
    owns_set ho (fun e => own_apart ho h1 rat_ne_row g e rfl)
  have hs := World.ownsRow.stored h1 j u
  refine ⟨vs.set j u, by simpa using hs.1, fun i hi => ?_⟩
  rw [List.length_set] at hi
  have hl : vs.length = L.length := by have := h1.1; omega
  by_cases e : i = j
  · subst e
    refine ⟨u, by simp [hl, hi], ?_⟩
    have : rr (L.set i x) i = x := rr_of (by simp [hi])
    rw [this]
    exact keep u x hu
  · obtain ⟨u', e1, ho⟩ := h2 i hi
    refine ⟨u', by rw [List.getElem?_set_ne (fun e2 => e e2.symm)]; exact e1, ?_⟩
    have : rr (L.set j x) i = rr L i := by
      unfold rr
      rw [List.getD_eq_getElem?_getD, List.getD_eq_getElem?_getD, List.getElem?_set_ne (fun e2 => e e2.symm)]
    rw [this]
    exact keep u' _ ho
/-- Where a row is entered. -/
theorem rows_spot {B n c j : Nat} {w : World} {a : Option Addr} {L : List (List R)} (h : OwnRM B w (.slice a n c) L) (hj : j < L.length) : ∃ g, a = some ⟨g, 0, none⟩ ∧ B ≤ g ∧ g < w.heap.size ∧ (∃ v, w.cell? ⟨g, j, none⟩ = some v) ∧ w.frozen? ⟨g, j, none⟩ = false := by
  obtain ⟨vs, h1, _⟩ := h
  have h1' := h1
  obtain ⟨e1, ⟨e, h0⟩ | ⟨g, cap, cur, e, hg, hh, hr⟩⟩ := h1'
  · omega
  · injection e with e2 e3 e4
    subst e2 e3 e4
    have hl : vs.length = L.length := by omega
    exact ⟨g, rfl, hg, lt_of_at hh, ⟨vs[j], by rw [World.ownsRow.cellAt h1 j (by omega), List.getElem?_eq_getElem (by omega)]⟩, World.ownsRow.frozenAt h1 _⟩
theorem ints_spot {B n c j : Nat} {w : World} {a : Option Addr} {L : List Int} (h : OwnInts B w (.slice a n c) L) (hj : j < L.length) : ∃ g, a = some ⟨g, 0, none⟩ ∧ B ≤ g ∧ g < w.heap.size ∧ (∃ v, w.cell? ⟨g, j, none⟩ = some v) ∧ w.frozen? ⟨g, j, none⟩ = false := by
  have h1 := h
  have h1' := h1
  obtain ⟨e1, ⟨e, h0⟩ | ⟨g, cap, cur, e, hg, hh, hr⟩⟩ := h1'
  · omega
  · injection e with e2 e3 e4
    subst e2 e3 e4
    exact ⟨g, rfl, hg, lt_of_at hh, ⟨(L.map (Value.int .i64))[j]'(by simpa using hj), by rw [World.ownsRow.cellAt h1 j (by simpa using hj), List.getElem?_eq_getElem (by simpa using hj)]⟩, World.ownsRow.frozenAt h1 _⟩
theorem ints_put {B g c n j : Nat} {w : World} {x : Int} {L : List Int} (h : OwnInts B w (.slice (some ⟨g, 0, none⟩) n c) L) (hn : n = L.length) : OwnInts B (w.setCell ⟨g, j, none⟩ (.int .i64 x)) (.slice (some ⟨g, 0, none⟩) n c) (L.set j x) := by
  subst hn
  have h1 := (World.ownsRow.stored h j (.int .i64 x)).1
  show World.ownsRow _ _ _ _ _ _ _
  rw [List.length_set, List.map_set]
  exact h1
end Go.Proofs.Ytfbhnjdbamahkaa
