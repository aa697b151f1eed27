/- laws.szRatS, toRatS, eqRatS, markRatS, heldRatS: rows of fractions counted, copied, compared, marked, and found as marked. -/
import Derived.Test.YtlaohlcghdbjhaaDoorVec
import Derived.Test.YtlaohlcghdbjhaaDoorRaL0
import Derived.Laws.OwnMore
namespace Go.Proofs.YtlaohlcghdbjhaaDoor
open Go.RowKit
open Ve (R)

theorem sz_ok (a : Option Addr) (len cap : Nat) (left : Int) (hl : (len : Int) ≤ left) (hl1 : left ≤ 1048576) (w : World) :
    Calls Tryd.prog 21 #[.slice a len cap, .int .i64 left] w fun e w' => e = .returned (.int .i64 (left - len)) ∧ w = w' := by
  have hb : decide (left - (len : Int) < 0) = false := by rw [decide_eq_false_iff_not]; omega
  go_enter Tryd.func21, Tryd.ntmps21
  go_wp2_with fail
  go_ret
  exact ⟨rfl, rfl⟩
theorem sz_no (a : Option Addr) (len cap : Nat) (left : Int) (hl : left < (len : Int)) (hm : len ≤ 9223372036854775807) (hl0 : 0 ≤ left) (hl1 : left ≤ 1048576) (w : World) :
    Calls Tryd.prog 21 #[.slice a len cap, .int .i64 left] w fun e w' => e = .returned (.int .i64 (-1)) ∧ w = w' := by
  have hb : decide (left - (len : Int) < 0) = true := by rw [decide_eq_true_iff]; omega
  go_enter Tryd.func21, Tryd.ntmps21
  go_wp2_with fail
  go_ret
  exact ⟨rfl, rfl⟩

/-- The first k fractions are copied. -/
def CopiedR (B g n k : Nat) (wr : World) (xs : List R) : Prop :=
  ∃ L : List Value, wr.ownsRow B 26 2 (.slice (some ⟨g, 0, none⟩) n n) n L ∧ ∀ j x, j < k → xs[j]? = some x → L[j * 2]? = some (.int .i64 x.1) ∧ L[j * 2 + 1]? = some (.int .i64 x.2)
theorem copiedR_next {B g n k : Nat} {wr : World} {xs : List R} (h : CopiedR B g n k wr xs) (hk : k < n) (x : R) (hx : xs[k]? = some x) :
    CopiedR B g n (k + 1) ((wr.setCell ⟨g, k * 2, none⟩ (.int .i64 x.1)).setCell ⟨g, k * 2 + 1, none⟩ (.int .i64 x.2)) xs := by
  obtain ⟨L, h1, h2⟩ := h
  have hl : L.length = n * 2 := h1.1
  refine ⟨(L.set (k * 2) (.int .i64 x.1)).set (k * 2 + 1) (.int .i64 x.2), ((h1.stored (k * 2) (.int .i64 x.1)).1.stored (k * 2 + 1) (.int .i64 x.2)).1, fun j y hj hy => ?_⟩
  by_cases e : j = k
  · subst e
    rw [hx] at hy
    obtain rfl := Option.some.inj hy
    constructor
    · rw [List.getElem?_set_ne (by omega), List.getElem?_set_self (by omega)]
    · rw [List.getElem?_set_self (by rw [List.length_set]; omega)]
  · rw [List.getElem?_set_ne (by omega), List.getElem?_set_ne (by omega), List.getElem?_set_ne (by omega), List.getElem?_set_ne (by omega)]
    exact h2 j y (by omega) hy
theorem cells_eq {L : List Value} {xs : List R} (hl : L.length = xs.length * 2) (h : ∀ j x, xs[j]? = some x → L[j * 2]? = some (.int .i64 x.1) ∧ L[j * 2 + 1]? = some (.int .i64 x.2)) : L = cellsR xs := by
  apply List.ext_getElem? fun i => ?_
  rcases Nat.lt_or_ge i L.length with h1 | h1
  · have hj : i / 2 < xs.length := by omega
    obtain ⟨e1, e2⟩ := h (i / 2) _ (List.getElem?_eq_getElem hj)
    obtain ⟨f1, f2⟩ := cellsR_at xs (i / 2) _ (List.getElem?_eq_getElem hj)
    rcases (show i = i / 2 * 2 ∨ i = i / 2 * 2 + 1 by omega) with hi | hi
    · rw [hi, e1, f1]
    · rw [hi, e2, f2]
  · rw [List.getElem?_eq_none h1, List.getElem?_eq_none (by rw [cellsR_len]; omega)]
theorem copied_cells {B g n k : Nat} {wr : World} {xs : List R} (h : CopiedR B g n k wr xs) (j : Nat) (hj : j < n * 2) :
    (∃ v, wr.cell? ⟨g, j, none⟩ = some v) ∧ wr.frozen? ⟨g, j, none⟩ = false := by
  obtain ⟨L, h1, _⟩ := h
  have hl2 := h1.1
  exact ⟨⟨L[j], by rw [h1.cellAt j hj, List.getElem?_eq_getElem (by omega)]⟩, h1.frozenAt j⟩
set_option maxRecDepth 100000 in
set_option maxHeartbeats 1000000 in
theorem laws_toRatS (B : Nat) (a : Option Addr) (cap : Nat) (xs : List R) (hl : xs.length ≤ 1048576) (w : World) (hBw : B ≤ w.heap.size) (hz : RatsIn B w a xs) :
    Calls Tryd.prog 22 #[.slice a xs.length cap] w (MakesRats xs w) := by
  have Hz := Lib.hid (hz.mono hBw)
  obtain ⟨i0, hi, hz0, hz1, hz2⟩ := info_parts info_rat
  have HI := Lib.hid hi
  have HZ0 := Lib.hid hz0
  have HZ1 := Lib.hid hz1
  have hby : i0.bytes * xs.length ≤ 281474976710656 := by rw [hz2]; omega
  have Hby := Lib.hid hby
  clear hz hi hz0 hz1 hz2 hby
  go_enter Tryd.func22, Tryd.ntmps22
  go_wp2_with (refine wpList_make_full _ rfl _ _ 24 rfl w.heap.size 26 i0 (.agg #[.int .i64 0, .int .i64 0]) 2 Tryd.underlying24 HI.out HZ0.out HZ1.out _ _ _ _ xs.length rfl rfl rfl rfl Hby.out ?c1 (Nat.le_refl _) ?_)
  case c1 => unfold maxLen; omega
  intro w1 hown hgrow
  have Hown : Hid (CopiedR w.heap.size w.heap.size xs.length 0 w1 xs) := ⟨_, hown, fun j x hj _ => absurd hj (by omega)⟩
  have Hb1 := Lib.hid ((Below.refl w.heap.size w).grown hgrow (Nat.le_refl _) (fun k hk => by cases hk))
  have hlt1 : w.heap.size < w1.heap.size := (hown.lt _ rfl).2
  clear hown hgrow
  go_wp2_with fail
  go_loopw [4] (fun i wr => ∃ k : Nat, k ≤ xs.length ∧ i = .int .i64 k ∧ w.heap.size < wr.heap.size ∧ Hid (CopiedR w.heap.size w.heap.size xs.length k wr xs) ∧ Hid (Below w.heap.size w wr)) (fun i _ => xs.length - (intOf i).toNat)
  case atStart => exact ⟨0, Nat.zero_le _, rfl, hlt1, Hown, Hb1⟩
  case round =>
    obtain ⟨k, hk, rfl, hgl, hC, hB⟩ := hrel
    by_cases hlt : k < xs.length
    · obtain ⟨b, o, rfl, hbB, p0, p1⟩ := (Hz.out.below hB.out).at k hlt
      have hx : xs[k]? = some (Ve.at_ xs k) := Ve.at_get hlt
      generalize Ve.at_ xs k = x at *
      have Hx := Lib.hid hx
      clear hx
      go_wp2_with fail
      refine (laws_toRat _ _ _).mono ?_
      rintro e w2 ⟨rfl, hb2⟩
      have hC2 : CopiedR w.heap.size w.heap.size xs.length k w2 xs := by
        obtain ⟨L, h1, h2⟩ := hC.out
        exact ⟨L, World.ownsRow.kept h1 (row := none) ⟨hb2.os, hb2.tape, hb2.output, hb2.size, fun k hk _ => hb2.block k hk⟩ (by simp [Value.ownBlock]), h2⟩
      obtain ⟨⟨v0, g0⟩, f0⟩ := copied_cells hC2 (k * 2) (by omega)
      obtain ⟨⟨v1, g1⟩, f1⟩ := copied_cells hC2 (k * 2 + 1) (by omega)
      have HC2 := Lib.hid (copiedR_next hC2 hlt _ Hx.out)
      have HB2 := Lib.hid (((hB.out.trans (hb2.mono hB.out.size)).setCell (p := ⟨w.heap.size, k * 2, none⟩) (Nat.le_refl _) (.int .i64 x.1)).setCell (p := ⟨w.heap.size, k * 2 + 1, none⟩) (Nat.le_refl _) (.int .i64 x.2))
      have hgl2 : w.heap.size < w2.heap.size := Nat.lt_of_lt_of_le hgl hb2.size
      clear hb2 hC2 Hx hgl
      go_wp2_with fail
      go_roundw
      case rel => exact ⟨k + 1, by omega, by go_num, by simp; omega, HC2, HB2⟩
      case measure => simp [intOf]; omega
    · have he : k = xs.length := by omega
      have Hc : Hid (OwnRats w.heap.size wr (.slice (some ⟨w.heap.size, 0, none⟩) xs.length xs.length) xs) := by
        obtain ⟨L, h1, h2⟩ := hC.out
        have e := cells_eq h1.1 fun j x hx => h2 j x (by have := (List.getElem?_eq_some_iff.1 hx).1; omega) hx
        subst e
        exact h1
      clear he
      go_wp2_with fail
      go_ret
      exact ⟨_, rfl, Hc.out, hB.out⟩
/-- The four cells of two fractions, read later. -/
def Quad (b1 k1 b2 k2 : Nat) (x y : R) (B : World) : Prop :=
  B.cell? ⟨b1, k1, none⟩ = some (.int .i64 x.1) ∧ B.cell? ⟨b1, k1 + 1, none⟩ = some (.int .i64 x.2) ∧ B.cell? ⟨b2, k2, none⟩ = some (.int .i64 y.1) ∧ B.cell? ⟨b2, k2 + 1, none⟩ = some (.int .i64 y.2) ∧ b1 < B.heap.size ∧ b2 < B.heap.size
theorem Quad.five {b1 k1 b2 k2 : Nat} {x y : R} {B wx : World} (H : Hid (Quad b1 k1 b2 k2 x y B)) (h : Since B wx) :
    wx.cell? ⟨b1, k1, none⟩ = some (.int .i64 x.1) ∧ wx.cell? ⟨b1, k1 + 1, none⟩ = some (.int .i64 x.2) ∧ wx.cell? ⟨b2, k2, none⟩ = some (.int .i64 y.1) ∧ wx.cell? ⟨b2, k2 + 1, none⟩ = some (.int .i64 y.2) ∧ Since B wx :=
  ⟨h.cell (p := ⟨b1, k1, none⟩) H.out.2.2.2.2.1 H.out.1, h.cell (p := ⟨b1, k1 + 1, none⟩) H.out.2.2.2.2.1 H.out.2.1, h.cell (p := ⟨b2, k2, none⟩) H.out.2.2.2.2.2 H.out.2.2.1, h.cell (p := ⟨b2, k2 + 1, none⟩) H.out.2.2.2.2.2 H.out.2.2.2.1, h⟩
set_option maxRecDepth 100000 in
set_option maxHeartbeats 1000000 in
theorem laws_eqRatS (B : Nat) (a1 a2 : Option Addr) (c1 c2 : Nat) (xs : List R) (hn : xs.length ≤ 2097152) (w : World) (hBw : B ≤ w.heap.size) (h1 : RatsIn B w a1 xs) (h2 : RatsIn B w a2 xs) :
    Calls Tryd.prog 23 #[.slice a1 xs.length c1, .slice a2 xs.length c2] w fun e w' => e = .returned (.bool true) ∧ Below w.heap.size w w' := by
  have H1 := Lib.hid (h1.mono hBw)
  have H2 := Lib.hid (h2.mono hBw)
  clear h1 h2
  go_enter Tryd.func23, Tryd.ntmps23
  go_wp2_with fail
  go_loopw [5] (fun i wr => ∃ k : Nat, k ≤ xs.length ∧ i = .int .i64 k ∧ Hid (Below w.heap.size w wr)) (fun i _ => xs.length - (intOf i).toNat)
  case atStart => exact ⟨0, Nat.zero_le _, rfl, Below.refl _ _⟩
  case round =>
    obtain ⟨k, hk, rfl, hB⟩ := hrel
    by_cases hlt : k < xs.length
    · obtain ⟨b1, o1, rfl, l1, p0, p1⟩ := (H1.out.below hB.out).at k hlt
      obtain ⟨b2, o2, rfl, l2, q0, q1⟩ := (H2.out.below hB.out).at k hlt
      generalize Ve.at_ xs k = x at *
      have hsz := hB.out.size
      have HQ : Hid (Quad b1 (o1 + k * 2) b2 (o2 + k * 2) x x wr) := ⟨p0, p1, q0, q1, by omega, by omega⟩
      have hin := Since.refl wr
      go_wp2_with fail
      go_region_held3 (fun w' => w'.cell? ⟨b1, o1 + k * 2, none⟩ = some (.int .i64 x.1) ∧ w'.cell? ⟨b1, o1 + k * 2 + 1, none⟩ = some (.int .i64 x.2) ∧ w'.cell? ⟨b2, o2 + k * 2, none⟩ = some (.int .i64 x.1) ∧ w'.cell? ⟨b2, o2 + k * 2 + 1, none⟩ = some (.int .i64 x.2) ∧ Since wr w') (first | exact Quad.five HQ (by assumption) | exact Quad.five HQ (Since.drew (by assumption)))
        (first | (go_at_call 47; refine (calls_since (laws_eqRat _ _ _) (B := wr) (by first | assumption | exact Since.drew (by assumption))).mono ?_; rintro e w' ⟨⟨rfl, _⟩, hin2⟩))
      have Hb2 := Lib.hid (hB.out.trans ((Since.low (B := wr) (wx := w') (by assumption)).mono hsz))
      clear hin hin2 HQ
      go_wp2_with fail
      go_roundw
      case rel => exact ⟨k + 1, by omega, by go_num, Hb2⟩
      case measure => simp [intOf]; omega
    · go_wp2_with fail
      go_ret
      exact ⟨rfl, hB.out⟩
/-- k, k + 1 | k + 2, k + 3 | .. : n pairs. -/
def marksR (k n : Nat) : List R := (List.range n).map fun j => (((k + 2 * j : Nat) : Int), ((k + 2 * j + 1 : Nat) : Int))
theorem marksR_len (k n : Nat) : (marksR k n).length = n := by simp [marksR]
theorem marksR_at (k n j : Nat) (h : j < n) : (marksR k n)[j]? = some (((k + 2 * j : Nat) : Int), ((k + 2 * j + 1 : Nat) : Int)) := by simp [marksR, h]
theorem marksR_succ (k j : Nat) : marksR k (j + 1) = marksR k j ++ [(((k + 2 * j : Nat) : Int), ((k + 2 * j + 1 : Nat) : Int))] := by unfold marksR; rw [List.range_succ, List.map_append]; rfl
theorem cellsR_app : ∀ (xs ys : List R), cellsR (xs ++ ys) = cellsR xs ++ cellsR ys
  | [], ys => rfl
  | x :: xs, ys => by simp only [cellsR, List.cons_append, cellsR_app xs ys]
theorem marksR_set (k j : Nat) (xs : List R) (hj : j < xs.length) :
    ((cellsR (marksR k j ++ xs.drop j)).set (j * 2) (.int .i64 ((k + 2 * j : Nat) : Int))).set (j * 2 + 1) (.int .i64 ((k + 2 * j + 1 : Nat) : Int)) = cellsR (marksR k (j + 1) ++ xs.drop (j + 1)) := by
  have hl : (cellsR (marksR k j)).length = j * 2 := by rw [cellsR_len, marksR_len]
  rw [cellsR_app, List.drop_eq_getElem_cons hj, marksR_succ, List.append_assoc, cellsR_app]
  simp only [cellsR, List.cons_append, List.nil_append]
  rw [List.set_append_right _ _ (by omega), hl, Nat.sub_self, List.set_cons_zero, List.set_append_right _ _ (by omega), hl, show j * 2 + 1 - j * 2 = 1 by omega]
  rfl
theorem marksR_all (k : Nat) (xs : List R) : marksR k xs.length ++ xs.drop xs.length = marksR k xs.length := by simp
def MarksRPost (B k : Nat) (v : Value) (n : Nat) (w : World) (e : Ending) (w' : World) : Prop :=
  e = .returned (.int .i64 ((k : Int) + 2 * n)) ∧ OwnRats B w' v (marksR k n) ∧ w.grownBy w' v.ownBlock
theorem grownR_set {w a : World} {g : Nat} (h : w.grownBy a (some g)) (j : Nat) (u : Value) : w.grownBy (a.setCell ⟨g, j, none⟩ u) (some g) :=
  ⟨h.os, h.tape, h.output, by have := h.size; simp; omega, fun k hk hne => by
    rw [Below.heap_setCell _ _ _ _ (show k ≠ g from fun e => hne (by rw [e]))]; exact h.block k hk hne⟩
/-- The row of n pairs at g. -/
def RowR (B g cap n : Nat) (w : World) (xs : List R) : Prop := w.ownsRow B 26 2 (.slice (some ⟨g, 0, none⟩) n cap) n (cellsR xs)
theorem RowR.pair {B g cap n : Nat} {w : World} {xs : List R} (h : RowR B g cap n w xs) (j : Nat) (x y : Value) :
    ((w.setCell ⟨g, j, none⟩ x).setCell ⟨g, j + 1, none⟩ y).ownsRow B 26 2 (.slice (some ⟨g, 0, none⟩) n cap) n (((cellsR xs).set j x).set (j + 1) y) :=
  ((World.ownsRow.stored h j x).1.stored (j + 1) y).1
theorem RowR.cells {B g cap n : Nat} {w : World} {xs : List R} (h : RowR B g cap n w xs) (j : Nat) (hj : j < n * 2) : (∃ v, w.cell? ⟨g, j, none⟩ = some v) ∧ w.frozen? ⟨g, j, none⟩ = false := by
  have hl := h.1
  exact ⟨⟨(cellsR xs)[j], by rw [World.ownsRow.cellAt h j hj, List.getElem?_eq_getElem (by omega)]⟩, World.ownsRow.frozenAt h j⟩
end Go.Proofs.YtlaohlcghdbjhaaDoor
