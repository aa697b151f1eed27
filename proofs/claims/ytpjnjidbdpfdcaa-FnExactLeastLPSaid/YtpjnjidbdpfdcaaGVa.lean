/- The parts Vec, VeB, VeS, VeA, RatsIn. -/
import Derived.Test.YtpjnjidbdpfdcaaGB
import Derived.Test.YtpjnjidbdpfdcaaGM
import Derived.Test.YtpjnjidbdpfdcaaGRa
import Derived.Laws.OwnMore
import Derived.Test.YtpjnjidbdpfdcaaGrI
import Derived.Deep.SlicePairs
import Derived.ChangeArms
import Derived.OpenShut
set_option maxRecDepth 100000
namespace Go.Proofs.Ytpjnjidbdpfdcaa
open Go.RowKit
open Ve (R)

theorem info_rat : (Try.prog.info? 46).map (fun i => (i.zero, i.size, i.bytes)) = some (some (.agg #[.int .i64 0, .int .i64 0]), 2, 16) := by kernel_rfl
def cellsR : List R → List Value
 | [] => []
 | x :: xs => .int .i64 x.1 :: .int .i64 x.2 :: cellsR xs
theorem cellsR_len : ∀ xs : List R, (cellsR xs).length = xs.length * 2
 | [] => rfl
 | _ :: xs => by simp only [cellsR, List.length_cons, cellsR_len xs]; omega
theorem cellsR_snoc : ∀ (xs : List R) (x : R), cellsR (xs ++ [x]) = cellsR xs ++ [.int .i64 x.1, .int .i64 x.2]
 | [], x => rfl
 | y :: xs, x => by simp only [cellsR, List.cons_append, cellsR_snoc xs x]
theorem cellsR_at : ∀ (xs : List R) (k : Nat) (x : R), xs[k]? = some x → (cellsR xs)[k * 2]? = some (.int .i64 x.1) ∧ (cellsR xs)[k * 2 + 1]? = some (.int .i64 x.2)
 | [], k, x, h => by simp at h
 | y :: xs, 0, x, h => by
  obtain rfl : y = x := by simpa using h
  exact ⟨rfl, rfl⟩
 | y :: xs, k + 1, x, h => by
  have := cellsR_at xs k x (by simpa using h)
  rw [show (k + 1) * 2 = k * 2 + 1 + 1 by omega]
  simp only [cellsR, List.getElem?_cons_succ]
  exact this
def OwnRats (B : Nat) (w : World) (v : Value) (xs : List R) : Prop := w.ownsRow B 46 2 v xs.length (cellsR xs)
def RatsIn (B : Nat) (w : World) (a : Option Addr) (xs : List R) : Prop := ∀ j x, xs[j]? = some x → ∃ b o : Nat, a = some ⟨b, o, none⟩ ∧ b < B ∧ w.cell? ⟨b, o + j * 2, none⟩ = some (.int .i64 x.1) ∧ w.cell? ⟨b, o + j * 2 + 1, none⟩ = some (.int .i64 x.2)
theorem RatsIn.nil (B : Nat) (w : World) (a : Option Addr) : RatsIn B w a [] := fun j x h => by simp at h
theorem RatsIn.at {B : Nat} {w : World} {a : Option Addr} {xs : List R} (h : RatsIn B w a xs) (k : Nat) (hk : k < xs.length) :
  ∃ b o : Nat, a = some ⟨b, o, none⟩ ∧ b < B ∧ w.cell? ⟨b, o + k * 2, none⟩ = some (.int .i64 (Ve.at_ xs k).1) ∧ w.cell? ⟨b, o + k * 2 + 1, none⟩ = some (.int .i64 (Ve.at_ xs k).2) :=
 h k _ (Ve.at_get hk)
theorem RatsIn.drewN {B : Nat} {w : World} {a : Option Addr} {xs : List R} (h : RatsIn B w a xs) (d : Nat) : RatsIn B (w.drewN d) a xs := h
theorem RatsIn.drew {B : Nat} {w : World} {a : Option Addr} {xs : List R} (h : RatsIn B w a xs) : RatsIn B w.drew a xs := h
theorem RatsIn.below {B : Nat} {w w' : World} {a : Option Addr} {xs : List R} (h : RatsIn B w a xs) (hb : Below B w w') : RatsIn B w' a xs := fun j x hx => by
 obtain ⟨b, o, h1, h2, h3, h4⟩ := h j x hx
 exact ⟨b, o, h1, h2, by rw [hb.cell (p := ⟨b, o + j * 2, none⟩) h2]; exact h3, by rw [hb.cell (p := ⟨b, o + j * 2 + 1, none⟩) h2]; exact h4⟩
theorem RatsIn.mono {B B' : Nat} {w : World} {a : Option Addr} {xs : List R} (h : RatsIn B w a xs) (hB : B ≤ B') : RatsIn B' w a xs := fun j x hx => by
 obtain ⟨b, o, h1, h2, h3⟩ := h j x hx
 exact ⟨b, o, h1, by omega, h3⟩
theorem RatsIn.same {B : Nat} {w w' : World} {a : Option Addr} {xs : List R} (h : RatsIn B w a xs) (ha : ∀ p, a = some p → p.block < B → w'.heap[p.block]? = w.heap[p.block]?) : RatsIn B w' a xs := fun j x hx => by
 obtain ⟨b, o, h1, h2, h3, h4⟩ := h j x hx
 have e := ha ⟨b, o, none⟩ h1 h2
 exact ⟨b, o, h1, h2, by rw [World.cell?_of_block (w := w) (a := ⟨b, o + j * 2, none⟩) e]; exact h3, by rw [World.cell?_of_block (w := w) (a := ⟨b, o + j * 2 + 1, none⟩) e]; exact h4⟩
theorem own_rats {B : Nat} {w : World} {v : Value} {xs : List R} (h : OwnRats B w v xs) :
  ∃ a cap, v = .slice a xs.length cap ∧ RatsIn w.heap.size w a xs ∧ (∀ p, a = some p → B ≤ p.block ∧ p.block < w.heap.size) ∧ (xs ≠ [] → ∃ g, a = some ⟨g, 0, none⟩) := by
 have h' := h
 obtain ⟨h1, ⟨hv, hn⟩ | ⟨g, cap, cur, rfl, hg, hh, hr⟩⟩ := h'
 ·
  have hx : xs = [] := List.eq_nil_of_length_eq_zero hn
  subst hx
  exact ⟨none, 0, by rw [hv]; rfl, RatsIn.nil _ _ _, (fun p hp => by cases hp), fun h => absurd rfl h⟩
 ·
  have hlt : g < w.heap.size := lt_of_at hh
  refine ⟨some ⟨g, 0, none⟩, cap, rfl, fun j x hx => ⟨g, 0, rfl, hlt, ?_⟩, fun p hp => ?_, fun _ => ⟨g, rfl⟩⟩
  ·
   have hj : j < xs.length := (List.getElem?_eq_some_iff.1 hx).1
   obtain ⟨e1, e2⟩ := cellsR_at xs j x hx
   rw [Nat.zero_add, World.ownsRow.cellAt h (j * 2) (by omega), World.ownsRow.cellAt h (j * 2 + 1) (by omega)]
   exact ⟨e1, e2⟩
  ·
   obtain rfl := Option.some.inj hp
   exact ⟨hg, hlt⟩
theorem OwnRats.nil (B : Nat) (w : World) : OwnRats B w (.slice none 0 0) [] := World.ownsRow_nil _ _ _ _
theorem OwnRats.more {B : Nat} {w' : World} {v' : Value} {xs : List R} {x : R} (h : w'.ownsRow B 46 2 v' (xs.length + 1) (cellsR xs ++ [.int .i64 x.1, .int .i64 x.2])) : OwnRats B w' v' (xs ++ [x]) := by
 unfold OwnRats
 rw [cellsR_snoc, List.length_append]
 exact h
theorem OwnRats.below {B : Nat} {w w' : World} {v : Value} {xs : List R} (h : OwnRats B w v xs) (hb : Below w.heap.size w w') : OwnRats B w' v xs :=
 World.ownsRow.kept h (row := none) ⟨hb.os, hb.tape, hb.output, hb.size, fun k hk _ => hb.block k hk⟩ (by cases v.ownBlock <;> simp)
theorem OwnRats.drewN {B : Nat} {w : World} {v : Value} {xs : List R} (h : OwnRats B w v xs) (d : Nat) : OwnRats B (w.drewN d) v xs := h
theorem OwnRats.alloc {B : Nat} {w : World} {v : Value} {xs : List R} (h : OwnRats B w v xs) (o : Obj) : OwnRats B (w.alloc o) v xs := World.ownsRow.alloc h o
theorem OwnRats.lower {B B' : Nat} {w : World} {v : Value} {xs : List R} (h : OwnRats B' w v xs) (hB : B ≤ B') : OwnRats B w v xs := by
 obtain ⟨h1, h2 | ⟨g, cap, cur, e, hg, rest⟩⟩ := h
 ·
  exact ⟨h1, .inl h2⟩
 ·
  exact ⟨h1, .inr ⟨g, cap, cur, e, by omega, rest⟩⟩
def MakesRats (xs : List R) (w : World) (e : Ending) (w' : World) : Prop := ∃ v, e = .returned v ∧ OwnRats w.heap.size w' v xs ∧ Below w.heap.size w w'
def MakesRatsK (xs : List R) (k : Bool) (w : World) (e : Ending) (w' : World) : Prop := ∃ v, e = .returned (.tuple #[v, .bool k]) ∧ OwnRats w.heap.size w' v xs ∧ Below w.heap.size w w'
def OneRat (x : R) (k : Bool) (w : World) (e : Ending) (w' : World) : Prop := e = .returned (.tuple #[.agg #[.int .i64 x.1, .int .i64 x.2], .bool k]) ∧ Below w.heap.size w w'
end Go.Proofs.Ytpjnjidbdpfdcaa

namespace Go.Proofs.Ytpjnjidbdpfdcaa
open Go.RowKit
open Ve (R)

theorem sz_ok (a : Option Addr) (len cap : Nat) (left : Int) (hl : (len : Int) ≤ left) (hl1 : left ≤ 1048576) (w : World) :
  Calls Try.prog 39 #[.slice a len cap, .int .i64 left] w fun e w' => e = .returned (.int .i64 (left - len)) ∧ w = w' := by
 have hb : decide (left - (len : Int) < 0) = false := by rw [decide_eq_false_iff_not]; omega
 go_enter Try.func39, Try.ntmps39
 go_wp2_with fail
 go_ret
 exact ⟨rfl, rfl⟩
theorem sz_no (a : Option Addr) (len cap : Nat) (left : Int) (hl : left < (len : Int)) (hm : len ≤ 9223372036854775807) (hl0 : 0 ≤ left) (hl1 : left ≤ 1048576) (w : World) :
  Calls Try.prog 39 #[.slice a len cap, .int .i64 left] w fun e w' => e = .returned (.int .i64 (-1)) ∧ w = w' := by
 have hb : decide (left - (len : Int) < 0) = true := by rw [decide_eq_true_iff]; omega
 go_enter Try.func39, Try.ntmps39
 go_wp2_with fail
 go_ret
 exact ⟨rfl, rfl⟩

def CopiedR (B g n k : Nat) (wr : World) (xs : List R) : Prop :=
 ∃ L : List Value, wr.ownsRow B 46 2 (.slice (some ⟨g, 0, none⟩) n n) n L ∧ ∀ j x, j < k → xs[j]? = some x → L[j * 2]? = some (.int .i64 x.1) ∧ L[j * 2 + 1]? = some (.int .i64 x.2)
theorem copiedR_next {B g n k : Nat} {wr : World} {xs : List R} (h : CopiedR B g n k wr xs) (hk : k < n) (x : R) (hx : xs[k]? = some x) :
  CopiedR B g n (k + 1) ((wr.setCell ⟨g, k * 2, none⟩ (.int .i64 x.1)).setCell ⟨g, k * 2 + 1, none⟩ (.int .i64 x.2)) xs := by
 obtain ⟨L, h1, h2⟩ := h
 have hl : L.length = n * 2 := h1.1
 refine ⟨(L.set (k * 2) (.int .i64 x.1)).set (k * 2 + 1) (.int .i64 x.2), ((h1.stored (k * 2) (.int .i64 x.1)).1.stored (k * 2 + 1) (.int .i64 x.2)).1, fun j y hj hy => ?_⟩
 by_cases e : j = k
 ·
  subst e
  rw [hx] at hy
  obtain rfl := Option.some.inj hy
  constructor
  ·
   rw [List.getElem?_set_ne (by omega), List.getElem?_set_self (by omega)]
  ·
   rw [List.getElem?_set_self (by rw [List.length_set]; omega)]
 ·
  rw [List.getElem?_set_ne (by omega), List.getElem?_set_ne (by omega), List.getElem?_set_ne (by omega), List.getElem?_set_ne (by omega)]
  exact h2 j y (by omega) hy
theorem cells_eq {L : List Value} {xs : List R} (hl : L.length = xs.length * 2) (h : ∀ j x, xs[j]? = some x → L[j * 2]? = some (.int .i64 x.1) ∧ L[j * 2 + 1]? = some (.int .i64 x.2)) : L = cellsR xs := by
 apply List.ext_getElem? fun i => ?_
 rcases Nat.lt_or_ge i L.length with h1 | h1
 ·
  have hj : i / 2 < xs.length := by omega
  obtain ⟨e1, e2⟩ := h (i / 2) _ (List.getElem?_eq_getElem hj)
  obtain ⟨f1, f2⟩ := cellsR_at xs (i / 2) _ (List.getElem?_eq_getElem hj)
  rcases (show i = i / 2 * 2 ∨ i = i / 2 * 2 + 1 by omega) with hi | hi
  ·
   rw [hi, e1, f1]
  ·
   rw [hi, e2, f2]
 ·
  rw [List.getElem?_eq_none h1, List.getElem?_eq_none (by rw [cellsR_len]; omega)]
theorem copied_cells {B g n k : Nat} {wr : World} {xs : List R} (h : CopiedR B g n k wr xs) (j : Nat) (hj : j < n * 2) :
  (∃ v, wr.cell? ⟨g, j, none⟩ = some v) ∧ wr.frozen? ⟨g, j, none⟩ = false := by
 obtain ⟨L, h1, _⟩ := h
 have hl2 := h1.1
 exact ⟨⟨L[j], by rw [h1.cellAt j hj, List.getElem?_eq_getElem (by omega)]⟩, h1.frozenAt j⟩
set_option maxHeartbeats 1000000 in
theorem laws_toRatS (B : Nat) (a : Option Addr) (cap : Nat) (xs : List R) (hl : xs.length ≤ 1048576) (w : World) (hBw : B ≤ w.heap.size) (hz : RatsIn B w a xs) :
  Calls Try.prog 42 #[.slice a xs.length cap] w (MakesRats xs w) := by
 have Hz := zH (hz.mono hBw)
 obtain ⟨i0, hi, hz0, hz1, hz2⟩ := info_parts info_rat
 have HI := zH hi
 have HZ0 := zH hz0
 have HZ1 := zH hz1
 have hby : i0.bytes * xs.length ≤ 281474976710656 := by rw [hz2]; omega
 have Hby := zH hby
 clear hz hi hz0 hz1 hz2 hby
 go_enter Try.func42, Try.ntmps42
 go_wp2_with (refine wpList_make_full _ rfl _ _ 27 rfl w.heap.size 46 i0 (.agg #[.int .i64 0, .int .i64 0]) 2 Try.underlying27 HI.out HZ0.out HZ1.out _ _ _ _ xs.length rfl rfl rfl rfl Hby.out ?c1 (Nat.le_refl _) ?_)
 case c1 => unfold maxLen; omega
 intro w1 hown hgrow
 have Hown : Hid (CopiedR w.heap.size w.heap.size xs.length 0 w1 xs) := ⟨_, hown, fun j x hj _ => absurd hj (by omega)⟩
 have Hb1 := zH ((Below.refl w.heap.size w).grown hgrow (Nat.le_refl _) (fun k hk => by cases hk))
 have hlt1 : w.heap.size < w1.heap.size := (hown.lt _ rfl).2
 clear hown hgrow
 go_wp2_with fail
 go_loopw [4] (fun i wr => ∃ k : Nat, k ≤ xs.length ∧ i = .int .i64 k ∧ w.heap.size < wr.heap.size ∧ Hid (CopiedR w.heap.size w.heap.size xs.length k wr xs) ∧ Hid (Below w.heap.size w wr)) (fun i _ => xs.length - (intOf i).toNat)
 case atStart => exact ⟨0, Nat.zero_le _, rfl, hlt1, Hown, Hb1⟩
 case round =>
  obtain ⟨k, hk, rfl, hgl, hC, hB⟩ := hrel
  by_cases hlt : k < xs.length
  ·
   obtain ⟨b, o, rfl, hbB, p0, p1⟩ := (Hz.out.below hB.out).at k hlt
   have hx : xs[k]? = some (Ve.at_ xs k) := Ve.at_get hlt
   generalize Ve.at_ xs k = x at *
   have Hx := zH hx
   clear hx
   go_wp2_with fail
   refine (laws_toRat _ _ _).mono ?_
   rintro e w2 ⟨rfl, hb2⟩
   have hC2 : CopiedR w.heap.size w.heap.size xs.length k w2 xs := by
    obtain ⟨L, h1, h2⟩ := hC.out
    exact ⟨L, World.ownsRow.kept h1 (row := none) ⟨hb2.os, hb2.tape, hb2.output, hb2.size, fun k hk _ => hb2.block k hk⟩ (by simp [Value.ownBlock]), h2⟩
   obtain ⟨⟨v0, g0⟩, f0⟩ := copied_cells hC2 (k * 2) (by omega)
   obtain ⟨⟨v1, g1⟩, f1⟩ := copied_cells hC2 (k * 2 + 1) (by omega)
   have HC2 := zH (copiedR_next hC2 hlt _ Hx.out)
   have HB2 := zH (((hB.out.trans (hb2.mono hB.out.size)).setCell (p := ⟨w.heap.size, k * 2, none⟩) (Nat.le_refl _) (.int .i64 x.1)).setCell (p := ⟨w.heap.size, k * 2 + 1, none⟩) (Nat.le_refl _) (.int .i64 x.2))
   have hgl2 : w.heap.size < w2.heap.size := Nat.lt_of_lt_of_le hgl hb2.size
   clear hb2 hC2 Hx hgl
   go_wp2_with fail
   go_roundw
   case rel => exact ⟨k + 1, by omega, by go_num, by simp; omega, HC2, HB2⟩
   case measure => simp [intOf]; omega
  ·
   have he : k = xs.length := by omega
   have Hc : Hid (OwnRats w.heap.size wr (.slice (some ⟨w.heap.size, 0, none⟩) xs.length xs.length) xs) := by
    obtain ⟨L, h1, h2⟩ := hC.out
    have e := cells_eq h1.1 fun j x hx => h2 j x (by have := (List.getElem?_eq_some_iff.1 hx).1; omega) hx
    subst e
    exact h1
   clear he
   go_wp2_with fail
   go_ret
   exact ⟨_, rfl, Hc.out, hB.out⟩
def Quad (b1 k1 b2 k2 : Nat) (x y : R) (B : World) : Prop :=
 B.cell? ⟨b1, k1, none⟩ = some (.int .i64 x.1) ∧ B.cell? ⟨b1, k1 + 1, none⟩ = some (.int .i64 x.2) ∧ B.cell? ⟨b2, k2, none⟩ = some (.int .i64 y.1) ∧ B.cell? ⟨b2, k2 + 1, none⟩ = some (.int .i64 y.2) ∧ b1 < B.heap.size ∧ b2 < B.heap.size
theorem Quad.five {b1 k1 b2 k2 : Nat} {x y : R} {B wx : World} (H : Hid (Quad b1 k1 b2 k2 x y B)) (h : Since B wx) :
  wx.cell? ⟨b1, k1, none⟩ = some (.int .i64 x.1) ∧ wx.cell? ⟨b1, k1 + 1, none⟩ = some (.int .i64 x.2) ∧ wx.cell? ⟨b2, k2, none⟩ = some (.int .i64 y.1) ∧ wx.cell? ⟨b2, k2 + 1, none⟩ = some (.int .i64 y.2) ∧ Since B wx :=
 ⟨h.cell (p := ⟨b1, k1, none⟩) H.out.2.2.2.2.1 H.out.1, h.cell (p := ⟨b1, k1 + 1, none⟩) H.out.2.2.2.2.1 H.out.2.1, h.cell (p := ⟨b2, k2, none⟩) H.out.2.2.2.2.2 H.out.2.2.1, h.cell (p := ⟨b2, k2 + 1, none⟩) H.out.2.2.2.2.2 H.out.2.2.2.1, h⟩
set_option maxHeartbeats 1000000 in
theorem laws_eqRatS (B : Nat) (a1 a2 : Option Addr) (c1 c2 : Nat) (xs : List R) (hn : xs.length ≤ 2097152) (w : World) (hBw : B ≤ w.heap.size) (h1 : RatsIn B w a1 xs) (h2 : RatsIn B w a2 xs) :
  Calls Try.prog 32 #[.slice a1 xs.length c1, .slice a2 xs.length c2] w fun e w' => e = .returned (.bool true) ∧ Below w.heap.size w w' := by
 have H1 := zH (h1.mono hBw)
 have H2 := zH (h2.mono hBw)
 clear h1 h2
 go_enter Try.func32, Try.ntmps32
 go_wp2_with fail
 go_loopw [5] (fun i wr => ∃ k : Nat, k ≤ xs.length ∧ i = .int .i64 k ∧ Hid (Below w.heap.size w wr)) (fun i _ => xs.length - (intOf i).toNat)
 case atStart => exact ⟨0, Nat.zero_le _, rfl, Below.refl _ _⟩
 case round =>
  obtain ⟨k, hk, rfl, hB⟩ := hrel
  by_cases hlt : k < xs.length
  ·
   obtain ⟨b1, o1, rfl, l1, p0, p1⟩ := (H1.out.below hB.out).at k hlt
   obtain ⟨b2, o2, rfl, l2, q0, q1⟩ := (H2.out.below hB.out).at k hlt
   generalize Ve.at_ xs k = x at *
   have hsz := hB.out.size
   have HQ : Hid (Quad b1 (o1 + k * 2) b2 (o2 + k * 2) x x wr) := ⟨p0, p1, q0, q1, by omega, by omega⟩
   have hin := Since.refl wr
   go_wp2_with fail
   go_region_held3 (fun w' => w'.cell? ⟨b1, o1 + k * 2, none⟩ = some (.int .i64 x.1) ∧ w'.cell? ⟨b1, o1 + k * 2 + 1, none⟩ = some (.int .i64 x.2) ∧ w'.cell? ⟨b2, o2 + k * 2, none⟩ = some (.int .i64 x.1) ∧ w'.cell? ⟨b2, o2 + k * 2 + 1, none⟩ = some (.int .i64 x.2) ∧ Since wr w') (first | exact Quad.five HQ (by assumption) | exact Quad.five HQ (Since.drew (by assumption)))
    (first | (go_at_call 44; refine (calls_since (laws_eqRat _ _ _) (B := wr) (by first | assumption | exact Since.drew (by assumption))).mono ?_; rintro e w' ⟨⟨rfl, _⟩, hin2⟩))
   have Hb2 := zH (hB.out.trans ((Since.low (B := wr) (wx := w') (by assumption)).mono hsz))
   clear hin hin2 HQ
   go_wp2_with fail
   go_roundw
   case rel => exact ⟨k + 1, by omega, by go_num, Hb2⟩
   case measure => simp [intOf]; omega
  ·
   go_wp2_with fail
   go_ret
   exact ⟨rfl, hB.out⟩
def marksR (k n : Nat) : List R := (List.range n).map fun j => (((k + 2 * j : Nat) : Int), ((k + 2 * j + 1 : Nat) : Int))
theorem marksR_len (k n : Nat) : (marksR k n).length = n := by simp [marksR]
theorem marksR_at (k n j : Nat) (h : j < n) : (marksR k n)[j]? = some (((k + 2 * j : Nat) : Int), ((k + 2 * j + 1 : Nat) : Int)) := by simp [marksR, h]
theorem marksR_succ (k j : Nat) : marksR k (j + 1) = marksR k j ++ [(((k + 2 * j : Nat) : Int), ((k + 2 * j + 1 : Nat) : Int))] := by unfold marksR; rw [List.range_succ, List.map_append]; rfl
theorem cellsR_app : ∀ (xs ys : List R), cellsR (xs ++ ys) = cellsR xs ++ cellsR ys
 | [], ys => rfl
 | x :: xs, ys => by simp only [cellsR, List.cons_append, cellsR_app xs ys]
theorem marksR_set (k j : Nat) (xs : List R) (hj : j < xs.length) :
  ((cellsR (marksR k j ++ xs.drop j)).set (j * 2) (.int .i64 ((k + 2 * j : Nat) : Int))).set (j * 2 + 1) (.int .i64 ((k + 2 * j + 1 : Nat) : Int)) = cellsR (marksR k (j + 1) ++ xs.drop (j + 1)) := by
 have hl : (cellsR (marksR k j)).length = j * 2 := by rw [cellsR_len, marksR_len]
 rw [cellsR_app, List.drop_eq_getElem_cons hj, marksR_succ, List.append_assoc, cellsR_app]
 simp only [cellsR, List.cons_append, List.nil_append]
 rw [List.set_append_right _ _ (by omega), hl, Nat.sub_self, List.set_cons_zero, List.set_append_right _ _ (by omega), hl, show j * 2 + 1 - j * 2 = 1 by omega]
 rfl
theorem marksR_all (k : Nat) (xs : List R) : marksR k xs.length ++ xs.drop xs.length = marksR k xs.length := by simp
def MarksRPost (B k : Nat) (v : Value) (n : Nat) (w : World) (e : Ending) (w' : World) : Prop :=
 e = .returned (.int .i64 ((k : Int) + 2 * n)) ∧ OwnRats B w' v (marksR k n) ∧ w.grownBy w' v.ownBlock
theorem grownR_set {w a : World} {g : Nat} (h : w.grownBy a (some g)) (j : Nat) (u : Value) : w.grownBy (a.setCell ⟨g, j, none⟩ u) (some g) :=
 ⟨h.os, h.tape, h.output, by have := h.size; simp; omega, fun k hk hne => by
  rw [Below.heap_setCell _ _ _ _ (show k ≠ g from fun e => hne (by rw [e]))]; exact h.block k hk hne⟩
def RowR (B g cap n : Nat) (w : World) (xs : List R) : Prop := w.ownsRow B 46 2 (.slice (some ⟨g, 0, none⟩) n cap) n (cellsR xs)
theorem RowR.pair {B g cap n : Nat} {w : World} {xs : List R} (h : RowR B g cap n w xs) (j : Nat) (x y : Value) :
  ((w.setCell ⟨g, j, none⟩ x).setCell ⟨g, j + 1, none⟩ y).ownsRow B 46 2 (.slice (some ⟨g, 0, none⟩) n cap) n (((cellsR xs).set j x).set (j + 1) y) :=
 ((World.ownsRow.stored h j x).1.stored (j + 1) y).1
theorem RowR.cells {B g cap n : Nat} {w : World} {xs : List R} (h : RowR B g cap n w xs) (j : Nat) (hj : j < n * 2) : (∃ v, w.cell? ⟨g, j, none⟩ = some v) ∧ w.frozen? ⟨g, j, none⟩ = false := by
 have hl := h.1
 exact ⟨⟨(cellsR xs)[j], by rw [World.ownsRow.cellAt h j hj, List.getElem?_eq_getElem (by omega)]⟩, World.ownsRow.frozenAt h j⟩
set_option maxHeartbeats 1000000 in
theorem laws_markRatS (B : Nat) (v : Value) (k : Nat) (xs : List R) (hn : xs.length ≤ 2097152) (hk2 : k ≤ 8388608) (w : World) (h1 : OwnRats B w v xs) :
  Calls Try.prog 35 #[v, .int .i64 k] w (MarksRPost B k v xs.length w) := by
 by_cases h0 : xs = []
 ·
  subst h0
  obtain ⟨a, cap, rfl, _, _, _⟩ := own_rats h1
  have H1 := zH h1
  clear h1
  go_enter Try.func35, Try.ntmps35
  go_wp2_with fail
  go_loop [1, 5] (fun q i => q = .int .i64 k ∧ i = .int .i64 0) (fun _ i => 5 - (intOf i).toNat)
  case atStart => exact ⟨rfl, rfl⟩
  case round =>
   obtain ⟨rfl, rfl⟩ := hrel
   go_wp2_with fail
   go_ret
   exact ⟨ret_int (by simp), H1.out, ⟨rfl, rfl, rfl, Nat.le_refl _, fun _ _ _ => rfl⟩⟩
 ·
  obtain ⟨a, cap, rfl, _, hab, hag⟩ := own_rats h1
  obtain ⟨g, rfl⟩ := hag h0
  have hgl := (hab _ rfl).2
  obtain ⟨n, hnx⟩ : ∃ n, n = xs.length := ⟨_, rfl⟩
  have H1 : Hid (RowR B g cap n w xs) := by show w.ownsRow _ _ _ _ _ _; rw [hnx]; exact h1
  rw [← hnx] at hn ⊢
  have HN := zH hnx
  clear h1 hab hag h0 hnx
  go_enter Try.func35, Try.ntmps35
  go_wp2_with fail
  go_loopw [1, 5] (fun q i wr => ∃ (j : Nat) (kk : Int), j ≤ n ∧ 0 ≤ kk ∧ kk ≤ 16777216 ∧ q = .int .i64 kk ∧ i = .int .i64 j ∧ Hid (kk = (k : Int) + 2 * j) ∧ Hid (RowR B g cap n wr (marksR k j ++ xs.drop j)) ∧ Hid (w.grownBy wr (some g))) (fun _ i _ => n - (intOf i).toNat)
  case atStart => exact ⟨0, k, Nat.zero_le _, by omega, by omega, rfl, rfl, (by show (k : Int) = k + 2 * (0 : Nat); omega), H1.out, ⟨rfl, rfl, rfl, Nat.le_refl _, fun _ _ _ => rfl⟩⟩
  case round =>
   obtain ⟨j, kk, hj, hq0, hq1, rfl, rfl, hkk, hR, hG⟩ := hrel
   by_cases hlt : j < n
   ·
    have hbd : kk + 2 ≤ 16777216 := by have := hkk.out; omega
    obtain ⟨⟨v0, g0⟩, f0⟩ := hR.out.cells (j * 2) (by omega)
    obtain ⟨⟨v1, g1⟩, f1⟩ := hR.out.cells (j * 2 + 1) (by omega)
    have HR3 : Hid (RowR B g cap n ((wr.setCell ⟨g, j * 2, none⟩ (.int .i64 kk)).setCell ⟨g, j * 2 + 1, none⟩ (.int .i64 (kk + 1))) (marksR k (j + 1) ++ xs.drop (j + 1))) := by
     have h3 := hR.out.pair (j * 2) (.int .i64 kk) (.int .i64 (kk + 1))
     rw [show kk = ((k + 2 * j : Nat) : Int) by have := hkk.out; omega] at h3 ⊢
     rw [show ((k + 2 * j : Nat) : Int) + 1 = ((k + 2 * j + 1 : Nat) : Int) by omega] at h3 ⊢
     rw [marksR_set k j xs (by rw [← HN.out]; exact hlt)] at h3
     exact h3
    have HG3 := zH (grownR_set (grownR_set hG.out (j * 2) (.int .i64 kk)) (j * 2 + 1) (.int .i64 (kk + 1)))
    have Hk2 : Hid (kk + 1 + 1 = (k : Int) + 2 * ((j + 1 : Nat) : Int)) := by
     have := hkk.out
     show _ = _
     omega
    go_wp2_with fail
    go_roundw
    case rel => exact ⟨j + 1, kk + 1 + 1, by omega, by omega, by omega, rfl, by go_num, Hk2, HR3, HG3⟩
    case measure => simp [intOf]; omega
   ·
    have he : j = xs.length := by have := HN.out; omega
    have Hf : Hid (OwnRats B wr (.slice (some ⟨g, 0, none⟩) n cap) (marksR k n)) := by
     have h3 := hR.out
     rw [he, marksR_all, ← HN.out] at h3
     show wr.ownsRow _ _ _ _ _ _
     rw [marksR_len]
     exact h3
    have Hk2 : Hid (kk = (k : Int) + 2 * n) := by rw [HN.out, ← he]; exact hkk
    clear he
    go_wp2_with fail
    go_ret
    exact ⟨ret_int Hk2.out, Hf, hG⟩
set_option maxHeartbeats 1000000 in
theorem laws_heldRatS (B : Nat) (a : Option Addr) (c k n : Nat) (hn : n ≤ 2097152) (hk2 : k ≤ 8388608) (w : World) (h1 : RatsIn B w a (marksR k n)) :
  Calls Try.prog 38 #[.slice a n c, .int .i64 k] w fun e w' => e = .returned (.int .i64 ((k : Int) + 2 * n)) ∧ w = w' := by
 have H1 := zH h1
 clear h1
 go_enter Try.func38, Try.ntmps38
 go_wp2_with fail
 go_loop [1, 5] (fun q i => ∃ (j : Nat) (kk : Int), j ≤ n ∧ 0 ≤ kk ∧ kk ≤ 16777216 ∧ q = .int .i64 kk ∧ i = .int .i64 j ∧ Hid (kk = (k : Int) + 2 * j)) (fun _ i => n - (intOf i).toNat)
 case atStart => exact ⟨0, k, by omega, by omega, by omega, rfl, rfl, (by show (k : Int) = k + 2 * (0 : Nat); omega)⟩
 case round =>
  obtain ⟨j, kk, hj, hq0, hq1, rfl, rfl, hkk⟩ := hrel
  by_cases hlt : j < n
  ·
   have hbd : kk + 2 ≤ 16777216 := by have := hkk.out; omega
   obtain ⟨b, o, rfl, _, hx, hy⟩ := H1.out j _ (marksR_at k n j hlt)
   simp only at hx hy
   rw [show ((k + 2 * j : Nat) : Int) = kk by have := hkk.out; omega] at hx
   rw [show ((k + 2 * j + 1 : Nat) : Int) = kk + 1 by have := hkk.out; omega] at hy
   have Hk2 : Hid (kk + 1 + 1 = (k : Int) + 2 * ((j + 1 : Nat) : Int)) := by
    have := hkk.out
    show _ = _
    omega
   go_wp2_with fail
   go_round
   case rel => exact ⟨j + 1, kk + 1 + 1, by omega, by omega, by omega, rfl, by go_num, Hk2⟩
   case measure => simp [intOf]; omega
  ·
   have he : Hid (kk = (k : Int) + 2 * n) := by
    have := hkk.out
    show _ = _
    rw [this]; omega
   go_wp2_with fail
   go_ret
   exact ⟨ret_int he.out, rfl⟩
end Go.Proofs.Ytpjnjidbdpfdcaa

namespace Go.Proofs.Ytpjnjidbdpfdcaa
open Go.RowKit
open Ve (R)
def SeqIn (w : World) (lo hi : Nat) (a : Option Addr) (xs : List R) : Prop := (∀ p, a = some p → lo ≤ p.block) ∧ RatsIn hi w a xs
def AllS (w : World) (L : List (Option Addr × List R × Nat × Nat)) : Prop := ∀ p, p ∈ L → SeqIn w p.2.2.1 p.2.2.2 p.1 p.2.1 ∧ p.2.2.2 ≤ w.heap.size
theorem AllS.start (w : World) : AllS w [] := fun p hp => by cases hp
theorem AllS.below {w w' : World} {L : List (Option Addr × List R × Nat × Nat)} (h : AllS w L) (hb : Below w.heap.size w w') : AllS w' L := fun p hp =>
 ⟨⟨(h p hp).1.1, (h p hp).1.2.below (hb.mono (h p hp).2)⟩, Nat.le_trans (h p hp).2 hb.size⟩
theorem AllS.drew {w : World} {L : List (Option Addr × List R × Nat × Nat)} (h : AllS w L) : AllS w.drew L := h
theorem AllS.add {w : World} {L : List (Option Addr × List R × Nat × Nat)} (h : AllS w L) {lo hi : Nat} {a : Option Addr} {xs : List R} (h2 : RatsIn hi w a xs) (h3 : ∀ p, a = some p → lo ≤ p.block) (h4 : hi ≤ w.heap.size) : AllS w ((a, xs, lo, hi) :: L) := fun p hp => by
 rcases List.mem_cons.1 hp with rfl | hp
 ·
  exact ⟨⟨h3, h2⟩, h4⟩
 ·
  exact h p hp
theorem AllS.get {w : World} {L : List (Option Addr × List R × Nat × Nat)} (h : AllS w L) (a : Option Addr) (xs : List R) (lo hi : Nat) (hm : (a, xs, lo, hi) ∈ L) : RatsIn w.heap.size w a xs := (h _ hm).1.2.mono (h _ hm).2
theorem AllS.sub {w : World} {L L' : List (Option Addr × List R × Nat × Nat)} (h : AllS w L) (hs : ∀ p, p ∈ L' → p ∈ L) : AllS w L' := fun p hp => h p (hs p hp)
theorem AllS.grown {w w' : World} {row : Option Nat} {L : List (Option Addr × List R × Nat × Nat)} (h : AllS w L) (hg : w.grownBy w' row) (hne : ∀ p, p ∈ L → ∀ g, row = some g → g < p.2.2.1 ∨ p.2.2.2 ≤ g) : AllS w' L := fun p hp => by
 obtain ⟨⟨h1, h2⟩, h3⟩ := h p hp
 refine ⟨⟨h1, h2.same fun q hq hlt => hg.block q.block (by omega) (fun e => ?_)⟩, Nat.le_trans h3 hg.size⟩
 have a1 := hne p hp q.block e.symm
 have a2 := h1 q hq
 omega
theorem own_block {lo : Nat} {w : World} {v : Value} {xs : List R} (h : OwnRats lo w v xs) : ∀ g, v.ownBlock = some g → lo ≤ g ∧ g < w.heap.size := World.ownsRow.lt h
theorem OwnRats.grown {lo : Nat} {w w' : World} {v : Value} {xs : List R} {row : Option Nat} (h : OwnRats lo w v xs) (hg : w.grownBy w' row) (hne : ∀ g, v.ownBlock = some g → row ≠ some g) : OwnRats lo w' v xs :=
 World.ownsRow.kept h hg (by
  cases hv : v.ownBlock with
  | none => exact .inl rfl
  | some g => exact .inr (fun e => hne g hv e.symm))
theorem RatsIn.narrow {B B' : Nat} {w : World} {a : Option Addr} {xs : List R} (h : RatsIn B w a xs) (ha : ∀ p, a = some p → p.block < B') : RatsIn B' w a xs := fun j x hx => by
 obtain ⟨b, o, h1, h2, h3⟩ := h j x hx
 exact ⟨b, o, h1, ha ⟨b, o, none⟩ h1, h3⟩
theorem block_of {a : Option Addr} {n c lo hi : Nat} (h : ∀ g, (Value.slice a n c).ownBlock = some g → lo ≤ g ∧ g < hi) : ∀ p, a = some p → lo ≤ p.block ∧ p.block < hi := fun p hp => h p.block (by rw [hp]; rfl)
theorem laws_markFrom (B : Nat) (v : Value) (kk : Int) (k : Nat) (hkk : kk = k) (xs : List R) (hn : xs.length ≤ 2097152) (hk2 : k ≤ 8388608) (w : World) (h1 : OwnRats B w v xs) :
  Calls Try.prog 35 #[v, .int .i64 kk] w fun e w' => e = .returned (.int .i64 (kk + 2 * xs.length)) ∧ OwnRats B w' v (marksR k xs.length) ∧ w.grownBy w' v.ownBlock := by
 subst hkk
 exact laws_markRatS B v k xs hn hk2 w h1
theorem laws_heldFrom (B : Nat) (a : Option Addr) (c : Nat) (kk : Int) (k n : Nat) (hkk : kk = k) (hn : n ≤ 2097152) (hk2 : k ≤ 8388608) (w : World) (h1 : RatsIn B w a (marksR k n)) :
  Calls Try.prog 38 #[.slice a n c, .int .i64 kk] w fun e w' => e = .returned (.int .i64 (kk + 2 * n)) ∧ w = w' := by
 subst hkk
 exact laws_heldRatS B a c k n hn hk2 w h1
theorem marked_reads {lo k n : Nat} {w : World} {a : Option Addr} {c m : Nat} (h : OwnRats lo w (.slice a m c) (marksR k n)) : RatsIn w.heap.size w a (marksR k n) ∧ ∀ p, a = some p → lo ≤ p.block ∧ p.block < w.heap.size := by
 obtain ⟨a', c', he, hr, ha, _⟩ := own_rats h
 obtain ⟨rfl, _, _⟩ : a = a' ∧ m = (marksR k n).length ∧ c = c' := by injection he with h1 h2 h3; exact ⟨h1, h2, h3⟩
 exact ⟨hr, ha⟩
end Go.Proofs.Ytpjnjidbdpfdcaa

namespace Go.Proofs.Ytpjnjidbdpfdcaa
open Go.RowKit
open Ve (R)
def eqV (xs ys : List R) : Bool := decide (xs = ys)
set_option maxHeartbeats 1000000 in
theorem spec_EqualVector (B : Nat) (a1 a2 : Option Addr) (c1 c2 : Nat) (xs ys : List R) (hn : xs.length ≤ 1048576) (hn2 : ys.length ≤ 1048576) (w : World) (h1 : RatsIn B w a1 xs) (h2 : RatsIn B w a2 ys) :
  Calls Try.prog 40 #[.slice a1 xs.length c1, .slice a2 ys.length c2] w fun e w' => e = .returned (.bool (eqV xs ys)) ∧ ∃ d, w' = w.drewN d := by
 obtain ⟨g, hg⟩ : ∃ g, eqV xs ys = g := ⟨_, rfl⟩
 rw [hg]
 have H1 := zH h1
 have H2 := zH h2
 clear h1 h2
 by_cases hl : xs.length = ys.length
 ·
  have Hg := zH hg
  have HL := zH hl
  rw [← hl]
  clear hg hl
  have he := eq_rat; have hne := ne_rat; have hgu := eqg_rat
  go_enter Try.func40, Try.ntmps40
  go_wp2_with fail
  go_loopw [5] (fun i wr => ∃ k : Nat, k ≤ xs.length ∧ i = .int .i64 k ∧ Hid (∀ j, j < k → Ve.at_ xs j = Ve.at_ ys j) ∧ Hid (∃ d, wr = w.drewN d)) (fun i _ => xs.length - (intOf i).toNat)
  case atStart => exact ⟨0, Nat.zero_le _, rfl, fun j hj => absurd hj (by omega), ⟨0, rfl⟩⟩
  case round =>
   obtain ⟨k, hk, rfl, hA, hD⟩ := hrel
   by_cases hlt : k < xs.length
   ·
    have g1 : RatsIn B wr a1 xs := by obtain ⟨d, rfl⟩ := hD.out; exact H1.out
    have g2 : RatsIn B wr a2 ys := by obtain ⟨d, rfl⟩ := hD.out; exact H2.out
    obtain ⟨b1, o1, rfl, _, p0, p1⟩ := g1.at k hlt
    obtain ⟨b2, o2, rfl, _, q0, q1⟩ := g2.at k (HL.out ▸ hlt)
    rcases hv : ((Ve.at_ xs k).1 == (Ve.at_ ys k).1 && (Ve.at_ xs k).2 == (Ve.at_ ys k).2) with _ | _
    ·
     have Hr : Hid (false = g) := by
      show _ = _
      rw [← Hg.out]; symm
      unfold eqV
      rw [decide_eq_false_iff_not]
      rintro rfl
      simp at hv
     generalize Ve.at_ xs k = x at *
     generalize Ve.at_ ys k = y at *
     go_wp2_with fail
     go_quiet (fail)
     go_wp2_with fail
     go_ret
     exact ⟨ret_bool Hr.out, by obtain ⟨d, rfl⟩ := hD.out; exact ⟨d + nq, by simp [Nat.add_comm]⟩⟩
    ·
     have HA2 : Hid (∀ j, j < k + 1 → Ve.at_ xs j = Ve.at_ ys j) := fun j hj => by
      by_cases e : j = k
      ·
       subst e
       rw [Bool.and_eq_true, beq_iff_eq, beq_iff_eq] at hv
       exact Prod.ext hv.1 hv.2
      ·
       exact hA.out j (by omega)
     generalize Ve.at_ xs k = x at *
     generalize Ve.at_ ys k = y at *
     go_wp2_with fail
     go_quiet (fail)
     go_wp2_with fail
     go_roundw
     case rel => exact ⟨k + 1, by omega, by go_num, HA2, by obtain ⟨d, rfl⟩ := hD.out; exact ⟨d + nq, by simp [Nat.add_comm]⟩⟩
     case measure => simp [intOf]; omega
   ·
    have Hr : Hid (true = g) := by
     show _ = _
     rw [← Hg.out]; symm
     unfold eqV
     rw [decide_eq_true_iff]
     exact Ve.eq_of_at HL.out fun j hj => hA.out j (by omega)
    go_wp2_with fail
    go_ret
    exact ⟨ret_bool Hr.out, hD.out⟩
 ·
  have Hr : Hid (false = g) := by
   show _ = _
   rw [← hg]; symm
   unfold eqV
   rw [decide_eq_false_iff_not]
   rintro rfl
   exact hl rfl
  obtain ⟨l1, l2⟩ := len_no hl
  clear hg
  go_enter Try.func40, Try.ntmps40
  go_wp2_with fail
  go_ret
  exact ⟨ret_bool Hr.out, 0, rfl⟩
set_option maxHeartbeats 1000000 in
theorem slices_Equal (B : Nat) (a1 a2 : Option Addr) (c1 c2 : Nat) (xs ys : List R) (hn : xs.length ≤ 1048576) (hn2 : ys.length ≤ 1048576) (w : World) (h1 : RatsIn B w a1 xs) (h2 : RatsIn B w a2 ys) :
  Calls Try.prog 51 #[.slice a1 xs.length c1, .slice a2 ys.length c2] w fun e w' => e = .returned (.bool (eqV xs ys)) ∧ ∃ d, w' = w.drewN d := by
 obtain ⟨g, hg⟩ : ∃ g, eqV xs ys = g := ⟨_, rfl⟩
 rw [hg]
 have H1 := zH h1
 have H2 := zH h2
 clear h1 h2
 by_cases hl : xs.length = ys.length
 ·
  have Hg := zH hg
  have HL := zH hl
  rw [← hl]
  clear hg hl
  have he := eq_rat; have hne := ne_rat; have hgu := eqg_rat
  go_enter Try.func51, Try.ntmps51
  go_wp2_with fail
  go_loopw [13] (fun i wr => ∃ k : Nat, k ≤ xs.length ∧ i = .int .i64 k ∧ Hid (∀ j, j < k → Ve.at_ xs j = Ve.at_ ys j) ∧ Hid (∃ d, wr = w.drewN d)) (fun i _ => xs.length - (intOf i).toNat)
  case atStart => exact ⟨0, Nat.zero_le _, rfl, fun j hj => absurd hj (by omega), ⟨0, rfl⟩⟩
  case round =>
   obtain ⟨k, hk, rfl, hA, hD⟩ := hrel
   by_cases hlt : k < xs.length
   ·
    have g1 : RatsIn B wr a1 xs := by obtain ⟨d, rfl⟩ := hD.out; exact H1.out
    have g2 : RatsIn B wr a2 ys := by obtain ⟨d, rfl⟩ := hD.out; exact H2.out
    obtain ⟨b1, o1, rfl, _, p0, p1⟩ := g1.at k hlt
    obtain ⟨b2, o2, rfl, _, q0, q1⟩ := g2.at k (HL.out ▸ hlt)
    rcases hv : ((Ve.at_ xs k).1 == (Ve.at_ ys k).1 && (Ve.at_ xs k).2 == (Ve.at_ ys k).2) with _ | _
    ·
     have Hr : Hid (false = g) := by
      show _ = _
      rw [← Hg.out]; symm
      unfold eqV
      rw [decide_eq_false_iff_not]
      rintro rfl
      simp at hv
     generalize Ve.at_ xs k = x at *
     generalize Ve.at_ ys k = y at *
     go_wp2_with fail
     go_quiet (fail)
     go_wp2_with fail
     go_ret
     exact ⟨ret_bool Hr.out, by obtain ⟨d, rfl⟩ := hD.out; exact ⟨d + nq, by simp [Nat.add_comm]⟩⟩
    ·
     have HA2 : Hid (∀ j, j < k + 1 → Ve.at_ xs j = Ve.at_ ys j) := fun j hj => by
      by_cases e : j = k
      ·
       subst e
       rw [Bool.and_eq_true, beq_iff_eq, beq_iff_eq] at hv
       exact Prod.ext hv.1 hv.2
      ·
       exact hA.out j (by omega)
     generalize Ve.at_ xs k = x at *
     generalize Ve.at_ ys k = y at *
     go_wp2_with fail
     go_quiet (fail)
     go_wp2_with fail
     go_roundw
     case rel => exact ⟨k + 1, by omega, by go_num, HA2, by obtain ⟨d, rfl⟩ := hD.out; exact ⟨d + nq, by simp [Nat.add_comm]⟩⟩
     case measure => simp [intOf]; omega
   ·
    have Hr : Hid (true = g) := by
     show _ = _
     rw [← Hg.out]; symm
     unfold eqV
     rw [decide_eq_true_iff]
     exact Ve.eq_of_at HL.out fun j hj => hA.out j (by omega)
    go_wp2_with fail
    go_ret
    exact ⟨ret_bool Hr.out, hD.out⟩
 ·
  have Hr : Hid (false = g) := by
   show _ = _
   rw [← hg]; symm
   unfold eqV
   rw [decide_eq_false_iff_not]
   rintro rfl
   exact hl rfl
  obtain ⟨l1, l2⟩ := len_no hl
  clear hg
  go_enter Try.func51, Try.ntmps51
  go_wp2_with fail
  go_ret
  exact ⟨ret_bool Hr.out, 0, rfl⟩
set_option maxHeartbeats 1000000 in
theorem impl_EqualVector (B : Nat) (a1 a2 : Option Addr) (c1 c2 : Nat) (xs ys : List R) (hn : xs.length ≤ 1048576) (hn2 : ys.length ≤ 1048576) (w : World) (h1 : RatsIn B w a1 xs) (h2 : RatsIn B w a2 ys) :
  Calls Try.prog 43 #[.slice a1 xs.length c1, .slice a2 ys.length c2] w fun e w' => e = .returned (.bool (eqV xs ys)) ∧ ∃ d, w' = w.drewN d := by
 have HE := zH (slices_Equal B a1 a2 c1 c2 xs ys hn hn2 w h1 h2)
 generalize eqV xs ys = g at *
 clear h1 h2
 go_enter Try.func43, Try.ntmps43
 go_wp2_with fail
 refine HE.out.mono ?_
 rintro e w1 ⟨rfl, d, rfl⟩
 go_wp2_with fail
 go_ret
 exact ⟨rfl, d, rfl⟩
end Go.Proofs.Ytpjnjidbdpfdcaa

namespace Go.Proofs.Ytpjnjidbdpfdcaa
open Go.RowKit Go.Deep Go.ChangeShapes Go.WideShapes
open Ve (R)
theorem rats_open {H : Type} {enc : TypeId × Value → H} {W : World} {fuel : Nat} {a : Option Addr} {len cap : Nat} {x : DataW H × List MemPlace}
  (h : DataW.trod enc Try.prog W 0 (fun _ => true) true fuel 41 [.slice a len cap] = some x) : ∃ zs : List R, zs.length = len ∧ len ≤ 9223372036854775807 ∧ RatsIn W.heap.size W a zs := by
 rcases open_slice_pairs Try.underlying41 Try.underlying40 (by kernel_rfl) rfl rfl (by kernel_rfl) (by kernel_rfl) h with ⟨hcs, _⟩ | ⟨a', len', cap', m, n, V0, V1, D0, D1, P0, P1, hcs, _, hl, hm, hmm, _, hi⟩
 ·
  simp at hcs
  obtain ⟨rfl, rfl, rfl⟩ := hcs
  exact ⟨[], rfl, by decide, RatsIn.nil _ _ _⟩
 ·
  simp at hcs
  obtain ⟨rfl, rfl, rfl⟩ := hcs
  have hlm : len ≤ m := by rw [hmm]; split <;> omega
  refine ⟨(List.range len).map fun i => (intOf (V0 i), intOf (V1 i)), by simp, by unfold maxLen at hm; omega, fun j y hy => ?_⟩
  have hj : j < len := by have := (List.getElem?_eq_some_iff.1 hy).1; simpa using this
  obtain ⟨c0, c1, t0, t1⟩ := hi j (by omega)
  obtain ⟨n0, e0, _, _⟩ := DataW.trod_int Try.underlying3 t0
  obtain ⟨n1, e1, _, _⟩ := DataW.trod_int Try.underlying3 t1
  simp only [List.cons.injEq, and_true] at e0 e1
  obtain rfl : (intOf (V0 j), intOf (V1 j)) = y := by simpa [hj] using hy
  obtain ⟨b, o, sp⟩ := a'
  have hsp : sp = none := by
   obtain ⟨d0, d1, _, _⟩ := hi 0 (by omega)
   have h2 := World.cell?_spot d0
   unfold Addr.add at h2
   rw [if_pos (by decide)] at h2
   exact h2
  subst hsp
  rw [add_at] at c0 c1
  have hb : b < W.heap.size := block_lt_of_cell (a := ⟨b, o + j * 2, none⟩) c0
  refine ⟨b, o, rfl, hb, ?_, ?_⟩
  ·
   rw [c0, e0]; rfl
  ·
   rw [show o + j * 2 + 1 = o + (j * 2 + 1) by omega, c1, e1]; rfl
end Go.Proofs.Ytpjnjidbdpfdcaa
