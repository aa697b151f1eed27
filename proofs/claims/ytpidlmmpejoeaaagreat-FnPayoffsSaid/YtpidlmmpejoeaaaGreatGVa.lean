/- The parts Vec, VeB, VeS, VeA, RatsIn. -/
import Derived.Test.YtpidlmmpejoeaaaGreatGB
import Derived.Test.YtpidlmmpejoeaaaGreatGM
import Derived.Test.YtpidlmmpejoeaaaGreatGRa
import Derived.Laws.OwnMore
import Derived.Test.YtpidlmmpejoeaaaGreatGrI
import Derived.Deep.SlicePairs
import Derived.ChangeArms
import Derived.OpenShut
namespace Go.Proofs.YtpidlmmpejoeaaaGreat
open Go.RowKit
open Ve (R)

theorem info_rat : (Tryz.prog.info? 32).map (fun i => (i.zero, i.size, i.bytes)) = some (some (.agg #[.int .i64 0, .int .i64 0]), 2, 16) := by kernel_rfl
def cellsR : List R → List Value
 | [] => []
 | x :: xs => .int .i64 x.1 :: .int .i64 x.2 :: cellsR xs
theorem cellsR_len : ∀ xs : List R, (cellsR xs).length = xs.length * 2
 | [] => rfl
 | _ :: xs => by simp only [cellsR, List.length_cons, cellsR_len xs]; omega
theorem cellsR_snoc : ∀ (xs : List R) (x : R), cellsR (xs ++ [x]) = cellsR xs ++ [.int .i64 x.1, .int .i64 x.2]
 | [], x => rfl
 | y :: xs, x => by simp only [cellsR, List.cons_append, cellsR_snoc xs x]
theorem cellsR_at : ∀ (xs : List R) (k : Nat) (x : R), xs[k]? = some x → (cellsR xs)[k * 2]? = some (.int .i64 x.1) ∧ (cellsR xs)[k * 2 + 1]? = some (.int .i64 x.2)
 | [], k, x, h => by simp at h
 | y :: xs, 0, x, h => by
  obtain rfl : y = x := by simpa using h
  exact ⟨rfl, rfl⟩
 | y :: xs, k + 1, x, h => by
  have := cellsR_at xs k x (by simpa using h)
  rw [show (k + 1) * 2 = k * 2 + 1 + 1 by omega]
  simp only [cellsR, List.getElem?_cons_succ]
  exact this
def OwnRats (B : Nat) (w : World) (v : Value) (xs : List R) : Prop := w.ownsRow B 32 2 v xs.length (cellsR xs)
def RatsIn (B : Nat) (w : World) (a : Option Addr) (xs : List R) : Prop := ∀ j x, xs[j]? = some x → ∃ b o : Nat, a = some ⟨b, o, none⟩ ∧ b < B ∧ w.cell? ⟨b, o + j * 2, none⟩ = some (.int .i64 x.1) ∧ w.cell? ⟨b, o + j * 2 + 1, none⟩ = some (.int .i64 x.2)
theorem RatsIn.nil (B : Nat) (w : World) (a : Option Addr) : RatsIn B w a [] := fun j x h => by simp at h
theorem RatsIn.at {B : Nat} {w : World} {a : Option Addr} {xs : List R} (h : RatsIn B w a xs) (k : Nat) (hk : k < xs.length) :
  ∃ b o : Nat, a = some ⟨b, o, none⟩ ∧ b < B ∧ w.cell? ⟨b, o + k * 2, none⟩ = some (.int .i64 (Ve.at_ xs k).1) ∧ w.cell? ⟨b, o + k * 2 + 1, none⟩ = some (.int .i64 (Ve.at_ xs k).2) :=
 h k _ (Ve.at_get hk)
theorem RatsIn.drewN {B : Nat} {w : World} {a : Option Addr} {xs : List R} (h : RatsIn B w a xs) (d : Nat) : RatsIn B (w.drewN d) a xs := h
theorem RatsIn.drew {B : Nat} {w : World} {a : Option Addr} {xs : List R} (h : RatsIn B w a xs) : RatsIn B w.drew a xs := h
theorem RatsIn.below {B : Nat} {w w' : World} {a : Option Addr} {xs : List R} (h : RatsIn B w a xs) (hb : Below B w w') : RatsIn B w' a xs := fun j x hx => by
 obtain ⟨b, o, h1, h2, h3, h4⟩ := h j x hx
 exact ⟨b, o, h1, h2, by rw [hb.cell (p := ⟨b, o + j * 2, none⟩) h2]; exact h3, by rw [hb.cell (p := ⟨b, o + j * 2 + 1, none⟩) h2]; exact h4⟩
theorem RatsIn.mono {B B' : Nat} {w : World} {a : Option Addr} {xs : List R} (h : RatsIn B w a xs) (hB : B ≤ B') : RatsIn B' w a xs := fun j x hx => by
 obtain ⟨b, o, h1, h2, h3⟩ := h j x hx
 exact ⟨b, o, h1, by omega, h3⟩
theorem RatsIn.same {B : Nat} {w w' : World} {a : Option Addr} {xs : List R} (h : RatsIn B w a xs) (ha : ∀ p, a = some p → p.block < B → w'.heap[p.block]? = w.heap[p.block]?) : RatsIn B w' a xs := fun j x hx => by
 obtain ⟨b, o, h1, h2, h3, h4⟩ := h j x hx
 have e := ha ⟨b, o, none⟩ h1 h2
 exact ⟨b, o, h1, h2, by rw [World.cell?_of_block (w := w) (a := ⟨b, o + j * 2, none⟩) e]; exact h3, by rw [World.cell?_of_block (w := w) (a := ⟨b, o + j * 2 + 1, none⟩) e]; exact h4⟩
theorem own_rats {B : Nat} {w : World} {v : Value} {xs : List R} (h : OwnRats B w v xs) :
  ∃ a cap, v = .slice a xs.length cap ∧ RatsIn w.heap.size w a xs ∧ (∀ p, a = some p → B ≤ p.block ∧ p.block < w.heap.size) ∧ (xs ≠ [] → ∃ g, a = some ⟨g, 0, none⟩) := by
 have h' := h
 obtain ⟨h1, ⟨hv, hn⟩ | ⟨g, cap, cur, rfl, hg, hh, hr⟩⟩ := h'
 ·
  have hx : xs = [] := List.eq_nil_of_length_eq_zero hn
  subst hx
  exact ⟨none, 0, by rw [hv]; rfl, RatsIn.nil _ _ _, (fun p hp => by cases hp), fun h => absurd rfl h⟩
 ·
  have hlt : g < w.heap.size := lt_of_at hh
  refine ⟨some ⟨g, 0, none⟩, cap, rfl, fun j x hx => ⟨g, 0, rfl, hlt, ?_⟩, fun p hp => ?_, fun _ => ⟨g, rfl⟩⟩
  ·
   have hj : j < xs.length := (List.getElem?_eq_some_iff.1 hx).1
   obtain ⟨e1, e2⟩ := cellsR_at xs j x hx
   rw [Nat.zero_add, World.ownsRow.cellAt h (j * 2) (by omega), World.ownsRow.cellAt h (j * 2 + 1) (by omega)]
   exact ⟨e1, e2⟩
  ·
   obtain rfl := Option.some.inj hp
   exact ⟨hg, hlt⟩
theorem OwnRats.nil (B : Nat) (w : World) : OwnRats B w (.slice none 0 0) [] := World.ownsRow_nil _ _ _ _
theorem OwnRats.more {B : Nat} {w' : World} {v' : Value} {xs : List R} {x : R} (h : w'.ownsRow B 32 2 v' (xs.length + 1) (cellsR xs ++ [.int .i64 x.1, .int .i64 x.2])) : OwnRats B w' v' (xs ++ [x]) := by
 unfold OwnRats
 rw [cellsR_snoc, List.length_append]
 exact h
theorem OwnRats.below {B : Nat} {w w' : World} {v : Value} {xs : List R} (h : OwnRats B w v xs) (hb : Below w.heap.size w w') : OwnRats B w' v xs :=
 World.ownsRow.kept h (row := none) ⟨hb.os, hb.tape, hb.output, hb.size, fun k hk _ => hb.block k hk⟩ (by cases v.ownBlock <;> simp)
theorem OwnRats.drewN {B : Nat} {w : World} {v : Value} {xs : List R} (h : OwnRats B w v xs) (d : Nat) : OwnRats B (w.drewN d) v xs := h
theorem OwnRats.alloc {B : Nat} {w : World} {v : Value} {xs : List R} (h : OwnRats B w v xs) (o : Obj) : OwnRats B (w.alloc o) v xs := World.ownsRow.alloc h o
theorem OwnRats.lower {B B' : Nat} {w : World} {v : Value} {xs : List R} (h : OwnRats B' w v xs) (hB : B ≤ B') : OwnRats B w v xs := by
 obtain ⟨h1, h2 | ⟨g, cap, cur, e, hg, rest⟩⟩ := h
 ·
  exact ⟨h1, .inl h2⟩
 ·
  exact ⟨h1, .inr ⟨g, cap, cur, e, by omega, rest⟩⟩
def MakesRats (xs : List R) (w : World) (e : Ending) (w' : World) : Prop := ∃ v, e = .returned v ∧ OwnRats w.heap.size w' v xs ∧ Below w.heap.size w w'
def MakesRatsK (xs : List R) (k : Bool) (w : World) (e : Ending) (w' : World) : Prop := ∃ v, e = .returned (.tuple #[v, .bool k]) ∧ OwnRats w.heap.size w' v xs ∧ Below w.heap.size w w'
def OneRat (x : R) (k : Bool) (w : World) (e : Ending) (w' : World) : Prop := e = .returned (.tuple #[.agg #[.int .i64 x.1, .int .i64 x.2], .bool k]) ∧ Below w.heap.size w w'
end Go.Proofs.YtpidlmmpejoeaaaGreat

namespace Go.Proofs.YtpidlmmpejoeaaaGreat
open Go.RowKit
open Ve (R)

def CopiedR (B g n k : Nat) (wr : World) (xs : List R) : Prop :=
 ∃ L : List Value, wr.ownsRow B 32 2 (.slice (some ⟨g, 0, none⟩) n n) n L ∧ ∀ j x, j < k → xs[j]? = some x → L[j * 2]? = some (.int .i64 x.1) ∧ L[j * 2 + 1]? = some (.int .i64 x.2)
theorem copiedR_next {B g n k : Nat} {wr : World} {xs : List R} (h : CopiedR B g n k wr xs) (hk : k < n) (x : R) (hx : xs[k]? = some x) :
  CopiedR B g n (k + 1) ((wr.setCell ⟨g, k * 2, none⟩ (.int .i64 x.1)).setCell ⟨g, k * 2 + 1, none⟩ (.int .i64 x.2)) xs := by
 obtain ⟨L, h1, h2⟩ := h
 have hl : L.length = n * 2 := h1.1
 refine ⟨(L.set (k * 2) (.int .i64 x.1)).set (k * 2 + 1) (.int .i64 x.2), ((h1.stored (k * 2) (.int .i64 x.1)).1.stored (k * 2 + 1) (.int .i64 x.2)).1, fun j y hj hy => ?_⟩
 by_cases e : j = k
 ·
  subst e
  rw [hx] at hy
  obtain rfl := Option.some.inj hy
  constructor
  ·
   rw [List.getElem?_set_ne (by omega), List.getElem?_set_self (by omega)]
  ·
   rw [List.getElem?_set_self (by rw [List.length_set]; omega)]
 ·
  rw [List.getElem?_set_ne (by omega), List.getElem?_set_ne (by omega), List.getElem?_set_ne (by omega), List.getElem?_set_ne (by omega)]
  exact h2 j y (by omega) hy
theorem cells_eq {L : List Value} {xs : List R} (hl : L.length = xs.length * 2) (h : ∀ j x, xs[j]? = some x → L[j * 2]? = some (.int .i64 x.1) ∧ L[j * 2 + 1]? = some (.int .i64 x.2)) : L = cellsR xs := by
 apply List.ext_getElem? fun i => ?_
 rcases Nat.lt_or_ge i L.length with h1 | h1
 ·
  have hj : i / 2 < xs.length := by omega
  obtain ⟨e1, e2⟩ := h (i / 2) _ (List.getElem?_eq_getElem hj)
  obtain ⟨f1, f2⟩ := cellsR_at xs (i / 2) _ (List.getElem?_eq_getElem hj)
  rcases (show i = i / 2 * 2 ∨ i = i / 2 * 2 + 1 by omega) with hi | hi
  ·
   rw [hi, e1, f1]
  ·
   rw [hi, e2, f2]
 ·
  rw [List.getElem?_eq_none h1, List.getElem?_eq_none (by rw [cellsR_len]; omega)]
theorem copied_cells {B g n k : Nat} {wr : World} {xs : List R} (h : CopiedR B g n k wr xs) (j : Nat) (hj : j < n * 2) :
  (∃ v, wr.cell? ⟨g, j, none⟩ = some v) ∧ wr.frozen? ⟨g, j, none⟩ = false := by
 obtain ⟨L, h1, _⟩ := h
 have hl2 := h1.1
 exact ⟨⟨L[j], by rw [h1.cellAt j hj, List.getElem?_eq_getElem (by omega)]⟩, h1.frozenAt j⟩
def Quad (b1 k1 b2 k2 : Nat) (x y : R) (B : World) : Prop :=
 B.cell? ⟨b1, k1, none⟩ = some (.int .i64 x.1) ∧ B.cell? ⟨b1, k1 + 1, none⟩ = some (.int .i64 x.2) ∧ B.cell? ⟨b2, k2, none⟩ = some (.int .i64 y.1) ∧ B.cell? ⟨b2, k2 + 1, none⟩ = some (.int .i64 y.2) ∧ b1 < B.heap.size ∧ b2 < B.heap.size
theorem Quad.five {b1 k1 b2 k2 : Nat} {x y : R} {B wx : World} (H : Hid (Quad b1 k1 b2 k2 x y B)) (h : Since B wx) :
  wx.cell? ⟨b1, k1, none⟩ = some (.int .i64 x.1) ∧ wx.cell? ⟨b1, k1 + 1, none⟩ = some (.int .i64 x.2) ∧ wx.cell? ⟨b2, k2, none⟩ = some (.int .i64 y.1) ∧ wx.cell? ⟨b2, k2 + 1, none⟩ = some (.int .i64 y.2) ∧ Since B wx :=
 ⟨h.cell (p := ⟨b1, k1, none⟩) H.out.2.2.2.2.1 H.out.1, h.cell (p := ⟨b1, k1 + 1, none⟩) H.out.2.2.2.2.1 H.out.2.1, h.cell (p := ⟨b2, k2, none⟩) H.out.2.2.2.2.2 H.out.2.2.1, h.cell (p := ⟨b2, k2 + 1, none⟩) H.out.2.2.2.2.2 H.out.2.2.2.1, h⟩
def marksR (k n : Nat) : List R := (List.range n).map fun j => (((k + 2 * j : Nat) : Int), ((k + 2 * j + 1 : Nat) : Int))
theorem marksR_len (k n : Nat) : (marksR k n).length = n := by simp [marksR]
theorem marksR_at (k n j : Nat) (h : j < n) : (marksR k n)[j]? = some (((k + 2 * j : Nat) : Int), ((k + 2 * j + 1 : Nat) : Int)) := by simp [marksR, h]
theorem marksR_succ (k j : Nat) : marksR k (j + 1) = marksR k j ++ [(((k + 2 * j : Nat) : Int), ((k + 2 * j + 1 : Nat) : Int))] := by unfold marksR; rw [List.range_succ, List.map_append]; rfl
theorem cellsR_app : ∀ (xs ys : List R), cellsR (xs ++ ys) = cellsR xs ++ cellsR ys
 | [], ys => rfl
 | x :: xs, ys => by simp only [cellsR, List.cons_append, cellsR_app xs ys]
theorem marksR_set (k j : Nat) (xs : List R) (hj : j < xs.length) :
  ((cellsR (marksR k j ++ xs.drop j)).set (j * 2) (.int .i64 ((k + 2 * j : Nat) : Int))).set (j * 2 + 1) (.int .i64 ((k + 2 * j + 1 : Nat) : Int)) = cellsR (marksR k (j + 1) ++ xs.drop (j + 1)) := by
 have hl : (cellsR (marksR k j)).length = j * 2 := by rw [cellsR_len, marksR_len]
 rw [cellsR_app, List.drop_eq_getElem_cons hj, marksR_succ, List.append_assoc, cellsR_app]
 simp only [cellsR, List.cons_append, List.nil_append]
 rw [List.set_append_right _ _ (by omega), hl, Nat.sub_self, List.set_cons_zero, List.set_append_right _ _ (by omega), hl, show j * 2 + 1 - j * 2 = 1 by omega]
 rfl
theorem marksR_all (k : Nat) (xs : List R) : marksR k xs.length ++ xs.drop xs.length = marksR k xs.length := by simp
def MarksRPost (B k : Nat) (v : Value) (n : Nat) (w : World) (e : Ending) (w' : World) : Prop :=
 e = .returned (.int .i64 ((k : Int) + 2 * n)) ∧ OwnRats B w' v (marksR k n) ∧ w.grownBy w' v.ownBlock
theorem grownR_set {w a : World} {g : Nat} (h : w.grownBy a (some g)) (j : Nat) (u : Value) : w.grownBy (a.setCell ⟨g, j, none⟩ u) (some g) :=
 ⟨h.os, h.tape, h.output, by have := h.size; simp; omega, fun k hk hne => by
  rw [Below.heap_setCell _ _ _ _ (show k ≠ g from fun e => hne (by rw [e]))]; exact h.block k hk hne⟩
def RowR (B g cap n : Nat) (w : World) (xs : List R) : Prop := w.ownsRow B 32 2 (.slice (some ⟨g, 0, none⟩) n cap) n (cellsR xs)
theorem RowR.pair {B g cap n : Nat} {w : World} {xs : List R} (h : RowR B g cap n w xs) (j : Nat) (x y : Value) :
  ((w.setCell ⟨g, j, none⟩ x).setCell ⟨g, j + 1, none⟩ y).ownsRow B 32 2 (.slice (some ⟨g, 0, none⟩) n cap) n (((cellsR xs).set j x).set (j + 1) y) :=
 ((World.ownsRow.stored h j x).1.stored (j + 1) y).1
theorem RowR.cells {B g cap n : Nat} {w : World} {xs : List R} (h : RowR B g cap n w xs) (j : Nat) (hj : j < n * 2) : (∃ v, w.cell? ⟨g, j, none⟩ = some v) ∧ w.frozen? ⟨g, j, none⟩ = false := by
 have hl := h.1
 exact ⟨⟨(cellsR xs)[j], by rw [World.ownsRow.cellAt h j hj, List.getElem?_eq_getElem (by omega)]⟩, World.ownsRow.frozenAt h j⟩
end Go.Proofs.YtpidlmmpejoeaaaGreat

namespace Go.Proofs.YtpidlmmpejoeaaaGreat
open Go.RowKit
open Ve (R)
def SeqIn (w : World) (lo hi : Nat) (a : Option Addr) (xs : List R) : Prop := (∀ p, a = some p → lo ≤ p.block) ∧ RatsIn hi w a xs
def AllS (w : World) (L : List (Option Addr × List R × Nat × Nat)) : Prop := ∀ p, p ∈ L → SeqIn w p.2.2.1 p.2.2.2 p.1 p.2.1 ∧ p.2.2.2 ≤ w.heap.size
theorem AllS.start (w : World) : AllS w [] := fun p hp => by cases hp
theorem AllS.below {w w' : World} {L : List (Option Addr × List R × Nat × Nat)} (h : AllS w L) (hb : Below w.heap.size w w') : AllS w' L := fun p hp =>
 ⟨⟨(h p hp).1.1, (h p hp).1.2.below (hb.mono (h p hp).2)⟩, Nat.le_trans (h p hp).2 hb.size⟩
theorem AllS.drew {w : World} {L : List (Option Addr × List R × Nat × Nat)} (h : AllS w L) : AllS w.drew L := h
theorem AllS.add {w : World} {L : List (Option Addr × List R × Nat × Nat)} (h : AllS w L) {lo hi : Nat} {a : Option Addr} {xs : List R} (h2 : RatsIn hi w a xs) (h3 : ∀ p, a = some p → lo ≤ p.block) (h4 : hi ≤ w.heap.size) : AllS w ((a, xs, lo, hi) :: L) := fun p hp => by
 rcases List.mem_cons.1 hp with rfl | hp
 ·
  exact ⟨⟨h3, h2⟩, h4⟩
 ·
  exact h p hp
theorem AllS.get {w : World} {L : List (Option Addr × List R × Nat × Nat)} (h : AllS w L) (a : Option Addr) (xs : List R) (lo hi : Nat) (hm : (a, xs, lo, hi) ∈ L) : RatsIn w.heap.size w a xs := (h _ hm).1.2.mono (h _ hm).2
theorem AllS.sub {w : World} {L L' : List (Option Addr × List R × Nat × Nat)} (h : AllS w L) (hs : ∀ p, p ∈ L' → p ∈ L) : AllS w L' := fun p hp => h p (hs p hp)
theorem AllS.grown {w w' : World} {row : Option Nat} {L : List (Option Addr × List R × Nat × Nat)} (h : AllS w L) (hg : w.grownBy w' row) (hne : ∀ p, p ∈ L → ∀ g, row = some g → g < p.2.2.1 ∨ p.2.2.2 ≤ g) : AllS w' L := fun p hp => by
 obtain ⟨⟨h1, h2⟩, h3⟩ := h p hp
 refine ⟨⟨h1, h2.same fun q hq hlt => hg.block q.block (by omega) (fun e => ?_)⟩, Nat.le_trans h3 hg.size⟩
 have a1 := hne p hp q.block e.symm
 have a2 := h1 q hq
 omega
theorem own_block {lo : Nat} {w : World} {v : Value} {xs : List R} (h : OwnRats lo w v xs) : ∀ g, v.ownBlock = some g → lo ≤ g ∧ g < w.heap.size := World.ownsRow.lt h
theorem OwnRats.grown {lo : Nat} {w w' : World} {v : Value} {xs : List R} {row : Option Nat} (h : OwnRats lo w v xs) (hg : w.grownBy w' row) (hne : ∀ g, v.ownBlock = some g → row ≠ some g) : OwnRats lo w' v xs :=
 World.ownsRow.kept h hg (by
  cases hv : v.ownBlock with
  | none => exact .inl rfl
  | some g => exact .inr (fun e => hne g hv e.symm))
theorem RatsIn.narrow {B B' : Nat} {w : World} {a : Option Addr} {xs : List R} (h : RatsIn B w a xs) (ha : ∀ p, a = some p → p.block < B') : RatsIn B' w a xs := fun j x hx => by
 obtain ⟨b, o, h1, h2, h3⟩ := h j x hx
 exact ⟨b, o, h1, ha ⟨b, o, none⟩ h1, h3⟩
theorem block_of {a : Option Addr} {n c lo hi : Nat} (h : ∀ g, (Value.slice a n c).ownBlock = some g → lo ≤ g ∧ g < hi) : ∀ p, a = some p → lo ≤ p.block ∧ p.block < hi := fun p hp => h p.block (by rw [hp]; rfl)
theorem marked_reads {lo k n : Nat} {w : World} {a : Option Addr} {c m : Nat} (h : OwnRats lo w (.slice a m c) (marksR k n)) : RatsIn w.heap.size w a (marksR k n) ∧ ∀ p, a = some p → lo ≤ p.block ∧ p.block < w.heap.size := by
 obtain ⟨a', c', he, hr, ha, _⟩ := own_rats h
 obtain ⟨rfl, _, _⟩ : a = a' ∧ m = (marksR k n).length ∧ c = c' := by injection he with h1 h2 h3; exact ⟨h1, h2, h3⟩
 exact ⟨hr, ha⟩
end Go.Proofs.YtpidlmmpejoeaaaGreat

namespace Go.Proofs.YtpidlmmpejoeaaaGreat
open Go.RowKit
open Ve (R)
set_option maxHeartbeats 1000000 in
theorem spec_AllValid (B : Nat) (a : Option Addr) (c : Nat) (xs : List R) (hn : xs.length ≤ 1048576) (w : World) (hBw : B ≤ w.heap.size) (h1 : RatsIn B w a xs) :
  Calls Tryz.prog 41 #[.slice a xs.length c] w fun e w' => e = .returned (.bool (Ve.good xs)) ∧ Below w.heap.size w w' := by
 obtain ⟨g, hg⟩ : ∃ g, Ve.good xs = g := ⟨_, rfl⟩
 rw [hg]
 have Hg := zH hg
 have H1 := zH (h1.mono hBw)
 clear hg h1
 go_enter Tryz.func41, Tryz.ntmps41
 go_wp2_with fail
 go_loopw [3] (fun i wr => ∃ k : Nat, k ≤ xs.length ∧ i = .int .i64 k ∧ Hid (∀ j, j < k → Ve.vld (Ve.at_ xs j) = true) ∧ Hid (Below w.heap.size w wr)) (fun i _ => xs.length - (intOf i).toNat)
 case atStart => exact ⟨0, Nat.zero_le _, rfl, fun j hj => absurd hj (by omega), Below.refl _ _⟩
 case round =>
  obtain ⟨k, hk, rfl, hA, hB⟩ := hrel
  by_cases hlt : k < xs.length
  ·
   obtain ⟨b, o, rfl, hb, c0, c1⟩ := (H1.out.below hB.out).at k hlt
   rcases hv : Ve.vld (Ve.at_ xs k) with _ | _
   ·
    have Hr := zH (show false = g from (Ve.good_at hlt hv).symm.trans Hg.out)
    have Hv := zH hv
    clear hv
    go_wp2_with fail
    refine (spec_IsValidRat _ _ false Hv.out _).mono ?_
    rintro e w1 ⟨rfl, hb1⟩
    have Hb := zH (hB.out.trans (hb1.mono hB.out.size))
    clear hb1
    go_wp2_with fail
    go_ret
    exact ⟨ret_bool Hr.out, Hb.out⟩
   ·
    have HA2 : Hid (∀ j, j < k + 1 → Ve.vld (Ve.at_ xs j) = true) := fun j hj => by
     by_cases e : j = k
     ·
      subst e; exact hv
     ·
      exact hA.out j (by omega)
    have Hv := zH hv
    clear hv
    go_wp2_with fail
    refine (spec_IsValidRat _ _ true Hv.out _).mono ?_
    rintro e w1 ⟨rfl, hb1⟩
    have Hb := zH (hB.out.trans (hb1.mono hB.out.size))
    clear hb1
    go_wp2_with fail
    go_roundw
    case rel => exact ⟨k + 1, by omega, by go_num, HA2, Hb⟩
    case measure => simp [intOf]; omega
  ·
   have Hr := zH (show true = g by rw [← Hg.out]; exact (Ve.good_all fun j hj => hA.out j (by omega)).symm)
   go_wp2_with fail
   go_ret
   exact ⟨ret_bool Hr.out, hB.out⟩
def eqV (xs ys : List R) : Bool := decide (xs = ys)
set_option maxHeartbeats 1000000 in
theorem spec_EqualVector (B : Nat) (a1 a2 : Option Addr) (c1 c2 : Nat) (xs ys : List R) (hn : xs.length ≤ 1048576) (hn2 : ys.length ≤ 1048576) (w : World) (h1 : RatsIn B w a1 xs) (h2 : RatsIn B w a2 ys) :
  Calls Tryz.prog 12 #[.slice a1 xs.length c1, .slice a2 ys.length c2] w fun e w' => e = .returned (.bool (eqV xs ys)) ∧ ∃ d, w' = w.drewN d := by
 obtain ⟨g, hg⟩ : ∃ g, eqV xs ys = g := ⟨_, rfl⟩
 rw [hg]
 have H1 := zH h1
 have H2 := zH h2
 clear h1 h2
 by_cases hl : xs.length = ys.length
 ·
  have Hg := zH hg
  have HL := zH hl
  rw [← hl]
  clear hg hl
  have he := eq_rat; have hne := ne_rat; have hgu := eqg_rat
  go_enter Tryz.func12, Tryz.ntmps12
  go_wp2_with fail
  go_loopw [5] (fun i wr => ∃ k : Nat, k ≤ xs.length ∧ i = .int .i64 k ∧ Hid (∀ j, j < k → Ve.at_ xs j = Ve.at_ ys j) ∧ Hid (∃ d, wr = w.drewN d)) (fun i _ => xs.length - (intOf i).toNat)
  case atStart => exact ⟨0, Nat.zero_le _, rfl, fun j hj => absurd hj (by omega), ⟨0, rfl⟩⟩
  case round =>
   obtain ⟨k, hk, rfl, hA, hD⟩ := hrel
   by_cases hlt : k < xs.length
   ·
    have g1 : RatsIn B wr a1 xs := by obtain ⟨d, rfl⟩ := hD.out; exact H1.out
    have g2 : RatsIn B wr a2 ys := by obtain ⟨d, rfl⟩ := hD.out; exact H2.out
    obtain ⟨b1, o1, rfl, _, p0, p1⟩ := g1.at k hlt
    obtain ⟨b2, o2, rfl, _, q0, q1⟩ := g2.at k (HL.out ▸ hlt)
    rcases hv : ((Ve.at_ xs k).1 == (Ve.at_ ys k).1 && (Ve.at_ xs k).2 == (Ve.at_ ys k).2) with _ | _
    ·
     have Hr : Hid (false = g) := by
      show _ = _
      rw [← Hg.out]; symm
      unfold eqV
      rw [decide_eq_false_iff_not]
      rintro rfl
      simp at hv
     generalize Ve.at_ xs k = x at *
     generalize Ve.at_ ys k = y at *
     go_wp2_with fail
     go_quiet (fail)
     go_wp2_with fail
     go_ret
     exact ⟨ret_bool Hr.out, by obtain ⟨d, rfl⟩ := hD.out; exact ⟨d + nq, by simp [Nat.add_comm]⟩⟩
    ·
     have HA2 : Hid (∀ j, j < k + 1 → Ve.at_ xs j = Ve.at_ ys j) := fun j hj => by
      by_cases e : j = k
      ·
       subst e
       rw [Bool.and_eq_true, beq_iff_eq, beq_iff_eq] at hv
       exact Prod.ext hv.1 hv.2
      ·
       exact hA.out j (by omega)
     generalize Ve.at_ xs k = x at *
     generalize Ve.at_ ys k = y at *
     go_wp2_with fail
     go_quiet (fail)
     go_wp2_with fail
     go_roundw
     case rel => exact ⟨k + 1, by omega, by go_num, HA2, by obtain ⟨d, rfl⟩ := hD.out; exact ⟨d + nq, by simp [Nat.add_comm]⟩⟩
     case measure => simp [intOf]; omega
   ·
    have Hr : Hid (true = g) := by
     show _ = _
     rw [← Hg.out]; symm
     unfold eqV
     rw [decide_eq_true_iff]
     exact Ve.eq_of_at HL.out fun j hj => hA.out j (by omega)
    go_wp2_with fail
    go_ret
    exact ⟨ret_bool Hr.out, hD.out⟩
 ·
  have Hr : Hid (false = g) := by
   show _ = _
   rw [← hg]; symm
   unfold eqV
   rw [decide_eq_false_iff_not]
   rintro rfl
   exact hl rfl
  obtain ⟨l1, l2⟩ := len_no hl
  clear hg
  go_enter Tryz.func12, Tryz.ntmps12
  go_wp2_with fail
  go_ret
  exact ⟨ret_bool Hr.out, 0, rfl⟩
end Go.Proofs.YtpidlmmpejoeaaaGreat

namespace Go.Proofs.YtpidlmmpejoeaaaGreat
open Go.RowKit Go.Deep Go.ChangeShapes Go.WideShapes
open Ve (R)
end Go.Proofs.YtpidlmmpejoeaaaGreat
