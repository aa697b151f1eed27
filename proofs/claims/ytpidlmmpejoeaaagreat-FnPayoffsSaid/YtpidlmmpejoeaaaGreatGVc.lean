/- The parts VeIt0, VeIt1, VeIt2, VeDot, VeVec, VeAS. -/
import Derived.Test.YtpidlmmpejoeaaaGreatGVb
import Derived.RangeFuncNested
import Derived.RangeFuncBound
import Derived.RangeFuncCalls
import Derived.RangeFuncLeaves
import Derived.Shelf.Abstract
import Derived.Shelf.RegionOpen
import Derived.WalkKit
import Derived.OwnWalkIn
import Derived.TacticsInMore
import Derived.LoopNIn
import Derived.LoopIn
import Derived.Maps.AppendAt
namespace Go.Proofs.YtpidlmmpejoeaaaGreat
open Go.RowKit Go.Shelf
open Ve (R)
attribute [local go_sem] Oper.semAt_some

def seqF {α : Type} (f : Nat → α) (k : Nat) : List α := (List.range k).map f
theorem seqF_succ {α : Type} (f : Nat → α) (k : Nat) : seqF f (k + 1) = seqF f k ++ [f k] := by simp [seqF, List.range_succ]
theorem seqF_len {α : Type} (f : Nat → α) (k : Nat) : (seqF f k).length = k := by simp [seqF]
structure KeepR (n₀ lo hi : Nat) (W W' : World) : Prop where
 low : Below n₀ W W'
 mid : ∀ k, lo ≤ k → k < hi → W'.heap[k]? = W.heap[k]?
theorem KeepR.refl (n₀ lo hi : Nat) (W : World) : KeepR n₀ lo hi W W := ⟨Below.refl _ _, fun _ _ _ => rfl⟩
theorem KeepR.trans {n₀ lo hi : Nat} {A B C : World} (h : KeepR n₀ lo hi A B) (k : KeepR n₀ lo hi B C) : KeepR n₀ lo hi A C := ⟨h.low.trans k.low, fun i a b => (k.mid i a b).trans (h.mid i a b)⟩
theorem KeepR.of_below {n₀ lo hi : Nat} {W W' : World} (h : Below W.heap.size W W') (h1 : n₀ ≤ W.heap.size) (h2 : hi ≤ W.heap.size) : KeepR n₀ lo hi W W' := ⟨h.mono h1, fun k _ b => h.block k (by omega)⟩
theorem keepR_b {n₀ lo hi : Nat} {w : World} (hn : n₀ ≤ w.heap.size) (hh : hi ≤ w.heap.size) (W : World) (l : Nat) (o o' : Obj) (hl : w.heap.size ≤ l) (h : W.heap[l]? = some o) (h1 : o.isCells = false) (h2 : o.isWalk = false) : KeepR n₀ lo hi W (W.putObj l o') :=
 ⟨belowK_b hn W l o o' hl h h1 h2, fun k _ b => (grownBy_putObj' W l o').block k (by have := (Array.getElem?_eq_some_iff.1 h).1; omega) (fun e => by cases e; omega)⟩
theorem grown_of_below {W W' : World} (h : Below W.heap.size W W') : W.grownBy W' none := ⟨h.os, h.tape, h.output, h.size, fun k hk _ => h.block k hk⟩
theorem abides_below {β : Type} {B : Nat} {J : β → World → Prop} (hJ : AbidesFrom B J) {s : β} {W W' : World} (hs : J s W) (h : Below W.heap.size W W') : J s W' :=
 hJ s W W' none hs (grown_of_below h) (fun r e => by cases e)
def encP (x : R × Bool) : Array Value := #[.agg #[.int .i64 x.1.1, .int .i64 x.1.2], .bool x.2]
def encR (x : R) : Array Value := #[.agg #[.int .i64 x.1, .int .i64 x.2]]
end Go.Proofs.YtpidlmmpejoeaaaGreat

namespace Go.Proofs.YtpidlmmpejoeaaaGreat
open Go.RowKit Go.Shelf
open Ve (R)
attribute [local go_sem] Oper.semAt_some

theorem impl_add (x y : R) (w : World) : Calls Tryz.prog 55 #[.agg #[.int .i64 x.1, .int .i64 x.2], .agg #[.int .i64 y.1, .int .i64 y.2]] w fun e w' => e = .returned (.tuple #[.agg #[.int .i64 (Ve.addR x y).1, .int .i64 (Ve.addR x y).2], .bool (Ve.addK x y)]) ∧ Below w.heap.size w w' := impl_AddRat x.1 x.2 y.1 y.2 w
def Six (p q : Nat) (u v : Value) (b1 k1 b2 k2 : Nat) (x y : R) (B : World) : Prop :=
 (B.cell? ⟨p, 0, none⟩ = some u ∧ B.cell? ⟨q, 0, none⟩ = some v ∧ p < B.heap.size ∧ q < B.heap.size) ∧ Quad b1 k1 b2 k2 x y B
theorem Six.seven {p q : Nat} {u v : Value} {b1 k1 b2 k2 : Nat} {x y : R} {B wx : World} (H : Hid (Six p q u v b1 k1 b2 k2 x y B)) (h : Since B wx) :
  wx.cell? ⟨p, 0, none⟩ = some u ∧ wx.cell? ⟨q, 0, none⟩ = some v ∧ wx.cell? ⟨b1, k1, none⟩ = some (.int .i64 x.1) ∧ wx.cell? ⟨b1, k1 + 1, none⟩ = some (.int .i64 x.2) ∧ wx.cell? ⟨b2, k2, none⟩ = some (.int .i64 y.1) ∧ wx.cell? ⟨b2, k2 + 1, none⟩ = some (.int .i64 y.2) ∧ Since B wx :=
 ⟨h.cell (p := ⟨p, 0, none⟩) H.out.1.2.2.1 H.out.1.1, h.cell (p := ⟨q, 0, none⟩) H.out.1.2.2.2 H.out.1.2.1, Quad.five H.out.2 h⟩
def pr (xs ys : List R) (j : Nat) : R := Ve.mulR (Ve.at_ xs j) (Ve.at_ ys j)
end Go.Proofs.YtpidlmmpejoeaaaGreat

namespace Go.Proofs.YtpidlmmpejoeaaaGreat
open Go.RowKit Go.Shelf
open Ve (R)
attribute [local go_sem] Oper.semAt_some

def Five (p q : Nat) (u : R) (v : Value) (b2 k2 : Nat) (y : R) (B : World) : Prop :=
 (B.cell? ⟨p, 0, none⟩ = some (.int .i64 u.1) ∧ B.cell? ⟨p, 1, none⟩ = some (.int .i64 u.2) ∧ B.cell? ⟨q, 0, none⟩ = some v) ∧ (B.cell? ⟨b2, k2, none⟩ = some (.int .i64 y.1) ∧ B.cell? ⟨b2, k2 + 1, none⟩ = some (.int .i64 y.2)) ∧ p < B.heap.size ∧ q < B.heap.size ∧ b2 < B.heap.size
theorem Five.six {p q : Nat} {u : R} {v : Value} {b2 k2 : Nat} {y : R} {B wx : World} (H : Hid (Five p q u v b2 k2 y B)) (h : Since B wx) :
  wx.cell? ⟨p, 0, none⟩ = some (.int .i64 u.1) ∧ wx.cell? ⟨p, 1, none⟩ = some (.int .i64 u.2) ∧ wx.cell? ⟨q, 0, none⟩ = some v ∧ wx.cell? ⟨b2, k2, none⟩ = some (.int .i64 y.1) ∧ wx.cell? ⟨b2, k2 + 1, none⟩ = some (.int .i64 y.2) ∧ Since B wx :=
 ⟨h.cell (p := ⟨p, 0, none⟩) H.out.2.2.1 H.out.1.1, h.cell (p := ⟨p, 1, none⟩) H.out.2.2.1 H.out.1.2.1, h.cell (p := ⟨q, 0, none⟩) H.out.2.2.2.1 H.out.1.2.2, h.cell (p := ⟨b2, k2, none⟩) H.out.2.2.2.2 H.out.2.1.1, h.cell (p := ⟨b2, k2 + 1, none⟩) H.out.2.2.2.2 H.out.2.1.2, h⟩
end Go.Proofs.YtpidlmmpejoeaaaGreat

namespace Go.Proofs.YtpidlmmpejoeaaaGreat
open Go.RowKit Go.Shelf
open Ve (R)
attribute [local go_sem] Oper.semAt_some

def accP (l : List R) : R × Bool := l.foldl (fun s p => (Ve.addR s.1 p, Ve.addK s.1 p)) ((0, 1), true)
theorem accP_snoc (l : List R) (x : R) : accP (l ++ [x]) = (Ve.addR (accP l).1 x, Ve.addK (accP l).1 x) := by unfold accP; rw [List.foldl_append]; rfl
theorem accP_seq (xs ys : List R) : ∀ k, accP (seqF (pr xs ys) k) = Ve.acc xs ys k
 | 0 => rfl
 | k + 1 => by rw [seqF_succ, accP_snoc, accP_seq xs ys k, Ve.acc_succ]; rfl
theorem from_at {W W' : World} {row : Option Nat} {B p : Nat} {ob : Obj} (h : W.heap[p]? = some ob) (hp : p < B) (hg : W.grownBy W' row) (hr : ∀ r, row = some r → B ≤ r ∧ ∃ o : Obj, W.heap[r]? = some o ∧ o.isCells = false) : W'.heap[p]? = some ob :=
 (hg.block p (lt_of_at h) (fun e => by have := (hr p e.symm).1; omega)).trans h
theorem from_cells {W W' : World} {row : Option Nat} {B p : Nat} {cs : Array Value} {t : TypeId} {f : Nat × Nat} (h : W.heap[p]? = some (.cells cs t f)) (hg : W.grownBy W' row) (hr : ∀ r, row = some r → B ≤ r ∧ ∃ o : Obj, W.heap[r]? = some o ∧ o.isCells = false) : W'.heap[p]? = some (.cells cs t f) :=
 (hg.block p (lt_of_at h) (fun e => by obtain ⟨_, o, ho, hc⟩ := hr p e.symm; rw [h] at ho; cases ho; cases hc)).trans h
theorem keeps_below {W W' : World} (h : Below W.heap.size W W') : KeepsOthers W W' := ⟨h.size, fun k _ hk _ => (h.block k (lt_of_at hk)).trans hk⟩
theorem put_at {W : World} {p D : Nat} {o o1 o2 : Obj} (h : W.heap[p]? = some o) (hK : W.heap[D]? = some o1) (hne : o1 ≠ o) : (W.putObj D o2).heap[p]? = some o :=
 ((grownBy_putObj' W D o2).block p (lt_of_at h) (fun e => by cases e; rw [h] at hK; exact hne (Option.some.inj hK).symm)).trans h
theorem KeepR.setCell {n₀ lo hi : Nat} {W W1 : World} (h : KeepR n₀ lo hi W W1) (b i : Nat) (u : Value) (h1 : n₀ ≤ b) (h2 : b < lo ∨ hi ≤ b) : KeepR n₀ lo hi W (W1.setCell ⟨b, i, none⟩ u) :=
 ⟨h.low.setCell (p := ⟨b, i, none⟩) h1 u, fun k a c => by rw [Below.heap_setCell _ _ _ _ (show k ≠ b by omega)]; exact h.mid k a c⟩
end Go.Proofs.YtpidlmmpejoeaaaGreat

namespace Go.Proofs.YtpidlmmpejoeaaaGreat
open Go.RowKit Go.Shelf
open Ve (R)
attribute [local go_sem] Oper.semAt_some

end Go.Proofs.YtpidlmmpejoeaaaGreat

namespace Go.Proofs.YtpidlmmpejoeaaaGreat
open Go.RowKit Go.Shelf
open Ve (R)
theorem len_ne {m n : Nat} (h : m ≠ n) : ((m : Int) == (n : Int)) = false ∧ ((m : Int) != (n : Int)) = true := by
 have h1 : ((m : Int) == (n : Int)) = false := by rw [beq_eq_false_iff_ne]; omega
 exact ⟨h1, by rw [bne, h1]; rfl⟩
end Go.Proofs.YtpidlmmpejoeaaaGreat
