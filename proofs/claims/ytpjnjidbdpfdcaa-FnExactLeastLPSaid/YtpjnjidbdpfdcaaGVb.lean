/- The parts VeC, VeC2, VeC3. -/
import Derived.Test.YtpjnjidbdpfdcaaGVa
import Derived.Laws.AppendOwn
import Derived.Deep.LoopGhost
import Derived.Test.YtpjnjidbdpfdcaaNumI
namespace Go.Proofs.Ytpjnjidbdpfdcaa
open Go.RowKit
open Ve (R)

def BoxAt (w : World) (p : Nat) (x : R) : Prop := w.heap[p]? = some (.cells #[.int .i64 x.1, .int .i64 x.2] 46)
theorem BoxAt.four {w : World} {p : Nat} {x : R} (h : BoxAt w p x) :
  w.cell? ⟨p, 0, none⟩ = some (.int .i64 x.1) ∧ w.cell? ⟨p, 1, none⟩ = some (.int .i64 x.2) ∧ w.frozen? ⟨p, 0, none⟩ = false ∧ w.frozen? ⟨p, 1, none⟩ = false := cells2_of h
theorem BoxAt.lt {w : World} {p : Nat} {x : R} (h : BoxAt w p x) : p < w.heap.size := lt_of_at h
theorem BoxAt.below {w w' : World} {p : Nat} {x : R} (h : BoxAt w p x) (hb : Below w.heap.size w w') : BoxAt w' p x := (hb.block p h.lt).trans h
theorem BoxAt.since {w w' : World} {p : Nat} {x : R} (h : BoxAt w p x) (hb : Since w w') : BoxAt w' p x := h.below hb.low
theorem BoxAt.alloc {w : World} {p : Nat} {x : R} (h : BoxAt w p x) (o : Obj) : BoxAt (w.alloc o) p x := pr_alloc h o
theorem BoxAt.new (w : World) (x : R) : BoxAt (w.alloc (.cells #[.int .i64 x.1, .int .i64 x.2] 46)) w.heap.size x := pr_new w _
theorem BoxAt.set {w : World} {p : Nat} {x : R} (h : BoxAt w p x) (y : R) : BoxAt ((w.setCell ⟨p, 0, none⟩ (.int .i64 y.1)).setCell ⟨p, 1, none⟩ (.int .i64 y.2)) p y := by
 unfold BoxAt at h ⊢
 simp [World.setCell, Array.getElem?_modify, h]
theorem BoxAt.other {w : World} {p q : Nat} {x : R} (h : BoxAt w p x) (hne : p ≠ q) (i j : Nat) (u v : Value) : BoxAt ((w.setCell ⟨q, i, none⟩ u).setCell ⟨q, j, none⟩ v) p x := by
 unfold BoxAt
 rw [Below.heap_setCell _ _ _ _ hne, Below.heap_setCell _ _ _ _ hne]
 exact h
theorem got_box {B : World} {x : R} {k : Bool} {p b : Value} {wx : World} (h : Got B x.1 x.2 k p b wx) :
  ∃ q : Nat, p = .pointer (some ⟨q, 0, none⟩) ∧ b = .bool k ∧ wx.cell? ⟨q, 0, none⟩ = some (.int .i64 x.1) ∧ wx.cell? ⟨q, 1, none⟩ = some (.int .i64 x.2) ∧ q < wx.heap.size ∧ B.heap.size ≤ q ∧ Since B wx := h

theorem spec_l3Int (n : Int) (w : World) : Calls Try.prog 21 #[.int .i64 n] w fun e w' => e = .returned (.agg #[.int .i64 n, .int .i64 1]) ∧ Below w.heap.size w w' := by
 go_enter Try.func21, Try.ntmps21
 go_wp2_with fail
 exact bodyPost_ret (v := .agg #[.int .i64 n, .int .i64 1]) (by simp [results, Try.results21, go_sem]) rfl ⟨rfl, by (repeat' (first | exact Below.refl _ _ | exact Nat.le_refl _ | refine Below.setCell ?_ ?_ _ | refine Below.alloc ?_ ?_ _ | refine below_drewN ?_ _ | refine Below.drew ?_ | (simp; done) | (simp; omega)))⟩
end Go.Proofs.Ytpjnjidbdpfdcaa

namespace Go.Proofs.Ytpjnjidbdpfdcaa
open Go.RowKit
open Ve (R)

theorem ret_two {v : Value} {a b : Bool} (h : a = b) : Ending.returned (.tuple #[v, .bool a]) = .returned (.tuple #[v, .bool b]) := by rw [h]
end Go.Proofs.Ytpjnjidbdpfdcaa

namespace Go.Proofs.Ytpjnjidbdpfdcaa
open Go.RowKit
open Ve (R)
end Go.Proofs.Ytpjnjidbdpfdcaa
