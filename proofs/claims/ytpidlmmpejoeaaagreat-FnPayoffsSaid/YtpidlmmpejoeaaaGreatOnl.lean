/- Nothing but one block turns. -/
import Derived.Test.YtpidlmmpejoeaaaGreatChecked
import Derived.Handy
import Derived.Below
import Derived.OwnWalk
import Derived.Deep.QuietTactic
import Derived.BigQuiet
import Derived.Laws.AppendOwn
namespace Go.Proofs.YtpidlmmpejoeaaaGreat
open Go.RowKit
structure Only (p : Nat) (w w' : World) : Prop where
 low : Below p w w'
 high : ∀ k, p < k → k < w.heap.size → w'.heap[k]? = w.heap[k]?
theorem Only.refl (p : Nat) (w : World) : Only p w w := ⟨Below.refl _ _, fun _ _ _ => rfl⟩
theorem Only.trans {p : Nat} {a b c : World} (h : Only p a b) (k : Only p b c) : Only p a c :=
 ⟨h.low.trans k.low, fun j h1 h2 => by rw [k.high j h1 (Nat.lt_of_lt_of_le h2 h.low.size), h.high j h1 h2]⟩
theorem Only.setCell {p : Nat} {a w : World} (h : Only p a w) (o : Nat) (u : Value) : Only p a (w.setCell ⟨p, o, none⟩ u) :=
 ⟨h.low.setCell (p := ⟨p, o, none⟩) (Nat.le_refl _) u, fun j h1 h2 => by rw [Below.heap_setCell _ _ _ _ (show j ≠ p by omega)]; exact h.high j h1 h2⟩
theorem Only.drew {p : Nat} {a w : World} (h : Only p a w) : Only p a w.drew := ⟨h.low.drew, fun j h1 h2 => h.high j h1 h2⟩
theorem Only.drewN {p : Nat} {a w : World} (h : Only p a w) (n : Nat) : Only p a (w.drewN n) :=
 ⟨⟨h.low.os, h.low.tape, h.low.output, h.low.size, h.low.block⟩, fun j h1 h2 => h.high j h1 h2⟩
theorem Only.below {p B : Nat} {w w' : World} (h : Only p w w') (hB : B ≤ p) : Below B w w' := h.low.mono hB
theorem Only.block {p k : Nat} {w w' : World} (h : Only p w w') (hk : k ≠ p) (hl : k < w.heap.size) : w'.heap[k]? = w.heap[k]? := by
 rcases Nat.lt_or_ge k p with h1 | h1
 ·
  exact h.low.block k h1
 ·
  exact h.high k (by omega) hl

theorem Only.alloc {p : Nat} {a w : World} (h : Only p a w) (hp : p ≤ a.heap.size) (o : Obj) : Only p a (w.alloc o) :=
 ⟨h.low.alloc (Nat.le_trans hp h.low.size) o, fun j h1 h2 => by rw [Below.heap_alloc _ _ _ (Nat.lt_of_lt_of_le h2 h.low.size)]; exact h.high j h1 h2⟩
theorem Only.setOwn {p k : Nat} {a w : World} (h : Only p a w) (hp : p ≤ a.heap.size) (hk : a.heap.size ≤ k) (o : Nat) (u : Value) : Only p a (w.setCell ⟨k, o, none⟩ u) :=
 ⟨h.low.setCell (p := ⟨k, o, none⟩) (Nat.le_trans hp hk) u, fun j h1 h2 => by rw [Below.heap_setCell _ _ _ _ (show j ≠ k by omega)]; exact h.high j h1 h2⟩
theorem Only.grown {p : Nat} {a w w' : World} {row : Option Nat} (h : Only p a w) (hp : p ≤ a.heap.size) (hg : w.grownBy w' row) (hr : ∀ g, row = some g → a.heap.size ≤ g) : Only p a w' :=
 ⟨h.low.grown hg (Nat.le_trans hp h.low.size) (fun g e => Nat.le_trans hp (hr g e)), fun j h1 h2 => by
  rw [hg.block j (Nat.lt_of_lt_of_le h2 h.low.size) (fun e => by have := hr j e.symm; omega)]; exact h.high j h1 h2⟩
end Go.Proofs.YtpidlmmpejoeaaaGreat
