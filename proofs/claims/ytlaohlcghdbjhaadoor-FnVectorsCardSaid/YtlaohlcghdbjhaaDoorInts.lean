/- A slice of integers of the call's own; one that is read. -/
import Derived.Test.YtlaohlcghdbjhaaDoorChecked
import Derived.Handy
import Derived.Below
import Derived.LoopTactic
import Derived.Outline
import Derived.Lib.Hide
import Derived.WalkSpells
import Derived.WalkLawsBesides
import Derived.Deep.QuietTactic
import Derived.BigQuiet
import Derived.Laws.AppendOwn
import Derived.Laws.OwnMore
namespace Go.Proofs.YtlaohlcghdbjhaaDoor
open Go.RowKit

theorem info_int : (Tryd.prog.info? 3).map (fun i => (i.zero, i.size, i.bytes)) = some (some (.int .i64 0), 1, 8) := by kernel_rfl
/-- A row of the call's own that holds the integers xs. -/
def OwnInts (B : Nat) (w : World) (v : Value) (xs : List Int) : Prop := w.ownsRow B 3 1 v xs.length (xs.map (Value.int .i64))
/-- The slice at a reads as xs. -/
def IntsIn (w : World) (a : Option Addr) (xs : List Int) : Prop := ∀ j x, xs[j]? = some x → ∃ b o : Nat, a = some ⟨b, o, none⟩ ∧ w.cell? ⟨b, o + j, none⟩ = some (.int .i64 x)
theorem IntsIn.nil (w : World) (a : Option Addr) : IntsIn w a [] := fun j x h => by simp at h
theorem IntsIn.at {w : World} {a : Option Addr} {xs : List Int} (h : IntsIn w a xs) (k : Nat) (hk : k < xs.length) : ∃ b o : Nat, a = some ⟨b, o, none⟩ ∧ w.cell? ⟨b, o + k, none⟩ = some (.int .i64 xs[k]) :=
  h k _ (List.getElem?_eq_getElem hk)
theorem IntsIn.drewN {w : World} {a : Option Addr} {xs : List Int} (h : IntsIn w a xs) (d : Nat) : IntsIn (w.drewN d) a xs := h
/-- Where an own slice lies, and how it reads. -/
theorem own_reads {B : Nat} {w : World} {v : Value} {xs : List Int} (h : OwnInts B w v xs) :
    ∃ a cap, v = .slice a xs.length cap ∧ IntsIn w a xs ∧ (∀ p, a = some p → B ≤ p.block ∧ p.block < w.heap.size) ∧ (xs ≠ [] → ∃ g, a = some ⟨g, 0, none⟩) := by
  have h' := h
  obtain ⟨h1, ⟨hv, hn⟩ | ⟨g, cap, cur, rfl, hg, hh, hr⟩⟩ := h'
  · have hx : xs = [] := List.eq_nil_of_length_eq_zero hn
    subst hx
    exact ⟨none, 0, by rw [hv]; rfl, IntsIn.nil _ _, (fun p hp => by cases hp), fun h => absurd rfl h⟩
  · refine ⟨some ⟨g, 0, none⟩, cap, rfl, fun j x hx => ⟨g, 0, rfl, ?_⟩, fun p hp => ?_, fun _ => ⟨g, rfl⟩⟩
    · have hj : j < xs.length := (List.getElem?_eq_some_iff.1 hx).1
      rw [Nat.zero_add, World.ownsRow.cellAt h j (by omega)]
      simp [hx]
    · obtain rfl := Option.some.inj hp
      exact ⟨hg, lt_of_block hh⟩
theorem IntsIn.below {B : Nat} {w w' : World} {a : Option Addr} {xs : List Int} (h : IntsIn w a xs) (ha : ∀ p, a = some p → p.block < B) (hb : Below B w w') : IntsIn w' a xs := fun j x hx => by
  obtain ⟨b, o, h1, h2⟩ := h j x hx
  exact ⟨b, o, h1, by rw [hb.cell (p := ⟨b, o + j, none⟩) (show b < B from ha ⟨b, o, none⟩ h1)]; exact h2⟩
theorem IntsIn.same {w w' : World} {a : Option Addr} {xs : List Int} (h : IntsIn w a xs) (ha : ∀ p, a = some p → w'.heap[p.block]? = w.heap[p.block]?) : IntsIn w' a xs := fun j x hx => by
  obtain ⟨b, o, h1, h2⟩ := h j x hx
  exact ⟨b, o, h1, by rw [World.cell?_of_block (w := w) (a := ⟨b, o + j, none⟩) (ha ⟨b, o, none⟩ h1)]; exact h2⟩
theorem OwnInts.nil (B : Nat) (w : World) : OwnInts B w (.slice none 0 0) [] := World.ownsRow_nil _ _ _ _
theorem OwnInts.more {B : Nat} {w' : World} {v' : Value} {xs : List Int} {x : Int} (h : w'.ownsRow B 3 1 v' (xs.length + 1) (xs.map (Value.int .i64) ++ [.int .i64 x])) : OwnInts B w' v' (xs ++ [x]) := by
  unfold OwnInts
  simpa using h
theorem OwnInts.below {B : Nat} {w w' : World} {v : Value} {xs : List Int} (h : OwnInts B w v xs) (hb : Below w.heap.size w w') : OwnInts B w' v xs :=
  World.ownsRow.kept h (row := none) ⟨hb.os, hb.tape, hb.output, hb.size, fun k hk _ => hb.block k hk⟩ (by cases v.ownBlock <;> simp)
theorem OwnInts.drewN {B : Nat} {w : World} {v : Value} {xs : List Int} (h : OwnInts B w v xs) (d : Nat) : OwnInts B (w.drewN d) v xs := h
theorem OwnInts.alloc {B : Nat} {w : World} {v : Value} {xs : List Int} (h : OwnInts B w v xs) (o : Obj) : OwnInts B (w.alloc o) v xs := World.ownsRow.alloc h o
/-- What a function that makes a slice of integers returns. -/
def MakesInts (xs : List Int) (w : World) (e : Ending) (w' : World) : Prop := ∃ v, e = .returned v ∧ OwnInts w.heap.size w' v xs ∧ Below w.heap.size w w'
end Go.Proofs.YtlaohlcghdbjhaaDoor
