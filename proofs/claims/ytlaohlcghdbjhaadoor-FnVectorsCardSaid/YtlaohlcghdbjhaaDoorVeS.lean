/- Slices of fractions that lie apart: each between two numbers of blocks; what marking one of them does to the others. -/
import Derived.Test.YtlaohlcghdbjhaaDoorVeB
namespace Go.Proofs.YtlaohlcghdbjhaaDoor
open Go.RowKit
open Ve (R)
/-- Block b of what is read: lo ≤ b < hi. -/
def SeqIn (w : World) (lo hi : Nat) (a : Option Addr) (xs : List R) : Prop := (∀ p, a = some p → lo ≤ p.block) ∧ RatsIn hi w a xs
def AllS (w : World) (L : List (Option Addr × List R × Nat × Nat)) : Prop := ∀ p, p ∈ L → SeqIn w p.2.2.1 p.2.2.2 p.1 p.2.1 ∧ p.2.2.2 ≤ w.heap.size
theorem AllS.start (w : World) : AllS w [] := fun p hp => by cases hp
theorem AllS.below {w w' : World} {L : List (Option Addr × List R × Nat × Nat)} (h : AllS w L) (hb : Below w.heap.size w w') : AllS w' L := fun p hp =>
  ⟨⟨(h p hp).1.1, (h p hp).1.2.below (hb.mono (h p hp).2)⟩, Nat.le_trans (h p hp).2 hb.size⟩
theorem AllS.drew {w : World} {L : List (Option Addr × List R × Nat × Nat)} (h : AllS w L) : AllS w.drew L := h
theorem AllS.add {w : World} {L : List (Option Addr × List R × Nat × Nat)} (h : AllS w L) {lo hi : Nat} {a : Option Addr} {xs : List R} (h2 : RatsIn hi w a xs) (h3 : ∀ p, a = some p → lo ≤ p.block) (h4 : hi ≤ w.heap.size) : AllS w ((a, xs, lo, hi) :: L) := fun p hp => by
  rcases List.mem_cons.1 hp with rfl | hp
  · exact ⟨⟨h3, h2⟩, h4⟩
  · exact h p hp
theorem AllS.get {w : World} {L : List (Option Addr × List R × Nat × Nat)} (h : AllS w L) (a : Option Addr) (xs : List R) (lo hi : Nat) (hm : (a, xs, lo, hi) ∈ L) : RatsIn w.heap.size w a xs := (h _ hm).1.2.mono (h _ hm).2
theorem AllS.sub {w : World} {L L' : List (Option Addr × List R × Nat × Nat)} (h : AllS w L) (hs : ∀ p, p ∈ L' → p ∈ L) : AllS w L' := fun p hp => h p (hs p hp)
/-- One block has turned, that is in nobody's stretch. -/
theorem AllS.grown {w w' : World} {row : Option Nat} {L : List (Option Addr × List R × Nat × Nat)} (h : AllS w L) (hg : w.grownBy w' row) (hne : ∀ p, p ∈ L → ∀ g, row = some g → g < p.2.2.1 ∨ p.2.2.2 ≤ g) : AllS w' L := fun p hp => by
  obtain ⟨⟨h1, h2⟩, h3⟩ := h p hp
  refine ⟨⟨h1, h2.same fun q hq hlt => hg.block q.block (by omega) (fun e => ?_)⟩, Nat.le_trans h3 hg.size⟩
  have a1 := hne p hp q.block e.symm
  have a2 := h1 q hq
  omega
/-- Where a row's block lies. -/
theorem own_block {lo : Nat} {w : World} {v : Value} {xs : List R} (h : OwnRats lo w v xs) : ∀ g, v.ownBlock = some g → lo ≤ g ∧ g < w.heap.size := World.ownsRow.lt h
theorem OwnRats.grown {lo : Nat} {w w' : World} {v : Value} {xs : List R} {row : Option Nat} (h : OwnRats lo w v xs) (hg : w.grownBy w' row) (hne : ∀ g, v.ownBlock = some g → row ≠ some g) : OwnRats lo w' v xs :=
  World.ownsRow.kept h hg (by
    cases hv : v.ownBlock with
    | none => exact .inl rfl
    | some g => exact .inr (fun e => hne g hv e.symm))
theorem Since.grown {B w w' : World} {row : Option Nat} (h : Since B w) (hg : w.grownBy w' row) (hr : ∀ g, row = some g → B.heap.size ≤ g) : Since B w' := ⟨h.low.grown hg h.low.size hr⟩
theorem RatsIn.narrow {B B' : Nat} {w : World} {a : Option Addr} {xs : List R} (h : RatsIn B w a xs) (ha : ∀ p, a = some p → p.block < B') : RatsIn B' w a xs := fun j x hx => by
  obtain ⟨b, o, h1, h2, h3⟩ := h j x hx
  exact ⟨b, o, h1, ha ⟨b, o, none⟩ h1, h3⟩
theorem block_of {a : Option Addr} {n c lo hi : Nat} (h : ∀ g, (Value.slice a n c).ownBlock = some g → lo ≤ g ∧ g < hi) : ∀ p, a = some p → lo ≤ p.block ∧ p.block < hi := fun p hp => h p.block (by rw [hp]; rfl)
/-- A row marked reads as marked. -/
theorem marked_reads {lo k n : Nat} {w : World} {a : Option Addr} {c m : Nat} (h : OwnRats lo w (.slice a m c) (marksR k n)) : RatsIn w.heap.size w a (marksR k n) ∧ ∀ p, a = some p → lo ≤ p.block ∧ p.block < w.heap.size := by
  obtain ⟨a', c', he, hr, ha, _⟩ := own_rats h
  obtain ⟨rfl, _, _⟩ : a = a' ∧ m = (marksR k n).length ∧ c = c' := by injection he with h1 h2 h3; exact ⟨h1, h2, h3⟩
  exact ⟨hr, ha⟩
end Go.Proofs.YtlaohlcghdbjhaaDoor
