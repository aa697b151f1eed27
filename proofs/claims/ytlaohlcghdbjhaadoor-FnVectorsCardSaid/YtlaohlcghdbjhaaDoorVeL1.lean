/- The walks of FnExactAllValid and FnExactEqualVector: for every input the law returns true. -/
import Derived.Test.YtlaohlcghdbjhaaDoorVeB
import Derived.Test.YtlaohlcghdbjhaaDoorVeA
namespace Go.Proofs.YtlaohlcghdbjhaaDoor
open Go.RowKit
open Ve (R)
/-- A copy of the call's own, and how it reads. -/
theorem copied {xs : List R} {w w' : World} {e : Ending} (h : MakesRats xs w e w') : ∃ a c, e = .returned (.slice a xs.length c) ∧ RatsIn w'.heap.size w' a xs ∧ (∀ p, a = some p → w.heap.size ≤ p.block ∧ p.block < w'.heap.size) ∧ OwnRats w.heap.size w' (.slice a xs.length c) xs ∧ Below w.heap.size w w' := by
  obtain ⟨v, rfl, ho, hb⟩ := h
  obtain ⟨a, c, rfl, hr, ha, _⟩ := own_rats ho
  exact ⟨a, c, rfl, hr, ha, ho, hb⟩
/-- Slices that read as lists, all of them. -/
def AllIn (w : World) (L : List (Option Addr × List R)) : Prop := ∀ p, p ∈ L → RatsIn w.heap.size w p.1 p.2
theorem AllIn.below {w w' : World} {L : List (Option Addr × List R)} (h : AllIn w L) (hb : Below w.heap.size w w') : AllIn w' L := fun p hp => ((h p hp).below hb).mono hb.size
theorem AllIn.add {w : World} {L : List (Option Addr × List R)} (h : AllIn w L) {a : Option Addr} {xs : List R} (h2 : RatsIn w.heap.size w a xs) : AllIn w ((a, xs) :: L) := fun p hp => by
  rcases List.mem_cons.1 hp with rfl | hp
  · exact h2
  · exact h p hp
theorem AllIn.get {w : World} {L : List (Option Addr × List R)} (h : AllIn w L) (a : Option Addr) (xs : List R) (hm : (a, xs) ∈ L) : RatsIn w.heap.size w a xs := h _ hm
theorem AllIn.start (w : World) : AllIn w [] := fun p hp => by cases hp
theorem AllIn.sub {w : World} {L L' : List (Option Addr × List R)} (h : AllIn w L) (hs : ∀ p, p ∈ L' → p ∈ L) : AllIn w L' := fun p hp => h p (hs p hp)
theorem drawn_below {P : Program} {f : FuncId} {args : Array Value} {w : World} {v : Value} (h : Calls P f args w fun e w' => e = .returned v ∧ ∃ d, w' = w.drewN d) : Calls P f args w fun e w' => e = .returned v ∧ Below w.heap.size w w' :=
  h.mono fun _ _ ⟨he, d, hd⟩ => ⟨he, by rw [hd]; exact below_drewN (Below.refl _ _) d⟩
end Go.Proofs.YtlaohlcghdbjhaaDoor
