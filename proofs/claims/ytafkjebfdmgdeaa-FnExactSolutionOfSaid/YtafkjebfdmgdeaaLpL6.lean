/- FnExactColumnOf: the walk, from the two contracts. -/
import Derived.Test.YtafkjebfdmgdeaaLpV
import Derived.Test.YtafkjebfdmgdeaaIntsLaw
namespace Go.Proofs.Ytafkjebfdmgdeaa
open Go.RowKit
open Ve (R)
open Lp (P Res)
theorem stable_since (W : World) : Stable fun w => Since W w := fun _ _ hb h => h.trans hb
theorem stable_ints (B : Nat) (v : Value) (xs : List Int) : Stable fun w => OwnInts B w v xs := fun _ _ hb h => h.below hb
theorem stable_ownlp (lo hi : Nat) (v : Value) (p : P) : Stable fun w => OwnLP lo hi w v p := fun _ _ hb h => h.below hb
/-- What a box and an LP read as, since the box was laid. -/
theorem lp_since {w w' : World} {x y z : Value} {p : P} {t : TypeId} (h : LpC w x y z p) (hs : Since (w.alloc (.cells #[x, y, z] t)) w') : CellsAt w' w.heap.size #[x, y, z] t ∧ LpC w' x y z p ∧ Below w.heap.size w w' := by
  have hal : Below w.heap.size w (w.alloc (.cells #[x, y, z] t)) := (Below.refl _ _).alloc (Nat.le_refl _) _
  have hsz := hal.size
  exact ⟨(CellsAt.new w #[x, y, z] t).below hs.low, (h.up hal).up hs.low, hal.trans (hs.low.mono hsz)⟩
theorem Since.turned {W w w' : World} {lo hi : Nat} (h : Since W w) (ht : Turned lo hi w w') (hlo : W.heap.size ≤ lo) (hle : lo ≤ w.heap.size) : Since W w' := ⟨h.low.trans ((ht.low hle).mono hlo)⟩
theorem Since.grown' {W w w' : World} {row : Option Nat} (h : Since W w) (hg : w.grownBy w' row) (hr : ∀ g, row = some g → W.heap.size ≤ g) : Since W w' := ⟨h.low.grown hg h.low.size hr⟩
/-- A slice of the call's own: where it lies, how it reads. -/
theorem own_read {B : Nat} {w : World} {a : Option Addr} {n c : Nat} {xs : List Int} (h : OwnInts B w (.slice a n c) xs) : IntsIn w a xs := by
  obtain ⟨a', c', he, hr, _, _⟩ := own_reads h
  obtain ⟨rfl, _⟩ : a = a' ∧ c = c' := by injection he with h1 h2 h3; exact ⟨h1, h3⟩
  exact hr
theorem made_ints {xs : List Int} {w w' : World} {e : Ending} (h : MakesInts xs w e w') : (∃ (a : Option Addr) (c : Nat), e = .returned (.slice a xs.length c) ∧ OwnInts w.heap.size w' (.slice a xs.length c) xs) ∧ Below w.heap.size w w' := by
  obtain ⟨v, he, ho, hb⟩ := h
  obtain ⟨a, c, rfl, _⟩ := own_reads ho
  exact ⟨⟨a, c, he, ho⟩, hb⟩
end Go.Proofs.Ytafkjebfdmgdeaa
