/- Kinds of arguments and results of exact laws: slices of fractions, of ints. -/
import Derived.Test.YtpidlmmpejoeaaaGreatGK
namespace Go.Proofs.YtpidlmmpejoeaaaGreat
open Go.RowKit
open Ve (R)
def InRats (w : World) (v : Value) (xs : List R) : Prop := ∃ (a : Option Addr) (c : Nat), v = .slice a xs.length c ∧ RatsIn w.heap.size w a xs
theorem InRats.up {w w' : World} {v : Value} {xs : List R} (h : InRats w v xs) (hb : Below w.heap.size w w') : InRats w' v xs := by
 obtain ⟨a, c, e, hi⟩ := h
 exact ⟨a, c, e, (hi.below hb).mono hb.size⟩
theorem InRats.rg {w : World} {v : Value} {xs : List R} (h : InRats w v xs) : Rg (fun w' => InRats w' v xs) 0 w.heap.size w :=
 ⟨h, Nat.le_refl _, fun w' hs hk => by
  obtain ⟨a, c, e, hi⟩ := h
  refine ⟨a, c, e, RatsIn.mono (fun j x hx => ?_) hs⟩
  obtain ⟨b, o, e1, h2, h3, h4⟩ := hi j x hx
  have hc : ∀ i, w'.cell? ⟨b, i, none⟩ = w.cell? ⟨b, i, none⟩ := fun i => World.cell?_of_block (w := w) (a := ⟨b, i, none⟩) (hk b (Nat.zero_le _) h2)
  exact ⟨b, o, e1, h2, by rw [hc]; exact h3, by rw [hc]; exact h4⟩⟩
def RsRats (lo hi : Nat) (w : World) (v : Value) (xs : List R) : Prop := RowAt lo hi w v xs ∧ hi ≤ w.heap.size
theorem RsRats.rg {lo hi : Nat} {w : World} {v : Value} {xs : List R} (h : RsRats lo hi w v xs) : Rg (fun w' => RsRats lo hi w' v xs) lo hi w :=
 ⟨h, h.2, fun w' hs hk => ⟨h.1.same fun b hb => by have := h.1.blk hb; exact hk b this.1 this.2.1, Nat.le_trans h.2 hs⟩⟩
theorem RsRats.reads {lo hi : Nat} {w : World} {v : Value} {xs : List R} (h : RsRats lo hi w v xs) : InRats w v xs := by
 obtain ⟨a, c, e, hr⟩ := h.1.reads
 exact ⟨a, c, e, hr.mono h.2⟩
theorem rats_new {w w' : World} {v : Value} {xs : List R} (ho : OwnRats w.heap.size w' v xs) : RsRats w.heap.size w'.heap.size w' v xs :=
 ⟨RowAt.of_own ho fun g hg => (World.ownsRow.lt ho g hg).2, Nat.le_refl _⟩
end Go.Proofs.YtpidlmmpejoeaaaGreat
