/- What the specification's calls leave of tableaus. -/
import Derived.Test.YtmjmjilpcekngaaGTo
import Derived.Test.YtmjmjilpcekngaaGTa
namespace Go.Proofs.Ytmjmjilpcekngaa
open Go.RowKit
open Ve (R)
open Ta (T)
def SpTab (lo hi : Nat) (w : World) (v : Value) (t : T) : Prop := hi ≤ w.heap.size ∧ ∃ w0 : World, w0.heap.size = hi ∧ OwnTab lo w0 v t ∧ ∀ k, lo ≤ k → k < hi → w.heap[k]? = w0.heap[k]?
theorem SpTab.rg {lo hi : Nat} {w : World} {v : Value} {t : T} (h : SpTab lo hi w v t) : Rg (fun w' => SpTab lo hi w' v t) lo hi w := by
 obtain ⟨h1, w0, e, ho, hk⟩ := h
 exact ⟨⟨h1, w0, e, ho, hk⟩, h1, fun w' hs hk2 => ⟨Nat.le_trans h1 hs, w0, e, ho, fun k a b => (hk2 k a b).trans (hk k a b)⟩⟩
theorem SpTab.new {lo : Nat} {w : World} {v : Value} {t : T} (h : OwnTab lo w v t) : SpTab lo w.heap.size w v t := ⟨Nat.le_refl _, w, rfl, h, fun _ _ _ => rfl⟩
theorem SpTab.reads_c {lo hi : Nat} {w : World} {x y z : Value} {t : T} (h : SpTab lo hi w (.agg #[x, y, z]) t) : TabC w x y z t := by
 obtain ⟨h1, w0, rfl, ⟨vR, vB, e, hR, hB⟩, hk⟩ := h
 injection e with e
 have e1 : x = vR := by have := congrArg (fun q => q[0]?) e; simpa using this
 have e2 : y = vB := by have := congrArg (fun q => q[1]?) e; simpa using this
 have e3 : z = .int .i64 t.cols := by have := congrArg (fun q => q[2]?) e; simpa using this
 subst e1 e2 e3
 obtain ⟨a, c1, e1, hr, _⟩ := (hR.high hk).reads
 obtain ⟨b, c2, e2, hb, pb, _⟩ := own_reads (hB.high hk)
 exact ⟨a, b, c1, c2, e1, e2, rfl, hr, NumsIn.of_ints hb fun p hp => (pb p hp).2⟩
theorem made_spec {t : T} {k : Bool} {w w' : World} {e : Ending} (h : MakesTabK t k w e w') :
  (∃ x y z : Value, e = .returned (.tuple #[.agg #[x, y, z], .bool k]) ∧ SpTab w.heap.size w'.heap.size w' (.agg #[x, y, z]) t) ∧ Below w.heap.size w w' := by
 obtain ⟨vR, vB, he, ho, hb⟩ := h
 exact ⟨⟨_, _, _, he, SpTab.new ho⟩, hb⟩
end Go.Proofs.Ytmjmjilpcekngaa
