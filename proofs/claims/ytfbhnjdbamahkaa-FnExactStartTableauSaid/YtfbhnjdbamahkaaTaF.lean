/- Tableaus by their cells, which stay closed: words for the walks of laws that take them. -/
import Derived.Test.YtfbhnjdbamahkaaTaL3
import Derived.Test.YtfbhnjdbamahkaaLpV
namespace Go.Proofs.Ytfbhnjdbamahkaa
open Go.RowKit
open Ve (R)
open Ta (T)
/-- The cells of a tableau. -/
def TabC (w : World) (x y z : Value) (t : T) : Prop := ∃ (a b : Option Addr) (c1 c2 : Nat), x = .slice a t.rows.length c1 ∧ y = .slice b t.basis.length c2 ∧ z = .int .i64 t.cols ∧ TabIn w.heap.size w a b t
theorem TabC.up {w w' : World} {x y z : Value} {t : T} (h : TabC w x y z t) (hb : Below w.heap.size w w') : TabC w' x y z t := by
  obtain ⟨a, b, c1, c2, e1, e2, e3, hi⟩ := h
  exact ⟨a, b, c1, c2, e1, e2, e3, (hi.below hb).mono hb.size⟩
theorem TabC.one {w : World} {x y z : Value} {t : T} (h : TabC w x y z t) : x.oneCell' = true ∧ y.oneCell' = true ∧ z.oneCell' = true := by
  obtain ⟨a, b, c1, c2, rfl, rfl, rfl, _⟩ := h
  exact ⟨rfl, rfl, rfl⟩
theorem stable_tab (x y z : Value) (t : T) : Stable fun w => TabC w x y z t := fun _ _ hb h => h.up hb
def TabLens' (t : T) : Prop := TabLens t ∧ (Lit.int .i64 t.cols).wf = true
theorem tabFits' {t : T} (hw : TabLens' t) (h : tabN t ≤ 1048576) : TabFits t := tabFits h hw.2
/-- A new tableau. -/
def NewTab (w : World) (t : T) (e : Ending) (w' : World) : Prop := ∃ x y z : Value, e = .returned (.agg #[x, y, z]) ∧ TabC w' x y z t ∧ ResTab w.heap.size w'.heap.size w' (.agg #[x, y, z]) t
theorem new_tab {w w' : World} {t : T} {v : Value} (ho : ResTab w.heap.size w'.heap.size w' v t) : NewTab w t (.returned v) w' := by
  obtain ⟨a', b', d1, d2, rfl, hr, hh⟩ := ho.reads
  exact ⟨_, _, _, rfl, ⟨a', b', d1, d2, rfl, rfl, rfl, hr⟩, ho⟩
theorem eqTab_c {w : World} {x y z x' y' z' : Value} {t : T} (h : TabC w x y z t) (h' : TabC w x' y' z' t) (hf : TabFits t) :
    Calls Try.prog 45 #[.agg #[x, y, z], .agg #[x', y', z']] w fun e w' => e = .returned (.bool true) ∧ Below w.heap.size w w' := by
  obtain ⟨a, b, c1, c2, rfl, rfl, rfl, hi⟩ := h
  obtain ⟨a', b', d1, d2, rfl, rfl, rfl, hi'⟩ := h'
  exact eqTab w.heap.size a b a' b' c1 c2 d1 d2 t hf w (Nat.le_refl _) hi hi'
/-- Two tableaus' function that answers a bool. -/
def TabTabC (f : FuncId) (g : T → T → Bool) : Prop := ∀ (w : World) (u0 u1 u2 v0 v1 v2 : Value) (s t : T), TabFits s → TabFits t → TabC w u0 u1 u2 s → TabC w v0 v1 v2 t →
  Calls Try.prog f #[.agg #[u0, u1, u2], .agg #[v0, v1, v2]] w fun e w' => e = .returned (.bool (g s t)) ∧ Below w.heap.size w w'
end Go.Proofs.Ytfbhnjdbamahkaa
