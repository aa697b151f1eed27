/- LPs and results by their cells, which stay closed: words for the walks of laws that take them. -/
import Derived.Test.YtfbhnjdbamahkaaGLr
import Derived.Deep.RegionHeld3
namespace Go.Proofs.Ytfbhnjdbamahkaa
open Go.RowKit
open Ve (R)
open Lp (P Res)
/-- The cells of an LP. -/
def LpC (w : World) (x y z : Value) (p : P) : Prop := ∃ (a b c : Option Addr) (c1 c2 c3 : Nat), x = .slice a p.A.length c1 ∧ y = .slice b p.B.length c2 ∧ z = .slice c p.C.length c3 ∧ LpIn w.heap.size w a b c p
theorem LpC.up {w w' : World} {x y z : Value} {p : P} (h : LpC w x y z p) (hb : Below w.heap.size w w') : LpC w' x y z p := by
  obtain ⟨a, b, c, c1, c2, c3, e1, e2, e3, hi⟩ := h
  exact ⟨a, b, c, c1, c2, c3, e1, e2, e3, (hi.below hb).mono hb.size⟩
theorem LpC.one {w : World} {x y z : Value} {p : P} (h : LpC w x y z p) : x.oneCell' = true ∧ y.oneCell' = true ∧ z.oneCell' = true := by
  obtain ⟨a, b, c, c1, c2, c3, rfl, rfl, rfl, _⟩ := h
  exact ⟨rfl, rfl, rfl⟩
theorem stable_lp (x y z : Value) (p : P) : Stable fun w => LpC w x y z p := fun _ _ hb h => h.up hb
/-- The cells of a result. -/
def ResC (w : World) (u0 u1 u2 u3 u4 u5 u6 : Value) (r : Res) : Prop := ∃ (a b c : Option Addr) (c1 c2 c3 : Nat), u0 = .int .i64 r.status ∧ u1 = .slice a r.X.length c1 ∧ u2 = .slice b r.Y.length c2 ∧ u3 = .slice c r.ray.length c3 ∧ u4 = .int .i64 r.value.1 ∧ u5 = .int .i64 r.value.2 ∧ u6 = .int .i64 r.pivots ∧ ResIn w.heap.size w a b c r
theorem ResC.up {w w' : World} {u0 u1 u2 u3 u4 u5 u6 : Value} {r : Res} (h : ResC w u0 u1 u2 u3 u4 u5 u6 r) (hb : Below w.heap.size w w') : ResC w' u0 u1 u2 u3 u4 u5 u6 r := by
  obtain ⟨a, b, c, c1, c2, c3, e0, e1, e2, e3, e4, e5, e6, hi⟩ := h
  exact ⟨a, b, c, c1, c2, c3, e0, e1, e2, e3, e4, e5, e6, (hi.below hb).mono hb.size⟩
theorem ResC.one {w : World} {u0 u1 u2 u3 u4 u5 u6 : Value} {r : Res} (h : ResC w u0 u1 u2 u3 u4 u5 u6 r) : u0.oneCell' = true ∧ u1.oneCell' = true ∧ u2.oneCell' = true ∧ u3.oneCell' = true ∧ u4.oneCell' = true ∧ u5.oneCell' = true ∧ u6.oneCell' = true := by
  obtain ⟨a, b, c, c1, c2, c3, rfl, rfl, rfl, rfl, rfl, rfl, rfl, _⟩ := h
  exact ⟨rfl, rfl, rfl, rfl, rfl, rfl, rfl⟩
theorem stable_res (u0 u1 u2 u3 u4 u5 u6 : Value) (r : Res) : Stable fun w => ResC w u0 u1 u2 u3 u4 u5 u6 r := fun _ _ hb h => h.up hb
theorem szLP_c {w : World} {x y z : Value} {p : P} (h : LpC w x y z p) (hn : LpLens p) (left : Int) (hl0 : 0 ≤ left) (hl1 : left ≤ 1048576) :
    Calls Try.prog 24 #[.agg #[x, y, z], .int .i64 left] w fun e w' => (∃ r : Int, e = .returned (.int .i64 r) ∧ -1 ≤ r ∧ r ≤ 1048576 ∧ (0 ≤ r → (lpN p : Int) + r = left)) ∧ Below w.heap.size w w' := by
  obtain ⟨a, b, c, c1, c2, c3, rfl, rfl, rfl, hi⟩ := h
  exact (szLP w.heap.size a b c c1 c2 c3 p left hn hl0 hl1 w (Nat.le_refl _) hi).mono fun _ _ ⟨r, h1, h2, h3, h4, h5⟩ => ⟨⟨r, h1, h2, h3, h4⟩, h5⟩
/-- A new LP. -/
def NewLP (w : World) (p : P) (e : Ending) (w' : World) : Prop := ∃ x y z : Value, e = .returned (.agg #[x, y, z]) ∧ LpC w' x y z p ∧ OwnLP w.heap.size w'.heap.size w' (.agg #[x, y, z]) p
theorem toLP_c {w : World} {x y z : Value} {p : P} (h : LpC w x y z p) (hf : LpFits p) :
    Calls Try.prog 26 #[.agg #[x, y, z]] w fun e w' => NewLP w p e w' ∧ Below w.heap.size w w' := by
  obtain ⟨a, b, c, c1, c2, c3, rfl, rfl, rfl, hi⟩ := h
  refine (toLP w.heap.size a b c c1 c2 c3 p hf w (Nat.le_refl _) hi).mono fun e w' ⟨v, he, ho, hb⟩ => ⟨?_, hb⟩
  obtain ⟨a', b', c', d1, d2, d3, rfl, hr, hh⟩ := ho.reads
  exact ⟨_, _, _, he, ⟨a', b', c', d1, d2, d3, rfl, rfl, rfl, hr.mono hh⟩, ho⟩
theorem eqLP_c {w : World} {x y z x' y' z' : Value} {p : P} (h : LpC w x y z p) (h' : LpC w x' y' z' p) (hf : LpFits p) :
    Calls Try.prog 28 #[.agg #[x, y, z], .agg #[x', y', z']] w fun e w' => e = .returned (.bool true) ∧ Below w.heap.size w w' := by
  obtain ⟨a, b, c, c1, c2, c3, rfl, rfl, rfl, hi⟩ := h
  obtain ⟨a', b', c', d1, d2, d3, rfl, rfl, rfl, hi'⟩ := h'
  exact eqLP w.heap.size a b c a' b' c' c1 c2 c3 d1 d2 d3 p hf w (Nat.le_refl _) hi hi'
theorem szRes_c {w : World} {u0 u1 u2 u3 u4 u5 u6 : Value} {r : Res} (h : ResC w u0 u1 u2 u3 u4 u5 u6 r) (hn : ResLens r) (left : Int) (hl0 : 0 ≤ left) (hl1 : left ≤ 1048576) :
    Calls Try.prog 40 #[.agg #[u0, u1, u2, u3, u4, u5, u6], .int .i64 left] w fun e w' => (∃ q : Int, e = .returned (.int .i64 q) ∧ -1 ≤ q ∧ q ≤ 1048576 ∧ (0 ≤ q → (resN r : Int) + q = left)) ∧ Below w.heap.size w w' := by
  obtain ⟨a, b, c, c1, c2, c3, rfl, rfl, rfl, rfl, rfl, rfl, rfl, hi⟩ := h
  exact (szRes a b c c1 c2 c3 r left hn hl0 hl1 w).mono fun _ _ ⟨q, h1, h2, h3, h4, h5⟩ => ⟨⟨q, h1, h2, h3, h4⟩, h5⟩
/-- A new result. -/
def NewRes (w : World) (r : Res) (e : Ending) (w' : World) : Prop := ∃ u0 u1 u2 u3 u4 u5 u6 : Value, e = .returned (.agg #[u0, u1, u2, u3, u4, u5, u6]) ∧ ResC w' u0 u1 u2 u3 u4 u5 u6 r ∧ OwnRes w.heap.size w'.heap.size w' (.agg #[u0, u1, u2, u3, u4, u5, u6]) r
theorem toRes_c {w : World} {u0 u1 u2 u3 u4 u5 u6 : Value} {r : Res} (h : ResC w u0 u1 u2 u3 u4 u5 u6 r) (hf : ResFits r) :
    Calls Try.prog 42 #[.agg #[u0, u1, u2, u3, u4, u5, u6]] w fun e w' => NewRes w r e w' ∧ Below w.heap.size w w' := by
  obtain ⟨a, b, c, c1, c2, c3, rfl, rfl, rfl, rfl, rfl, rfl, rfl, hi⟩ := h
  refine (toRes w.heap.size a b c c1 c2 c3 r hf w (Nat.le_refl _) hi).mono fun e w' ⟨v, he, ho, hb⟩ => ⟨?_, hb⟩
  obtain ⟨a', b', c', d1, d2, d3, rfl, hr, hh⟩ := ho.reads
  exact ⟨_, _, _, _, _, _, _, he, ⟨a', b', c', d1, d2, d3, rfl, rfl, rfl, rfl, rfl, rfl, rfl, hr.mono hh⟩, ho⟩
theorem eqRes_c {w : World} {u0 u1 u2 u3 u4 u5 u6 v0 v1 v2 v3 v4 v5 v6 : Value} {r : Res} (h : ResC w u0 u1 u2 u3 u4 u5 u6 r) (h' : ResC w v0 v1 v2 v3 v4 v5 v6 r) (hf : ResFits r) :
    Calls Try.prog 44 #[.agg #[u0, u1, u2, u3, u4, u5, u6], .agg #[v0, v1, v2, v3, v4, v5, v6]] w fun e w' => e = .returned (.bool true) ∧ Below w.heap.size w w' := by
  obtain ⟨a, b, c, c1, c2, c3, rfl, rfl, rfl, rfl, rfl, rfl, rfl, hi⟩ := h
  obtain ⟨a', b', c', d1, d2, d3, rfl, rfl, rfl, rfl, rfl, rfl, rfl, hi'⟩ := h'
  exact eqRes w.heap.size a b c a' b' c' c1 c2 c3 d1 d2 d3 r hf w (Nat.le_refl _) hi hi'
/-- The cells of two results' function that answers a bool. -/
def ResResC (f : FuncId) (g : Res → Res → Bool) : Prop := ∀ (w : World) (u0 u1 u2 u3 u4 u5 u6 v0 v1 v2 v3 v4 v5 v6 : Value) (r s : Res), ResFits r → ResFits s → ResC w u0 u1 u2 u3 u4 u5 u6 r → ResC w v0 v1 v2 v3 v4 v5 v6 s →
  Calls Try.prog f #[.agg #[u0, u1, u2, u3, u4, u5, u6], .agg #[v0, v1, v2, v3, v4, v5, v6]] w fun e w' => e = .returned (.bool (g r s)) ∧ Below w.heap.size w w'
/-- .. of an LP's and a result's. -/
def LpResC (f : FuncId) (g : P → Res → Bool) : Prop := ∀ (w : World) (x y z u0 u1 u2 u3 u4 u5 u6 : Value) (p : P) (r : Res), LpFits p → ResFits r → (Lit.int .i64 r.status).wf = true → LpC w x y z p → ResC w u0 u1 u2 u3 u4 u5 u6 r →
  Calls Try.prog f #[.agg #[x, y, z], .agg #[u0, u1, u2, u3, u4, u5, u6]] w fun e w' => e = .returned (.bool (g p r)) ∧ Below w.heap.size w w'
end Go.Proofs.Ytfbhnjdbamahkaa
