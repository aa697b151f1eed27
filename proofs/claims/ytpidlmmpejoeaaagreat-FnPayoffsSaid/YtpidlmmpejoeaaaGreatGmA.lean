/- Games in memory; a kind of arguments and results of exact laws: laws.szGame, toGame, eqGame, markGame, heldGame. -/
import Derived.Test.YtpidlmmpejoeaaaGreatGK
import Derived.Test.YtpidlmmpejoeaaaGreatGmM
namespace Go.Proofs.YtpidlmmpejoeaaaGreat
open Go.RowKit
open Gm (G)

theorem two {w : World} {q : Nat} {x y : Value} {t : TypeId} (h : CellsAt w q #[x, y] t) : w.cell? ⟨q, 0, none⟩ = some x ∧ w.cell? ⟨q, 1, none⟩ = some y := ⟨h.cell 0, h.cell 1⟩
theorem two' {w : World} {q : Nat} {x y : Value} {t : TypeId} (h : CellsAt w q #[x, y] t) : w.cell? ⟨q, 0, none⟩ = some x ∧ w.cell? ⟨q, 1, none⟩ = some y ∧ w.frozen? ⟨q, 0, none⟩ = false ∧ w.frozen? ⟨q, 1, none⟩ = false := ⟨h.cell 0, h.cell 1, h.free 0, h.free 1⟩
theorem CellsAt.s0 {w : World} {q : Nat} {x y : Value} {t : TypeId} (h : CellsAt w q #[x, y] t) (u : Value) : CellsAt (w.setCell ⟨q, 0, none⟩ u) q #[u, y] t := by
 have := h.set 0 u
 simpa using this
theorem CellsAt.s1 {w : World} {q : Nat} {x y : Value} {t : TypeId} (h : CellsAt w q #[x, y] t) (u : Value) : CellsAt (w.setCell ⟨q, 1, none⟩ u) q #[x, u] t := by
 have := h.set 1 u
 simpa using this
def GmLens (g : G) : Prop := g.v.length ≤ 9223372036854775807 ∧ (Lit.int .i64 g.n).wf = true
def GmOk (g : G) : Prop := g.v.length ≤ 1048576 ∧ (Lit.int .i64 g.n).wf = true
theorem gmOk {g : G} (hw : GmLens g) (h : g.v.length ≤ 1048576) : GmOk g := ⟨h, hw.2⟩
theorem GmOk.n {g : G} (h : GmOk g) : -9223372036854775808 ≤ g.n ∧ g.n ≤ 9223372036854775807 := by
 have h2 := h.2
 have e1 : IntKind.i64.min = -9223372036854775808 := rfl
 have e2 : IntKind.i64.max = 9223372036854775807 := rfl
 simp [Lit.wf, e1, e2] at h2
 exact h2
def GmC (w : World) (x y : Value) (g : G) : Prop := ∃ (a : Option Addr) (c : Nat), x = .int .i64 g.n ∧ y = .slice a g.v.length c ∧ NumsIn w.heap.size w a g.v
def ResGm (lo hi : Nat) (w : World) (v : Value) (g : G) : Prop := ∃ vV : Value, v = .agg #[.int .i64 g.n, vV] ∧ RowAtI lo hi w vV g.v ∧ hi ≤ w.heap.size
theorem GmC.up {w w' : World} {x y : Value} {g : G} (h : GmC w x y g) (hb : Below w.heap.size w w') : GmC w' x y g := by
 obtain ⟨a, c, e0, e1, hi⟩ := h
 exact ⟨a, c, e0, e1, (hi.below hb).mono hb.size⟩
theorem GmC.one {w : World} {x y : Value} {g : G} (h : GmC w x y g) : x.oneCell' = true ∧ y.oneCell' = true := by
 obtain ⟨a, c, rfl, rfl, _⟩ := h
 exact ⟨rfl, rfl⟩
theorem stable_gm (x y : Value) (g : G) : Stable fun w => GmC w x y g := fun _ _ hb h => h.up hb
theorem GmC.rg {w : World} {x y : Value} {g : G} (h : GmC w x y g) : Rg (fun w' => GmC w' x y g) 0 w.heap.size w :=
 ⟨h, Nat.le_refl _, fun w' hs hk => by
  obtain ⟨a, c, e0, e1, hi⟩ := h
  exact ⟨a, c, e0, e1, NumsIn.mono (hi.same fun k h => hk k (Nat.zero_le _) h) hs⟩⟩
theorem ResGm.size {lo hi : Nat} {w : World} {v : Value} {g : G} (h : ResGm lo hi w v g) : hi ≤ w.heap.size := by
 obtain ⟨_, _, _, h⟩ := h
 exact h
theorem ResGm.reads_c {lo hi : Nat} {w : World} {x y : Value} {g : G} (h : ResGm lo hi w (.agg #[x, y]) g) : GmC w x y g := by
 obtain ⟨vV, e, hr, hs⟩ := h
 obtain ⟨a, c, rfl, hn⟩ := hr.reads
 injection e with e
 have e0 : x = .int .i64 g.n := by have := congrArg (fun q => q[0]?) e; simpa using this
 have e1 : y = .slice a g.v.length c := by have := congrArg (fun q => q[1]?) e; simpa using this
 exact ⟨a, c, e0, e1, hn.mono hs⟩
theorem ResGm.rg {lo hi : Nat} {w : World} {v : Value} {g : G} (h : ResGm lo hi w v g) : Rg (fun w' => ResGm lo hi w' v g) lo hi w := by
 refine ⟨h, h.size, fun w' hs hk => ?_⟩
 obtain ⟨vV, rfl, hr, hh⟩ := h
 exact ⟨vV, rfl, hr.same fun b hb => by have := hr.blk hb; exact hk b this.1 this.2.1, Nat.le_trans hh hs⟩
theorem ResGm.of_own {lo : Nat} {w : World} {vV : Value} {g : G} (h : OwnInts lo w vV g.v) : ResGm lo w.heap.size w (.agg #[.int .i64 g.n, vV]) g :=
 ⟨vV, rfl, RowAtI.of_own h fun g hg => (World.ownsRow.lt h g hg).2, Nat.le_refl _⟩
end Go.Proofs.YtpidlmmpejoeaaaGreat
