/- Fractions stored into rows of the call's own; spec.SolutionOf. -/
import Derived.Test.YtkindblhafejfaaTaC
import Derived.Test.YtkindblhafejfaaTaA
import Derived.Test.YtkindblhafejfaaGVb
import Derived.Test.YtkindblhafejfaaLpD
import Derived.StillTailTactics
namespace Go.Proofs.Ytkindblhafejfaa
open Go.RowKit
open Ve (R)
open Ta (T)
theorem cellsR_set : ∀ (xs : List R) (k : Nat) (x : R), k < xs.length → ((cellsR xs).set (k * 2) (.int .i64 x.1)).set (k * 2 + 1) (.int .i64 x.2) = cellsR (xs.set k x)
  | [], k, x, h => by simp at h
  | y :: xs, 0, x, _ => rfl
  | y :: xs, k + 1, x, h => by
    have := cellsR_set xs k x (by simpa using h)
    rw [show (k + 1) * 2 = k * 2 + 1 + 1 by omega]
    simp only [cellsR, List.set_cons_succ]
    rw [this]
/-- A fraction stored at k. -/
theorem OwnRats.put {B g c : Nat} {w : World} {xs : List R} (h : OwnRats B w (.slice (some ⟨g, 0, none⟩) xs.length c) xs) (k : Nat) (x : R) (hk : k < xs.length) :
    OwnRats B ((w.setCell ⟨g, k * 2, none⟩ (.int .i64 x.1)).setCell ⟨g, k * 2 + 1, none⟩ (.int .i64 x.2)) (.slice (some ⟨g, 0, none⟩) xs.length c) (xs.set k x) := by
  have h3 := ((World.ownsRow.stored h (k * 2) (.int .i64 x.1)).1.stored (k * 2 + 1) (.int .i64 x.2)).1
  rw [cellsR_set xs k x hk] at h3
  show World.ownsRow _ _ _ _ _ _ _
  rw [List.length_set]
  exact h3
theorem OwnRats.spots {B g c : Nat} {w : World} {xs : List R} (h : OwnRats B w (.slice (some ⟨g, 0, none⟩) xs.length c) xs) (k : Nat) (hk : k < xs.length) :
    (∃ v, w.cell? ⟨g, k * 2, none⟩ = some v) ∧ w.frozen? ⟨g, k * 2, none⟩ = false ∧ (∃ v, w.cell? ⟨g, k * 2 + 1, none⟩ = some v) ∧ w.frozen? ⟨g, k * 2 + 1, none⟩ = false := by
  have hl : (cellsR xs).length = xs.length * 2 := cellsR_len xs
  exact ⟨⟨(cellsR xs)[k * 2], by rw [World.ownsRow.cellAt h (k * 2) (by omega), List.getElem?_eq_getElem (by omega)]⟩, World.ownsRow.frozenAt h _,
    ⟨(cellsR xs)[k * 2 + 1], by rw [World.ownsRow.cellAt h (k * 2 + 1) (by omega), List.getElem?_eq_getElem (by omega)]⟩, World.ownsRow.frozenAt h _⟩
/-- A slice of the call's own that holds something. -/
theorem OwnRats.block {B n c : Nat} {w : World} {a : Option Addr} {xs : List R} (h : OwnRats B w (.slice a n c) xs) (hx : xs.length ≠ 0) : ∃ g, a = some ⟨g, 0, none⟩ ∧ n = xs.length ∧ B ≤ g ∧ g < w.heap.size := by
  obtain ⟨a', c', e, _, hb, hg⟩ := own_rats h
  injection e with e1 e2 e3
  obtain ⟨g, hg⟩ := hg (fun e => hx (by rw [e]; rfl))
  have := hb _ hg
  exact ⟨g, e1.trans hg, e2, this.1, this.2⟩
theorem low_put {B g : Nat} {w w' : World} (h : Below B w w') (hg : B ≤ g) (i j : Nat) (u v : Value) : Below B w ((w'.setCell ⟨g, i, none⟩ u).setCell ⟨g, j, none⟩ v) :=
  (h.setCell (p := ⟨g, i, none⟩) hg u).setCell (p := ⟨g, j, none⟩) hg v
theorem Ta.sol_at (t : T) (k : Nat) : Ta.sol t (k + 1) = (Ta.sol t k).set (Ta.bas t k).toNat (Ve.at_ (Ta.row t k) (t.cols + t.rows.length).toNat) := rfl
end Go.Proofs.Ytkindblhafejfaa
