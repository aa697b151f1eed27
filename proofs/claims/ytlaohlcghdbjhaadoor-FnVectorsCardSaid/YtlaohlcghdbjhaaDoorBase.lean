/- Small words for every walk: endings by an equation of numbers, bounds of an int, spec.l1In. -/
import Derived.Test.YtlaohlcghdbjhaaDoorChecked
import Derived.Handy
import Derived.Below
import Derived.LoopTactic
import Derived.Outline
import Derived.Lib.Hide
import Derived.WalkSpells
import Derived.WalkLawsBesides
import Derived.IntWalk
import Derived.Laws.StructEq
import Derived.Deep.QuietTactic
import Derived.BigQuiet
import Derived.BigRegion
import Derived.RegionTactic
import Derived.Deep.RegionWith
import Derived.Deep.DeepCutAuto
namespace Go.Proofs.YtlaohlcghdbjhaaDoor
open Go.RowKit

theorem ret_int {k : IntKind} {a b : Int} (h : a = b) : Ending.returned (.int k a) = .returned (.int k b) := by rw [h]
theorem ret_bool {a b : Bool} (h : a = b) : Ending.returned (.bool a) = .returned (.bool b) := by rw [h]
theorem i64_bd {n : Int} (h : (Lit.int .i64 n).wf = true) : -9223372036854775808 ≤ n ∧ n ≤ 9223372036854775807 := by
  have e1 : IntKind.i64.min = -9223372036854775808 := rfl
  have e2 : IntKind.i64.max = 9223372036854775807 := rfl
  simp [Lit.wf, e1, e2] at h
  exact h
/-- The old cells and marks, below W's size. -/
theorem bcell {W w1 : World} (hb : Below W.heap.size W w1) : (∀ b o, b < W.heap.size → w1.cell? ⟨b, o, none⟩ = W.cell? ⟨b, o, none⟩) ∧ (∀ b o, b < W.heap.size → w1.frozen? ⟨b, o, none⟩ = W.frozen? ⟨b, o, none⟩) :=
  ⟨fun b o h => hb.cell (p := ⟨b, o, none⟩) h, fun b o h => hb.frozen (p := ⟨b, o, none⟩) h⟩
theorem below_drewN {B : Nat} {a w : World} (h : Below B a w) (n : Nat) : Below B a (w.drewN n) := ⟨h.os, h.tape, h.output, h.size, h.block⟩
theorem cell_after {B : Nat} {W w1 : World} (hb : Below B W w1) {p : Addr} {v : Value} (hp : p.block < B) (h : W.cell? p = some v) : w1.cell? p = some v := by rw [hb.cell hp]; exact h
theorem free_after {B : Nat} {W w1 : World} (hb : Below B W w1) {p : Addr} (hp : p.block < B) (h : W.frozen? p = false) : w1.frozen? p = false := by rw [hb.frozen hp]; exact h
/-- A pair of cells, written. -/
theorem pair_set {w1 : World} {p : Nat} {x y u v : Value} (h0 : w1.cell? ⟨p, 0, none⟩ = some u) (h1 : w1.cell? ⟨p, 1, none⟩ = some v) :
    ((w1.setCell ⟨p, 0, none⟩ x).setCell ⟨p, 1, none⟩ y).cell? ⟨p, 0, none⟩ = some x ∧ ((w1.setCell ⟨p, 0, none⟩ x).setCell ⟨p, 1, none⟩ y).cell? ⟨p, 1, none⟩ = some y := by
  constructor
  · rw [World.cell?_setCell_other _ _ _ _ (by simp)]
    exact World.cell?_setCell_same _ _ _ h0
  · have h2 : (w1.setCell ⟨p, 0, none⟩ x).cell? ⟨p, 1, none⟩ = some v := by
      rw [World.cell?_setCell_other _ _ _ _ (by simp)]; exact h1
    exact World.cell?_setCell_same _ _ _ h2
theorem spec_l1In (x a b : Int) (r : Bool) (h : decide (a ≤ x ∧ x ≤ b) = r) (w : World) : Calls Tryd.prog 38 #[.int .i64 x, .int .i64 a, .int .i64 b] w fun e w' => e = .returned (.bool r) ∧ w = w' := by
  by_cases h1 : a ≤ x
  · have hb1 : decide (a ≤ x) = true := by rw [decide_eq_true_iff]; exact h1
    have H := Lib.hid (show decide (x ≤ b) = r by rw [← h]; simp [h1])
    clear h
    go_enter Tryd.func38, Tryd.ntmps38
    go_wp2_with fail
    go_ret
    exact ⟨ret_bool H.out, rfl⟩
  · have hb1 : decide (a ≤ x) = false := by rw [decide_eq_false_iff_not]; exact h1
    have H := Lib.hid (show false = r by rw [← h]; simp [h1])
    clear h
    go_enter Tryd.func38, Tryd.ntmps38
    go_wp2_with fail
    go_ret
    exact ⟨ret_bool H.out, rfl⟩
end Go.Proofs.YtlaohlcghdbjhaaDoor
