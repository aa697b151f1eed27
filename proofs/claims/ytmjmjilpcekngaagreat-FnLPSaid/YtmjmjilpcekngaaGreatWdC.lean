/- Linear programs, points and results in closed words: ColumnOf, IsFeasible, DotRat, sameInts; weak duality of SolveLP. -/
import Derived.Test.YtmjmjilpcekngaaGreatWdA
import Derived.Test.YtmjmjilpcekngaaGreatGLi
import Derived.Test.YtmjmjilpcekngaaGreatGLi
import Derived.Test.YtmjmjilpcekngaaGreatGLb
import Derived.Test.YtmjmjilpcekngaaGreatGLp
import Derived.Test.YtmjmjilpcekngaaGreatGVc
import Derived.Test.YtmjmjilpcekngaaGreatIntsSame
namespace Go.Proofs.YtmjmjilpcekngaaGreat
open Go.RowKit
open Ve (R)
open Ta (T)
open Lp (P Res)
theorem impl_Feas_c {w : World} {x y z v : Value} {p : P} {xs : List R} (h : LpC w x y z p) (hv : InRats w v xs) (hn : LpFits p) (hx : xs.length ≤ 1048576) (g : Bool) (hg : Lp.feas p xs = g) :
  Calls Tryz.prog 13 #[.agg #[x, y, z], v] w fun e w' => e = .returned (.bool g) ∧ Below w.heap.size w w' := by
 obtain ⟨a, b, c, c1, c2, c3, rfl, rfl, rfl, hi⟩ := h
 obtain ⟨va, vc, rfl, hr⟩ := hv
 exact impl_IsFeasible w.heap.size a b c va c1 c2 c3 vc p xs hn hx g hg w (Nat.le_refl _) hi hr
theorem spec_Feas_c {w : World} {x y z v : Value} {p : P} {xs : List R} (h : LpC w x y z p) (hv : InRats w v xs) (hn : LpFits p) (hx : xs.length ≤ 1048576) (g : Bool) (hg : Lp.feas p xs = g) :
  Calls Tryz.prog 14 #[.agg #[x, y, z], v] w fun e w' => e = .returned (.bool g) ∧ Below w.heap.size w w' := by
 obtain ⟨a, b, c, c1, c2, c3, rfl, rfl, rfl, hi⟩ := h
 obtain ⟨va, vc, rfl, hr⟩ := hv
 exact spec_IsFeasible w.heap.size a b c va c1 c2 c3 vc p xs hn hx g hg w (Nat.le_refl _) hi hr
theorem LpC.c {w : World} {x y z : Value} {p : P} (h : LpC w x y z p) : InRats w z p.C := by
 obtain ⟨a, b, c, c1, c2, c3, _, _, e, hi⟩ := h
 exact ⟨c, c3, e, hi.mC⟩
theorem weak {p : P} {xs : List R} (hf : Lp.feas p xs = true) : (Ta.solve p).status ≠ 2 ∧ ((Ta.solve p).status = 1 → Ve.dotK p.C xs = true → Ra.cmp (Ta.solve p).value.1 (Ta.solve p).value.2 (Ve.dotR p.C xs).1 (Ve.dotR p.C xs).2 ≤ 0) := by
 rcases Ta.solve_chk p with h | ⟨_, h⟩ | ⟨_, h⟩
 ·
  exact Lp.least h hf
 ·
  rw [h]; exact ⟨by decide, fun h => by simp at h⟩
 ·
  rw [h]; exact ⟨by decide, fun h => by simp at h⟩
end Go.Proofs.YtmjmjilpcekngaaGreat
