/- Linear programs, points and results in closed words: ColumnOf, IsFeasible, DotRat, sameInts; weak duality of SolveLP. -/
import Derived.Test.YtmjmjilpcekngaaWdA
import Derived.Test.YtmjmjilpcekngaaGLi
import Derived.Test.YtmjmjilpcekngaaGLi
import Derived.Test.YtmjmjilpcekngaaGLb
import Derived.Test.YtmjmjilpcekngaaGLp
import Derived.Test.YtmjmjilpcekngaaGVc
import Derived.Test.YtmjmjilpcekngaaIntsSame
namespace Go.Proofs.Ytmjmjilpcekngaa
open Go.RowKit
open Ve (R)
open Ta (T)
open Lp (P Res)
theorem impl_Col_c {w : World} {x y z : Value} {p : P} (h : LpC w x y z p) (hn : LpFits p) (j : Int) : Calls Try.prog 11 #[.agg #[x, y, z], .int .i64 j] w (MakesInts (colOf p j) w) := by
 obtain ⟨a, b, c, c1, c2, c3, rfl, rfl, rfl, hi⟩ := h
 exact impl_ColumnOf w.heap.size a b c c1 c2 c3 p hn j w (Nat.le_refl _) hi
theorem spec_Col_c {w : World} {x y z : Value} {p : P} (h : LpC w x y z p) (hn : LpFits p) (j : Int) : Calls Try.prog 12 #[.agg #[x, y, z], .int .i64 j] w (MakesInts (colOf p j) w) := by
 obtain ⟨a, b, c, c1, c2, c3, rfl, rfl, rfl, hi⟩ := h
 exact spec_ColumnOf w.heap.size a b c c1 c2 c3 p hn j w (Nat.le_refl _) hi
theorem impl_Feas_c {w : World} {x y z v : Value} {p : P} {xs : List R} (h : LpC w x y z p) (hv : InRats w v xs) (hn : LpFits p) (hx : xs.length ≤ 1048576) (g : Bool) (hg : Lp.feas p xs = g) :
  Calls Try.prog 13 #[.agg #[x, y, z], v] w fun e w' => e = .returned (.bool g) ∧ Below w.heap.size w w' := by
 obtain ⟨a, b, c, c1, c2, c3, rfl, rfl, rfl, hi⟩ := h
 obtain ⟨va, vc, rfl, hr⟩ := hv
 exact impl_IsFeasible w.heap.size a b c va c1 c2 c3 vc p xs hn hx g hg w (Nat.le_refl _) hi hr
theorem spec_Feas_c {w : World} {x y z v : Value} {p : P} {xs : List R} (h : LpC w x y z p) (hv : InRats w v xs) (hn : LpFits p) (hx : xs.length ≤ 1048576) (g : Bool) (hg : Lp.feas p xs = g) :
  Calls Try.prog 18 #[.agg #[x, y, z], v] w fun e w' => e = .returned (.bool g) ∧ Below w.heap.size w w' := by
 obtain ⟨a, b, c, c1, c2, c3, rfl, rfl, rfl, hi⟩ := h
 obtain ⟨va, vc, rfl, hr⟩ := hv
 exact spec_IsFeasible w.heap.size a b c va c1 c2 c3 vc p xs hn hx g hg w (Nat.le_refl _) hi hr
theorem impl_Dot_c {w : World} {u v : Value} {xs ys : List R} (hu : InRats w u xs) (hv : InRats w v ys) (hx : xs.length ≤ 1048576) (hy : ys.length ≤ 1048576) : Calls Try.prog 14 #[u, v] w (OneRat (Ve.dotR xs ys) (Ve.dotK xs ys) w) := by
 obtain ⟨a, c, rfl, hr⟩ := hu
 obtain ⟨a', c', rfl, hr'⟩ := hv
 exact impl_DotRat w.heap.size a a' c c' xs ys hx hy w (Nat.le_refl _) hr hr'
theorem sameInts_c {w : World} {B1 B2 : Nat} {v1 v2 : Value} {xs : List Int} (h1 : OwnInts B1 w v1 xs) (h2 : OwnInts B2 w v2 xs) (hl : xs.length ≤ 1048576) : Calls Try.prog 10 #[v1, v2] w (DrawnT w) := by
 obtain ⟨a, c, rfl, hi, _, _⟩ := own_reads h1
 obtain ⟨a', c', rfl, hi', _, _⟩ := own_reads h2
 exact laws_sameInts a a' c c' xs (by omega) w hi hi'
theorem LpC.c {w : World} {x y z : Value} {p : P} (h : LpC w x y z p) : InRats w z p.C := by
 obtain ⟨a, b, c, c1, c2, c3, _, _, e, hi⟩ := h
 exact ⟨c, c3, e, hi.mC⟩
theorem col_small {p : P} (h : LpFits p) (j : Int) : (colOf p j).length ≤ 1048576 := by
 unfold colOf
 split
 ·
  rw [Lp.col_len]; exact h.A
 ·
  simp
theorem weak {p : P} {xs : List R} (hf : Lp.feas p xs = true) : (Ta.solve p).status ≠ 2 ∧ ((Ta.solve p).status = 1 → Ve.dotK p.C xs = true → Ra.cmp (Ta.solve p).value.1 (Ta.solve p).value.2 (Ve.dotR p.C xs).1 (Ve.dotR p.C xs).2 ≤ 0) := by
 rcases Ta.solve_chk p with h | ⟨_, h⟩ | ⟨_, h⟩
 ·
  exact Lp.least h hf
 ·
  rw [h]; exact ⟨by decide, fun h => by simp at h⟩
 ·
  rw [h]; exact ⟨by decide, fun h => by simp at h⟩
end Go.Proofs.Ytmjmjilpcekngaa
