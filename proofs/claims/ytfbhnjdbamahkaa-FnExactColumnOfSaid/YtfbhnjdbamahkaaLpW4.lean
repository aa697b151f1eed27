/- FnExactColumnOf's walk, whole. -/
import Derived.Test.YtfbhnjdbamahkaaLpL6
import Derived.Test.YtfbhnjdbamahkaaLpI2
namespace Go.Proofs.Ytfbhnjdbamahkaa
open Go.RowKit
open Ve (R)
open Lp (P Res)
theorem colOf_len (p : P) (j : Int) : (colOf p j).length ≤ p.A.length := by
  unfold colOf
  split
  · rw [Lp.col_len]; exact Nat.le_refl _
  · simp
theorem fnExactColumnOf.walk (a b c : Option Addr) (c1 c2 c3 : Nat) (p : P) (j : Int) (_wj : (Lit.int .i64 j).wf = true) (w : World) (hl : LpLens p) (hz : LpIn w.heap.size w a b c p) :
    Calls Try.prog 5 #[.agg #[.slice a p.A.length c1, .slice b p.B.length c2, .slice c p.C.length c3], .int .i64 j] w fun e w' => e = .returned (.bool true) ∧ Below w.heap.size w w' :=
  fnExactColumnOf.walk_c j p (colOf p j) (fun f => Nat.le_trans (colOf_len p j) f.A)
    (fun f w x y z ⟨a, b, c, c1, c2, c3, e0, e1, e2, h⟩ => by
      subst e0 e1 e2
      exact spec_ColumnOf w.heap.size a b c c1 c2 c3 p f j w (Nat.le_refl _) h)
    (fun f w x y z ⟨a, b, c, c1, c2, c3, e0, e1, e2, h⟩ => by
      subst e0 e1 e2
      exact impl_ColumnOf w.heap.size a b c c1 c2 c3 p f j w (Nat.le_refl _) h)
    w _ _ _ hl ⟨a, b, c, c1, c2, c3, rfl, rfl, rfl, hz⟩
end Go.Proofs.Ytfbhnjdbamahkaa
