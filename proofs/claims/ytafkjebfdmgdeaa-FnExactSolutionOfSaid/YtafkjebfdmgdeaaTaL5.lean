/- The walk of FnExactSolutionOf. -/
import Derived.Test.YtafkjebfdmgdeaaTaL4
import Derived.Test.YtafkjebfdmgdeaaTaI
namespace Go.Proofs.Ytafkjebfdmgdeaa
open Go.RowKit
open Ve (R)
open Ta (T)
theorem solR_len {t : T} (h : TabOk t) : (Ta.solR t).length ≤ 1048576 := by
  unfold Ta.solR
  by_cases hg : Ta.good t = true
  · rw [if_pos hg, Ta.sol_len]
    have := good_small hg h.2
    omega
  · rw [if_neg hg]
    simp
theorem fnExactSolutionOf.walk (a b : Option Addr) (c1 c2 : Nat) (t : T) (w : World) (n0 : TabLens t) (h0 : TabIn w.heap.size w a b t) (w0 : (Lit.int .i64 t.cols).wf = true) :
    Calls Try.prog 9 #[tabV a b c1 c2 t] w fun e w' => e = .returned (.bool true) ∧ Below w.heap.size w w' :=
  fnExactSolutionOf.walk_c t (Ta.solR t) solR_len
    (fun f w x y z ⟨a, b, c1, c2, e0, e1, e2, h⟩ => by
      subst e0 e1 e2
      exact spec_SolutionOf w.heap.size a b c1 c2 t f.1 w (Nat.le_refl _) h)
    (fun f w x y z ⟨a, b, c1, c2, e0, e1, e2, h⟩ => by
      subst e0 e1 e2
      exact impl_SolutionOf w.heap.size a b c1 c2 t f.1 (fun hg => good_small hg f.2) w (Nat.le_refl _) h)
    w _ _ _ ⟨n0, w0⟩ ⟨a, b, c1, c2, rfl, rfl, rfl, h0⟩
end Go.Proofs.Ytafkjebfdmgdeaa
