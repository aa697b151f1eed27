/- The walk of FnExactLeavingRow. -/
import Derived.Test.YtkindblhafejfaaSiL2
import Derived.Test.YtkindblhafejfaaSiB
import Derived.Test.YtkindblhafejfaaSiC
namespace Go.Proofs.Ytkindblhafejfaa
open Go.RowKit
open Ve (R)
open Ta (T)
theorem fnExactLeavingRow.walk (a b : Option Addr) (c1 c2 : Nat) (t : T) (c : Int) (hl : (Lit.int .i64 c).wf = true) (w : World) (n0 : TabLens t) (h0 : TabIn w.heap.size w a b t) (w0 : (Lit.int .i64 t.cols).wf = true) :
    Calls Try.prog 6 #[tabV a b c1 c2 t, .int .i64 c] w fun e w' => e = .returned (.bool true) ∧ Below w.heap.size w w' :=
  fnExactLeavingRow.walk_c t c (Ta.lvR t c)
    (fun f w x y z ⟨a, b, c1, c2, e0, e1, e2, h⟩ => by
      subst e0 e1 e2
      exact spec_LeavingRow w.heap.size a b c1 c2 t c hl f.1 w (Nat.le_refl _) h)
    (fun f w x y z ⟨a, b, c1, c2, e0, e1, e2, h⟩ => by
      subst e0 e1 e2
      exact impl_LeavingRow w.heap.size a b c1 c2 t c hl f.1 w (Nat.le_refl _) h)
    w _ _ _ ⟨n0, w0⟩ ⟨a, b, c1, c2, rfl, rfl, rfl, h0⟩
end Go.Proofs.Ytkindblhafejfaa
