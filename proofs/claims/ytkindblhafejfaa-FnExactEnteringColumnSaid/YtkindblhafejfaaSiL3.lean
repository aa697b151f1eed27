/- The walk of FnExactEnteringColumn. -/
import Derived.Test.YtkindblhafejfaaSiL1
import Derived.Test.YtkindblhafejfaaSiA
namespace Go.Proofs.Ytkindblhafejfaa
open Go.RowKit
open Ve (R)
open Ta (T)
theorem fnExactEnteringColumn.walk (a b : Option Addr) (c1 c2 : Nat) (t : T) (a1 : Option Addr) (cap1 : Nat) (xs : List R) (last : Int) (hl : (Lit.int .i64 last).wf = true) (w : World) (n0 : TabLens t) (h0 : TabIn w.heap.size w a b t) (w0 : (Lit.int .i64 t.cols).wf = true) (n1 : xs.length ≤ 9223372036854775807) (h1 : RatsIn w.heap.size w a1 xs) :
    Calls Try.prog 5 #[tabV a b c1 c2 t, .slice a1 xs.length cap1, .int .i64 last] w fun e w' => e = .returned (.bool true) ∧ Below w.heap.size w w' :=
  fnExactEnteringColumn.walk_c t xs last (Ta.entR xs last)
    (fun _ g w x y z v ⟨a, b, c1, c2, e0, e1, e2, h⟩ ⟨a1, c, e3, h3⟩ => by
      subst e0 e1 e2 e3
      exact spec_EnteringColumn w.heap.size a b a1 c1 c2 c t xs last hl g w (Nat.le_refl _) h3)
    (fun _ g w x y z v ⟨a, b, c1, c2, e0, e1, e2, h⟩ ⟨a1, c, e3, h3⟩ => by
      subst e0 e1 e2 e3
      exact impl_EnteringColumn w.heap.size a b a1 c1 c2 c t xs last hl g w (Nat.le_refl _) h3)
    w _ _ _ _ ⟨n0, w0⟩ n1 ⟨a, b, c1, c2, rfl, rfl, rfl, h0⟩ ⟨a1, cap1, rfl, h1⟩
end Go.Proofs.Ytkindblhafejfaa
