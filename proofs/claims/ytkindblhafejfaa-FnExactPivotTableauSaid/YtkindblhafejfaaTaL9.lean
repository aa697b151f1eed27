/- The walk of FnExactPivotTableau. -/
import Derived.Test.YtkindblhafejfaaTaL8
import Derived.Test.YtkindblhafejfaaTaP
namespace Go.Proofs.Ytkindblhafejfaa
open Go.RowKit
open Ve (R)
open Ta (T)
theorem fnExactPivotTableau.walk (a b : Option Addr) (c1 c2 : Nat) (t : T) (r : Int) (hr : (Lit.int .i64 r).wf = true) (c : Int) (hc : (Lit.int .i64 c).wf = true) (w : World) (n0 : TabLens t) (h0 : TabIn w.heap.size w a b t) (w0 : (Lit.int .i64 t.cols).wf = true) :
    Calls Try.prog 4 #[tabV a b c1 c2 t, .int .i64 r, .int .i64 c] w fun e w' => e = .returned (.bool true) ∧ Below w.heap.size w w' :=
  fnExactPivotTableau.walk_c t r c (Ta.piv t r c) (Ta.pivK t r c) (fun f => piv_ok f)
    (fun f w x y z ⟨a, b, c1, c2, e0, e1, e2, h⟩ => by
      subst e0 e1 e2
      exact (spec_PivotTableau w.heap.size a b c1 c2 t r c hr hc f.1 w (Nat.le_refl _) h).mono fun _ _ hm => made_spec hm)
    (fun f w x y z ⟨a, b, c1, c2, e0, e1, e2, h⟩ => by
      subst e0 e1 e2
      exact (impl_PivotTableau w.heap.size a b c1 c2 t r c hr hc f.1 w (Nat.le_refl _) h).mono fun _ _ hm => made_impl hm)
    w _ _ _ ⟨n0, w0⟩ ⟨a, b, c1, c2, rfl, rfl, rfl, h0⟩
end Go.Proofs.Ytkindblhafejfaa
