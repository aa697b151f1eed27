/- The walks of FnExactIsValidGame, ValueOf, GrandValue, EqualGame. -/
import Derived.Test.YtccgebnbpfliiaaGmOpen
import Derived.Test.YtccgebnbpfliiaaGmI
import Derived.Test.YtccgebnbpfliiaaGmL1
import Derived.Test.YtccgebnbpfliiaaGmL2
import Derived.Test.YtccgebnbpfliiaaGmL3
import Derived.Test.YtccgebnbpfliiaaGmL4
namespace Go.Proofs.Ytccgebnbpfliiaa
open Go.RowKit
open Gm (G)
theorem fnExactIsValidGame.walk (x y : Value) (g : G) (w : World) (n : GmLens g) (h : GmC w x y g) :
    Calls Try.prog 4 #[.agg #[x, y]] w fun e w' => e = .returned (.bool true) ∧ Below w.heap.size w w' :=
  fnExactIsValidGame.walk_c g (Gm.vld g) (fun f _ _ _ c => spec_IsValidGame _ rfl c f) (fun f _ _ _ c => impl_IsValidGame _ rfl c f) w _ _ n h
theorem fnExactValueOf.walk (x y : Value) (g : G) (s : Int) (_ : (Lit.int .i64 s).wf = true) (w : World) (n : GmLens g) (h : GmC w x y g) :
    Calls Try.prog 5 #[.agg #[x, y], .int .i64 s] w fun e w' => e = .returned (.bool true) ∧ Below w.heap.size w w' :=
  fnExactValueOf.walk_c g s (Gm.val g s) (fun f _ _ _ c => spec_ValueOf s c f) (fun f _ _ _ c => impl_ValueOf s c f) w _ _ n h
theorem fnExactGrandValue.walk (x y : Value) (g : G) (w : World) (n : GmLens g) (h : GmC w x y g) :
    Calls Try.prog 6 #[.agg #[x, y]] w fun e w' => e = .returned (.bool true) ∧ Below w.heap.size w w' :=
  fnExactGrandValue.walk_c g (Gm.grand g) (fun f _ _ _ c => spec_GrandValue c f) (fun f _ _ _ c => impl_GrandValue c f) w _ _ n h
theorem fnExactEqualGame.walk (x y : Value) (g : G) (x' y' : Value) (g' : G) (w : World) (n : GmLens g) (h : GmC w x y g) (n' : GmLens g') (h' : GmC w x' y' g') :
    Calls Try.prog 7 #[.agg #[x, y], .agg #[x', y']] w fun e w' => e = .returned (.bool true) ∧ Below w.heap.size w w' :=
  fnExactEqualGame.walk_c g g' (Gm.eqG g g') (fun f f' _ _ _ _ _ c c' => spec_EqualGame _ rfl c c' f f') (fun f f' _ _ _ _ _ c c' => impl_EqualGame _ rfl c c' f f') w _ _ _ _ n n' h h'
end Go.Proofs.Ytccgebnbpfliiaa
