/- The walks of the exact laws of BalancedLP, IsBalancedCollection. -/
import Derived.Test.YtjkofijchdibdaaGmOpen
import Derived.Test.YtjkofijchdibdaaGVa
import Derived.Test.YtjkofijchdibdaaCrL1
import Derived.Test.YtjkofijchdibdaaCrL2
namespace Go.Proofs.Ytjkofijchdibdaa
open Go.RowKit
open Ve (R)
open Gm (G)
theorem fnExactBalancedLP.walk (x y : Value) (g : G) (w : World) (n0 : GmLens g) (h0 : GmC w x y g) :
  Calls Try.prog 3 #[.agg #[x, y]] w fun e w' => e = .returned (.bool true) ∧ Below w.heap.size w w' :=
 fnExactBalancedLP.walk_c g (Cr.bal g) (Gm.vld g) (fun _ => bal_small g) (fun f0 _ _ _ c0 => (spec_BalancedLP c0.1 f0).mono fun _ _ h => h.res) (fun f0 _ _ _ c0 => (impl_BalancedLP c0 f0).mono fun _ _ h => h.res) w _ _ n0 h0
theorem fnExactIsBalancedCollection.walk (n : Int) (hw : (Lit.int .i64 n).wf = true) (a : Option Addr) (c : Nat) (xs : List R) (w : World) (n0 : xs.length ≤ 9223372036854775807) (h0 : RatsIn w.heap.size w a xs) :
  Calls Try.prog 4 #[.int .i64 n, .slice a xs.length c] w fun e w' => e = .returned (.bool true) ∧ Below w.heap.size w w' := by
 have hb : -9223372036854775808 ≤ n ∧ n ≤ 9223372036854775807 := by
  have e1 : IntKind.i64.min = -9223372036854775808 := rfl
  have e2 : IntKind.i64.max = 9223372036854775807 := rfl
  simp [Lit.wf, e1, e2] at hw
  exact hw
 exact fnExactIsBalancedCollection.walk_c n xs (Cr.blc n xs) (fun f0 _ _ c0 => spec_IsBalancedCollection n _ rfl c0 f0) (fun f0 _ _ c0 => impl_IsBalancedCollection n hb.1 hb.2 _ rfl c0 f0) w _ n0 ⟨a, c, rfl, h0⟩
end Go.Proofs.Ytjkofijchdibdaa
