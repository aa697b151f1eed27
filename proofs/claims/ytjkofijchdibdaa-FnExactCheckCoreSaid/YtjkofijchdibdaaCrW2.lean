/- The walk of the exact law of CheckCore. -/
import Derived.Test.YtjkofijchdibdaaGmOpen
import Derived.Test.YtjkofijchdibdaaLkCoO
import Derived.Test.YtjkofijchdibdaaCrL3
namespace Go.Proofs.Ytjkofijchdibdaa
open Go.RowKit
open Ve (R)
open Gm (G)
open Cr (Cor)
theorem fnExactCheckCore.walk (x y : Value) (g : G) (u0 u1 u2 : Value) (r : Cor) (w : World) (n0 : GmLens g) (h0 : GmC w x y g) (n1 : CorLens r) (h1 : CorC w u0 u1 u2 r) :
  Calls Try.prog 5 #[.agg #[x, y], .agg #[u0, u1, u2]] w fun e w' => e = .returned (.bool true) ∧ Below w.heap.size w w' :=
 fnExactCheckCore.walk_c g r (Cr.chkC g r) (fun f0 f1 _ _ _ _ _ _ c0 c1 => spec_CheckCore _ rfl c0 c1 f0 f1) (fun f0 f1 _ _ _ _ _ _ c0 c1 => impl_CheckCore _ rfl c0 c1 f0 f1) w _ _ _ _ _ n0 n1 h0 h1
end Go.Proofs.Ytjkofijchdibdaa
