/- FnExactIsValidLP's and FnExactIsFeasible's walks. -/
import Derived.Test.YtmjmjilpcekngaaLpL2
import Derived.Test.YtmjmjilpcekngaaGLi
namespace Go.Proofs.Ytmjmjilpcekngaa
open Go.RowKit
open Ve (R)
open Lp (P Res)
theorem fnExactIsFeasible.walk (a b c : Option Addr) (c1 c2 c3 : Nat) (p : P) (va : Option Addr) (vc : Nat) (v : List R) (w : World) (hl : LpLens p) (hz : LpIn w.heap.size w a b c p) (hvm : v.length ≤ 9223372036854775807) (hv : RatsIn w.heap.size w va v) :
  Calls Try.prog 4 #[.agg #[.slice a p.A.length c1, .slice b p.B.length c2, .slice c p.C.length c3], .slice va v.length vc] w fun e w' => e = .returned (.bool true) ∧ Below w.heap.size w w' :=
 fnExactIsFeasible.walk_of Lp.feas (fun B a b c va c1 c2 c3 vc p v hf hv w hB hz hv1 => spec_IsFeasible B a b c va c1 c2 c3 vc p v hf hv _ rfl w hB hz hv1) (fun B a b c va c1 c2 c3 vc p v hf hv w hB hz hv1 => impl_IsFeasible B a b c va c1 c2 c3 vc p v hf hv _ rfl w hB hz hv1) a b c c1 c2 c3 p va vc v w hl hz hvm hv
end Go.Proofs.Ytmjmjilpcekngaa
