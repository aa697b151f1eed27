/- The walks of the exact laws of LeastLP, EqualLeast. -/
import Derived.Test.YtpjnjidbdpfdcaaGmOpen
import Derived.Test.YtpjnjidbdpfdcaaLkLeO
import Derived.Test.YtpjnjidbdpfdcaaLeA
import Derived.Test.YtpjnjidbdpfdcaaLeB
import Derived.Test.YtpjnjidbdpfdcaaLeE
import Derived.Test.YtpjnjidbdpfdcaaLeL1
import Derived.Test.YtpjnjidbdpfdcaaLeN
import Derived.Test.YtpjnjidbdpfdcaaLeL2
namespace Go.Proofs.Ytpjnjidbdpfdcaa
open Go.RowKit
open Ve (R)
open Gm (G)
open Le (Lst)
theorem fnExactLeastLP.walk (x y : Value) (g : G) (w : World) (n0 : GmLens g) (h0 : GmC w x y g) :
  Calls Try.prog 3 #[.agg #[x, y]] w fun e w' => e = .returned (.bool true) ∧ Below w.heap.size w w' :=
 fnExactLeastLP.walk_c g (Le.least g) (Le.can g) (fun _ => least_small g) (fun f0 _ _ _ c0 => (spec_LeastLP c0.1 f0).mono fun _ _ h => h.res) (fun f0 _ _ _ c0 => (impl_LeastLP c0 f0).mono fun _ _ h => h.res) w _ _ n0 h0
theorem fnExactEqualLeast.walk (x n d y z : Value) (r : Lst) (x' n' d' y' z' : Value) (s : Lst) (w : World) (n0 : LstLens r) (h0 : LstC w x n d y z r) (n1 : LstLens s) (h1 : LstC w x' n' d' y' z' s) :
  Calls Try.prog 4 #[.agg #[x, n, d, y, z], .agg #[x', n', d', y', z']] w fun e w' => e = .returned (.bool true) ∧ Below w.heap.size w w' :=
 fnExactEqualLeast.walk_c r s (sameLst r s) (fun f0 f1 _ _ _ _ _ _ _ _ _ _ _ c0 c1 => spec_EqualLeast _ rfl c0 c1 f0 f1) (fun f0 f1 _ _ _ _ _ _ _ _ _ _ _ c0 c1 => impl_EqualLeast _ rfl c0 c1 f0 f1) w _ _ _ _ _ _ _ _ _ _ n0 n1 h0 h1
end Go.Proofs.Ytpjnjidbdpfdcaa
