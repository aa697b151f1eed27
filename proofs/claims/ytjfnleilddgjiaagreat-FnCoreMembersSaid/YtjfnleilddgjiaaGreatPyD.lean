/- The code's ExcessOf, IsPayoff. -/
import Derived.Test.YtjfnleilddgjiaaGreatHCoB
import Derived.Test.YtjfnleilddgjiaaGreatHLpI1
import Derived.Test.YtjfnleilddgjiaaGreatGRa
import Derived.Test.YtjfnleilddgjiaaGreatGRa
namespace Go.Proofs.YtjfnleilddgjiaaGreat
open Go.RowKit
open Ve (R)
open Gm (G)
end Go.Proofs.YtjfnleilddgjiaaGreat
