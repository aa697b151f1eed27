/- impl's sums, differences, products, quotients of fractions: what each returns; what was there stays. -/
import Derived.Test.YtheggkeoheneiaaDoorRaD
namespace Go.Proofs.YtheggkeoheneiaaDoor
open Go.RowKit
end Go.Proofs.YtheggkeoheneiaaDoor
