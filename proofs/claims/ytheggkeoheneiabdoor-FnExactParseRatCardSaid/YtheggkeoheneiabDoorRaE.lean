/- impl's sums, differences, products, quotients of fractions: what each returns; what was there stays. -/
import Derived.Test.YtheggkeoheneiabDoorRaD
namespace Go.Proofs.YtheggkeoheneiabDoor
open Go.RowKit
end Go.Proofs.YtheggkeoheneiabDoor
