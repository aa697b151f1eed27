/- slices.Equal at integers. -/
import Derived.Test.YtambneapofaclaaGreatDoorNumI
namespace Go.Proofs.YtambneapofaclaaGreatDoor
open Go.RowKit
end Go.Proofs.YtambneapofaclaaGreatDoor
