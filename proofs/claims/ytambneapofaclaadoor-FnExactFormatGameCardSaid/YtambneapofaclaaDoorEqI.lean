/- slices.Equal at integers. -/
import Derived.Test.YtambneapofaclaaDoorNumI
namespace Go.Proofs.YtambneapofaclaaDoor
open Go.RowKit
end Go.Proofs.YtambneapofaclaaDoor
