/- slices.Equal at integers. -/
import Derived.Test.YtodjapljoimkgaaNumI
namespace Go.Proofs.Ytodjapljoimkgaa
open Go.RowKit
end Go.Proofs.Ytodjapljoimkgaa
