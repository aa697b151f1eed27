/- slices.Equal at integers. -/
import Derived.Test.YtpjnjidbdpfdcaaNumI
namespace Go.Proofs.Ytpjnjidbdpfdcaa
open Go.RowKit
end Go.Proofs.Ytpjnjidbdpfdcaa
