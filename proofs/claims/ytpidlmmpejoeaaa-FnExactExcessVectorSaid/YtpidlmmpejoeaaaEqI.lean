/- slices.Equal at integers. -/
import Derived.Test.YtpidlmmpejoeaaaNumI
namespace Go.Proofs.Ytpidlmmpejoeaaa
open Go.RowKit
end Go.Proofs.Ytpidlmmpejoeaaa
