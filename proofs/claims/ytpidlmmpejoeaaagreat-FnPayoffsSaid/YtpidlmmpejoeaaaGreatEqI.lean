/- slices.Equal at integers. -/
import Derived.Test.YtpidlmmpejoeaaaGreatNumI
namespace Go.Proofs.YtpidlmmpejoeaaaGreat
open Go.RowKit
end Go.Proofs.YtpidlmmpejoeaaaGreat
