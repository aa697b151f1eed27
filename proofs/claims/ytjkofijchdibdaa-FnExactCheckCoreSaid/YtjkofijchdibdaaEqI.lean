/- slices.Equal at integers. -/
import Derived.Test.YtjkofijchdibdaaNumI
namespace Go.Proofs.Ytjkofijchdibdaa
open Go.RowKit
end Go.Proofs.Ytjkofijchdibdaa
