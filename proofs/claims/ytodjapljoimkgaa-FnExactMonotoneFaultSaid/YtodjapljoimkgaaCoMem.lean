/- MembersOf on both sides. -/
import Derived.Test.YtodjapljoimkgaaGB
import Derived.Test.YtodjapljoimkgaaCoA
import Derived.Test.YtodjapljoimkgaaCoM2
namespace Go.Proofs.Ytodjapljoimkgaa
open Go.RowKit

/-- The answer of MembersOf. -/
def memR (s : Int) : List Int := if Co.good s then Co.mem s 5 else []

end Go.Proofs.Ytodjapljoimkgaa
