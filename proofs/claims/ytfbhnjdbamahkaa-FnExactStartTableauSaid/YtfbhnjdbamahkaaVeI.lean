/- laws.toIntS: a list of ints copied; ints that lie apart. -/
import Derived.Test.YtfbhnjdbamahkaaGVa
import Derived.Test.YtfbhnjdbamahkaaNumI
import Derived.Test.YtfbhnjdbamahkaaGVb
import Derived.Test.YtfbhnjdbamahkaaIntsLaw
import Derived.Test.YtfbhnjdbamahkaaRow
namespace Go.Proofs.Ytfbhnjdbamahkaa
open Go.RowKit
open Ve (R)
end Go.Proofs.Ytfbhnjdbamahkaa
