/- The reference: sums, differences, products, quotients, the order, the smaller and the greater fraction. -/
import Derived.Test.YtookglpeieennaaSx
import Derived.Test.YtookglpeieennaaSy
import Derived.Deep.RegionHeld3
namespace Go.Proofs.Ytookglpeieennaa
open Go.RowKit
open Go.Lib (hid)
set_option linter.unusedVariables false

end Go.Proofs.Ytookglpeieennaa
