/- The reference: a fraction copied. -/
import Derived.Test.YtookglpeieennaaSw
import Derived.Deep.RegionHeld3
namespace Go.Proofs.Ytookglpeieennaa
open Go.RowKit
open Go.Lib (hid)
set_option linter.unusedVariables false

end Go.Proofs.Ytookglpeieennaa
