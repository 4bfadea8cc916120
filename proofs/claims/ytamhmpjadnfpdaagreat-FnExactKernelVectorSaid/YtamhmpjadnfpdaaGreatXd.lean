/- Matrices of zeros, of ones in the diagonal, transposed (the program). -/
import Derived.Test.YtamhmpjadnfpdaaGreatXc
import Derived.Test.YtamhmpjadnfpdaaGreatXf
import Derived.Test.YtamhmpjadnfpdaaGreatXo
import Derived.Test.YtamhmpjadnfpdaaGreatVy
import Derived.Deep.RegionHeld3
import Derived.Deep.DeepCutAuto
namespace Go.Proofs.YtamhmpjadnfpdaaGreat
open Go.RowKit
open Go.Lib (hid)
set_option linter.unusedVariables false

theorem enter_of {P : Program} {f : FuncId} {fn : Func} {c : Code} (hf : P.funcs[f]? = some fn) (hname : (fn.name == "runtime.NumGoroutine") = false) (hb : fn.body = some c) (args : Array Value) (w : World) :
    (callFunc f args).run P w = .ok (.enter f args) w := by
  have h1 : fn.name ≠ "runtime.NumGoroutine" := by simpa using hname
  simp [callFunc, hf, h1, hb]
end Go.Proofs.YtamhmpjadnfpdaaGreat
