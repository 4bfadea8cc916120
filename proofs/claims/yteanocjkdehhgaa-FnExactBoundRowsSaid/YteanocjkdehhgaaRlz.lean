/- Rows: what the laws' walks want of memory. -/
import Derived.Test.YteanocjkdehhgaaRwa
namespace Go.Proofs.Yteanocjkdehhgaa
open Go.RowKit
set_option linter.unusedVariables false

theorem in_onlyR {w w' w0 : World} {lo hi : Nat} (h : Below w0.heap.size w0 w) (hb : Only (InG lo hi w.heap.size) w w') (hlo : w0.heap.size ≤ lo) : Below w0.heap.size w0 w' :=
  h.trans (hb.below fun k hk hs => by
    have := h.size
    rcases InG_cases hs with h1 | h1 <;> omega)
end Go.Proofs.Yteanocjkdehhgaa
