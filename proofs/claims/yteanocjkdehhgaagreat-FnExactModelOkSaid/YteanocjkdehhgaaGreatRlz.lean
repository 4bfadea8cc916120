import Derived.Test.YteanocjkdehhgaaGreatRwa
set_option maxRecDepth 512
set_option maxHeartbeats 200000
set_option linter.unusedVariables false
set_option linter.unusedSimpArgs false
namespace Go.Proofs.YteanocjkdehhgaaGreat
open Go.RowKit
end Go.Proofs.YteanocjkdehhgaaGreat
