import Derived.Test.YteanocjkdehhgaaGreatSra
import Derived.Test.YteanocjkdehhgaaGreatRhi
import Derived.Deep.RegionHeld3
import Derived.Maps.AppendAt
import Derived.Deep.DeepCutAuto
set_option maxRecDepth 512
set_option maxHeartbeats 200000
set_option linter.unusedVariables false
set_option linter.unusedSimpArgs false
namespace Go.Proofs.YteanocjkdehhgaaGreat
open Go.RowKit
open Go.Lib (hid)
theorem LocA.apart {T : TypeId} {w w' : World} {b G : Nat} {cs : Array Value} (h : LocA T w b cs) (ho : Only (fun k => k = G ∨ w.heap.size ≤ k) w w') (hG : b ≠ G) : LocA T w' b cs :=
 h.only ho fun hs => by have := h.lt; rcases hs with hs | hs <;> omega
theorem Only_below {w w' : World} {B G : Nat} (ho : Only (fun k => k = G ∨ w.heap.size ≤ k) w w') (hB : B ≤ G) (hB2 : B ≤ w.heap.size) : Below B w w' :=
 ho.below fun k hk hs => by rcases hs with hs | hs <;> omega
end Go.Proofs.YteanocjkdehhgaaGreat
namespace Go.Proofs.YteanocjkdehhgaaGreat
open Go.RowKit
open Go.Lib (hid)
end Go.Proofs.YteanocjkdehhgaaGreat
namespace Go.Proofs.YteanocjkdehhgaaGreat
open Go.RowKit
open Go.Lib (hid)
end Go.Proofs.YteanocjkdehhgaaGreat
namespace Go.Proofs.YteanocjkdehhgaaGreat
open Go.RowKit
open Go.Lib (hid)
end Go.Proofs.YteanocjkdehhgaaGreat
