import Derived.Test.YteanocjkdehhgaaGreatVy
import Derived.Test.YteanocjkdehhgaaGreatOpn
import Derived.Deep.Slices
set_option maxRecDepth 512
set_option maxHeartbeats 200000
set_option linter.unusedVariables false
set_option linter.unusedSimpArgs false
namespace Go.Proofs.YteanocjkdehhgaaGreat
open Go.ChangeShapes Go.WideShapes Go.ChangeAt Go.RowKit
variable {H : Type} {enc : TypeId × Value → H} {W : World}
theorem open_row {a : Option Addr} {len cap : Nat} {f : Nat} {y : DataW H × List MemPlace} (hf : DataW.trod enc Tryz.prog W 0 (fun _ => true) true f 39 [Value.slice a len cap] = some y) : ∃ L, Came W W.heap.size a len L ∧ len ≤ maxLen := by
 rcases open_ints Tryz.underlying39 Tryz.underlying3 (by kernel_rfl) hf with ⟨hcs, _⟩ | ⟨x, l, c, zs, hcs, _, hl, hm, hz, _, hcell, hwz⟩
 ·simp at hcs
  obtain ⟨rfl, rfl, rfl⟩ := hcs
  obtain ⟨L, r, m, -⟩ := RowI_came (w := W) (a := none) (len := 0) (cap := 0) (zs := []) (.inl ⟨rfl, rfl, rfl, rfl⟩)
  exact ⟨L, Came.of r, m⟩
 ·simp at hcs
  obtain ⟨rfl, rfl, rfl⟩ := hcs
  obtain ⟨L, r, m, -⟩ := RowI_came (w := W) (a := some x) (len := len) (cap := cap) (zs := zs) (.inr ⟨_, rfl, hl, hm, by simpa using hz, hcell, hwz⟩)
  exact ⟨L, Came.of r, m⟩
instance : Inhabited Fq := ⟨⟨false, [], []⟩⟩
end Go.Proofs.YteanocjkdehhgaaGreat
