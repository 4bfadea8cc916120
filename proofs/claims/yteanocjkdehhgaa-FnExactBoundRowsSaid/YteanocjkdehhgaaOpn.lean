/- A fraction's struct that came in: its three cells and how each reads. -/
import Derived.Test.YteanocjkdehhgaaProg
import Derived.ProofKit
import Derived.OpenShut
import Derived.Lib.SmallJoins
namespace Go.Proofs.Yteanocjkdehhgaa
open Go.ChangeShapes Go.WideShapes Go.ChangeAt Go.RowKit
variable {H : Type} {enc : TypeId × Value → H} {P : Program} {w : World} {base : Nat} {spare : Nat → Bool} {held : Bool}
theorem open_rat {r : Reach} {b0 : Nat} {t : TypeId} {f0 f1 g0 g1 : Field} {v : Value} {d : DataW H} {p : List MemPlace}
    (hs : P.underlying t = some (.struct #[f0, f1])) (hb : P.underlying f0.type = some (.struct #[g0, g1]))
    (hk : f0.offset = 0 ∧ P.cellsOf f0.type = 2 ∧ f1.offset = 2 ∧ P.cellsOf f1.type = 1 ∧ g0.offset = 0 ∧ P.cellsOf g0.type = 1 ∧ g1.offset = 1 ∧ P.cellsOf g1.type = 1) (hC : P.cellsOf t = 3)
    (hv : Value.okWide P w r b0 t v) (h : DataW.Trod enc P w base spare held t v d p) :
    ∃ (v0 v1 v2 : Value) (y0 y1 y2 : DataW H × List MemPlace) (n m : Nat), v = .agg #[v0, v1, v2] ∧
      DataW.trod enc P w base spare held n g0.type [v0] = some y0 ∧ DataW.trod enc P w base spare held n g1.type [v1] = some y1 ∧ DataW.trod enc P w base spare held m f1.type [v2] = some y2 := by
  obtain ⟨k0, k1, k2, k3, k4, k5, k6, k7⟩ := hk
  obtain ⟨cs, rfl, hsz⟩ := okWide_struct hs hv
  obtain ⟨c0, c1, c2, rfl⟩ := Go.Joins.array3 (hsz.trans hC)
  obtain ⟨fuel, hf⟩ := h
  obtain ⟨y0, y1, n, hx, _, h0, h1⟩ := trod_struct2 hs hf
  rw [k0, k1] at h0
  rw [k2, k3] at h1
  have h0' : DataW.trod enc P w base spare held n f0.type [c0, c1] = some y0 := by simpa [Value.cells] using h0
  have h1' : DataW.trod enc P w base spare held n f1.type [c2] = some y1 := by simpa [Value.cells] using h1
  obtain ⟨z0, z1, m, hz, _, i0, i1⟩ := trod_struct2 hb h0'
  rw [k4, k5] at i0
  rw [k6, k7] at i1
  exact ⟨c0, c1, c2, z0, z1, y1, m, n, rfl, by simpa using i0, by simpa using i1, h1'⟩
end Go.Proofs.Yteanocjkdehhgaa
