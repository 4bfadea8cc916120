/- A slice of fractions' structs that came in: what it holds. -/
import Derived.Test.YteanocjkdehhgaaVbe
import Derived.Test.YteanocjkdehhgaaOpn
import Derived.Deep.Slices
namespace Go.Proofs.Yteanocjkdehhgaa
open Go.ChangeShapes Go.WideShapes Go.ChangeAt Go.RowKit
variable {H : Type} {enc : TypeId × Value → H} {W : World}
theorem open_row {a : Option Addr} {len cap : Nat} {f : Nat} {y : DataW H × List MemPlace} (hf : DataW.trod enc Try.prog W 0 (fun _ => true) true f 22 [Value.slice a len cap] = some y) : ∃ L, Came W W.heap.size a len L ∧ len ≤ maxLen := by
  rcases open_ints Try.underlying22 Try.underlying3 (by kernel_rfl) hf with ⟨hcs, _⟩ | ⟨x, l, c, zs, hcs, _, hl, hm, hz, _, hcell, hwz⟩
  · simp at hcs
    obtain ⟨rfl, rfl, rfl⟩ := hcs
    obtain ⟨L, r, m, -⟩ := RowI_came (w := W) (a := none) (len := 0) (cap := 0) (zs := []) (.inl ⟨rfl, rfl, rfl, rfl⟩)
    exact ⟨L, Came.of r, m⟩
  · simp at hcs
    obtain ⟨rfl, rfl, rfl⟩ := hcs
    obtain ⟨L, r, m, -⟩ := RowI_came (w := W) (a := some x) (len := len) (cap := cap) (zs := zs) (.inr ⟨_, rfl, hl, hm, by simpa using hz, hcell, hwz⟩)
    exact ⟨L, Came.of r, m⟩
set_option maxRecDepth 100000 in
theorem open_one {f : Nat} {g o : Nat} {cs : List Value} {y : DataW H × List MemPlace} (hc : W.cells? 0 ⟨g, o, none⟩ 3 = some cs) (ht : DataW.trod enc Try.prog W 0 (fun _ => true) true f 26 cs = some y) :
    ∃ q : Fq, CameE W W.heap.size g o q ∧ q.A.length ≤ maxLen ∧ q.D.length ≤ maxLen := by
  obtain ⟨_, hcl, hat⟩ := World.cells?_some hc
  have hadd : ∀ j, (⟨g, o, none⟩ : Addr).add j = ⟨g, o + j, none⟩ := fun j => by rw [Go.WideShapes.add_plain]
  have k0 : Try.prog.cellsOf 31 = 2 ∨ True := .inr trivial
  obtain ⟨y0, y1, n, hx, _, h0, h1⟩ := trod_struct2 Try.underlying26 ht
  match cs, hcl with
  | [c0, c1, c2], _ =>
    have h0' : DataW.trod enc Try.prog W 0 (fun _ => true) true n 24 [c0, c1] = some y0 := h0
    have h1' : DataW.trod enc Try.prog W 0 (fun _ => true) true n 22 [c2] = some y1 := h1
    obtain ⟨z0, z1, m, hz, _, i0, i1⟩ := trod_struct2 Try.underlying24 h0'
    have i0' : DataW.trod enc Try.prog W 0 (fun _ => true) true m 4 [c0] = some z0 := i0
    have i1' : DataW.trod enc Try.prog W 0 (fun _ => true) true m 22 [c1] = some z1 := i1
    obtain ⟨s, hb, -⟩ := DataW.trod_bool Try.underlying4 i0'
    obtain rfl : c0 = .bool s := by simpa using hb
    obtain ⟨a1, n1, p1, e1⟩ := Go.Joins.slice_form Try.underlying22 i1'
    obtain rfl : c1 = .slice a1 n1 p1 := by simpa using e1
    obtain ⟨a2, n2, p2, e2⟩ := Go.Joins.slice_form Try.underlying22 h1'
    obtain rfl : c2 = .slice a2 n2 p2 := by simpa using e2
    obtain ⟨A, rA, mA⟩ := open_row i1'
    obtain ⟨D, rD, mD⟩ := open_row h1'
    have q0 := hat 0 (by omega)
    have q1 := hat 1 (by omega)
    have q2 := hat 2 (by omega)
    rw [hadd] at q0 q1 q2
    have eA := rA.1
    have eD := rD.1
    subst eA
    subst eD
    exact ⟨⟨s, A, D⟩, ⟨a1, p1, a2, p2, by simpa using q0, by simpa using q1, by simpa using q2, ⟨rA, rD⟩⟩, mA, mD⟩
instance : Inhabited Fq := ⟨⟨false, [], []⟩⟩
set_option maxRecDepth 100000 in
theorem open_rats {a : Option Addr} {len cap : Nat} {x : DataW H × List MemPlace} (h : ∃ fuel, DataW.trod enc Try.prog W 0 (fun _ => true) true fuel 147 (Value.slice a len cap).cells.toList = some x) :
    len ≤ maxLen ∧ ∃ K, VCame W W.heap.size a len K ∧ ∀ f ∈ K, f.A.length ≤ maxLen ∧ f.D.length ≤ maxLen := by
  obtain ⟨fuel, hf⟩ := h
  have hC : Try.prog.cellsOf 26 = 3 := of_decide_eq_true (by kernel_rfl)
  rcases Go.Deep.open_slice Try.underlying147 hf with ⟨hcs, -⟩ | ⟨ad, l, c, m, n, D, Pl, hcs, hb, hl, hm, hmm, hx, hi⟩
  · simp [Value.cells] at hcs
    obtain ⟨rfl, rfl, rfl⟩ := hcs
    exact ⟨Nat.zero_le _, [], ⟨rfl, fun h0 => by simp at h0⟩, fun f hf => by cases hf⟩
  · simp [Value.cells] at hcs
    obtain ⟨rfl, rfl, rfl⟩ := hcs
    refine ⟨Nat.le_trans hl hm, ?_⟩
    rw [hC] at hi
    have hmc : m = cap := by simpa using hmm
    obtain ⟨g, o, spot⟩ := ad
    by_cases h0 : 0 < len
    · have hs : spot = none := by
        obtain ⟨cs', hc, -⟩ := hi 0 (by omega)
        obtain ⟨_, hcl, hat⟩ := World.cells?_some hc
        have := hat 0 (by omega)
        match cs', hcl with
        | [c0, c1, c2], _ => simpa [Addr.add] using World.cell?_spot this
      subst hs
      have each : ∀ i, i < len → ∃ q : Fq, CameE W W.heap.size g (o + i * 3) q ∧ q.A.length ≤ maxLen ∧ q.D.length ≤ maxLen := fun i hil => by
        obtain ⟨cs', hc, ht⟩ := hi i (by omega)
        rw [Go.WideShapes.add_plain] at hc
        exact open_one hc ht
      obtain ⟨q, hq⟩ := Go.Deep.choose_lt each
      refine ⟨(List.range len).map q, ⟨by simp, fun _ => ⟨g, o, rfl, ?_, ?_, fun i hi' => ?_⟩⟩, fun f hf => ?_⟩
      · obtain ⟨_, _, _, _, e0, -⟩ := (hq 0 h0).1.ex
        exact World.block_lt_of_cell? W _ e0
      · obtain ⟨_, _, _, _, e0, -⟩ := (hq 0 h0).1.ex
        exact World.block_lt_of_cell? W _ e0
      · simp only [List.length_map, List.length_range] at hi'
        simpa using (hq i hi').1
      · obtain ⟨i, hi', rfl⟩ := List.mem_map.1 hf
        exact (hq i (by simpa using hi')).2
    · obtain rfl : len = 0 := by omega
      exact ⟨[], ⟨rfl, fun h0 => by simp at h0⟩, fun f hf => by cases hf⟩
end Go.Proofs.Yteanocjkdehhgaa
