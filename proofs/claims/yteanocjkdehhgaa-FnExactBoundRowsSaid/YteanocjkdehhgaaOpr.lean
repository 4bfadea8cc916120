/- A row's struct that came in: what it holds. -/
import Derived.Test.YteanocjkdehhgaaRwa
import Derived.Test.YteanocjkdehhgaaOpt
namespace Go.Proofs.Yteanocjkdehhgaa
open Go.ChangeShapes Go.WideShapes Go.ChangeAt Go.RowKit
variable {H : Type} {enc : TypeId × Value → H} {W : World}
theorem trod_row3 {t : TypeId} {f0 f1 f2 : Field} {fuel : Nat} {cs : List Value} {x : DataW H × List MemPlace} (ht : Try.prog.underlying t = some (.struct #[f0, f1, f2])) (h : DataW.trod enc Try.prog W 0 (fun _ => true) true fuel t cs = some x) :
    ∃ y0 y1 y2 n, DataW.trod enc Try.prog W 0 (fun _ => true) true n f0.type ((cs.drop f0.offset).take (Try.prog.cellsOf f0.type)) = some y0 ∧ DataW.trod enc Try.prog W 0 (fun _ => true) true n f1.type ((cs.drop f1.offset).take (Try.prog.cellsOf f1.type)) = some y1 ∧ DataW.trod enc Try.prog W 0 (fun _ => true) true n f2.type ((cs.drop f2.offset).take (Try.prog.cellsOf f2.type)) = some y2 := by
  obtain ⟨xs, n, _, rfl, hl, hlen, hf⟩ := DataW.trod_struct ht h
  match xs, hlen with
  | [y0, y1, y2], _ => exact ⟨y0, y1, y2, n, by simpa using hf 0 f0 rfl, by simpa using hf 1 f1 rfl, by simpa using hf 2 f2 rfl⟩
theorem array5 {α : Type} {cs : Array α} (h : cs.size = 5) : ∃ c0 c1 c2 c3 c4, cs = #[c0, c1, c2, c3, c4] := by
  obtain ⟨l⟩ := cs
  match l, h with
  | [c0, c1, c2, c3, c4], _ => exact ⟨c0, c1, c2, c3, c4, rfl⟩
set_option maxRecDepth 100000 in
set_option maxHeartbeats 1600000 in
theorem open_rowv {r : Reach} {b0 : Nat} {v : Value} {x : DataW H × List MemPlace} (hv : Value.okWide Try.prog W r b0 130 v) (h : ∃ fuel, DataW.trod enc Try.prog W 0 (fun _ => true) true fuel 130 v.cells.toList = some x) :
    ∃ (a : Option Addr) (n c : Nat) (K : List Tq) (z : Int) (s : Bool) (b : Option Addr) (m d : Nat) (A : List Int) (e : Option Addr) (k f : Nat) (D : List Int), v = .agg #[.slice a n c, .int .i64 z, .bool s, .slice b m d, .slice e k f] ∧ n ≤ maxLen ∧ (∀ f ∈ K, f.A.length ≤ maxLen ∧ f.D.length ≤ maxLen) ∧ m ≤ maxLen ∧ k ≤ maxLen ∧ WCame W W.heap.size a n K b m A e k D := by
  have hC : Try.prog.cellsOf 130 = 5 := of_decide_eq_true (by kernel_rfl)
  obtain ⟨cs, rfl, hsz⟩ := okWide_struct Try.underlying130 hv
  obtain ⟨c0, c1, c2, c3, c4, rfl⟩ := array5 (hsz.trans hC)
  obtain ⟨fuel, hf⟩ := h
  obtain ⟨y0, y1, y2, n, h0, h1, h2⟩ := trod_row3 Try.underlying130 hf
  have h0' : DataW.trod enc Try.prog W 0 (fun _ => true) true n 40 [c0] = some y0 := h0
  have h1' : DataW.trod enc Try.prog W 0 (fun _ => true) true n 3 [c1] = some y1 := h1
  have h2' : DataW.trod enc Try.prog W 0 (fun _ => true) true n 26 [c2, c3, c4] = some y2 := h2
  obtain ⟨a, l, c, e0⟩ := Go.Joins.slice_form Try.underlying40 h0'
  obtain rfl : c0 = .slice a l c := by simpa using e0
  obtain ⟨mt, K, rK, sK⟩ := open_terms (a := a) (len := l) (cap := c) ⟨n, h0'⟩
  obtain ⟨z, e1⟩ := int_form Try.underlying3 h1'
  obtain rfl : c1 = .int .i64 z := by simpa using e1
  obtain ⟨z0, z1, n2, hx, _, i0, i1⟩ := trod_struct2 Try.underlying26 h2'
  have i0' : DataW.trod enc Try.prog W 0 (fun _ => true) true n2 24 [c2, c3] = some z0 := i0
  have i1' : DataW.trod enc Try.prog W 0 (fun _ => true) true n2 22 [c4] = some z1 := i1
  obtain ⟨u0, u1, n3, hx3, _, j0, j1⟩ := trod_struct2 Try.underlying24 i0'
  have j0' : DataW.trod enc Try.prog W 0 (fun _ => true) true n3 4 [c2] = some u0 := j0
  have j1' : DataW.trod enc Try.prog W 0 (fun _ => true) true n3 22 [c3] = some u1 := j1
  obtain ⟨s, hb, -⟩ := DataW.trod_bool Try.underlying4 j0'
  obtain rfl : c2 = .bool s := by simpa using hb
  obtain ⟨a1, n1, p1, e1⟩ := Go.Joins.slice_form Try.underlying22 j1'
  obtain rfl : c3 = .slice a1 n1 p1 := by simpa using e1
  obtain ⟨a2, n2, p2, e2⟩ := Go.Joins.slice_form Try.underlying22 i1'
  obtain rfl : c4 = .slice a2 n2 p2 := by simpa using e2
  obtain ⟨A, rA, mA⟩ := open_row j1'
  obtain ⟨D, rD, mD⟩ := open_row i1'
  exact ⟨a, l, c, K, z, s, a1, n1, p1, A, a2, n2, p2, D, rfl, mt, sK, mA, mD, rK, ⟨rA, rD⟩⟩
end Go.Proofs.Yteanocjkdehhgaa
