/- A model's struct that came in: what it holds. -/
import Derived.Test.YteanocjkdehhgaaKg
import Derived.Test.YteanocjkdehhgaaOpr
import Derived.Deep.Slices
import Derived.Lib.SmallJoins
namespace Go.Proofs.Yteanocjkdehhgaa
open Go.ChangeShapes Go.WideShapes Go.ChangeAt Go.RowKit
variable {H : Type} {enc : TypeId × Value → H} {W : World}
set_option maxRecDepth 100000 in
theorem open_gen {α : Type} [Inhabited α] {N : Nat} {T te : TypeId} {Cm : World → Nat → Nat → Nat → α → Prop} {ok : α → Prop} (hT : Try.prog.underlying T = some (.slice te)) (hC : Try.prog.cellsOf te = N) (hN : 0 < N)
    (one : ∀ {f g o : Nat} {cs : List Value} {y : DataW H × List MemPlace}, W.cells? 0 ⟨g, o, none⟩ N = some cs → DataW.trod enc Try.prog W 0 (fun _ => true) true f te cs = some y → ∃ q : α, Cm W W.heap.size g o q ∧ ok q)
    {a : Option Addr} {len cap : Nat} {x : DataW H × List MemPlace} (h : ∃ fuel, DataW.trod enc Try.prog W 0 (fun _ => true) true fuel T (Value.slice a len cap).cells.toList = some x) :
    len ≤ maxLen ∧ ∃ K : List α, (len = K.length ∧ (0 < K.length → ∃ g o, a = some ⟨g, o, none⟩ ∧ g < W.heap.size ∧ g < W.heap.size ∧ ∀ i (hi : i < K.length), Cm W W.heap.size g (o + i * N) K[i])) ∧ ∀ f ∈ K, ok f := by
  obtain ⟨fuel, hf⟩ := h
  rcases Go.Deep.open_slice hT hf with ⟨hcs, -⟩ | ⟨ad, l, c, m, n, D, Pl, hcs, hb, hl, hm, hmm, hx, hi⟩
  · simp [Value.cells] at hcs
    obtain ⟨rfl, rfl, rfl⟩ := hcs
    exact ⟨Nat.zero_le _, [], ⟨rfl, fun h0 => by simp at h0⟩, fun f hf => by cases hf⟩
  · simp [Value.cells] at hcs
    obtain ⟨rfl, rfl, rfl⟩ := hcs
    refine ⟨Nat.le_trans hl hm, ?_⟩
    rw [hC] at hi
    have hmc : m = cap := by simpa using hmm
    obtain ⟨g, o, spot⟩ := ad
    by_cases h0 : 0 < len
    · have hs : spot = none ∧ g < W.heap.size := by
        obtain ⟨cs', hc, -⟩ := hi 0 (by omega)
        obtain ⟨_, hcl, hat⟩ := World.cells?_some hc
        have h1 := hat 0 (by omega)
        have h2 : 0 < cs'.length := by omega
        rw [List.getElem?_eq_getElem h2] at h1
        exact ⟨by simpa [Addr.add] using World.cell?_spot h1, by simpa [Addr.add] using World.block_lt_of_cell? W _ h1⟩
      obtain ⟨hs, hg⟩ := hs
      subst hs
      have each : ∀ i, i < len → ∃ q : α, Cm W W.heap.size g (o + i * N) q ∧ ok q := fun i hil => by
        obtain ⟨cs', hc, ht⟩ := hi i (by omega)
        rw [Go.WideShapes.add_plain] at hc
        exact one hc ht
      obtain ⟨q, hq⟩ := Go.Deep.choose_lt each
      refine ⟨(List.range len).map q, ⟨by simp, fun _ => ⟨g, o, rfl, hg, hg, fun i hi' => ?_⟩⟩, fun f hf => ?_⟩
      · simp only [List.length_map, List.length_range] at hi'
        simpa using (hq i hi').1
      · obtain ⟨i, hi', rfl⟩ := List.mem_map.1 hf
        exact (hq i (by simpa using hi')).2
    · obtain rfl : len = 0 := by omega
      exact ⟨[], ⟨rfl, fun h0 => by simp at h0⟩, fun f hf => by cases hf⟩
set_option maxRecDepth 100000 in
set_option maxHeartbeats 1600000 in
/-- A fraction's three cells. -/
theorem open_ratc {f : Nat} {c0 c1 c2 : Value} {y : DataW H × List MemPlace} (h : DataW.trod enc Try.prog W 0 (fun _ => true) true f 26 [c0, c1, c2] = some y) :
    ∃ s a n p A b m q D, c0 = .bool s ∧ c1 = .slice a n p ∧ c2 = .slice b m q ∧ CameR W W.heap.size a n A b m D ∧ n ≤ maxLen ∧ m ≤ maxLen := by
  obtain ⟨z0, z1, n2, hx, _, i0, i1⟩ := trod_struct2 Try.underlying26 h
  have i0' : DataW.trod enc Try.prog W 0 (fun _ => true) true n2 24 [c0, c1] = some z0 := i0
  have i1' : DataW.trod enc Try.prog W 0 (fun _ => true) true n2 22 [c2] = some z1 := i1
  obtain ⟨u0, u1, n3, hx3, _, j0, j1⟩ := trod_struct2 Try.underlying24 i0'
  have j0' : DataW.trod enc Try.prog W 0 (fun _ => true) true n3 4 [c0] = some u0 := j0
  have j1' : DataW.trod enc Try.prog W 0 (fun _ => true) true n3 22 [c1] = some u1 := j1
  obtain ⟨s, hb, -⟩ := DataW.trod_bool Try.underlying4 j0'
  obtain ⟨a1, n1, p1, e1⟩ := Go.Joins.slice_form Try.underlying22 j1'
  obtain rfl : c1 = .slice a1 n1 p1 := by simpa using e1
  obtain ⟨a2, n2, p2, e2⟩ := Go.Joins.slice_form Try.underlying22 i1'
  obtain rfl : c2 = .slice a2 n2 p2 := by simpa using e2
  obtain ⟨A, rA, mA⟩ := open_row j1'
  obtain ⟨D, rD, mD⟩ := open_row i1'
  exact ⟨s, a1, n1, p1, A, a2, n2, p2, D, by simpa using hb, rfl, rfl, ⟨rA, rD⟩, mA, mD⟩
instance : Inhabited Wq := ⟨⟨[], 0, false, [], []⟩⟩
instance : Inhabited Cq := ⟨⟨ByteArray.empty, false, [], [], false, [], [], false⟩⟩
set_option maxRecDepth 100000 in
set_option maxHeartbeats 1600000 in
theorem open_oneR {f g o : Nat} {cs : List Value} {y : DataW H × List MemPlace} (hc : W.cells? 0 ⟨g, o, none⟩ 5 = some cs) (ht : DataW.trod enc Try.prog W 0 (fun _ => true) true f 130 cs = some y) :
    ∃ q : Wq, CameW W W.heap.size g o q ∧ okR q := by
  obtain ⟨_, hcl, hat⟩ := World.cells?_some hc
  have hadd : ∀ j, (⟨g, o, none⟩ : Addr).add j = ⟨g, o + j, none⟩ := fun j => by rw [Go.WideShapes.add_plain]
  obtain ⟨y0, y1, y2, n, h0, h1, h2⟩ := trod_row3 Try.underlying130 ht
  match cs, hcl with
  | [c0, c1, c2, c3, c4], _ =>
    have h0' : DataW.trod enc Try.prog W 0 (fun _ => true) true n 40 [c0] = some y0 := h0
    have h1' : DataW.trod enc Try.prog W 0 (fun _ => true) true n 3 [c1] = some y1 := h1
    have h2' : DataW.trod enc Try.prog W 0 (fun _ => true) true n 26 [c2, c3, c4] = some y2 := h2
    obtain ⟨a, l, c, e0⟩ := Go.Joins.slice_form Try.underlying40 h0'
    obtain rfl : c0 = .slice a l c := by simpa using e0
    obtain ⟨mt, K, rK, sK⟩ := open_terms (a := a) (len := l) (cap := c) ⟨n, h0'⟩
    obtain ⟨z, e1⟩ := int_form Try.underlying3 h1'
    obtain rfl : c1 = .int .i64 z := by simpa using e1
    obtain ⟨s, a1, n1, p1, A, a2, n2, p2, D, rfl, rfl, rfl, hr, mA, mD⟩ := open_ratc h2'
    have q0 := hat 0 (by omega)
    have q1 := hat 1 (by omega)
    have q2 := hat 2 (by omega)
    have q3 := hat 3 (by omega)
    have q4 := hat 4 (by omega)
    rw [hadd] at q0 q1 q2 q3 q4
    have eK := rK.1
    have eA := hr.x.1
    have eD := hr.y.1
    subst eK
    subst eA
    subst eD
    exact ⟨⟨K, z, s, A, D⟩, ⟨a, c, a1, p1, a2, p2, by simpa using q0, by simpa using q1, by simpa using q2, by simpa using q3, by simpa using q4, ⟨rK, hr⟩⟩, mt, sK, mA, mD⟩
set_option maxRecDepth 100000 in
set_option maxHeartbeats 1600000 in
theorem open_oneC {f g o : Nat} {cs : List Value} {y : DataW H × List MemPlace} (hc : W.cells? 0 ⟨g, o, none⟩ 8 = some cs) (ht : DataW.trod enc Try.prog W 0 (fun _ => true) true f 28 cs = some y) :
    ∃ q : Cq, CameC W W.heap.size g o q ∧ okC q := by
  obtain ⟨_, hcl, hat⟩ := World.cells?_some hc
  have hadd : ∀ j, (⟨g, o, none⟩ : Addr).add j = ⟨g, o + j, none⟩ := fun j => by rw [Go.WideShapes.add_plain]
  obtain ⟨y0, y1, y2, y3, n, -, -, h0, h1, h2, h3⟩ := Go.Joins.trod_struct4 Try.underlying28 ht
  match cs, hcl with
  | [c0, c1, c2, c3, c4, c5, c6, c7], _ =>
    have h0' : DataW.trod enc Try.prog W 0 (fun _ => true) true n 9 [c0] = some y0 := h0
    have h1' : DataW.trod enc Try.prog W 0 (fun _ => true) true n 26 [c1, c2, c3] = some y1 := h1
    have h2' : DataW.trod enc Try.prog W 0 (fun _ => true) true n 26 [c4, c5, c6] = some y2 := h2
    have h3' : DataW.trod enc Try.prog W 0 (fun _ => true) true n 4 [c7] = some y3 := h3
    obtain ⟨nm, e0, -, mn⟩ := DataW.trod_string Try.underlying9 h0'
    obtain rfl : c0 = .string nm := by simpa using e0
    obtain ⟨s, a1, n1, p1, A, a2, n2, p2, D, rfl, rfl, rfl, hr, mA, mD⟩ := open_ratc h1'
    obtain ⟨z, a3, n3, p3, F, a4, n4, p4, G, rfl, rfl, rfl, hr', mF, mG⟩ := open_ratc h2'
    obtain ⟨b, hb, -⟩ := DataW.trod_bool Try.underlying4 h3'
    obtain rfl : c7 = .bool b := by simpa using hb
    have q0 := hat 0 (by omega)
    have q1 := hat 1 (by omega)
    have q2 := hat 2 (by omega)
    have q3 := hat 3 (by omega)
    have q4 := hat 4 (by omega)
    have q5 := hat 5 (by omega)
    have q6 := hat 6 (by omega)
    have q7 := hat 7 (by omega)
    rw [hadd] at q0 q1 q2 q3 q4 q5 q6 q7
    have eA := hr.x.1
    have eD := hr.y.1
    have eF := hr'.x.1
    have eG := hr'.y.1
    subst eA
    subst eD
    subst eF
    subst eG
    exact ⟨⟨nm, s, A, D, z, F, G, b⟩, ⟨a1, p1, a2, p2, a3, p3, a4, p4, by simpa using q0, by simpa using q1, by simpa using q2, by simpa using q3, by simpa using q4, by simpa using q5, by simpa using q6, by simpa using q7, ⟨hr, hr'⟩⟩, mn, mA, mD, mF, mG⟩
theorem open_rows {a : Option Addr} {len cap : Nat} {x : DataW H × List MemPlace} (h : ∃ fuel, DataW.trod enc Try.prog W 0 (fun _ => true) true fuel 41 (Value.slice a len cap).cells.toList = some x) :
    len ≤ maxLen ∧ ∃ K, RCame W W.heap.size a len K ∧ ∀ f ∈ K, okR f :=
  open_gen Try.underlying41 (of_decide_eq_true (by kernel_rfl)) (by decide) (fun hc ht => open_oneR hc ht) h
theorem open_cols {a : Option Addr} {len cap : Nat} {x : DataW H × List MemPlace} (h : ∃ fuel, DataW.trod enc Try.prog W 0 (fun _ => true) true fuel 39 (Value.slice a len cap).cells.toList = some x) :
    len ≤ maxLen ∧ ∃ K, CCame W W.heap.size a len K ∧ ∀ f ∈ K, okC f :=
  open_gen Try.underlying39 (of_decide_eq_true (by kernel_rfl)) (by decide) (fun hc ht => open_oneC hc ht) h
theorem array3x {α : Type} {cs : Array α} (h : cs.size = 3) : ∃ c0 c1 c2, cs = #[c0, c1, c2] := by
  obtain ⟨l⟩ := cs
  match l, h with
  | [c0, c1, c2], _ => exact ⟨c0, c1, c2, rfl⟩
theorem array8 {α : Type} {cs : Array α} (h : cs.size = 8) : ∃ c0 c1 c2 c3 c4 c5 c6 c7, cs = #[c0, c1, c2, c3, c4, c5, c6, c7] := by
  obtain ⟨l⟩ := cs
  match l, h with
  | [c0, c1, c2, c3, c4, c5, c6, c7], _ => exact ⟨c0, c1, c2, c3, c4, c5, c6, c7, rfl⟩
set_option maxRecDepth 100000 in
set_option maxHeartbeats 1600000 in
theorem open_model {r : Reach} {b0 : Nat} {v : Value} {x : DataW H × List MemPlace} (hv : Value.okWide Try.prog W r b0 43 v) (h : ∃ fuel, DataW.trod enc Try.prog W 0 (fun _ => true) true fuel 43 v.cells.toList = some x) :
    ∃ (a : Option Addr) (n c : Nat) (C : List Cq) (b : Option Addr) (m d : Nat) (K : List Tq) (e : Option Addr) (k f : Nat) (R : List Wq), v = .agg #[.slice a n c, .slice b m d, .slice e k f] ∧ n ≤ maxLen ∧ (∀ f ∈ C, okC f) ∧ m ≤ maxLen ∧ (∀ f ∈ K, f.A.length ≤ maxLen ∧ f.D.length ≤ maxLen) ∧ k ≤ maxLen ∧ (∀ f ∈ R, okR f) ∧ NCame W W.heap.size a n C b m K e k R := by
  have hC : Try.prog.cellsOf 43 = 3 := of_decide_eq_true (by kernel_rfl)
  obtain ⟨cs, rfl, hsz⟩ := okWide_struct Try.underlying43 hv
  obtain ⟨c0, c1, c2, rfl⟩ := array3x (hsz.trans hC)
  obtain ⟨fuel, hf⟩ := h
  obtain ⟨y0, y1, y2, n, h0, h1, h2⟩ := trod_row3 Try.underlying43 hf
  have h0' : DataW.trod enc Try.prog W 0 (fun _ => true) true n 39 [c0] = some y0 := h0
  have h1' : DataW.trod enc Try.prog W 0 (fun _ => true) true n 40 [c1] = some y1 := h1
  have h2' : DataW.trod enc Try.prog W 0 (fun _ => true) true n 41 [c2] = some y2 := h2
  obtain ⟨a0, l0, k0, e0⟩ := Go.Joins.slice_form Try.underlying39 h0'
  obtain rfl : c0 = .slice a0 l0 k0 := by simpa using e0
  obtain ⟨a1, l1, k1, e1⟩ := Go.Joins.slice_form Try.underlying40 h1'
  obtain rfl : c1 = .slice a1 l1 k1 := by simpa using e1
  obtain ⟨a2, l2, k2, e2⟩ := Go.Joins.slice_form Try.underlying41 h2'
  obtain rfl : c2 = .slice a2 l2 k2 := by simpa using e2
  obtain ⟨m0, C, rC, sC⟩ := open_cols (a := a0) (len := l0) (cap := k0) ⟨n, h0'⟩
  obtain ⟨m1, K, rK, sK⟩ := open_terms (a := a1) (len := l1) (cap := k1) ⟨n, h1'⟩
  obtain ⟨m2, R, rR, sR⟩ := open_rows (a := a2) (len := l2) (cap := k2) ⟨n, h2'⟩
  exact ⟨a0, l0, k0, C, a1, l1, k1, K, a2, l2, k2, R, rfl, m0, sC, m1, sK, m2, sR, ⟨rC, rK, rR⟩⟩
set_option maxRecDepth 100000 in
set_option maxHeartbeats 1600000 in
theorem open_col {r : Reach} {b0 : Nat} {v : Value} {x : DataW H × List MemPlace} (hv : Value.okWide Try.prog W r b0 28 v) (h : ∃ fuel, DataW.trod enc Try.prog W 0 (fun _ => true) true fuel 28 v.cells.toList = some x) :
    ∃ (nm : ByteArray) (s : Bool) (a : Option Addr) (n c : Nat) (A : List Int) (b : Option Addr) (m d : Nat) (D : List Int) (z : Bool) (e : Option Addr) (k f : Nat) (F : List Int) (g : Option Addr) (l i : Nat) (G : List Int) (t : Bool), v = .agg #[.string nm, .bool s, .slice a n c, .slice b m d, .bool z, .slice e k f, .slice g l i, .bool t] ∧ nm.size ≤ maxLen ∧ n ≤ maxLen ∧ m ≤ maxLen ∧ k ≤ maxLen ∧ l ≤ maxLen ∧ ClCame W W.heap.size a n A b m D e k F g l G := by
  have hC : Try.prog.cellsOf 28 = 8 := of_decide_eq_true (by kernel_rfl)
  obtain ⟨cs, rfl, hsz⟩ := okWide_struct Try.underlying28 hv
  obtain ⟨c0, c1, c2, c3, c4, c5, c6, c7, rfl⟩ := array8 (hsz.trans hC)
  obtain ⟨fuel, hf⟩ := h
  obtain ⟨y0, y1, y2, y3, n, -, -, h0, h1, h2, h3⟩ := Go.Joins.trod_struct4 Try.underlying28 hf
  have h0' : DataW.trod enc Try.prog W 0 (fun _ => true) true n 9 [c0] = some y0 := h0
  have h1' : DataW.trod enc Try.prog W 0 (fun _ => true) true n 26 [c1, c2, c3] = some y1 := h1
  have h2' : DataW.trod enc Try.prog W 0 (fun _ => true) true n 26 [c4, c5, c6] = some y2 := h2
  have h3' : DataW.trod enc Try.prog W 0 (fun _ => true) true n 4 [c7] = some y3 := h3
  obtain ⟨nm, e0, -, mn⟩ := DataW.trod_string Try.underlying9 h0'
  obtain rfl : c0 = .string nm := by simpa using e0
  obtain ⟨s, a1, n1, p1, A, a2, n2, p2, D, rfl, rfl, rfl, hr, mA, mD⟩ := open_ratc h1'
  obtain ⟨z, a3, n3, p3, F, a4, n4, p4, G, rfl, rfl, rfl, hr', mF, mG⟩ := open_ratc h2'
  obtain ⟨b, hb, -⟩ := DataW.trod_bool Try.underlying4 h3'
  obtain rfl : c7 = .bool b := by simpa using hb
  exact ⟨nm, s, a1, n1, p1, A, a2, n2, p2, D, z, a3, n3, p3, F, a4, n4, p4, G, b, rfl, mn, mA, mD, mF, mG, ⟨hr, hr'⟩⟩
end Go.Proofs.Yteanocjkdehhgaa
