/- Merged: Vb Vm Vc Vv Vh Vi Vj Ve. -/
import Derived.Test.YteanocjkdehhgaaRhi
import Derived.Deep.RegionHeld3
import Derived.Test.YteanocjkdehhgaaRo
import Derived.Deep.AppendLies
/- Slices of fractions' structs: what they hold and how they lie. -/
namespace Go.Proofs.Yteanocjkdehhgaa
open Go.RowKit
open Go.Lib (hid)
set_option linter.unusedVariables false

/-- What a struct of a fraction holds. -/
structure Fq where
  s : Bool
  A : List Int
  D : List Int
/-- A struct in a slice: what it holds, and its two slices. -/
structure El where
  q : Fq
  v : Value
  u : Value
def El.cs (e : El) : List Value := [.bool e.q.s, e.v, e.u]
def flat (E : List El) : List Value := E.flatMap El.cs
theorem flat_cons (e : El) (E : List El) : flat (e :: E) = .bool e.q.s :: e.v :: e.u :: flat E := rfl
theorem flat_append (E F : List El) : flat (E ++ F) = flat E ++ flat F := by simp [flat]
theorem flat_one (e : El) : flat [e] = [.bool e.q.s, e.v, e.u] := rfl
theorem flat_len : ∀ E : List El, (flat E).length = E.length * 3
  | [] => rfl
  | e :: E => by
    have := flat_len E
    rw [flat_cons]
    simp only [List.length_cons]
    omega
theorem flat_at : ∀ (E : List El) (i : Nat) (h : i < E.length), (flat E)[i * 3]? = some (.bool E[i].q.s) ∧ (flat E)[i * 3 + 1]? = some E[i].v ∧ (flat E)[i * 3 + 2]? = some E[i].u
  | e :: E, 0, _ => ⟨rfl, rfl, rfl⟩
  | e :: E, i + 1, h => by
    have := flat_at E i (by simpa using h)
    rw [flat_cons, show (i + 1) * 3 = i * 3 + 1 + 1 + 1 by omega]
    simpa using this
theorem flat_set : ∀ (E : List El) (i : Nat) (h : i < E.length) (e : El), flat (E.set i e) = (((flat E).set (i * 3) (.bool e.q.s)).set (i * 3 + 1) e.v).set (i * 3 + 2) e.u
  | _ :: E, 0, _, e => rfl
  | x :: E, i + 1, h, e => by
    have := flat_set E i (by simpa using h) e
    rw [List.set_cons_succ, flat_cons, flat_cons, show (i + 1) * 3 = i * 3 + 1 + 1 + 1 by omega, this]
    simp
theorem flat_sets (E : List El) (i : Nat) (h : i < E.length) (b : Bool) : flat (E.set i ⟨⟨b, E[i].q.A, E[i].q.D⟩, E[i].v, E[i].u⟩) = (flat E).set (i * 3) (.bool b) := by
  obtain ⟨-, h1, h2⟩ := flat_at E i h
  rw [flat_set E i h]
  have l := flat_len E
  apply List.ext_getElem?
  intro j
  simp only [List.getElem?_set, List.length_set]
  by_cases e2 : i * 3 + 2 = j
  · subst e2
    rw [if_pos rfl, if_pos (by omega), if_neg (by omega), h2]
  · rw [if_neg e2]
    by_cases e1 : i * 3 + 1 = j
    · subst e1
      rw [if_pos rfl, if_pos (by omega), if_neg (by omega), h1]
    · rw [if_neg e1]
theorem own_block {w w' : World} {B k n : Nat} {T : TypeId} {v : Value} {xs : List Value} (h : w.ownsRow B T k v n xs) (hb : ∀ j, v.ownBlock = some j → w'.heap[j]? = w.heap[j]?) : w'.ownsRow B T k v n xs := by
  refine ⟨h.1, ?_⟩
  rcases h.2 with g | ⟨b, cap, cur, h1, h2, h3, h4⟩
  · exact .inl g
  · exact .inr ⟨b, cap, cur, h1, h2, (hb b (by rw [h1]; rfl)).trans h3, h4⟩
theorem own_base {w : World} {B B' k n : Nat} {T : TypeId} {v : Value} {xs : List Value} (h : w.ownsRow B T k v n xs) (hB : B' ≤ B) : w.ownsRow B' T k v n xs := by
  refine ⟨h.1, ?_⟩
  rcases h.2 with g | ⟨b, cap, cur, h1, h2, h3⟩
  · exact .inl g
  · exact .inr ⟨b, cap, cur, h1, Nat.le_trans hB h2, h3⟩
theorem own_ne {w : World} {B B' k k' n n' : Nat} {T T' : TypeId} {v u : Value} {xs ys : List Value} (h : w.ownsRow B T k v n xs) (h' : w.ownsRow B' T' k' u n' ys) (hT : T ≠ T') : ∀ j, v.ownBlock = some j → u.ownBlock ≠ some j := by
  intro j hv hu
  rcases h.2 with ⟨rfl, -⟩ | ⟨b, cap, cur, rfl, h2, h3, h4⟩
  · simp [Value.ownBlock] at hv
  · rcases h'.2 with ⟨rfl, -⟩ | ⟨b', cap', cur', rfl, h2', h3', h4'⟩
    · simp [Value.ownBlock] at hu
    · simp only [Value.ownBlock, Option.some.injEq] at hv hu
      subst hv
      subst hu
      rw [h3] at h3'
      simp only [Option.some.injEq, Go.Obj.cells.injEq] at h3'
      exact hT h3'.2.1
/-- The two slices of the one and the two of the other share no block. -/
def Apt (e e' : El) : Prop := ∀ k, (e.v.ownBlock = some k ∨ e.u.ownBlock = some k) → ¬ (e'.v.ownBlock = some k ∨ e'.u.ownBlock = some k)
theorem Apt.symm {e e' : El} (h : Apt e e') : Apt e' e := fun k h1 h2 => h k h2 h1
/-- A slice of structs of one's own: it and what its structs hold lie from lo on, below hi (p: no two of the slices that they hold share memory). -/
structure VO (p : Bool) (w : World) (v : Value) (E : List El) (lo hi : Nat) : Prop where
  row : w.ownsRow lo 33 3 v E.length (flat E)
  high : ∀ k, v.ownBlock = some k → k < hi
  el : ∀ e ∈ E, ROw w e.v e.u e.q.A e.q.D lo hi
  nd : p = true → ∀ e ∈ E, ∀ k, e.v.ownBlock = some k → e.u.ownBlock ≠ some k
  ap : p = true → E.Pairwise Apt
theorem VO.at {p : Bool} {w : World} {v : Value} {E : List El} {lo hi : Nat} (h : VO p w v E lo hi) {i : Nat} (hi' : i < E.length) : ROw w E[i].v E[i].u E[i].q.A E[i].q.D lo hi := h.el _ (List.getElem_mem hi')
theorem VO.lt {p : Bool} {w : World} {v : Value} {E : List El} {lo hi : Nat} (h : VO p w v E lo hi) : ∀ k, v.ownBlock = some k → lo ≤ k ∧ k < w.heap.size := h.row.lt
theorem VO.old {p : Bool} {w w' : World} {v : Value} {E : List El} {lo hi : Nat} (h : VO p w v E lo hi) (hb : Below w.heap.size w w') : VO p w' v E lo hi :=
  ⟨own_block h.row fun k hk => hb.block k (h.lt k hk).2, h.high, fun e he => (h.el e he).old hb, h.nd, h.ap⟩
theorem VO.onlyG {p : Bool} {w w' : World} {v : Value} {E : List El} {lo hi a b : Nat} (h : VO p w v E lo hi) (hb : Only (InG a b w.heap.size) w w') (hd : hi ≤ a ∨ b ≤ lo) : VO p w' v E lo hi :=
  ⟨own_block h.row fun k hk => hb.block k fun hs => by have := InG_cases hs; have := h.high k hk; have := h.lt k hk; omega, h.high, fun e he => (h.el e he).onlyG hb hd, h.nd, h.ap⟩
theorem VO.wide {p : Bool} {w : World} {v : Value} {E : List El} {lo hi lo' hi' : Nat} (h : VO p w v E lo hi) (h1 : lo' ≤ lo) (h2 : hi ≤ hi') : VO p w v E lo' hi' :=
  ⟨own_base h.row h1, fun k hk => Nat.lt_of_lt_of_le (h.high k hk) h2, fun e he => ⟨(h.el e he).a.wide h1 (.inr h2), (h.el e he).d.wide h1 (.inr h2)⟩, h.nd, h.ap⟩
theorem VO.weak {p : Bool} {w : World} {v : Value} {E : List El} {lo hi : Nat} (h : VO p w v E lo hi) : VO false w v E lo hi := ⟨h.row, h.high, h.el, fun h => (by cases h), fun h => (by cases h)⟩
theorem VO.len {p : Bool} {w : World} {v : Value} {E : List El} {lo hi : Nat} (h : VO p w v E lo hi) : E.length ≤ maxLen := by
  rcases h.row.2 with ⟨-, h1⟩ | ⟨g, cap, cur, -, -, -, h1, h2, -⟩
  · omega
  · omega
theorem VO_nil (p : Bool) (w : World) (lo hi : Nat) : VO p w (.slice none 0 0) [] lo hi :=
  ⟨World.ownsRow_nil _ _ _ _, fun k hk => by simp [Value.ownBlock] at hk, fun e he => (by cases he), fun _ e he => (by cases he), fun _ => List.Pairwise.nil⟩
theorem VO.cases {p : Bool} {w : World} {v : Value} {E : List El} {lo hi : Nat} (h : VO p w v E lo hi) :
    (v = .slice none 0 0 ∧ E = []) ∨ ∃ g cap, v = .slice (some ⟨g, 0, none⟩) E.length cap ∧ lo ≤ g ∧ g < hi ∧ g < w.heap.size ∧ E.length ≤ cap := by
  rcases h.row.2 with ⟨h1, h2⟩ | ⟨g, cap, cur, h1, h2, h3, h4, -⟩
  · exact .inl ⟨h1, List.eq_nil_of_length_eq_zero h2⟩
  · exact .inr ⟨g, cap, h1, h2, h.high g (by rw [h1]; rfl), (Array.getElem?_eq_some_iff.1 h3).1, h4⟩
theorem VO.form {p : Bool} {w : World} {v : Value} {E : List El} {lo hi : Nat} (h : VO p w v E lo hi) : ∃ a c, v = .slice a E.length c ∧ E.length ≤ c := by
  rcases h.cases with ⟨rfl, rfl⟩ | ⟨g, cap, rfl, -, -, -, h4⟩
  · exact ⟨none, 0, rfl, Nat.le_refl _⟩
  · exact ⟨_, cap, rfl, h4⟩
theorem VO.pos {p : Bool} {w : World} {a : Option Addr} {n c : Nat} {E : List El} {lo hi : Nat} (h : VO p w (.slice a n c) E lo hi) (h0 : 0 < E.length) : ∃ g, a = some ⟨g, 0, none⟩ ∧ n = E.length ∧ lo ≤ g ∧ g < hi ∧ g < w.heap.size := by
  rcases h.cases with ⟨-, rfl⟩ | ⟨g, cap, h1, h2, h3, h4, -⟩
  · simp at h0
  · simp only [Value.slice.injEq] at h1
    exact ⟨g, h1.1, h1.2.1, h2, h3, h4⟩
theorem VO.cell {p : Bool} {w : World} {g n c : Nat} {E : List El} {lo hi : Nat} (h : VO p w (.slice (some ⟨g, 0, none⟩) n c) E lo hi) {i : Nat} (hi' : i < E.length) :
    w.cell? ⟨g, i * 3, none⟩ = some (.bool E[i].q.s) ∧ w.cell? ⟨g, i * 3 + 1, none⟩ = some E[i].v ∧ w.cell? ⟨g, i * 3 + 2, none⟩ = some E[i].u := by
  have hc := h.row.cells (g := g) rfl
  obtain ⟨h0, h1, h2⟩ := flat_at E i hi'
  have k0 := hc _ _ h0
  have k1 := hc _ _ h1
  have k2 := hc _ _ h2
  rw [Go.WideShapes.add_plain, Nat.zero_add] at k0 k1 k2
  exact ⟨k0, k1, k2⟩
theorem VO.num {p : Bool} {w : World} {a : Option Addr} {n c : Nat} {E : List El} {lo hi : Nat} (h : VO p w (.slice a n c) E lo hi) : n = E.length := by
  rcases h.cases with ⟨h1, rfl⟩ | ⟨g, cap, h1, -⟩ <;> simp only [Value.slice.injEq] at h1
  · exact h1.2.1
  · exact h1.2.1
theorem VO.free {p : Bool} {w : World} {g n c : Nat} {E : List El} {lo hi : Nat} (h : VO p w (.slice (some ⟨g, 0, none⟩) n c) E lo hi) (i : Nat) : w.frozen? ⟨g, i, none⟩ = false := by
  have hn := h.num
  subst hn
  exact World.ownsRow.frozenAt h.row i
/-- An element is appended. -/
theorem VO.snoc {p : Bool} {w w1 : World} {v v' : Value} {E : List El} {e : El} {lo hi : Nat} (h : VO p w v E lo hi) (he : ROw w e.v e.u e.q.A e.q.D lo w.heap.size) (hn : p = true → ∀ k, e.v.ownBlock = some k → e.u.ownBlock ≠ some k)
    (ha : p = true → ∀ x ∈ E, Apt x e) (hrow : w1.ownsRow lo 33 3 v' (E.length + 1) (flat E ++ [.bool e.q.s, e.v, e.u])) (hg : w.grownBy w1 v.ownBlock) : VO p w1 v' (E ++ [e]) lo w1.heap.size := by
  have key : ∀ x : El, ROw w x.v x.u x.q.A x.q.D lo w.heap.size → ROw w1 x.v x.u x.q.A x.q.D lo w1.heap.size := fun x hx => by
    have hne : ∀ {y : Value} {L : List Int}, Obj w y L lo w.heap.size → Obj w1 y L lo w1.heap.size := fun {y L} ho =>
      ⟨Ints_block ho.ints fun k hk => hg.block k (Ints_lt ho.ints k hk).2 fun e => own_ne h.row ho.ints (by decide) k e.symm hk, fun k hk => Nat.lt_of_lt_of_le (ho.high k hk) hg.size⟩
    exact ⟨hne hx.a, hne hx.d⟩
  refine ⟨by rw [List.length_append, flat_append, flat_one]; exact hrow, fun k hk => (hrow.lt k hk).2, fun x hx => ?_, fun hp x hx => ?_, fun hp => ?_⟩
  · rcases List.mem_append.1 hx with hx | hx
    · refine key x ⟨⟨(h.el x hx).a.ints, fun k hk => (Ints_lt (h.el x hx).a.ints k hk).2⟩, ⟨(h.el x hx).d.ints, fun k hk => (Ints_lt (h.el x hx).d.ints k hk).2⟩⟩
    · rw [List.mem_singleton.1 hx]; exact key e he
  · rcases List.mem_append.1 hx with hx | hx
    · exact h.nd hp x hx
    · rw [List.mem_singleton.1 hx]; exact hn hp
  · refine List.pairwise_append.2 ⟨h.ap hp, List.pairwise_singleton _ _, fun x hx y hy => ?_⟩
    rw [List.mem_singleton.1 hy]
    exact ha hp x hx
theorem VO.apt {p : Bool} {w w' : World} {v : Value} {E : List El} {lo hi a b : Nat} (h : VO p w v E lo hi) {e : El} (he : ROw w' e.v e.u e.q.A e.q.D a b) (hd : hi ≤ a) : ∀ x ∈ E, Apt x e := fun x hx k h1 h2 => by
  have r := h.el x hx
  have k1 : k < hi := h1.elim (r.a.high k) (r.d.high k)
  have k2 : a ≤ k := h2.elim (fun e => (Ints_lt he.a.ints k e).1) (fun e => (Ints_lt he.d.ints k e).1)
  omega
/-- A struct of a slice is written anew. -/
theorem VO.put {p : Bool} {w : World} {g n c : Nat} {E : List El} {e : El} {lo hi i : Nat} (h : VO p w (.slice (some ⟨g, 0, none⟩) n c) E lo hi) (hi' : i < E.length) (he : ROw w e.v e.u e.q.A e.q.D lo hi) (hn : p = true → ∀ k, e.v.ownBlock = some k → e.u.ownBlock ≠ some k)
    (ha : p = true → ∀ j (hj : j < E.length), j ≠ i → Apt E[j] e) :
    VO p (((w.setCell ⟨g, i * 3, none⟩ (.bool e.q.s)).setCell ⟨g, i * 3 + 1, none⟩ e.v).setCell ⟨g, i * 3 + 2, none⟩ e.u) (.slice (some ⟨g, 0, none⟩) n c) (E.set i e) lo hi := by
  have hnum := h.num
  subst hnum
  have r1 := (World.ownsRow.stored h.row (i * 3) (.bool e.q.s)).1
  have r2 := (World.ownsRow.stored r1 (i * 3 + 1) e.v).1
  have r3 := (World.ownsRow.stored r2 (i * 3 + 2) e.u).1
  rw [← flat_set E i hi' e] at r3
  have blk : ∀ k, k ≠ g → (((w.setCell ⟨g, i * 3, none⟩ (.bool e.q.s)).setCell ⟨g, i * 3 + 1, none⟩ e.v).setCell ⟨g, i * 3 + 2, none⟩ e.u).heap[k]? = w.heap[k]? := fun k hk => by
    rw [Below.heap_setCell _ _ _ _ hk, Below.heap_setCell _ _ _ _ hk, Below.heap_setCell _ _ _ _ hk]
  have hne : ∀ {y : Value} {L : List Int}, Obj w y L lo hi → Obj (((w.setCell ⟨g, i * 3, none⟩ (.bool e.q.s)).setCell ⟨g, i * 3 + 1, none⟩ e.v).setCell ⟨g, i * 3 + 2, none⟩ e.u) y L lo hi := fun {y L} ho =>
    ⟨Ints_block ho.ints fun k hk => blk k fun hkg => own_ne h.row ho.ints (by decide) k (by rw [hkg]; rfl) hk, ho.high⟩
  refine ⟨by rw [List.length_set]; exact r3, h.high, fun x hx => ?_, fun hp x hx => ?_, fun hp => ?_⟩
  · rcases List.mem_or_eq_of_mem_set hx with hx | rfl
    · exact ⟨hne (h.el x hx).a, hne (h.el x hx).d⟩
    · exact ⟨hne he.a, hne he.d⟩
  · rcases List.mem_or_eq_of_mem_set hx with hx | rfl
    · exact h.nd hp x hx
    · exact hn hp
  · rw [List.pairwise_iff_getElem]
    intro a b ha' hb' hab
    have hw := List.pairwise_iff_getElem.1 (h.ap hp)
    simp only [List.length_set] at ha' hb'
    simp only [List.getElem_set]
    by_cases ea : i = a
    · subst ea
      rw [if_pos rfl, if_neg (by omega)]
      exact (ha hp b hb' (by omega)).symm
    · rw [if_neg ea]
      by_cases eb : i = b
      · subst eb
        rw [if_pos rfl]
        exact ha hp a ha' (by omega)
      · rw [if_neg eb]
        exact hw a b ha' hb' hab
/-- The sign of a struct of a slice is written anew. -/
theorem VO.puts {p : Bool} {w : World} {g n c : Nat} {E : List El} {lo hi i : Nat} (h : VO p w (.slice (some ⟨g, 0, none⟩) n c) E lo hi) (hi' : i < E.length) (b : Bool) :
    VO p (w.setCell ⟨g, i * 3, none⟩ (.bool b)) (.slice (some ⟨g, 0, none⟩) n c) (E.set i ⟨⟨b, E[i].q.A, E[i].q.D⟩, E[i].v, E[i].u⟩) lo hi := by
  have hnum := h.num
  subst hnum
  have r1 := (World.ownsRow.stored h.row (i * 3) (.bool b)).1
  rw [← flat_sets E i hi' b] at r1
  have hne : ∀ {y : Value} {L : List Int}, Obj w y L lo hi → Obj (w.setCell ⟨g, i * 3, none⟩ (.bool b)) y L lo hi := fun {y L} ho =>
    ⟨Ints_block ho.ints fun k hk => Below.heap_setCell _ _ _ _ fun hkg => own_ne h.row ho.ints (by decide) k (by rw [hkg]; rfl) hk, ho.high⟩
  refine ⟨by rw [List.length_set]; exact r1, h.high, fun x hx => ?_, fun hp x hx => ?_, fun hp => ?_⟩
  · rcases List.mem_or_eq_of_mem_set hx with hx | rfl
    · exact ⟨hne (h.el x hx).a, hne (h.el x hx).d⟩
    · exact ⟨hne (h.at hi').a, hne (h.at hi').d⟩
  · rcases List.mem_or_eq_of_mem_set hx with hx | rfl
    · exact h.nd hp x hx
    · exact h.nd hp E[i] (List.getElem_mem hi')
  · rw [List.pairwise_iff_getElem]
    intro a b' ha' hb' hab
    have hw := List.pairwise_iff_getElem.1 (h.ap hp)
    simp only [List.length_set] at ha' hb'
    simp only [List.getElem_set]
    have h1 := hw a b' ha' hb' hab
    by_cases ea : i = a
    · subst ea
      rw [if_pos rfl, if_neg (by omega)]
      exact h1
    · rw [if_neg ea]
      by_cases eb : i = b'
      · subst eb
        rw [if_pos rfl]
        exact h1
      · rw [if_neg eb]
        exact h1
end Go.Proofs.Yteanocjkdehhgaa

/- Slices of fractions' structs: what is marked in them. -/
namespace Go.Proofs.Yteanocjkdehhgaa
open Go.RowKit
open Go.Lib (hid)
set_option linter.unusedVariables false

/-- How many places a struct has. -/
def Fq.n (f : Fq) : Nat := 1 + f.A.length + f.D.length
def szK : List Fq → Nat
  | [] => 0
  | f :: K => f.n + szK K
theorem szK_append : ∀ K L : List Fq, szK (K ++ L) = szK K + szK L
  | [], L => by simp [szK]
  | f :: K, L => by simp only [List.cons_append, szK, szK_append K L]; omega
theorem szK_take {K : List Fq} {k : Nat} (h : k < K.length) : szK (K.take (k + 1)) = szK (K.take k) + K[k].n := by
  rw [List.take_succ_eq_append_getElem h, szK_append]; simp [szK]
theorem szK_le (K : List Fq) (k : Nat) : szK (K.take k) ≤ szK K := by
  have := szK_append (K.take k) (K.drop k)
  rw [List.take_append_drop] at this
  omega
theorem szK_at {K : List Fq} {k : Nat} (h : k < K.length) : szK (K.take k) + K[k].n ≤ szK K := by
  have := szK_take h
  have := szK_le K (k + 1)
  omega
theorem szK_len0 : ∀ K : List Fq, K.length ≤ szK K
  | [] => Nat.le_refl _
  | f :: K => by have := szK_len0 K; simp only [List.length_cons, szK, Fq.n]; omega
theorem szK_more {K : List Fq} {k : Nat} (h : k < K.length) : szK (K.take k) + K[k].n + (K.length - (k + 1)) ≤ szK K := by
  have h1 := szK_append (K.take (k + 1)) (K.drop (k + 1))
  rw [List.take_append_drop, szK_take h] at h1
  have h2 := szK_len0 (K.drop (k + 1))
  rw [List.length_drop] at h2
  omega
theorem szK_len : ∀ K : List Fq, K.length ≤ szK K
  | [] => Nat.le_refl _
  | f :: K => by have := szK_len K; simp only [List.length_cons, szK, Fq.n]; omega
/-- The struct with its places marked from m on. -/
def Fq.mk' (f : Fq) (m : Int) : Fq := ⟨m % 3 == 0, marks f.A.length (m + 1), marks f.D.length (m + 1 + (f.A.length : Int))⟩
def mkE : List El → Int → List El
  | [], _ => []
  | e :: E, m => ⟨e.q.mk' m, e.v, e.u⟩ :: mkE E (m + (e.q.n : Int))
def keys (E : List El) : List Fq := E.map El.q
theorem keys_len (E : List El) : (keys E).length = E.length := by simp [keys]
theorem keys_take (E : List El) (k : Nat) : keys (E.take k) = (keys E).take k := by simp [keys]
theorem keys_at {E : List El} {k : Nat} (h : k < E.length) : (keys E)[k]'(by rw [keys_len]; exact h) = E[k].q := by simp [keys]
theorem keys_append (E F : List El) : keys (E ++ F) = keys E ++ keys F := by simp [keys]
theorem mkE_len : ∀ (E : List El) (m : Int), (mkE E m).length = E.length
  | [], _ => rfl
  | e :: E, m => by simp [mkE, mkE_len E]
theorem mkE_append : ∀ (E F : List El) (m : Int), mkE (E ++ F) m = mkE E m ++ mkE F (m + (szK (keys E) : Int))
  | [], F, m => by simp [mkE, keys, szK]
  | e :: E, F, m => by
    simp only [List.cons_append, mkE, mkE_append E F, keys, List.map_cons, szK]
    congr 3
    omega
theorem mkE_at : ∀ (E : List El) (m : Int) (k : Nat) (h : k < E.length), (mkE E m)[k]'(by rw [mkE_len]; exact h) = ⟨E[k].q.mk' (m + (szK (keys (E.take k)) : Int)), E[k].v, E[k].u⟩
  | e :: E, m, 0, _ => by simp [mkE, keys, szK]
  | e :: E, m, k + 1, h => by
    have := mkE_at E (m + (e.q.n : Int)) k (by simpa using h)
    simp only [mkE, List.getElem_cons_succ, this, List.take_succ_cons, keys, List.map_cons, szK]
    congr 2
    omega
/-- The first k structs are marked. -/
def mkd (E : List El) (m : Int) (k : Nat) : List El := mkE (E.take k) m ++ E.drop k
theorem mkd_zero (E : List El) (m : Int) : mkd E m 0 = E := by simp [mkd, mkE]
theorem mkd_all (E : List El) (m : Int) : mkd E m E.length = mkE E m := by simp [mkd]
theorem mkd_len {E : List El} {m : Int} {k : Nat} (h : k ≤ E.length) : (mkd E m k).length = E.length := by simp [mkd, mkE_len]; omega
theorem mkd_at {E : List El} {m : Int} {k : Nat} (h : k < E.length) : (mkd E m k)[k]'(by rw [mkd_len (by omega)]; exact h) = E[k] := by
  have hl : (mkE (E.take k) m).length = k := by rw [mkE_len, List.length_take]; omega
  simp only [mkd]
  rw [List.getElem_append_right (by omega)]
  simp [hl]
theorem mkd_set {E : List El} {m : Int} {k : Nat} (h : k < E.length) : (mkd E m k).set k ⟨E[k].q.mk' (m + (szK (keys (E.take k)) : Int)), E[k].v, E[k].u⟩ = mkd E m (k + 1) := by
  have hl : (mkE (E.take k) m).length = k := by rw [mkE_len, List.length_take]; omega
  simp only [mkd]
  rw [List.set_append_right k _ (by omega), hl, Nat.sub_self, List.drop_eq_getElem_cons h, List.set_cons_zero, List.take_succ_eq_append_getElem h, mkE_append]
  simp [mkE]
theorem list_set_at {α : Type} {l : List α} {k : Nat} (h : k < l.length) (x : α) : (l.set k x)[k]'(by rw [List.length_set]; exact h) = x := by simp
/-- What a struct's first slice holds is written anew. -/
theorem VO.inA {w w' : World} {v : Value} {E : List El} {lo hi i : Nat} (h : VO true w v E lo hi) (hi' : i < E.length) {A' : List Int} (hb : Only (fun k => E[i].v.ownBlock = some k) w w') (ha : Ints w' lo E[i].v A') :
    VO true w' v (E.set i ⟨⟨E[i].q.s, A', E[i].q.D⟩, E[i].v, E[i].u⟩) lo hi := by
  have r0 := h.at hi'
  have hrow : w'.ownsRow lo 33 3 v E.length (flat (E.set i ⟨⟨E[i].q.s, A', E[i].q.D⟩, E[i].v, E[i].u⟩)) := by
    refine own_block (w := w) ?_ fun k hk => hb.block k fun hs => own_ne h.row r0.a.ints (by decide) k hk hs
    have e1 := flat_set E i hi' ⟨⟨E[i].q.s, A', E[i].q.D⟩, E[i].v, E[i].u⟩
    have e2 := flat_set E i hi' E[i]
    rw [List.set_getElem_self] at e2
    rw [e1]
    rw [← e2]
    exact h.row
  have keep : ∀ {y : Value} {L : List Int}, Obj w y L lo hi → (∀ k, y.ownBlock = some k → E[i].v.ownBlock ≠ some k) → Obj w' y L lo hi := fun ho hne => ⟨Ints_only ho.ints hb fun k hk => hne k hk, ho.high⟩
  refine ⟨by rw [List.length_set]; exact hrow, h.high, fun x hx => ?_, fun hp x hx => ?_, fun hp => ?_⟩
  · rcases List.mem_iff_getElem.1 hx with ⟨j, hj, rfl⟩
    simp only [List.length_set] at hj
    simp only [List.getElem_set]
    by_cases e : i = j
    · subst e
      rw [if_pos rfl]
      exact ⟨⟨ha, r0.a.high⟩, keep r0.d fun k hk hv => h.nd rfl _ (List.getElem_mem hi') k hv hk⟩
    · rw [if_neg e]
      have hap : Apt E[i] E[j] := by
        have hw := List.pairwise_iff_getElem.1 (h.ap rfl)
        rcases Nat.lt_or_gt_of_ne e with hl | hl
        · exact hw i j hi' hj hl
        · exact (hw j i hj hi' hl).symm
      exact ⟨keep (h.at hj).a fun k hk hv => hap k (.inl hv) (.inl hk), keep (h.at hj).d fun k hk hv => hap k (.inl hv) (.inr hk)⟩
  · rcases List.mem_or_eq_of_mem_set hx with hx | rfl
    · exact h.nd hp x hx
    · exact h.nd hp E[i] (List.getElem_mem hi')
  · rw [List.pairwise_iff_getElem]
    intro a b' ha' hb' hab
    have hw := List.pairwise_iff_getElem.1 (h.ap hp)
    simp only [List.length_set] at ha' hb'
    simp only [List.getElem_set]
    have h1 := hw a b' ha' hb' hab
    by_cases ea : i = a
    · subst ea; rw [if_pos rfl, if_neg (by omega)]; exact h1
    · rw [if_neg ea]
      by_cases eb : i = b'
      · subst eb; rw [if_pos rfl]; exact h1
      · rw [if_neg eb]; exact h1
/-- What a struct's second slice holds is written anew. -/
theorem VO.inD {w w' : World} {v : Value} {E : List El} {lo hi i : Nat} (h : VO true w v E lo hi) (hi' : i < E.length) {D' : List Int} (hb : Only (fun k => E[i].u.ownBlock = some k) w w') (ha : Ints w' lo E[i].u D') :
    VO true w' v (E.set i ⟨⟨E[i].q.s, E[i].q.A, D'⟩, E[i].v, E[i].u⟩) lo hi := by
  have r0 := h.at hi'
  have hrow : w'.ownsRow lo 33 3 v E.length (flat (E.set i ⟨⟨E[i].q.s, E[i].q.A, D'⟩, E[i].v, E[i].u⟩)) := by
    refine own_block (w := w) ?_ fun k hk => hb.block k fun hs => own_ne h.row r0.d.ints (by decide) k hk hs
    have e1 := flat_set E i hi' ⟨⟨E[i].q.s, E[i].q.A, D'⟩, E[i].v, E[i].u⟩
    have e2 := flat_set E i hi' E[i]
    rw [List.set_getElem_self] at e2
    rw [e1]
    rw [← e2]
    exact h.row
  have keep : ∀ {y : Value} {L : List Int}, Obj w y L lo hi → (∀ k, y.ownBlock = some k → E[i].u.ownBlock ≠ some k) → Obj w' y L lo hi := fun ho hne => ⟨Ints_only ho.ints hb fun k hk => hne k hk, ho.high⟩
  refine ⟨by rw [List.length_set]; exact hrow, h.high, fun x hx => ?_, fun hp x hx => ?_, fun hp => ?_⟩
  · rcases List.mem_iff_getElem.1 hx with ⟨j, hj, rfl⟩
    simp only [List.length_set] at hj
    simp only [List.getElem_set]
    by_cases e : i = j
    · subst e
      rw [if_pos rfl]
      exact ⟨keep r0.a fun k hk hv => h.nd rfl _ (List.getElem_mem hi') k hk hv, ⟨ha, r0.d.high⟩⟩
    · rw [if_neg e]
      have hap : Apt E[i] E[j] := by
        have hw := List.pairwise_iff_getElem.1 (h.ap rfl)
        rcases Nat.lt_or_gt_of_ne e with hl | hl
        · exact hw i j hi' hj hl
        · exact (hw j i hj hi' hl).symm
      exact ⟨keep (h.at hj).a fun k hk hv => hap k (.inr hv) (.inl hk), keep (h.at hj).d fun k hk hv => hap k (.inr hv) (.inr hk)⟩
  · rcases List.mem_or_eq_of_mem_set hx with hx | rfl
    · exact h.nd hp x hx
    · exact h.nd hp E[i] (List.getElem_mem hi')
  · rw [List.pairwise_iff_getElem]
    intro a b' ha' hb' hab
    have hw := List.pairwise_iff_getElem.1 (h.ap hp)
    simp only [List.length_set] at ha' hb'
    simp only [List.getElem_set]
    have h1 := hw a b' ha' hb' hab
    by_cases ea : i = a
    · subst ea; rw [if_pos rfl, if_neg (by omega)]; exact h1
    · rw [if_neg ea]
      by_cases eb : i = b'
      · subst eb; rw [if_pos rfl]; exact h1
      · rw [if_neg eb]; exact h1
theorem VO.inA' {w w' : World} {v : Value} {F : List El} {lo hi k : Nat} {s : Bool} {A D A' : List Int} {x y : Value} (hk : k < F.length) (h : VO true w v (F.set k ⟨⟨s, A, D⟩, x, y⟩) lo hi) (hb : Only (fun j => x.ownBlock = some j) w w') (ha : Ints w' lo x A') :
    VO true w' v (F.set k ⟨⟨s, A', D⟩, x, y⟩) lo hi := by
  have hk' : k < (F.set k ⟨⟨s, A, D⟩, x, y⟩).length := by rw [List.length_set]; exact hk
  have e := list_set_at hk (⟨⟨s, A, D⟩, x, y⟩ : El)
  have := VO.inA (i := k) h hk' (A' := A') (by rw [e]; exact hb) (by rw [e]; exact ha)
  simp only [e, List.set_set] at this
  exact this
theorem VO.inD' {w w' : World} {v : Value} {F : List El} {lo hi k : Nat} {s : Bool} {A D D' : List Int} {x y : Value} (hk : k < F.length) (h : VO true w v (F.set k ⟨⟨s, A, D⟩, x, y⟩) lo hi) (hb : Only (fun j => y.ownBlock = some j) w w') (ha : Ints w' lo y D') :
    VO true w' v (F.set k ⟨⟨s, A, D'⟩, x, y⟩) lo hi := by
  have hk' : k < (F.set k ⟨⟨s, A, D⟩, x, y⟩).length := by rw [List.length_set]; exact hk
  have e := list_set_at hk (⟨⟨s, A, D⟩, x, y⟩ : El)
  have := VO.inD (i := k) h hk' (D' := D') (by rw [e]; exact hb) (by rw [e]; exact ha)
  simp only [e, List.set_set] at this
  exact this
theorem VO.set_at {p : Bool} {w : World} {v : Value} {F : List El} {lo hi k : Nat} {e : El} (hk : k < F.length) (h : VO p w v (F.set k e) lo hi) : ROw w e.v e.u e.q.A e.q.D lo hi :=
  h.el e (List.mem_iff_getElem.2 ⟨k, by rw [List.length_set]; exact hk, list_set_at hk e⟩)
theorem VO.set_cell {p : Bool} {w : World} {g n c : Nat} {F : List El} {lo hi k : Nat} {e : El} (hk : k < F.length) (h : VO p w (.slice (some ⟨g, 0, none⟩) n c) (F.set k e) lo hi) :
    w.cell? ⟨g, k * 3, none⟩ = some (.bool e.q.s) ∧ w.cell? ⟨g, k * 3 + 1, none⟩ = some e.v ∧ w.cell? ⟨g, k * 3 + 2, none⟩ = some e.u := by
  have := h.cell (i := k) (by rw [List.length_set]; exact hk)
  rw [list_set_at hk e] at this
  exact this
end Go.Proofs.Yteanocjkdehhgaa

/- Slices of fractions' structs that came in; slices of structs by what they hold. -/
namespace Go.Proofs.Yteanocjkdehhgaa
open Go.RowKit
open Go.Lib (hid)
set_option linter.unusedVariables false

/-- A slice of structs that came in: it reads as K and lies below the height h. -/
structure CameE (w : World) (h : Nat) (g o : Nat) (f : Fq) : Prop where
  ex : ∃ a c b d, w.cell? ⟨g, o, none⟩ = some (.bool f.s) ∧ w.cell? ⟨g, o + 1, none⟩ = some (.slice a f.A.length c) ∧ w.cell? ⟨g, o + 2, none⟩ = some (.slice b f.D.length d) ∧ CameR w h a f.A.length f.A b f.D.length f.D
theorem CameE.old {w w' : World} {h g o : Nat} {f : Fq} (c : CameE w h g o f) (hb : Below w.heap.size w w') (hg : g < w.heap.size) : CameE w' h g o f := by
  obtain ⟨a, c, b, d, h0, h1, h2, h3⟩ := c.ex
  exact ⟨a, c, b, d, (hb.cell (p := ⟨g, o, none⟩) hg).trans h0, (hb.cell (p := ⟨g, o + 1, none⟩) hg).trans h1, (hb.cell (p := ⟨g, o + 2, none⟩) hg).trans h2, h3.old hb⟩
theorem CameE.onlyG {w w' : World} {h g o lo hi : Nat} {f : Fq} (c : CameE w h g o f) (hb : Only (InG lo hi w.heap.size) w w') (hlo : h ≤ lo) (hg : g < h) (hg' : g < w.heap.size) : CameE w' h g o f := by
  obtain ⟨a, c, b, d, h0, h1, h2, h3⟩ := c.ex
  have hn : ¬ InG lo hi w.heap.size g := fun hs => by have := InG_cases hs; omega
  exact ⟨a, c, b, d, (hb.cell (p := ⟨g, o, none⟩) hn).trans h0, (hb.cell (p := ⟨g, o + 1, none⟩) hn).trans h1, (hb.cell (p := ⟨g, o + 2, none⟩) hn).trans h2, h3.onlyG hb hlo⟩
def VCame (w : World) (h : Nat) (a : Option Addr) (n : Nat) (K : List Fq) : Prop :=
  n = K.length ∧ (0 < K.length → ∃ g o, a = some ⟨g, o, none⟩ ∧ g < h ∧ g < w.heap.size ∧ ∀ i (hi : i < K.length), CameE w h g (o + i * 3) K[i])
theorem VCame.old {w w' : World} {h n : Nat} {a : Option Addr} {K : List Fq} (c : VCame w h a n K) (hb : Below w.heap.size w w') : VCame w' h a n K :=
  ⟨c.1, fun h0 => by
    obtain ⟨g, o, e, hh, hg, hc⟩ := c.2 h0
    exact ⟨g, o, e, hh, Nat.lt_of_lt_of_le hg hb.size, fun i hi => (hc i hi).old hb hg⟩⟩
theorem VCame.onlyG {w w' : World} {h n lo hi : Nat} {a : Option Addr} {K : List Fq} (c : VCame w h a n K) (hb : Only (InG lo hi w.heap.size) w w') (hlo : h ≤ lo) : VCame w' h a n K :=
  ⟨c.1, fun h0 => by
    obtain ⟨g, o, e, hh, hg, hc⟩ := c.2 h0
    exact ⟨g, o, e, hh, Nat.lt_of_lt_of_le hg hb.size, fun i hi => (hc i hi).onlyG hb hlo hh hg⟩⟩
/-- A slice of structs of one's own that holds K. -/
def VK (p : Bool) (w : World) (v : Value) (K : List Fq) (lo hi : Nat) : Prop := ∃ E, VO p w v E lo hi ∧ keys E = K
theorem VK.old {p : Bool} {w w' : World} {v : Value} {K : List Fq} {lo hi : Nat} (h : VK p w v K lo hi) (hb : Below w.heap.size w w') : VK p w' v K lo hi := by
  obtain ⟨E, h, e⟩ := h
  exact ⟨E, h.old hb, e⟩
theorem VK.onlyG {p : Bool} {w w' : World} {v : Value} {K : List Fq} {lo hi a b : Nat} (h : VK p w v K lo hi) (hb : Only (InG a b w.heap.size) w w') (hd : hi ≤ a ∨ b ≤ lo) : VK p w' v K lo hi := by
  obtain ⟨E, h, e⟩ := h
  exact ⟨E, h.onlyG hb hd, e⟩
theorem VK.weak {p : Bool} {w : World} {v : Value} {K : List Fq} {lo hi : Nat} (h : VK p w v K lo hi) : VK false w v K lo hi := by
  obtain ⟨E, h, e⟩ := h
  exact ⟨E, h.weak, e⟩
theorem VK.wide {p : Bool} {w : World} {v : Value} {K : List Fq} {lo hi lo' hi' : Nat} (h : VK p w v K lo hi) (h1 : lo' ≤ lo) (h2 : hi ≤ hi') : VK p w v K lo' hi' := by
  obtain ⟨E, h, e⟩ := h
  exact ⟨E, h.wide h1 h2, e⟩
theorem VK.form {p : Bool} {w : World} {v : Value} {K : List Fq} {lo hi : Nat} (h : VK p w v K lo hi) : ∃ a c, v = .slice a K.length c := by
  obtain ⟨E, h, rfl⟩ := h
  obtain ⟨a, c, rfl, -⟩ := h.form
  exact ⟨a, c, by rw [keys_len]⟩
theorem VK.eqk {p : Bool} {w : World} {v : Value} {K K' : List Fq} {lo hi : Nat} (h : VK p w v K lo hi) (e : K = K') : VK p w v K' lo hi := by subst e; exact h
/-- What a call gives: a slice of structs of its own that holds K. -/
def VecR (p : Bool) (K : List Fq) (w : World) (e : Ending) (w' : World) : Prop := ∃ a n c, e = .returned (.slice a n c) ∧ VK p w' (.slice a n c) K w.heap.size w'.heap.size ∧ Below w.heap.size w w'
theorem VecR_of {p : Bool} {K : List Fq} {w w' : World} {e : Ending} {v : Value} (he : e = .returned v) (h : VK p w' v K w.heap.size w'.heap.size) (hb : Below w.heap.size w w') : VecR p K w e w' := by
  obtain ⟨a, c, rfl⟩ := h.form
  exact ⟨a, _, c, he, h, hb⟩
def mkK : List Fq → Int → List Fq
  | [], _ => []
  | f :: K, m => f.mk' m :: mkK K (m + (f.n : Int))
theorem keys_mkE : ∀ (E : List El) (m : Int), keys (mkE E m) = mkK (keys E) m
  | [], _ => rfl
  | e :: E, m => by simp only [mkE, keys, List.map_cons, mkK]; exact congrArg _ (keys_mkE E _)
theorem mkK_len : ∀ (K : List Fq) (m : Int), (mkK K m).length = K.length
  | [], _ => rfl
  | f :: K, m => by simp [mkK, mkK_len K]
theorem mkK_at : ∀ (K : List Fq) (m : Int) (k : Nat) (h : k < K.length), (mkK K m)[k]'(by rw [mkK_len]; exact h) = K[k].mk' (m + (szK (K.take k) : Int))
  | f :: K, m, 0, _ => by simp [mkK, szK]
  | f :: K, m, k + 1, h => by
    have := mkK_at K (m + (f.n : Int)) k (by simpa using h)
    simp only [mkK, List.getElem_cons_succ, this, List.take_succ_cons, szK]
    congr 1
    omega
end Go.Proofs.Yteanocjkdehhgaa

/- A part of a slice of fractions' structs, for those that only read it. -/
namespace Go.Proofs.Yteanocjkdehhgaa
open Go.RowKit
open Go.Lib (hid)
set_option linter.unusedVariables false

/-- A struct in memory, as it is read; what it holds lies from lo on, below hi. -/
def ElAt (w : World) (g j : Nat) (f : Fq) (lo hi : Nat) : Prop := ∃ x y, w.cell? ⟨g, j, none⟩ = some (.bool f.s) ∧ w.cell? ⟨g, j + 1, none⟩ = some x ∧ w.cell? ⟨g, j + 2, none⟩ = some y ∧ ROw w x y f.A f.D lo hi
theorem ElAt.old {w w' : World} {g j : Nat} {f : Fq} {lo hi : Nat} (h : ElAt w g j f lo hi) (hb : Below w.heap.size w w') (hg : g < w.heap.size) : ElAt w' g j f lo hi := by
  obtain ⟨x, y, h0, h1, h2, r⟩ := h
  exact ⟨x, y, (hb.cell (p := ⟨g, j, none⟩) hg).trans h0, (hb.cell (p := ⟨g, j + 1, none⟩) hg).trans h1, (hb.cell (p := ⟨g, j + 2, none⟩) hg).trans h2, r.old hb⟩
theorem ElAt.onlyG {w w' : World} {g j : Nat} {f : Fq} {lo hi a b : Nat} (h : ElAt w g j f lo hi) (hb : Only (InG a b w.heap.size) w w') (hd : hi ≤ a ∨ b ≤ lo) (h1 : lo ≤ g) (h2 : g < hi) (h3 : g < w.heap.size) : ElAt w' g j f lo hi := by
  obtain ⟨x, y, q0, q1, q2, r⟩ := h
  have hn : ¬ InG a b w.heap.size g := fun hs => by have := InG_cases hs; omega
  exact ⟨x, y, (hb.cell (p := ⟨g, j, none⟩) hn).trans q0, (hb.cell (p := ⟨g, j + 1, none⟩) hn).trans q1, (hb.cell (p := ⟨g, j + 2, none⟩) hn).trans q2, r.onlyG hb hd⟩
theorem ElAt.wide {w : World} {g j : Nat} {f : Fq} {lo hi lo' hi' : Nat} (h : ElAt w g j f lo hi) (h1 : lo' ≤ lo) (h2 : hi ≤ hi') : ElAt w g j f lo' hi' := by
  obtain ⟨x, y, q0, q1, q2, r⟩ := h
  exact ⟨x, y, q0, q1, q2, ⟨r.a.wide h1 (.inr h2), r.d.wide h1 (.inr h2)⟩⟩
/-- It holds K; it and what its structs hold lie from lo on, below hi. -/
def VW (w : World) (a : Option Addr) (n : Nat) (K : List Fq) (lo hi : Nat) : Prop :=
  n = K.length ∧ (0 < K.length → ∃ g o, a = some ⟨g, o, none⟩ ∧ lo ≤ g ∧ g < hi ∧ g < w.heap.size ∧ ∀ i (hi' : i < K.length), ElAt w g (o + i * 3) K[i] lo hi)
theorem VW.old {w w' : World} {a : Option Addr} {n : Nat} {K : List Fq} {lo hi : Nat} (h : VW w a n K lo hi) (hb : Below w.heap.size w w') : VW w' a n K lo hi :=
  ⟨h.1, fun h0 => by
    obtain ⟨g, o, e, h1, h2, h3, hc⟩ := h.2 h0
    exact ⟨g, o, e, h1, h2, Nat.lt_of_lt_of_le h3 hb.size, fun i hi' => (hc i hi').old hb h3⟩⟩
theorem VW.onlyG {w w' : World} {a : Option Addr} {n : Nat} {K : List Fq} {lo hi x y : Nat} (h : VW w a n K lo hi) (hb : Only (InG x y w.heap.size) w w') (hd : hi ≤ x ∨ y ≤ lo) : VW w' a n K lo hi :=
  ⟨h.1, fun h0 => by
    obtain ⟨g, o, e, h1, h2, h3, hc⟩ := h.2 h0
    exact ⟨g, o, e, h1, h2, Nat.lt_of_lt_of_le h3 hb.size, fun i hi' => (hc i hi').onlyG hb hd h1 h2 h3⟩⟩
theorem VW.wide {w : World} {a : Option Addr} {n : Nat} {K : List Fq} {lo hi lo' hi' : Nat} (h : VW w a n K lo hi) (h1 : lo' ≤ lo) (h2 : hi ≤ hi') : VW w a n K lo' hi' :=
  ⟨h.1, fun h0 => by
    obtain ⟨g, o, e, k1, k2, k3, hc⟩ := h.2 h0
    exact ⟨g, o, e, Nat.le_trans h1 k1, Nat.lt_of_lt_of_le k2 h2, k3, fun i hi' => (hc i hi').wide h1 h2⟩⟩
theorem VW.num {w : World} {a : Option Addr} {n : Nat} {K : List Fq} {lo hi : Nat} (h : VW w a n K lo hi) : n = K.length := h.1
theorem VW.cell {w : World} {a : Option Addr} {n : Nat} {K : List Fq} {lo hi : Nat} (h : VW w a n K lo hi) {k : Nat} (hlt : k < K.length) :
    ∃ g o x y, a = some ⟨g, o, none⟩ ∧ g < w.heap.size ∧ w.cell? ⟨g, o + k * 3, none⟩ = some (.bool K[k].s) ∧ w.cell? ⟨g, o + k * 3 + 1, none⟩ = some x ∧ w.cell? ⟨g, o + k * 3 + 2, none⟩ = some y ∧ ROw w x y K[k].A K[k].D lo hi := by
  obtain ⟨g, o, e, -, -, h3, hc⟩ := h.2 (by omega)
  obtain ⟨x, y, q0, q1, q2, r⟩ := hc k hlt
  exact ⟨g, o, x, y, e, h3, q0, q1, q2, r⟩
theorem VW.blk {w : World} {g o n : Nat} {K : List Fq} {lo hi : Nat} (h : VW w (some ⟨g, o, none⟩) n K lo hi) {k : Nat} (hlt : k < K.length) : g < w.heap.size := by
  obtain ⟨g', o', e, -, -, h3, -⟩ := h.2 (by omega)
  simp only [Option.some.injEq, Addr.mk.injEq, and_true] at e
  rw [e.1]; exact h3
theorem VW_nil (w : World) (a : Option Addr) (lo hi : Nat) : VW w a 0 [] lo hi := ⟨rfl, fun h => absurd h (by simp)⟩
theorem VO.vw {p : Bool} {w : World} {a : Option Addr} {n c : Nat} {E : List El} {lo hi : Nat} (h : VO p w (.slice a n c) E lo hi) : VW w a n (keys E) lo hi := by
  refine ⟨by rw [keys_len]; exact h.num, fun h0 => ?_⟩
  rw [keys_len] at h0
  obtain ⟨g, rfl, -, h1, h2, h3⟩ := h.pos h0
  refine ⟨g, 0, rfl, h1, h2, h3, fun i hi' => ?_⟩
  rw [keys_len] at hi'
  obtain ⟨q0, q1, q2⟩ := h.cell hi'
  rw [keys_at hi', Nat.zero_add]
  exact ⟨_, _, q0, q1, q2, h.at hi'⟩
theorem VK.vw {p : Bool} {w : World} {a : Option Addr} {n c : Nat} {K : List Fq} {lo hi : Nat} (h : VK p w (.slice a n c) K lo hi) : VW w a n K lo hi := by
  obtain ⟨E, h, rfl⟩ := h
  exact h.vw
/-- A part of what an own slice holds. -/
theorem VO.part {p : Bool} {w : World} {g n c : Nat} {E : List El} {lo hi f m : Nat} (h : VO p w (.slice (some ⟨g, 0, none⟩) n c) E lo hi) (hf : f + m ≤ E.length) : VW w (some ⟨g, f * 3, none⟩) m ((keys E).drop f |>.take m) lo hi := by
  have hl : ((keys E).drop f |>.take m).length = m := by simp [keys_len]; omega
  refine ⟨hl.symm, fun h0 => ?_⟩
  obtain ⟨g', e, -, h1, h2, h3⟩ := h.pos (by omega)
  simp only [Option.some.injEq, Addr.mk.injEq, and_true] at e
  subst e
  refine ⟨g, f * 3, rfl, h1, h2, h3, fun i hi' => ?_⟩
  have hi2 : i < m := by omega
  obtain ⟨q0, q1, q2⟩ := h.cell (i := f + i) (by omega)
  have hk : ((keys E).drop f |>.take m)[i] = E[f + i].q := by
    rw [List.getElem_take, List.getElem_drop, keys_at (by omega)]
  rw [hk, show f * 3 + i * 3 = (f + i) * 3 by omega]
  exact ⟨_, _, q0, q1, q2, h.at (by omega)⟩
end Go.Proofs.Yteanocjkdehhgaa

/- The laws' helpers on slices of fractions' structs: how many places they have, copies. -/
namespace Go.Proofs.Yteanocjkdehhgaa
open Go.RowKit
open Go.Lib (hid)
set_option linter.unusedVariables false

theorem run_make_rowk {P : Program} (t e : TypeId) (z : Value) (zs : Array Value) (size bytes : Nat) (ht : P.underlying t = some (.slice e)) (hinfo : (P.info? e).map (fun i => (i.zero, i.size, i.bytes)) = some (some z, size, bytes)) (hz1 : z.cells = zs)
    (kl kc : IntKind) (n : Nat) (hbytes : bytes * n ≤ 281474976710656) (h63 : n ≤ 9223372036854775807) (w : World) :
    (Instr.makeSlice t (.int kl (n : Int)) (.int kc (n : Int))).run P w = .ok (.slice (some ⟨w.heap.size, 0, none⟩) n n) (w.alloc (.cells (madeCells zs (n * size)) e)) := by
  obtain ⟨i, hi, hzz⟩ := Option.map_eq_some_iff.1 hinfo
  simp only [Prod.mk.injEq] at hzz
  obtain ⟨hz, hs, hb⟩ := hzz
  have hb' : (i.bytes : Int) * (n : Int) ≤ 281474976710656 := by
    have h : ((i.bytes * n : Nat) : Int) ≤ 281474976710656 := by rw [hb]; omega
    rwa [Int.natCast_mul] at h
  have hr := run_make (P := P) w t e i z ht hi hz kl kc n n (by omega) (Int.le_refl _) hb' (by omega)
  simp only [Int.toNat_natCast, hs, hz1] at hr
  exact hr
def El0 : El := ⟨⟨false, [], []⟩, .slice none 0 0, .slice none 0 0⟩
theorem flat_zeros : ∀ n : Nat, flat (List.replicate n El0) = (madeCells #[.bool false, .slice none 0 0, .slice none 0 0] (n * 3)).toList := by
  intro n
  apply List.ext_getElem?
  intro j
  by_cases hj : j < n * 3
  · have hl : (flat (List.replicate n El0)).length = n * 3 := by rw [flat_len, List.length_replicate]
    obtain ⟨q, hq⟩ : ∃ q, q = j / 3 := ⟨_, rfl⟩
    have hqn : q < (List.replicate n El0).length := by rw [List.length_replicate]; omega
    obtain ⟨h0, h1, h2⟩ := flat_at (List.replicate n El0) q hqn
    simp only [List.getElem_replicate] at h0 h1 h2
    have hr : (madeCells #[.bool false, .slice none 0 0, .slice none 0 0] (n * 3)).toList[j]? = some ((#[.bool false, .slice none 0 0, .slice none 0 0] : Array Value)[j % 3]!) := by
      simp [madeCells, hj]
    rw [hr]
    have : j = q * 3 ∨ j = q * 3 + 1 ∨ j = q * 3 + 2 := by omega
    rcases this with e | e | e
    · rw [e, h0, show q * 3 % 3 = 0 by omega]; rfl
    · rw [e, h1, show (q * 3 + 1) % 3 = 1 by omega]; rfl
    · rw [e, h2, show (q * 3 + 2) % 3 = 2 by omega]; rfl
  · rw [List.getElem?_eq_none (by rw [flat_len, List.length_replicate]; omega), List.getElem?_eq_none (by simp [size_madeCells]; omega)]
theorem VO_made {w : World} (n : Nat) (hn : n ≤ maxLen) : VO true (w.alloc (.cells (madeCells #[.bool false, .slice none 0 0, .slice none 0 0] (n * 3)) 33)) (.slice (some ⟨w.heap.size, 0, none⟩) n n) (List.replicate n El0) w.heap.size (w.heap.size + 1) := by
  have hrep : ∀ e ∈ List.replicate n El0, e = El0 := fun e he => (List.mem_replicate.1 he).2
  refine ⟨⟨by rw [flat_len], .inr ⟨w.heap.size, n, _, by rw [List.length_replicate], Nat.le_refl _, heap_alloc_new w _, by rw [List.length_replicate]; exact Nat.le_refl _, hn, by rw [size_madeCells], ?_⟩⟩, fun k hk => ?_, fun e he => ?_, fun _ e he k hk => ?_, fun _ => ?_⟩
  · rw [List.length_replicate, flat_zeros]
    exact List.take_of_length_le (by simp [size_madeCells])
  · simp [Value.ownBlock] at hk; omega
  · rw [hrep e he]
    exact ⟨⟨Ints_nil _ _, fun k hk => by simp [El0, Value.ownBlock] at hk⟩, ⟨Ints_nil _ _, fun k hk => by simp [El0, Value.ownBlock] at hk⟩⟩
  · rw [hrep e he] at hk; simp [El0, Value.ownBlock] at hk
  · rw [List.pairwise_iff_getElem]
    intro i j hi hj hij k hk
    simp [El0, Value.ownBlock] at hk

set_option maxRecDepth 100000 in
set_option maxHeartbeats 1600000 in
theorem szRatS_yes (a : Option Addr) (n c h : Nat) (K : List Fq) (z : Int) (h0 : (szK K : Int) ≤ z) (h1 : z ≤ 1048576) (w : World) (hc : VCame w h a n K) :
    Calls Try.prog 110 #[.slice a n c, .int .i64 z] w (RetB (.int .i64 (z - (szK K : Int))) w) := by
  have HC := hid hc
  obtain rfl := hc.1
  clear hc
  have hl := szK_len K
  go_enter Try.func110, Try.ntmps110
  go_wp2
  go_loopw [1, 5] (fun x i wr => ∃ (k : Nat) (y : Int), k ≤ K.length ∧ i = .int .i64 k ∧ x = .int .i64 y ∧ Hid (y = z - (K.length : Int) - ((szK (K.take k) : Int) - (k : Int))) ∧ Below w.heap.size w wr) (fun _ i _ => K.length - (intOf i).toNat)
  case atStart => exact ⟨0, z - (K.length : Int), Nat.zero_le _, rfl, rfl, hid (by simp [szK]), Below.refl _ _⟩
  case round =>
    obtain ⟨k, y, hk, rfl, rfl, hy, hbel⟩ := hrel
    by_cases hlt : k < K.length
    · obtain ⟨g, o, rfl, -, hg, hce⟩ := HC.out.2 (by omega)
      have hE := (hce k hlt).old hbel hg
      have hs := szK_take hlt
      have hle := szK_more hlt
      clear hce
      generalize K[k] = f at hE hs hle
      obtain ⟨s, A, D⟩ := f
      obtain ⟨a1, c1, b1, d1, q0, q1, q2, -⟩ := hE.ex
      simp only [Fq.n] at hs hle q0 q1 q2
      have HS := hid hs
      have hy1 : y ≤ 1048576 := by have := hy.out; have := szK_le K k; omega
      have hy2 : (A.length : Int) + (D.length : Int) ≤ y := by have := hy.out; omega
      have KS := hid (fun W => szRat_yes s a1 A.length c1 b1 D.length d1 y hy2 hy1 W)
      have HB := hid hbel
      have hy3 : ¬ y - (A.length : Int) - (D.length : Int) < 0 := by omega
      have a1' : (0 : Int) ≤ k := by omega
      have a2 : (k : Int) < K.length := by omega
      clear hs hE hbel
      go_wp2_with fail
      (with_reducible refine (KS.out _).mono ?_)
      rintro e w1 ⟨rfl, b1⟩
      have HB := hid (HB.out.trans (b1.mono HB.out.size))
      clear b1 q0 q1 q2
      go_wp2
      go_roundw
      case rel => exact ⟨k + 1, y - (A.length : Int) - (D.length : Int), by omega, by go_num, rfl, hid (by have := hy.out; have := HS.out; omega), HB.out⟩
      case measure => simp [intOf]; omega
    · obtain rfl : k = K.length := by omega
      have HY := hid hbel
      clear hbel
      go_wp2
      go_ret
      exact ⟨ret_in (by have := hy.out; rw [List.take_length] at this; omega), HY.out⟩
set_option maxRecDepth 100000 in
set_option maxHeartbeats 1600000 in
theorem szRatS_no (a : Option Addr) (n c h : Nat) (K : List Fq) (z : Int) (hn : n ≤ maxLen) (hK : ∀ f ∈ K, f.A.length ≤ maxLen ∧ f.D.length ≤ maxLen) (h0 : z < (szK K : Int)) (hz : 0 ≤ z) (h1 : z ≤ 1048576) (w : World) (hc : VCame w h a n K) :
    Calls Try.prog 110 #[.slice a n c, .int .i64 z] w (RetB (.int .i64 (-1)) w) := by
  have HC := hid hc
  have HK := hid hK
  obtain rfl := hc.1
  clear hc hK
  unfold maxLen at hn
  by_cases hzl : z < (K.length : Int)
  · go_enter Try.func110, Try.ntmps110
    go_wp2
    go_ret
    exact ⟨rfl, Below.refl _ _⟩
  go_enter Try.func110, Try.ntmps110
  go_wp2
  go_loopw [1, 5] (fun x i wr => ∃ (k : Nat) (y : Int), k ≤ K.length ∧ i = .int .i64 k ∧ x = .int .i64 y ∧ Hid (y = z - (K.length : Int) - ((szK (K.take k) : Int) - (k : Int)) ∧ 0 ≤ y) ∧ Below w.heap.size w wr) (fun _ i _ => K.length - (intOf i).toNat)
  case atStart => exact ⟨0, z - (K.length : Int), Nat.zero_le _, rfl, rfl, hid ⟨by simp [szK], by omega⟩, Below.refl _ _⟩
  case round =>
    obtain ⟨k, y, hk, rfl, rfl, hy, hbel⟩ := hrel
    by_cases hlt : k < K.length
    · obtain ⟨g, o, rfl, -, hg, hce⟩ := HC.out.2 (by omega)
      have hE := (hce k hlt).old hbel hg
      have hs := szK_take hlt
      have hm := HK.out _ (List.getElem_mem hlt)
      clear hce
      generalize K[k] = f at hE hs hm
      obtain ⟨s, A, D⟩ := f
      obtain ⟨a1, c1, b1, d1, q0, q1, q2, -⟩ := hE.ex
      simp only [Fq.n] at hs hm q0 q1 q2
      have HS := hid hs
      have hy0 : 0 ≤ y := hy.out.2
      have hkz : (k : Int) ≤ szK (K.take k) := by have := szK_len (K.take k); rw [List.length_take] at this; omega
      have hy1 : y ≤ 1048576 := by have := hy.out.1; omega
      have HB := hid hbel
      have a1' : (0 : Int) ≤ k := by omega
      have a2 : (k : Int) < K.length := by omega
      clear hs hE hbel
      by_cases hfit : (A.length : Int) + (D.length : Int) ≤ y
      · have KS := hid (fun W => szRat_yes s a1 A.length c1 b1 D.length d1 y hfit hy1 W)
        have hy3 : ¬ y - (A.length : Int) - (D.length : Int) < 0 := by omega
        clear hm
        go_wp2_with fail
        (with_reducible refine (KS.out _).mono ?_)
        rintro e w1 ⟨rfl, b1⟩
        have HB := hid (HB.out.trans (b1.mono HB.out.size))
        clear b1 q0 q1 q2
        go_wp2
        go_roundw
        case rel => exact ⟨k + 1, y - (A.length : Int) - (D.length : Int), by omega, by go_num, rfl, hid ⟨by have := hy.out.1; have := HS.out; omega, by omega⟩, HB.out⟩
        case measure => simp [intOf]; omega
      · have KS := hid (fun W => szRat_no s a1 A.length c1 b1 D.length d1 y hm.1 hm.2 (by omega) hy0 hy1 W)
        clear hm
        go_wp2_with fail
        (with_reducible refine (KS.out _).mono ?_)
        rintro e w1 ⟨rfl, b1⟩
        have HB := hid (HB.out.trans (b1.mono HB.out.size))
        clear b1 q0 q1 q2
        go_wp2
        go_ret
        exact ⟨rfl, HB.out⟩
    · exfalso
      obtain rfl : k = K.length := by omega
      have := hy.out
      rw [List.take_length] at this
      omega
end Go.Proofs.Yteanocjkdehhgaa

/- The laws' helpers on slices of fractions' structs: a copy; two that hold the same are equal. -/
namespace Go.Proofs.Yteanocjkdehhgaa
open Go.RowKit
open Go.Lib (hid)
set_option linter.unusedVariables false

theorem infoRat : (Try.prog.info? 33).map (fun i => (i.zero, i.size, i.bytes)) = some (some (.agg #[.bool false, .slice none 0 0, .slice none 0 0]), 3, 56) := by kernel_rfl
theorem keys_zero {E : List El} (h : keys E = []) : E = [] := by cases E <;> simp_all [keys]
set_option maxRecDepth 100000 in
set_option maxHeartbeats 3200000 in
theorem toRatS_came (a : Option Addr) (n c h : Nat) (K : List Fq) (hK : szK K ≤ 1048576) (w : World) (hc : VCame w h a n K) :
    Calls Try.prog 113 #[.slice a n c] w (VecR true K w) := by
  have HC := hid hc
  obtain rfl := hc.1
  clear hc
  have hl := szK_len K
  go_enter Try.func113, Try.ntmps113
  have hmk := fun W => run_make_rowk (P := Try.prog) 105 33 (.agg #[.bool false, .slice none 0 0, .slice none 0 0]) #[.bool false, .slice none 0 0, .slice none 0 0] 3 56 Try.underlying105 infoRat rfl .i64 .i64 K.length (by omega) (by omega) W
  have HM := hid (VO_made (w := w) K.length (by unfold maxLen; omega))
  have HA := hid (show Below w.heap.size w (w.alloc (.cells (madeCells #[.bool false, .slice none 0 0, .slice none 0 0] (K.length * 3)) 33)) from (Below.refl _ _).alloc (Nat.le_refl _) _)
  have HS := hid (show w.heap.size < (w.alloc (.cells (madeCells #[.bool false, .slice none 0 0, .slice none 0 0] (K.length * 3)) 33)).heap.size by simp)
  go_wp2
  clear hmk
  generalize w.alloc (.cells (madeCells #[.bool false, .slice none 0 0, .slice none 0 0] (K.length * 3)) 33) = w1 at HM HA HS ⊢
  obtain ⟨g, hg⟩ : ∃ g, g = w.heap.size := ⟨_, rfl⟩
  have HG := hid hg
  rw [← hg] at HM HA HS
  rw [← hg]
  clear hg
  go_loopw [4] (fun i wr => ∃ (k : Nat) (E : List El), k ≤ K.length ∧ i = .int .i64 k ∧ Hid (keys E = K.take k) ∧ Hid (VO true wr (.slice (some ⟨g, 0, none⟩) K.length K.length) (E ++ List.replicate (K.length - k) El0) g wr.heap.size) ∧ Below g w wr) (fun i _ => K.length - (intOf i).toNat)
  case atStart => exact ⟨0, [], Nat.zero_le _, rfl, hid rfl, hid (by simpa using HM.out.wide (Nat.le_refl _) HS.out), HA.out⟩
  case round =>
    obtain ⟨k, E, hk, rfl, hE, hV, hbel⟩ := hrel
    have hEl := hid (show E.length = k by have := congrArg List.length hE.out; rw [keys_len, List.length_take] at this; omega)
    by_cases hlt : k < K.length
    · obtain ⟨g1, o1, rfl, -, hg1, hce⟩ := HC.out.2 (by omega)
      have hEx := (hce k hlt).old (hbel.mono (by rw [HG.out]; exact Nat.le_refl _)) hg1
      have hn1 := szK_at hlt
      have htk := hid (List.take_succ_eq_append_getElem hlt)
      clear hce
      generalize K[k] = f at hEx hn1 htk
      obtain ⟨s, A, D⟩ := f
      obtain ⟨a1, c1, b1, d1, q0, q1, q2, hcr⟩ := hEx.ex
      simp only [Fq.n] at hn1 q0 q1 q2 hcr
      have KT := hid (fun (W : World) (hb : Below wr.heap.size wr W) => toRat_came s a1 A.length c1 b1 D.length d1 h A D (by omega) (by omega) W (hcr.old hb))
      have HB := hid hbel
      have hpos := hid (show 0 < (E ++ List.replicate (K.length - k) El0).length by simp; omega)
      have hgw := hid (hV.out.pos (a := some ⟨g, 0, none⟩) hpos.out)
      have a1' : (0 : Int) ≤ k := by omega
      have a2 : (k : Int) < K.length := by omega
      clear hcr hEx hbel
      go_wp2_with fail
      (with_reducible refine (KT.out _ (Below.refl _ _)).mono ?_)
      rintro e w2 ⟨v, u, rfl, hO, hb⟩
      have hsz := hid hb.size
      have HB := hid (HB.out.trans (hb.mono (by rw [HG.out]; exact HB.out.size)))
      have hV2 := hid (hV.out.old hb)
      obtain ⟨a3, c3, b3, d3, rfl, rfl⟩ := hO.form
      have hlen2 := hid (show (E ++ List.replicate (K.length - k) El0).length = K.length by simp [hEl.out]; omega)
      have hki := hid (show k < (E ++ List.replicate (K.length - k) El0).length by rw [hlen2.out]; omega)
      have hcell := hV2.out.cell hki.out
      obtain ⟨r0, r1, r2⟩ := hcell
      have f0 := hV2.out.free (k * 3)
      have f1 := hV2.out.free (k * 3 + 1)
      have f2 := hV2.out.free (k * 3 + 2)
      have hgz := hid (show g ≤ wr.heap.size from by have := HG.out; have := HB.out.size; obtain ⟨g', e1, -, -, -, e2⟩ := hgw.out; cases e1; omega)
      have hput := hid (hV2.out.wide (Nat.le_refl g) hsz.out |>.put (e := ⟨⟨s, A, D⟩, .slice a3 A.length c3, .slice b3 D.length d3⟩) hki.out ⟨hO.a.wide hgz.out (.inr (Nat.le_refl _)), hO.d.wide hgz.out (.inr (Nat.le_refl _))⟩ (fun _ => hO.ne)
        (fun _ j hj hne => hV2.out.apt (e := ⟨⟨s, A, D⟩, .slice a3 A.length c3, .slice b3 D.length d3⟩) ⟨hO.a, hO.d⟩ (Nat.le_refl _) _ (List.getElem_mem hj)))
      have hset := hid (show (E ++ List.replicate (K.length - k) El0).set k ⟨⟨s, A, D⟩, .slice a3 A.length c3, .slice b3 D.length d3⟩ = (E ++ [⟨⟨s, A, D⟩, .slice a3 A.length c3, .slice b3 D.length d3⟩]) ++ List.replicate (K.length - (k + 1)) El0 by
        rw [List.set_append_right k _ (by rw [hEl.out]; exact Nat.le_refl _), hEl.out, Nat.sub_self, show K.length - k = (K.length - (k + 1)) + 1 by omega, List.replicate_succ, List.set_cons_zero, List.append_assoc]; rfl)
      have HB2 := hid (((HB.out.setCell (p := ⟨g, k * 3, none⟩) (Nat.le_refl _) (.bool s)).setCell (p := ⟨g, k * 3 + 1, none⟩) (Nat.le_refl _) (.slice a3 A.length c3)).setCell (p := ⟨g, k * 3 + 2, none⟩) (Nat.le_refl _) (.slice b3 D.length d3))
      clear hb hO q0 q1 q2
      go_wp2
      go_roundw
      case rel =>
        refine ⟨k + 1, E ++ [⟨⟨s, A, D⟩, .slice a3 A.length c3, .slice b3 D.length d3⟩], by omega, by go_num, hid ?_, hid ?_, HB2.out⟩
        · rw [keys_append, hE.out, htk.out]; rfl
        · rw [← hset.out]; simpa [size_set] using hput.out
      case measure => simp [intOf]; omega
    · obtain rfl : k = K.length := by omega
      have HB := hid hbel
      clear hbel
      go_wp2
      go_ret
      have h1 := hV.out
      rw [Nat.sub_self, List.replicate_zero, List.append_nil] at h1
      have h2 := hE.out
      rw [List.take_length] at h2
      have h3 := HG.out
      subst h3
      exact VecR_of rfl ⟨E, h1, h2⟩ HB.out

set_option maxRecDepth 100000 in
set_option maxHeartbeats 3200000 in
theorem eqRatS_w {a1 a2 : Option Addr} {n1 n2 c1 c2 : Nat} {K : List Fq} {l1 h1 l2 h2 : Nat} (hK : szK K ≤ 4194304) (w : World) (o1 : VW w a1 n1 K l1 h1) (o2 : VW w a2 n2 K l2 h2) :
    Calls Try.prog 117 #[.slice a1 n1 c1, .slice a2 n2 c2] w (RetB (.bool true) w) := by
  have HK := hid hK
  have hsz := szK_len K
  have O1 := hid o1
  have O2 := hid o2
  obtain rfl := o1.1
  obtain rfl := o2.1
  clear o1 o2 hK
  go_enter Try.func117, Try.ntmps117
  go_wp2
  go_loopw [5] (fun i wr => ∃ (k : Nat), k ≤ K.length ∧ i = .int .i64 k ∧ Below w.heap.size w wr) (fun i _ => K.length - (intOf i).toNat)
  case atStart => exact ⟨0, Nat.zero_le _, rfl, Below.refl _ _⟩
  case round =>
    obtain ⟨k, hk, rfl, hbel⟩ := hrel
    by_cases hlt : k < K.length
    · obtain ⟨g1, p1, x1, y1, rfl, hg1, q0, q1, q2, R1⟩ := (O1.out.old hbel).cell hlt
      obtain ⟨g2, p2, x2, y2, rfl, hg2, q3, q4, q5, R2⟩ := (O2.out.old hbel).cell hlt
      have hn := szK_at hlt
      have hKv := HK.out
      generalize K[k] = e1 at q0 q3 R1 R2 hn
      obtain ⟨s, A, D⟩ := e1
      simp only [Fq.n] at q0 q3 R1 R2 hn
      obtain ⟨a3, c3, b3, d3, rfl, rfl⟩ := R1.form
      obtain ⟨a4, c4, b4, d4, rfl, rfl⟩ := R2.form
      have KE := hid (fun (W : World) (hb : Below wr.heap.size wr W) => eqRat_w s _ _ _ _ A D l1 h1 l2 h2 (by omega) (by omega) W (R1.old hb) (R2.old hb))
      have HB := hid hbel
      have a1' : (0 : Int) ≤ k := by omega
      have a2' : (k : Int) < K.length := by omega
      clear R1 R2 hbel hn
      go_wp2_with fail
      go_region_held3 (fun w' => w'.cell? ⟨g1, p1 + k * 3, none⟩ = some (.bool s) ∧ w'.cell? ⟨g1, p1 + k * 3 + 1, none⟩ = some (.slice a3 A.length c3) ∧ w'.cell? ⟨g1, p1 + k * 3 + 2, none⟩ = some (.slice b3 D.length d3) ∧ w'.cell? ⟨g2, p2 + k * 3, none⟩ = some (.bool s) ∧ w'.cell? ⟨g2, p2 + k * 3 + 1, none⟩ = some (.slice a4 A.length c4) ∧ w'.cell? ⟨g2, p2 + k * 3 + 2, none⟩ = some (.slice b4 D.length d4)) (first | with_reducible exact ⟨q0, q1, q2, q3, q4, q5⟩ | go_keep)
        (first | (go_at_call 44; (with_reducible refine (KE.out _ (Below_drew1 (Below.refl _ _))).mono ?_); rintro e w2 ⟨rfl, hb⟩; have HB2 := hid ((Below_drew1 HB.out).trans (hb.mono HB.out.size)); have q0 := (hb.cell (p := ⟨g1, p1 + k * 3, none⟩) hg1).trans q0; have q1 := (hb.cell (p := ⟨g1, p1 + k * 3 + 1, none⟩) hg1).trans q1; have q2 := (hb.cell (p := ⟨g1, p1 + k * 3 + 2, none⟩) hg1).trans q2; have q3 := (hb.cell (p := ⟨g2, p2 + k * 3, none⟩) hg2).trans q3; have q4 := (hb.cell (p := ⟨g2, p2 + k * 3 + 1, none⟩) hg2).trans q4; have q5 := (hb.cell (p := ⟨g2, p2 + k * 3 + 2, none⟩) hg2).trans q5; clear hb))
      clear q0 q1 q2 q3 q4 q5
      go_wp2
      go_roundw
      case rel => exact ⟨k + 1, by omega, by go_num, HB2.out⟩
      case measure => simp [intOf]; omega
    · have HB := hid hbel
      clear hbel
      go_wp2
      go_ret
      exact ⟨rfl, HB.out⟩
theorem eqRatS_vo (p1 p2 : Bool) (v1 v2 : Value) (E1 E2 : List El) (l1 h1 l2 h2 : Nat) (he : keys E1 = keys E2) (hK : szK (keys E1) ≤ 4194304) (w : World) (o1 : VO p1 w v1 E1 l1 h1) (o2 : VO p2 w v2 E2 l2 h2) :
    Calls Try.prog 117 #[v1, v2] w (RetB (.bool true) w) := by
  obtain ⟨a1, c1, rfl, -⟩ := o1.form
  obtain ⟨a2, c2, rfl, -⟩ := o2.form
  exact eqRatS_w hK w o1.vw (by rw [he]; exact o2.vw)
end Go.Proofs.Yteanocjkdehhgaa

/- The laws' helpers on slices of fractions' structs: marks. -/
namespace Go.Proofs.Yteanocjkdehhgaa
open Go.RowKit
open Go.Lib (hid)
set_option linter.unusedVariables false

def MarkV (v : Value) (E : List El) (m : Int) (lo hi : Nat) (w : World) (e : Ending) (w' : World) : Prop := e = .returned (.int .i64 (m + (szK (keys E) : Int))) ∧ VO true w' v (mkE E m) lo hi ∧ Only (InS lo hi) w w'
end Go.Proofs.Yteanocjkdehhgaa

/- Slices of fractions' structs by their values: what they hold at an index, an append, the laws' helpers. -/
namespace Go.Proofs.Yteanocjkdehhgaa
open Go.RowKit
open Go.Lib (hid)
set_option linter.unusedVariables false

def Fq.o (f : Fq) : Option Rat := rval f.s f.A f.D
def fqo (o : Option Rat) : Fq := ⟨gzs (qn o), gzl (qn o), gzl (qd o)⟩
theorem fqo_o {o : Option Rat} (h : fitO o) : (fqo o).o = o := by
  have := (rval_parts h).1
  simp only [Fq.o, fqo]
  exact this
theorem fqo_A (o : Option Rat) : (fqo o).A = gzl (qn o) := by simp only [fqo]
theorem fqo_D (o : Option Rat) : (fqo o).D = gzl (qd o) := by simp only [fqo]
theorem fqo_s (o : Option Rat) : (fqo o).s = gzs (qn o) := by simp only [fqo]
set_option maxRecDepth 100000 in
theorem fqo_n {o : Option Rat} (h : fitO o) : (fqo o).n ≤ 49 := by
  obtain ⟨-, -, h1, h2⟩ := rval_parts h
  simp only [Fq.n, fqo]; omega
theorem fitO_o (f : Fq) : fitO f.o := fitO_rval _ _ _
/-- Of a size at which the functions on fractions answer. -/
def Sm (K : List Fq) : Prop := (∀ f ∈ K, f.A.length ≤ 1048576 ∧ f.D.length ≤ 1048576) ∧ K.length ≤ 1048576
theorem Sm.of {K : List Fq} (h : szK K ≤ 1048576) : Sm K := by
  refine ⟨fun f hf => ?_, Nat.le_trans (szK_len K) h⟩
  obtain ⟨k, hk, rfl⟩ := List.getElem_of_mem hf
  have := szK_at hk
  simp only [Fq.n] at this
  omega
theorem Sm.map {os : List (Option Rat)} (h : ∀ o ∈ os, fitO o) (hl : os.length ≤ 1048576) : Sm (os.map fqo) := by
  refine ⟨fun f hf => ?_, by simpa using hl⟩
  obtain ⟨o, ho, rfl⟩ := List.mem_map.1 hf
  have := fqo_n (h o ho)
  simp only [Fq.n] at this
  omega
set_option maxRecDepth 100000 in
/-- What a slice of one's own holds at an index. -/
theorem VK.at {p : Bool} {w : World} {a : Option Addr} {n c : Nat} {K : List Fq} {lo hi : Nat} (h : VK p w (.slice a n c) K lo hi) (hK : Sm K) {k : Nat} (hlt : k < K.length) :
    ∃ g a3 n3 c3 b3 m3 d3, a = some ⟨g, 0, none⟩ ∧ g < w.heap.size ∧ w.cell? ⟨g, k * 3, none⟩ = some (.bool K[k].s) ∧ w.cell? ⟨g, k * 3 + 1, none⟩ = some (.slice a3 n3 c3) ∧ w.cell? ⟨g, k * 3 + 2, none⟩ = some (.slice b3 m3 d3) ∧
      RL w (.slice a3 n3 c3) (.slice b3 m3 d3) K[k].A K[k].D := by
  obtain ⟨E, h, rfl⟩ := h
  rw [keys_len] at hlt
  obtain ⟨g, rfl, -, -, -, hg⟩ := h.pos (by omega)
  obtain ⟨q0, q1, q2⟩ := h.cell hlt
  have R := h.at hlt
  have hn := hK.1 _ (List.getElem_mem (show k < (keys E).length by rw [keys_len]; exact hlt))
  rw [keys_at hlt] at hn ⊢
  obtain ⟨a3, c3, b3, d3, e1, e2⟩ := R.form
  rw [e1] at q1 R
  rw [e2] at q2 R
  exact ⟨g, a3, _, c3, b3, _, d3, rfl, hg, q0, q1, q2, ⟨_, R.a.ints⟩, ⟨_, R.d.ints⟩, by omega, by omega⟩
/-- What a part of a slice holds at an index. -/
theorem VW.at {w : World} {a : Option Addr} {n : Nat} {K : List Fq} {lo hi : Nat} (h : VW w a n K lo hi) (hK : Sm K) {k : Nat} (hlt : k < K.length) :
    ∃ g o a3 n3 c3 b3 m3 d3, a = some ⟨g, o, none⟩ ∧ g < w.heap.size ∧ w.cell? ⟨g, o + k * 3, none⟩ = some (.bool K[k].s) ∧ w.cell? ⟨g, o + k * 3 + 1, none⟩ = some (.slice a3 n3 c3) ∧ w.cell? ⟨g, o + k * 3 + 2, none⟩ = some (.slice b3 m3 d3) ∧
      RL w (.slice a3 n3 c3) (.slice b3 m3 d3) K[k].A K[k].D := by
  obtain ⟨g, o, x, y, e, hg, q0, q1, q2, R⟩ := h.cell hlt
  have hn := hK.1 _ (List.getElem_mem hlt)
  obtain ⟨a3, c3, b3, d3, e1, e2⟩ := R.form
  rw [e1] at q1 R
  rw [e2] at q2 R
  exact ⟨g, o, a3, _, c3, b3, _, d3, e, hg, q0, q1, q2, ⟨_, R.a.ints⟩, ⟨_, R.d.ints⟩, hn.1, hn.2⟩
theorem VK.num {p : Bool} {w : World} {a : Option Addr} {n c : Nat} {K : List Fq} {lo hi : Nat} (h : VK p w (.slice a n c) K lo hi) : n = K.length := by
  obtain ⟨E, h, rfl⟩ := h
  rw [keys_len]
  exact h.num
theorem VK_nil (p : Bool) (w : World) (lo hi : Nat) : VK p w (.slice none 0 0) [] lo hi := ⟨[], VO_nil _ _ _ _, rfl⟩
theorem VK_lit0 (p : Bool) {w : World} {lo : Nat} (hl : lo ≤ w.heap.size) : VK p (w.alloc (.cells #[] 33)) (.slice (some ⟨w.heap.size, 0, none⟩) 0 0) [] lo (w.heap.size + 1) :=
  ⟨[], ⟨⟨rfl, .inr ⟨w.heap.size, 0, #[], rfl, hl, heap_alloc_new w _, Nat.le_refl _, Nat.zero_le _, rfl, rfl⟩⟩, fun k hk => by simp [Value.ownBlock] at hk; omega, fun e he => (by cases he), fun _ e he => (by cases he), fun _ => List.Pairwise.nil⟩, rfl⟩
set_option maxRecDepth 100000 in
/-- A struct of a call's own is appended. -/
theorem VK.snoc {p : Bool} {w w1 : World} {v v' x y : Value} {K : List Fq} {s : Bool} {o : Option Rat} {lo hi lo' n : Nat} (h : VK p w v K lo hi) (hr : RO p w lo' s x y o) (hh : hi ≤ lo') (hl : lo ≤ lo') {xs : List Value}
    (hx : ∃ E, VO p w v E lo hi ∧ keys E = K ∧ xs = flat E) (hrow : w1.ownsRow lo 33 3 v' n (xs ++ [.bool s, x, y])) (hn : n = K.length + 1) (hg : w.grownBy w1 v.ownBlock) : VK p w1 v' (K ++ [fqo o]) lo w1.heap.size := by
  obtain ⟨E, hE, rfl, rfl⟩ := hx
  rw [keys_len] at hn
  subst hn
  have hs := hr.sg
  rw [← fqo_s] at hs
  subst hs
  have hi' := hr.i
  have hj' := hr.j
  rw [← fqo_A] at hi'
  rw [← fqo_D] at hj'
  have hnd := hr.nd
  clear hr
  generalize fqo o = f at hi' hj' hrow ⊢
  have hro : ROw w x y f.A f.D lo' w.heap.size := ⟨⟨hi', fun k hk => (Ints_lt hi' k hk).2⟩, ⟨hj', fun k hk => (Ints_lt hj' k hk).2⟩⟩
  exact ⟨E ++ [⟨f, x, y⟩], hE.snoc (e := ⟨f, x, y⟩) ⟨hro.a.wide hl (.inr (Nat.le_refl _)), hro.d.wide hl (.inr (Nat.le_refl _))⟩ (fun hp => hnd hp) (fun hp => hE.apt (e := ⟨f, x, y⟩) hro hh) hrow hg, by rw [keys_append]; rfl⟩
section
variable {ops : Array Oper} {o : Oper} {a : Act} {p : Bool} {W : World} {v x y : Value} {Ks : List Fq} {lo hi lo' B : Nat} {sg : Bool} {oo : Option Rat}
set_option maxRecDepth 100000 in
/-- THE APPEND of a struct of a call's own, at a step of a region that draws. -/
theorem step_push {K : Act → World → Prop} {Q : Exit → Act → World → Prop} {E' : Prop} (hgd : o.guard = none) (s1 x1 : Operand)
    (ho : o.op = .call { callee := .builtin .append, args := #[s1, x1], argTypes := #[105, 105] }) (hs : a.eval s1 = v) (hv : VK p W v Ks lo hi) (hh : hi ≤ lo') (hl : lo ≤ lo') (hr : RO p W lo' sg x y oo)
    (hx : a.eval x1 = .slice (some ⟨B, 0, none⟩) 1 1) (hB : W.heap[B]? = some (.cells #[.bool sg, x, y] 33 (0, 0))) (hlen : Ks.length ≤ 1048576) (hlw : lo ≤ W.heap.size)
    (h : ∀ (g cap : Nat) (w' : World), VK p w' (.slice (some ⟨g, 0, none⟩) (Ks.length + 1) cap) (Ks ++ [fqo oo]) lo w'.heap.size → Below lo W w' → (∀ k, k < W.heap.size → some k ≠ v.ownBlock → w'.heap[k]? = W.heap[k]?) → K (a.put o.dst (.slice (some ⟨g, 0, none⟩) (Ks.length + 1) cap)) w') :
    if Region.wanted o (yielded ops a.tmps) = true then Oper.wp Try.prog o a W K Q else E' := by
  obtain ⟨i0, hi0, hz0, hz1, hz2⟩ := info_parts infoRat
  obtain ⟨E, hE, hk⟩ := hv
  have hlk : E.length = Ks.length := by rw [← hk, keys_len]
  refine step_append_lies W hgd s1 x1 105 ho lo 33 i0 _ 3 56 Try.underlying105 hi0 hz0 hz1 hz2 rfl (by decide) v Ks.length (flat E) hs (hlk ▸ hE.row) ⟨B, 0, none⟩ 1 1 [.bool sg, x, y] hx rfl (World.news_of_block hB) ?_ (by decide) (by unfold maxLen; omega) (by omega) hlw W.heap.size rfl ?_
  · obtain ⟨a1, c1, rfl, -⟩ := Ints_form hr.i
    obtain ⟨a2, c2, rfl, -⟩ := Ints_form hr.j
    intro u hu
    simp only [List.mem_cons, List.not_mem_nil, or_false] at hu
    rcases hu with rfl | rfl | rfl <;> rfl
  · intro g cap w' hrow hgr _ hlt
    have hvk : VK p W v Ks lo hi := ⟨E, hE, hk⟩
    exact h g cap w' (hvk.snoc hr hh hl ⟨E, hE, hk, rfl⟩ hrow rfl hgr) ((Below.refl lo W).grown hgr hlw fun k hk => (hE.lt k hk).1) hgr.block
set_option maxRecDepth 100000 in
theorem wpList_push {rest : List Oper} {Q : Exit → Act → World → Prop} (hgd : o.guard = none) (s1 x1 : Operand)
    (ho : o.op = .call { callee := .builtin .append, args := #[s1, x1], argTypes := #[105, 105] }) (hs : a.eval s1 = v) (hv : VK p W v Ks lo hi) (hh : hi ≤ lo') (hl : lo ≤ lo') (hr : RO p W lo' sg x y oo)
    (hx : a.eval x1 = .slice (some ⟨B, 0, none⟩) 1 1) (hB : W.heap[B]? = some (.cells #[.bool sg, x, y] 33 (0, 0))) (hlen : Ks.length ≤ 1048576) (hlw : lo ≤ W.heap.size)
    (h : ∀ (g cap : Nat) (w' : World), VK p w' (.slice (some ⟨g, 0, none⟩) (Ks.length + 1) cap) (Ks ++ [fqo oo]) lo w'.heap.size → Below lo W w' → wpList Try.prog ops Q rest (a.put o.dst (.slice (some ⟨g, 0, none⟩) (Ks.length + 1) cap)) w') :
    wpList Try.prog ops Q (o :: rest) a W := by
  obtain ⟨i0, hi0, hz0, hz1, hz2⟩ := info_parts infoRat
  obtain ⟨E, hE, hk⟩ := hv
  have hlk : E.length = Ks.length := by rw [← hk, keys_len]
  refine wpList_append_lies W hgd s1 x1 105 ho lo 33 i0 _ 3 56 Try.underlying105 hi0 hz0 hz1 hz2 rfl (by decide) v Ks.length (flat E) hs (hlk ▸ hE.row) ⟨B, 0, none⟩ 1 1 [.bool sg, x, y] hx rfl (World.news_of_block hB) ?_ (by decide) (by unfold maxLen; omega) (by omega) hlw W.heap.size rfl ?_
  · obtain ⟨a1, c1, rfl, -⟩ := Ints_form hr.i
    obtain ⟨a2, c2, rfl, -⟩ := Ints_form hr.j
    intro u hu
    simp only [List.mem_cons, List.not_mem_nil, or_false] at hu
    rcases hu with rfl | rfl | rfl <;> rfl
  · intro g cap w' hrow hgr _ hlt
    have hvk : VK p W v Ks lo hi := ⟨E, hE, hk⟩
    exact h g cap w' (hvk.snoc hr hh hl ⟨E, hE, hk, rfl⟩ hrow rfl hgr) ((Below.refl lo W).grown hgr hlw fun k hk => (hE.lt k hk).1)
end
/-! The laws' helpers. -/
theorem eqRatS_k {p1 p2 : Bool} {v1 v2 : Value} {K : List Fq} {l1 h1 l2 h2 : Nat} (hK : szK K ≤ 4194304) (w : World) (o1 : VK p1 w v1 K l1 h1) (o2 : VK p2 w v2 K l2 h2) :
    Calls Try.prog 117 #[v1, v2] w (RetB (.bool true) w) := by
  obtain ⟨E1, o1, rfl⟩ := o1
  obtain ⟨E2, o2, e⟩ := o2
  exact eqRatS_vo p1 p2 v1 v2 E1 E2 l1 h1 l2 h2 e.symm hK w o1 o2
def MarkK (v : Value) (K : List Fq) (m : Int) (lo hi : Nat) (w : World) (e : Ending) (w' : World) : Prop := e = .returned (.int .i64 (m + (szK K : Int))) ∧ VK true w' v (mkK K m) lo hi ∧ Only (InG lo hi w.heap.size) w w'
theorem VecR.eqk {p : Bool} {K K' : List Fq} {w w' : World} {e : Ending} (h : VecR p K w e w') (hk : K = K') : VecR p K' w e w' := by subst hk; exact h
end Go.Proofs.Yteanocjkdehhgaa
