/- Merged: Tb Tm Tc Th Ti Tj Te. -/
import Derived.Test.YteanocjkdehhgaaVbe
import Derived.Test.YteanocjkdehhgaaRhi
import Derived.Deep.RegionHeld3
import Derived.Deep.AppendLies
/- Slices of terms' structs: what they hold and how they lie. -/
namespace Go.Proofs.Yteanocjkdehhgaa
open Go.RowKit
open Go.Lib (hid)
set_option linter.unusedVariables false

/-- What a struct of a term holds. -/
structure Tq where
  c : Int
  s : Bool
  A : List Int
  D : List Int
/-- A struct in a slice: what it holds, and its two slices. -/
structure Et where
  q : Tq
  v : Value
  u : Value
def Et.cs (e : Et) : List Value := [.int .i64 e.q.c, .bool e.q.s, e.v, e.u]
def flatT (E : List Et) : List Value := E.flatMap Et.cs
theorem flatT_cons (e : Et) (E : List Et) : flatT (e :: E) = .int .i64 e.q.c :: .bool e.q.s :: e.v :: e.u :: flatT E := rfl
theorem flatT_append (E F : List Et) : flatT (E ++ F) = flatT E ++ flatT F := by simp [flatT]
theorem flatT_one (e : Et) : flatT [e] = [.int .i64 e.q.c, .bool e.q.s, e.v, e.u] := rfl
theorem flatT_len : ∀ E : List Et, (flatT E).length = E.length * 4
  | [] => rfl
  | e :: E => by
    have := flatT_len E
    rw [flatT_cons]
    simp only [List.length_cons]
    omega
theorem flatT_at : ∀ (E : List Et) (i : Nat) (h : i < E.length), (flatT E)[i * 4]? = some (.int .i64 E[i].q.c) ∧ (flatT E)[i * 4 + 1]? = some (.bool E[i].q.s) ∧ (flatT E)[i * 4 + 2]? = some E[i].v ∧ (flatT E)[i * 4 + 3]? = some E[i].u
  | e :: E, 0, _ => ⟨rfl, rfl, rfl, rfl⟩
  | e :: E, i + 1, h => by
    have := flatT_at E i (by simpa using h)
    rw [flatT_cons, show (i + 1) * 4 = i * 4 + 1 + 1 + 1 + 1 by omega]
    simpa using this
theorem flatT_set : ∀ (E : List Et) (i : Nat) (h : i < E.length) (e : Et), flatT (E.set i e) = ((((flatT E).set (i * 4) (.int .i64 e.q.c)).set (i * 4 + 1) (.bool e.q.s)).set (i * 4 + 2) e.v).set (i * 4 + 3) e.u
  | _ :: E, 0, _, e => rfl
  | x :: E, i + 1, h, e => by
    have := flatT_set E i (by simpa using h) e
    rw [List.set_cons_succ, flatT_cons, flatT_cons, show (i + 1) * 4 = i * 4 + 1 + 1 + 1 + 1 by omega, this]
    simp
theorem set_sameL {α : Type} {l : List α} {i : Nat} {x : α} (h : l[i]? = some x) : l.set i x = l := by
  apply List.ext_getElem?
  intro j
  rw [List.getElem?_set]
  by_cases e : i = j
  · subst e
    rw [if_pos rfl, h, if_pos (List.getElem?_eq_some_iff.1 h).1]
  · rw [if_neg e]
theorem flatT_sets (E : List Et) (i : Nat) (h : i < E.length) (c : Int) (b : Bool) : flatT (E.set i ⟨⟨c, b, E[i].q.A, E[i].q.D⟩, E[i].v, E[i].u⟩) = ((flatT E).set (i * 4) (.int .i64 c)).set (i * 4 + 1) (.bool b) := by
  obtain ⟨-, -, h1, h2⟩ := flatT_at E i h
  rw [flatT_set E i h]
  have e1 : (((flatT E).set (i * 4) (.int .i64 c)).set (i * 4 + 1) (.bool b)).set (i * 4 + 2) E[i].v = ((flatT E).set (i * 4) (.int .i64 c)).set (i * 4 + 1) (.bool b) :=
    set_sameL (by rw [List.getElem?_set_ne (by omega), List.getElem?_set_ne (by omega)]; exact h1)
  have e2 : (((flatT E).set (i * 4) (.int .i64 c)).set (i * 4 + 1) (.bool b)).set (i * 4 + 3) E[i].u = ((flatT E).set (i * 4) (.int .i64 c)).set (i * 4 + 1) (.bool b) :=
    set_sameL (by rw [List.getElem?_set_ne (by omega), List.getElem?_set_ne (by omega)]; exact h2)
  rw [e1, e2]
/-- The two slices of the one and the two of the other share no block. -/
def AptT (e e' : Et) : Prop := ∀ k, (e.v.ownBlock = some k ∨ e.u.ownBlock = some k) → ¬ (e'.v.ownBlock = some k ∨ e'.u.ownBlock = some k)
theorem AptT.symm {e e' : Et} (h : AptT e e') : AptT e' e := fun k h1 h2 => h k h2 h1
/-- A slice of structs of one's own: it and what its structs hold lie from lo on, below hi (p: no two of the slices that they hold share memory). -/
structure TO (p : Bool) (w : World) (v : Value) (E : List Et) (lo hi : Nat) : Prop where
  row : w.ownsRow lo 132 4 v E.length (flatT E)
  high : ∀ k, v.ownBlock = some k → k < hi
  el : ∀ e ∈ E, ROw w e.v e.u e.q.A e.q.D lo hi
  nd : p = true → ∀ e ∈ E, ∀ k, e.v.ownBlock = some k → e.u.ownBlock ≠ some k
  ap : p = true → E.Pairwise AptT
theorem TO.at {p : Bool} {w : World} {v : Value} {E : List Et} {lo hi : Nat} (h : TO p w v E lo hi) {i : Nat} (hi' : i < E.length) : ROw w E[i].v E[i].u E[i].q.A E[i].q.D lo hi := h.el _ (List.getElem_mem hi')
theorem TO.lt {p : Bool} {w : World} {v : Value} {E : List Et} {lo hi : Nat} (h : TO p w v E lo hi) : ∀ k, v.ownBlock = some k → lo ≤ k ∧ k < w.heap.size := h.row.lt
theorem TO.old {p : Bool} {w w' : World} {v : Value} {E : List Et} {lo hi : Nat} (h : TO p w v E lo hi) (hb : Below w.heap.size w w') : TO p w' v E lo hi :=
  ⟨own_block h.row fun k hk => hb.block k (h.lt k hk).2, h.high, fun e he => (h.el e he).old hb, h.nd, h.ap⟩
theorem TO.onlyG {p : Bool} {w w' : World} {v : Value} {E : List Et} {lo hi a b : Nat} (h : TO p w v E lo hi) (hb : Only (InG a b w.heap.size) w w') (hd : hi ≤ a ∨ b ≤ lo) : TO p w' v E lo hi :=
  ⟨own_block h.row fun k hk => hb.block k fun hs => by have := InG_cases hs; have := h.high k hk; have := h.lt k hk; omega, h.high, fun e he => (h.el e he).onlyG hb hd, h.nd, h.ap⟩
theorem TO.wide {p : Bool} {w : World} {v : Value} {E : List Et} {lo hi lo' hi' : Nat} (h : TO p w v E lo hi) (h1 : lo' ≤ lo) (h2 : hi ≤ hi') : TO p w v E lo' hi' :=
  ⟨own_base h.row h1, fun k hk => Nat.lt_of_lt_of_le (h.high k hk) h2, fun e he => ⟨(h.el e he).a.wide h1 (.inr h2), (h.el e he).d.wide h1 (.inr h2)⟩, h.nd, h.ap⟩
theorem TO.weak {p : Bool} {w : World} {v : Value} {E : List Et} {lo hi : Nat} (h : TO p w v E lo hi) : TO false w v E lo hi := ⟨h.row, h.high, h.el, fun h => (by cases h), fun h => (by cases h)⟩
theorem TO.len {p : Bool} {w : World} {v : Value} {E : List Et} {lo hi : Nat} (h : TO p w v E lo hi) : E.length ≤ maxLen := by
  rcases h.row.2 with ⟨-, h1⟩ | ⟨g, cap, cur, -, -, -, h1, h2, -⟩
  · omega
  · omega
theorem TO_nil (p : Bool) (w : World) (lo hi : Nat) : TO p w (.slice none 0 0) [] lo hi :=
  ⟨World.ownsRow_nil _ _ _ _, fun k hk => by simp [Value.ownBlock] at hk, fun e he => (by cases he), fun _ e he => (by cases he), fun _ => List.Pairwise.nil⟩
theorem TO.cases {p : Bool} {w : World} {v : Value} {E : List Et} {lo hi : Nat} (h : TO p w v E lo hi) :
    (v = .slice none 0 0 ∧ E = []) ∨ ∃ g cap, v = .slice (some ⟨g, 0, none⟩) E.length cap ∧ lo ≤ g ∧ g < hi ∧ g < w.heap.size ∧ E.length ≤ cap := by
  rcases h.row.2 with ⟨h1, h2⟩ | ⟨g, cap, cur, h1, h2, h3, h4, -⟩
  · exact .inl ⟨h1, List.eq_nil_of_length_eq_zero h2⟩
  · exact .inr ⟨g, cap, h1, h2, h.high g (by rw [h1]; rfl), (Array.getElem?_eq_some_iff.1 h3).1, h4⟩
theorem TO.form {p : Bool} {w : World} {v : Value} {E : List Et} {lo hi : Nat} (h : TO p w v E lo hi) : ∃ a c, v = .slice a E.length c ∧ E.length ≤ c := by
  rcases h.cases with ⟨rfl, rfl⟩ | ⟨g, cap, rfl, -, -, -, h4⟩
  · exact ⟨none, 0, rfl, Nat.le_refl _⟩
  · exact ⟨_, cap, rfl, h4⟩
theorem TO.pos {p : Bool} {w : World} {a : Option Addr} {n c : Nat} {E : List Et} {lo hi : Nat} (h : TO p w (.slice a n c) E lo hi) (h0 : 0 < E.length) : ∃ g, a = some ⟨g, 0, none⟩ ∧ n = E.length ∧ lo ≤ g ∧ g < hi ∧ g < w.heap.size := by
  rcases h.cases with ⟨-, rfl⟩ | ⟨g, cap, h1, h2, h3, h4, -⟩
  · simp at h0
  · simp only [Value.slice.injEq] at h1
    exact ⟨g, h1.1, h1.2.1, h2, h3, h4⟩
theorem TO.cell {p : Bool} {w : World} {g n c : Nat} {E : List Et} {lo hi : Nat} (h : TO p w (.slice (some ⟨g, 0, none⟩) n c) E lo hi) {i : Nat} (hi' : i < E.length) :
    w.cell? ⟨g, i * 4, none⟩ = some (.int .i64 E[i].q.c) ∧ w.cell? ⟨g, i * 4 + 1, none⟩ = some (.bool E[i].q.s) ∧ w.cell? ⟨g, i * 4 + 2, none⟩ = some E[i].v ∧ w.cell? ⟨g, i * 4 + 3, none⟩ = some E[i].u := by
  have hc := h.row.cells (g := g) rfl
  obtain ⟨h0, h1, h2, h3⟩ := flatT_at E i hi'
  have k0 := hc _ _ h0
  have k1 := hc _ _ h1
  have k2 := hc _ _ h2
  have k3 := hc _ _ h3
  rw [Go.WideShapes.add_plain, Nat.zero_add] at k0 k1 k2 k3
  exact ⟨k0, k1, k2, k3⟩
theorem TO.num {p : Bool} {w : World} {a : Option Addr} {n c : Nat} {E : List Et} {lo hi : Nat} (h : TO p w (.slice a n c) E lo hi) : n = E.length := by
  rcases h.cases with ⟨h1, rfl⟩ | ⟨g, cap, h1, -⟩ <;> simp only [Value.slice.injEq] at h1
  · exact h1.2.1
  · exact h1.2.1
theorem TO.free {p : Bool} {w : World} {g n c : Nat} {E : List Et} {lo hi : Nat} (h : TO p w (.slice (some ⟨g, 0, none⟩) n c) E lo hi) (i : Nat) : w.frozen? ⟨g, i, none⟩ = false := by
  have hn := h.num
  subst hn
  exact World.ownsRow.frozenAt h.row i
/-- An element is appended. -/
theorem TO.snoc {p : Bool} {w w1 : World} {v v' : Value} {E : List Et} {e : Et} {lo hi : Nat} (h : TO p w v E lo hi) (he : ROw w e.v e.u e.q.A e.q.D lo w.heap.size) (hn : p = true → ∀ k, e.v.ownBlock = some k → e.u.ownBlock ≠ some k)
    (ha : p = true → ∀ x ∈ E, AptT x e) (hrow : w1.ownsRow lo 132 4 v' (E.length + 1) (flatT E ++ [.int .i64 e.q.c, .bool e.q.s, e.v, e.u])) (hg : w.grownBy w1 v.ownBlock) : TO p w1 v' (E ++ [e]) lo w1.heap.size := by
  have key : ∀ x : Et, ROw w x.v x.u x.q.A x.q.D lo w.heap.size → ROw w1 x.v x.u x.q.A x.q.D lo w1.heap.size := fun x hx => by
    have hne : ∀ {y : Value} {L : List Int}, Obj w y L lo w.heap.size → Obj w1 y L lo w1.heap.size := fun {y L} ho =>
      ⟨Ints_block ho.ints fun k hk => hg.block k (Ints_lt ho.ints k hk).2 fun e => own_ne h.row ho.ints (by decide) k e.symm hk, fun k hk => Nat.lt_of_lt_of_le (ho.high k hk) hg.size⟩
    exact ⟨hne hx.a, hne hx.d⟩
  refine ⟨by rw [List.length_append, flatT_append, flatT_one]; exact hrow, fun k hk => (hrow.lt k hk).2, fun x hx => ?_, fun hp x hx => ?_, fun hp => ?_⟩
  · rcases List.mem_append.1 hx with hx | hx
    · refine key x ⟨⟨(h.el x hx).a.ints, fun k hk => (Ints_lt (h.el x hx).a.ints k hk).2⟩, ⟨(h.el x hx).d.ints, fun k hk => (Ints_lt (h.el x hx).d.ints k hk).2⟩⟩
    · rw [List.mem_singleton.1 hx]; exact key e he
  · rcases List.mem_append.1 hx with hx | hx
    · exact h.nd hp x hx
    · rw [List.mem_singleton.1 hx]; exact hn hp
  · refine List.pairwise_append.2 ⟨h.ap hp, List.pairwise_singleton _ _, fun x hx y hy => ?_⟩
    rw [List.mem_singleton.1 hy]
    exact ha hp x hx
theorem TO.apt {p : Bool} {w w' : World} {v : Value} {E : List Et} {lo hi a b : Nat} (h : TO p w v E lo hi) {e : Et} (he : ROw w' e.v e.u e.q.A e.q.D a b) (hd : hi ≤ a) : ∀ x ∈ E, AptT x e := fun x hx k h1 h2 => by
  have r := h.el x hx
  have k1 : k < hi := h1.elim (r.a.high k) (r.d.high k)
  have k2 : a ≤ k := h2.elim (fun e => (Ints_lt he.a.ints k e).1) (fun e => (Ints_lt he.d.ints k e).1)
  omega
/-- A struct of a slice is written anew. -/
theorem TO.put {p : Bool} {w : World} {g n c : Nat} {E : List Et} {e : Et} {lo hi i : Nat} (h : TO p w (.slice (some ⟨g, 0, none⟩) n c) E lo hi) (hi' : i < E.length) (he : ROw w e.v e.u e.q.A e.q.D lo hi) (hn : p = true → ∀ k, e.v.ownBlock = some k → e.u.ownBlock ≠ some k)
    (ha : p = true → ∀ j (hj : j < E.length), j ≠ i → AptT E[j] e) :
    TO p ((((w.setCell ⟨g, i * 4, none⟩ (.int .i64 e.q.c)).setCell ⟨g, i * 4 + 1, none⟩ (.bool e.q.s)).setCell ⟨g, i * 4 + 2, none⟩ e.v).setCell ⟨g, i * 4 + 3, none⟩ e.u) (.slice (some ⟨g, 0, none⟩) n c) (E.set i e) lo hi := by
  have hnum := h.num
  subst hnum
  have r0 := (World.ownsRow.stored h.row (i * 4) (.int .i64 e.q.c)).1
  have r1 := (World.ownsRow.stored r0 (i * 4 + 1) (.bool e.q.s)).1
  have r2 := (World.ownsRow.stored r1 (i * 4 + 2) e.v).1
  have r3 := (World.ownsRow.stored r2 (i * 4 + 3) e.u).1
  rw [← flatT_set E i hi' e] at r3
  have blk : ∀ k, k ≠ g → ((((w.setCell ⟨g, i * 4, none⟩ (.int .i64 e.q.c)).setCell ⟨g, i * 4 + 1, none⟩ (.bool e.q.s)).setCell ⟨g, i * 4 + 2, none⟩ e.v).setCell ⟨g, i * 4 + 3, none⟩ e.u).heap[k]? = w.heap[k]? := fun k hk => by
    rw [Below.heap_setCell _ _ _ _ hk, Below.heap_setCell _ _ _ _ hk, Below.heap_setCell _ _ _ _ hk, Below.heap_setCell _ _ _ _ hk]
  have hne : ∀ {y : Value} {L : List Int}, Obj w y L lo hi → Obj ((((w.setCell ⟨g, i * 4, none⟩ (.int .i64 e.q.c)).setCell ⟨g, i * 4 + 1, none⟩ (.bool e.q.s)).setCell ⟨g, i * 4 + 2, none⟩ e.v).setCell ⟨g, i * 4 + 3, none⟩ e.u) y L lo hi := fun {y L} ho =>
    ⟨Ints_block ho.ints fun k hk => blk k fun hkg => own_ne h.row ho.ints (by decide) k (by rw [hkg]; rfl) hk, ho.high⟩
  refine ⟨by rw [List.length_set]; exact r3, h.high, fun x hx => ?_, fun hp x hx => ?_, fun hp => ?_⟩
  · rcases List.mem_or_eq_of_mem_set hx with hx | rfl
    · exact ⟨hne (h.el x hx).a, hne (h.el x hx).d⟩
    · exact ⟨hne he.a, hne he.d⟩
  · rcases List.mem_or_eq_of_mem_set hx with hx | rfl
    · exact h.nd hp x hx
    · exact hn hp
  · rw [List.pairwise_iff_getElem]
    intro a b ha' hb' hab
    have hw := List.pairwise_iff_getElem.1 (h.ap hp)
    simp only [List.length_set] at ha' hb'
    simp only [List.getElem_set]
    by_cases ea : i = a
    · subst ea
      rw [if_pos rfl, if_neg (by omega)]
      exact (ha hp b hb' (by omega)).symm
    · rw [if_neg ea]
      by_cases eb : i = b
      · subst eb
        rw [if_pos rfl]
        exact ha hp a ha' (by omega)
      · rw [if_neg eb]
        exact hw a b ha' hb' hab
/-- The column and the sign of a struct of a slice are written anew. -/
theorem TO.puts {p : Bool} {w : World} {g n c : Nat} {E : List Et} {lo hi i : Nat} (h : TO p w (.slice (some ⟨g, 0, none⟩) n c) E lo hi) (hi' : i < E.length) (x : Int) (b : Bool) :
    TO p ((w.setCell ⟨g, i * 4, none⟩ (.int .i64 x)).setCell ⟨g, i * 4 + 1, none⟩ (.bool b)) (.slice (some ⟨g, 0, none⟩) n c) (E.set i ⟨⟨x, b, E[i].q.A, E[i].q.D⟩, E[i].v, E[i].u⟩) lo hi := by
  have hnum := h.num
  subst hnum
  have r0 := (World.ownsRow.stored h.row (i * 4) (.int .i64 x)).1
  have r1 := (World.ownsRow.stored r0 (i * 4 + 1) (.bool b)).1
  rw [← flatT_sets E i hi' x b] at r1
  have hne : ∀ {y : Value} {L : List Int}, Obj w y L lo hi → Obj ((w.setCell ⟨g, i * 4, none⟩ (.int .i64 x)).setCell ⟨g, i * 4 + 1, none⟩ (.bool b)) y L lo hi := fun {y L} ho =>
    ⟨Ints_block ho.ints fun k hk => (Below.heap_setCell _ _ _ _ fun hkg => own_ne h.row ho.ints (by decide) k (by rw [hkg]; rfl) hk).trans (Below.heap_setCell _ _ _ _ fun hkg => own_ne h.row ho.ints (by decide) k (by rw [hkg]; rfl) hk), ho.high⟩
  refine ⟨by rw [List.length_set]; exact r1, h.high, fun x' hx => ?_, fun hp x' hx => ?_, fun hp => ?_⟩
  · rcases List.mem_or_eq_of_mem_set hx with hx | rfl
    · exact ⟨hne (h.el x' hx).a, hne (h.el x' hx).d⟩
    · exact ⟨hne (h.at hi').a, hne (h.at hi').d⟩
  · rcases List.mem_or_eq_of_mem_set hx with hx | rfl
    · exact h.nd hp x' hx
    · exact h.nd hp E[i] (List.getElem_mem hi')
  · rw [List.pairwise_iff_getElem]
    intro a b' ha' hb' hab
    have hw := List.pairwise_iff_getElem.1 (h.ap hp)
    simp only [List.length_set] at ha' hb'
    simp only [List.getElem_set]
    have h1 := hw a b' ha' hb' hab
    by_cases ea : i = a
    · subst ea
      rw [if_pos rfl, if_neg (by omega)]
      exact h1
    · rw [if_neg ea]
      by_cases eb : i = b'
      · subst eb
        rw [if_pos rfl]
        exact h1
      · rw [if_neg eb]
        exact h1
end Go.Proofs.Yteanocjkdehhgaa

/- Slices of terms' structs: what is marked in them. -/
namespace Go.Proofs.Yteanocjkdehhgaa
open Go.RowKit
open Go.Lib (hid)
set_option linter.unusedVariables false

/-- How many places a struct has. -/
def Tq.n (f : Tq) : Nat := 2 + f.A.length + f.D.length
def szT : List Tq → Nat
  | [] => 0
  | f :: K => f.n + szT K
theorem szT_append : ∀ K L : List Tq, szT (K ++ L) = szT K + szT L
  | [], L => by simp [szT]
  | f :: K, L => by simp only [List.cons_append, szT, szT_append K L]; omega
theorem szT_take {K : List Tq} {k : Nat} (h : k < K.length) : szT (K.take (k + 1)) = szT (K.take k) + K[k].n := by
  rw [List.take_succ_eq_append_getElem h, szT_append]; simp [szT]
theorem szT_le (K : List Tq) (k : Nat) : szT (K.take k) ≤ szT K := by
  have := szT_append (K.take k) (K.drop k)
  rw [List.take_append_drop] at this
  omega
theorem szT_at {K : List Tq} {k : Nat} (h : k < K.length) : szT (K.take k) + K[k].n ≤ szT K := by
  have := szT_take h
  have := szT_le K (k + 1)
  omega
theorem szT_len0 : ∀ K : List Tq, K.length ≤ szT K
  | [] => Nat.le_refl _
  | f :: K => by have := szT_len0 K; simp only [List.length_cons, szT, Tq.n]; omega
theorem szT_more {K : List Tq} {k : Nat} (h : k < K.length) : szT (K.take k) + K[k].n + (K.length - (k + 1)) ≤ szT K := by
  have h1 := szT_append (K.take (k + 1)) (K.drop (k + 1))
  rw [List.take_append_drop, szT_take h] at h1
  have h2 := szT_len0 (K.drop (k + 1))
  rw [List.length_drop] at h2
  omega
theorem szT_len : ∀ K : List Tq, K.length ≤ szT K
  | [] => Nat.le_refl _
  | f :: K => by have := szT_len K; simp only [List.length_cons, szT, Tq.n]; omega
/-- What the law counts of a struct. -/
def Tq.m (f : Tq) : Nat := 1 + f.A.length + f.D.length
def szU : List Tq → Nat
  | [] => 0
  | f :: K => f.m + szU K
theorem szU_append : ∀ K L : List Tq, szU (K ++ L) = szU K + szU L
  | [], L => by simp [szU]
  | f :: K, L => by simp only [List.cons_append, szU, szU_append K L]; omega
theorem szU_take {K : List Tq} {k : Nat} (h : k < K.length) : szU (K.take (k + 1)) = szU (K.take k) + K[k].m := by
  rw [List.take_succ_eq_append_getElem h, szU_append]; simp [szU]
theorem szU_le (K : List Tq) (k : Nat) : szU (K.take k) ≤ szU K := by
  have := szU_append (K.take k) (K.drop k)
  rw [List.take_append_drop] at this
  omega
theorem szU_at {K : List Tq} {k : Nat} (h : k < K.length) : szU (K.take k) + K[k].m ≤ szU K := by
  have := szU_take h
  have := szU_le K (k + 1)
  omega
theorem szU_len : ∀ K : List Tq, K.length ≤ szU K
  | [] => Nat.le_refl _
  | f :: K => by have := szU_len K; simp only [List.length_cons, szU, Tq.m]; omega
theorem szU_more {K : List Tq} {k : Nat} (h : k < K.length) : szU (K.take k) + K[k].m + (K.length - (k + 1)) ≤ szU K := by
  have h1 := szU_append (K.take (k + 1)) (K.drop (k + 1))
  rw [List.take_append_drop, szU_take h] at h1
  have h2 := szU_len (K.drop (k + 1))
  rw [List.length_drop] at h2
  omega
theorem szT_szU : ∀ K : List Tq, szT K ≤ 2 * szU K
  | [] => Nat.le_refl _
  | f :: K => by have := szT_szU K; simp only [szT, szU, Tq.n, Tq.m]; omega
/-- The struct with its places marked from m on. -/
def Tq.mk' (f : Tq) (m : Int) : Tq := ⟨m, (m + 1) % 3 == 0, marks f.A.length (m + 2), marks f.D.length (m + 2 + (f.A.length : Int))⟩
def mkET : List Et → Int → List Et
  | [], _ => []
  | e :: E, m => ⟨e.q.mk' m, e.v, e.u⟩ :: mkET E (m + (e.q.n : Int))
def keysT (E : List Et) : List Tq := E.map Et.q
theorem keysT_len (E : List Et) : (keysT E).length = E.length := by simp [keysT]
theorem keysT_take (E : List Et) (k : Nat) : keysT (E.take k) = (keysT E).take k := by simp [keysT]
theorem keysT_at {E : List Et} {k : Nat} (h : k < E.length) : (keysT E)[k]'(by rw [keysT_len]; exact h) = E[k].q := by simp [keysT]
theorem keysT_append (E F : List Et) : keysT (E ++ F) = keysT E ++ keysT F := by simp [keysT]
theorem mkET_len : ∀ (E : List Et) (m : Int), (mkET E m).length = E.length
  | [], _ => rfl
  | e :: E, m => by simp [mkET, mkET_len E]
theorem mkET_append : ∀ (E F : List Et) (m : Int), mkET (E ++ F) m = mkET E m ++ mkET F (m + (szT (keysT E) : Int))
  | [], F, m => by simp [mkET, keysT, szT]
  | e :: E, F, m => by
    simp only [List.cons_append, mkET, mkET_append E F, keysT, List.map_cons, szT]
    congr 3
    omega
theorem mkET_at : ∀ (E : List Et) (m : Int) (k : Nat) (h : k < E.length), (mkET E m)[k]'(by rw [mkET_len]; exact h) = ⟨E[k].q.mk' (m + (szT (keysT (E.take k)) : Int)), E[k].v, E[k].u⟩
  | e :: E, m, 0, _ => by simp [mkET, keysT, szT]
  | e :: E, m, k + 1, h => by
    have := mkET_at E (m + (e.q.n : Int)) k (by simpa using h)
    simp only [mkET, List.getElem_cons_succ, this, List.take_succ_cons, keysT, List.map_cons, szT]
    congr 2
    omega
/-- The first k structs are marked. -/
def mkdT (E : List Et) (m : Int) (k : Nat) : List Et := mkET (E.take k) m ++ E.drop k
theorem mkdT_zero (E : List Et) (m : Int) : mkdT E m 0 = E := by simp [mkdT, mkET]
theorem mkdT_all (E : List Et) (m : Int) : mkdT E m E.length = mkET E m := by simp [mkdT]
theorem mkdT_len {E : List Et} {m : Int} {k : Nat} (h : k ≤ E.length) : (mkdT E m k).length = E.length := by simp [mkdT, mkET_len]; omega
theorem mkdT_at {E : List Et} {m : Int} {k : Nat} (h : k < E.length) : (mkdT E m k)[k]'(by rw [mkdT_len (by omega)]; exact h) = E[k] := by
  have hl : (mkET (E.take k) m).length = k := by rw [mkET_len, List.length_take]; omega
  simp only [mkdT]
  rw [List.getElem_append_right (by omega)]
  simp [hl]
theorem mkdT_set {E : List Et} {m : Int} {k : Nat} (h : k < E.length) : (mkdT E m k).set k ⟨E[k].q.mk' (m + (szT (keysT (E.take k)) : Int)), E[k].v, E[k].u⟩ = mkdT E m (k + 1) := by
  have hl : (mkET (E.take k) m).length = k := by rw [mkET_len, List.length_take]; omega
  simp only [mkdT]
  rw [List.set_append_right k _ (by omega), hl, Nat.sub_self, List.drop_eq_getElem_cons h, List.set_cons_zero, List.take_succ_eq_append_getElem h, mkET_append]
  simp [mkET]
/-- What a struct's first slice holds is written anew. -/
theorem TO.inA {w w' : World} {v : Value} {E : List Et} {lo hi i : Nat} (h : TO true w v E lo hi) (hi' : i < E.length) {A' : List Int} (hb : Only (fun k => E[i].v.ownBlock = some k) w w') (ha : Ints w' lo E[i].v A') :
    TO true w' v (E.set i ⟨⟨E[i].q.c, E[i].q.s, A', E[i].q.D⟩, E[i].v, E[i].u⟩) lo hi := by
  have r0 := h.at hi'
  have hrow : w'.ownsRow lo 132 4 v E.length (flatT (E.set i ⟨⟨E[i].q.c, E[i].q.s, A', E[i].q.D⟩, E[i].v, E[i].u⟩)) := by
    refine own_block (w := w) ?_ fun k hk => hb.block k fun hs => own_ne h.row r0.a.ints (by decide) k hk hs
    have e1 := flatT_set E i hi' ⟨⟨E[i].q.c, E[i].q.s, A', E[i].q.D⟩, E[i].v, E[i].u⟩
    have e2 := flatT_set E i hi' E[i]
    rw [List.set_getElem_self] at e2
    rw [e1]
    rw [← e2]
    exact h.row
  have keep : ∀ {y : Value} {L : List Int}, Obj w y L lo hi → (∀ k, y.ownBlock = some k → E[i].v.ownBlock ≠ some k) → Obj w' y L lo hi := fun ho hne => ⟨Ints_only ho.ints hb fun k hk => hne k hk, ho.high⟩
  refine ⟨by rw [List.length_set]; exact hrow, h.high, fun x hx => ?_, fun hp x hx => ?_, fun hp => ?_⟩
  · rcases List.mem_iff_getElem.1 hx with ⟨j, hj, rfl⟩
    simp only [List.length_set] at hj
    simp only [List.getElem_set]
    by_cases e : i = j
    · subst e
      rw [if_pos rfl]
      exact ⟨⟨ha, r0.a.high⟩, keep r0.d fun k hk hv => h.nd rfl _ (List.getElem_mem hi') k hv hk⟩
    · rw [if_neg e]
      have hap : AptT E[i] E[j] := by
        have hw := List.pairwise_iff_getElem.1 (h.ap rfl)
        rcases Nat.lt_or_gt_of_ne e with hl | hl
        · exact hw i j hi' hj hl
        · exact (hw j i hj hi' hl).symm
      exact ⟨keep (h.at hj).a fun k hk hv => hap k (.inl hv) (.inl hk), keep (h.at hj).d fun k hk hv => hap k (.inl hv) (.inr hk)⟩
  · rcases List.mem_or_eq_of_mem_set hx with hx | rfl
    · exact h.nd hp x hx
    · exact h.nd hp E[i] (List.getElem_mem hi')
  · rw [List.pairwise_iff_getElem]
    intro a b' ha' hb' hab
    have hw := List.pairwise_iff_getElem.1 (h.ap hp)
    simp only [List.length_set] at ha' hb'
    simp only [List.getElem_set]
    have h1 := hw a b' ha' hb' hab
    by_cases ea : i = a
    · subst ea; rw [if_pos rfl, if_neg (by omega)]; exact h1
    · rw [if_neg ea]
      by_cases eb : i = b'
      · subst eb; rw [if_pos rfl]; exact h1
      · rw [if_neg eb]; exact h1
/-- What a struct's second slice holds is written anew. -/
theorem TO.inD {w w' : World} {v : Value} {E : List Et} {lo hi i : Nat} (h : TO true w v E lo hi) (hi' : i < E.length) {D' : List Int} (hb : Only (fun k => E[i].u.ownBlock = some k) w w') (ha : Ints w' lo E[i].u D') :
    TO true w' v (E.set i ⟨⟨E[i].q.c, E[i].q.s, E[i].q.A, D'⟩, E[i].v, E[i].u⟩) lo hi := by
  have r0 := h.at hi'
  have hrow : w'.ownsRow lo 132 4 v E.length (flatT (E.set i ⟨⟨E[i].q.c, E[i].q.s, E[i].q.A, D'⟩, E[i].v, E[i].u⟩)) := by
    refine own_block (w := w) ?_ fun k hk => hb.block k fun hs => own_ne h.row r0.d.ints (by decide) k hk hs
    have e1 := flatT_set E i hi' ⟨⟨E[i].q.c, E[i].q.s, E[i].q.A, D'⟩, E[i].v, E[i].u⟩
    have e2 := flatT_set E i hi' E[i]
    rw [List.set_getElem_self] at e2
    rw [e1]
    rw [← e2]
    exact h.row
  have keep : ∀ {y : Value} {L : List Int}, Obj w y L lo hi → (∀ k, y.ownBlock = some k → E[i].u.ownBlock ≠ some k) → Obj w' y L lo hi := fun ho hne => ⟨Ints_only ho.ints hb fun k hk => hne k hk, ho.high⟩
  refine ⟨by rw [List.length_set]; exact hrow, h.high, fun x hx => ?_, fun hp x hx => ?_, fun hp => ?_⟩
  · rcases List.mem_iff_getElem.1 hx with ⟨j, hj, rfl⟩
    simp only [List.length_set] at hj
    simp only [List.getElem_set]
    by_cases e : i = j
    · subst e
      rw [if_pos rfl]
      exact ⟨keep r0.a fun k hk hv => h.nd rfl _ (List.getElem_mem hi') k hk hv, ⟨ha, r0.d.high⟩⟩
    · rw [if_neg e]
      have hap : AptT E[i] E[j] := by
        have hw := List.pairwise_iff_getElem.1 (h.ap rfl)
        rcases Nat.lt_or_gt_of_ne e with hl | hl
        · exact hw i j hi' hj hl
        · exact (hw j i hj hi' hl).symm
      exact ⟨keep (h.at hj).a fun k hk hv => hap k (.inr hv) (.inl hk), keep (h.at hj).d fun k hk hv => hap k (.inr hv) (.inr hk)⟩
  · rcases List.mem_or_eq_of_mem_set hx with hx | rfl
    · exact h.nd hp x hx
    · exact h.nd hp E[i] (List.getElem_mem hi')
  · rw [List.pairwise_iff_getElem]
    intro a b' ha' hb' hab
    have hw := List.pairwise_iff_getElem.1 (h.ap hp)
    simp only [List.length_set] at ha' hb'
    simp only [List.getElem_set]
    have h1 := hw a b' ha' hb' hab
    by_cases ea : i = a
    · subst ea; rw [if_pos rfl, if_neg (by omega)]; exact h1
    · rw [if_neg ea]
      by_cases eb : i = b'
      · subst eb; rw [if_pos rfl]; exact h1
      · rw [if_neg eb]; exact h1
theorem TO.inA' {w w' : World} {v : Value} {F : List Et} {lo hi k : Nat} {c : Int} {s : Bool} {A D A' : List Int} {x y : Value} (hk : k < F.length) (h : TO true w v (F.set k ⟨⟨c, s, A, D⟩, x, y⟩) lo hi) (hb : Only (fun j => x.ownBlock = some j) w w') (ha : Ints w' lo x A') :
    TO true w' v (F.set k ⟨⟨c, s, A', D⟩, x, y⟩) lo hi := by
  have hk' : k < (F.set k ⟨⟨c, s, A, D⟩, x, y⟩).length := by rw [List.length_set]; exact hk
  have e := list_set_at hk (⟨⟨c, s, A, D⟩, x, y⟩ : Et)
  have := TO.inA (i := k) h hk' (A' := A') (by rw [e]; exact hb) (by rw [e]; exact ha)
  simp only [e, List.set_set] at this
  exact this
theorem TO.inD' {w w' : World} {v : Value} {F : List Et} {lo hi k : Nat} {c : Int} {s : Bool} {A D D' : List Int} {x y : Value} (hk : k < F.length) (h : TO true w v (F.set k ⟨⟨c, s, A, D⟩, x, y⟩) lo hi) (hb : Only (fun j => y.ownBlock = some j) w w') (ha : Ints w' lo y D') :
    TO true w' v (F.set k ⟨⟨c, s, A, D'⟩, x, y⟩) lo hi := by
  have hk' : k < (F.set k ⟨⟨c, s, A, D⟩, x, y⟩).length := by rw [List.length_set]; exact hk
  have e := list_set_at hk (⟨⟨c, s, A, D⟩, x, y⟩ : Et)
  have := TO.inD (i := k) h hk' (D' := D') (by rw [e]; exact hb) (by rw [e]; exact ha)
  simp only [e, List.set_set] at this
  exact this
theorem TO.set_at {p : Bool} {w : World} {v : Value} {F : List Et} {lo hi k : Nat} {e : Et} (hk : k < F.length) (h : TO p w v (F.set k e) lo hi) : ROw w e.v e.u e.q.A e.q.D lo hi :=
  h.el e (List.mem_iff_getElem.2 ⟨k, by rw [List.length_set]; exact hk, list_set_at hk e⟩)
theorem TO.set_cell {p : Bool} {w : World} {g n c : Nat} {F : List Et} {lo hi k : Nat} {e : Et} (hk : k < F.length) (h : TO p w (.slice (some ⟨g, 0, none⟩) n c) (F.set k e) lo hi) :
    w.cell? ⟨g, k * 4, none⟩ = some (.int .i64 e.q.c) ∧ w.cell? ⟨g, k * 4 + 1, none⟩ = some (.bool e.q.s) ∧ w.cell? ⟨g, k * 4 + 2, none⟩ = some e.v ∧ w.cell? ⟨g, k * 4 + 3, none⟩ = some e.u := by
  have := h.cell (i := k) (by rw [List.length_set]; exact hk)
  rw [list_set_at hk e] at this
  exact this
end Go.Proofs.Yteanocjkdehhgaa

/- Slices of terms' structs that came in; slices of structs by what they hold. -/
namespace Go.Proofs.Yteanocjkdehhgaa
open Go.RowKit
open Go.Lib (hid)
set_option linter.unusedVariables false

/-- A slice of structs that came in: it reads as K and lies below the height h. -/
structure CameT (w : World) (h : Nat) (g o : Nat) (f : Tq) : Prop where
  ex : ∃ a c b d, w.cell? ⟨g, o, none⟩ = some (.int .i64 f.c) ∧ w.cell? ⟨g, o + 1, none⟩ = some (.bool f.s) ∧ w.cell? ⟨g, o + 2, none⟩ = some (.slice a f.A.length c) ∧ w.cell? ⟨g, o + 3, none⟩ = some (.slice b f.D.length d) ∧ CameR w h a f.A.length f.A b f.D.length f.D
theorem CameT.old {w w' : World} {h g o : Nat} {f : Tq} (c : CameT w h g o f) (hb : Below w.heap.size w w') (hg : g < w.heap.size) : CameT w' h g o f := by
  obtain ⟨a, c, b, d, hc, h0, h1, h2, h3⟩ := c.ex
  exact ⟨a, c, b, d, (hb.cell (p := ⟨g, o, none⟩) hg).trans hc, (hb.cell (p := ⟨g, o + 1, none⟩) hg).trans h0, (hb.cell (p := ⟨g, o + 2, none⟩) hg).trans h1, (hb.cell (p := ⟨g, o + 3, none⟩) hg).trans h2, h3.old hb⟩
theorem CameT.onlyG {w w' : World} {h g o lo hi : Nat} {f : Tq} (c : CameT w h g o f) (hb : Only (InG lo hi w.heap.size) w w') (hlo : h ≤ lo) (hg : g < h) (hg' : g < w.heap.size) : CameT w' h g o f := by
  obtain ⟨a, c, b, d, hc, h0, h1, h2, h3⟩ := c.ex
  have hn : ¬ InG lo hi w.heap.size g := fun hs => by have := InG_cases hs; omega
  exact ⟨a, c, b, d, (hb.cell (p := ⟨g, o, none⟩) hn).trans hc, (hb.cell (p := ⟨g, o + 1, none⟩) hn).trans h0, (hb.cell (p := ⟨g, o + 2, none⟩) hn).trans h1, (hb.cell (p := ⟨g, o + 3, none⟩) hn).trans h2, h3.onlyG hb hlo⟩
def TCame (w : World) (h : Nat) (a : Option Addr) (n : Nat) (K : List Tq) : Prop :=
  n = K.length ∧ (0 < K.length → ∃ g o, a = some ⟨g, o, none⟩ ∧ g < h ∧ g < w.heap.size ∧ ∀ i (hi : i < K.length), CameT w h g (o + i * 4) K[i])
theorem TCame.old {w w' : World} {h n : Nat} {a : Option Addr} {K : List Tq} (c : TCame w h a n K) (hb : Below w.heap.size w w') : TCame w' h a n K :=
  ⟨c.1, fun h0 => by
    obtain ⟨g, o, e, hh, hg, hc⟩ := c.2 h0
    exact ⟨g, o, e, hh, Nat.lt_of_lt_of_le hg hb.size, fun i hi => (hc i hi).old hb hg⟩⟩
theorem TCame.onlyG {w w' : World} {h n lo hi : Nat} {a : Option Addr} {K : List Tq} (c : TCame w h a n K) (hb : Only (InG lo hi w.heap.size) w w') (hlo : h ≤ lo) : TCame w' h a n K :=
  ⟨c.1, fun h0 => by
    obtain ⟨g, o, e, hh, hg, hc⟩ := c.2 h0
    exact ⟨g, o, e, hh, Nat.lt_of_lt_of_le hg hb.size, fun i hi => (hc i hi).onlyG hb hlo hh hg⟩⟩
/-- A slice of structs of one's own that holds K. -/
def TK (p : Bool) (w : World) (v : Value) (K : List Tq) (lo hi : Nat) : Prop := ∃ E, TO p w v E lo hi ∧ keysT E = K
theorem TK.old {p : Bool} {w w' : World} {v : Value} {K : List Tq} {lo hi : Nat} (h : TK p w v K lo hi) (hb : Below w.heap.size w w') : TK p w' v K lo hi := by
  obtain ⟨E, h, e⟩ := h
  exact ⟨E, h.old hb, e⟩
theorem TK.onlyG {p : Bool} {w w' : World} {v : Value} {K : List Tq} {lo hi a b : Nat} (h : TK p w v K lo hi) (hb : Only (InG a b w.heap.size) w w') (hd : hi ≤ a ∨ b ≤ lo) : TK p w' v K lo hi := by
  obtain ⟨E, h, e⟩ := h
  exact ⟨E, h.onlyG hb hd, e⟩
theorem TK.weak {p : Bool} {w : World} {v : Value} {K : List Tq} {lo hi : Nat} (h : TK p w v K lo hi) : TK false w v K lo hi := by
  obtain ⟨E, h, e⟩ := h
  exact ⟨E, h.weak, e⟩
theorem TK.wide {p : Bool} {w : World} {v : Value} {K : List Tq} {lo hi lo' hi' : Nat} (h : TK p w v K lo hi) (h1 : lo' ≤ lo) (h2 : hi ≤ hi') : TK p w v K lo' hi' := by
  obtain ⟨E, h, e⟩ := h
  exact ⟨E, h.wide h1 h2, e⟩
theorem TK.form {p : Bool} {w : World} {v : Value} {K : List Tq} {lo hi : Nat} (h : TK p w v K lo hi) : ∃ a c, v = .slice a K.length c := by
  obtain ⟨E, h, rfl⟩ := h
  obtain ⟨a, c, rfl, -⟩ := h.form
  exact ⟨a, c, by rw [keysT_len]⟩
theorem TK.eqk {p : Bool} {w : World} {v : Value} {K K' : List Tq} {lo hi : Nat} (h : TK p w v K lo hi) (e : K = K') : TK p w v K' lo hi := by subst e; exact h
/-- What a call gives: a slice of structs of its own that holds K. -/
def TerR (p : Bool) (K : List Tq) (w : World) (e : Ending) (w' : World) : Prop := ∃ a n c, e = .returned (.slice a n c) ∧ TK p w' (.slice a n c) K w.heap.size w'.heap.size ∧ Below w.heap.size w w'
theorem TerR_of {p : Bool} {K : List Tq} {w w' : World} {e : Ending} {v : Value} (he : e = .returned v) (h : TK p w' v K w.heap.size w'.heap.size) (hb : Below w.heap.size w w') : TerR p K w e w' := by
  obtain ⟨a, c, rfl⟩ := h.form
  exact ⟨a, _, c, he, h, hb⟩
def mkT : List Tq → Int → List Tq
  | [], _ => []
  | f :: K, m => f.mk' m :: mkT K (m + (f.n : Int))
theorem keysT_mkE : ∀ (E : List Et) (m : Int), keysT (mkET E m) = mkT (keysT E) m
  | [], _ => rfl
  | e :: E, m => by simp only [mkET, keysT, List.map_cons, mkT]; exact congrArg _ (keysT_mkE E _)
theorem mkT_len : ∀ (K : List Tq) (m : Int), (mkT K m).length = K.length
  | [], _ => rfl
  | f :: K, m => by simp [mkT, mkT_len K]
theorem mkT_at : ∀ (K : List Tq) (m : Int) (k : Nat) (h : k < K.length), (mkT K m)[k]'(by rw [mkT_len]; exact h) = K[k].mk' (m + (szT (K.take k) : Int))
  | f :: K, m, 0, _ => by simp [mkT, szT]
  | f :: K, m, k + 1, h => by
    have := mkT_at K (m + (f.n : Int)) k (by simpa using h)
    simp only [mkT, List.getElem_cons_succ, this, List.take_succ_cons, szT]
    congr 1
    omega
end Go.Proofs.Yteanocjkdehhgaa

/- The laws' helpers on slices of terms' structs: how many places they have. -/
namespace Go.Proofs.Yteanocjkdehhgaa
open Go.RowKit
open Go.Lib (hid)
set_option linter.unusedVariables false

def Et0 : Et := ⟨⟨0, false, [], []⟩, .slice none 0 0, .slice none 0 0⟩
theorem flatT_zeros : ∀ n : Nat, flatT (List.replicate n Et0) = (madeCells #[.int .i64 0, .bool false, .slice none 0 0, .slice none 0 0] (n * 4)).toList := by
  intro n
  apply List.ext_getElem?
  intro j
  by_cases hj : j < n * 4
  · have hl : (flatT (List.replicate n Et0)).length = n * 4 := by rw [flatT_len, List.length_replicate]
    obtain ⟨q, hq⟩ : ∃ q, q = j / 4 := ⟨_, rfl⟩
    have hqn : q < (List.replicate n Et0).length := by rw [List.length_replicate]; omega
    obtain ⟨hc, h0, h1, h2⟩ := flatT_at (List.replicate n Et0) q hqn
    simp only [List.getElem_replicate] at hc h0 h1 h2
    have hr : (madeCells #[.int .i64 0, .bool false, .slice none 0 0, .slice none 0 0] (n * 4)).toList[j]? = some ((#[.int .i64 0, .bool false, .slice none 0 0, .slice none 0 0] : Array Value)[j % 4]!) := by
      simp [madeCells, hj]
    rw [hr]
    have : j = q * 4 ∨ j = q * 4 + 1 ∨ j = q * 4 + 2 ∨ j = q * 4 + 3 := by omega
    rcases this with e | e | e | e
    · rw [e, hc, show q * 4 % 4 = 0 by omega]; rfl
    · rw [e, h0, show (q * 4 + 1) % 4 = 1 by omega]; rfl
    · rw [e, h1, show (q * 4 + 2) % 4 = 2 by omega]; rfl
    · rw [e, h2, show (q * 4 + 3) % 4 = 3 by omega]; rfl
  · rw [List.getElem?_eq_none (by rw [flatT_len, List.length_replicate]; omega), List.getElem?_eq_none (by simp [size_madeCells]; omega)]
theorem TO_made {w : World} (n : Nat) (hn : n ≤ maxLen) : TO true (w.alloc (.cells (madeCells #[.int .i64 0, .bool false, .slice none 0 0, .slice none 0 0] (n * 4)) 132)) (.slice (some ⟨w.heap.size, 0, none⟩) n n) (List.replicate n Et0) w.heap.size (w.heap.size + 1) := by
  have hrep : ∀ e ∈ List.replicate n Et0, e = Et0 := fun e he => (List.mem_replicate.1 he).2
  refine ⟨⟨by rw [flatT_len], .inr ⟨w.heap.size, n, _, by rw [List.length_replicate], Nat.le_refl _, heap_alloc_new w _, by rw [List.length_replicate]; exact Nat.le_refl _, hn, by rw [size_madeCells], ?_⟩⟩, fun k hk => ?_, fun e he => ?_, fun _ e he k hk => ?_, fun _ => ?_⟩
  · rw [List.length_replicate, flatT_zeros]
    exact List.take_of_length_le (by simp [size_madeCells])
  · simp [Value.ownBlock] at hk; omega
  · rw [hrep e he]
    exact ⟨⟨Ints_nil _ _, fun k hk => by simp [Et0, Value.ownBlock] at hk⟩, ⟨Ints_nil _ _, fun k hk => by simp [Et0, Value.ownBlock] at hk⟩⟩
  · rw [hrep e he] at hk; simp [Et0, Value.ownBlock] at hk
  · rw [List.pairwise_iff_getElem]
    intro i j hi hj hij k hk
    simp [Et0, Value.ownBlock] at hk


theorem szTerm_yes (x : Int) (s : Bool) (a : Option Addr) (n c : Nat) (b : Option Addr) (m d : Nat) (z : Int) (h0 : (n : Int) + (m : Int) ≤ z) (h1 : z ≤ 1048576) (w : World) :
    Calls Try.prog 98 #[.agg #[.int .i64 x, .bool s, .slice a n c, .slice b m d], .int .i64 z] w (RetB (.int .i64 (z - n - m)) w) := by
  have K := hid (szRat_yes s a n c b m d z h0 h1)
  have h3 : ¬ z - (n : Int) - (m : Int) < 0 := by omega
  have B := hid (below_new' (w := w) (o := .cells #[.int .i64 x, .bool s, .slice a n c, .slice b m d] 127))
  go_enter Try.func98, Try.ntmps98
  go_wp2_with fail
  generalize w.alloc (.cells #[.int .i64 x, .bool s, .slice a n c, .slice b m d] 127) = W at B ⊢
  (with_reducible refine (K.out _).mono ?_)
  rintro e w1 ⟨rfl, b1⟩
  have B := hid (B.out.trans (b1.mono B.out.size))
  clear b1
  go_wp2
  go_ret
  exact ⟨rfl, B.out⟩
theorem szTerm_no (x : Int) (s : Bool) (a : Option Addr) (n c : Nat) (b : Option Addr) (m d : Nat) (z : Int) (hn : n ≤ maxLen) (hm : m ≤ maxLen) (h0 : z < (n : Int) + (m : Int)) (hz : 0 ≤ z) (h1 : z ≤ 1048576) (w : World) :
    Calls Try.prog 98 #[.agg #[.int .i64 x, .bool s, .slice a n c, .slice b m d], .int .i64 z] w (RetB (.int .i64 (-1)) w) := by
  have K := hid (szRat_no s a n c b m d z hn hm h0 hz h1)
  have B := hid (below_new' (w := w) (o := .cells #[.int .i64 x, .bool s, .slice a n c, .slice b m d] 127))
  go_enter Try.func98, Try.ntmps98
  go_wp2_with fail
  generalize w.alloc (.cells #[.int .i64 x, .bool s, .slice a n c, .slice b m d] 127) = W at B ⊢
  (with_reducible refine (K.out _).mono ?_)
  rintro e w1 ⟨rfl, b1⟩
  have B := hid (B.out.trans (b1.mono B.out.size))
  clear b1
  go_wp2
  go_ret
  exact ⟨rfl, B.out⟩
set_option maxRecDepth 100000 in
set_option maxHeartbeats 1600000 in
theorem szTermS_yes (a : Option Addr) (n c h : Nat) (K : List Tq) (z : Int) (h0 : (szU K : Int) ≤ z) (h1 : z ≤ 1048576) (w : World) (hc : TCame w h a n K) :
    Calls Try.prog 46 #[.slice a n c, .int .i64 z] w (RetB (.int .i64 (z - (szU K : Int))) w) := by
  have HC := hid hc
  obtain rfl := hc.1
  clear hc
  have hl := szU_len K
  go_enter Try.func46, Try.ntmps46
  go_wp2
  go_loopw [1, 5] (fun x i wr => ∃ (k : Nat) (y : Int), k ≤ K.length ∧ i = .int .i64 k ∧ x = .int .i64 y ∧ Hid (y = z - (K.length : Int) - ((szU (K.take k) : Int) - (k : Int))) ∧ Below w.heap.size w wr) (fun _ i _ => K.length - (intOf i).toNat)
  case atStart => exact ⟨0, z - (K.length : Int), Nat.zero_le _, rfl, rfl, hid (by simp [szU]), Below.refl _ _⟩
  case round =>
    obtain ⟨k, y, hk, rfl, rfl, hy, hbel⟩ := hrel
    by_cases hlt : k < K.length
    · obtain ⟨g, o, rfl, -, hg, hce⟩ := HC.out.2 (by omega)
      have hE := (hce k hlt).old hbel hg
      have hs := szU_take hlt
      have hle := szU_more hlt
      clear hce
      generalize K[k] = f at hE hs hle
      obtain ⟨x, s, A, D⟩ := f
      obtain ⟨a1, c1, b1, d1, qc, q0, q1, q2, -⟩ := hE.ex
      simp only [Tq.m] at hs hle qc q0 q1 q2
      have HS := hid hs
      have hy1 : y ≤ 1048576 := by have := hy.out; have := szU_le K k; omega
      have hy2 : (A.length : Int) + (D.length : Int) ≤ y := by have := hy.out; omega
      have KS := hid (fun W => szTerm_yes x s a1 A.length c1 b1 D.length d1 y hy2 hy1 W)
      have HB := hid hbel
      have hy3 : ¬ y - (A.length : Int) - (D.length : Int) < 0 := by omega
      have a1' : (0 : Int) ≤ k := by omega
      have a2 : (k : Int) < K.length := by omega
      clear hs hE hbel
      go_wp2_with fail
      (with_reducible refine (KS.out _).mono ?_)
      rintro e w1 ⟨rfl, b1⟩
      have HB := hid (HB.out.trans (b1.mono HB.out.size))
      clear b1 qc q0 q1 q2
      go_wp2
      go_roundw
      case rel => exact ⟨k + 1, y - (A.length : Int) - (D.length : Int), by omega, by go_num, rfl, hid (by have := hy.out; have := HS.out; omega), HB.out⟩
      case measure => simp [intOf]; omega
    · obtain rfl : k = K.length := by omega
      have HY := hid hbel
      clear hbel
      go_wp2
      go_ret
      exact ⟨ret_in (by have := hy.out; rw [List.take_length] at this; omega), HY.out⟩
set_option maxRecDepth 100000 in
set_option maxHeartbeats 1600000 in
theorem szTermS_no (a : Option Addr) (n c h : Nat) (K : List Tq) (z : Int) (hn : n ≤ maxLen) (hK : ∀ f ∈ K, f.A.length ≤ maxLen ∧ f.D.length ≤ maxLen) (h0 : z < (szU K : Int)) (hz : 0 ≤ z) (h1 : z ≤ 1048576) (w : World) (hc : TCame w h a n K) :
    Calls Try.prog 46 #[.slice a n c, .int .i64 z] w (RetB (.int .i64 (-1)) w) := by
  have HC := hid hc
  have HK := hid hK
  obtain rfl := hc.1
  clear hc hK
  unfold maxLen at hn
  by_cases hzl : z < (K.length : Int)
  · go_enter Try.func46, Try.ntmps46
    go_wp2
    go_ret
    exact ⟨rfl, Below.refl _ _⟩
  go_enter Try.func46, Try.ntmps46
  go_wp2
  go_loopw [1, 5] (fun x i wr => ∃ (k : Nat) (y : Int), k ≤ K.length ∧ i = .int .i64 k ∧ x = .int .i64 y ∧ Hid (y = z - (K.length : Int) - ((szU (K.take k) : Int) - (k : Int)) ∧ 0 ≤ y) ∧ Below w.heap.size w wr) (fun _ i _ => K.length - (intOf i).toNat)
  case atStart => exact ⟨0, z - (K.length : Int), Nat.zero_le _, rfl, rfl, hid ⟨by simp [szU], by omega⟩, Below.refl _ _⟩
  case round =>
    obtain ⟨k, y, hk, rfl, rfl, hy, hbel⟩ := hrel
    by_cases hlt : k < K.length
    · obtain ⟨g, o, rfl, -, hg, hce⟩ := HC.out.2 (by omega)
      have hE := (hce k hlt).old hbel hg
      have hs := szU_take hlt
      have hm := HK.out _ (List.getElem_mem hlt)
      clear hce
      generalize K[k] = f at hE hs hm
      obtain ⟨x, s, A, D⟩ := f
      obtain ⟨a1, c1, b1, d1, qc, q0, q1, q2, -⟩ := hE.ex
      simp only [Tq.m] at hs hm qc q0 q1 q2
      have HS := hid hs
      have hy0 : 0 ≤ y := hy.out.2
      have hkz : (k : Int) ≤ szU (K.take k) := by have := szU_len (K.take k); rw [List.length_take] at this; omega
      have hy1 : y ≤ 1048576 := by have := hy.out.1; omega
      have HB := hid hbel
      have a1' : (0 : Int) ≤ k := by omega
      have a2 : (k : Int) < K.length := by omega
      clear hs hE hbel
      by_cases hfit : (A.length : Int) + (D.length : Int) ≤ y
      · have KS := hid (fun W => szTerm_yes x s a1 A.length c1 b1 D.length d1 y hfit hy1 W)
        have hy3 : ¬ y - (A.length : Int) - (D.length : Int) < 0 := by omega
        clear hm
        go_wp2_with fail
        (with_reducible refine (KS.out _).mono ?_)
        rintro e w1 ⟨rfl, b1⟩
        have HB := hid (HB.out.trans (b1.mono HB.out.size))
        clear b1 qc q0 q1 q2
        go_wp2
        go_roundw
        case rel => exact ⟨k + 1, y - (A.length : Int) - (D.length : Int), by omega, by go_num, rfl, hid ⟨by have := hy.out.1; have := HS.out; omega, by omega⟩, HB.out⟩
        case measure => simp [intOf]; omega
      · have KS := hid (fun W => szTerm_no x s a1 A.length c1 b1 D.length d1 y hm.1 hm.2 (by omega) hy0 hy1 W)
        clear hm
        go_wp2_with fail
        (with_reducible refine (KS.out _).mono ?_)
        rintro e w1 ⟨rfl, b1⟩
        have HB := hid (HB.out.trans (b1.mono HB.out.size))
        clear b1 qc q0 q1 q2
        go_wp2
        go_ret
        exact ⟨rfl, HB.out⟩
    · exfalso
      obtain rfl : k = K.length := by omega
      have := hy.out
      rw [List.take_length] at this
      omega
end Go.Proofs.Yteanocjkdehhgaa

/- The laws' helpers on slices of terms' structs: a copy; two that hold the same are equal. -/
namespace Go.Proofs.Yteanocjkdehhgaa
open Go.RowKit
open Go.Lib (hid)
set_option linter.unusedVariables false

theorem infoTerm : (Try.prog.info? 132).map (fun i => (i.zero, i.size, i.bytes)) = some (some (.agg #[.int .i64 0, .bool false, .slice none 0 0, .slice none 0 0]), 4, 64) := by kernel_rfl
theorem ROb.setc {w : World} {v u : Value} {A D : List Int} {lo hi N i : Nat} {x : Value} (h : ROb w v u A D lo hi) (hv : v.ownBlock ≠ some N) (hu : u.ownBlock ≠ some N) : ROb (w.setCell ⟨N, i, none⟩ x) v u A D lo hi :=
  ⟨⟨Ints_set h.a.ints hv, h.a.high⟩, ⟨Ints_set h.d.ints hu, h.d.high⟩, h.ne⟩
/-- A term's struct of the call's own, in the laws' words. -/
def OwnTT (x : Int) (s : Bool) (A D : List Int) (w : World) (e : Ending) (w' : World) : Prop := ∃ v u, e = .returned (.agg #[.int .i64 x, .bool s, v, u]) ∧ ROb w' v u A D w.heap.size w'.heap.size ∧ Below w.heap.size w w'
set_option maxRecDepth 100000 in
set_option maxHeartbeats 3200000 in
theorem toTerm_came (x : Int) (s : Bool) (a : Option Addr) (n c : Nat) (b : Option Addr) (m d h : Nat) (A D : List Int) (hA : A.length ≤ 1073741824) (hD : D.length ≤ 1073741824) (w : World) (h1 : CameR w h a n A b m D) :
    Calls Try.prog 100 #[.agg #[.int .i64 x, .bool s, .slice a n c, .slice b m d]] w (OwnTT x s A D w) := by
  have H := hid h1
  have K1 := hid (fun (W : World) (g : CameR W h a n A b m D) => toRat_came s a n c b m d h A D hA hD W g)
  clear h1
  have B := hid (show Below w.heap.size w (((w.alloc (.cells #[.int .i64 x, .bool s, .slice a n c, .slice b m d] 127)).alloc (.cells #[.int .i64 0, .bool false, .slice none 0 0, .slice none 0 0] 132)).alloc (.cells #[.int .i64 x, .bool false, .slice none 0 0, .slice none 0 0] 132)) from (((Below.refl _ _).alloc (Nat.le_refl _) _).alloc (by simp) _).alloc (by simp; omega) _)
  have LP := hid (show LocA 127 (((w.alloc (.cells #[.int .i64 x, .bool s, .slice a n c, .slice b m d] 127)).alloc (.cells #[.int .i64 0, .bool false, .slice none 0 0, .slice none 0 0] 132)).alloc (.cells #[.int .i64 x, .bool false, .slice none 0 0, .slice none 0 0] 132)) w.heap.size #[.int .i64 x, .bool s, .slice a n c, .slice b m d] from (LocA.at rfl).new1.new1)
  have LR := hid (show LocA 132 (((w.alloc (.cells #[.int .i64 x, .bool s, .slice a n c, .slice b m d] 127)).alloc (.cells #[.int .i64 0, .bool false, .slice none 0 0, .slice none 0 0] 132)).alloc (.cells #[.int .i64 x, .bool false, .slice none 0 0, .slice none 0 0] 132)) (w.heap.size + 1) #[.int .i64 0, .bool false, .slice none 0 0, .slice none 0 0] from (LocA.at (by simp)).new1)
  have LO := hid (show LocA 132 (((w.alloc (.cells #[.int .i64 x, .bool s, .slice a n c, .slice b m d] 127)).alloc (.cells #[.int .i64 0, .bool false, .slice none 0 0, .slice none 0 0] 132)).alloc (.cells #[.int .i64 x, .bool false, .slice none 0 0, .slice none 0 0] 132)) (w.heap.size + 1 + 1) #[.int .i64 x, .bool false, .slice none 0 0, .slice none 0 0] from LocA.at (by simp))
  generalize hW : ((w.alloc (.cells #[.int .i64 x, .bool s, .slice a n c, .slice b m d] 127)).alloc (.cells #[.int .i64 0, .bool false, .slice none 0 0, .slice none 0 0] 132)).alloc (.cells #[.int .i64 x, .bool false, .slice none 0 0, .slice none 0 0] 132) = W0 at B LP LR LO
  have HW := hid hW
  clear hW
  have hs0 := B.out.size
  have hs1 := LO.out.lt
  have q0 := LP.out.c 0 rfl
  have q1 := LP.out.c 1 rfl
  have q2 := LP.out.c 2 rfl
  have q3 := LP.out.c 3 rfl
  have f0 := LO.out.f 0
  go_enter Try.func100, Try.ntmps100
  go_wp2_with fail
  rw [HW.out]
  clear q0 q1 q2 q3
  (with_reducible refine (K1.out _ ⟨H.out.x.old B.out, H.out.y.old B.out⟩).mono ?_)
  clear f0
  rintro e w1 ⟨v, u, rfl, r1, b1⟩
  have hs2 := b1.size
  have LR := hid (LR.out.old b1)
  have LO := hid (LO.out.old b1)
  have B := hid (B.out.trans (b1.mono B.out.size))
  have n1 := LO.out.ne (by decide) r1.a.ints
  have n2 := LO.out.ne (by decide) r1.d.ints
  have n3 := LR.out.ne (by decide) r1.a.ints
  have n4 := LR.out.ne (by decide) r1.d.ints
  have f1 := LO.out.f 1
  have f2 := LO.out.f 2
  have f3 := LO.out.f 3
  have p0 := LO.out.c 0 rfl
  have p1 := LO.out.c 1 rfl
  have p2 := LO.out.c 2 rfl
  have p3 := LO.out.c 3 rfl
  have g0 := LR.out.f 0
  have g1 := LR.out.f 1
  have g2 := LR.out.f 2
  have g3 := LR.out.f 3
  have o0 := LR.out.c 0 rfl
  have o1 := LR.out.c 1 rfl
  have o2 := LR.out.c 2 rfl
  have o3 := LR.out.c 3 rfl
  have hB := hid ((((((((B.out.setCell (p := ⟨w.heap.size + 1 + 1, 1, none⟩) (by show w.heap.size ≤ w.heap.size + 1 + 1; omega) (.bool s)).setCell (p := ⟨w.heap.size + 1 + 1, 2, none⟩) (by show w.heap.size ≤ w.heap.size + 1 + 1; omega) v).setCell (p := ⟨w.heap.size + 1 + 1, 3, none⟩) (by show w.heap.size ≤ w.heap.size + 1 + 1; omega) u).setCell (p := ⟨w.heap.size + 1, 0, none⟩) (by show w.heap.size ≤ w.heap.size + 1; omega) (.int .i64 x)).setCell (p := ⟨w.heap.size + 1, 1, none⟩) (by show w.heap.size ≤ w.heap.size + 1; omega) (.bool s)).setCell (p := ⟨w.heap.size + 1, 2, none⟩) (by show w.heap.size ≤ w.heap.size + 1; omega) v).setCell (p := ⟨w.heap.size + 1, 3, none⟩) (by show w.heap.size ≤ w.heap.size + 1; omega) u))
  have hR := hid (((((((r1.setc (i := 1) (x := .bool s) n1 n2).setc (i := 2) (x := v) n1 n2).setc (i := 3) (x := u) n1 n2).setc (i := 0) (x := .int .i64 x) n3 n4).setc (i := 1) (x := .bool s) n3 n4).setc (i := 2) (x := v) n3 n4).setc (i := 3) (x := u) n3 n4)
  obtain ⟨a1, c1, b2, d1, rfl, rfl⟩ := r1.form
  clear r1 b1
  go_wp2
  exact bodyPost_ret (v := .agg #[.int .i64 x, .bool s, .slice a1 A.length c1, .slice b2 D.length d1]) (by simp [results, Try.results100, go_sem, o0, o1, o2, o3]) rfl ⟨_, _, rfl, by simpa [size_set] using hR.out.at hs0, hB.out⟩
theorem keysT_zero {E : List Et} (h : keysT E = []) : E = [] := by cases E <;> simp_all [keysT]
set_option maxRecDepth 100000 in
set_option maxHeartbeats 3200000 in
theorem toTermS_came (a : Option Addr) (n c h : Nat) (K : List Tq) (hK : szU K ≤ 1048576) (w : World) (hc : TCame w h a n K) :
    Calls Try.prog 49 #[.slice a n c] w (TerR true K w) := by
  have HC := hid hc
  obtain rfl := hc.1
  clear hc
  have hl := szU_len K
  go_enter Try.func49, Try.ntmps49
  have hmk := fun W => run_make_rowk (P := Try.prog) 48 132 (.agg #[.int .i64 0, .bool false, .slice none 0 0, .slice none 0 0]) #[.int .i64 0, .bool false, .slice none 0 0, .slice none 0 0] 4 64 Try.underlying48 infoTerm rfl .i64 .i64 K.length (by omega) (by omega) W
  have HM := hid (TO_made (w := w) K.length (by unfold maxLen; omega))
  have HA := hid (show Below w.heap.size w (w.alloc (.cells (madeCells #[.int .i64 0, .bool false, .slice none 0 0, .slice none 0 0] (K.length * 4)) 132)) from (Below.refl _ _).alloc (Nat.le_refl _) _)
  have HS := hid (show w.heap.size < (w.alloc (.cells (madeCells #[.int .i64 0, .bool false, .slice none 0 0, .slice none 0 0] (K.length * 4)) 132)).heap.size by simp)
  go_wp2
  clear hmk
  generalize w.alloc (.cells (madeCells #[.int .i64 0, .bool false, .slice none 0 0, .slice none 0 0] (K.length * 4)) 132) = w1 at HM HA HS ⊢
  obtain ⟨g, hg⟩ : ∃ g, g = w.heap.size := ⟨_, rfl⟩
  have HG := hid hg
  rw [← hg] at HM HA HS
  rw [← hg]
  clear hg
  go_loopw [4] (fun i wr => ∃ (k : Nat) (E : List Et), k ≤ K.length ∧ i = .int .i64 k ∧ Hid (keysT E = K.take k) ∧ Hid (TO true wr (.slice (some ⟨g, 0, none⟩) K.length K.length) (E ++ List.replicate (K.length - k) Et0) g wr.heap.size) ∧ Below g w wr) (fun i _ => K.length - (intOf i).toNat)
  case atStart => exact ⟨0, [], Nat.zero_le _, rfl, hid rfl, hid (by simpa using HM.out.wide (Nat.le_refl _) HS.out), HA.out⟩
  case round =>
    obtain ⟨k, E, hk, rfl, hE, hV, hbel⟩ := hrel
    have hEl := hid (show E.length = k by have := congrArg List.length hE.out; rw [keysT_len, List.length_take] at this; omega)
    by_cases hlt : k < K.length
    · obtain ⟨g1, o1, rfl, -, hg1, hce⟩ := HC.out.2 (by omega)
      have hEx := (hce k hlt).old (hbel.mono (by rw [HG.out]; exact Nat.le_refl _)) hg1
      have hn1 := szU_at hlt
      have htk := hid (List.take_succ_eq_append_getElem hlt)
      clear hce
      generalize K[k] = f at hEx hn1 htk
      obtain ⟨x, s, A, D⟩ := f
      obtain ⟨a1, c1, b1, d1, qc, q0, q1, q2, hcr⟩ := hEx.ex
      simp only [Tq.m] at hn1 qc q0 q1 q2 hcr
      have KT := hid (fun (W : World) (hb : Below wr.heap.size wr W) => toTerm_came x s a1 A.length c1 b1 D.length d1 h A D (by omega) (by omega) W (hcr.old hb))
      have HB := hid hbel
      have hpos := hid (show 0 < (E ++ List.replicate (K.length - k) Et0).length by simp; omega)
      have hgw := hid (hV.out.pos (a := some ⟨g, 0, none⟩) hpos.out)
      have a1' : (0 : Int) ≤ k := by omega
      have a2 : (k : Int) < K.length := by omega
      clear hcr hEx hbel
      go_wp2_with fail
      (with_reducible refine (KT.out _ (Below.refl _ _)).mono ?_)
      rintro e w2 ⟨v, u, rfl, hO, hb⟩
      have hsz := hid hb.size
      have HB := hid (HB.out.trans (hb.mono (by rw [HG.out]; exact HB.out.size)))
      have hV2 := hid (hV.out.old hb)
      obtain ⟨a3, c3, b3, d3, rfl, rfl⟩ := hO.form
      have hlen2 := hid (show (E ++ List.replicate (K.length - k) Et0).length = K.length by simp [hEl.out]; omega)
      have hki := hid (show k < (E ++ List.replicate (K.length - k) Et0).length by rw [hlen2.out]; omega)
      have hcell := hV2.out.cell hki.out
      obtain ⟨rc, r0, r1, r2⟩ := hcell
      have f0 := hV2.out.free (k * 4)
      have f1 := hV2.out.free (k * 4 + 1)
      have f2 := hV2.out.free (k * 4 + 2)
      have f3 := hV2.out.free (k * 4 + 3)
      have hgz := hid (show g ≤ wr.heap.size from by have := HG.out; have := HB.out.size; obtain ⟨g', e1, -, -, -, e2⟩ := hgw.out; cases e1; omega)
      have hput := hid (hV2.out.wide (Nat.le_refl g) hsz.out |>.put (e := ⟨⟨x, s, A, D⟩, .slice a3 A.length c3, .slice b3 D.length d3⟩) hki.out ⟨hO.a.wide hgz.out (.inr (Nat.le_refl _)), hO.d.wide hgz.out (.inr (Nat.le_refl _))⟩ (fun _ => hO.ne)
        (fun _ j hj hne => hV2.out.apt (e := ⟨⟨x, s, A, D⟩, .slice a3 A.length c3, .slice b3 D.length d3⟩) ⟨hO.a, hO.d⟩ (Nat.le_refl _) _ (List.getElem_mem hj)))
      have hset := hid (show (E ++ List.replicate (K.length - k) Et0).set k ⟨⟨x, s, A, D⟩, .slice a3 A.length c3, .slice b3 D.length d3⟩ = (E ++ [⟨⟨x, s, A, D⟩, .slice a3 A.length c3, .slice b3 D.length d3⟩]) ++ List.replicate (K.length - (k + 1)) Et0 by
        rw [List.set_append_right k _ (by rw [hEl.out]; exact Nat.le_refl _), hEl.out, Nat.sub_self, show K.length - k = (K.length - (k + 1)) + 1 by omega, List.replicate_succ, List.set_cons_zero, List.append_assoc]; rfl)
      have HB2 := hid ((((HB.out.setCell (p := ⟨g, k * 4, none⟩) (Nat.le_refl _) (.int .i64 x)).setCell (p := ⟨g, k * 4 + 1, none⟩) (Nat.le_refl _) (.bool s)).setCell (p := ⟨g, k * 4 + 2, none⟩) (Nat.le_refl _) (.slice a3 A.length c3)).setCell (p := ⟨g, k * 4 + 3, none⟩) (Nat.le_refl _) (.slice b3 D.length d3))
      clear hb hO qc q0 q1 q2
      go_wp2
      go_roundw
      case rel =>
        refine ⟨k + 1, E ++ [⟨⟨x, s, A, D⟩, .slice a3 A.length c3, .slice b3 D.length d3⟩], by omega, by go_num, hid ?_, hid ?_, HB2.out⟩
        · rw [keysT_append, hE.out, htk.out]; rfl
        · rw [← hset.out]; simpa [size_set] using hput.out
      case measure => simp [intOf]; omega
    · obtain rfl : k = K.length := by omega
      have HB := hid hbel
      clear hbel
      go_wp2
      go_ret
      have h1 := hV.out
      rw [Nat.sub_self, List.replicate_zero, List.append_nil] at h1
      have h2 := hE.out
      rw [List.take_length] at h2
      have h3 := HG.out
      subst h3
      exact TerR_of rfl ⟨E, h1, h2⟩ HB.out

set_option maxRecDepth 100000 in
set_option maxHeartbeats 3200000 in
theorem eqTerm_w (x : Int) (s : Bool) (v1 u1 v2 u2 : Value) (A D : List Int) (l1 h1 l2 h2 : Nat) (hA : A.length ≤ 1073741824) (hD : D.length ≤ 1073741824) (w : World) (o1 : ROw w v1 u1 A D l1 h1) (o2 : ROw w v2 u2 A D l2 h2) :
    Calls Try.prog 102 #[.agg #[.int .i64 x, .bool s, v1, u1], .agg #[.int .i64 x, .bool s, v2, u2]] w (RetB (.bool true) w) := by
  have B := hid (below_new2 (w := w) (o := .cells #[.int .i64 x, .bool s, v1, u1] 132) (o' := .cells #[.int .i64 x, .bool s, v2, u2] 132))
  have O1 := hid (o1.old B.out)
  have O2 := hid (o2.old B.out)
  have K := hid (fun (W : World) (g1 : ROw W v1 u1 A D l1 h1) (g2 : ROw W v2 u2 A D l2 h2) => eqRat_w s v1 u1 v2 u2 A D l1 h1 l2 h2 hA hD W g1 g2)
  obtain ⟨a1, c1, b1, d1, rfl, rfl⟩ := o1.form
  obtain ⟨a2, c2, b2, d2, rfl, rfl⟩ := o2.form
  clear o1 o2
  generalize hW : (w.alloc (.cells #[.int .i64 x, .bool s, .slice a1 A.length c1, .slice b1 D.length d1] 132)).alloc (.cells #[.int .i64 x, .bool s, .slice a2 A.length c2, .slice b2 D.length d2] 132) = W0 at B O1 O2
  have HW := hid hW
  clear hW
  go_enter Try.func102, Try.ntmps102
  go_wp2_with fail
  rw [HW.out]
  (with_reducible refine (K.out _ O1.out O2.out).mono ?_)
  rintro e w1 ⟨rfl, g1⟩
  have B := hid (B.out.trans (g1.mono B.out.size))
  clear g1
  go_wp2
  go_ret
  exact ⟨rfl, B.out⟩
set_option maxRecDepth 100000 in
set_option maxHeartbeats 3200000 in
theorem eqTermS_vo (p1 p2 : Bool) (v1 v2 : Value) (E1 E2 : List Et) (l1 h1 l2 h2 : Nat) (he : keysT E1 = keysT E2) (hK : szT (keysT E1) ≤ 4194304) (w : World) (o1 : TO p1 w v1 E1 l1 h1) (o2 : TO p2 w v2 E2 l2 h2) :
    Calls Try.prog 52 #[v1, v2] w (RetB (.bool true) w) := by
  have hlen : E1.length = E2.length := by have := congrArg List.length he; rwa [keysT_len, keysT_len] at this
  have HE := hid he
  have HK := hid hK
  have HL := hid hlen
  have hsz := szT_len (keysT E1)
  rw [keysT_len] at hsz
  have O1 := hid o1
  have O2 := hid o2
  obtain ⟨a1, c1, rfl, -⟩ := o1.form
  obtain ⟨a2, c2, rfl, -⟩ := o2.form
  clear o1 o2 he hK
  rw [← hlen] at O2 ⊢
  clear hlen
  go_enter Try.func52, Try.ntmps52
  go_wp2
  go_loopw [5] (fun i wr => ∃ (k : Nat), k ≤ E1.length ∧ i = .int .i64 k ∧ Below w.heap.size w wr) (fun i _ => E1.length - (intOf i).toNat)
  case atStart => exact ⟨0, Nat.zero_le _, rfl, Below.refl _ _⟩
  case round =>
    obtain ⟨k, hk, rfl, hbel⟩ := hrel
    by_cases hlt : k < E1.length
    · have hlt2 := hid (show k < E2.length by rw [← HL.out]; exact hlt)
      have P1 := hid (O1.out.old hbel)
      have P2 := hid (O2.out.old hbel)
      obtain ⟨g1, rfl, -, -, -, hg1⟩ := P1.out.pos (by omega)
      obtain ⟨g2, rfl, -, -, -, hg2⟩ := P2.out.pos (by have := hlt2.out; omega)
      have q012 := P1.out.cell hlt
      have q345 := P2.out.cell hlt2.out
      have R1 := P1.out.at hlt
      have R2 := P2.out.at hlt2.out
      have heq := keysT_at hlt
      have heq2 := keysT_at hlt2.out
      have hn := szT_at (K := keysT E1) (k := k) (by rw [keysT_len]; exact hlt)
      have hkk : (keysT E1)[k]'(by rw [keysT_len]; exact hlt) = (keysT E2)[k]'(by rw [keysT_len]; exact hlt2.out) := by simp only [HE.out]
      rw [heq, heq2] at hkk
      rw [heq] at hn
      generalize E1[k] = e1 at q012 R1 hkk hn
      generalize E2[k] = e2 at q345 R2 hkk
      obtain ⟨⟨x, s, A, D⟩, x1, y1⟩ := e1
      obtain ⟨q, x2, y2⟩ := e2
      simp only at hkk
      subst hkk
      simp only [Tq.n] at q012 q345 R1 R2 hn
      have hKv := HK.out
      obtain ⟨a3, c3, b3, d3, rfl, rfl⟩ := R1.form
      obtain ⟨a4, c4, b4, d4, rfl, rfl⟩ := R2.form
      have KE := hid (fun (W : World) (hb : Below wr.heap.size wr W) => eqTerm_w x s _ _ _ _ A D l1 h1 l2 h2 (by omega) (by omega) W (R1.old hb) (R2.old hb))
      have HB := hid hbel
      obtain ⟨qc, q0, q1, q2⟩ := q012
      obtain ⟨qd, q3, q4, q5⟩ := q345
      have a1' : (0 : Int) ≤ k := by omega
      have a2' : (k : Int) < E1.length := by omega
      clear R1 R2 hbel hn heq heq2
      go_wp2_with fail
      go_region_held3 (fun w' => w'.cell? ⟨g1, k * 4, none⟩ = some (.int .i64 x) ∧ w'.cell? ⟨g1, k * 4 + 1, none⟩ = some (.bool s) ∧ w'.cell? ⟨g1, k * 4 + 2, none⟩ = some (.slice a3 A.length c3) ∧ w'.cell? ⟨g1, k * 4 + 3, none⟩ = some (.slice b3 D.length d3) ∧ w'.cell? ⟨g2, k * 4, none⟩ = some (.int .i64 x) ∧ w'.cell? ⟨g2, k * 4 + 1, none⟩ = some (.bool s) ∧ w'.cell? ⟨g2, k * 4 + 2, none⟩ = some (.slice a4 A.length c4) ∧ w'.cell? ⟨g2, k * 4 + 3, none⟩ = some (.slice b4 D.length d4)) (first | exact ⟨qc, q0, q1, q2, qd, q3, q4, q5⟩ | go_keep)
        (first | (go_at_call 102; (with_reducible refine (KE.out _ (Below_drew1 (Below.refl _ _))).mono ?_); rintro e w2 ⟨rfl, hb⟩; have HB2 := hid ((Below_drew1 HB.out).trans (hb.mono HB.out.size)); have qc := (hb.cell (p := ⟨g1, k * 4, none⟩) hg1).trans qc; have q0 := (hb.cell (p := ⟨g1, k * 4 + 1, none⟩) hg1).trans q0; have q1 := (hb.cell (p := ⟨g1, k * 4 + 2, none⟩) hg1).trans q1; have q2 := (hb.cell (p := ⟨g1, k * 4 + 3, none⟩) hg1).trans q2; have qd := (hb.cell (p := ⟨g2, k * 4, none⟩) hg2).trans qd; have q3 := (hb.cell (p := ⟨g2, k * 4 + 1, none⟩) hg2).trans q3; have q4 := (hb.cell (p := ⟨g2, k * 4 + 2, none⟩) hg2).trans q4; have q5 := (hb.cell (p := ⟨g2, k * 4 + 3, none⟩) hg2).trans q5; clear hb))
      clear qc q0 q1 q2 qd q3 q4 q5
      go_wp2
      go_roundw
      case rel => exact ⟨k + 1, by omega, by go_num, HB2.out⟩
      case measure => simp [intOf]; omega
    · have HB := hid hbel
      clear hbel
      go_wp2
      go_ret
      exact ⟨rfl, HB.out⟩
end Go.Proofs.Yteanocjkdehhgaa

/- The laws' helpers on slices of terms' structs: marks. -/
namespace Go.Proofs.Yteanocjkdehhgaa
open Go.RowKit
open Go.Lib (hid)
set_option linter.unusedVariables false

def MarkT (v : Value) (E : List Et) (m : Int) (lo hi : Nat) (w : World) (e : Ending) (w' : World) : Prop := e = .returned (.int .i64 (m + (szT (keysT E) : Int))) ∧ TO true w' v (mkET E m) lo hi ∧ Only (InS lo hi) w w'
set_option maxRecDepth 100000 in
set_option maxHeartbeats 3200000 in
theorem markTermS_vo (v : Value) (E : List Et) (m : Int) (lo hi : Nat) (hK : szT (keysT E) ≤ 4194304) (m0 : 0 ≤ m) (m1 : m ≤ 4194304) (w : World) (o1 : TO true w v E lo hi) :
    Calls Try.prog 54 #[v, .int .i64 m] w (MarkT v E m lo hi w) := by
  have HK := hid hK
  have hsz := szT_len (keysT E)
  rw [keysT_len] at hsz
  have O1 := hid o1
  obtain ⟨a, c, rfl, -⟩ := o1.form
  clear o1 hK
  have hEl : E.length ≤ 4194304 := by have := HK.out; omega
  clear hsz
  go_enter Try.func54, Try.ntmps54
  go_wp2
  go_loopw [1, 5] (fun x i wr => ∃ (k : Nat) (y : Int), k ≤ E.length ∧ i = .int .i64 k ∧ x = .int .i64 y ∧ Hid (y = m + (szT (keysT (E.take k)) : Int)) ∧ Hid (TO true wr (.slice a E.length c) (mkdT E m k) lo hi) ∧ Hid (Only (InS lo hi) w wr)) (fun _ i _ => E.length - (intOf i).toNat)
  case atStart => exact ⟨0, m, Nat.zero_le _, rfl, rfl, hid (by simp [keysT, szT]), hid (by rw [mkdT_zero]; exact O1.out), hid (Only.refl _ _)⟩
  case round =>
    obtain ⟨k, y, hk, rfl, rfl, hy, hV, hB⟩ := hrel
    by_cases hlt : k < E.length
    · have hl := hid (mkdT_len (E := E) (m := m) (k := k) hk)
      have hlm := hid (show k < (mkdT E m k).length by rw [hl.out]; exact hlt)
      obtain ⟨g, rfl, -, hg1, hg2, hg⟩ := hV.out.pos (by rw [hl.out]; omega)
      have hat := mkdT_at (m := m) hlt
      have hset := hid (mkdT_set (m := m) hlt)
      have hy2 := hy.out
      have hn := szT_at (K := keysT E) (k := k) (by rw [keysT_len]; exact hlt)
      have hst := szT_take (K := keysT E) (k := k) (by rw [keysT_len]; exact hlt)
      rw [keysT_at hlt, ← keysT_take] at hn
      rw [keysT_at hlt, ← keysT_take, ← keysT_take] at hst
      have hKv := HK.out
      have q012 := hV.out.cell hlm.out
      have R := hV.out.at hlm.out
      have V1 := hid (hV.out.puts hlm.out y ((y + 1) % 3 == 0))
      rw [hat] at q012 R V1
      rw [← hy2] at hset
      clear hat hy2
      generalize hE : E[k] = e1 at q012 R V1 hset hn hst
      clear hE
      obtain ⟨⟨x0, s, A, D⟩, x1, y1⟩ := e1
      simp only [Tq.n, Tq.mk'] at q012 R V1 hset hn hst
      obtain ⟨a3, c3, b3, d3, rfl, rfl⟩ := R.form
      clear R
      have HST := hid hst
      obtain ⟨qc, q0, q1, q2⟩ := q012
      have f0 := hV.out.free (k * 4)
      have f1 := hV.out.free (k * 4 + 1)
      have y0 : 0 ≤ y := by have := hy.out; omega
      have yb : y ≤ 8388608 := by have := hy.out; omega
      have hA : A.length ≤ 4194304 := by omega
      have hD : D.length ≤ 4194304 := by omega
      have B1 := hid ((hB.out.setCell (p := ⟨g, k * 4, none⟩) ⟨hg1, hg2⟩ (.int .i64 y)).setCell (p := ⟨g, k * 4 + 1, none⟩) ⟨hg1, hg2⟩ (.bool ((y + 1) % 3 == 0)))
      have KA := hid (fun (W : World) (V : TO true W (.slice (some ⟨g, 0, none⟩) E.length c) ((mkdT E m k).set k ⟨⟨y, (y + 1) % 3 == 0, A, D⟩, .slice a3 A.length c3, .slice b3 D.length d3⟩) lo hi) =>
        markIntS_any lo (.slice a3 A.length c3) A (y + 2) (by omega) (by omega) (by omega) (fun j => (Value.slice a3 A.length c3).ownBlock = some j) W (V.set_at hlm.out).a.ints (fun j hj => hj))
      have KD := hid (fun (W : World) (V : TO true W (.slice (some ⟨g, 0, none⟩) E.length c) ((mkdT E m k).set k ⟨⟨y, (y + 1) % 3 == 0, marks A.length (y + 2), D⟩, .slice a3 A.length c3, .slice b3 D.length d3⟩) lo hi) =>
        markIntS_any lo (.slice b3 D.length d3) D (y + 2 + (A.length : Int)) (by omega) (by omega) (by omega) (fun j => (Value.slice b3 D.length d3).ownBlock = some j) W (V.set_at hlm.out).d.ints (fun j hj => hj))
      have a1' : (0 : Int) ≤ k := by omega
      have a2' : (k : Int) < E.length := by omega
      have a3 : y + 1 + 1 = y + 2 := by omega
      clear hst hn
      go_wp2_with fail
      (with_reducible refine (KA.out _ V1.out).mono ?_)
      rintro e w2 ⟨rfl, hi2, ho2⟩
      have V2 := hid (V1.out.inA' hlm.out ho2 hi2)
      have B2 := hid (B1.out.trans (ho2.mono fun j hj => ⟨(Ints_lt (V1.out.set_at hlm.out).a.ints j hj).1, (V1.out.set_at hlm.out).a.high j hj⟩))
      obtain ⟨qc, q0, q1, q2⟩ := V2.out.set_cell hlm.out
      clear hi2 ho2 f0 f1
      go_wp2_with fail
      (with_reducible refine (KD.out _ V2.out).mono ?_)
      rintro e w3 ⟨rfl, hi3, ho3⟩
      have V3 := hid (V2.out.inD' hlm.out ho3 hi3)
      have B3 := hid (B2.out.trans (ho3.mono fun j hj => ⟨(Ints_lt (V2.out.set_at hlm.out).d.ints j hj).1, (V2.out.set_at hlm.out).d.high j hj⟩))
      clear hi3 ho3 qc q0 q1 q2
      go_wp2
      go_roundw
      case rel => exact ⟨k + 1, y + 2 + (A.length : Int) + (D.length : Int), by omega, by go_num, rfl, hid (by have := hy.out; have := HST.out; omega), hid (by rw [← hset.out]; exact V3.out), B3⟩
      case measure => simp [intOf]; omega
    · obtain rfl : k = E.length := by omega
      go_wp2
      go_ret
      have h1 := hV.out
      rw [mkdT_all] at h1
      have h2 := hy.out
      rw [List.take_length] at h2
      subst h2
      exact ⟨rfl, h1, hB.out⟩
set_option maxRecDepth 100000 in
set_option maxHeartbeats 3200000 in
theorem heldTermS_vo (p : Bool) (v : Value) (E E0 : List Et) (m : Int) (lo hi : Nat) (hm : keysT E = keysT (mkET E0 m)) (hK : szT (keysT E0) ≤ 4194304) (m0 : 0 ≤ m) (m1 : m ≤ 4194304) (w : World) (o1 : TO p w v E lo hi) :
    Calls Try.prog 61 #[v, .int .i64 m] w (RetB (.int .i64 (m + (szT (keysT E0) : Int))) w) := by
  have HK := hid hK
  have hsz := szT_len (keysT E0)
  rw [keysT_len] at hsz
  have hl : E.length = E0.length := by have := congrArg List.length hm; rwa [keysT_len, keysT_len, mkET_len] at this
  have HL := hid hl
  have HM := hid hm
  have O1 := hid o1
  obtain ⟨a, c, rfl, -⟩ := o1.form
  clear o1 hK hm
  have hEl : E0.length ≤ 4194304 := by have := HK.out; omega
  clear hsz
  rw [hl] at O1 ⊢
  clear hl
  go_enter Try.func61, Try.ntmps61
  go_wp2
  go_loopw [1, 5] (fun x i wr => ∃ (k : Nat) (y : Int), k ≤ E0.length ∧ i = .int .i64 k ∧ x = .int .i64 y ∧ Hid (y = m + (szT (keysT (E0.take k)) : Int)) ∧ Below w.heap.size w wr) (fun _ i _ => E0.length - (intOf i).toNat)
  case atStart => exact ⟨0, m, Nat.zero_le _, rfl, rfl, hid (by simp [keysT, szT]), Below.refl _ _⟩
  case round =>
    obtain ⟨k, y, hk, rfl, rfl, hy, hbel⟩ := hrel
    have hB := hid hbel
    by_cases hlt : k < E0.length
    · have hlm := hid (show k < E.length by rw [HL.out]; exact hlt)
      have V := hid (O1.out.old hbel)
      obtain ⟨g, rfl, -, hg1, hg2, hg⟩ := V.out.pos (by rw [HL.out]; omega)
      have hy2 := hy.out
      have hn := szT_at (K := keysT E0) (k := k) (by rw [keysT_len]; exact hlt)
      have hst := szT_take (K := keysT E0) (k := k) (by rw [keysT_len]; exact hlt)
      rw [keysT_at hlt, ← keysT_take] at hn
      rw [keysT_at hlt, ← keysT_take, ← keysT_take] at hst
      have hKv := HK.out
      have q012 := V.out.cell hlm.out
      have R := V.out.at hlm.out
      have hkey : E[k].q = E0[k].q.mk' y := by
        have h1 := keysT_at hlm.out
        have h2 := keysT_at (E := mkET E0 m) (k := k) (by rw [mkET_len]; exact hlt)
        have h3 := mkET_at E0 m k hlt
        refine h1.symm.trans ?_
        simp only [HM.out]
        rw [h2, h3, hy2]
      generalize E[k] = e1 at q012 R hkey
      generalize E0[k] = e0 at hkey hn hst
      obtain ⟨q, x1, y1⟩ := e1
      simp only at hkey
      subst hkey
      obtain ⟨⟨xc, s, A, D⟩, x0, y0⟩ := e0
      simp only [Tq.n, Tq.mk'] at q012 R hn hst
      obtain ⟨a3, c3, b3, d3, rfl, rfl⟩ := R.form
      rw [marks_len, marks_len] at q012 R
      have HST := hid hst
      obtain ⟨qc, q0, q1, q2⟩ := q012
      have y0' : 0 ≤ y := by have := hy.out; omega
      have yb : y ≤ 8388608 := by have := hy.out; omega
      have hA : A.length ≤ 4194304 := by omega
      have hD : D.length ≤ 4194304 := by omega
      have KA := hid (fun (W : World) (hb : Below wr.heap.size wr W) => heldIntS_obj (.slice a3 A.length c3) A.length (y + 2) lo hi (by omega) (by omega) (by omega) W (R.a.old hb))
      have KD := hid (fun (W : World) (hb : Below wr.heap.size wr W) => heldIntS_obj (.slice b3 D.length d3) D.length (y + 2 + (A.length : Int)) lo hi (by omega) (by omega) (by omega) W (R.d.old hb))
      have c1' : ¬ y + 2 + (A.length : Int) < 0 := by omega
      have c2' : ¬ y + 2 + (A.length : Int) + (D.length : Int) < 0 := by omega
      have a1' : (0 : Int) ≤ k := by omega
      have a2' : (k : Int) < E0.length := by omega
      have a3 : y + 1 + 1 = y + 2 := by omega
      clear hst hn R hbel hy2
      go_wp2_with fail
      (with_reducible refine (KA.out _ (Below.refl _ _)).mono ?_)
      rintro e w2 ⟨rfl, hb⟩
      have hB := hid (hB.out.trans (hb.mono hB.out.size))
      have q2 := (hb.cell (p := ⟨g, k * 4 + 3, none⟩) hg).trans q2
      have HB := hid hb
      clear hb qc q0 q1
      go_wp2_with fail
      (with_reducible refine (KD.out _ HB.out).mono ?_)
      rintro e w3 ⟨rfl, hb⟩
      have hB := hid (hB.out.trans (hb.mono hB.out.size))
      clear hb q2
      go_wp2
      go_roundw
      case rel => exact ⟨k + 1, y + 2 + (A.length : Int) + (D.length : Int), by omega, by go_num, rfl, hid (by have := hy.out; have := HST.out; omega), hB.out⟩
      case measure => simp [intOf]; omega
    · obtain rfl : k = E0.length := by omega
      clear hbel
      go_wp2
      go_ret
      have h2 := hy.out
      rw [List.take_length] at h2
      exact ⟨ret_in h2, hB.out⟩
end Go.Proofs.Yteanocjkdehhgaa

/- Slices of terms' structs by their values: what they hold at an index, an append, the laws' helpers. -/
namespace Go.Proofs.Yteanocjkdehhgaa
open Go.RowKit
open Go.Lib (hid)
set_option linter.unusedVariables false

def Tq.o (f : Tq) : Option Rat := rval f.s f.A f.D
def Tq.f (f : Tq) : Fq := ⟨f.s, f.A, f.D⟩
theorem Tq.f_o (f : Tq) : f.f.o = f.o := rfl
def tqo (c : Int) (o : Option Rat) : Tq := ⟨c, gzs (qn o), gzl (qn o), gzl (qd o)⟩
theorem tqo_f (c : Int) (o : Option Rat) : (tqo c o).f = fqo o := by simp only [Tq.f, tqo, fqo]
theorem tqo_c (c : Int) (o : Option Rat) : (tqo c o).c = c := by simp only [tqo]
theorem tqo_o {o : Option Rat} (c : Int) (h : fitO o) : (tqo c o).o = o := by
  have := (rval_parts h).1
  simp only [Tq.o, tqo]
  exact this
theorem tqo_A (c : Int) (o : Option Rat) : (tqo c o).A = gzl (qn o) := by simp only [tqo]
theorem tqo_D (c : Int) (o : Option Rat) : (tqo c o).D = gzl (qd o) := by simp only [tqo]
theorem tqo_s (c : Int) (o : Option Rat) : (tqo c o).s = gzs (qn o) := by simp only [tqo]
set_option maxRecDepth 100000 in
theorem tqo_n {o : Option Rat} (c : Int) (h : fitO o) : (tqo c o).n ≤ 50 := by
  obtain ⟨-, -, h1, h2⟩ := rval_parts h
  simp only [Tq.n, tqo]; omega
theorem fitO_ot (f : Tq) : fitO f.o := fitO_rval _ _ _
/-- Of a size at which the functions on fractions answer. -/
def SmT (K : List Tq) : Prop := (∀ f ∈ K, f.A.length ≤ 1048576 ∧ f.D.length ≤ 1048576) ∧ K.length ≤ 1048576
set_option maxRecDepth 100000 in
theorem SmT.of {K : List Tq} (h : szU K ≤ 1048576) : SmT K := by
  refine ⟨fun f hf => ?_, Nat.le_trans (szU_len K) h⟩
  obtain ⟨k, hk, rfl⟩ := List.getElem_of_mem hf
  have := szU_at hk
  simp only [Tq.m] at this
  omega
set_option maxRecDepth 100000 in
theorem SmT.ofT {K : List Tq} (h : szT K ≤ 1048576) : SmT K := by
  refine ⟨fun f hf => ?_, Nat.le_trans (szT_len K) h⟩
  obtain ⟨k, hk, rfl⟩ := List.getElem_of_mem hf
  have := szT_at hk
  simp only [Tq.n] at this
  omega
set_option maxRecDepth 100000 in
/-- What a slice of one's own holds at an index. -/
theorem TK.at {p : Bool} {w : World} {a : Option Addr} {n c : Nat} {K : List Tq} {lo hi : Nat} (h : TK p w (.slice a n c) K lo hi) (hK : SmT K) {k : Nat} (hlt : k < K.length) :
    ∃ g a3 n3 c3 b3 m3 d3, a = some ⟨g, 0, none⟩ ∧ g < w.heap.size ∧ w.cell? ⟨g, k * 4, none⟩ = some (.int .i64 K[k].c) ∧ w.cell? ⟨g, k * 4 + 1, none⟩ = some (.bool K[k].s) ∧ w.cell? ⟨g, k * 4 + 2, none⟩ = some (.slice a3 n3 c3) ∧ w.cell? ⟨g, k * 4 + 3, none⟩ = some (.slice b3 m3 d3) ∧
      RL w (.slice a3 n3 c3) (.slice b3 m3 d3) K[k].A K[k].D := by
  obtain ⟨E, h, rfl⟩ := h
  rw [keysT_len] at hlt
  obtain ⟨g, rfl, -, -, -, hg⟩ := h.pos (by omega)
  obtain ⟨qc, q0, q1, q2⟩ := h.cell hlt
  have R := h.at hlt
  have hn := hK.1 _ (List.getElem_mem (show k < (keysT E).length by rw [keysT_len]; exact hlt))
  rw [keysT_at hlt] at hn ⊢
  obtain ⟨a3, c3, b3, d3, e1, e2⟩ := R.form
  rw [e1] at q1 R
  rw [e2] at q2 R
  exact ⟨g, a3, _, c3, b3, _, d3, rfl, hg, qc, q0, q1, q2, ⟨_, R.a.ints⟩, ⟨_, R.d.ints⟩, by omega, by omega⟩
theorem TK.num {p : Bool} {w : World} {a : Option Addr} {n c : Nat} {K : List Tq} {lo hi : Nat} (h : TK p w (.slice a n c) K lo hi) : n = K.length := by
  obtain ⟨E, h, rfl⟩ := h
  rw [keysT_len]
  exact h.num
theorem TK_nil (p : Bool) (w : World) (lo hi : Nat) : TK p w (.slice none 0 0) [] lo hi := ⟨[], TO_nil _ _ _ _, rfl⟩
theorem TK_lit0 (p : Bool) {w : World} {lo : Nat} (hl : lo ≤ w.heap.size) : TK p (w.alloc (.cells #[] 132)) (.slice (some ⟨w.heap.size, 0, none⟩) 0 0) [] lo (w.heap.size + 1) :=
  ⟨[], ⟨⟨rfl, .inr ⟨w.heap.size, 0, #[], rfl, hl, heap_alloc_new w _, Nat.le_refl _, Nat.zero_le _, rfl, rfl⟩⟩, fun k hk => by simp [Value.ownBlock] at hk; omega, fun e he => (by cases he), fun _ e he => (by cases he), fun _ => List.Pairwise.nil⟩, rfl⟩
set_option maxRecDepth 100000 in
/-- A struct of a call's own is appended. -/
theorem TK.snoc {p : Bool} {w w1 : World} {v v' x y : Value} {K : List Tq} {s : Bool} {o : Option Rat} {x0 : Int} {lo hi lo' n : Nat} (h : TK p w v K lo hi) (hr : RO p w lo' s x y o) (hh : hi ≤ lo') (hl : lo ≤ lo') {xs : List Value}
    (hx : ∃ E, TO p w v E lo hi ∧ keysT E = K ∧ xs = flatT E) (hrow : w1.ownsRow lo 132 4 v' n (xs ++ [.int .i64 x0, .bool s, x, y])) (hn : n = K.length + 1) (hg : w.grownBy w1 v.ownBlock) : TK p w1 v' (K ++ [tqo x0 o]) lo w1.heap.size := by
  obtain ⟨E, hE, rfl, rfl⟩ := hx
  rw [keysT_len] at hn
  subst hn
  have hs := hr.sg
  rw [← tqo_s x0] at hs
  subst hs
  have hi' := hr.i
  have hj' := hr.j
  rw [← tqo_A x0] at hi'
  rw [← tqo_D x0] at hj'
  have hnd := hr.nd
  clear hr
  have hc := tqo_c x0 o
  generalize tqo x0 o = f at hi' hj' hrow hc ⊢
  subst hc
  have hro : ROw w x y f.A f.D lo' w.heap.size := ⟨⟨hi', fun k hk => (Ints_lt hi' k hk).2⟩, ⟨hj', fun k hk => (Ints_lt hj' k hk).2⟩⟩
  exact ⟨E ++ [⟨f, x, y⟩], hE.snoc (e := ⟨f, x, y⟩) ⟨hro.a.wide hl (.inr (Nat.le_refl _)), hro.d.wide hl (.inr (Nat.le_refl _))⟩ (fun hp => hnd hp) (fun hp => hE.apt (e := ⟨f, x, y⟩) hro hh) hrow hg, by rw [keysT_append]; rfl⟩
section
variable {ops : Array Oper} {o : Oper} {a : Act} {p : Bool} {W : World} {v x y : Value} {Ks : List Tq} {lo hi lo' B : Nat} {sg : Bool} {oo : Option Rat} {x0 : Int}
set_option maxRecDepth 100000 in
/-- THE APPEND of a struct of a call's own, at a step of a region that draws. -/
theorem step_pushT {K : Act → World → Prop} {Q : Exit → Act → World → Prop} {E' : Prop} (hgd : o.guard = none) (s1 x1 : Operand)
    (ho : o.op = .call { callee := .builtin .append, args := #[s1, x1], argTypes := #[48, 48] }) (hs : a.eval s1 = v) (hv : TK p W v Ks lo hi) (hh : hi ≤ lo') (hl : lo ≤ lo') (hr : RO p W lo' sg x y oo)
    (hx : a.eval x1 = .slice (some ⟨B, 0, none⟩) 1 1) (hB : W.heap[B]? = some (.cells #[.int .i64 x0, .bool sg, x, y] 132 (0, 0))) (hlen : Ks.length ≤ 1048576) (hlw : lo ≤ W.heap.size)
    (h : ∀ (g cap : Nat) (w' : World), TK p w' (.slice (some ⟨g, 0, none⟩) (Ks.length + 1) cap) (Ks ++ [tqo x0 oo]) lo w'.heap.size → Below lo W w' → (∀ k, k < W.heap.size → some k ≠ v.ownBlock → w'.heap[k]? = W.heap[k]?) → K (a.put o.dst (.slice (some ⟨g, 0, none⟩) (Ks.length + 1) cap)) w') :
    if Region.wanted o (yielded ops a.tmps) = true then Oper.wp Try.prog o a W K Q else E' := by
  obtain ⟨i0, hi0, hz0, hz1, hz2⟩ := info_parts infoTerm
  obtain ⟨E, hE, hk⟩ := hv
  have hlk : E.length = Ks.length := by rw [← hk, keysT_len]
  refine step_append_lies W hgd s1 x1 48 ho lo 132 i0 _ 4 64 Try.underlying48 hi0 hz0 hz1 hz2 rfl (by decide) v Ks.length (flatT E) hs (hlk ▸ hE.row) ⟨B, 0, none⟩ 1 1 [.int .i64 x0, .bool sg, x, y] hx rfl (World.news_of_block hB) ?_ (by decide) (by unfold maxLen; omega) (by omega) hlw W.heap.size rfl ?_
  · obtain ⟨a1, c1, rfl, -⟩ := Ints_form hr.i
    obtain ⟨a2, c2, rfl, -⟩ := Ints_form hr.j
    intro u hu
    simp only [List.mem_cons, List.not_mem_nil, or_false] at hu
    rcases hu with rfl | rfl | rfl | rfl <;> rfl
  · intro g cap w' hrow hgr _ hlt
    have hvk : TK p W v Ks lo hi := ⟨E, hE, hk⟩
    exact h g cap w' (hvk.snoc hr hh hl ⟨E, hE, hk, rfl⟩ hrow rfl hgr) ((Below.refl lo W).grown hgr hlw fun k hk => (hE.lt k hk).1) hgr.block
set_option maxRecDepth 100000 in
theorem wpList_pushT {rest : List Oper} {Q : Exit → Act → World → Prop} (hgd : o.guard = none) (s1 x1 : Operand)
    (ho : o.op = .call { callee := .builtin .append, args := #[s1, x1], argTypes := #[48, 48] }) (hs : a.eval s1 = v) (hv : TK p W v Ks lo hi) (hh : hi ≤ lo') (hl : lo ≤ lo') (hr : RO p W lo' sg x y oo)
    (hx : a.eval x1 = .slice (some ⟨B, 0, none⟩) 1 1) (hB : W.heap[B]? = some (.cells #[.int .i64 x0, .bool sg, x, y] 132 (0, 0))) (hlen : Ks.length ≤ 1048576) (hlw : lo ≤ W.heap.size)
    (h : ∀ (g cap : Nat) (w' : World), TK p w' (.slice (some ⟨g, 0, none⟩) (Ks.length + 1) cap) (Ks ++ [tqo x0 oo]) lo w'.heap.size → Below lo W w' → wpList Try.prog ops Q rest (a.put o.dst (.slice (some ⟨g, 0, none⟩) (Ks.length + 1) cap)) w') :
    wpList Try.prog ops Q (o :: rest) a W := by
  obtain ⟨i0, hi0, hz0, hz1, hz2⟩ := info_parts infoTerm
  obtain ⟨E, hE, hk⟩ := hv
  have hlk : E.length = Ks.length := by rw [← hk, keysT_len]
  refine wpList_append_lies W hgd s1 x1 48 ho lo 132 i0 _ 4 64 Try.underlying48 hi0 hz0 hz1 hz2 rfl (by decide) v Ks.length (flatT E) hs (hlk ▸ hE.row) ⟨B, 0, none⟩ 1 1 [.int .i64 x0, .bool sg, x, y] hx rfl (World.news_of_block hB) ?_ (by decide) (by unfold maxLen; omega) (by omega) hlw W.heap.size rfl ?_
  · obtain ⟨a1, c1, rfl, -⟩ := Ints_form hr.i
    obtain ⟨a2, c2, rfl, -⟩ := Ints_form hr.j
    intro u hu
    simp only [List.mem_cons, List.not_mem_nil, or_false] at hu
    rcases hu with rfl | rfl | rfl | rfl <;> rfl
  · intro g cap w' hrow hgr _ hlt
    have hvk : TK p W v Ks lo hi := ⟨E, hE, hk⟩
    exact h g cap w' (hvk.snoc hr hh hl ⟨E, hE, hk, rfl⟩ hrow rfl hgr) ((Below.refl lo W).grown hgr hlw fun k hk => (hE.lt k hk).1)
end
/-! The laws' helpers. -/
theorem eqTermS_k {p1 p2 : Bool} {v1 v2 : Value} {K : List Tq} {l1 h1 l2 h2 : Nat} (hK : szT K ≤ 4194304) (w : World) (o1 : TK p1 w v1 K l1 h1) (o2 : TK p2 w v2 K l2 h2) :
    Calls Try.prog 52 #[v1, v2] w (RetB (.bool true) w) := by
  obtain ⟨E1, o1, rfl⟩ := o1
  obtain ⟨E2, o2, e⟩ := o2
  exact eqTermS_vo p1 p2 v1 v2 E1 E2 l1 h1 l2 h2 e.symm hK w o1 o2
def MarkTK (v : Value) (K : List Tq) (m : Int) (lo hi : Nat) (w : World) (e : Ending) (w' : World) : Prop := e = .returned (.int .i64 (m + (szT K : Int))) ∧ TK true w' v (mkT K m) lo hi ∧ Only (InG lo hi w.heap.size) w w'
theorem markTermS_k {v : Value} {K : List Tq} {m : Int} {lo hi : Nat} (hK : szT K ≤ 4194304) (m0 : 0 ≤ m) (m1 : m ≤ 4194304) (w : World) (o1 : TK true w v K lo hi) :
    Calls Try.prog 54 #[v, .int .i64 m] w (MarkTK v K m lo hi w) := by
  obtain ⟨E, o1, rfl⟩ := o1
  exact (markTermS_vo v E m lo hi hK m0 m1 w o1).mono fun e w' ⟨he, hv, ho⟩ => ⟨he, ⟨_, hv, keysT_mkE E m⟩, ho.mono fun k hk => .inl hk⟩
theorem heldTermS_k {p : Bool} {v : Value} {K : List Tq} {m : Int} {lo hi : Nat} (hK : szT K ≤ 4194304) (m0 : 0 ≤ m) (m1 : m ≤ 4194304) (w : World) (o1 : TK p w v (mkT K m) lo hi) :
    Calls Try.prog 61 #[v, .int .i64 m] w (RetB (.int .i64 (m + (szT K : Int))) w) := by
  obtain ⟨E, o1, e⟩ := o1
  have hk : keysT (K.map fun f => (⟨f, .slice none 0 0, .slice none 0 0⟩ : Et)) = K := by simp [keysT, Function.comp_def]
  have := heldTermS_vo p v E (K.map fun f => ⟨f, .slice none 0 0, .slice none 0 0⟩) m lo hi (by rw [keysT_mkE, hk, e]) (by rw [hk]; exact hK) m0 m1 w o1
  rwa [hk] at this
theorem TerR.eqk {p : Bool} {K K' : List Tq} {w w' : World} {e : Ending} (h : TerR p K w e w') (hk : K = K') : TerR p K' w e w' := by subst hk; exact h
end Go.Proofs.Yteanocjkdehhgaa
