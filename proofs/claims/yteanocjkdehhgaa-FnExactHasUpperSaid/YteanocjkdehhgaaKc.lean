/- Slices of columns' structs: of one's own, read, and such as came in. -/
import Derived.Test.YteanocjkdehhgaaKa
import Derived.Deep.RegionHeld3
namespace Go.Proofs.Yteanocjkdehhgaa
open Go.RowKit
open Go.Lib (hid)
set_option linter.unusedVariables false

/-- A column's struct that is read: its two fractions. -/
structure ClW (w : World) (v u v' u' : Value) (A D F G : List Int) : Prop where
  l : ∃ lo hi, ROw w v u A D lo hi
  h : ∃ lo hi, ROw w v' u' F G lo hi
theorem ClW.old {w w' : World} {v u v' u' : Value} {A D F G : List Int} (h : ClW w v u v' u' A D F G) (hb : Below w.heap.size w w') : ClW w' v u v' u' A D F G := by
  obtain ⟨⟨a, b, x⟩, c, d, y⟩ := h
  exact ⟨⟨a, b, x.old hb⟩, c, d, y.old hb⟩
theorem ClW.form {w : World} {v u v' u' : Value} {A D F G : List Int} (h : ClW w v u v' u' A D F G) : ∃ (a : Option Addr) (c : Nat) (b : Option Addr) (d : Nat) (a' : Option Addr) (c' : Nat) (b' : Option Addr) (d' : Nat), v = .slice a A.length c ∧ u = .slice b D.length d ∧ v' = .slice a' F.length c' ∧ u' = .slice b' G.length d' := by
  obtain ⟨⟨a, b, x⟩, c, d, y⟩ := h
  obtain ⟨a1, c1, b1, d1, rfl, rfl⟩ := x.form
  obtain ⟨a2, c2, b2, d2, rfl, rfl⟩ := y.form
  exact ⟨_, _, _, _, _, _, _, _, rfl, rfl, rfl, rfl⟩
/-- A column's struct of a call's own: its two fractions lie apart. -/
structure ClM (w : World) (v u v' u' : Value) (A D F G : List Int) (l1 h1 l2 h2 : Nat) : Prop where
  l : ROb w v u A D l1 h1
  h : ROb w v' u' F G l2 h2
  d : h1 ≤ l2 ∨ h2 ≤ l1
theorem ClM.w {w : World} {v u v' u' : Value} {A D F G : List Int} {l1 h1 l2 h2 : Nat} (h : ClM w v u v' u' A D F G l1 h1 l2 h2) : ClW w v u v' u' A D F G := ⟨⟨_, _, h.l.w⟩, _, _, h.h.w⟩
theorem ClM.old {w w' : World} {v u v' u' : Value} {A D F G : List Int} {l1 h1 l2 h2 : Nat} (h : ClM w v u v' u' A D F G l1 h1 l2 h2) (hb : Below w.heap.size w w') : ClM w' v u v' u' A D F G l1 h1 l2 h2 := ⟨h.l.old hb, h.h.old hb, h.d⟩
/-- A column's struct that came in. -/
structure ClCame (w : World) (h : Nat) (a : Option Addr) (n : Nat) (A : List Int) (b : Option Addr) (m : Nat) (D : List Int) (a' : Option Addr) (n' : Nat) (F : List Int) (b' : Option Addr) (m' : Nat) (G : List Int) : Prop where
  l : CameR w h a n A b m D
  h : CameR w h a' n' F b' m' G
theorem ClCame.old {w w' : World} {h n m n' m' : Nat} {a b a' b' : Option Addr} {A D F G : List Int} (c : ClCame w h a n A b m D a' n' F b' m' G) (hb : Below w.heap.size w w') : ClCame w' h a n A b m D a' n' F b' m' G := ⟨c.l.old hb, c.h.old hb⟩
theorem ClCame.onlyG {w w' : World} {h n m n' m' lo hi : Nat} {a b a' b' : Option Addr} {A D F G : List Int} (c : ClCame w h a n A b m D a' n' F b' m' G) (hb : Only (InG lo hi w.heap.size) w w') (hlo : h ≤ lo) : ClCame w' h a n A b m D a' n' F b' m' G := ⟨c.l.onlyG hb hlo, c.h.onlyG hb hlo⟩
/-- What such a struct holds. -/
structure Cq where
  n : ByteArray
  s : Bool
  A : List Int
  D : List Int
  z : Bool
  F : List Int
  G : List Int
  b : Bool
/-- A struct in a slice: what it holds, its slices, where they lie. -/
structure Ec where
  q : Cq
  v : Value
  u : Value
  v' : Value
  u' : Value
  l1 : Nat
  h1 : Nat
  l2 : Nat
  h2 : Nat
def Ec.cs (e : Ec) : List Value := [.string e.q.n, .bool e.q.s, e.v, e.u, .bool e.q.z, e.v', e.u', .bool e.q.b]
def kdC : Kd Ec where
  n := 8
  cs := Ec.cs
  len := fun e => rfl
  inr := fun (e : Ec) (k : Nat) => (e.l1 ≤ k ∧ k < e.h1) ∨ (e.l2 ≤ k ∧ k < e.h2)
  P := fun (w : World) (e : Ec) => ClM w e.v e.u e.v' e.u' e.q.A e.q.D e.q.F e.q.G e.l1 e.h1 e.l2 e.h2 ∧ e.h1 ≤ w.heap.size ∧ e.h2 ≤ w.heap.size
  keep := fun {w w' e S} h hb hS => ⟨⟨h.1.l.onlyS hb fun k h1 h2 => hS k (.inl ⟨h1, h2⟩), h.1.h.onlyS hb fun k h1 h2 => hS k (.inr ⟨h1, h2⟩), h.1.d⟩, Nat.le_trans h.2.1 hb.size, Nat.le_trans h.2.2 hb.size⟩
  lt := fun {w e} h k hk => by have := h.2; omega
/-- How many places the law counts, how many it marks. -/
def Cq.m (q : Cq) : Nat := 1 + q.n.size + q.A.length + q.D.length + q.F.length + q.G.length
def Cq.nm (q : Cq) : Nat := 4 + q.A.length + q.D.length + q.F.length + q.G.length
theorem Cq.m1 (q : Cq) : 1 ≤ q.m := by simp only [Cq.m]; omega
theorem Cq.n1 (q : Cq) : 1 ≤ q.nm := by simp only [Cq.nm]; omega
/-- A slice of a call's own that holds L, in the blocks S. -/
def CM (w : World) (v : Value) (L : List Cq) (lo : Nat) (S : Nat → Prop) : Prop := ∃ E : List Ec, GO kdC 35 w v E lo S ∧ E.map Ec.q = L
/-- A slice that reads as L. -/
def CS (w : World) (v : Value) (L : List Cq) : Prop := ∃ E : List Ec, GR 8 Ec.cs (fun (w : World) (e : Ec) => ClW w e.v e.u e.v' e.u' e.q.A e.q.D e.q.F e.q.G) w v E ∧ E.map Ec.q = L
theorem CM.old {w w' : World} {v : Value} {L : List Cq} {lo : Nat} {S : Nat → Prop} (h : CM w v L lo S) (hb : Below w.heap.size w w') : CM w' v L lo S := by
  obtain ⟨E, h, e⟩ := h
  exact ⟨E, h.old hb, e⟩
theorem CM.only {w w' : World} {v : Value} {L : List Cq} {lo : Nat} {S S' : Nat → Prop} (h : CM w v L lo S) (hb : Only S' w w') (hd : ∀ k, S k → ¬ S' k) : CM w' v L lo S := by
  obtain ⟨E, h, e⟩ := h
  exact ⟨E, h.only hb hd, e⟩
theorem CM.mono {w : World} {v : Value} {L : List Cq} {lo lo' : Nat} {S S' : Nat → Prop} (h : CM w v L lo S) (hl : lo' ≤ lo) (hs : ∀ k, S k → S' k) : CM w v L lo' S' := by
  obtain ⟨E, h, e⟩ := h
  exact ⟨E, h.mono hl hs, e⟩
theorem CS.old {w w' : World} {v : Value} {L : List Cq} (h : CS w v L) (hb : Below w.heap.size w w') : CS w' v L := by
  obtain ⟨E, h, e⟩ := h
  exact ⟨E, GR.old (P := fun (w : World) (e : Ec) => ClW w e.v e.u e.v' e.u' e.q.A e.q.D e.q.F e.q.G) (fun x hx => hx.old hb) h hb, e⟩
theorem CM.r {w : World} {v : Value} {L : List Cq} {lo : Nat} {S : Nat → Prop} (h : CM w v L lo S) : CS w v L := by
  obtain ⟨E, h, e⟩ := h
  exact ⟨E, GO.r (P := fun (w : World) (e : Ec) => ClW w e.v e.u e.v' e.u' e.q.A e.q.D e.q.F e.q.G) h fun x h => h.1.w, e⟩
theorem CS.form {w : World} {v : Value} {L : List Cq} (h : CS w v L) : ∃ a c, v = .slice a L.length c := by
  obtain ⟨E, h, rfl⟩ := h
  obtain ⟨a, c, rfl⟩ := h.form
  exact ⟨a, c, by rw [List.length_map]⟩
theorem CM.form {w : World} {v : Value} {L : List Cq} {lo : Nat} {S : Nat → Prop} (h : CM w v L lo S) : ∃ a c, v = .slice a L.length c := h.r.form
theorem CM.len {w : World} {v : Value} {L : List Cq} {lo : Nat} {S : Nat → Prop} (h : CM w v L lo S) : L.length ≤ maxLen := by
  obtain ⟨E, h, rfl⟩ := h
  rw [List.length_map]
  exact h.len
theorem CS.num {w : World} {a : Option Addr} {m c : Nat} {L : List Cq} (h : CS w (.slice a m c) L) : m = L.length := by
  obtain ⟨E, h, rfl⟩ := h
  rw [List.length_map]
  exact h.num
theorem CS.at {w : World} {a : Option Addr} {m c : Nat} {L : List Cq} (h : CS w (.slice a m c) L) {i : Nat} (hi : i < L.length) :
    ∃ g o v u v' u', a = some ⟨g, o, none⟩ ∧ g < w.heap.size ∧ w.cell? ⟨g, o + i * 8, none⟩ = some (.string L[i].n) ∧ w.cell? ⟨g, o + i * 8 + 1, none⟩ = some (.bool L[i].s) ∧ w.cell? ⟨g, o + i * 8 + 2, none⟩ = some (v) ∧ w.cell? ⟨g, o + i * 8 + 3, none⟩ = some (u) ∧ w.cell? ⟨g, o + i * 8 + 4, none⟩ = some (.bool L[i].z) ∧ w.cell? ⟨g, o + i * 8 + 5, none⟩ = some (v') ∧ w.cell? ⟨g, o + i * 8 + 6, none⟩ = some (u') ∧ w.cell? ⟨g, o + i * 8 + 7, none⟩ = some (.bool L[i].b) ∧ ClW w v u v' u' L[i].A L[i].D L[i].F L[i].G := by
  obtain ⟨E, h, rfl⟩ := h
  rw [List.length_map] at hi
  obtain ⟨g, o, h1, h2, h3, h4⟩ := h.at hi
  rw [List.getElem_map]
  exact ⟨g, o, E[i].v, E[i].u, E[i].v', E[i].u', h1, h2, h3 0 _ rfl, h3 1 _ rfl, h3 2 _ rfl, h3 3 _ rfl, h3 4 _ rfl, h3 5 _ rfl, h3 6 _ rfl, h3 7 _ rfl, h4⟩
/-- A struct that came in. -/
structure CameC (w : World) (h : Nat) (g o : Nat) (f : Cq) : Prop where
  ex : ∃ a c b d a' c' b' d', w.cell? ⟨g, o, none⟩ = some (.string f.n) ∧ w.cell? ⟨g, o + 1, none⟩ = some (.bool f.s) ∧ w.cell? ⟨g, o + 2, none⟩ = some (.slice a f.A.length c) ∧ w.cell? ⟨g, o + 3, none⟩ = some (.slice b f.D.length d) ∧ w.cell? ⟨g, o + 4, none⟩ = some (.bool f.z) ∧ w.cell? ⟨g, o + 5, none⟩ = some (.slice a' f.F.length c') ∧ w.cell? ⟨g, o + 6, none⟩ = some (.slice b' f.G.length d') ∧ w.cell? ⟨g, o + 7, none⟩ = some (.bool f.b) ∧ ClCame w h a f.A.length f.A b f.D.length f.D a' f.F.length f.F b' f.G.length f.G
theorem CameC.old {w w' : World} {h g o : Nat} {f : Cq} (c : CameC w h g o f) (hb : Below w.heap.size w w') (hg : g < w.heap.size) : CameC w' h g o f := by
  obtain ⟨a, c, b, d, a', c', b', d', h0, h1, h2, h3, h4, h5, h6, h7, r⟩ := c.ex
  exact ⟨⟨a, c, b, d, a', c', b', d', (hb.cell (p := ⟨g, o, none⟩) hg).trans h0, (hb.cell (p := ⟨g, o + 1, none⟩) hg).trans h1, (hb.cell (p := ⟨g, o + 2, none⟩) hg).trans h2, (hb.cell (p := ⟨g, o + 3, none⟩) hg).trans h3, (hb.cell (p := ⟨g, o + 4, none⟩) hg).trans h4, (hb.cell (p := ⟨g, o + 5, none⟩) hg).trans h5, (hb.cell (p := ⟨g, o + 6, none⟩) hg).trans h6, (hb.cell (p := ⟨g, o + 7, none⟩) hg).trans h7, r.old hb⟩⟩
theorem CameC.onlyG {w w' : World} {h g o lo hi : Nat} {f : Cq} (c : CameC w h g o f) (hb : Only (InG lo hi w.heap.size) w w') (hlo : h ≤ lo) (hg : g < h) (hg' : g < w.heap.size) : CameC w' h g o f := by
  obtain ⟨a, c, b, d, a', c', b', d', h0, h1, h2, h3, h4, h5, h6, h7, r⟩ := c.ex
  have hn : ¬ InG lo hi w.heap.size g := fun hs => by have := InG_cases hs; omega
  exact ⟨⟨a, c, b, d, a', c', b', d', (hb.cell (p := ⟨g, o, none⟩) hn).trans h0, (hb.cell (p := ⟨g, o + 1, none⟩) hn).trans h1, (hb.cell (p := ⟨g, o + 2, none⟩) hn).trans h2, (hb.cell (p := ⟨g, o + 3, none⟩) hn).trans h3, (hb.cell (p := ⟨g, o + 4, none⟩) hn).trans h4, (hb.cell (p := ⟨g, o + 5, none⟩) hn).trans h5, (hb.cell (p := ⟨g, o + 6, none⟩) hn).trans h6, (hb.cell (p := ⟨g, o + 7, none⟩) hn).trans h7, r.onlyG hb hlo⟩⟩
def CCame (w : World) (h : Nat) (a : Option Addr) (n : Nat) (L : List Cq) : Prop :=
  n = L.length ∧ (0 < L.length → ∃ g o, a = some ⟨g, o, none⟩ ∧ g < h ∧ g < w.heap.size ∧ ∀ i (hi : i < L.length), CameC w h g (o + i * 8) L[i])
theorem CCame.old {w w' : World} {h n : Nat} {a : Option Addr} {L : List Cq} (c : CCame w h a n L) (hb : Below w.heap.size w w') : CCame w' h a n L :=
  ⟨c.1, fun h0 => by
    obtain ⟨g, o, e, hh, hg, hc⟩ := c.2 h0
    exact ⟨g, o, e, hh, Nat.lt_of_lt_of_le hg hb.size, fun i hi => (hc i hi).old hb hg⟩⟩
theorem CCame.onlyG {w w' : World} {h n lo hi : Nat} {a : Option Addr} {L : List Cq} (c : CCame w h a n L) (hb : Only (InG lo hi w.heap.size) w w') (hlo : h ≤ lo) : CCame w' h a n L :=
  ⟨c.1, fun h0 => by
    obtain ⟨g, o, e, hh, hg, hc⟩ := c.2 h0
    exact ⟨g, o, e, hh, Nat.lt_of_lt_of_le hg hb.size, fun i hi => (hc i hi).onlyG hb hlo hh hg⟩⟩
end Go.Proofs.Yteanocjkdehhgaa
