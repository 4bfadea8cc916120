/- Merged: Kc Kcc. -/
import Derived.Test.YteanocjkdehhgaaKa
import Derived.Deep.RegionHeld3
/- Slices of columns' structs: of one's own, read, and such as came in. -/
namespace Go.Proofs.Yteanocjkdehhgaa
open Go.RowKit
open Go.Lib (hid)
set_option linter.unusedVariables false

/-- A column's struct that is read: its two fractions. -/
structure ClW (w : World) (v u v' u' : Value) (A D F G : List Int) : Prop where
  l : ∃ lo hi, ROw w v u A D lo hi
  h : ∃ lo hi, ROw w v' u' F G lo hi
theorem ClW.old {w w' : World} {v u v' u' : Value} {A D F G : List Int} (h : ClW w v u v' u' A D F G) (hb : Below w.heap.size w w') : ClW w' v u v' u' A D F G := by
  obtain ⟨⟨a, b, x⟩, c, d, y⟩ := h
  exact ⟨⟨a, b, x.old hb⟩, c, d, y.old hb⟩
theorem ClW.form {w : World} {v u v' u' : Value} {A D F G : List Int} (h : ClW w v u v' u' A D F G) : ∃ (a : Option Addr) (c : Nat) (b : Option Addr) (d : Nat) (a' : Option Addr) (c' : Nat) (b' : Option Addr) (d' : Nat), v = .slice a A.length c ∧ u = .slice b D.length d ∧ v' = .slice a' F.length c' ∧ u' = .slice b' G.length d' := by
  obtain ⟨⟨a, b, x⟩, c, d, y⟩ := h
  obtain ⟨a1, c1, b1, d1, rfl, rfl⟩ := x.form
  obtain ⟨a2, c2, b2, d2, rfl, rfl⟩ := y.form
  exact ⟨_, _, _, _, _, _, _, _, rfl, rfl, rfl, rfl⟩
/-- A column's struct of a call's own: its two fractions lie apart. -/
structure ClM (w : World) (v u v' u' : Value) (A D F G : List Int) (l1 h1 l2 h2 : Nat) : Prop where
  l : ROb w v u A D l1 h1
  h : ROb w v' u' F G l2 h2
  d : h1 ≤ l2 ∨ h2 ≤ l1
theorem ClM.w {w : World} {v u v' u' : Value} {A D F G : List Int} {l1 h1 l2 h2 : Nat} (h : ClM w v u v' u' A D F G l1 h1 l2 h2) : ClW w v u v' u' A D F G := ⟨⟨_, _, h.l.w⟩, _, _, h.h.w⟩
theorem ClM.old {w w' : World} {v u v' u' : Value} {A D F G : List Int} {l1 h1 l2 h2 : Nat} (h : ClM w v u v' u' A D F G l1 h1 l2 h2) (hb : Below w.heap.size w w') : ClM w' v u v' u' A D F G l1 h1 l2 h2 := ⟨h.l.old hb, h.h.old hb, h.d⟩
/-- A column's struct that came in. -/
structure ClCame (w : World) (h : Nat) (a : Option Addr) (n : Nat) (A : List Int) (b : Option Addr) (m : Nat) (D : List Int) (a' : Option Addr) (n' : Nat) (F : List Int) (b' : Option Addr) (m' : Nat) (G : List Int) : Prop where
  l : CameR w h a n A b m D
  h : CameR w h a' n' F b' m' G
theorem ClCame.old {w w' : World} {h n m n' m' : Nat} {a b a' b' : Option Addr} {A D F G : List Int} (c : ClCame w h a n A b m D a' n' F b' m' G) (hb : Below w.heap.size w w') : ClCame w' h a n A b m D a' n' F b' m' G := ⟨c.l.old hb, c.h.old hb⟩
theorem ClCame.onlyG {w w' : World} {h n m n' m' lo hi : Nat} {a b a' b' : Option Addr} {A D F G : List Int} (c : ClCame w h a n A b m D a' n' F b' m' G) (hb : Only (InG lo hi w.heap.size) w w') (hlo : h ≤ lo) : ClCame w' h a n A b m D a' n' F b' m' G := ⟨c.l.onlyG hb hlo, c.h.onlyG hb hlo⟩
/-- What such a struct holds. -/
structure Cq where
  n : ByteArray
  s : Bool
  A : List Int
  D : List Int
  z : Bool
  F : List Int
  G : List Int
  b : Bool
/-- A struct in a slice: what it holds, its slices, where they lie. -/
structure Ec where
  q : Cq
  v : Value
  u : Value
  v' : Value
  u' : Value
  l1 : Nat
  h1 : Nat
  l2 : Nat
  h2 : Nat
def Ec.cs (e : Ec) : List Value := [.string e.q.n, .bool e.q.s, e.v, e.u, .bool e.q.z, e.v', e.u', .bool e.q.b]
def kdC : Kd Ec where
  n := 8
  cs := Ec.cs
  len := fun e => rfl
  inr := fun (e : Ec) (k : Nat) => (e.l1 ≤ k ∧ k < e.h1) ∨ (e.l2 ≤ k ∧ k < e.h2)
  P := fun (w : World) (e : Ec) => ClM w e.v e.u e.v' e.u' e.q.A e.q.D e.q.F e.q.G e.l1 e.h1 e.l2 e.h2 ∧ e.h1 ≤ w.heap.size ∧ e.h2 ≤ w.heap.size
  keep := fun {w w' e S} h hb hS => ⟨⟨h.1.l.onlyS hb fun k h1 h2 => hS k (.inl ⟨h1, h2⟩), h.1.h.onlyS hb fun k h1 h2 => hS k (.inr ⟨h1, h2⟩), h.1.d⟩, Nat.le_trans h.2.1 hb.size, Nat.le_trans h.2.2 hb.size⟩
  lt := fun {w e} h k hk => by have := h.2; omega
/-- How many places the law counts, how many it marks. -/
def Cq.m (q : Cq) : Nat := 1 + q.n.size + q.A.length + q.D.length + q.F.length + q.G.length
def Cq.nm (q : Cq) : Nat := 4 + q.A.length + q.D.length + q.F.length + q.G.length
theorem Cq.m1 (q : Cq) : 1 ≤ q.m := by simp only [Cq.m]; omega
theorem Cq.n1 (q : Cq) : 1 ≤ q.nm := by simp only [Cq.nm]; omega
/-- A slice of a call's own that holds L, in the blocks S. -/
def CM (w : World) (v : Value) (L : List Cq) (lo : Nat) (S : Nat → Prop) : Prop := ∃ E : List Ec, GO kdC 35 w v E lo S ∧ E.map Ec.q = L
/-- A slice that reads as L. -/
def CS (w : World) (v : Value) (L : List Cq) : Prop := ∃ E : List Ec, GR 8 Ec.cs (fun (w : World) (e : Ec) => ClW w e.v e.u e.v' e.u' e.q.A e.q.D e.q.F e.q.G) w v E ∧ E.map Ec.q = L
theorem CM.old {w w' : World} {v : Value} {L : List Cq} {lo : Nat} {S : Nat → Prop} (h : CM w v L lo S) (hb : Below w.heap.size w w') : CM w' v L lo S := by
  obtain ⟨E, h, e⟩ := h
  exact ⟨E, h.old hb, e⟩
theorem CM.only {w w' : World} {v : Value} {L : List Cq} {lo : Nat} {S S' : Nat → Prop} (h : CM w v L lo S) (hb : Only S' w w') (hd : ∀ k, S k → ¬ S' k) : CM w' v L lo S := by
  obtain ⟨E, h, e⟩ := h
  exact ⟨E, h.only hb hd, e⟩
theorem CM.mono {w : World} {v : Value} {L : List Cq} {lo lo' : Nat} {S S' : Nat → Prop} (h : CM w v L lo S) (hl : lo' ≤ lo) (hs : ∀ k, S k → S' k) : CM w v L lo' S' := by
  obtain ⟨E, h, e⟩ := h
  exact ⟨E, h.mono hl hs, e⟩
theorem CS.old {w w' : World} {v : Value} {L : List Cq} (h : CS w v L) (hb : Below w.heap.size w w') : CS w' v L := by
  obtain ⟨E, h, e⟩ := h
  exact ⟨E, GR.old (P := fun (w : World) (e : Ec) => ClW w e.v e.u e.v' e.u' e.q.A e.q.D e.q.F e.q.G) (fun x hx => hx.old hb) h hb, e⟩
theorem CM.r {w : World} {v : Value} {L : List Cq} {lo : Nat} {S : Nat → Prop} (h : CM w v L lo S) : CS w v L := by
  obtain ⟨E, h, e⟩ := h
  exact ⟨E, GO.r (P := fun (w : World) (e : Ec) => ClW w e.v e.u e.v' e.u' e.q.A e.q.D e.q.F e.q.G) h fun x h => h.1.w, e⟩
theorem CS.form {w : World} {v : Value} {L : List Cq} (h : CS w v L) : ∃ a c, v = .slice a L.length c := by
  obtain ⟨E, h, rfl⟩ := h
  obtain ⟨a, c, rfl⟩ := h.form
  exact ⟨a, c, by rw [List.length_map]⟩
theorem CM.form {w : World} {v : Value} {L : List Cq} {lo : Nat} {S : Nat → Prop} (h : CM w v L lo S) : ∃ a c, v = .slice a L.length c := h.r.form
theorem CM.len {w : World} {v : Value} {L : List Cq} {lo : Nat} {S : Nat → Prop} (h : CM w v L lo S) : L.length ≤ maxLen := by
  obtain ⟨E, h, rfl⟩ := h
  rw [List.length_map]
  exact h.len
theorem CS.num {w : World} {a : Option Addr} {m c : Nat} {L : List Cq} (h : CS w (.slice a m c) L) : m = L.length := by
  obtain ⟨E, h, rfl⟩ := h
  rw [List.length_map]
  exact h.num
theorem CS.at {w : World} {a : Option Addr} {m c : Nat} {L : List Cq} (h : CS w (.slice a m c) L) {i : Nat} (hi : i < L.length) :
    ∃ g o v u v' u', a = some ⟨g, o, none⟩ ∧ g < w.heap.size ∧ w.cell? ⟨g, o + i * 8, none⟩ = some (.string L[i].n) ∧ w.cell? ⟨g, o + i * 8 + 1, none⟩ = some (.bool L[i].s) ∧ w.cell? ⟨g, o + i * 8 + 2, none⟩ = some (v) ∧ w.cell? ⟨g, o + i * 8 + 3, none⟩ = some (u) ∧ w.cell? ⟨g, o + i * 8 + 4, none⟩ = some (.bool L[i].z) ∧ w.cell? ⟨g, o + i * 8 + 5, none⟩ = some (v') ∧ w.cell? ⟨g, o + i * 8 + 6, none⟩ = some (u') ∧ w.cell? ⟨g, o + i * 8 + 7, none⟩ = some (.bool L[i].b) ∧ ClW w v u v' u' L[i].A L[i].D L[i].F L[i].G := by
  obtain ⟨E, h, rfl⟩ := h
  rw [List.length_map] at hi
  obtain ⟨g, o, h1, h2, h3, h4⟩ := h.at hi
  rw [List.getElem_map]
  exact ⟨g, o, E[i].v, E[i].u, E[i].v', E[i].u', h1, h2, h3 0 _ rfl, h3 1 _ rfl, h3 2 _ rfl, h3 3 _ rfl, h3 4 _ rfl, h3 5 _ rfl, h3 6 _ rfl, h3 7 _ rfl, h4⟩
/-- A struct that came in. -/
structure CameC (w : World) (h : Nat) (g o : Nat) (f : Cq) : Prop where
  ex : ∃ a c b d a' c' b' d', w.cell? ⟨g, o, none⟩ = some (.string f.n) ∧ w.cell? ⟨g, o + 1, none⟩ = some (.bool f.s) ∧ w.cell? ⟨g, o + 2, none⟩ = some (.slice a f.A.length c) ∧ w.cell? ⟨g, o + 3, none⟩ = some (.slice b f.D.length d) ∧ w.cell? ⟨g, o + 4, none⟩ = some (.bool f.z) ∧ w.cell? ⟨g, o + 5, none⟩ = some (.slice a' f.F.length c') ∧ w.cell? ⟨g, o + 6, none⟩ = some (.slice b' f.G.length d') ∧ w.cell? ⟨g, o + 7, none⟩ = some (.bool f.b) ∧ ClCame w h a f.A.length f.A b f.D.length f.D a' f.F.length f.F b' f.G.length f.G
theorem CameC.old {w w' : World} {h g o : Nat} {f : Cq} (c : CameC w h g o f) (hb : Below w.heap.size w w') (hg : g < w.heap.size) : CameC w' h g o f := by
  obtain ⟨a, c, b, d, a', c', b', d', h0, h1, h2, h3, h4, h5, h6, h7, r⟩ := c.ex
  exact ⟨⟨a, c, b, d, a', c', b', d', (hb.cell (p := ⟨g, o, none⟩) hg).trans h0, (hb.cell (p := ⟨g, o + 1, none⟩) hg).trans h1, (hb.cell (p := ⟨g, o + 2, none⟩) hg).trans h2, (hb.cell (p := ⟨g, o + 3, none⟩) hg).trans h3, (hb.cell (p := ⟨g, o + 4, none⟩) hg).trans h4, (hb.cell (p := ⟨g, o + 5, none⟩) hg).trans h5, (hb.cell (p := ⟨g, o + 6, none⟩) hg).trans h6, (hb.cell (p := ⟨g, o + 7, none⟩) hg).trans h7, r.old hb⟩⟩
theorem CameC.onlyG {w w' : World} {h g o lo hi : Nat} {f : Cq} (c : CameC w h g o f) (hb : Only (InG lo hi w.heap.size) w w') (hlo : h ≤ lo) (hg : g < h) (hg' : g < w.heap.size) : CameC w' h g o f := by
  obtain ⟨a, c, b, d, a', c', b', d', h0, h1, h2, h3, h4, h5, h6, h7, r⟩ := c.ex
  have hn : ¬ InG lo hi w.heap.size g := fun hs => by have := InG_cases hs; omega
  exact ⟨⟨a, c, b, d, a', c', b', d', (hb.cell (p := ⟨g, o, none⟩) hn).trans h0, (hb.cell (p := ⟨g, o + 1, none⟩) hn).trans h1, (hb.cell (p := ⟨g, o + 2, none⟩) hn).trans h2, (hb.cell (p := ⟨g, o + 3, none⟩) hn).trans h3, (hb.cell (p := ⟨g, o + 4, none⟩) hn).trans h4, (hb.cell (p := ⟨g, o + 5, none⟩) hn).trans h5, (hb.cell (p := ⟨g, o + 6, none⟩) hn).trans h6, (hb.cell (p := ⟨g, o + 7, none⟩) hn).trans h7, r.onlyG hb hlo⟩⟩
def CCame (w : World) (h : Nat) (a : Option Addr) (n : Nat) (L : List Cq) : Prop :=
  n = L.length ∧ (0 < L.length → ∃ g o, a = some ⟨g, o, none⟩ ∧ g < h ∧ g < w.heap.size ∧ ∀ i (hi : i < L.length), CameC w h g (o + i * 8) L[i])
theorem CCame.old {w w' : World} {h n : Nat} {a : Option Addr} {L : List Cq} (c : CCame w h a n L) (hb : Below w.heap.size w w') : CCame w' h a n L :=
  ⟨c.1, fun h0 => by
    obtain ⟨g, o, e, hh, hg, hc⟩ := c.2 h0
    exact ⟨g, o, e, hh, Nat.lt_of_lt_of_le hg hb.size, fun i hi => (hc i hi).old hb hg⟩⟩
theorem CCame.onlyG {w w' : World} {h n lo hi : Nat} {a : Option Addr} {L : List Cq} (c : CCame w h a n L) (hb : Only (InG lo hi w.heap.size) w w') (hlo : h ≤ lo) : CCame w' h a n L :=
  ⟨c.1, fun h0 => by
    obtain ⟨g, o, e, hh, hg, hc⟩ := c.2 h0
    exact ⟨g, o, e, hh, Nat.lt_of_lt_of_le hg hb.size, fun i hi => (hc i hi).onlyG hb hlo hh hg⟩⟩
end Go.Proofs.Yteanocjkdehhgaa

/- The laws' helpers on a column's struct: size, copy, equality. -/
namespace Go.Proofs.Yteanocjkdehhgaa
open Go.RowKit
open Go.Lib (hid)
set_option linter.unusedVariables false

set_option maxRecDepth 100000 in
set_option maxHeartbeats 6400000 in
theorem szCol_yes (n : ByteArray) (s : Bool) (a : Option Addr) (na ca : Nat) (d : Option Addr) (nd cd : Nat) (z : Bool) (f : Option Addr) (nf cf : Nat) (g : Option Addr) (ng cg : Nat) (b : Bool) (y : Int) (h0 : (n.size : Int) + (na : Int) + (nd : Int) + (nf : Int) + (ng : Int) ≤ y) (h1 : y ≤ 1048576) (w : World) :
    Calls Try.prog 10 #[.agg #[.string n, .bool s, .slice a na ca, .slice d nd cd, .bool z, .slice f nf cf, .slice g ng cg, .bool b], .int .i64 y] w (RetB (.int .i64 (y - (n.size : Int) - na - nd - nf - ng)) w) := by
  have B := hid (below_new' (w := w) (o := .cells #[.string n, .bool s, .slice a na ca, .slice d nd cd, .bool z, .slice f nf cf, .slice g ng cg, .bool b] 28))
  have LX := hid (LocA.new (w := w) (T := 28) (cs := #[.string n, .bool s, .slice a na ca, .slice d nd cd, .bool z, .slice f nf cf, .slice g ng cg, .bool b]))
  have e0 : ¬ y - (n.size : Int) < 0 := by omega
  have K1 := hid (szRat_yes s a na ca d nd cd (y - (n.size : Int)) (by omega) (by omega))
  have e1 : ¬ y - (n.size : Int) - (na : Int) - (nd : Int) < 0 := by omega
  have K2 := hid (szRat_yes z f nf cf g ng cg (y - (n.size : Int) - (na : Int) - (nd : Int)) (by omega) (by omega))
  have e2 : ¬ y - (n.size : Int) - (na : Int) - (nd : Int) - (nf : Int) - (ng : Int) < 0 := by omega
  go_enter Try.func10, Try.ntmps10
  go_wp2_with fail
  generalize w.alloc (.cells #[.string n, .bool s, .slice a na ca, .slice d nd cd, .bool z, .slice f nf cf, .slice g ng cg, .bool b] 28) = W at B LX ⊢
  (with_reducible refine (K1.out _).mono ?_)
  rintro e w1 ⟨rfl, b1⟩
  have B := hid (B.out.trans (b1.mono B.out.size))
  have LX := hid (LX.out.old b1)
  have q0 := LX.out.c 4 rfl
  have q1 := LX.out.c 5 rfl
  have q2 := LX.out.c 6 rfl
  clear b1
  go_wp2_with fail
  (with_reducible refine (K2.out _).mono ?_)
  rintro e w2 ⟨rfl, b2⟩
  have B := hid (B.out.trans (b2.mono B.out.size))
  clear b2 q0 q1 q2
  go_wp2
  go_ret
  exact ⟨rfl, B.out⟩
set_option maxRecDepth 100000 in
set_option maxHeartbeats 6400000 in
theorem szCol_no (n : ByteArray) (s : Bool) (a : Option Addr) (na ca : Nat) (d : Option Addr) (nd cd : Nat) (z : Bool) (f : Option Addr) (nf cf : Nat) (g : Option Addr) (ng cg : Nat) (b : Bool) (y : Int) (hn : n.size ≤ maxLen) (ha : na ≤ maxLen) (hd : nd ≤ maxLen) (hf : nf ≤ maxLen) (hg : ng ≤ maxLen) (h0 : y < (n.size : Int) + (na : Int) + (nd : Int) + (nf : Int) + (ng : Int)) (hz : 0 ≤ y) (h1 : y ≤ 1048576) (w : World) :
    Calls Try.prog 10 #[.agg #[.string n, .bool s, .slice a na ca, .slice d nd cd, .bool z, .slice f nf cf, .slice g ng cg, .bool b], .int .i64 y] w (RetB (.int .i64 (-1)) w) := by
  unfold maxLen at *
  have B := hid (below_new' (w := w) (o := .cells #[.string n, .bool s, .slice a na ca, .slice d nd cd, .bool z, .slice f nf cf, .slice g ng cg, .bool b] 28))
  have LX := hid (LocA.new (w := w) (T := 28) (cs := #[.string n, .bool s, .slice a na ca, .slice d nd cd, .bool z, .slice f nf cf, .slice g ng cg, .bool b]))
  by_cases c0 : y < (n.size : Int)
  case pos =>
    have e0 : y - (n.size : Int) < 0 := by omega
    go_enter Try.func10, Try.ntmps10
    go_wp2
    go_ret
    exact ⟨rfl, B.out⟩
  by_cases c1 : y < (n.size : Int) + (na : Int) + (nd : Int)
  case pos =>
    have e0 : ¬ y - (n.size : Int) < 0 := by omega
    have K1 := hid (szRat_no s a na ca d nd cd (y - (n.size : Int)) ha hd (by omega) (by omega) (by omega))
    go_enter Try.func10, Try.ntmps10
    go_wp2_with fail
    generalize w.alloc (.cells #[.string n, .bool s, .slice a na ca, .slice d nd cd, .bool z, .slice f nf cf, .slice g ng cg, .bool b] 28) = W at B LX ⊢
    (with_reducible refine (K1.out _).mono ?_)
    rintro e w1 ⟨rfl, b1⟩
    have B := hid (B.out.trans (b1.mono B.out.size))
    have LX := hid (LX.out.old b1)
    clear b1
    go_wp2
    go_ret
    exact ⟨rfl, B.out⟩
  have e0 : ¬ y - (n.size : Int) < 0 := by omega
  have K1 := hid (szRat_yes s a na ca d nd cd (y - (n.size : Int)) (by omega) (by omega))
  have e1 : ¬ y - (n.size : Int) - (na : Int) - (nd : Int) < 0 := by omega
  have K2 := hid (szRat_no z f nf cf g ng cg (y - (n.size : Int) - (na : Int) - (nd : Int)) hf hg (by omega) (by omega) (by omega))
  go_enter Try.func10, Try.ntmps10
  go_wp2_with fail
  generalize w.alloc (.cells #[.string n, .bool s, .slice a na ca, .slice d nd cd, .bool z, .slice f nf cf, .slice g ng cg, .bool b] 28) = W at B LX ⊢
  (with_reducible refine (K1.out _).mono ?_)
  rintro e w1 ⟨rfl, b1⟩
  have B := hid (B.out.trans (b1.mono B.out.size))
  have LX := hid (LX.out.old b1)
  have q0 := LX.out.c 4 rfl
  have q1 := LX.out.c 5 rfl
  have q2 := LX.out.c 6 rfl
  clear b1
  go_wp2_with fail
  (with_reducible refine (K2.out _).mono ?_)
  rintro e w2 ⟨rfl, b2⟩
  have B := hid (B.out.trans (b2.mono B.out.size))
  clear b2 q0 q1 q2
  go_wp2
  go_ret
  exact ⟨rfl, B.out⟩
/-- A column's struct of a call's own is returned. -/
def ColRM (n : ByteArray) (s : Bool) (A D : List Int) (z : Bool) (F G : List Int) (b : Bool) (w : World) (e : Ending) (w' : World) : Prop := ∃ a c b1 d a' c' b' d' mi, e = .returned (.agg #[.string n, .bool s, .slice a A.length c, .slice b1 D.length d, .bool z, .slice a' F.length c', .slice b' G.length d', .bool b]) ∧ ClM w' (.slice a A.length c) (.slice b1 D.length d) (.slice a' F.length c') (.slice b' G.length d') A D F G w.heap.size mi mi w'.heap.size ∧ w.heap.size ≤ mi ∧ mi ≤ w'.heap.size ∧ Below w.heap.size w w'
set_option maxRecDepth 100000 in
set_option maxHeartbeats 6400000 in
theorem toCol_came (n : ByteArray) (s : Bool) (a : Option Addr) (na ca : Nat) (d : Option Addr) (nd cd : Nat) (z : Bool) (f : Option Addr) (nf cf : Nat) (g : Option Addr) (ng cg : Nat) (b : Bool) (h : Nat) (A D F G : List Int) (hA : A.length ≤ 1073741824) (hD : D.length ≤ 1073741824) (hF : F.length ≤ 1073741824) (hG : G.length ≤ 1073741824) (w : World) (h1 : ClCame w h a na A d nd D f nf F g ng G) :
    Calls Try.prog 12 #[.agg #[.string n, .bool s, .slice a na ca, .slice d nd cd, .bool z, .slice f nf cf, .slice g ng cg, .bool b]] w (ColRM n s A D z F G b w) := by
  have H := hid h1
  have K1 := hid (fun (W : World) (r : CameR W h a na A d nd D) => toRat_came s a na ca d nd cd h A D hA hD W r)
  have K2 := hid (fun (W : World) (r : CameR W h f nf F g ng G) => toRat_came z f nf cf g ng cg h F G hF hG W r)
  clear h1
  have B := hid (show Below w.heap.size w (((w.alloc (.cells #[.string n, .bool s, .slice a na ca, .slice d nd cd, .bool z, .slice f nf cf, .slice g ng cg, .bool b] 28)).alloc (.cells #[.string (ByteArray.mk #[]), .bool false, .slice none 0 0, .slice none 0 0, .bool false, .slice none 0 0, .slice none 0 0, .bool false] 35)).alloc (.cells #[.string n, .bool false, .slice none 0 0, .slice none 0 0, .bool false, .slice none 0 0, .slice none 0 0, .bool false] 35)) from (((Below.refl _ _).alloc (Nat.le_refl _) _).alloc (by simp) _).alloc (by simp; omega) _)
  have LP := hid (show LocA 28 (((w.alloc (.cells #[.string n, .bool s, .slice a na ca, .slice d nd cd, .bool z, .slice f nf cf, .slice g ng cg, .bool b] 28)).alloc (.cells #[.string (ByteArray.mk #[]), .bool false, .slice none 0 0, .slice none 0 0, .bool false, .slice none 0 0, .slice none 0 0, .bool false] 35)).alloc (.cells #[.string n, .bool false, .slice none 0 0, .slice none 0 0, .bool false, .slice none 0 0, .slice none 0 0, .bool false] 35)) w.heap.size #[.string n, .bool s, .slice a na ca, .slice d nd cd, .bool z, .slice f nf cf, .slice g ng cg, .bool b] from (LocA.at rfl).new1.new1)
  have LR := hid (show LocA 35 (((w.alloc (.cells #[.string n, .bool s, .slice a na ca, .slice d nd cd, .bool z, .slice f nf cf, .slice g ng cg, .bool b] 28)).alloc (.cells #[.string (ByteArray.mk #[]), .bool false, .slice none 0 0, .slice none 0 0, .bool false, .slice none 0 0, .slice none 0 0, .bool false] 35)).alloc (.cells #[.string n, .bool false, .slice none 0 0, .slice none 0 0, .bool false, .slice none 0 0, .slice none 0 0, .bool false] 35)) (w.heap.size + 1) #[.string (ByteArray.mk #[]), .bool false, .slice none 0 0, .slice none 0 0, .bool false, .slice none 0 0, .slice none 0 0, .bool false] from (LocA.at (by simp)).new1)
  have LO := hid (show LocA 35 (((w.alloc (.cells #[.string n, .bool s, .slice a na ca, .slice d nd cd, .bool z, .slice f nf cf, .slice g ng cg, .bool b] 28)).alloc (.cells #[.string (ByteArray.mk #[]), .bool false, .slice none 0 0, .slice none 0 0, .bool false, .slice none 0 0, .slice none 0 0, .bool false] 35)).alloc (.cells #[.string n, .bool false, .slice none 0 0, .slice none 0 0, .bool false, .slice none 0 0, .slice none 0 0, .bool false] 35)) (w.heap.size + 1 + 1) #[.string n, .bool false, .slice none 0 0, .slice none 0 0, .bool false, .slice none 0 0, .slice none 0 0, .bool false] from LocA.at (by simp))
  generalize hW : ((w.alloc (.cells #[.string n, .bool s, .slice a na ca, .slice d nd cd, .bool z, .slice f nf cf, .slice g ng cg, .bool b] 28)).alloc (.cells #[.string (ByteArray.mk #[]), .bool false, .slice none 0 0, .slice none 0 0, .bool false, .slice none 0 0, .slice none 0 0, .bool false] 35)).alloc (.cells #[.string n, .bool false, .slice none 0 0, .slice none 0 0, .bool false, .slice none 0 0, .slice none 0 0, .bool false] 35) = W0 at B LP LR LO
  have HW := hid hW
  clear hW
  have hs0 := B.out.size
  have hs1 := LO.out.lt
  have q0 := LP.out.c 0 rfl
  have q1 := LP.out.c 1 rfl
  have q2 := LP.out.c 2 rfl
  have q3 := LP.out.c 3 rfl
  have q4 := LP.out.c 4 rfl
  have q5 := LP.out.c 5 rfl
  have q6 := LP.out.c 6 rfl
  have q7 := LP.out.c 7 rfl
  have fz := LO.out.f 0
  go_enter Try.func12, Try.ntmps12
  go_wp2_with fail
  rw [HW.out]
  clear q0 q1 q2 q3 q4 q5 q6 q7
  (with_reducible refine (K1.out _ (H.out.l.old B.out)).mono ?_)
  clear fz
  rintro e w1 ⟨v, u, rfl, r1, b1⟩
  have hs2 := b1.size
  obtain ⟨a1, c1, bb1, d1, rfl, rfl⟩ := r1.form
  have LP := hid (LP.out.old b1)
  have LR := hid (LR.out.old b1)
  have LO := hid (LO.out.old b1)
  have B := hid (B.out.trans (b1.mono B.out.size))
  have f1 := LO.out.f 1
  have p1 := LO.out.c 1 rfl
  have f2 := LO.out.f 2
  have p2 := LO.out.c 2 rfl
  have f3 := LO.out.f 3
  have p3 := LO.out.c 3 rfl
  have hz : (((w1.setCell ⟨w.heap.size + 1 + 1, 1, none⟩ (.bool s)).setCell ⟨w.heap.size + 1 + 1, 2, none⟩ (.slice a1 A.length c1)).setCell ⟨w.heap.size + 1 + 1, 3, none⟩ (.slice bb1 D.length d1)).heap.size = w1.heap.size := by simp only [size_set]
  have S1 := ((((Only.refl (fun k => w.heap.size + 1 ≤ k ∧ k < w.heap.size + 1 + 1 + 1) w1).setCell (p := ⟨w.heap.size + 1 + 1, 1, none⟩) (by show w.heap.size + 1 ≤ w.heap.size + 1 + 1 ∧ w.heap.size + 1 + 1 < w.heap.size + 1 + 1 + 1; omega) (.bool s)).setCell (p := ⟨w.heap.size + 1 + 1, 2, none⟩) (by show w.heap.size + 1 ≤ w.heap.size + 1 + 1 ∧ w.heap.size + 1 + 1 < w.heap.size + 1 + 1 + 1; omega) (.slice a1 A.length c1)).setCell (p := ⟨w.heap.size + 1 + 1, 3, none⟩) (by show w.heap.size + 1 ≤ w.heap.size + 1 + 1 ∧ w.heap.size + 1 + 1 < w.heap.size + 1 + 1 + 1; omega) (.slice bb1 D.length d1))
  have R1 := hid (r1.onlyS S1 (fun k h1 h2 h3 => by have := h3.1; have := h3.2; omega))
  have B := hid ((((B.out.setCell (p := ⟨w.heap.size + 1 + 1, 1, none⟩) (by show w.heap.size ≤ w.heap.size + 1 + 1; omega) (.bool s)).setCell (p := ⟨w.heap.size + 1 + 1, 2, none⟩) (by show w.heap.size ≤ w.heap.size + 1 + 1; omega) (.slice a1 A.length c1)).setCell (p := ⟨w.heap.size + 1 + 1, 3, none⟩) (by show w.heap.size ≤ w.heap.size + 1 + 1; omega) (.slice bb1 D.length d1)))
  have LP := hid ((((LP.out.setne (i := 1) (x := .bool s) (show w.heap.size ≠ w.heap.size + 1 + 1 by omega)).setne (i := 2) (x := .slice a1 A.length c1) (show w.heap.size ≠ w.heap.size + 1 + 1 by omega)).setne (i := 3) (x := .slice bb1 D.length d1) (show w.heap.size ≠ w.heap.size + 1 + 1 by omega)))
  have LR := hid ((((LR.out.setne (i := 1) (x := .bool s) (show w.heap.size + 1 ≠ w.heap.size + 1 + 1 by omega)).setne (i := 2) (x := .slice a1 A.length c1) (show w.heap.size + 1 ≠ w.heap.size + 1 + 1 by omega)).setne (i := 3) (x := .slice bb1 D.length d1) (show w.heap.size + 1 ≠ w.heap.size + 1 + 1 by omega)))
  have LO := hid (show LocA 35 _ (w.heap.size + 1 + 1) #[.string n, .bool s, .slice a1 A.length c1, .slice bb1 D.length d1, .bool false, .slice none 0 0, .slice none 0 0, .bool false] from ((LO.out.set (i := 1) (x := .bool s)).set (i := 2) (x := .slice a1 A.length c1)).set (i := 3) (x := .slice bb1 D.length d1))
  have q4 := LP.out.c 4 rfl
  have q5 := LP.out.c 5 rfl
  have q6 := LP.out.c 6 rfl
  have q7 := LP.out.c 7 rfl
  clear r1 b1 S1
  go_wp2_with fail
  generalize (((w1.setCell ⟨w.heap.size + 1 + 1, 1, none⟩ (.bool s)).setCell ⟨w.heap.size + 1 + 1, 2, none⟩ (.slice a1 A.length c1)).setCell ⟨w.heap.size + 1 + 1, 3, none⟩ (.slice bb1 D.length d1)) = W2 at B LP LR LO R1 hz q4 q5 q6 q7 ⊢
  clear p1 p2 p3
  (with_reducible refine (K2.out _ (H.out.h.old B.out)).mono ?_)
  clear q4 q5 q6 q7 f1 f2 f3
  rintro e w2 ⟨v, u, rfl, r2, b2⟩
  obtain ⟨a2, c2, bb2, d2, rfl, rfl⟩ := r2.form
  have hs3 := b2.size
  have hsB := B.out.size
  have LP := hid (LP.out.old b2)
  have LR := hid (LR.out.old b2)
  have LO := hid (LO.out.old b2)
  have R1 := hid (R1.out.old b2)
  have B := hid (B.out.trans (b2.mono B.out.size))
  have f0 := LO.out.f 0
  have p0 := LO.out.c 0 rfl
  have g0 := LR.out.f 0
  have o0 := LR.out.c 0 rfl
  have f1 := LO.out.f 1
  have p1 := LO.out.c 1 rfl
  have g1 := LR.out.f 1
  have o1 := LR.out.c 1 rfl
  have f2 := LO.out.f 2
  have p2 := LO.out.c 2 rfl
  have g2 := LR.out.f 2
  have o2 := LR.out.c 2 rfl
  have f3 := LO.out.f 3
  have p3 := LO.out.c 3 rfl
  have g3 := LR.out.f 3
  have o3 := LR.out.c 3 rfl
  have f4 := LO.out.f 4
  have p4 := LO.out.c 4 rfl
  have g4 := LR.out.f 4
  have o4 := LR.out.c 4 rfl
  have f5 := LO.out.f 5
  have p5 := LO.out.c 5 rfl
  have g5 := LR.out.f 5
  have o5 := LR.out.c 5 rfl
  have f6 := LO.out.f 6
  have p6 := LO.out.c 6 rfl
  have g6 := LR.out.f 6
  have o6 := LR.out.c 6 rfl
  have f7 := LO.out.f 7
  have p7 := LO.out.c 7 rfl
  have g7 := LR.out.f 7
  have o7 := LR.out.c 7 rfl
  have q7 := LP.out.c 7 rfl
  have hB := hid (((((((((((((B.out.setCell (p := ⟨w.heap.size + 1 + 1, 4, none⟩) (by show w.heap.size ≤ w.heap.size + 1 + 1; omega) (.bool z)).setCell (p := ⟨w.heap.size + 1 + 1, 5, none⟩) (by show w.heap.size ≤ w.heap.size + 1 + 1; omega) (.slice a2 F.length c2)).setCell (p := ⟨w.heap.size + 1 + 1, 6, none⟩) (by show w.heap.size ≤ w.heap.size + 1 + 1; omega) (.slice bb2 G.length d2)).setCell (p := ⟨w.heap.size + 1 + 1, 7, none⟩) (by show w.heap.size ≤ w.heap.size + 1 + 1; omega) (.bool b)).setCell (p := ⟨w.heap.size + 1, 0, none⟩) (by show w.heap.size ≤ w.heap.size + 1; omega) (.string n)).setCell (p := ⟨w.heap.size + 1, 1, none⟩) (by show w.heap.size ≤ w.heap.size + 1; omega) (.bool s)).setCell (p := ⟨w.heap.size + 1, 2, none⟩) (by show w.heap.size ≤ w.heap.size + 1; omega) (.slice a1 A.length c1)).setCell (p := ⟨w.heap.size + 1, 3, none⟩) (by show w.heap.size ≤ w.heap.size + 1; omega) (.slice bb1 D.length d1)).setCell (p := ⟨w.heap.size + 1, 4, none⟩) (by show w.heap.size ≤ w.heap.size + 1; omega) (.bool z)).setCell (p := ⟨w.heap.size + 1, 5, none⟩) (by show w.heap.size ≤ w.heap.size + 1; omega) (.slice a2 F.length c2)).setCell (p := ⟨w.heap.size + 1, 6, none⟩) (by show w.heap.size ≤ w.heap.size + 1; omega) (.slice bb2 G.length d2)).setCell (p := ⟨w.heap.size + 1, 7, none⟩) (by show w.heap.size ≤ w.heap.size + 1; omega) (.bool b)))
  have S2 := (((((((((((((Only.refl (fun k => w.heap.size + 1 ≤ k ∧ k < w.heap.size + 1 + 1 + 1) w2).setCell (p := ⟨w.heap.size + 1 + 1, 4, none⟩) (by show w.heap.size + 1 ≤ w.heap.size + 1 + 1 ∧ w.heap.size + 1 + 1 < w.heap.size + 1 + 1 + 1; omega) (.bool z)).setCell (p := ⟨w.heap.size + 1 + 1, 5, none⟩) (by show w.heap.size + 1 ≤ w.heap.size + 1 + 1 ∧ w.heap.size + 1 + 1 < w.heap.size + 1 + 1 + 1; omega) (.slice a2 F.length c2)).setCell (p := ⟨w.heap.size + 1 + 1, 6, none⟩) (by show w.heap.size + 1 ≤ w.heap.size + 1 + 1 ∧ w.heap.size + 1 + 1 < w.heap.size + 1 + 1 + 1; omega) (.slice bb2 G.length d2)).setCell (p := ⟨w.heap.size + 1 + 1, 7, none⟩) (by show w.heap.size + 1 ≤ w.heap.size + 1 + 1 ∧ w.heap.size + 1 + 1 < w.heap.size + 1 + 1 + 1; omega) (.bool b)).setCell (p := ⟨w.heap.size + 1, 0, none⟩) (by show w.heap.size + 1 ≤ w.heap.size + 1 ∧ w.heap.size + 1 < w.heap.size + 1 + 1 + 1; omega) (.string n)).setCell (p := ⟨w.heap.size + 1, 1, none⟩) (by show w.heap.size + 1 ≤ w.heap.size + 1 ∧ w.heap.size + 1 < w.heap.size + 1 + 1 + 1; omega) (.bool s)).setCell (p := ⟨w.heap.size + 1, 2, none⟩) (by show w.heap.size + 1 ≤ w.heap.size + 1 ∧ w.heap.size + 1 < w.heap.size + 1 + 1 + 1; omega) (.slice a1 A.length c1)).setCell (p := ⟨w.heap.size + 1, 3, none⟩) (by show w.heap.size + 1 ≤ w.heap.size + 1 ∧ w.heap.size + 1 < w.heap.size + 1 + 1 + 1; omega) (.slice bb1 D.length d1)).setCell (p := ⟨w.heap.size + 1, 4, none⟩) (by show w.heap.size + 1 ≤ w.heap.size + 1 ∧ w.heap.size + 1 < w.heap.size + 1 + 1 + 1; omega) (.bool z)).setCell (p := ⟨w.heap.size + 1, 5, none⟩) (by show w.heap.size + 1 ≤ w.heap.size + 1 ∧ w.heap.size + 1 < w.heap.size + 1 + 1 + 1; omega) (.slice a2 F.length c2)).setCell (p := ⟨w.heap.size + 1, 6, none⟩) (by show w.heap.size + 1 ≤ w.heap.size + 1 ∧ w.heap.size + 1 < w.heap.size + 1 + 1 + 1; omega) (.slice bb2 G.length d2)).setCell (p := ⟨w.heap.size + 1, 7, none⟩) (by show w.heap.size + 1 ≤ w.heap.size + 1 ∧ w.heap.size + 1 < w.heap.size + 1 + 1 + 1; omega) (.bool b))
  have hz2 : ((((((((((((w2.setCell ⟨w.heap.size + 1 + 1, 4, none⟩ (.bool z)).setCell ⟨w.heap.size + 1 + 1, 5, none⟩ (.slice a2 F.length c2)).setCell ⟨w.heap.size + 1 + 1, 6, none⟩ (.slice bb2 G.length d2)).setCell ⟨w.heap.size + 1 + 1, 7, none⟩ (.bool b)).setCell ⟨w.heap.size + 1, 0, none⟩ (.string n)).setCell ⟨w.heap.size + 1, 1, none⟩ (.bool s)).setCell ⟨w.heap.size + 1, 2, none⟩ (.slice a1 A.length c1)).setCell ⟨w.heap.size + 1, 3, none⟩ (.slice bb1 D.length d1)).setCell ⟨w.heap.size + 1, 4, none⟩ (.bool z)).setCell ⟨w.heap.size + 1, 5, none⟩ (.slice a2 F.length c2)).setCell ⟨w.heap.size + 1, 6, none⟩ (.slice bb2 G.length d2)).setCell ⟨w.heap.size + 1, 7, none⟩ (.bool b)).heap.size = w2.heap.size := by simp only [size_set]
  have hF := hid (show ClM ((((((((((((w2.setCell ⟨w.heap.size + 1 + 1, 4, none⟩ (.bool z)).setCell ⟨w.heap.size + 1 + 1, 5, none⟩ (.slice a2 F.length c2)).setCell ⟨w.heap.size + 1 + 1, 6, none⟩ (.slice bb2 G.length d2)).setCell ⟨w.heap.size + 1 + 1, 7, none⟩ (.bool b)).setCell ⟨w.heap.size + 1, 0, none⟩ (.string n)).setCell ⟨w.heap.size + 1, 1, none⟩ (.bool s)).setCell ⟨w.heap.size + 1, 2, none⟩ (.slice a1 A.length c1)).setCell ⟨w.heap.size + 1, 3, none⟩ (.slice bb1 D.length d1)).setCell ⟨w.heap.size + 1, 4, none⟩ (.bool z)).setCell ⟨w.heap.size + 1, 5, none⟩ (.slice a2 F.length c2)).setCell ⟨w.heap.size + 1, 6, none⟩ (.slice bb2 G.length d2)).setCell ⟨w.heap.size + 1, 7, none⟩ (.bool b)) (.slice a1 A.length c1) (.slice bb1 D.length d1) (.slice a2 F.length c2) (.slice bb2 G.length d2) A D F G w.heap.size w1.heap.size w1.heap.size ((((((((((((w2.setCell ⟨w.heap.size + 1 + 1, 4, none⟩ (.bool z)).setCell ⟨w.heap.size + 1 + 1, 5, none⟩ (.slice a2 F.length c2)).setCell ⟨w.heap.size + 1 + 1, 6, none⟩ (.slice bb2 G.length d2)).setCell ⟨w.heap.size + 1 + 1, 7, none⟩ (.bool b)).setCell ⟨w.heap.size + 1, 0, none⟩ (.string n)).setCell ⟨w.heap.size + 1, 1, none⟩ (.bool s)).setCell ⟨w.heap.size + 1, 2, none⟩ (.slice a1 A.length c1)).setCell ⟨w.heap.size + 1, 3, none⟩ (.slice bb1 D.length d1)).setCell ⟨w.heap.size + 1, 4, none⟩ (.bool z)).setCell ⟨w.heap.size + 1, 5, none⟩ (.slice a2 F.length c2)).setCell ⟨w.heap.size + 1, 6, none⟩ (.slice bb2 G.length d2)).setCell ⟨w.heap.size + 1, 7, none⟩ (.bool b)).heap.size from
    ⟨(R1.out.onlyS S2 (fun k h1 h2 h3 => by have := h3.1; have := h3.2; omega)).at (by omega), by have hr := r2.onlyS S2 (fun k h1 h2 h3 => by have := h3.1; have := h3.2; omega); rw [hz2]; rw [hz] at hr; exact hr, .inl (Nat.le_refl _)⟩)
  have hl1 : w.heap.size ≤ w1.heap.size := by omega
  have hl2 : w1.heap.size ≤ ((((((((((((w2.setCell ⟨w.heap.size + 1 + 1, 4, none⟩ (.bool z)).setCell ⟨w.heap.size + 1 + 1, 5, none⟩ (.slice a2 F.length c2)).setCell ⟨w.heap.size + 1 + 1, 6, none⟩ (.slice bb2 G.length d2)).setCell ⟨w.heap.size + 1 + 1, 7, none⟩ (.bool b)).setCell ⟨w.heap.size + 1, 0, none⟩ (.string n)).setCell ⟨w.heap.size + 1, 1, none⟩ (.bool s)).setCell ⟨w.heap.size + 1, 2, none⟩ (.slice a1 A.length c1)).setCell ⟨w.heap.size + 1, 3, none⟩ (.slice bb1 D.length d1)).setCell ⟨w.heap.size + 1, 4, none⟩ (.bool z)).setCell ⟨w.heap.size + 1, 5, none⟩ (.slice a2 F.length c2)).setCell ⟨w.heap.size + 1, 6, none⟩ (.slice bb2 G.length d2)).setCell ⟨w.heap.size + 1, 7, none⟩ (.bool b)).heap.size := by rw [hz2]; omega
  clear r2 b2 S2 hz2 hz
  go_wp2
  exact bodyPost_ret (v := .agg #[.string n, .bool s, .slice a1 A.length c1, .slice bb1 D.length d1, .bool z, .slice a2 F.length c2, .slice bb2 G.length d2, .bool b]) (by simp [results, Try.results12, go_sem, o0, o1, o2, o3, o4, o5, o6, o7]) rfl ⟨_, _, _, _, _, _, _, _, _, rfl, hF.out, hl1, hl2, hB.out⟩
theorem eqRat_cl {s : Bool} {v1 u1 v2 u2 : Value} {A D : List Int} (hA : A.length ≤ 1073741824) (hD : D.length ≤ 1073741824) (W : World) (g1 : ∃ lo hi, ROw W v1 u1 A D lo hi) (g2 : ∃ lo hi, ROw W v2 u2 A D lo hi) : Calls Try.prog 44 #[.agg #[.bool s, v1, u1], .agg #[.bool s, v2, u2]] W (RetB (.bool true) W) := by
  obtain ⟨_, _, a1⟩ := g1
  obtain ⟨_, _, a2⟩ := g2
  exact eqRat_w s v1 u1 v2 u2 A D _ _ _ _ hA hD W a1 a2
set_option maxRecDepth 100000 in
set_option maxHeartbeats 6400000 in
theorem eqCol_k (n : ByteArray) (s z b : Bool) {v1 u1 x1 y1 v2 u2 x2 y2 : Value} {A D F G : List Int} (hA : A.length ≤ 1073741824) (hD : D.length ≤ 1073741824) (hF : F.length ≤ 1073741824) (hG : G.length ≤ 1073741824) (w : World) (o1 : ClW w v1 u1 x1 y1 A D F G) (o2 : ClW w v2 u2 x2 y2 A D F G) :
    Calls Try.prog 14 #[.agg #[.string n, .bool s, v1, u1, .bool z, x1, y1, .bool b], .agg #[.string n, .bool s, v2, u2, .bool z, x2, y2, .bool b]] w (RetB (.bool true) w) := by
  obtain ⟨a1, c1, b1, d1, e1, f1, i1, j1, rfl, rfl, rfl, rfl⟩ := o1.form
  obtain ⟨a2, c2, b2, d2, e2, f2, i2, j2, rfl, rfl, rfl, rfl⟩ := o2.form
  have B := hid (below_new2 (w := w) (o := .cells #[.string n, .bool s, .slice a1 A.length c1, .slice b1 D.length d1, .bool z, .slice e1 F.length f1, .slice i1 G.length j1, .bool b] 35) (o' := .cells #[.string n, .bool s, .slice a2 A.length c2, .slice b2 D.length d2, .bool z, .slice e2 F.length f2, .slice i2 G.length j2, .bool b] 35))
  have L1 := hid ((LocA.at (T := 35) (w := w) (b := w.heap.size) (cs := #[.string n, .bool s, .slice a1 A.length c1, .slice b1 D.length d1, .bool z, .slice e1 F.length f1, .slice i1 G.length j1, .bool b]) rfl).new1 (o := .cells #[.string n, .bool s, .slice a2 A.length c2, .slice b2 D.length d2, .bool z, .slice e2 F.length f2, .slice i2 G.length j2, .bool b] 35))
  have L2 := hid (LocA.at (T := 35) (w := w.alloc (.cells #[.string n, .bool s, .slice a1 A.length c1, .slice b1 D.length d1, .bool z, .slice e1 F.length f1, .slice i1 G.length j1, .bool b] 35)) (b := w.heap.size + 1) (cs := #[.string n, .bool s, .slice a2 A.length c2, .slice b2 D.length d2, .bool z, .slice e2 F.length f2, .slice i2 G.length j2, .bool b]) (by simp))
  have O1 := hid (o1.old B.out)
  have O2 := hid (o2.old B.out)
  have K1 := hid (fun (W : World) (g1 : ClW W (.slice a1 A.length c1) (.slice b1 D.length d1) (.slice e1 F.length f1) (.slice i1 G.length j1) A D F G) (g2 : ClW W (.slice a2 A.length c2) (.slice b2 D.length d2) (.slice e2 F.length f2) (.slice i2 G.length j2) A D F G) => eqRat_cl (s := s) hA hD W g1.l g2.l)
  have K2 := hid (fun (W : World) (g1 : ClW W (.slice a1 A.length c1) (.slice b1 D.length d1) (.slice e1 F.length f1) (.slice i1 G.length j1) A D F G) (g2 : ClW W (.slice a2 A.length c2) (.slice b2 D.length d2) (.slice e2 F.length f2) (.slice i2 G.length j2) A D F G) => eqRat_cl (s := z) hF hG W g1.h g2.h)
  clear o1 o2
  generalize hW : (w.alloc (.cells #[.string n, .bool s, .slice a1 A.length c1, .slice b1 D.length d1, .bool z, .slice e1 F.length f1, .slice i1 G.length j1, .bool b] 35)).alloc (.cells #[.string n, .bool s, .slice a2 A.length c2, .slice b2 D.length d2, .bool z, .slice e2 F.length f2, .slice i2 G.length j2, .bool b] 35) = W0 at B L1 L2 O1 O2
  have HW := hid hW
  clear hW
  go_enter Try.func14, Try.ntmps14
  go_wp2_with fail
  rw [HW.out]
  (with_reducible refine (K1.out _ O1.out O2.out).mono ?_)
  rintro e w1 ⟨rfl, g1⟩
  have O1 := hid (O1.out.old g1)
  have O2 := hid (O2.out.old g1)
  have L1 := hid (L1.out.old g1)
  have L2 := hid (L2.out.old g1)
  have B := hid (B.out.trans (g1.mono B.out.size))
  have q0 := L1.out.c 4 rfl
  have q1 := L1.out.c 5 rfl
  have q2 := L1.out.c 6 rfl
  have q4 := L2.out.c 4 rfl
  have q5 := L2.out.c 5 rfl
  have q6 := L2.out.c 6 rfl
  clear g1
  go_wp2_with fail
  (with_reducible refine (K2.out _ O1.out O2.out).mono ?_)
  rintro e w2 ⟨rfl, g1⟩
  have L1 := hid (L1.out.old g1)
  have L2 := hid (L2.out.old g1)
  have B := hid (B.out.trans (g1.mono B.out.size))
  clear g1 q0 q1 q2 q4 q5 q6
  have q3 := L1.out.c 7 rfl
  have q7 := L2.out.c 7 rfl
  go_wp2
  go_ret
  exact ⟨rfl, B.out⟩
end Go.Proofs.Yteanocjkdehhgaa
