/- Slices of rows' structs: of one's own, read, and such as came in. -/
import Derived.Test.YteanocjkdehhgaaGs
import Derived.Deep.RegionHeld3
namespace Go.Proofs.Yteanocjkdehhgaa
open Go.RowKit
open Go.Lib (hid)
set_option linter.unusedVariables false

theorem Obj.onlyS {w w' : World} {v : Value} {L : List Int} {lo hi : Nat} {S : Nat → Prop} (h : Obj w v L lo hi) (hb : Only S w w') (hd : ∀ k, lo ≤ k → k < hi → ¬ S k) : Obj w' v L lo hi := ⟨Ints_only h.ints hb fun k hk => hd k (Ints_lt h.ints k hk).1 (h.high k hk), h.high⟩
theorem ROw.onlyS {w w' : World} {v u : Value} {A D : List Int} {lo hi : Nat} {S : Nat → Prop} (h : ROw w v u A D lo hi) (hb : Only S w w') (hd : ∀ k, lo ≤ k → k < hi → ¬ S k) : ROw w' v u A D lo hi := ⟨h.a.onlyS hb hd, h.d.onlyS hb hd⟩
theorem ROb.onlyS {w w' : World} {v u : Value} {A D : List Int} {lo hi : Nat} {S : Nat → Prop} (h : ROb w v u A D lo hi) (hb : Only S w w') (hd : ∀ k, lo ≤ k → k < hi → ¬ S k) : ROb w' v u A D lo hi := ⟨h.a.onlyS hb hd, h.d.onlyS hb hd, h.ne⟩
theorem ROb.inA {w w' : World} {v u : Value} {A D A' : List Int} {lo hi : Nat} (h : ROb w v u A D lo hi) (hb : Only (fun k => v.ownBlock = some k) w w') (ha : Ints w' lo v A') : ROb w' v u A' D lo hi := ⟨⟨ha, h.a.high⟩, ⟨Ints_only h.d.ints hb fun k hk hv => h.ne k hv hk, h.d.high⟩, h.ne⟩
theorem ROb.inD {w w' : World} {v u : Value} {A D D' : List Int} {lo hi : Nat} (h : ROb w v u A D lo hi) (hb : Only (fun k => u.ownBlock = some k) w w') (ha : Ints w' lo u D') : ROb w' v u A D' lo hi := ⟨⟨Ints_only h.a.ints hb fun k hk hv => h.ne k hk hv, h.a.high⟩, ⟨ha, h.d.high⟩, h.ne⟩
theorem TO.onlyS {p : Bool} {w w' : World} {v : Value} {E : List Et} {lo hi : Nat} {S : Nat → Prop} (h : TO p w v E lo hi) (hb : Only S w w') (hd : ∀ k, lo ≤ k → k < hi → ¬ S k) : TO p w' v E lo hi :=
  ⟨own_block h.row fun k hk => hb.block k (hd k (h.lt k hk).1 (h.high k hk)), h.high, fun e he => (h.el e he).onlyS hb hd, h.nd, h.ap⟩
theorem TK.onlyS {p : Bool} {w w' : World} {v : Value} {K : List Tq} {lo hi : Nat} {S : Nat → Prop} (h : TK p w v K lo hi) (hb : Only S w w') (hd : ∀ k, lo ≤ k → k < hi → ¬ S k) : TK p w' v K lo hi := by
  obtain ⟨E, h, e⟩ := h
  exact ⟨E, h.onlyS hb hd, e⟩
theorem RwM.onlyS {w w' : World} {t v u : Value} {K : List Tq} {A D : List Int} {lo mi hi : Nat} {S : Nat → Prop} (h : RwM w t v u K A D lo mi hi) (hb : Only S w w') (hd : ∀ k, lo ≤ k → k < hi → ¬ S k) : RwM w' t v u K A D lo mi hi :=
  ⟨h.t.onlyS hb fun k h1 h2 => hd k h1 (by have := h.h; omega), h.r.onlyS hb fun k h1 h2 => hd k (by have := h.l; omega) h2, h.l, h.h⟩
/-- A row's struct of a call's own: its terms and its fraction lie between two heights and share no memory. -/
structure RwG (w : World) (t v u : Value) (K : List Tq) (A D : List Int) (lo hi : Nat) : Prop where
  t : ∃ E, TO true w t E lo hi ∧ keysT E = K ∧ ∀ e ∈ E, ∀ k, (e.v.ownBlock = some k ∨ e.u.ownBlock = some k) → v.ownBlock ≠ some k ∧ u.ownBlock ≠ some k
  r : ROb w v u A D lo hi
theorem ROb.wide {w : World} {v u : Value} {A D : List Int} {lo hi lo' hi' : Nat} (h : ROb w v u A D lo hi) (h1 : lo' ≤ lo) (h2 : hi ≤ hi') : ROb w v u A D lo' hi' := ⟨h.a.wide h1 (.inr h2), h.d.wide h1 (.inr h2), h.ne⟩
theorem RwM.g {w : World} {t v u : Value} {K : List Tq} {A D : List Int} {lo mi hi : Nat} (h : RwM w t v u K A D lo mi hi) : RwG w t v u K A D lo hi := by
  obtain ⟨E, hE, e⟩ := h.t
  refine ⟨⟨E, hE.wide (Nat.le_refl _) h.h, e, fun x hx k hk => ?_⟩, h.r.wide h.l (Nat.le_refl _)⟩
  have r := hE.el x hx
  have k1 : k < mi := hk.elim (r.a.high k) (r.d.high k)
  exact ⟨fun e => by have := (Ints_lt h.r.a.ints k e).1; omega, fun e => by have := (Ints_lt h.r.d.ints k e).1; omega⟩
theorem RwG.onlyS {w w' : World} {t v u : Value} {K : List Tq} {A D : List Int} {lo hi : Nat} {S : Nat → Prop} (h : RwG w t v u K A D lo hi) (hb : Only S w w') (hd : ∀ k, lo ≤ k → k < hi → ¬ S k) : RwG w' t v u K A D lo hi := by
  obtain ⟨E, hE, e, ha⟩ := h.t
  exact ⟨⟨E, hE.onlyS hb hd, e, ha⟩, h.r.onlyS hb hd⟩
theorem RwG.w {w : World} {t v u : Value} {K : List Tq} {A D : List Int} {lo hi : Nat} (h : RwG w t v u K A D lo hi) : RwW w t v u K A D := by
  obtain ⟨E, hE, e, -⟩ := h.t
  exact ⟨⟨_, _, _, E, hE, e⟩, _, _, h.r.w⟩
theorem RwG.tk {w : World} {t v u : Value} {K : List Tq} {A D : List Int} {lo hi : Nat} (h : RwG w t v u K A D lo hi) : TK true w t K lo hi := by
  obtain ⟨E, hE, e, -⟩ := h.t
  exact ⟨E, hE, e⟩
theorem RwG.form {w : World} {t v u : Value} {K : List Tq} {A D : List Int} {lo hi : Nat} (h : RwG w t v u K A D lo hi) : ∃ (a : Option Addr) (c : Nat) (b : Option Addr) (d : Nat) (e : Option Addr) (f : Nat), t = .slice a K.length c ∧ v = .slice b A.length d ∧ u = .slice e D.length f := h.w.form
/-- What such a struct holds. -/
structure Wq where
  K : List Tq
  x : Int
  s : Bool
  A : List Int
  D : List Int
/-- A struct in a slice: what it holds, its slices, where they lie. -/
structure Er where
  q : Wq
  t : Value
  v : Value
  u : Value
  lo : Nat
  hi : Nat
def Er.cs (e : Er) : List Value := [e.t, .int .i64 e.q.x, .bool e.q.s, e.v, e.u]
def kdR : Kd Er where
  n := 5
  cs := Er.cs
  len := fun e => rfl
  inr := fun (e : Er) (k : Nat) => e.lo ≤ k ∧ k < e.hi
  P := fun (w : World) (e : Er) => RwG w e.t e.v e.u e.q.K e.q.A e.q.D e.lo e.hi ∧ e.hi ≤ w.heap.size
  keep := fun {w w' e S} h hb hS => ⟨h.1.onlyS hb fun k h1 h2 => hS k ⟨h1, h2⟩, Nat.le_trans h.2 hb.size⟩
  lt := fun {w e} h k hk => by have := h.2; omega
/-- How many places the law counts, how many it marks. -/
def Wq.m (q : Wq) : Nat := 1 + szU q.K + q.A.length + q.D.length
def Wq.n (q : Wq) : Nat := 2 + szT q.K + q.A.length + q.D.length
theorem Wq.m1 (q : Wq) : 1 ≤ q.m := by simp only [Wq.m]; omega
theorem Wq.n1 (q : Wq) : 1 ≤ q.n := by simp only [Wq.n]; omega
/-- A slice of a call's own that holds L, in the blocks S. -/
def RM (w : World) (v : Value) (L : List Wq) (lo : Nat) (S : Nat → Prop) : Prop := ∃ E : List Er, GO kdR 91 w v E lo S ∧ E.map Er.q = L
/-- A slice that reads as L. -/
def RS (w : World) (v : Value) (L : List Wq) : Prop := ∃ E : List Er, GR 5 Er.cs (fun (w : World) (e : Er) => RwW w e.t e.v e.u e.q.K e.q.A e.q.D) w v E ∧ E.map Er.q = L
theorem RM.old {w w' : World} {v : Value} {L : List Wq} {lo : Nat} {S : Nat → Prop} (h : RM w v L lo S) (hb : Below w.heap.size w w') : RM w' v L lo S := by
  obtain ⟨E, h, e⟩ := h
  exact ⟨E, h.old hb, e⟩
theorem RM.only {w w' : World} {v : Value} {L : List Wq} {lo : Nat} {S S' : Nat → Prop} (h : RM w v L lo S) (hb : Only S' w w') (hd : ∀ k, S k → ¬ S' k) : RM w' v L lo S := by
  obtain ⟨E, h, e⟩ := h
  exact ⟨E, h.only hb hd, e⟩
theorem RM.mono {w : World} {v : Value} {L : List Wq} {lo lo' : Nat} {S S' : Nat → Prop} (h : RM w v L lo S) (hl : lo' ≤ lo) (hs : ∀ k, S k → S' k) : RM w v L lo' S' := by
  obtain ⟨E, h, e⟩ := h
  exact ⟨E, h.mono hl hs, e⟩
theorem RS.old {w w' : World} {v : Value} {L : List Wq} (h : RS w v L) (hb : Below w.heap.size w w') : RS w' v L := by
  obtain ⟨E, h, e⟩ := h
  exact ⟨E, GR.old (P := fun (w : World) (e : Er) => RwW w e.t e.v e.u e.q.K e.q.A e.q.D) (fun x hx => hx.old hb) h hb, e⟩
theorem RM.r {w : World} {v : Value} {L : List Wq} {lo : Nat} {S : Nat → Prop} (h : RM w v L lo S) : RS w v L := by
  obtain ⟨E, h, e⟩ := h
  exact ⟨E, GO.r (P := fun (w : World) (e : Er) => RwW w e.t e.v e.u e.q.K e.q.A e.q.D) h fun x h => h.1.w, e⟩
theorem RS.form {w : World} {v : Value} {L : List Wq} (h : RS w v L) : ∃ a c, v = .slice a L.length c := by
  obtain ⟨E, h, rfl⟩ := h
  obtain ⟨a, c, rfl⟩ := h.form
  exact ⟨a, c, by rw [List.length_map]⟩
theorem RM.form {w : World} {v : Value} {L : List Wq} {lo : Nat} {S : Nat → Prop} (h : RM w v L lo S) : ∃ a c, v = .slice a L.length c := h.r.form
theorem RM.len {w : World} {v : Value} {L : List Wq} {lo : Nat} {S : Nat → Prop} (h : RM w v L lo S) : L.length ≤ maxLen := by
  obtain ⟨E, h, rfl⟩ := h
  rw [List.length_map]
  exact h.len
theorem RS.num {w : World} {a : Option Addr} {m c : Nat} {L : List Wq} (h : RS w (.slice a m c) L) : m = L.length := by
  obtain ⟨E, h, rfl⟩ := h
  rw [List.length_map]
  exact h.num
theorem RS.at {w : World} {a : Option Addr} {m c : Nat} {L : List Wq} (h : RS w (.slice a m c) L) {i : Nat} (hi : i < L.length) :
    ∃ g o t v u, a = some ⟨g, o, none⟩ ∧ g < w.heap.size ∧ w.cell? ⟨g, o + i * 5, none⟩ = some (t) ∧ w.cell? ⟨g, o + i * 5 + 1, none⟩ = some (.int .i64 L[i].x) ∧ w.cell? ⟨g, o + i * 5 + 2, none⟩ = some (.bool L[i].s) ∧ w.cell? ⟨g, o + i * 5 + 3, none⟩ = some (v) ∧ w.cell? ⟨g, o + i * 5 + 4, none⟩ = some (u) ∧ RwW w t v u L[i].K L[i].A L[i].D := by
  obtain ⟨E, h, rfl⟩ := h
  rw [List.length_map] at hi
  obtain ⟨g, o, h1, h2, h3, h4⟩ := h.at hi
  rw [List.getElem_map]
  exact ⟨g, o, E[i].t, E[i].v, E[i].u, h1, h2, h3 0 _ rfl, h3 1 _ rfl, h3 2 _ rfl, h3 3 _ rfl, h3 4 _ rfl, h4⟩
/-- A struct that came in. -/
structure CameW (w : World) (h : Nat) (g o : Nat) (f : Wq) : Prop where
  ex : ∃ a c b d e k, w.cell? ⟨g, o, none⟩ = some (.slice a f.K.length c) ∧ w.cell? ⟨g, o + 1, none⟩ = some (.int .i64 f.x) ∧ w.cell? ⟨g, o + 2, none⟩ = some (.bool f.s) ∧ w.cell? ⟨g, o + 3, none⟩ = some (.slice b f.A.length d) ∧ w.cell? ⟨g, o + 4, none⟩ = some (.slice e f.D.length k) ∧ WCame w h a f.K.length f.K b f.A.length f.A e f.D.length f.D
theorem CameW.old {w w' : World} {h g o : Nat} {f : Wq} (c : CameW w h g o f) (hb : Below w.heap.size w w') (hg : g < w.heap.size) : CameW w' h g o f := by
  obtain ⟨a, c, b, d, e, k, h0, h1, h2, h3, h4, r⟩ := c.ex
  exact ⟨⟨a, c, b, d, e, k, (hb.cell (p := ⟨g, o, none⟩) hg).trans h0, (hb.cell (p := ⟨g, o + 1, none⟩) hg).trans h1, (hb.cell (p := ⟨g, o + 2, none⟩) hg).trans h2, (hb.cell (p := ⟨g, o + 3, none⟩) hg).trans h3, (hb.cell (p := ⟨g, o + 4, none⟩) hg).trans h4, r.old hb⟩⟩
theorem CameW.onlyG {w w' : World} {h g o lo hi : Nat} {f : Wq} (c : CameW w h g o f) (hb : Only (InG lo hi w.heap.size) w w') (hlo : h ≤ lo) (hg : g < h) (hg' : g < w.heap.size) : CameW w' h g o f := by
  obtain ⟨a, c, b, d, e, k, h0, h1, h2, h3, h4, r⟩ := c.ex
  have hn : ¬ InG lo hi w.heap.size g := fun hs => by have := InG_cases hs; omega
  exact ⟨⟨a, c, b, d, e, k, (hb.cell (p := ⟨g, o, none⟩) hn).trans h0, (hb.cell (p := ⟨g, o + 1, none⟩) hn).trans h1, (hb.cell (p := ⟨g, o + 2, none⟩) hn).trans h2, (hb.cell (p := ⟨g, o + 3, none⟩) hn).trans h3, (hb.cell (p := ⟨g, o + 4, none⟩) hn).trans h4, r.onlyG hb hlo⟩⟩
def RCame (w : World) (h : Nat) (a : Option Addr) (n : Nat) (L : List Wq) : Prop :=
  n = L.length ∧ (0 < L.length → ∃ g o, a = some ⟨g, o, none⟩ ∧ g < h ∧ g < w.heap.size ∧ ∀ i (hi : i < L.length), CameW w h g (o + i * 5) L[i])
theorem RCame.old {w w' : World} {h n : Nat} {a : Option Addr} {L : List Wq} (c : RCame w h a n L) (hb : Below w.heap.size w w') : RCame w' h a n L :=
  ⟨c.1, fun h0 => by
    obtain ⟨g, o, e, hh, hg, hc⟩ := c.2 h0
    exact ⟨g, o, e, hh, Nat.lt_of_lt_of_le hg hb.size, fun i hi => (hc i hi).old hb hg⟩⟩
theorem RCame.onlyG {w w' : World} {h n lo hi : Nat} {a : Option Addr} {L : List Wq} (c : RCame w h a n L) (hb : Only (InG lo hi w.heap.size) w w') (hlo : h ≤ lo) : RCame w' h a n L :=
  ⟨c.1, fun h0 => by
    obtain ⟨g, o, e, hh, hg, hc⟩ := c.2 h0
    exact ⟨g, o, e, hh, Nat.lt_of_lt_of_le hg hb.size, fun i hi => (hc i hi).onlyG hb hlo hh hg⟩⟩
end Go.Proofs.Yteanocjkdehhgaa
