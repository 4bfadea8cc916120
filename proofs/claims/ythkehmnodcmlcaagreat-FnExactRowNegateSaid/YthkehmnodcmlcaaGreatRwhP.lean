import Derived.Test.YthkehmnodcmlcaaGreatRwbP
import Derived.Test.YthkehmnodcmlcaaGreatTsiP
import Derived.Test.YthkehmnodcmlcaaGreatTssP
import Derived.Deep.RegionLaw
import Derived.Deep.RegionHeld3
import Derived.Deep.DeepCutAuto
set_option maxRecDepth 100000
set_option maxHeartbeats 25600000
set_option linter.unusedVariables false
set_option linter.unusedSimpArgs false
namespace Go.Proofs.YthkehmnodcmlcaaGreat
open Go.RowKit
open Go.Lib (hid)
theorem mul_oR {w : World} {s t : Bool} {v u v' u' : Value} {o o' : Option Rat} (h : RA w s v u o) (h' : RA w t v' u' o') : Calls Tryz.prog 85 #[.agg #[.bool s, v, u], .agg #[.bool t, v', u']] w (RatO true (bq mulF o o') w) := by
 obtain ⟨A, D, r, rfl⟩ := h
 obtain ⟨A', D', r', rfl⟩ := h'
 exact (impl_RatMul s t v u v' u' A D A' D' w r r').mono fun e w' hh => RatO_of hh (fitO_bq fitO_mul _ _)
theorem smul_oR {w : World} {s t : Bool} {v u v' u' : Value} {o o' : Option Rat} (h : RA w s v u o) (h' : RA w t v' u' o') : Calls Tryz.prog 81 #[.agg #[.bool s, v, u], .agg #[.bool t, v', u']] w (RatO false (bq mulF o o') w) := by
 obtain ⟨A, D, r, rfl⟩ := h
 obtain ⟨A', D', r', rfl⟩ := h'
 exact (spec_RatMul s t v u v' u' A D A' D' w r r').mono fun e w' hh => RatO_ofS hh (fitO_bq fitO_mul _ _)
theorem LocA.all5 {T : TypeId} {w : World} {b : Nat} {v0 v1 v2 v3 v4 : Value} (h : LocA T w b #[v0, v1, v2, v3, v4]) : w.cell? ⟨b, 0, none⟩ = some v0 ∧ w.cell? ⟨b, 1, none⟩ = some v1 ∧ w.cell? ⟨b, 2, none⟩ = some v2 ∧ w.cell? ⟨b, 3, none⟩ = some v3 ∧ w.cell? ⟨b, 4, none⟩ = some v4 := ⟨h.c 0 rfl, h.c 1 rfl, h.c 2 rfl, h.c 3 rfl, h.c 4 rfl⟩
theorem LocA.all3 {T : TypeId} {w : World} {b : Nat} {v0 v1 v2 : Value} (h : LocA T w b #[v0, v1, v2]) : w.cell? ⟨b, 0, none⟩ = some v0 ∧ w.cell? ⟨b, 1, none⟩ = some v1 ∧ w.cell? ⟨b, 2, none⟩ = some v2 := ⟨h.c 0 rfl, h.c 1 rfl, h.c 2 rfl⟩
theorem cell_set5 {w : World} {b N i : Nat} {v0 v1 v2 v3 v4 : Value} (h : b ≠ N) : (((((w.setCell ⟨N, 0, none⟩ (v0)).setCell ⟨N, 1, none⟩ (v1)).setCell ⟨N, 2, none⟩ (v2)).setCell ⟨N, 3, none⟩ (v3)).setCell ⟨N, 4, none⟩ (v4)).cell? ⟨b, i, none⟩ = w.cell? ⟨b, i, none⟩ :=
 World.cell?_of_block (a := ⟨b, i, none⟩) (by
  show (((((w.setCell ⟨N, 0, none⟩ (v0)).setCell ⟨N, 1, none⟩ (v1)).setCell ⟨N, 2, none⟩ (v2)).setCell ⟨N, 3, none⟩ (v3)).setCell ⟨N, 4, none⟩ (v4)).heap[b]? = w.heap[b]?
  rw [set_block _ N 4 b _ h, set_block _ N 3 b _ h, set_block _ N 2 b _ h, set_block _ N 1 b _ h, set_block _ N 0 b _ h])
def LaidG (p : Bool) (W : World) (K : List Tq) (x : Int) (s : Bool) (A D : List Int) (sl : Value) (wx : World) : Prop :=
 ∃ g a c b d e f lo m1 m2 hi, sl = .pointer (some ⟨g, 0, none⟩) ∧ LocA 39 wx g #[.slice a K.length c, .int .i64 x, .bool s, .slice b A.length d, .slice e D.length f] ∧ TK p wx (.slice a K.length c) K lo m1 ∧ ROw wx (.slice b A.length d) (.slice e D.length f) A D m2 hi ∧
  (p = true → ∀ k, (Value.slice b A.length d).ownBlock = some k → (Value.slice e D.length f).ownBlock ≠ some k) ∧ (W.heap.size ≤ lo ∧ lo ≤ m1 ∧ m1 ≤ m2 ∧ m2 ≤ hi ∧ hi ≤ wx.heap.size ∧ W.heap.size ≤ g ∧ g < wx.heap.size ∧ (g < lo ∨ m1 ≤ g) ∧ (g < m2 ∨ hi ≤ g)) ∧ Below W.heap.size W wx
theorem LaidG_a {p : Bool} {W wf : World} {K : List Tq} {x : Int} {s : Bool} {A D : List Int} {a b e : Option Addr} {c d f lo m1 m2 hi : Nat} (hT : TK p wf (.slice a K.length c) K lo m1) (hR : ROw wf (.slice b A.length d) (.slice e D.length f) A D m2 hi)
  (hn : p = true → ∀ k, (Value.slice b A.length d).ownBlock = some k → (Value.slice e D.length f).ownBlock ≠ some k) (h0 : W.heap.size ≤ lo) (h1 : lo ≤ m1) (h2 : m1 ≤ m2) (h3 : m2 ≤ hi) (h4 : hi ≤ wf.heap.size) (hb : Below W.heap.size W wf) :
  LaidG p W K x s A D (.pointer (some ⟨wf.heap.size, 0, none⟩)) (wf.alloc (.cells #[.slice a K.length c, .int .i64 x, .bool s, .slice b A.length d, .slice e D.length f] 39)) :=
 ⟨wf.heap.size, a, c, b, d, e, f, lo, m1, m2, hi, rfl, LocA.new, hT.old below_new', hR.old below_new', hn, ⟨h0, h1, h2, h3, by simp; omega, hb.size, by simp, .inr (by omega), .inr h4⟩, hb.alloc hb.size _⟩
theorem LaidG_b {p : Bool} {W wf : World} {K : List Tq} {x : Int} {s : Bool} {A D : List Int} {a b e : Option Addr} {c d f lo m1 m2 hi N : Nat} (hL : LocA 39 wf N #[.slice none 0 0, .int .i64 0, .bool false, .slice none 0 0, .slice none 0 0]) (hT : TK p wf (.slice a K.length c) K lo m1) (hR : ROw wf (.slice b A.length d) (.slice e D.length f) A D m2 hi)
  (hn : p = true → ∀ k, (Value.slice b A.length d).ownBlock = some k → (Value.slice e D.length f).ownBlock ≠ some k) (hN : W.heap.size ≤ N) (h0 : W.heap.size ≤ lo) (h1 : lo ≤ m1) (h2 : m1 ≤ m2) (h3 : m2 ≤ hi) (h4 : hi ≤ wf.heap.size) (h5 : N < lo ∨ m1 ≤ N) (h6 : N < m2 ∨ hi ≤ N) (hb : Below W.heap.size W wf) :
  LaidG p W K x s A D (.pointer (some ⟨N, 0, none⟩)) (((((wf.setCell ⟨N, 0, none⟩ (.slice a K.length c)).setCell ⟨N, 1, none⟩ (.int .i64 x)).setCell ⟨N, 2, none⟩ (.bool s)).setCell ⟨N, 3, none⟩ (.slice b A.length d)).setCell ⟨N, 4, none⟩ (.slice e D.length f)) := by
 have S : Only (InG N (N + 1) wf.heap.size) wf (((((wf.setCell ⟨N, 0, none⟩ (.slice a K.length c)).setCell ⟨N, 1, none⟩ (.int .i64 x)).setCell ⟨N, 2, none⟩ (.bool s)).setCell ⟨N, 3, none⟩ (.slice b A.length d)).setCell ⟨N, 4, none⟩ (.slice e D.length f)) := ((((((Only.refl _ _).setCell (p := ⟨N, 0, none⟩) (.inl ⟨Nat.le_refl _, Nat.lt_succ_self _⟩) _).setCell (p := ⟨N, 1, none⟩) (.inl ⟨Nat.le_refl _, Nat.lt_succ_self _⟩) _).setCell (p := ⟨N, 2, none⟩) (.inl ⟨Nat.le_refl _, Nat.lt_succ_self _⟩) _).setCell (p := ⟨N, 3, none⟩) (.inl ⟨Nat.le_refl _, Nat.lt_succ_self _⟩) _).setCell (p := ⟨N, 4, none⟩) (.inl ⟨Nat.le_refl _, Nat.lt_succ_self _⟩) _)
 have hz : (((((wf.setCell ⟨N, 0, none⟩ (.slice a K.length c)).setCell ⟨N, 1, none⟩ (.int .i64 x)).setCell ⟨N, 2, none⟩ (.bool s)).setCell ⟨N, 3, none⟩ (.slice b A.length d)).setCell ⟨N, 4, none⟩ (.slice e D.length f)).heap.size = wf.heap.size := by simp only [size_set]
 have hl := hL.lt
 exact ⟨N, a, c, b, d, e, f, lo, m1, m2, hi, rfl, ((((hL.set (i := 0) (x := .slice a K.length c)).set (i := 1) (x := .int .i64 x)).set (i := 2) (x := .bool s)).set (i := 3) (x := .slice b A.length d)).set (i := 4) (x := .slice e D.length f), hT.onlyG S (by omega), hR.onlyG S (by omega), hn, ⟨h0, h1, h2, h3, by rw [hz]; exact h4, hN, by rw [hz]; exact hl, h5, h6⟩, ((((((hb).setCell (p := ⟨N, 0, none⟩) hN _).setCell (p := ⟨N, 1, none⟩) hN _).setCell (p := ⟨N, 2, none⟩) hN _).setCell (p := ⟨N, 3, none⟩) hN _).setCell (p := ⟨N, 4, none⟩) hN _)⟩
theorem RowRM_fin {w w4 : World} {K : List Tq} {x : Int} {s : Bool} {A D : List Int} {a b e : Option Addr} {c d f lo m1 m2 hi N : Nat} (hT : TK true w4 (.slice a K.length c) K lo m1) (hR : ROw w4 (.slice b A.length d) (.slice e D.length f) A D m2 hi) (hn : ∀ k, (Value.slice b A.length d).ownBlock = some k → (Value.slice e D.length f).ownBlock ≠ some k) (hN : w.heap.size ≤ N) (h0 : N < lo) (h1 : lo ≤ m1) (h2 : m1 ≤ m2) (h3 : m2 ≤ hi) (h4 : hi ≤ w4.heap.size) (hb : Below w.heap.size w w4) :
  RowRM K x s A D w (.returned (.agg #[.slice a K.length c, .int .i64 x, .bool s, .slice b A.length d, .slice e D.length f])) (((((w4.setCell ⟨N, 0, none⟩ (.slice a K.length c)).setCell ⟨N, 1, none⟩ (.int .i64 x)).setCell ⟨N, 2, none⟩ (.bool s)).setCell ⟨N, 3, none⟩ (.slice b A.length d)).setCell ⟨N, 4, none⟩ (.slice e D.length f)) := by
 have S : Only (InG N (N + 1) w4.heap.size) w4 (((((w4.setCell ⟨N, 0, none⟩ (.slice a K.length c)).setCell ⟨N, 1, none⟩ (.int .i64 x)).setCell ⟨N, 2, none⟩ (.bool s)).setCell ⟨N, 3, none⟩ (.slice b A.length d)).setCell ⟨N, 4, none⟩ (.slice e D.length f)) := ((((((Only.refl _ _).setCell (p := ⟨N, 0, none⟩) (.inl ⟨Nat.le_refl _, Nat.lt_succ_self _⟩) _).setCell (p := ⟨N, 1, none⟩) (.inl ⟨Nat.le_refl _, Nat.lt_succ_self _⟩) _).setCell (p := ⟨N, 2, none⟩) (.inl ⟨Nat.le_refl _, Nat.lt_succ_self _⟩) _).setCell (p := ⟨N, 3, none⟩) (.inl ⟨Nat.le_refl _, Nat.lt_succ_self _⟩) _).setCell (p := ⟨N, 4, none⟩) (.inl ⟨Nat.le_refl _, Nat.lt_succ_self _⟩) _)
 have hz : (((((w4.setCell ⟨N, 0, none⟩ (.slice a K.length c)).setCell ⟨N, 1, none⟩ (.int .i64 x)).setCell ⟨N, 2, none⟩ (.bool s)).setCell ⟨N, 3, none⟩ (.slice b A.length d)).setCell ⟨N, 4, none⟩ (.slice e D.length f)).heap.size = w4.heap.size := by simp only [size_set]
 have hR' := hR.onlyG S (by omega)
 exact ⟨a, c, b, d, e, f, m2, rfl, ⟨(hT.onlyG S (by omega)).wide (by omega) h2, ⟨⟨hR'.a.ints, fun k hk => by rw [hz]; exact Nat.lt_of_lt_of_le (hR'.a.high k hk) h4⟩, ⟨hR'.d.ints, fun k hk => by rw [hz]; exact Nat.lt_of_lt_of_le (hR'.d.high k hk) h4⟩, hn⟩, by omega, by rw [hz]; omega⟩, ((((((hb).setCell (p := ⟨N, 0, none⟩) hN _).setCell (p := ⟨N, 1, none⟩) hN _).setCell (p := ⟨N, 2, none⟩) hN _).setCell (p := ⟨N, 3, none⟩) hN _).setCell (p := ⟨N, 4, none⟩) hN _)⟩
theorem RowRW_fin {w w4 : World} {K : List Tq} {x : Int} {s : Bool} {A D : List Int} {a b e : Option Addr} {c d f lo m1 m2 hi N : Nat} (hT : TK false w4 (.slice a K.length c) K lo m1) (hR : ROw w4 (.slice b A.length d) (.slice e D.length f) A D m2 hi) (hN : w.heap.size ≤ N) (h0 : N < lo) (h1 : lo ≤ m1) (h2 : m1 ≤ m2) (h3 : m2 ≤ hi) (h4 : hi ≤ w4.heap.size) (hb : Below w.heap.size w w4) :
  RowRW K x s A D w (.returned (.agg #[.slice a K.length c, .int .i64 x, .bool s, .slice b A.length d, .slice e D.length f])) (((((w4.setCell ⟨N, 0, none⟩ (.slice a K.length c)).setCell ⟨N, 1, none⟩ (.int .i64 x)).setCell ⟨N, 2, none⟩ (.bool s)).setCell ⟨N, 3, none⟩ (.slice b A.length d)).setCell ⟨N, 4, none⟩ (.slice e D.length f)) := by
 have S : Only (InG N (N + 1) w4.heap.size) w4 (((((w4.setCell ⟨N, 0, none⟩ (.slice a K.length c)).setCell ⟨N, 1, none⟩ (.int .i64 x)).setCell ⟨N, 2, none⟩ (.bool s)).setCell ⟨N, 3, none⟩ (.slice b A.length d)).setCell ⟨N, 4, none⟩ (.slice e D.length f)) := ((((((Only.refl _ _).setCell (p := ⟨N, 0, none⟩) (.inl ⟨Nat.le_refl _, Nat.lt_succ_self _⟩) _).setCell (p := ⟨N, 1, none⟩) (.inl ⟨Nat.le_refl _, Nat.lt_succ_self _⟩) _).setCell (p := ⟨N, 2, none⟩) (.inl ⟨Nat.le_refl _, Nat.lt_succ_self _⟩) _).setCell (p := ⟨N, 3, none⟩) (.inl ⟨Nat.le_refl _, Nat.lt_succ_self _⟩) _).setCell (p := ⟨N, 4, none⟩) (.inl ⟨Nat.le_refl _, Nat.lt_succ_self _⟩) _)
 have hz : (((((w4.setCell ⟨N, 0, none⟩ (.slice a K.length c)).setCell ⟨N, 1, none⟩ (.int .i64 x)).setCell ⟨N, 2, none⟩ (.bool s)).setCell ⟨N, 3, none⟩ (.slice b A.length d)).setCell ⟨N, 4, none⟩ (.slice e D.length f)).heap.size = w4.heap.size := by simp only [size_set]
 have hR' := hR.onlyG S (by omega)
 exact ⟨a, c, b, d, e, f, m2, rfl, ⟨(hT.onlyG S (by omega)).wide (by omega) h2, ⟨⟨hR'.a.ints, fun k hk => by rw [hz]; exact Nat.lt_of_lt_of_le (hR'.a.high k hk) h4⟩, ⟨hR'.d.ints, fun k hk => by rw [hz]; exact Nat.lt_of_lt_of_le (hR'.d.high k hk) h4⟩⟩, by omega, by rw [hz]; omega⟩, ((((((hb).setCell (p := ⟨N, 0, none⟩) hN _).setCell (p := ⟨N, 1, none⟩) hN _).setCell (p := ⟨N, 2, none⟩) hN _).setCell (p := ⟨N, 3, none⟩) hN _).setCell (p := ⟨N, 4, none⟩) hN _)⟩
theorem nilROw (w : World) (lo hi : Nat) : ROw w (.slice none 0 0) (.slice none 0 0) [] [] lo hi := ⟨⟨Ints_nil _ _, fun k hk => by simp [Value.ownBlock] at hk⟩, ⟨Ints_nil _ _, fun k hk => by simp [Value.ownBlock] at hk⟩⟩
theorem RowRM_zero {w w4 : World} {N : Nat} (hN : w.heap.size ≤ N) (h0 : N < w4.heap.size) (hb : Below w.heap.size w w4) : RowRM [] 0 false [] [] w (.returned (.agg #[.slice none 0 0, .int .i64 0, .bool false, .slice none 0 0, .slice none 0 0])) (((((w4.setCell ⟨N, 0, none⟩ (.slice none 0 0)).setCell ⟨N, 1, none⟩ (.int .i64 0)).setCell ⟨N, 2, none⟩ (.bool false)).setCell ⟨N, 3, none⟩ (.slice none 0 0)).setCell ⟨N, 4, none⟩ (.slice none 0 0)) :=
 RowRM_fin (K := []) (x := 0) (s := false) (A := []) (D := []) (N := N) (a := none) (b := none) (e := none) (c := 0) (d := 0) (f := 0) (TK_nil true w4 w4.heap.size w4.heap.size) (nilROw w4 w4.heap.size w4.heap.size) (fun k hk => by simp [Value.ownBlock] at hk) hN h0 (Nat.le_refl _) (Nat.le_refl _) (Nat.le_refl _) (Nat.le_refl _) hb
theorem RowRW_zero {w w4 : World} {N : Nat} (hN : w.heap.size ≤ N) (h0 : N < w4.heap.size) (hb : Below w.heap.size w w4) : RowRW [] 0 false [] [] w (.returned (.agg #[.slice none 0 0, .int .i64 0, .bool false, .slice none 0 0, .slice none 0 0])) (((((w4.setCell ⟨N, 0, none⟩ (.slice none 0 0)).setCell ⟨N, 1, none⟩ (.int .i64 0)).setCell ⟨N, 2, none⟩ (.bool false)).setCell ⟨N, 3, none⟩ (.slice none 0 0)).setCell ⟨N, 4, none⟩ (.slice none 0 0)) :=
 RowRW_fin (K := []) (x := 0) (s := false) (A := []) (D := []) (N := N) (a := none) (b := none) (e := none) (c := 0) (d := 0) (f := 0) (TK_nil false w4 w4.heap.size w4.heap.size) (nilROw w4 w4.heap.size w4.heap.size) hN h0 (Nat.le_refl _) (Nat.le_refl _) (Nat.le_refl _) (Nat.le_refl _) hb
structure Rq where
 K : List Tq
 x : Int
 s : Bool
 A : List Int
 D : List Int
def Rq0 : Rq := ⟨[], 0, false, [], []⟩
theorem scaleT_sz' {K : List Tq} {r : Option Rat} : szT (scaleT K r) ≤ 2000 := by
 unfold scaleT
 split
 ·next h =>
  have h1 := outT_sz (scP_fit r) K
  have h2 := tok_len h
  split
  ·split
   ·omega
   ·simp [szT]
  ·simp [szT]
 ·simp [szT]
def opp (x : Int) : Int := if x = 1 then 2 else if x = 2 then 1 else x
def scaleR (T0 : List Tq) (x : Int) (s : Bool) (A D : List Int) (o : Option Rat) : Rq :=
 if (rowOk T0 x s A D 40 && nz o) = true then (if (decide ((scaleT T0 o).length = T0.length) && (bq mulF (rval s A D) o).isSome) = true then ⟨scaleT T0 o, if sgnO o < 0 then opp x else x, gzs (qn (bq mulF (rval s A D) o)), gzl (qn (bq mulF (rval s A D) o)), gzl (qd (bq mulF (rval s A D) o))⟩ else Rq0) else Rq0
theorem scaleR_no {T0 : List Tq} {x : Int} {s : Bool} {A D : List Int} {o : Option Rat} (h : (rowOk T0 x s A D 40 && nz o) = false) : scaleR T0 x s A D o = Rq0 := by unfold scaleR; rw [h]; rfl
theorem scaleR_bad {T0 : List Tq} {x : Int} {s : Bool} {A D : List Int} {o : Option Rat} (h : (decide ((scaleT T0 o).length = T0.length) && (bq mulF (rval s A D) o).isSome) = false) : scaleR T0 x s A D o = Rq0 := by
 unfold scaleR
 split
 ·rw [h]; rfl
 ·rfl
theorem scaleR_yes {T0 : List Tq} {x : Int} {s : Bool} {A D : List Int} {o : Option Rat} (h : (rowOk T0 x s A D 40 && nz o) = true) (h' : (decide ((scaleT T0 o).length = T0.length) && (bq mulF (rval s A D) o).isSome) = true) : scaleR T0 x s A D o = ⟨scaleT T0 o, if sgnO o < 0 then opp x else x, gzs (qn (bq mulF (rval s A D) o)), gzl (qn (bq mulF (rval s A D) o)), gzl (qd (bq mulF (rval s A D) o))⟩ := by unfold scaleR; rw [h, h']; rfl
theorem scaleR_sz (T0 : List Tq) (x : Int) (s : Bool) (A D : List Int) (o : Option Rat) : szT (scaleR T0 x s A D o).K ≤ 2000 ∧ (scaleR T0 x s A D o).A.length ≤ 24 ∧ (scaleR T0 x s A D o).D.length ≤ 24 := by
 unfold scaleR
 split
 ·split
  ·obtain ⟨-, -, l1, l2⟩ := rval_parts (fitO_bq fitO_mul (rval s A D) o)
   dsimp only
   exact ⟨scaleT_sz', l1, l2⟩
  ·exact ⟨Nat.zero_le _, Nat.zero_le _, Nat.zero_le _⟩
 ·exact ⟨Nat.zero_le _, Nat.zero_le _, Nat.zero_le _⟩
theorem nz_zero {o : Option Rat} (h : sgnO o = 0) : nz o = false := by simp [nz, h]
theorem nz_one {o : Option Rat} (h : sgnO o ≠ 0) : nz o = true := by simp [nz, h]
theorem oppositeSense_any (x : Int) (w : World) : Calls Tryz.prog 87 #[.int .i64 x] w (RetB (.int .i64 (opp x)) w) := by
 by_cases h1 : x = 1
 ·subst h1
  go_enter Tryz.func87, Tryz.ntmps87
  go_wp2
  go_ret
  exact ⟨rfl, Below.refl _ _⟩
 have u1 : (x == 1) = false := beq_eq_false_iff_ne.2 h1
 by_cases h2 : x = 2
 ·subst h2
  go_enter Tryz.func87, Tryz.ntmps87
  go_wp2
  go_ret
  exact ⟨rfl, Below.refl _ _⟩
 have u2 : (x == 2) = false := beq_eq_false_iff_ne.2 h2
 have HF := hid (show opp x = x by unfold opp; rw [if_neg h1, if_neg h2])
 rw [HF.out]
 go_enter Tryz.func87, Tryz.ntmps87
 go_wp2
 go_ret
 exact ⟨rfl, Below.refl _ _⟩
theorem l11Sense_any (x z : Int) (h1 : 1 ≤ x) (h3 : x ≤ 3) (w : World) : Calls Tryz.prog 80 #[.int .i64 x, .int .i64 z] w (RetB (.int .i64 (if z < 0 then opp x else x)) w) := by
 have h : x = 1 ∨ x = 2 ∨ x = 3 := by omega
 clear h1 h3
 by_cases hz : z < 0
 ·rcases h with rfl | rfl | rfl
  all_goals
   go_enter Tryz.func80, Tryz.ntmps80
   go_wp2
   go_ret
   exact ⟨rfl, Below.refl _ _⟩
 ·rcases h with rfl | rfl | rfl
  all_goals
   go_enter Tryz.func80, Tryz.ntmps80
   go_wp2
   go_ret
   exact ⟨rfl, Below.refl _ _⟩
theorem rowOk_parts0 {T0 : List Tq} {x : Int} {s : Bool} {A D : List Int} {z : Int} (h : rowOk T0 x s A D z = true) : 1 ≤ x ∧ x ≤ 3 := by
 simp only [rowOk, Bool.and_eq_true, decide_eq_true_eq] at h
 exact h.1.2
theorem impl_RowScale {t v u v' u' : Value} {T0 : List Tq} {A D : List Int} {o : Option Rat} (x : Int) (s sr : Bool) (hK : SmT T0) (la : A.length ≤ 1048576) (ld : D.length ≤ 1048576) (w : World) (h : RwW w t v u T0 A D) (hr : RA w sr v' u' o) :
  Calls Tryz.prog 31 #[.agg #[t, .int .i64 x, .bool s, v, u], .agg #[.bool sr, v', u']] w (RowRM (scaleR T0 x s A D o).K (scaleR T0 x s A D o).x (scaleR T0 x s A D o).s (scaleR T0 x s A D o).A (scaleR T0 x s A D o).D w) := by
 obtain ⟨a1, c1, b1, d1, e1, f1, rfl, rfl, rfl⟩ := h.form
 obtain ⟨a2, n2, c2, b2, m2, d2, rfl, rfl⟩ := hr.form
 have hlk := hK.2
 have B := hid (show Below w.heap.size w (((w.alloc (.cells #[.slice a1 T0.length c1, .int .i64 x, .bool s, .slice b1 A.length d1, .slice e1 D.length f1] 39)).alloc (.cells #[.bool sr, .slice a2 n2 c2, .slice b2 m2 d2] 37)).alloc (.cells #[.slice none 0 0, .int .i64 0, .bool false, .slice none 0 0, .slice none 0 0] 39)) from (((Below.refl _ _).alloc (Nat.le_refl _) _).alloc (by simp) _).alloc (by simp; omega) _)
 have LX := hid (show LocA 39 (((w.alloc (.cells #[.slice a1 T0.length c1, .int .i64 x, .bool s, .slice b1 A.length d1, .slice e1 D.length f1] 39)).alloc (.cells #[.bool sr, .slice a2 n2 c2, .slice b2 m2 d2] 37)).alloc (.cells #[.slice none 0 0, .int .i64 0, .bool false, .slice none 0 0, .slice none 0 0] 39)) w.heap.size #[.slice a1 T0.length c1, .int .i64 x, .bool s, .slice b1 A.length d1, .slice e1 D.length f1] from (LocA.at rfl).new1.new1)
 have LY := hid (show LocA 37 (((w.alloc (.cells #[.slice a1 T0.length c1, .int .i64 x, .bool s, .slice b1 A.length d1, .slice e1 D.length f1] 39)).alloc (.cells #[.bool sr, .slice a2 n2 c2, .slice b2 m2 d2] 37)).alloc (.cells #[.slice none 0 0, .int .i64 0, .bool false, .slice none 0 0, .slice none 0 0] 39)) (w.heap.size + 1) #[.bool sr, .slice a2 n2 c2, .slice b2 m2 d2] from (LocA.at (by simp)).new1)
 have LR := hid (show LocA 39 (((w.alloc (.cells #[.slice a1 T0.length c1, .int .i64 x, .bool s, .slice b1 A.length d1, .slice e1 D.length f1] 39)).alloc (.cells #[.bool sr, .slice a2 n2 c2, .slice b2 m2 d2] 37)).alloc (.cells #[.slice none 0 0, .int .i64 0, .bool false, .slice none 0 0, .slice none 0 0] 39)) (w.heap.size + 1 + 1) #[.slice none 0 0, .int .i64 0, .bool false, .slice none 0 0, .slice none 0 0] from LocA.at (by simp))
 have H := hid (h.old B.out)
 have HR := hid (hr.old B.out)
 have hsW := hid (show (((w.alloc (.cells #[.slice a1 T0.length c1, .int .i64 x, .bool s, .slice b1 A.length d1, .slice e1 D.length f1] 39)).alloc (.cells #[.bool sr, .slice a2 n2 c2, .slice b2 m2 d2] 37)).alloc (.cells #[.slice none 0 0, .int .i64 0, .bool false, .slice none 0 0, .slice none 0 0] 39)).heap.size = w.heap.size + 1 + 1 + 1 by simp)
 clear h hr
 have KO := hid (fun (W : World) (g : RwW W (.slice a1 T0.length c1) (.slice b1 A.length d1) (.slice e1 D.length f1) T0 A D) => impl_RowOk x s hK la ld 40 (by omega) (by omega) W g)
 have KG := hid (fun (W : World) (g : RA W sr (.slice a2 n2 c2) (.slice b2 m2 d2) o) => sign_o g)
 have KT := hid (fun (W : World) (g : RwW W (.slice a1 T0.length c1) (.slice b1 A.length d1) (.slice e1 D.length f1) T0 A D) (g' : RA W sr (.slice a2 n2 c2) (.slice b2 m2 d2) o) => show Calls Tryz.prog 84 #[.slice a1 T0.length c1, .agg #[.bool sr, .slice a2 n2 c2, .slice b2 m2 d2]] W (TerR true (scaleT T0 o) W) from by
  obtain ⟨⟨_, _, _, y⟩, -⟩ := g
  exact impl_TermsScale hK W y g')
 have KM := hid (fun (W : World) (g : RwW W (.slice a1 T0.length c1) (.slice b1 A.length d1) (.slice e1 D.length f1) T0 A D) (g' : RA W sr (.slice a2 n2 c2) (.slice b2 m2 d2) o) => (mul_oR (g.ra la ld s) g').mono fun e w' hh => OwnRR_of hh.own)
 have KK := hid (fun (W : World) (sa : Bool) (va ua : Value) (g : RA W sa va ua (bq mulF (rval s A D) o)) => ok_o g)
 have KP := hid (fun (W : World) => oppositeSense_any x W)
 obtain ⟨R, hR⟩ : ∃ R, R = scaleR T0 x s A D o := ⟨_, rfl⟩
 rw [← hR]
 have HRR := hid hR
 clear hR
 obtain ⟨z, hz⟩ : ∃ z, sgnO o = z := ⟨_, rfl⟩
 rw [hz] at KG
 have HZ := hid hz
 have hfit := fitO_bq fitO_mul (rval s A D) o
 obtain ⟨oR, hoR⟩ : ∃ oR, bq mulF (rval s A D) o = oR := ⟨_, rfl⟩
 have HOR := hid hoR
 obtain ⟨K1, hK1⟩ : ∃ K1, scaleT T0 o = K1 := ⟨_, rfl⟩
 have HK1 := hid hK1
 have hk1 : K1.length ≤ 2000 := by rw [← hK1]; exact Nat.le_trans (szT_len _) scaleT_sz'
 rw [hoR] at KM KK hfit
 rw [hK1] at KT
 have HFR := hid hfit
 clear hoR hK1 hz hfit
 obtain ⟨gs, hgs⟩ : ∃ gs, gzs (qn oR) = gs := ⟨_, rfl⟩
 obtain ⟨GA, hGA⟩ : ∃ GA, gzl (qn oR) = GA := ⟨_, rfl⟩
 obtain ⟨GD, hGD⟩ : ∃ GD, gzl (qd oR) = GD := ⟨_, rfl⟩
 have HG := hid (And.intro hgs (And.intro hGA hGD))
 rw [hgs, hGA, hGD] at KM
 have hl24 : GA.length ≤ 24 ∧ GD.length ≤ 24 := by
  obtain ⟨-, -, l1, l2⟩ := rval_parts HFR.out
  rw [hGA] at l1
  rw [hGD] at l2
  exact ⟨l1, l2⟩
 have KK' := hid (fun (W : World) (va ua : Value) (lo hi : Nat) (g : ROw W va ua GA GD lo hi) => KK.out W gs va ua ⟨GA, GD, ⟨⟨_, g.a.ints⟩, ⟨_, g.d.ints⟩, by omega, by omega⟩, by
  have := (rval_parts HFR.out).1
  rw [HG.out.1, HG.out.2.1, HG.out.2.2] at this
  exact this⟩)
 clear KK hgs hGA hGD
 generalize hW : ((w.alloc (.cells #[.slice a1 T0.length c1, .int .i64 x, .bool s, .slice b1 A.length d1, .slice e1 D.length f1] 39)).alloc (.cells #[.bool sr, .slice a2 n2 c2, .slice b2 m2 d2] 37)).alloc (.cells #[.slice none 0 0, .int .i64 0, .bool false, .slice none 0 0, .slice none 0 0] 39) = W0 at B LX LY LR H HR hsW
 have HW := hid hW
 clear hW
 have hsW' := hsW.out
 cases ho : rowOk T0 x s A D 40 with
 |false =>
  rw [ho] at KO
  have HN := hid (show R = Rq0 from by rw [HRR.out]; exact scaleR_no (by rw [ho]; rfl))
  rw [HN.out]
  show Calls _ _ _ _ (RowRM [] 0 false [] [] w)
  go_enter Tryz.func31, Tryz.ntmps31
  go_wp2_with fail
  rw [HW.out]
  (with_reducible refine (KG.out _ HR.out).mono ?_)
  rintro e w1 ⟨rfl, b1⟩
  have tw1 : W0.heap.size ≤ w1.heap.size := b1.size
  have H := hid (H.out.old b1)
  have HR := hid (HR.out.old b1)
  have LX := hid (LX.out.old b1)
  have LY := hid (LY.out.old b1)
  have LR := hid (LR.out.old b1)
  have B := hid (B.out.trans (b1.mono B.out.size))
  clear b1
  obtain ⟨q0, q1, q2, q3, q4⟩ := LX.out.all5
  obtain ⟨y0, y1, y2⟩ := LY.out.all3
  go_wp2_with fail
  (with_reducible refine (KO.out _ H.out).mono ?_)
  clear q0 q1 q2 q3 q4 y0 y1 y2
  rintro e w2 ⟨rfl, b1⟩
  have tw2 : w1.heap.size ≤ w2.heap.size := b1.size
  have H := hid (H.out.old b1)
  have HR := hid (HR.out.old b1)
  have LX := hid (LX.out.old b1)
  have LY := hid (LY.out.old b1)
  have LR := hid (LR.out.old b1)
  have B := hid (B.out.trans (b1.mono B.out.size))
  clear b1
  obtain ⟨q0, q1, q2, q3, q4⟩ := LX.out.all5
  obtain ⟨y0, y1, y2⟩ := LY.out.all3
  have f0 := LR.out.f 0
  have f1 := LR.out.f 1
  have f2 := LR.out.f 2
  have f3 := LR.out.f 3
  have f4 := LR.out.f 4
  have p0 := LR.out.c 0 rfl
  have p1 := LR.out.c 1 rfl
  have p2 := LR.out.c 2 rfl
  have p3 := LR.out.c 3 rfl
  have p4 := LR.out.c 4 rfl
  have RR := hid (RowRM_zero (N := w.heap.size + 1 + 1) (by omega) (by omega) B.out)
  go_wp2
  exact bodyPost_ret (v := .agg #[.slice none 0 0, .int .i64 0, .bool false, .slice none 0 0, .slice none 0 0]) (by simp [results, Tryz.results31, go_sem, p0, p1, p2, p3, p4]) rfl RR.out
 |true =>
  rw [ho] at KO
  by_cases hz0 : z = 0
  ·have u0 : (z == 0) = true := beq_iff_eq.2 hz0
   have HN := hid (show R = Rq0 from by rw [HRR.out]; exact scaleR_no (by rw [ho, nz_zero (HZ.out.trans hz0)]; rfl))
   rw [HN.out]
   show Calls _ _ _ _ (RowRM [] 0 false [] [] w)
   go_enter Tryz.func31, Tryz.ntmps31
   go_wp2_with fail
   rw [HW.out]
   (with_reducible refine (KG.out _ HR.out).mono ?_)
   rintro e w1 ⟨rfl, b1⟩
   have tw1 : W0.heap.size ≤ w1.heap.size := b1.size
   have H := hid (H.out.old b1)
   have HR := hid (HR.out.old b1)
   have LX := hid (LX.out.old b1)
   have LY := hid (LY.out.old b1)
   have LR := hid (LR.out.old b1)
   have B := hid (B.out.trans (b1.mono B.out.size))
   clear b1
   obtain ⟨q0, q1, q2, q3, q4⟩ := LX.out.all5
   obtain ⟨y0, y1, y2⟩ := LY.out.all3
   go_wp2_with fail
   (with_reducible refine (KO.out _ H.out).mono ?_)
   clear q0 q1 q2 q3 q4 y0 y1 y2
   rintro e w2 ⟨rfl, b1⟩
   have tw2 : w1.heap.size ≤ w2.heap.size := b1.size
   have H := hid (H.out.old b1)
   have HR := hid (HR.out.old b1)
   have LX := hid (LX.out.old b1)
   have LY := hid (LY.out.old b1)
   have LR := hid (LR.out.old b1)
   have B := hid (B.out.trans (b1.mono B.out.size))
   clear b1
   obtain ⟨q0, q1, q2, q3, q4⟩ := LX.out.all5
   obtain ⟨y0, y1, y2⟩ := LY.out.all3
   have f0 := LR.out.f 0
   have f1 := LR.out.f 1
   have f2 := LR.out.f 2
   have f3 := LR.out.f 3
   have f4 := LR.out.f 4
   have p0 := LR.out.c 0 rfl
   have p1 := LR.out.c 1 rfl
   have p2 := LR.out.c 2 rfl
   have p3 := LR.out.c 3 rfl
   have p4 := LR.out.c 4 rfl
   have RR := hid (RowRM_zero (N := w.heap.size + 1 + 1) (by omega) (by omega) B.out)
   go_wp2
   exact bodyPost_ret (v := .agg #[.slice none 0 0, .int .i64 0, .bool false, .slice none 0 0, .slice none 0 0]) (by simp [results, Tryz.results31, go_sem, p0, p1, p2, p3, p4]) rfl RR.out
  have u0 : (z == 0) = false := beq_eq_false_iff_ne.2 hz0
  have HNZ := hid (show (rowOk T0 x s A D 40 && nz o) = true by rw [ho, nz_one (by rw [HZ.out]; exact hz0)]; rfl)
  go_enter Tryz.func31, Tryz.ntmps31
  go_wp2_with fail
  rw [HW.out]
  (with_reducible refine (KG.out _ HR.out).mono ?_)
  rintro e w1 ⟨rfl, b1⟩
  have tw1 : W0.heap.size ≤ w1.heap.size := b1.size
  have H := hid (H.out.old b1)
  have HR := hid (HR.out.old b1)
  have LX := hid (LX.out.old b1)
  have LY := hid (LY.out.old b1)
  have LR := hid (LR.out.old b1)
  have B := hid (B.out.trans (b1.mono B.out.size))
  clear b1
  obtain ⟨q0, q1, q2, q3, q4⟩ := LX.out.all5
  obtain ⟨y0, y1, y2⟩ := LY.out.all3
  go_wp2_with fail
  (with_reducible refine (KO.out _ H.out).mono ?_)
  clear q0 q1 q2 q3 q4 y0 y1 y2
  rintro e w2 ⟨rfl, b1⟩
  have tw2 : w1.heap.size ≤ w2.heap.size := b1.size
  have H := hid (H.out.old b1)
  have HR := hid (HR.out.old b1)
  have LX := hid (LX.out.old b1)
  have LY := hid (LY.out.old b1)
  have LR := hid (LR.out.old b1)
  have B := hid (B.out.trans (b1.mono B.out.size))
  clear b1
  obtain ⟨q0, q1, q2, q3, q4⟩ := LX.out.all5
  obtain ⟨y0, y1, y2⟩ := LY.out.all3
  go_upto_region 4 with fail
  go_cut [6] (fun sl wx => LaidG true w2 K1 x gs GA GD sl wx)
  case first =>
   have H0 := H
   have H := hid (H0.out.old (Below_drew1 (Below.refl _ _)))
   have HR0 := HR
   have HR := hid (HR0.out.old (Below_drew1 (Below.refl _ _)))
   have LX0 := LX
   have LX := hid (LX0.out.old (Below_drew1 (Below.refl _ _)))
   have LY0 := LY
   have LY := hid (LY0.out.old (Below_drew1 (Below.refl _ _)))
   have LR0 := LR
   have LR := hid (LR0.out.old (Below_drew1 (Below.refl _ _)))
   have CC := hid (show Below w2.heap.size w2 w2.drew from Below_drew1 (Below.refl _ _))
   have eD : w2.drew.heap.size = w2.heap.size := rfl
   have LTLX := LX.out.lt
   have LTLY := LY.out.lt
   have hW2 : w.heap.size + 1 + 1 + 1 ≤ w2.heap.size := by omega
   obtain ⟨q0, q1, q2, q3, q4⟩ := LX.out.all5
   obtain ⟨q5, q6, q7⟩ := LY.out.all3
   refine wp_region_held_drew (S := (fun w' => w'.cell? ⟨w.heap.size, 0, none⟩ = some (.slice a1 T0.length c1) ∧ w'.cell? ⟨w.heap.size, 1, none⟩ = some (.int .i64 x) ∧ w'.cell? ⟨w.heap.size, 2, none⟩ = some (.bool s) ∧ w'.cell? ⟨w.heap.size, 3, none⟩ = some (.slice b1 A.length d1) ∧ w'.cell? ⟨w.heap.size, 4, none⟩ = some (.slice e1 D.length f1) ∧ w'.cell? ⟨w.heap.size + 1, 0, none⟩ = some (.bool sr) ∧ w'.cell? ⟨w.heap.size + 1, 1, none⟩ = some (.slice a2 n2 c2) ∧ w'.cell? ⟨w.heap.size + 1, 2, none⟩ = some (.slice b2 m2 d2))) (by kernel_rfl) (by first | (with_reducible exact ⟨q0, q1, q2, q3, q4, q5, q6, q7⟩) | ((try dsimp only); with_reducible exact ⟨q0, q1, q2, q3, q4, q5, q6, q7⟩) | exact ⟨q0, q1, q2, q3, q4, q5, q6, q7⟩) (fun hHeld => ?_)
   refine wpAnyH_take (i := 0) (oi := _) (v := ?_) rfl (by kernel_rfl) (by kernel_rfl) (by kernel_rfl) (fun _ _ _ h => h) (Or.inl ⟨by rfl, ?_⟩) (by assumption) ?_
   rotate_left
   ·(intro w hSw; (try dsimp only at hSw); go_simp; try (with_reducible rfl))
   try simp only [Act.put, List.setIfInBounds_toArray, List.set_cons_zero, List.set_cons_succ, List.getElem_toArray, List.getElem_cons_zero]
   refine wpAnyH_take (i := 1) (oi := _) (v := ?_) rfl (by kernel_rfl) (by kernel_rfl) (by kernel_rfl) (fun _ _ _ h => h) (Or.inl ⟨by rfl, ?_⟩) (by assumption) ?_
   rotate_left
   ·(intro w hSw; (try dsimp only at hSw); go_simp; try (with_reducible rfl))
   try simp only [Act.put, List.setIfInBounds_toArray, List.set_cons_zero, List.set_cons_succ, List.getElem_toArray, List.getElem_cons_zero, List.getElem_cons_succ]
   refine wpAnyH_take (i := 2) (oi := _) (v := ?_) rfl (by kernel_rfl) (by kernel_rfl) (by kernel_rfl) (fun _ _ _ h => h) (Or.inl ⟨by rfl, ?_⟩) (by assumption) ?_
   rotate_left
   ·(intro w hSw; (try dsimp only at hSw); go_simp; try (with_reducible rfl))
   try simp only [Act.put, List.setIfInBounds_toArray, List.set_cons_zero, List.set_cons_succ, List.getElem_toArray, List.getElem_cons_zero, List.getElem_cons_succ]
   refine wpAnyH_take (i := 4) (oi := _) (v := ?_) rfl (by kernel_rfl) (by kernel_rfl) (by kernel_rfl) (fun _ _ _ h => h) (Or.inl ⟨by rfl, ?_⟩) (by assumption) ?_
   rotate_left
   ·(intro w hSw; (try dsimp only at hSw); go_simp; try (with_reducible rfl))
   try simp only [Act.put, List.setIfInBounds_toArray, List.set_cons_zero, List.set_cons_succ, List.getElem_toArray, List.getElem_cons_zero, List.getElem_cons_succ]
   refine wpAnyH_take (i := 5) (oi := _) (v := ?_) rfl (by kernel_rfl) (by kernel_rfl) (by kernel_rfl) (fun _ _ _ h => h) (Or.inl ⟨by rfl, ?_⟩) (by assumption) ?_
   rotate_left
   ·(intro w hSw; (try dsimp only at hSw); go_simp; try (with_reducible rfl))
   try simp only [Act.put, List.setIfInBounds_toArray, List.set_cons_zero, List.set_cons_succ, List.getElem_toArray, List.getElem_cons_zero, List.getElem_cons_succ]
   refine wpAnyH_take (i := 6) (oi := _) (v := ?_) rfl (by kernel_rfl) (by kernel_rfl) (by kernel_rfl) (fun _ _ _ h => h) (Or.inl ⟨by rfl, ?_⟩) (by assumption) ?_
   rotate_left
   ·(intro w hSw; (try dsimp only at hSw); go_simp; try (with_reducible rfl))
   try simp only [Act.put, List.setIfInBounds_toArray, List.set_cons_zero, List.set_cons_succ, List.getElem_toArray, List.getElem_cons_zero, List.getElem_cons_succ]
   refine wpAnyH_take (i := 7) (oi := _) (v := ?_) rfl (by kernel_rfl) (by kernel_rfl) (by kernel_rfl) (fun _ _ _ h => h) (Or.inl ⟨by rfl, ?_⟩) (by assumption) ?_
   rotate_left
   ·(intro w hSw; (try dsimp only at hSw); go_simp; try (with_reducible rfl))
   try simp only [Act.put, List.setIfInBounds_toArray, List.set_cons_zero, List.set_cons_succ, List.getElem_toArray, List.getElem_cons_zero, List.getElem_cons_succ]
   refine wpAnyH_take (i := 8) (oi := _) (v := ?_) rfl (by kernel_rfl) (by kernel_rfl) (by kernel_rfl) (fun _ _ _ h => h) (Or.inl ⟨by rfl, ?_⟩) (by assumption) ?_
   rotate_left
   ·(intro w hSw; (try dsimp only at hSw); go_simp; try (with_reducible rfl))
   try simp only [Act.put, List.setIfInBounds_toArray, List.set_cons_zero, List.set_cons_succ, List.getElem_toArray, List.getElem_cons_zero, List.getElem_cons_succ]
   refine wpAnyH_ready (rs := [3, 11]) (by kernel_rfl) (by simp) ?_
   refine AllReadyH.cons (o := _) rfl (fun K hK => ?_) (AllReadyH.cons (o := _) rfl (fun K hK => ?_) AllReadyH.nil)
   ·skip
    go_simp
    (with_reducible refine (KT.out _ H.out HR.out).mono ?_)
    rintro e wc0 ⟨a7, n7, c7, rfl, i1, bb⟩
    have sz0 : w2.drew.heap.size ≤ wc0.heap.size := bb.size
    have H := hid (H.out.old bb)
    have HR := hid (HR.out.old bb)
    have LX := hid (LX.out.old bb)
    have LY := hid (LY.out.old bb)
    have LR := hid (LR.out.old bb)
    have CC := hid (CC.out.trans (bb.mono CC.out.size))
    obtain rfl := i1.num
    have I1 := hid i1
    clear i1
    obtain ⟨q0, q1, q2, q3, q4⟩ := LX.out.all5
    obtain ⟨q5, q6, q7⟩ := LY.out.all3
    clear bb
    go_wp2_with fail
    refine hK.out _ _ ?_ (fun hHeld => ?_)
    ·first | (with_reducible exact ⟨q0, q1, q2, q3, q4, q5, q6, q7⟩) | ((try dsimp only); with_reducible exact ⟨q0, q1, q2, q3, q4, q5, q6, q7⟩) | exact ⟨q0, q1, q2, q3, q4, q5, q6, q7⟩
    refine wpAnyH_ready (rs := [9, 11]) (by kernel_rfl) (by simp) ?_
    refine AllReadyH.cons (o := _) rfl (fun K hK => ?_) (AllReadyH.cons (o := _) rfl (fun K hK => ?_) AllReadyH.nil)
    ·skip
     go_simp
     (with_reducible refine (KM.out _ H.out HR.out).mono ?_)
     rintro e wc1 ⟨v8, u8, rfl, i1, bb⟩
     have sz1 : wc0.heap.size ≤ wc1.heap.size := bb.size
     have H := hid (H.out.old bb)
     have HR := hid (HR.out.old bb)
     have LX := hid (LX.out.old bb)
     have LY := hid (LY.out.old bb)
     have LR := hid (LR.out.old bb)
     have I1 := hid (I1.out.old bb)
     have CC := hid (CC.out.trans (bb.mono CC.out.size))
     have hn8 := i1.ne
     have I2 := hid (i1.w)
     obtain ⟨a8, c8, b8, d8, rfl, rfl⟩ := i1.form
     clear i1
     obtain ⟨q0, q1, q2, q3, q4⟩ := LX.out.all5
     obtain ⟨q5, q6, q7⟩ := LY.out.all3
     clear bb
     go_wp2_with fail
     refine hK.out _ _ ?_ (fun hHeld => ?_)
     ·first | (with_reducible exact ⟨q0, q1, q2, q3, q4, q5, q6, q7⟩) | ((try dsimp only); with_reducible exact ⟨q0, q1, q2, q3, q4, q5, q6, q7⟩) | exact ⟨q0, q1, q2, q3, q4, q5, q6, q7⟩
     refine wpAnyH_take (i := 10) (oi := _) (v := ?_) rfl (by kernel_rfl) (by kernel_rfl) (by kernel_rfl) (fun _ _ _ h => h) (Or.inl ⟨by rfl, ?_⟩) (by assumption) ?_
     rotate_left
     ·(intro w hSw; (try dsimp only at hSw); go_simp; try (with_reducible rfl))
     try simp only [Act.put, List.setIfInBounds_toArray, List.set_cons_zero, List.set_cons_succ, List.getElem_toArray, List.getElem_cons_zero, List.getElem_cons_succ]
     refine wpAnyH_ready (rs := [11]) (by kernel_rfl) (by simp) ?_
     refine AllReadyH.cons (o := _) rfl (fun K hK => ?_) AllReadyH.nil
     obtain ⟨qw0, qw1, qw2, qw3, qw4⟩ := LX.out.all5
     obtain ⟨qw5, qw6, qw7⟩ := LY.out.all3
     have I1w := I1
     have I2w := I2
     have CCw := CC
     have HTLX := hid (show w.heap.size < (wc1).heap.size from Nat.lt_of_lt_of_le LTLX CC.out.size)
     have HTLY := hid (show w.heap.size + 1 < (wc1).heap.size from Nat.lt_of_lt_of_le LTLY CC.out.size)
     have HMLX := hid (show w.heap.size < wc1.heap.size from HTLX.out)
     have HMLY := hid (show w.heap.size + 1 < wc1.heap.size from HTLY.out)
     go_simp
     have BN := hid (below_new' (w := wc1) (o := .cells #[.slice none 0 0, .int .i64 0, .bool false, .slice none 0 0, .slice none 0 0] 39))
     have NZ := hid (LocA.new (w := wc1) (T := 39) (cs := #[.slice none 0 0, .int .i64 0, .bool false, .slice none 0 0, .slice none 0 0]))
     have eA : (wc1.alloc (.cells #[.slice none 0 0, .int .i64 0, .bool false, .slice none 0 0, .slice none 0 0] 39)).heap.size = wc1.heap.size + 1 := by simp
     have hNZ : w2.heap.size ≤ wc1.heap.size := CC.out.size
     have H := hid (H.out.old BN.out)
     have HR := hid (HR.out.old BN.out)
     have LX := hid (LX.out.old BN.out)
     have LY := hid (LY.out.old BN.out)
     have LR := hid (LR.out.old BN.out)
     have I1 := hid (I1.out.old BN.out)
     have I2 := hid (I2.out.old BN.out)
     have CC := hid (CC.out.alloc CC.out.size (.cells #[.slice none 0 0, .int .i64 0, .bool false, .slice none 0 0, .slice none 0 0] 39))
     obtain ⟨q0, q1, q2, q3, q4⟩ := LX.out.all5
     obtain ⟨q5, q6, q7⟩ := LY.out.all3
     refine hK.out _ _ ?_ (fun hHeld => ?_)
     ·first | (with_reducible exact ⟨q0, q1, q2, q3, q4, q5, q6, q7⟩) | ((try dsimp only); with_reducible exact ⟨q0, q1, q2, q3, q4, q5, q6, q7⟩) | exact ⟨q0, q1, q2, q3, q4, q5, q6, q7⟩
     try simp only [Act.put, List.setIfInBounds_toArray, List.set_cons_zero, List.set_cons_succ, List.getElem_toArray, List.getElem_cons_zero, List.getElem_cons_succ]
     refine wpAnyH_ready (rs := [12]) (by kernel_rfl) (by simp) ?_
     refine AllReadyH.cons (o := _) rfl (fun K hK => ?_) AllReadyH.nil
     have hNB := NZ.out.lt
     have hsB := CC.out.size
     have f0 := NZ.out.f 0
     have f1 := NZ.out.f 1
     have f2 := NZ.out.f 2
     have f3 := NZ.out.f 3
     have f4 := NZ.out.f 4
     have p0 := NZ.out.c 0 rfl
     have p1 := NZ.out.c 1 rfl
     have p2 := NZ.out.c 2 rfl
     have p3 := NZ.out.c 3 rfl
     have p4 := NZ.out.c 4 rfl
     go_simp
     (try go_wp2_with fail)
     refine hK.out _ _ ?_ (fun hHeld => ?_)
     ·with_reducible exact ⟨(Below.cell below_new' (p := ⟨w.heap.size, 0, none⟩) HTLX.out).trans qw0, (Below.cell below_new' (p := ⟨w.heap.size, 1, none⟩) HTLX.out).trans qw1, (Below.cell below_new' (p := ⟨w.heap.size, 2, none⟩) HTLX.out).trans qw2, (Below.cell below_new' (p := ⟨w.heap.size, 3, none⟩) HTLX.out).trans qw3, (Below.cell below_new' (p := ⟨w.heap.size, 4, none⟩) HTLX.out).trans qw4, (Below.cell below_new' (p := ⟨w.heap.size + 1, 0, none⟩) HTLY.out).trans qw5, (Below.cell below_new' (p := ⟨w.heap.size + 1, 1, none⟩) HTLY.out).trans qw6, (Below.cell below_new' (p := ⟨w.heap.size + 1, 2, none⟩) HTLY.out).trans qw7⟩
     refine wpAnyH_done (by kernel_rfl) ?_ _
     go_wp2_with fail
     go_meet
     exact LaidG_a I1w.out I2w.out (fun _ => hn8) (by omega) (by omega) (by omega) (by omega) (by omega) CCw.out
    ·skip
     obtain ⟨qw0, qw1, qw2, qw3, qw4⟩ := LX.out.all5
     obtain ⟨qw5, qw6, qw7⟩ := LY.out.all3
     have I1w := I1
     have CCw := CC
     have HTLX := hid (show w.heap.size < (wc0).heap.size from Nat.lt_of_lt_of_le LTLX CC.out.size)
     have HTLY := hid (show w.heap.size + 1 < (wc0).heap.size from Nat.lt_of_lt_of_le LTLY CC.out.size)
     have HMLX := hid (show w.heap.size < wc0.heap.size from HTLX.out)
     have HMLY := hid (show w.heap.size + 1 < wc0.heap.size from HTLY.out)
     go_simp
     have BN := hid (below_new' (w := wc0) (o := .cells #[.slice none 0 0, .int .i64 0, .bool false, .slice none 0 0, .slice none 0 0] 39))
     have NZ := hid (LocA.new (w := wc0) (T := 39) (cs := #[.slice none 0 0, .int .i64 0, .bool false, .slice none 0 0, .slice none 0 0]))
     have eA : (wc0.alloc (.cells #[.slice none 0 0, .int .i64 0, .bool false, .slice none 0 0, .slice none 0 0] 39)).heap.size = wc0.heap.size + 1 := by simp
     have hNZ : w2.heap.size ≤ wc0.heap.size := CC.out.size
     have H := hid (H.out.old BN.out)
     have HR := hid (HR.out.old BN.out)
     have LX := hid (LX.out.old BN.out)
     have LY := hid (LY.out.old BN.out)
     have LR := hid (LR.out.old BN.out)
     have I1 := hid (I1.out.old BN.out)
     have CC := hid (CC.out.alloc CC.out.size (.cells #[.slice none 0 0, .int .i64 0, .bool false, .slice none 0 0, .slice none 0 0] 39))
     obtain ⟨q0, q1, q2, q3, q4⟩ := LX.out.all5
     obtain ⟨q5, q6, q7⟩ := LY.out.all3
     refine hK.out _ _ ?_ (fun hHeld => ?_)
     ·first | (with_reducible exact ⟨q0, q1, q2, q3, q4, q5, q6, q7⟩) | ((try dsimp only); with_reducible exact ⟨q0, q1, q2, q3, q4, q5, q6, q7⟩) | exact ⟨q0, q1, q2, q3, q4, q5, q6, q7⟩
     try simp only [Act.put, List.setIfInBounds_toArray, List.set_cons_zero, List.set_cons_succ, List.getElem_toArray, List.getElem_cons_zero, List.getElem_cons_succ]
     refine wpAnyH_ready (rs := [9]) (by kernel_rfl) (by simp) ?_
     refine AllReadyH.cons (o := _) rfl (fun K hK => ?_) AllReadyH.nil
     go_simp
     (with_reducible refine (KM.out _ H.out HR.out).mono ?_)
     rintro e wc1 ⟨v8, u8, rfl, i1, bb⟩
     have sz1 : (wc0.alloc (.cells #[.slice none 0 0, .int .i64 0, .bool false, .slice none 0 0, .slice none 0 0] 39)).heap.size ≤ wc1.heap.size := bb.size
     have H := hid (H.out.old bb)
     have HR := hid (HR.out.old bb)
     have LX := hid (LX.out.old bb)
     have LY := hid (LY.out.old bb)
     have LR := hid (LR.out.old bb)
     have I1 := hid (I1.out.old bb)
     have NZ := hid (NZ.out.old bb)
     have CC := hid (CC.out.trans (bb.mono CC.out.size))
     have hn8 := i1.ne
     have I2 := hid (i1.w)
     obtain ⟨a8, c8, b8, d8, rfl, rfl⟩ := i1.form
     clear i1
     obtain ⟨q0, q1, q2, q3, q4⟩ := LX.out.all5
     obtain ⟨q5, q6, q7⟩ := LY.out.all3
     clear bb
     go_wp2_with fail
     refine hK.out _ _ ?_ (fun hHeld => ?_)
     ·first | (with_reducible exact ⟨q0, q1, q2, q3, q4, q5, q6, q7⟩) | ((try dsimp only); with_reducible exact ⟨q0, q1, q2, q3, q4, q5, q6, q7⟩) | exact ⟨q0, q1, q2, q3, q4, q5, q6, q7⟩
     refine wpAnyH_take (i := 10) (oi := _) (v := ?_) rfl (by kernel_rfl) (by kernel_rfl) (by kernel_rfl) (fun _ _ _ h => h) (Or.inl ⟨by rfl, ?_⟩) (by assumption) ?_
     rotate_left
     ·(intro w hSw; (try dsimp only at hSw); go_simp; try (with_reducible rfl))
     try simp only [Act.put, List.setIfInBounds_toArray, List.set_cons_zero, List.set_cons_succ, List.getElem_toArray, List.getElem_cons_zero, List.getElem_cons_succ]
     refine wpAnyH_ready (rs := [12]) (by kernel_rfl) (by simp) ?_
     refine AllReadyH.cons (o := _) rfl (fun K hK => ?_) AllReadyH.nil
     have hNB := NZ.out.lt
     have hsB := CC.out.size
     have f0 := NZ.out.f 0
     have f1 := NZ.out.f 1
     have f2 := NZ.out.f 2
     have f3 := NZ.out.f 3
     have f4 := NZ.out.f 4
     have p0 := NZ.out.c 0 rfl
     have p1 := NZ.out.c 1 rfl
     have p2 := NZ.out.c 2 rfl
     have p3 := NZ.out.c 3 rfl
     have p4 := NZ.out.c 4 rfl
     go_simp
     (try go_wp2_with fail)
     skip
     skip
     refine hK.out _ _ ?_ (fun hHeld => ?_)
     ·with_reducible exact ⟨(cell_set5 (Nat.ne_of_lt HMLX.out)).trans q0, (cell_set5 (Nat.ne_of_lt HMLX.out)).trans q1, (cell_set5 (Nat.ne_of_lt HMLX.out)).trans q2, (cell_set5 (Nat.ne_of_lt HMLX.out)).trans q3, (cell_set5 (Nat.ne_of_lt HMLX.out)).trans q4, (cell_set5 (Nat.ne_of_lt HMLY.out)).trans q5, (cell_set5 (Nat.ne_of_lt HMLY.out)).trans q6, (cell_set5 (Nat.ne_of_lt HMLY.out)).trans q7⟩
     refine wpAnyH_done (by kernel_rfl) ?_ _
     go_wp2_with fail
     go_meet
     exact LaidG_b NZ.out I1.out I2.out (fun _ => hn8) (by omega) (by omega) (by omega) (by omega) (by omega) (by omega) (by omega) (by omega) CC.out
   ·skip
    obtain ⟨qw0, qw1, qw2, qw3, qw4⟩ := LX.out.all5
    obtain ⟨qw5, qw6, qw7⟩ := LY.out.all3
    have CCw := CC
    have HTLX := hid (show w.heap.size < (w2.drew).heap.size from Nat.lt_of_lt_of_le LTLX CC.out.size)
    have HTLY := hid (show w.heap.size + 1 < (w2.drew).heap.size from Nat.lt_of_lt_of_le LTLY CC.out.size)
    have HMLX := hid (show w.heap.size < w2.heap.size from LTLX)
    have HMLY := hid (show w.heap.size + 1 < w2.heap.size from LTLY)
    go_simp
    have H := hid (H0.out.old (Below_drew1 (below_new' (o := .cells #[.slice none 0 0, .int .i64 0, .bool false, .slice none 0 0, .slice none 0 0] 39))))
    have HR := hid (HR0.out.old (Below_drew1 (below_new' (o := .cells #[.slice none 0 0, .int .i64 0, .bool false, .slice none 0 0, .slice none 0 0] 39))))
    have LX := hid (LX0.out.old (Below_drew1 (below_new' (o := .cells #[.slice none 0 0, .int .i64 0, .bool false, .slice none 0 0, .slice none 0 0] 39))))
    have LY := hid (LY0.out.old (Below_drew1 (below_new' (o := .cells #[.slice none 0 0, .int .i64 0, .bool false, .slice none 0 0, .slice none 0 0] 39))))
    have LR := hid (LR0.out.old (Below_drew1 (below_new' (o := .cells #[.slice none 0 0, .int .i64 0, .bool false, .slice none 0 0, .slice none 0 0] 39))))
    have CC := hid (show Below w2.heap.size w2 ((w2.alloc (.cells #[.slice none 0 0, .int .i64 0, .bool false, .slice none 0 0, .slice none 0 0] 39)).drew) from Below_drew1 below_new')
    have NZ := hid (show LocA 39 ((w2.alloc (.cells #[.slice none 0 0, .int .i64 0, .bool false, .slice none 0 0, .slice none 0 0] 39)).drew) w2.heap.size #[.slice none 0 0, .int .i64 0, .bool false, .slice none 0 0, .slice none 0 0] from LocA.new)
    have eA : ((w2.alloc (.cells #[.slice none 0 0, .int .i64 0, .bool false, .slice none 0 0, .slice none 0 0] 39)).drew).heap.size = w2.heap.size + 1 := (by show (w2.alloc (.cells #[.slice none 0 0, .int .i64 0, .bool false, .slice none 0 0, .slice none 0 0] 39)).heap.size = _; simp)
    obtain ⟨q0, q1, q2, q3, q4⟩ := LX.out.all5
    obtain ⟨q5, q6, q7⟩ := LY.out.all3
    refine hK.out _ _ ?_ (fun hHeld => ?_)
    ·first | (with_reducible exact ⟨q0, q1, q2, q3, q4, q5, q6, q7⟩) | ((try dsimp only); with_reducible exact ⟨q0, q1, q2, q3, q4, q5, q6, q7⟩) | exact ⟨q0, q1, q2, q3, q4, q5, q6, q7⟩
    try simp only [Act.put, List.setIfInBounds_toArray, List.set_cons_zero, List.set_cons_succ, List.getElem_toArray, List.getElem_cons_zero, List.getElem_cons_succ]
    refine wpAnyH_ready (rs := [3]) (by kernel_rfl) (by simp) ?_
    refine AllReadyH.cons (o := _) rfl (fun K hK => ?_) AllReadyH.nil
    go_simp
    (with_reducible refine (KT.out _ H.out HR.out).mono ?_)
    rintro e wc0 ⟨a7, n7, c7, rfl, i1, bb⟩
    have sz0 : (w2.alloc (.cells #[.slice none 0 0, .int .i64 0, .bool false, .slice none 0 0, .slice none 0 0] 39)).drew.heap.size ≤ wc0.heap.size := bb.size
    have H := hid (H.out.old bb)
    have HR := hid (HR.out.old bb)
    have LX := hid (LX.out.old bb)
    have LY := hid (LY.out.old bb)
    have LR := hid (LR.out.old bb)
    have NZ := hid (NZ.out.old bb)
    have CC := hid (CC.out.trans (bb.mono CC.out.size))
    obtain rfl := i1.num
    have I1 := hid i1
    clear i1
    obtain ⟨q0, q1, q2, q3, q4⟩ := LX.out.all5
    obtain ⟨q5, q6, q7⟩ := LY.out.all3
    clear bb
    go_wp2_with fail
    refine hK.out _ _ ?_ (fun hHeld => ?_)
    ·first | (with_reducible exact ⟨q0, q1, q2, q3, q4, q5, q6, q7⟩) | ((try dsimp only); with_reducible exact ⟨q0, q1, q2, q3, q4, q5, q6, q7⟩) | exact ⟨q0, q1, q2, q3, q4, q5, q6, q7⟩
    refine wpAnyH_ready (rs := [9]) (by kernel_rfl) (by simp) ?_
    refine AllReadyH.cons (o := _) rfl (fun K hK => ?_) AllReadyH.nil
    go_simp
    (with_reducible refine (KM.out _ H.out HR.out).mono ?_)
    rintro e wc1 ⟨v8, u8, rfl, i1, bb⟩
    have sz1 : wc0.heap.size ≤ wc1.heap.size := bb.size
    have H := hid (H.out.old bb)
    have HR := hid (HR.out.old bb)
    have LX := hid (LX.out.old bb)
    have LY := hid (LY.out.old bb)
    have LR := hid (LR.out.old bb)
    have I1 := hid (I1.out.old bb)
    have NZ := hid (NZ.out.old bb)
    have CC := hid (CC.out.trans (bb.mono CC.out.size))
    have hn8 := i1.ne
    have I2 := hid (i1.w)
    obtain ⟨a8, c8, b8, d8, rfl, rfl⟩ := i1.form
    clear i1
    obtain ⟨q0, q1, q2, q3, q4⟩ := LX.out.all5
    obtain ⟨q5, q6, q7⟩ := LY.out.all3
    clear bb
    go_wp2_with fail
    refine hK.out _ _ ?_ (fun hHeld => ?_)
    ·first | (with_reducible exact ⟨q0, q1, q2, q3, q4, q5, q6, q7⟩) | ((try dsimp only); with_reducible exact ⟨q0, q1, q2, q3, q4, q5, q6, q7⟩) | exact ⟨q0, q1, q2, q3, q4, q5, q6, q7⟩
    refine wpAnyH_take (i := 10) (oi := _) (v := ?_) rfl (by kernel_rfl) (by kernel_rfl) (by kernel_rfl) (fun _ _ _ h => h) (Or.inl ⟨by rfl, ?_⟩) (by assumption) ?_
    rotate_left
    ·(intro w hSw; (try dsimp only at hSw); go_simp; try (with_reducible rfl))
    try simp only [Act.put, List.setIfInBounds_toArray, List.set_cons_zero, List.set_cons_succ, List.getElem_toArray, List.getElem_cons_zero, List.getElem_cons_succ]
    refine wpAnyH_ready (rs := [12]) (by kernel_rfl) (by simp) ?_
    refine AllReadyH.cons (o := _) rfl (fun K hK => ?_) AllReadyH.nil
    have hNB := NZ.out.lt
    have hsB := CC.out.size
    have f0 := NZ.out.f 0
    have f1 := NZ.out.f 1
    have f2 := NZ.out.f 2
    have f3 := NZ.out.f 3
    have f4 := NZ.out.f 4
    have p0 := NZ.out.c 0 rfl
    have p1 := NZ.out.c 1 rfl
    have p2 := NZ.out.c 2 rfl
    have p3 := NZ.out.c 3 rfl
    have p4 := NZ.out.c 4 rfl
    go_simp
    (try go_wp2_with fail)
    skip
    skip
    refine hK.out _ _ ?_ (fun hHeld => ?_)
    ·with_reducible exact ⟨(cell_set5 (Nat.ne_of_lt HMLX.out)).trans q0, (cell_set5 (Nat.ne_of_lt HMLX.out)).trans q1, (cell_set5 (Nat.ne_of_lt HMLX.out)).trans q2, (cell_set5 (Nat.ne_of_lt HMLX.out)).trans q3, (cell_set5 (Nat.ne_of_lt HMLX.out)).trans q4, (cell_set5 (Nat.ne_of_lt HMLY.out)).trans q5, (cell_set5 (Nat.ne_of_lt HMLY.out)).trans q6, (cell_set5 (Nat.ne_of_lt HMLY.out)).trans q7⟩
    refine wpAnyH_done (by kernel_rfl) ?_ _
    go_wp2_with fail
    go_meet
    exact LaidG_b NZ.out I1.out I2.out (fun _ => hn8) (by omega) (by omega) (by omega) (by omega) (by omega) (by omega) (by omega) (by omega) CC.out
  case rest =>
   generalize wc = w5 at hcut ⊢
   obtain ⟨g5, a5, c5, b5, d5, e5, f5, lo5, m51, m52, hi5, rfl, hL, hT, hRo, hn, ⟨k0, k1, k2, k3, k4, k5, k6, k7, k8⟩, b1⟩ := hcut
   clear q0 q1 q2 q3 q4 y0 y1 y2
   have t5 : w2.heap.size ≤ w5.heap.size := b1.size
   have H := hid (H.out.old b1)
   have HR := hid (HR.out.old b1)
   have LX := hid (LX.out.old b1)
   have LY := hid (LY.out.old b1)
   have LR := hid (LR.out.old b1)
   have B := hid (B.out.trans (b1.mono B.out.size))
   have LS := hid hL
   have IT := hid hT
   have IR := hid hRo
   have HNN := hid hn
   clear hL hT hRo hn b1
   by_cases hl : K1.length = T0.length
   case neg =>
    have u1 : ((K1.length : Int) != (T0.length : Int)) = true := bne_iff_ne.2 (by omega)
    have hN := show R = Rq0 from by rw [HRR.out]; exact scaleR_bad (by rw [HK1.out, decide_eq_false hl]; rfl)
    subst hN
    obtain ⟨q0, q1, q2, q3, q4⟩ := LX.out.all5
    obtain ⟨y0, y1, y2, y3, y4⟩ := LS.out.all5
    have f0 := LR.out.f 0
    have f1 := LR.out.f 1
    have f2 := LR.out.f 2
    have f3 := LR.out.f 3
    have f4 := LR.out.f 4
    have p0 := LR.out.c 0 rfl
    have p1 := LR.out.c 1 rfl
    have p2 := LR.out.c 2 rfl
    have p3 := LR.out.c 3 rfl
    have p4 := LR.out.c 4 rfl
    have RR := hid (RowRM_zero (N := w.heap.size + 1 + 1) (by omega) (by omega) B.out)
    go_wp2
    exact bodyPost_ret (v := .agg #[.slice none 0 0, .int .i64 0, .bool false, .slice none 0 0, .slice none 0 0]) (by simp [results, Tryz.results31, go_sem, p0, p1, p2, p3, p4]) rfl RR.out
   have u1 : ((K1.length : Int) != (T0.length : Int)) = false := bne_eq_false_iff_eq.2 (by omega)
   have HL := hid hl
   clear hl
   cases hq : oR.isSome with
   |false =>
    rw [hq] at KK'
    have hN := show R = Rq0 from by rw [HRR.out]; exact scaleR_bad (by rw [HOR.out, hq, Bool.and_false])
    subst hN
    obtain ⟨q0, q1, q2, q3, q4⟩ := LX.out.all5
    obtain ⟨y0, y1, y2, y3, y4⟩ := LS.out.all5
    go_wp2_with fail
    (with_reducible refine (KK'.out _ _ _ _ _ IR.out).mono ?_)
    clear q0 q1 q2 q3 q4 y0 y1 y2 y3 y4
    rintro e w6 ⟨rfl, b1⟩
    have t6 : w5.heap.size ≤ w6.heap.size := b1.size
    have H := hid (H.out.old b1)
    have HR := hid (HR.out.old b1)
    have LX := hid (LX.out.old b1)
    have LY := hid (LY.out.old b1)
    have LR := hid (LR.out.old b1)
    have LS := hid (LS.out.old b1)
    have B := hid (B.out.trans (b1.mono B.out.size))
    have IT := hid (IT.out.old b1)
    have IR := hid (IR.out.old b1)
    clear b1
    obtain ⟨q0, q1, q2, q3, q4⟩ := LX.out.all5
    obtain ⟨y0, y1, y2, y3, y4⟩ := LS.out.all5
    have f0 := LR.out.f 0
    have f1 := LR.out.f 1
    have f2 := LR.out.f 2
    have f3 := LR.out.f 3
    have f4 := LR.out.f 4
    have p0 := LR.out.c 0 rfl
    have p1 := LR.out.c 1 rfl
    have p2 := LR.out.c 2 rfl
    have p3 := LR.out.c 3 rfl
    have p4 := LR.out.c 4 rfl
    have RR := hid (RowRM_zero (N := w.heap.size + 1 + 1) (by omega) (by omega) B.out)
    go_wp2
    exact bodyPost_ret (v := .agg #[.slice none 0 0, .int .i64 0, .bool false, .slice none 0 0, .slice none 0 0]) (by simp [results, Tryz.results31, go_sem, p0, p1, p2, p3, p4]) rfl RR.out
   |true =>
    by_cases hs : z < 0
    ·have hs1 := hs
     rw [hq] at KK'
     have hY := show R = ⟨K1, opp x, gs, GA, GD⟩ from by rw [HRR.out, scaleR_yes HNZ.out (by rw [HK1.out, HOR.out, decide_eq_true HL.out, hq]; rfl), HK1.out, HOR.out, HZ.out, HG.out.1, HG.out.2.1, HG.out.2.2, if_pos hs]
     subst hY
     obtain ⟨q0, q1, q2, q3, q4⟩ := LX.out.all5
     obtain ⟨y0, y1, y2, y3, y4⟩ := LS.out.all5
     go_wp2_with fail
     (with_reducible refine (KK'.out _ _ _ _ _ IR.out).mono ?_)
     clear q0 q1 q2 q3 q4 y0 y1 y2 y3 y4
     rintro e w6 ⟨rfl, b1⟩
     have t6 : w5.heap.size ≤ w6.heap.size := b1.size
     have H := hid (H.out.old b1)
     have HR := hid (HR.out.old b1)
     have LX := hid (LX.out.old b1)
     have LY := hid (LY.out.old b1)
     have LR := hid (LR.out.old b1)
     have LS := hid (LS.out.old b1)
     have B := hid (B.out.trans (b1.mono B.out.size))
     have IT := hid (IT.out.old b1)
     have IR := hid (IR.out.old b1)
     clear b1
     obtain ⟨q0, q1, q2, q3, q4⟩ := LX.out.all5
     obtain ⟨y0, y1, y2, y3, y4⟩ := LS.out.all5
     go_wp2_with fail
     (with_reducible refine (KP.out _).mono ?_)
     clear q0 q1 q2 q3 q4 y0 y1 y2 y3 y4
     rintro e w7 ⟨rfl, b1⟩
     have t7 : w6.heap.size ≤ w7.heap.size := b1.size
     have H := hid (H.out.old b1)
     have HR := hid (HR.out.old b1)
     have LX := hid (LX.out.old b1)
     have LY := hid (LY.out.old b1)
     have LR := hid (LR.out.old b1)
     have LS := hid (LS.out.old b1)
     have B := hid (B.out.trans (b1.mono B.out.size))
     have IT := hid (IT.out.old b1)
     have IR := hid (IR.out.old b1)
     clear b1
     have hf1 := LS.out.f 1
     obtain ⟨y0, y1, y2, y3, y4⟩ := LS.out.all5
     have S1 : Only (InG g5 (g5 + 1) w7.heap.size) w7 (w7.setCell ⟨g5, 1, none⟩ (.int .i64 (opp x))) := (Only.refl _ _).setCell (p := ⟨g5, 1, none⟩) (.inl ⟨Nat.le_refl _, Nat.lt_succ_self _⟩) _
     have hz7 : (w7.setCell ⟨g5, 1, none⟩ (.int .i64 (opp x))).heap.size = w7.heap.size := size_set _ _ _
     have IT := hid (IT.out.onlyG S1 (by omega))
     have IR := hid (IR.out.onlyG S1 (by omega))
     have B := hid (B.out.setCell (p := ⟨g5, 1, none⟩) (by show w.heap.size ≤ g5; omega) (.int .i64 (opp x)))
     have LS := hid (show LocA 39 (w7.setCell ⟨g5, 1, none⟩ (.int .i64 (opp x))) g5 #[.slice a5 K1.length c5, .int .i64 (opp x), .bool gs, .slice b5 GA.length d5, .slice e5 GD.length f5] from LS.out.set (i := 1) (x := .int .i64 (opp x)))
     have LR := hid (LR.out.setne (N := g5) (i := 1) (x := .int .i64 (opp x)) (show w.heap.size + 1 + 1 ≠ g5 by omega))
     clear S1
     go_upto_region 9 with fail
     clear hf1 y0 y1 y2 y3 y4
     generalize w7.setCell ⟨g5, 1, none⟩ (.int .i64 (opp x)) = w8 at IT IR B LS LR hz7 ⊢
     obtain ⟨y0, y1, y2, y3, y4⟩ := LS.out.all5
     have f0 := LR.out.f 0
     have f1 := LR.out.f 1
     have f2 := LR.out.f 2
     have f3 := LR.out.f 3
     have f4 := LR.out.f 4
     have p0 := LR.out.c 0 rfl
     have p1 := LR.out.c 1 rfl
     have p2 := LR.out.c 2 rfl
     have p3 := LR.out.c 3 rfl
     have p4 := LR.out.c 4 rfl
     have RR := hid (RowRM_fin (x := (opp x)) (s := gs) (N := w.heap.size + 1 + 1) IT.out IR.out (HNN.out (by simp)) (by omega) (by omega) k1 k2 k3 (by omega) B.out)
     go_wp2
     exact bodyPost_ret (v := .agg #[.slice a5 K1.length c5, .int .i64 (opp x), .bool gs, .slice b5 GA.length d5, .slice e5 GD.length f5]) (by simp [results, Tryz.results31, go_sem, p0, p1, p2, p3, p4]) rfl RR.out
    ·have hs1 := hs
     rw [hq] at KK'
     have hY := show R = ⟨K1, x, gs, GA, GD⟩ from by rw [HRR.out, scaleR_yes HNZ.out (by rw [HK1.out, HOR.out, decide_eq_true HL.out, hq]; rfl), HK1.out, HOR.out, HZ.out, HG.out.1, HG.out.2.1, HG.out.2.2, if_neg hs]
     subst hY
     obtain ⟨q0, q1, q2, q3, q4⟩ := LX.out.all5
     obtain ⟨y0, y1, y2, y3, y4⟩ := LS.out.all5
     go_wp2_with fail
     (with_reducible refine (KK'.out _ _ _ _ _ IR.out).mono ?_)
     clear q0 q1 q2 q3 q4 y0 y1 y2 y3 y4
     rintro e w6 ⟨rfl, b1⟩
     have t6 : w5.heap.size ≤ w6.heap.size := b1.size
     have H := hid (H.out.old b1)
     have HR := hid (HR.out.old b1)
     have LX := hid (LX.out.old b1)
     have LY := hid (LY.out.old b1)
     have LR := hid (LR.out.old b1)
     have LS := hid (LS.out.old b1)
     have B := hid (B.out.trans (b1.mono B.out.size))
     have IT := hid (IT.out.old b1)
     have IR := hid (IR.out.old b1)
     clear b1
     obtain ⟨q0, q1, q2, q3, q4⟩ := LX.out.all5
     obtain ⟨y0, y1, y2, y3, y4⟩ := LS.out.all5
     have f0 := LR.out.f 0
     have f1 := LR.out.f 1
     have f2 := LR.out.f 2
     have f3 := LR.out.f 3
     have f4 := LR.out.f 4
     have p0 := LR.out.c 0 rfl
     have p1 := LR.out.c 1 rfl
     have p2 := LR.out.c 2 rfl
     have p3 := LR.out.c 3 rfl
     have p4 := LR.out.c 4 rfl
     have RR := hid (RowRM_fin (x := x) (s := gs) (N := w.heap.size + 1 + 1) IT.out IR.out (HNN.out (by simp)) (by omega) (by omega) k1 k2 k3 (by omega) B.out)
     go_wp2
     exact bodyPost_ret (v := .agg #[.slice a5 K1.length c5, .int .i64 x, .bool gs, .slice b5 GA.length d5, .slice e5 GD.length f5]) (by simp [results, Tryz.results31, go_sem, p0, p1, p2, p3, p4]) rfl RR.out
end Go.Proofs.YthkehmnodcmlcaaGreat
