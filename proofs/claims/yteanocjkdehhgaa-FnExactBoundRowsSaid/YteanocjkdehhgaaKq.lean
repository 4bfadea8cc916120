/- A row that states a bound, in the reference; slices of rows appended. -/
import Derived.Test.YteanocjkdehhgaaKp
import Derived.Deep.RegionHeld3
import Derived.Deep.AppendLies
namespace Go.Proofs.Yteanocjkdehhgaa
open Go.RowKit
open Go.Lib (hid)
set_option linter.unusedVariables false

/-- A row's struct that is only read, between two heights. -/
def RwR (w : World) (t v u : Value) (K : List Tq) (A D : List Int) (lo hi : Nat) : Prop := (∃ E, TO false w t E lo hi ∧ keysT E = K) ∧ ROw w v u A D lo hi
theorem RwR.onlyS {w w' : World} {t v u : Value} {K : List Tq} {A D : List Int} {lo hi : Nat} {S : Nat → Prop} (h : RwR w t v u K A D lo hi) (hb : Only S w w') (hd : ∀ k, lo ≤ k → k < hi → ¬ S k) : RwR w' t v u K A D lo hi := by
  obtain ⟨⟨E, h1, h2⟩, h3⟩ := h
  exact ⟨⟨E, h1.onlyS hb hd, h2⟩, h3.onlyS hb hd⟩
theorem RwR.wide {w : World} {t v u : Value} {K : List Tq} {A D : List Int} {lo hi lo' hi' : Nat} (h : RwR w t v u K A D lo hi) (h1 : lo' ≤ lo) (h2 : hi ≤ hi') : RwR w t v u K A D lo' hi' := by
  obtain ⟨⟨E, h3, h4⟩, h5⟩ := h
  exact ⟨⟨E, h3.wide h1 h2, h4⟩, ⟨h5.a.wide h1 (.inr h2), h5.d.wide h1 (.inr h2)⟩⟩
theorem RwR.old {w w' : World} {t v u : Value} {K : List Tq} {A D : List Int} {lo hi : Nat} (h : RwR w t v u K A D lo hi) (hb : Below w.heap.size w w') : RwR w' t v u K A D lo hi := by
  obtain ⟨⟨E, h1, h2⟩, h3⟩ := h
  exact ⟨⟨E, h1.old hb, h2⟩, h3.old hb⟩
theorem cell_set5 {w : World} {b N i : Nat} {u0 u1 u2 u3 u4 : Value} (h : b ≠ N) : (((((w.setCell ⟨N, 0, none⟩ u0).setCell ⟨N, 1, none⟩ u1).setCell ⟨N, 2, none⟩ u2).setCell ⟨N, 3, none⟩ u3).setCell ⟨N, 4, none⟩ u4).cell? ⟨b, i, none⟩ = w.cell? ⟨b, i, none⟩ :=
  World.cell?_of_block (w := w) (by rw [Below.heap_setCell _ _ _ _ h, Below.heap_setCell _ _ _ _ h, Below.heap_setCell _ _ _ _ h, Below.heap_setCell _ _ _ _ h, Below.heap_setCell _ _ _ _ h])
theorem set5_alloc {w : World} {N : Nat} {o : Go.Obj} {u0 u1 u2 u3 u4 : Value} (h : N < w.heap.size) : ((((((w.alloc o).setCell ⟨N, 0, none⟩ u0).setCell ⟨N, 1, none⟩ u1).setCell ⟨N, 2, none⟩ u2).setCell ⟨N, 3, none⟩ u3).setCell ⟨N, 4, none⟩ u4) = (((((w.setCell ⟨N, 0, none⟩ u0).setCell ⟨N, 1, none⟩ u1).setCell ⟨N, 2, none⟩ u2).setCell ⟨N, 3, none⟩ u3).setCell ⟨N, 4, none⟩ u4).alloc o := by
  have hz := fun (v : Value) (W : World) (j : Nat) (hW : N < W.heap.size) => Nat.lt_of_lt_of_eq hW (show (W.setCell ⟨N, j, none⟩ v).heap.size = W.heap.size from setW_size [v] W N j).symm
  have e1 := hz u0 w 0 h
  have e2 := hz u1 _ 1 e1
  have e3 := hz u2 _ 2 e2
  have e4 := hz u3 _ 3 e3
  rw [World.setCell_alloc_past _ _ _ _ h, World.setCell_alloc_past _ _ _ _ e1, World.setCell_alloc_past _ _ _ _ e2, World.setCell_alloc_past _ _ _ _ e3, World.setCell_alloc_past _ _ _ _ e4]
theorem cell_set5a {w : World} {b N i : Nat} {o : Go.Obj} {u0 u1 u2 u3 u4 : Value} (h : b ≠ N) (hN : N < w.heap.size) : ((((((w.setCell ⟨N, 0, none⟩ u0).setCell ⟨N, 1, none⟩ u1).setCell ⟨N, 2, none⟩ u2).setCell ⟨N, 3, none⟩ u3).setCell ⟨N, 4, none⟩ u4).alloc o).cell? ⟨b, i, none⟩ = (w.alloc o).cell? ⟨b, i, none⟩ :=
  (congrArg (fun X : World => X.cell? ⟨b, i, none⟩) (set5_alloc hN)).symm.trans (cell_set5 h)
/-- A row's struct is returned, only to be read. -/
def UnitR (q : Wq) (w : World) (e : Ending) (w' : World) : Prop := ∃ a c b d g f, e = .returned (.agg #[.slice a q.K.length c, .int .i64 q.x, .bool q.s, .slice b q.A.length d, .slice g q.D.length f]) ∧ RwR w' (.slice a q.K.length c) (.slice b q.A.length d) (.slice g q.D.length f) q.K q.A q.D w.heap.size w'.heap.size ∧ Below w.heap.size w w'
theorem UnitR_out {w X : World} {q : Wq} {N lo hi : Nat} {a b g : Option Addr} {c d f : Nat} (hX : Below w.heap.size w X) (hN : w.heap.size ≤ N) (hr : RwR X (.slice a q.K.length c) (.slice b q.A.length d) (.slice g q.D.length f) q.K q.A q.D lo hi) (hN2 : N < lo) (hh : hi ≤ X.heap.size) :
    UnitR q w (.returned (.agg #[.slice a q.K.length c, .int .i64 q.x, .bool q.s, .slice b q.A.length d, .slice g q.D.length f])) (((((X.setCell ⟨N, 0, none⟩ (.slice a q.K.length c)).setCell ⟨N, 1, none⟩ (.int .i64 q.x)).setCell ⟨N, 2, none⟩ (.bool q.s)).setCell ⟨N, 3, none⟩ (.slice b q.A.length d)).setCell ⟨N, 4, none⟩ (.slice g q.D.length f)) := by
  show UnitR q w _ (setW X N 0 [.slice a q.K.length c, .int .i64 q.x, .bool q.s, .slice b q.A.length d, .slice g q.D.length f])
  have hs := setW_only [.slice a q.K.length c, .int .i64 q.x, .bool q.s, .slice b q.A.length d, .slice g q.D.length f] X N 0
  have hz := setW_size [.slice a q.K.length c, .int .i64 q.x, .bool q.s, .slice b q.A.length d, .slice g q.D.length f] X N 0
  refine ⟨a, c, b, d, g, f, rfl, (hr.onlyS hs fun k h1 h2 h3 => by omega).wide (by omega) (by rw [hz]; exact hh), hX.trans (hs.below fun k hk h3 => by omega)⟩
theorem UnitR_outa {w X : World} {q : Wq} {o : Go.Obj} {N lo hi : Nat} {a b g : Option Addr} {c d f : Nat} (hX : Below w.heap.size w (X.alloc o)) (hN : w.heap.size ≤ N) (hr : RwR (X.alloc o) (.slice a q.K.length c) (.slice b q.A.length d) (.slice g q.D.length f) q.K q.A q.D lo hi) (hN2 : N < lo) (hh : hi ≤ (X.alloc o).heap.size) (hNX : N < X.heap.size) :
    UnitR q w (.returned (.agg #[.slice a q.K.length c, .int .i64 q.x, .bool q.s, .slice b q.A.length d, .slice g q.D.length f])) ((((((X.setCell ⟨N, 0, none⟩ (.slice a q.K.length c)).setCell ⟨N, 1, none⟩ (.int .i64 q.x)).setCell ⟨N, 2, none⟩ (.bool q.s)).setCell ⟨N, 3, none⟩ (.slice b q.A.length d)).setCell ⟨N, 4, none⟩ (.slice g q.D.length f)).alloc o) :=
  set5_alloc hNX ▸ UnitR_out hX hN hr hN2 hh
set_option maxRecDepth 100000 in
set_option maxHeartbeats 6400000 in
theorem spec_l12Unit (c x : Int) (s : Bool) {v u : Value} {A D : List Int} (w : World) (h : RL w v u A D) :
    Calls Try.prog 56 #[.int .i64 c, .int .i64 x, .agg #[.bool s, v, u]] w (UnitR (bndQ c x s A D) w) := by
  obtain ⟨a, c0, b, d0, rfl, rfl⟩ := h.form
  have B := hid (show Below w.heap.size w ((w.alloc (.cells #[.bool s, .slice a A.length c0, .slice b D.length d0] 33)).alloc (.cells #[.slice none 0 0, .int .i64 0, .bool false, .slice none 0 0, .slice none 0 0] 91)) from ((Below.refl _ _).alloc (Nat.le_refl _) _).alloc (by simp) _)
  have L1 := hid (show LocA 33 ((w.alloc (.cells #[.bool s, .slice a A.length c0, .slice b D.length d0] 33)).alloc (.cells #[.slice none 0 0, .int .i64 0, .bool false, .slice none 0 0, .slice none 0 0] 91)) w.heap.size #[.bool s, .slice a A.length c0, .slice b D.length d0] from (LocA.at rfl).new1)
  have LR := hid (show LocA 91 ((w.alloc (.cells #[.bool s, .slice a A.length c0, .slice b D.length d0] 33)).alloc (.cells #[.slice none 0 0, .int .i64 0, .bool false, .slice none 0 0, .slice none 0 0] 91)) (w.heap.size + 1) #[.slice none 0 0, .int .i64 0, .bool false, .slice none 0 0, .slice none 0 0] from LocA.at (by simp))
  have H := hid (h.old B.out)
  have hsZ := hid (show ((w.alloc (.cells #[.bool s, .slice a A.length c0, .slice b D.length d0] 33)).alloc (.cells #[.slice none 0 0, .int .i64 0, .bool false, .slice none 0 0, .slice none 0 0] 91)).heap.size = w.heap.size + 1 + 1 by simp)
  have KI := hid (sint_o 1 (by omega) (by omega))
  have KC := hid (fun (W : World) (g : RL W (.slice a A.length c0) (.slice b D.length d0) A D) => l04Copy_l s _ _ A D W g)
  clear h
  go_enter Try.func56, Try.ntmps56
  go_wp2_with fail
  generalize (w.alloc (.cells #[.bool s, .slice a A.length c0, .slice b D.length d0] 33)).alloc (.cells #[.slice none 0 0, .int .i64 0, .bool false, .slice none 0 0, .slice none 0 0] 91) = W at B L1 LR H hsZ ⊢
  have L1 := hid (L1.out.old (Below_drew1 (Below.refl _ _)))
  have LR := hid (LR.out.old (Below_drew1 (Below.refl _ _)))
  have H := hid (H.out.old (Below_drew1 (Below.refl _ _)))
  have B := hid (Below_drew1 B.out)
  have hsZ := hid (show W.drew.heap.size = w.heap.size + 1 + 1 from hsZ.out)
  have hne : w.heap.size ≠ w.heap.size + 1 := by omega
  have q0 := L1.out.c 0 (v := .bool s) rfl; have q1 := L1.out.c 1 (v := .slice a A.length c0) rfl; have q2 := L1.out.c 2 (v := .slice b D.length d0) rfl
  go_region_held3 (fun w' => w'.cell? ⟨w.heap.size, 0, none⟩ = some (.bool s) ∧ w'.cell? ⟨w.heap.size, 1, none⟩ = some (.slice a A.length c0) ∧ w'.cell? ⟨w.heap.size, 2, none⟩ = some (.slice b D.length d0)) (first | with_reducible exact ⟨q0, q1, q2⟩ | with_reducible exact ⟨y0, y1, y2⟩ | with_reducible exact ⟨(cell_set5 hne).trans q0, (cell_set5 hne).trans q1, (cell_set5 hne).trans q2⟩ | with_reducible exact ⟨(cell_set5a hne hlt).trans y0, (cell_set5a hne hlt).trans y1, (cell_set5a hne hlt).trans y2⟩)
    (first
    | (go_at_call 103; (with_reducible refine (KI.out _).mono ?_); rintro e w1 ⟨sg, a1, n1, c1, b1, m1, d1, rfl, hr, hb⟩; have L1 := hid (L1.out.old hb); have LR := hid (LR.out.old hb); have H := hid (H.out.old hb); have B := hid (B.out.trans (hb.mono B.out.size)); have RR := hid hr; have hs1 := hb.size; have L1Z := hid (L1.out.old (below_new' (o := .cells #[.int .i64 c, .bool sg, .slice a1 n1 c1, .slice b1 m1 d1] 132))); have q0 := L1.out.c 0 (v := .bool s) rfl; have q1 := L1.out.c 1 (v := .slice a A.length c0) rfl; have q2 := L1.out.c 2 (v := .slice b D.length d0) rfl; have y0 := L1Z.out.c 0 (v := .bool s) rfl; have y1 := L1Z.out.c 1 (v := .slice a A.length c0) rfl; have y2 := L1Z.out.c 2 (v := .slice b D.length d0) rfl; clear hb hr)
    | (go_at_call 104; (with_reducible refine (KC.out _ H.out).mono ?_); rintro e w2 ⟨v2, u2, rfl, i1, i2, hb⟩; have L1 := hid (L1.out.old hb); have LR := hid (LR.out.old hb); have B := hid (B.out.trans (hb.mono B.out.size)); have R2 := hid (RR.out.old hb); have hs2 := hb.size; obtain ⟨a2, c2, rfl, -⟩ := Ints_form i1; obtain ⟨b2, d2, rfl, -⟩ := Ints_form i2; have F2 := hid (show ROw w2 (.slice a2 A.length c2) (.slice b2 D.length d2) A D w1.heap.size w2.heap.size from ⟨⟨i1, fun k hk => (Ints_lt i1 k hk).2⟩, ⟨i2, fun k hk => (Ints_lt i2 k hk).2⟩⟩); have hlt := (show w.heap.size + 1 < w2.heap.size from LR.out.lt); have GG := hid (show RwR (w2.alloc (.cells #[.int .i64 c, .bool sg, .slice a1 n1 c1, .slice b1 m1 d1] 132)) (.slice (some ⟨w2.heap.size, 0, none⟩) 1 1) (.slice a2 A.length c2) (.slice b2 D.length d2) [tqo c (some ((1 : Int) : Rat))] A D (w.heap.size + 1 + 1) (w2.heap.size + 1) from ⟨⟨_, (TO_lit (p := false) (lo := w.heap.size + 1 + 1) c (by have h7 := hsZ.out; have h8 := hs1; have h9 := hs2; omega) R2.out (by have h7 := hsZ.out; omega) rfl), rfl⟩, ⟨(F2.out.a.old (below_new' (o := .cells #[.int .i64 c, .bool sg, .slice a1 n1 c1, .slice b1 m1 d1] 132))).wide (by have h7 := hsZ.out; have h8 := hs1; omega) (.inr (by omega)), (F2.out.d.old (below_new' (o := .cells #[.int .i64 c, .bool sg, .slice a1 n1 c1, .slice b1 m1 d1] 132))).wide (by have h7 := hsZ.out; have h8 := hs1; omega) (.inr (by omega))⟩⟩); have LRZ := hid (LR.out.old (below_new' (o := .cells #[.int .i64 c, .bool sg, .slice a1 n1 c1, .slice b1 m1 d1] 132))); have L1Z := hid (L1.out.old (below_new' (o := .cells #[.int .i64 c, .bool sg, .slice a1 n1 c1, .slice b1 m1 d1] 132))); have q0 := L1.out.c 0 (v := .bool s) rfl; have q1 := L1.out.c 1 (v := .slice a A.length c0) rfl; have q2 := L1.out.c 2 (v := .slice b D.length d0) rfl; have y0 := L1Z.out.c 0 (v := .bool s) rfl; have y1 := L1Z.out.c 1 (v := .slice a A.length c0) rfl; have y2 := L1Z.out.c 2 (v := .slice b D.length d0) rfl; have p0 := LR.out.c 0 (v := .slice none 0 0) rfl; have f0 := LR.out.f 0; have p1 := LR.out.c 1 (v := .int .i64 0) rfl; have f1 := LR.out.f 1; have p2 := LR.out.c 2 (v := .bool false) rfl; have f2 := LR.out.f 2; have p3 := LR.out.c 3 (v := .slice none 0 0) rfl; have f3 := LR.out.f 3; have p4 := LR.out.c 4 (v := .slice none 0 0) rfl; have f4 := LR.out.f 4; have o0 := LRZ.out.c 0 (v := .slice none 0 0) rfl; have g0 := LRZ.out.f 0; have o1 := LRZ.out.c 1 (v := .int .i64 0) rfl; have g1 := LRZ.out.f 1; have o2 := LRZ.out.c 2 (v := .bool false) rfl; have g2 := LRZ.out.f 2; have o3 := LRZ.out.c 3 (v := .slice none 0 0) rfl; have g3 := LRZ.out.f 3; have o4 := LRZ.out.c 4 (v := .slice none 0 0) rfl; have g4 := LRZ.out.f 4; clear hb i1 i2)
    | (go_at_call 104; (with_reducible refine (KC.out _ (H.out.old (below_new' (o := .cells #[.int .i64 c, .bool sg, .slice a1 n1 c1, .slice b1 m1 d1] 132)))).mono ?_); rintro e w2 ⟨v2, u2, rfl, i1, i2, hb⟩; have L1 := hid ((L1.out.old (below_new' (o := .cells #[.int .i64 c, .bool sg, .slice a1 n1 c1, .slice b1 m1 d1] 132))).old hb); have LR := hid ((LR.out.old (below_new' (o := .cells #[.int .i64 c, .bool sg, .slice a1 n1 c1, .slice b1 m1 d1] 132))).old hb); have TT := hid (((TO_lit (p := false) (lo := w.heap.size + 1 + 1) c (by have h7 := hsZ.out; have h8 := hs1; omega) RR.out (by have h7 := hsZ.out; omega) rfl)).old hb); have B := hid ((B.out.alloc B.out.size (.cells #[.int .i64 c, .bool sg, .slice a1 n1 c1, .slice b1 m1 d1] 132)).trans (hb.mono (by have := B.out.size; simp; omega))); have hs2 := hb.size; obtain ⟨a2, c2, rfl, -⟩ := Ints_form i1; obtain ⟨b2, d2, rfl, -⟩ := Ints_form i2; have F2 := hid (show ROw w2 (.slice a2 A.length c2) (.slice b2 D.length d2) A D (w1.alloc (.cells #[.int .i64 c, .bool sg, .slice a1 n1 c1, .slice b1 m1 d1] 132)).heap.size w2.heap.size from ⟨⟨i1, fun k hk => (Ints_lt i1 k hk).2⟩, ⟨i2, fun k hk => (Ints_lt i2 k hk).2⟩⟩); have hlt := (show w.heap.size + 1 < w2.heap.size from LR.out.lt); have GG := hid (show RwR w2 (.slice (some ⟨w1.heap.size, 0, none⟩) 1 1) (.slice a2 A.length c2) (.slice b2 D.length d2) [tqo c (some ((1 : Int) : Rat))] A D (w.heap.size + 1 + 1) w2.heap.size from ⟨⟨_, TT.out.wide (Nat.le_refl _) (by have h9 := hb.size; have hza : (w1.alloc (.cells #[.int .i64 c, .bool sg, .slice a1 n1 c1, .slice b1 m1 d1] 132)).heap.size = w1.heap.size + 1 := (by simp); omega), rfl⟩, ⟨F2.out.a.wide (by have h7 := hsZ.out; have h8 := hs1; have hza : (w1.alloc (.cells #[.int .i64 c, .bool sg, .slice a1 n1 c1, .slice b1 m1 d1] 132)).heap.size = w1.heap.size + 1 := (by simp); omega) (.inr (Nat.le_refl _)), F2.out.d.wide (by have h7 := hsZ.out; have h8 := hs1; have hza : (w1.alloc (.cells #[.int .i64 c, .bool sg, .slice a1 n1 c1, .slice b1 m1 d1] 132)).heap.size = w1.heap.size + 1 := (by simp); omega) (.inr (Nat.le_refl _))⟩⟩); have q0 := L1.out.c 0 (v := .bool s) rfl; have q1 := L1.out.c 1 (v := .slice a A.length c0) rfl; have q2 := L1.out.c 2 (v := .slice b D.length d0) rfl; have p0 := LR.out.c 0 (v := .slice none 0 0) rfl; have f0 := LR.out.f 0; have p1 := LR.out.c 1 (v := .int .i64 0) rfl; have f1 := LR.out.f 1; have p2 := LR.out.c 2 (v := .bool false) rfl; have f2 := LR.out.f 2; have p3 := LR.out.c 3 (v := .slice none 0 0) rfl; have f3 := LR.out.f 3; have p4 := LR.out.c 4 (v := .slice none 0 0) rfl; have f4 := LR.out.f 4; clear hb i1 i2))
  all_goals go_wp2
  · refine bodyPost_ret (v := .agg #[.slice (some ⟨w1.heap.size, 0, none⟩) 1 1, .int .i64 x, .bool s, .slice a2 A.length c2, .slice b2 D.length d2]) ?_ rfl ?_
    · simp [results, Try.results56, go_sem, p0, p1, p2, p3, p4]
    · exact UnitR_out (X := w2) (q := bndQ c x s A D) (N := w.heap.size + 1) B.out (Nat.le_succ _) GG.out (Nat.lt_succ_self _) (Nat.le_refl _)
  · refine bodyPost_ret (v := .agg #[.slice (some ⟨w2.heap.size, 0, none⟩) 1 1, .int .i64 x, .bool s, .slice a2 A.length c2, .slice b2 D.length d2]) ?_ rfl ?_
    · rw [← set5_alloc (w := w2) hlt]
      simp [results, Try.results56, go_sem, o0, o1, o2, o3, o4]
    · exact UnitR_outa (X := w2) (q := bndQ c x s A D) (N := w.heap.size + 1) (B.out.alloc B.out.size _) (Nat.le_succ _) GG.out (Nat.lt_succ_self _) (by simp) hlt
theorem infoRow : (Try.prog.info? 91).map (fun i => (i.zero, i.size, i.bytes)) = some (some (.agg #[.slice none 0 0, .int .i64 0, .bool false, .slice none 0 0, .slice none 0 0]), 5, 88) := by kernel_rfl
section
variable {D : Kd Er} {ops : Array Oper} {o : Oper} {a : Act} {W : World} {v : Value} {E F : List Er} {lo B m c : Nat} {S S' : Nat → Prop}
set_option maxRecDepth 100000 in
/-- THE APPEND of structs of rows. -/
theorem wpList_onto {rest : List Oper} {Q : Exit → Act → World → Prop} (hn5 : D.n = 5) (hgd : o.guard = none) (s1 x1 : Operand)
    (ho : o.op = .call { callee := .builtin .append, args := #[s1, x1], argTypes := #[49, 49] }) (hs : a.eval s1 = v) (hv : GO D 91 W v E lo S)
    (hx : a.eval x1 = .slice (some ⟨B, 0, none⟩) m c) (hm : m = F.length) (hnews : ∀ j u, (flatG D F)[j]? = some u → W.cell? ⟨B, j, none⟩ = some u) (h1 : ∀ u ∈ flatG D F, u.oneCell' = true) (h0 : 0 < F.length) (hlen : E.length + F.length ≤ 4194304) (hlw : lo ≤ W.heap.size)
    (hF : ∀ e ∈ F, D.P W e) (hS : ∀ k, S k → S' k) (hS1 : S' W.heap.size) (hFr : ∀ e ∈ F, ∀ k, D.inr e k → S' k) (hFo : ∀ e ∈ F, ∀ k, v.ownBlock = some k → ¬ D.inr e k) (hEF : ∀ e ∈ E, ∀ f ∈ F, ∀ k, D.inr e k → ¬ D.inr f k) (hFF : F.Pairwise fun e e' => ∀ k, D.inr e k → ¬ D.inr e' k)
    (h : ∀ (g cap n : Nat) (w' : World), n = E.length + F.length → GO D 91 w' (.slice (some ⟨g, 0, none⟩) n cap) (E ++ F) lo S' → Below lo W w' → wpList Try.prog ops Q rest (a.put o.dst (.slice (some ⟨g, 0, none⟩) n cap)) w') :
    wpList Try.prog ops Q (o :: rest) a W := by
  obtain ⟨i0, hi0, hz0, hz1, hz2⟩ := info_parts infoRow
  have hrow := hv.row
  rw [hn5] at hrow
  refine wpList_append_lies W hgd s1 x1 49 ho lo 91 i0 _ 5 88 Try.underlying49 hi0 hz0 hz1 hz2 rfl (by decide) v E.length (flatG D E) hs hrow ⟨B, 0, none⟩ m c (flatG D F) hx (by rw [flatG_len, hn5, hm]) (fun j u hu => by rw [Go.WideShapes.add_plain, Nat.zero_add]; exact hnews j u hu) h1 (by omega) (by unfold maxLen; omega) (by omega) hlw W.heap.size rfl ?_
  intro g cap w' hr hg hat hlt
  refine h g cap (E.length + m) w' (by omega) (hv.onto (by rw [hn5]; exact hr) (by omega) hg hat hF hS hS1 hFr hFo hEF hFF) ((Below.refl lo W).grown hg hlw fun k hk => (hv.lt k hk).1)
end
theorem GO.tight {α : Type} {D : Kd α} {T : TypeId} {w : World} {v : Value} {E : List α} {lo : Nat} {S : Nat → Prop} (h : GO D T w v E lo S) (hs : ∀ k, S k → lo ≤ k) : GO D T w v E lo (fun k => lo ≤ k ∧ k < w.heap.size) :=
  ⟨h.row, fun k hk => h.lt k hk, h.el, fun e he k hk => ⟨hs k (h.rg e he k hk), D.lt (h.el e he) k hk⟩, h.out, h.ap⟩
/-- The rows of a call's own (between two heights) are appended to such rows of an earlier height. -/
theorem wpList_appR {ops : Array Oper} {o : Oper} {a : Act} {W : World} {v : Value} {B m c lo hi lo2 hi2 : Nat} {Ks Fs : List Wq} {rest : List Oper} {Q : Exit → Act → World → Prop} (hgd : o.guard = none) (s1 x1 : Operand)
    (ho : o.op = .call { callee := .builtin .append, args := #[s1, x1], argTypes := #[49, 49] }) (hs : a.eval s1 = v) (hv : RMO W v Ks lo hi) (hx : a.eval x1 = .slice (some ⟨B, 0, none⟩) m c) (hF : RMO W (.slice (some ⟨B, 0, none⟩) m c) Fs lo2 hi2) (hh : hi ≤ lo2) (h0 : 0 < Fs.length) (hlen : Ks.length + Fs.length ≤ 4194304) (hl : lo ≤ hi) (hl2 : lo2 ≤ W.heap.size)
    (h : ∀ (g cap n : Nat) (w' : World), n = Ks.length + Fs.length → RMO w' (.slice (some ⟨g, 0, none⟩) n cap) (Ks ++ Fs) lo w'.heap.size → Below lo W w' → wpList Try.prog ops Q rest (a.put o.dst (.slice (some ⟨g, 0, none⟩) n cap)) w') :
    wpList Try.prog ops Q (o :: rest) a W := by
  obtain ⟨⟨E, hE, rfl⟩, hb⟩ := hv
  obtain ⟨⟨F, hF, rfl⟩, hb2⟩ := hF
  rw [List.length_map, List.length_map] at hlen h
  rw [List.length_map] at h0
  have hnum := hF.num
  refine wpList_onto (D := kdR) (E := E) (F := F) (S' := fun k => lo ≤ k ∧ k < W.heap.size + 1) rfl hgd s1 x1 ho hs hE hx hnum (fun j u hu => ?_) (fun u hu => ?_) h0 hlen (by omega) hF.el (fun k hk => ⟨hk.1, by have := hk.2; omega⟩) ⟨by omega, by omega⟩ (fun e he k hk => ?_) (fun e he k hk hin => ?_) (fun e he f hf k h1 h2 => ?_) hF.ap ?_
  · have := hF.row.cells (g := B) rfl j u hu
    rwa [Go.WideShapes.add_plain, Nat.zero_add] at this
  · obtain ⟨e, he, hu⟩ := List.mem_flatMap.1 hu
    obtain ⟨a1, c1, b1, d1, e1, f1, h1, h2, h3⟩ := (hF.el e he).1.form
    have hu : u ∈ [e.t, .int .i64 e.q.x, .bool e.q.s, e.v, e.u] := hu
    rw [h1, h2, h3] at hu
    simp only [List.mem_cons, List.not_mem_nil, or_false] at hu
    rcases hu with rfl | rfl | rfl | rfl | rfl <;> rfl
  · have := hF.rg e he k hk
    exact ⟨by have := this.1; omega, by have := this.2; omega⟩
  · have h1 := hE.high k hk
    have h2 := hF.rg e he k hin
    have := h1.2
    have := h2.1
    omega
  · have h1 := hE.rg e he k h1
    have h2 := hF.rg f hf k h2
    have := h1.2
    have := h2.1
    omega
  · intro g cap n w' hn hg hbl
    exact h g cap n w' hn ⟨⟨_, hg.tight (fun k hk => hk.1), by rw [List.map_append]⟩, Nat.le_refl _⟩ hbl
/-- A row's struct out of a block of its own is appended (the reference). -/
theorem wpList_pushL {ops : Array Oper} {o : Oper} {a : Act} {W : World} {v t x y : Value} {B lo hi l2 h2 : Nat} {Ks : List Wq} (q : Wq) {rest : List Oper} {Q : Exit → Act → World → Prop} (hgd : o.guard = none) (s1 x1 : Operand)
    (ho : o.op = .call { callee := .builtin .append, args := #[s1, x1], argTypes := #[49, 49] }) (hs : a.eval s1 = v) (hv : RLO W v Ks lo hi) (hx : a.eval x1 = .slice (some ⟨B, 0, none⟩) 1 1) (hB : W.heap.size = B) (hr : RwR W t x y q.K q.A q.D l2 h2) (hh : hi ≤ l2) (hl : lo ≤ hi) (hl2 : l2 ≤ h2) (hw : h2 ≤ W.heap.size) (hlen : Ks.length + 1 ≤ 4194304)
    (h : ∀ (g cap n : Nat) (w' : World), n = Ks.length + 1 → RLO w' (.slice (some ⟨g, 0, none⟩) n cap) (Ks ++ [q]) lo w'.heap.size → Below lo (W.alloc (.cells #[t, .int .i64 q.x, .bool q.s, x, y] 91)) w' → wpList Try.prog ops Q rest (a.put o.dst (.slice (some ⟨g, 0, none⟩) n cap)) w') :
    wpList Try.prog ops Q (o :: rest) a (W.alloc (.cells #[t, .int .i64 q.x, .bool q.s, x, y] 91)) := by
  obtain ⟨⟨E, hE, rfl⟩, hb⟩ := hv
  rw [List.length_map] at hlen h
  subst hB
  have hz : (W.alloc (.cells #[t, .int .i64 q.x, .bool q.s, x, y] 91)).heap.size = W.heap.size + 1 := by simp
  have bz := below_new' (w := W) (o := .cells #[t, .int .i64 q.x, .bool q.s, x, y] 91)
  have hform : ∃ (a1 : Option Addr) (c1 : Nat) (b1 : Option Addr) (d1 : Nat) (e1 : Option Addr) (f1 : Nat), t = .slice a1 q.K.length c1 ∧ x = .slice b1 q.A.length d1 ∧ y = .slice e1 q.D.length f1 := by
    obtain ⟨⟨E', k1, k2⟩, k3⟩ := hr
    exact RwW.form (w := W) ⟨⟨_, _, _, E', k1, k2⟩, _, _, k3⟩
  have hP : kdL.P (W.alloc (.cells #[t, .int .i64 q.x, .bool q.s, x, y] 91)) (⟨q, t, x, y, l2, h2⟩ : Er) := by
    obtain ⟨⟨E', k1, k2⟩, k3⟩ := hr.old bz
    exact ⟨⟨⟨E', k1, k2⟩, k3⟩, by show h2 ≤ _; omega⟩
  refine wpList_onto (D := kdL) (E := E) (F := [(⟨q, t, x, y, l2, h2⟩ : Er)]) (S' := fun k => lo ≤ k ∧ k < W.heap.size + 1 + 1) rfl hgd s1 x1 ho hs (hE.old bz) hx rfl (fun j u hu => ?_) (fun u hu => ?_) (Nat.zero_lt_one) hlen (by omega) (fun e he => ?_) (fun k hk => ⟨hk.1, by have := hk.2; omega⟩) ⟨by omega, by omega⟩ (fun e he k hk => ?_) (fun e he k hk hin => ?_) (fun e he f hf k h1 h2' => ?_) (List.pairwise_singleton _ _) ?_
  · have := World.news_of_block (heap_alloc_new W (.cells #[t, .int .i64 q.x, .bool q.s, x, y] 91)) j u hu
    rwa [Go.WideShapes.add_plain, Nat.zero_add] at this
  · obtain ⟨a1, c1, b1, d1, e1, f1, k1, k2, k3⟩ := hform
    have hu : u ∈ [t, .int .i64 q.x, .bool q.s, x, y] := hu
    rw [k1, k2, k3] at hu
    simp only [List.mem_cons, List.not_mem_nil, or_false] at hu
    rcases hu with rfl | rfl | rfl | rfl | rfl <;> rfl
  · rw [List.mem_singleton.1 he]; exact hP
  · rw [List.mem_singleton.1 he] at hk
    have k1 : l2 ≤ k := hk.1
    have k2 : k < h2 := hk.2
    exact ⟨by omega, by omega⟩
  · rw [List.mem_singleton.1 he] at hin
    have k1 : l2 ≤ k := hin.1
    have := (hE.high k hk).2
    omega
  · rw [List.mem_singleton.1 hf] at h2'
    have k1 : l2 ≤ k := h2'.1
    have := (hE.rg e he k h1).2
    omega
  · intro g cap n w' hn hg hbl
    exact h g cap n w' hn ⟨⟨_, hg.tight (fun k hk => hk.1), by rw [List.map_append]; rfl⟩, Nat.le_refl _⟩ hbl
end Go.Proofs.Yteanocjkdehhgaa
