/- A struct copied as it is: the program and the reference. -/
import Derived.Test.YteanocjkdehhgaaTbe
import Derived.Deep.RegionHeld3
namespace Go.Proofs.Yteanocjkdehhgaa
open Go.RowKit
open Go.Lib (hid)
set_option linter.unusedVariables false

/-- A struct of a sign, limbs and limbs of the call's own (perhaps not apart). -/
def OwnLS (s : Bool) (A D : List Int) (w : World) (e : Ending) (w' : World) : Prop := ∃ v u, e = .returned (.agg #[.bool s, v, u]) ∧ Ints w' w.heap.size v A ∧ Ints w' w.heap.size u D ∧ Below w.heap.size w w'
theorem OwnLS_out {s : Bool} {A D : List Int} {w w4 : World} {v u : Value} {B C N : Nat} {T : TypeId} (hN : w.heap.size ≤ N) {cs : Array Value} (hL : LocA T w4 N cs) (hT : T ≠ 3) (hB : w.heap.size ≤ B) (hC : w.heap.size ≤ C) (h1 : Ints w4 B v A) (h2 : Ints w4 C u D) (hb : Below w.heap.size w w4) :
    OwnLS s A D w (.returned (.agg #[.bool s, v, u])) (((w4.setCell ⟨N, 0, none⟩ (.bool s)).setCell ⟨N, 1, none⟩ v).setCell ⟨N, 2, none⟩ u) := by
  have n1 := hL.ne hT h1
  have n2 := hL.ne hT h2
  exact ⟨v, u, rfl, Ints_base (Ints_set (Ints_set (Ints_set h1 n1) n1) n1) hB, Ints_base (Ints_set (Ints_set (Ints_set h2 n2) n2) n2) hC, ((hb.setCell hN _).setCell hN _).setCell hN _⟩
/-- A struct of a call's own by what it holds (p: its slices share no memory). -/
structure RF (p : Bool) (w : World) (lo : Nat) (v u : Value) (A D : List Int) : Prop where
  i : Ints w lo v A
  j : Ints w lo u D
  nd : p = true → ∀ k, v.ownBlock = some k → u.ownBlock ≠ some k
  la : A.length ≤ 1048576
  ld : D.length ≤ 1048576
theorem RF.old {p : Bool} {w w' : World} {lo : Nat} {v u : Value} {A D : List Int} (h : RF p w lo v u A D) (hb : Below w.heap.size w w') : RF p w' lo v u A D := ⟨Ints_old h.i hb, Ints_old h.j hb, h.nd, h.la, h.ld⟩
def RatF (p : Bool) (s : Bool) (A D : List Int) (w : World) (e : Ending) (w' : World) : Prop := ∃ a c b d, e = .returned (.agg #[.bool s, .slice a A.length c, .slice b D.length d]) ∧ RF p w' w.heap.size (.slice a A.length c) (.slice b D.length d) A D ∧ Below w.heap.size w w'
theorem RO.rf {p : Bool} {w : World} {lo : Nat} {s : Bool} {v u : Value} {o : Option Rat} (h : RO p w lo s v u o) : RF p w lo v u (fqo o).A (fqo o).D := by
  obtain ⟨-, -, l1, l2⟩ := rval_parts h.ft
  exact ⟨by rw [fqo_A]; exact h.i, by rw [fqo_D]; exact h.j, h.nd, by rw [fqo_A]; omega, by rw [fqo_D]; omega⟩
theorem RF.rl {p : Bool} {w : World} {lo : Nat} {v u : Value} {A D : List Int} (h : RF p w lo v u A D) : RL w v u A D := ⟨⟨_, h.i⟩, ⟨_, h.j⟩, h.la, h.ld⟩
set_option maxRecDepth 100000 in
set_option maxHeartbeats 3200000 in
theorem l04Copy_l (s : Bool) (v u : Value) (A D : List Int) (w : World) (h : RL w v u A D) :
    Calls Try.prog 104 #[.agg #[.bool s, v, u]] w (OwnLS s A D w) := by
  have hA : A.length ≤ 1073741824 := by have := h.la; omega
  have hD : D.length ≤ 1073741824 := by have := h.ld; omega
  obtain ⟨a, c, b, d, rfl, rfl⟩ := h.form
  obtain ⟨b1, i1⟩ := h.a
  obtain ⟨b2, i2⟩ := h.d
  clear h
  have B := hid (show Below w.heap.size w ((w.alloc (.cells #[.bool s, .slice a A.length c, .slice b D.length d] 33)).alloc (.cells #[.bool false, .slice none 0 0, .slice none 0 0] 33)) from ((Below.refl _ _).alloc (Nat.le_refl _) _).alloc (by simp) _)
  have LP := hid (show LocA 33 ((w.alloc (.cells #[.bool s, .slice a A.length c, .slice b D.length d] 33)).alloc (.cells #[.bool false, .slice none 0 0, .slice none 0 0] 33)) (w.heap.size) #[.bool s, .slice a A.length c, .slice b D.length d] from (LocA.at (by simp)).new1)
  have LR := hid (show LocA 33 ((w.alloc (.cells #[.bool s, .slice a A.length c, .slice b D.length d] 33)).alloc (.cells #[.bool false, .slice none 0 0, .slice none 0 0] 33)) (w.heap.size + 1) #[.bool false, .slice none 0 0, .slice none 0 0] from (LocA.at (by simp)))
  have X1 := hid (Ints_old i1 B.out)
  have X2 := hid (Ints_old i2 B.out)
  clear i1 i2
  generalize hW : (w.alloc (.cells #[.bool s, .slice a A.length c, .slice b D.length d] 33)).alloc (.cells #[.bool false, .slice none 0 0, .slice none 0 0] 33) = W0 at B LP LR X1 X2
  have HW := hid hW
  clear hW
  have hs0 := B.out.size
  have ht0 := LR.out.lt
  go_enter Try.func104, Try.ntmps104
  go_wp2_with fail
  rw [HW.out]
  have LPD := hid (LP.out.old (Below_drew1 (Below.refl _ _)))
  have LPE := hid (LP.out.old (Below_drew1 (below_new' (o := .cells #[] 3))))
  have LRD := hid (LR.out.old (Below_drew1 (Below.refl _ _)))
  have LRE := hid (LR.out.old (Below_drew1 (below_new' (o := .cells #[] 3))))
  have X1D := hid (Ints_old X1.out (Below_drew1 (Below.refl _ _)))
  have X1E := hid (Ints_old X1.out (Below_drew1 (below_new' (o := .cells #[] 3))))
  have X2D := hid (Ints_old X2.out (Below_drew1 (Below.refl _ _)))
  have X2E := hid (Ints_old X2.out (Below_drew1 (below_new' (o := .cells #[] 3))))
  have BD := hid (Below_drew1 B.out)
  have BE := hid (show Below w.heap.size w (W0.alloc (.cells #[] 3)).drew from Below_drew1 (B.out.alloc hs0 _))
  have HE := hid (show (W0.alloc (.cells #[] 3)).drew.heap[W0.heap.size]? = some (.cells #[] 3 (0, 0)) ∧ W0.heap.size < (W0.alloc (.cells #[] 3)).drew.heap.size from ⟨heap_alloc_new W0 _, by show W0.heap.size < (W0.alloc _).heap.size; simp⟩)
  have LPF := hid (LP.out.old (Below_drew1 (below_new2 (o := .cells #[] 3) (o' := .cells #[] 3))))
  have LRF := hid (LR.out.old (Below_drew1 (below_new2 (o := .cells #[] 3) (o' := .cells #[] 3))))
  have X1F := hid (Ints_old X1.out (Below_drew1 (below_new2 (o := .cells #[] 3) (o' := .cells #[] 3))))
  have X2F := hid (Ints_old X2.out (Below_drew1 (below_new2 (o := .cells #[] 3) (o' := .cells #[] 3))))
  have BF := hid (show Below w.heap.size w ((W0.alloc (.cells #[] 3)).alloc (.cells #[] 3)).drew from Below_drew1 ((B.out.alloc hs0 _).alloc (by simp; omega) _))
  have HF := hid (show ((W0.alloc (.cells #[] 3)).alloc (.cells #[] 3)).drew.heap[W0.heap.size]? = some (.cells #[] 3 (0, 0)) ∧ ((W0.alloc (.cells #[] 3)).alloc (.cells #[] 3)).drew.heap[W0.heap.size + 1]? = some (.cells #[] 3 (0, 0)) ∧ ((W0.alloc (.cells #[] 3)).alloc (.cells #[] 3)).drew.heap.size = W0.heap.size + 1 + 1 from ⟨heap_alloc2_old W0 _ _, heap_alloc2_new W0 _ _, by show ((W0.alloc _).alloc _).heap.size = _; simp⟩)
  have XB := hid (show ∀ k, (Value.slice b D.length d).ownBlock = some k → k < W0.heap.size from fun k hk => (Ints_lt X2.out k hk).2)
  have q0 := LPD.out.c 0 rfl
  have q1 := LPD.out.c 1 rfl
  have q2 := LPD.out.c 2 rfl
  go_region_held3 (fun w' => w'.cell? ⟨w.heap.size, 0, none⟩ = some (.bool s) ∧ w'.cell? ⟨w.heap.size, 1, none⟩ = some (.slice a A.length c) ∧ w'.cell? ⟨w.heap.size, 2, none⟩ = some (.slice b D.length d)) (first | exact ⟨q0, q1, q2⟩ | exact ⟨LPE.out.c 0 rfl, LPE.out.c 1 rfl, LPE.out.c 2 rfl⟩ | exact ⟨(LP.out.new1).c 0 rfl, (LP.out.new1).c 1 rfl, (LP.out.new1).c 2 rfl⟩ | exact ⟨(LPF.out).c 0 rfl, (LPF.out).c 1 rfl, (LPF.out).c 2 rfl⟩ | exact ⟨(cell_set3 (by omega)).trans q0, (cell_set3 (by omega)).trans q1, (cell_set3 (by omega)).trans q2⟩ | exact ⟨LPF.out.c 0 rfl, LPF.out.c 1 rfl, LPF.out.c 2 rfl⟩ | go_keep) (first | (refine step_append_int (by rfl) _ _ (by rfl) (W0.alloc (.cells #[] 3)).drew W0.heap.size b1 W0.heap.size (.slice a A.length c) A (by rfl) (Ints_lit HE.out.1 (Nat.le_refl _)) (by have := HE.out.2; omega) (by rfl) X1E.out hA ?_; intro v1 w1 i1 o1 hat1; have LR := hid (LRE.out.apart o1 (by omega)); have LP := hid (LPE.out.apart o1 (by omega)); have X2 := hid (Ints_apart X2E.out o1 (fun e => by have := XB.out _ e; omega)); have B := hid (BE.out.trans (Only_below o1 (by omega) BE.out.size)); have hs1 := B.out.size; have I1 := hid i1; have hk1 := hid hat1; have ht1 := LR.out.lt; have hz1 := o1.size; have hcase : w1.heap.size > W0.heap.size := (by have := HE.out.2; omega); have q0 := LP.out.c 0 rfl; have q1 := LP.out.c 1 rfl; have q2 := LP.out.c 2 rfl; obtain ⟨a1, c1, rfl, -⟩ := Ints_form i1; clear i1 o1 hat1) | (refine step_append_int (by rfl) _ _ (by rfl) ((W0.alloc (.cells #[] 3)).alloc (.cells #[] 3)).drew W0.heap.size b1 W0.heap.size (.slice a A.length c) A (by rfl) (Ints_lit HF.out.1 (Nat.le_refl _)) (by have := HF.out.2.2; omega) (by rfl) X1F.out hA ?_; intro v1 w1 i1 o1 hat1; have LR := hid (LRF.out.apart o1 (by omega)); have LP := hid (LPF.out.apart o1 (by omega)); have X2 := hid (Ints_apart X2F.out o1 (fun e => by have := XB.out _ e; omega)); have B := hid (BF.out.trans (Only_below o1 (by omega) BF.out.size)); have hs1 := B.out.size; have I1 := hid i1; have hk1 := hid hat1; have ht1 := LR.out.lt; have hz1 := o1.size; have HG := hid ((o1.block (W0.heap.size + 1) (fun hs => by have := HF.out.2.2; omega)).trans HF.out.2.1); have hg1 : W0.heap.size + 1 < w1.heap.size := (by have := HF.out.2.2; omega); have hn1 := hid (show ∀ k, v1.ownBlock = some k → k ≠ W0.heap.size + 1 from fun k hk => (by have := HF.out.2.2; rcases hat1 with e | e <;> (rw [e] at hk; cases hk; omega))); have q0 := LP.out.c 0 rfl; have q1 := LP.out.c 1 rfl; have q2 := LP.out.c 2 rfl; obtain ⟨a1, c1, rfl, -⟩ := Ints_form i1; clear i1 o1 hat1) | (refine step_append_int (by rfl) _ _ (by rfl) ((W0.alloc (.cells #[] 3)).alloc (.cells #[] 3)).drew (W0.heap.size + 1) b1 W0.heap.size (.slice a A.length c) A (by rfl) (Ints_lit HF.out.2.1 (by omega)) (by have := HF.out.2.2; omega) (by rfl) X1F.out hA ?_; intro v1 w1 i1 o1 hat1; have LR := hid (LRF.out.apart o1 (by omega)); have LP := hid (LPF.out.apart o1 (by omega)); have X2 := hid (Ints_apart X2F.out o1 (fun e => by have := XB.out _ e; omega)); have B := hid (BF.out.trans (Only_below o1 (by omega) BF.out.size)); have hs1 := B.out.size; have I1 := hid i1; have hk1 := hid hat1; have ht1 := LR.out.lt; have hz1 := o1.size; have HG := hid ((o1.block W0.heap.size (fun hs => by have := HF.out.2.2; omega)).trans HF.out.1); have hg1 : W0.heap.size + 1 < w1.heap.size := (by have := HF.out.2.2; omega); have hn1 := hid (show ∀ k, v1.ownBlock = some k → k ≠ W0.heap.size from fun k hk => (by have := HF.out.2.2; rcases hat1 with e | e <;> (rw [e] at hk; cases hk; omega))); have q0 := LP.out.c 0 rfl; have q1 := LP.out.c 1 rfl; have q2 := LP.out.c 2 rfl; obtain ⟨a1, c1, rfl, -⟩ := Ints_form i1; clear i1 o1 hat1) | (refine step_append_int (by rfl) _ _ (by rfl) (w1.alloc (.cells #[] 3)) w1.heap.size b2 w1.heap.size (.slice b D.length d) D (by rfl) (Ints_lit0 rfl) (by simp) (by rfl) (Ints_old X2.out (below_new' (o := .cells #[] 3))) hD ?_; intro v9 w9 i9 o9 hat; clear hat; have LR := hid ((LR.out.new1 (o := .cells #[] 3)).apart o9 (by omega)); have LP := hid ((LP.out.new1 (o := .cells #[] 3)).apart o9 (by omega)); have I1 := hid (Ints_base (Ints_apart (Ints_old I1.out (below_new' (o := .cells #[] 3))) o9 (fun e => by have := (Ints_lt I1.out _ e).2; omega)) hs0); have B := hid ((B.out.alloc hs1 (.cells #[] 3)).trans (Only_below o9 hs1 (by simp; omega))); have I2 := hid (Ints_base i9 hs1); have q0 := LP.out.c 0 rfl; have q1 := LP.out.c 1 rfl; have q2 := LP.out.c 2 rfl; have f0 := LR.out.f 0; have f1 := LR.out.f 1; have f2 := LR.out.f 2; have p0 := LR.out.c 0 rfl; have p1 := LR.out.c 1 rfl; have p2 := LR.out.c 2 rfl; have R := hid (OwnLS_out (s := s) (N := w.heap.size + 1) (w := w) (by omega) LR.out (by decide) (Nat.le_refl _) (Nat.le_refl _) I1.out I2.out B.out); obtain ⟨a2, c2, rfl, -⟩ := Ints_form i9; clear i9 o9) | (refine step_append_int (by rfl) _ _ (by rfl) w1 (W0.heap.size + 1) b2 W0.heap.size (.slice b D.length d) D (by rfl) (Ints_lit HG.out (by omega)) (by omega) (by rfl) X2.out hD ?_; intro v9 w9 i9 o9 hat; clear hat; have LR := hid (LR.out.apart o9 (by omega)); have LP := hid (LP.out.apart o9 (by omega)); have I1 := hid (Ints_base (Ints_apart I1.out o9 (fun e => hn1.out _ e rfl)) hs0); have B := hid (B.out.trans (Only_below o9 (by omega) hs1)); have I2 := hid (Ints_base i9 hs0); have q0 := LP.out.c 0 rfl; have q1 := LP.out.c 1 rfl; have q2 := LP.out.c 2 rfl; have f0 := LR.out.f 0; have f1 := LR.out.f 1; have f2 := LR.out.f 2; have p0 := LR.out.c 0 rfl; have p1 := LR.out.c 1 rfl; have p2 := LR.out.c 2 rfl; have R := hid (OwnLS_out (s := s) (N := w.heap.size + 1) (w := w) (by omega) LR.out (by decide) (Nat.le_refl _) (Nat.le_refl _) I1.out I2.out B.out); obtain ⟨a2, c2, rfl, -⟩ := Ints_form i9; clear i9 o9) | (refine step_append_int (by rfl) _ _ (by rfl) w1 W0.heap.size b2 W0.heap.size (.slice b D.length d) D (by rfl) (Ints_lit HG.out (by omega)) (by omega) (by rfl) X2.out hD ?_; intro v9 w9 i9 o9 hat; clear hat; have LR := hid (LR.out.apart o9 (by omega)); have LP := hid (LP.out.apart o9 (by omega)); have I1 := hid (Ints_base (Ints_apart I1.out o9 (fun e => hn1.out _ e rfl)) hs0); have B := hid (B.out.trans (Only_below o9 (by omega) hs1)); have I2 := hid (Ints_base i9 hs0); have q0 := LP.out.c 0 rfl; have q1 := LP.out.c 1 rfl; have q2 := LP.out.c 2 rfl; have f0 := LR.out.f 0; have f1 := LR.out.f 1; have f2 := LR.out.f 2; have p0 := LR.out.c 0 rfl; have p1 := LR.out.c 1 rfl; have p2 := LR.out.c 2 rfl; have R := hid (OwnLS_out (s := s) (N := w.heap.size + 1) (w := w) (by omega) LR.out (by decide) (Nat.le_refl _) (Nat.le_refl _) I1.out I2.out B.out); obtain ⟨a2, c2, rfl, -⟩ := Ints_form i9; clear i9 o9))
  all_goals
    try clear q0 q1 q2
    go_wp2
    exact bodyPost_ret (v := .agg #[.bool s, .slice a1 _ c1, .slice a2 _ c2]) (by simp [results, Try.results104, go_sem, p0, p1, p2]) rfl R.out
theorem copy_f {w : World} {s : Bool} {v u : Value} {A D : List Int} (h : RL w v u A D) : Calls Try.prog 107 #[.agg #[.bool s, v, u]] w (RatF true s A D w) :=
  (copyRat_own s v u A D w h).mono fun e w' ⟨v', u', he, i1, i2, nd, hb⟩ => by
    obtain ⟨a1, c1, rfl, -⟩ := Ints_form i1
    obtain ⟨a2, c2, rfl, -⟩ := Ints_form i2
    exact ⟨a1, c1, a2, c2, he, ⟨i1, i2, fun _ => nd, h.la, h.ld⟩, hb⟩
theorem scopy_f {w : World} {s : Bool} {v u : Value} {A D : List Int} (h : RL w v u A D) : Calls Try.prog 104 #[.agg #[.bool s, v, u]] w (RatF false s A D w) :=
  (l04Copy_l s v u A D w h).mono fun e w' ⟨v', u', he, i1, i2, hb⟩ => by
    obtain ⟨a1, c1, rfl, -⟩ := Ints_form i1
    obtain ⟨a2, c2, rfl, -⟩ := Ints_form i2
    exact ⟨a1, c1, a2, c2, he, ⟨i1, i2, fun hp => (by cases hp), h.la, h.ld⟩, hb⟩
end Go.Proofs.Yteanocjkdehhgaa
