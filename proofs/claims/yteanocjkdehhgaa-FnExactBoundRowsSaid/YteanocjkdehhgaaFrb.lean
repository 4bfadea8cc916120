/- Merged: Pr Ps Pt Pu Pv Pw Px. -/
import Derived.Test.YteanocjkdehhgaaFra
import Derived.Deep.RegionHeld3
/- The program: the numerators and denominators of a pair of valid fractions. -/
namespace Go.Proofs.Yteanocjkdehhgaa
open Go.RowKit
open Go.Lib (hid)
set_option linter.unusedVariables false

theorem OwnG_outN {s : Bool} {L : List Int} {w w4 : World} {r : Value} {lo N : Nat} {T : TypeId} {cs : Array Value} (hlo : w.heap.size ≤ lo) (hN : w.heap.size ≤ N) (hL : LocA T w4 N cs) (hT : T ≠ 3) (hi : Ints w4 lo r L) (hB : Below w.heap.size w w4) :
    OwnG s L w (.returned (.agg #[.bool s, r])) ((w4.setCell ⟨N, 0, none⟩ (.bool s)).setCell ⟨N, 1, none⟩ r) :=
  OwnG_mk hlo rfl (Ints_set (Ints_set hi (hL.ne hT hi)) (hL.ne hT hi)) ((hB.setCell hN _).setCell hN _)
/-- An integer's struct of the call's own. -/
def OwnZ (Z : Int) (w : World) : Ending → World → Prop := OwnG (gzs Z) (gzl Z) w
/-- Two structs that are the valid fractions x and y. -/
def RatX (w : World) (s : Bool) (v u : Value) (x : Rat) : Prop := ∃ A D, RL w v u A D ∧ rok s A D = true ∧ x.num = sval s (val A) ∧ (x.den : Int) = val D ∧ fit x
theorem RatX.old {w w' : World} {s : Bool} {v u : Value} {x : Rat} (h : RatX w s v u x) (hb : Below w.heap.size w w') : RatX w' s v u x := by
  obtain ⟨A, D, r, k⟩ := h
  exact ⟨A, D, r.old hb, k⟩
theorem RatX.form {w : World} {s : Bool} {v u : Value} {x : Rat} (h : RatX w s v u x) : ∃ (a : Option Addr) (n c : Nat) (b : Option Addr) (m d : Nat), v = .slice a n c ∧ u = .slice b m d := by
  obtain ⟨A, D, r, -⟩ := h
  obtain ⟨a, c, b, d, e1, e2⟩ := r.form
  exact ⟨a, _, c, b, _, d, e1, e2⟩
theorem RatX.of {w : World} {s : Bool} {v u : Value} {A D : List Int} (h : RL w v u A D) (hr : rok s A D = true) : ∃ x, rval s A D = some x ∧ RatX w s v u x := by
  obtain ⟨x, e, h1, h2, h3⟩ := rval_yes hr
  exact ⟨x, e, A, D, h, hr, h1, h2, h3⟩
structure PairV (w : World) (s : Bool) (v u : Value) (t : Bool) (v' u' : Value) (x y : Rat) : Prop where
  l : RatX w s v u x
  r : RatX w t v' u' y
theorem PairV.old {w w' : World} {s t : Bool} {v u v' u' : Value} {x y : Rat} (h : PairV w s v u t v' u' x y) (hb : Below w.heap.size w w') : PairV w' s v u t v' u' x y := ⟨h.l.old hb, h.r.old hb⟩
theorem PairV.form {w : World} {s t : Bool} {v u v' u' : Value} {x y : Rat} (h : PairV w s v u t v' u' x y) : ∃ (a : Option Addr) (n c : Nat) (b : Option Addr) (m d : Nat) (a' : Option Addr) (n' c' : Nat) (b' : Option Addr) (m' d' : Nat), v = .slice a n c ∧ u = .slice b m d ∧ v' = .slice a' n' c' ∧ u' = .slice b' m' d' := by
  obtain ⟨a, n, c, b, m, d, e1, e2⟩ := h.l.form
  obtain ⟨a', n', c', b', m', d', e3, e4⟩ := h.r.form
  exact ⟨a, n, c, b, m, d, a', n', c', b', m', d', e1, e2, e3, e4⟩
theorem gzs_nonneg {Z : Int} (h : 0 ≤ Z) : gzs Z = false := by unfold gzs; simp; omega

end Go.Proofs.Yteanocjkdehhgaa

/- The program: the sum, the difference and the order of a pair of valid fractions. -/
namespace Go.Proofs.Yteanocjkdehhgaa
open Go.RowKit
open Go.Lib (hid)
set_option linter.unusedVariables false

theorem fit_mul {x y : Rat} (hx : fit x) (hy : fit y) : ((x.num * y.den).natAbs : Int) < pw 48 ∧ ((y.num * x.den).natAbs : Int) < pw 48 ∧ ((x.num * y.num).natAbs : Int) < pw 48 ∧ (((x.den : Int) * y.den).natAbs : Int) < pw 48 := by
  have e : pw 48 = pw 24 * pw 24 := by decide
  rw [e]
  exact ⟨abs_mul hx.1 hy.2, abs_mul hy.1 hx.2, abs_mul hx.1 hy.1, abs_mul (x := (x.den : Int)) hx.2 hy.2⟩
theorem pw48 : pw 48 + pw 48 < pw 60 := by decide
theorem cmp_z {w : World} {v u : Value} {X Y : Int} {b1 b2 : Nat} (h1 : Ints w b1 v (gzl X)) (h2 : Ints w b2 u (gzl Y)) (hX : (X.natAbs : Int) < pw 60) (hY : (Y.natAbs : Int) < pw 60) :
    Calls Try.prog 129 #[.agg #[.bool (gzs X), v], .agg #[.bool (gzs Y), u]] w (RetB (.int .i64 (sgn (X - Y))) w) := by
  obtain ⟨k1, e1⟩ := gz_ok hX
  obtain ⟨k2, e2⟩ := gz_ok hY
  have h := impl_BigIntCmp (gzs X) (gzs Y) v u _ _ (big_len k1) (big_len k2) b1 b2 w h1 h2
  rw [cmpB_yes k1 k2, e1, e2] at h
  exact h
theorem PairV.fits {w : World} {s t : Bool} {v u v' u' : Value} {x y : Rat} (h : PairV w s v u t v' u' x y) : fit x ∧ fit y := by
  obtain ⟨⟨A, D, _, _, _, _, f⟩, ⟨B, E, _, _, _, _, f'⟩⟩ := h
  exact ⟨f, f'⟩

end Go.Proofs.Yteanocjkdehhgaa

/- The program: a pair computed; sums, differences, products and quotients of fractions. -/
namespace Go.Proofs.Yteanocjkdehhgaa
open Go.RowKit
open Go.Lib (hid)
set_option linter.unusedVariables false

theorem bq_no {f : Rat → Rat → Option Rat} {s t : Bool} {A D A' D' : List Int} (h : (rok s A D && rok t A' D') = false) : bq f (rval s A D) (rval t A' D') = none := by
  rcases Bool.and_eq_false_iff.1 h with h | h
  · rw [rval_no h]; cases rval t A' D' <;> rfl
  · rw [rval_no h]; cases rval s A D <;> rfl
theorem bq_some (f : Rat → Rat → Option Rat) (x y : Rat) : bq f (some x) (some y) = f x y := rfl
theorem PairV.of {w : World} {s t : Bool} {v u v' u' : Value} {A D A' D' : List Int} (h : RL w v u A D) (h' : RL w v' u' A' D') (hr : (rok s A D && rok t A' D') = true) :
    ∃ x y, rval s A D = some x ∧ rval t A' D' = some y ∧ PairV w s v u t v' u' x y := by
  obtain ⟨r1, r2⟩ := Bool.and_eq_true_iff.1 hr
  obtain ⟨x, e1, k1⟩ := RatX.of h r1
  obtain ⟨y, e2, k2⟩ := RatX.of h' r2
  exact ⟨x, y, e1, e2, k1, k2⟩

end Go.Proofs.Yteanocjkdehhgaa

/- The program: sum, difference, product and quotient of two fractions; their order. -/
namespace Go.Proofs.Yteanocjkdehhgaa
open Go.RowKit
open Go.Lib (hid)
set_option linter.unusedVariables false

/-- The order on lists; 0 where one is not valid. -/
def cmpO : Option Rat → Option Rat → Int
  | some x, some y => cmpF x y
  | _, _ => 0
theorem cmpO_some (x y : Rat) : cmpO (some x) (some y) = cmpF x y := rfl
theorem cmpO_no {s t : Bool} {A D A' D' : List Int} (h : (rok s A D && rok t A' D') = false) : cmpO (rval s A D) (rval t A' D') = 0 := by
  rcases Bool.and_eq_false_iff.1 h with h | h
  · rw [rval_no h]; cases rval t A' D' <;> rfl
  · rw [rval_no h]; cases rval s A D <;> rfl
theorem ret_in {a b : Int} (h : a = b) : Ending.returned (.int .i64 a) = .returned (.int .i64 b) := by rw [h]

end Go.Proofs.Yteanocjkdehhgaa

/- The program: the copy of a fraction, the smaller and the greater, the negation, the sign. -/
namespace Go.Proofs.Yteanocjkdehhgaa
open Go.RowKit
open Go.Lib (hid)
set_option linter.unusedVariables false

/-- A struct of a sign, limbs and limbs of the call's own. -/
def OwnL (s : Bool) (A D : List Int) (w : World) (e : Ending) (w' : World) : Prop := ∃ v u, e = .returned (.agg #[.bool s, v, u]) ∧ Ints w' w.heap.size v A ∧ Ints w' w.heap.size u D ∧ (∀ k, v.ownBlock = some k → u.ownBlock ≠ some k) ∧ Below w.heap.size w w'
theorem OwnL_out {s : Bool} {A D : List Int} {w w4 : World} {v u : Value} {B C N : Nat} {T : TypeId} (hN : w.heap.size ≤ N) {cs : Array Value} (hL : LocA T w4 N cs) (hT : T ≠ 3) (hB : w.heap.size ≤ B) (hC : w.heap.size ≤ C) (h1 : Ints w4 B v A) (h2 : Ints w4 C u D) (hd : ∀ k, v.ownBlock = some k → u.ownBlock ≠ some k) (hb : Below w.heap.size w w4) :
    OwnL s A D w (.returned (.agg #[.bool s, v, u])) (((w4.setCell ⟨N, 0, none⟩ (.bool s)).setCell ⟨N, 1, none⟩ v).setCell ⟨N, 2, none⟩ u) := by
  have n1 := hL.ne hT h1
  have n2 := hL.ne hT h2
  exact ⟨v, u, rfl, Ints_base (Ints_set (Ints_set (Ints_set h1 n1) n1) n1) hB, Ints_base (Ints_set (Ints_set (Ints_set h2 n2) n2) n2) hC, hd, ((hb.setCell hN _).setCell hN _).setCell hN _⟩
theorem rval_lists {s : Bool} {A D : List Int} {x : Rat} (h : rval s A D = some x) : gzs x.num = s ∧ gzl x.num = A ∧ gzl (x.den : Int) = D := by
  have hr : rok s A D = true := by
    cases e : rok s A D with
    | true => rfl
    | false => rw [rval_no e] at h; cases h
  obtain ⟨y, e, n1, d1, -⟩ := rval_yes hr
  rw [e] at h
  cases h
  obtain ⟨k1, k2, -⟩ := rok_iff.1 hr
  have g1 := gz_of k1
  have g2 := gz_of (bok_pos k2)
  rw [n1, d1]
  exact ⟨g1.1, g1.2, g2.2⟩
theorem apart_of {w1 w2 : World} {B C : Nat} {v u : Value} {A D : List Int} (h1 : Ints w1 B v A) (h2 : Ints w2 C u D) (hC : w1.heap.size ≤ C) : ∀ k, v.ownBlock = some k → u.ownBlock ≠ some k := fun k hk hj => by
  have := (Ints_lt h1 k hk).2
  have := (Ints_lt h2 k hj).1
  omega

set_option maxRecDepth 100000 in
set_option maxHeartbeats 3200000 in
theorem copyRat_own (s : Bool) (v u : Value) (A D : List Int) (w : World) (h : RL w v u A D) :
    Calls Try.prog 107 #[.agg #[.bool s, v, u]] w (OwnL s A D w) := by
  have hA : A.length ≤ 1073741824 := by have := h.la; omega
  have hD : D.length ≤ 1073741824 := by have := h.ld; omega
  have H := hid h
  obtain ⟨b1, i1⟩ := h.a
  obtain ⟨b2, i2⟩ := h.d
  have KA := hid (fun (W : World) (h : Ints W b1 v A) => clone_own b1 v A hA W h)
  have KD := hid (fun (W : World) (h : Ints W b2 u D) => clone_own b2 u D hD W h)
  obtain ⟨a, c, rfl, -⟩ := Ints_form i1
  obtain ⟨b, d, rfl, -⟩ := Ints_form i2
  have X1 := hid i1
  have X2 := hid i2
  clear i1 i2 h H
  have B := hid (show Below w.heap.size w ((w.alloc (.cells #[.bool s, .slice a A.length c, .slice b D.length d] 33)).alloc (.cells #[.bool false, .slice none 0 0, .slice none 0 0] 33)) from ((Below.refl _ _).alloc (Nat.le_refl _) _).alloc (by simp) _)
  have LP := hid (show LocA 33 ((w.alloc (.cells #[.bool s, .slice a A.length c, .slice b D.length d] 33)).alloc (.cells #[.bool false, .slice none 0 0, .slice none 0 0] 33)) (w.heap.size) #[.bool s, .slice a A.length c, .slice b D.length d] from (LocA.at (by simp)).new1)
  have LR := hid (show LocA 33 ((w.alloc (.cells #[.bool s, .slice a A.length c, .slice b D.length d] 33)).alloc (.cells #[.bool false, .slice none 0 0, .slice none 0 0] 33)) (w.heap.size + 1) #[.bool false, .slice none 0 0, .slice none 0 0] from (LocA.at (by simp)))
  have X1 := hid (Ints_old X1.out B.out)
  have X2 := hid (Ints_old X2.out B.out)
  generalize hW : (w.alloc (.cells #[.bool s, .slice a A.length c, .slice b D.length d] 33)).alloc (.cells #[.bool false, .slice none 0 0, .slice none 0 0] 33) = W0 at B LP LR X1 X2
  have HW := hid hW
  clear hW
  have hs0 := B.out.size
  go_enter Try.func107, Try.ntmps107
  go_wp2_with fail
  rw [HW.out]
  have LP := hid (LP.out.old (Below_drew1 (Below.refl _ _)))
  have LR := hid (LR.out.old (Below_drew1 (Below.refl _ _)))
  have X1 := hid (Ints_old X1.out (Below_drew1 (Below.refl _ _)))
  have X2 := hid (Ints_old X2.out (Below_drew1 (Below.refl _ _)))
  have B := hid (Below_drew1 B.out)
  have q0 := LP.out.c 0 rfl
  have q1 := LP.out.c 1 rfl
  have q2 := LP.out.c 2 rfl
  go_region_held3 (fun w' => w'.cell? ⟨w.heap.size, 0, none⟩ = some (.bool s) ∧ w'.cell? ⟨w.heap.size, 1, none⟩ = some (.slice a A.length c) ∧ w'.cell? ⟨w.heap.size, 2, none⟩ = some (.slice b D.length d)) (first | exact ⟨q0, q1, q2⟩ | exact ⟨(cell_set3 (by omega)).trans q0, (cell_set3 (by omega)).trans q1, (cell_set3 (by omega)).trans q2⟩ | go_keep) (first | (go_at_call 123; (with_reducible refine (KA.out _ X1.out).mono ?_); rintro e w1 ⟨r, rfl, i1, b1⟩; have LP := hid (LP.out.old b1); have LR := hid (LR.out.old b1); have X1 := hid (Ints_old X1.out b1); have X2 := hid (Ints_old X2.out b1); have B := hid (B.out.trans (b1.mono B.out.size)); have I1 := hid i1; have hs1 := B.out.size; obtain ⟨a1, c1, rfl, -⟩ := Ints_form i1; clear i1 b1; have q0 := LP.out.c 0 rfl; have q1 := LP.out.c 1 rfl; have q2 := LP.out.c 2 rfl) | (go_at_call 123; (with_reducible refine (KD.out _ X2.out).mono ?_); rintro e w2 ⟨r, rfl, i1, b1⟩; have LP := hid (LP.out.old b1); have LR := hid (LR.out.old b1); have X1 := hid (Ints_old X1.out b1); have X2 := hid (Ints_old X2.out b1); have B := hid (B.out.trans (b1.mono B.out.size)); have ND := hid (apart_of I1.out i1 (Nat.le_refl _)); have I1 := hid (Ints_old I1.out b1); have I2 := hid i1; obtain ⟨a2, c2, rfl, -⟩ := Ints_form i1; clear i1 b1; have q0 := LP.out.c 0 rfl; have q1 := LP.out.c 1 rfl; have q2 := LP.out.c 2 rfl; have f0 := LR.out.f 0; have f1 := LR.out.f 1; have f2 := LR.out.f 2; have p0 := LR.out.c 0 rfl; have p1 := LR.out.c 1 rfl; have p2 := LR.out.c 2 rfl; have R := hid (OwnL_out (s := s) (N := w.heap.size + 1) (w := w) (by omega) LR.out (by decide) hs0 hs1 I1.out I2.out ND.out B.out)))
  clear q0 q1 q2
  go_wp2
  exact bodyPost_ret (v := .agg #[.bool s, .slice a1 _ c1, .slice a2 _ c2]) (by simp [results, Try.results107, go_sem, p0, p1, p2]) rfl R.out
end Go.Proofs.Yteanocjkdehhgaa

/- The program: the smaller and the greater fraction, the negation, the sign, fractions of ints. -/
namespace Go.Proofs.Yteanocjkdehhgaa
open Go.RowKit
open Go.Lib (hid)
set_option linter.unusedVariables false

/-- The second fraction if the order is k, else the first. -/
def selF (k : Int) (x y : Rat) : Option Rat := some (if cmpF x y = k then y else x)
theorem sel_min (x y : Rat) : selF 1 x y = some (minF x y) := rfl
theorem sel_max (x y : Rat) : selF (-1) x y = some (maxF x y) := rfl
theorem OwnL_R {s : Bool} {A D : List Int} {x : Rat} {w w' : World} {e : Ending} (hx : rval s A D = some x) (h : OwnL s A D w e w') : OwnR (some x) w e w' := by
  obtain ⟨e1, e2, e3⟩ := rval_lists hx
  obtain ⟨v, u, he, h1, h2, hd, hb⟩ := h
  refine ⟨v, u, ?_, ?_, ?_, hd, hb⟩
  · show e = .returned (.agg #[.bool (gzs x.num), v, u]); rw [e1]; exact he
  · show Ints w' _ v (gzl x.num); rw [e2]; exact h1
  · show Ints w' _ u (gzl (x.den : Int)); rw [e3]; exact h2

def sgnO : Option Rat → Int | some x => sgn x.num | none => 0
theorem sgnO_some (x : Rat) : sgnO (some x) = sgn x.num := rfl
theorem cmp_zero {w : World} {s : Bool} {v : Value} {A : List Int} {b : Nat} (h : Ints w b v A) (k : bok s A = true) :
    Calls Try.prog 129 #[.agg #[.bool s, v], .agg #[.bool false, .slice none 0 0]] w (RetB (.int .i64 (sgn (sval s (val A)))) w) := by
  have hh := impl_BigIntCmp s false v (.slice none 0 0) A [] (big_len k) (by simp) b 0 w h (Ints_nil _ _)
  rw [cmpB_yes k (bok_pos (by decide))] at hh
  rw [show sval s (val A) - sval false (val []) = sval s (val A) by simp [sval, val]] at hh
  exact hh

set_option maxRecDepth 100000 in
set_option maxHeartbeats 3200000 in
theorem impl_RatSign (s : Bool) (v u : Value) (A D : List Int) (w : World) (h : RL w v u A D) :
    Calls Try.prog 116 #[.agg #[.bool s, v, u]] w (RetB (.int .i64 (sgnO (rval s A D))) w) := by
  have KO := hid (fun (W : World) (h : RL W v u A D) => impl_RatOk s v u A D W h)
  obtain ⟨z, hz⟩ : ∃ z, z = sgnO (rval s A D) := ⟨_, rfl⟩
  have HZ := hid hz
  rw [← hz]
  clear hz
  obtain ⟨b1, i1⟩ := h.a
  obtain ⟨a, c, b, d, rfl, rfl⟩ := h.form
  have B := hid (show Below w.heap.size w (w.alloc (.cells #[.bool s, .slice a A.length c, .slice b D.length d] 33)) from (Below.refl _ _).alloc (Nat.le_refl _) _)
  have LP := hid (show LocA 33 (w.alloc (.cells #[.bool s, .slice a A.length c, .slice b D.length d] 33)) (w.heap.size) #[.bool s, .slice a A.length c, .slice b D.length d] from (LocA.at (by simp)))
  have H1 := hid (h.old B.out)
  clear h
  generalize hW : w.alloc (.cells #[.bool s, .slice a A.length c, .slice b D.length d] 33) = W0 at B LP H1
  have HW := hid hW
  clear hW
  have hs0 := B.out.size
  have I1 := hid (Ints_old i1 B.out)
  clear i1
  obtain ⟨p, hp⟩ : ∃ p, p = rok s A D := ⟨_, rfl⟩
  rw [← hp] at KO
  cases p with
  | false =>
    have hE := hid (show z = 0 by rw [HZ.out, rval_no hp.symm]; rfl)
    clear hp
    go_enter Try.func116, Try.ntmps116
    have q0 := LP.out.c 0 rfl
    have q1 := LP.out.c 1 rfl
    have q2 := LP.out.c 2 rfl
    go_wp2_with fail
    rw [HW.out]
    (with_reducible refine (KO.out _ H1.out).mono ?_)
    clear q0 q1 q2
    rintro e w1 ⟨rfl, b1⟩
    have B := hid (B.out.trans (b1.mono B.out.size))
    clear b1
    go_wp2
    go_ret
    exact ⟨ret_in hE.out.symm, B.out⟩
  | true =>
    obtain ⟨x, ex, n1, -⟩ := rval_yes hp.symm
    have hE := hid (show z = sgn (sval s (val A)) by rw [HZ.out, ex, ← n1]; rfl)
    have kA := (rok_iff.1 hp.symm).1
    clear ex n1 hp
    have KC := hid (fun (W : World) (h : Ints W b1 (.slice a A.length c) A) => cmp_zero h kA)
    rw [← hE.out] at KC
    clear kA
    go_enter Try.func116, Try.ntmps116
    have q0 := LP.out.c 0 rfl
    have q1 := LP.out.c 1 rfl
    have q2 := LP.out.c 2 rfl
    go_wp2_with fail
    rw [HW.out]
    (with_reducible refine (KO.out _ H1.out).mono ?_)
    clear q0 q1 q2
    rintro e w1 ⟨rfl, b1⟩
    have LP := hid (LP.out.old b1)
    have I1 := hid (Ints_old I1.out b1)
    have B := hid (B.out.trans (b1.mono B.out.size))
    clear b1
    have q0 := LP.out.c 0 rfl
    have q1 := LP.out.c 1 rfl
    go_wp2_with fail
    (with_reducible refine (KC.out _ I1.out).mono ?_)
    clear q0 q1
    rintro e w2 ⟨rfl, b1⟩
    have LP := hid (LP.out.old b1)
    have I1 := hid (Ints_old I1.out b1)
    have B := hid (B.out.trans (b1.mono B.out.size))
    clear b1
    go_wp2
    go_ret
    exact ⟨rfl, B.out⟩
def negO : Option Rat → Option Rat | some x => some (-x) | none => none
theorem fitO_neg {o : Option Rat} (h : fitO o) : fitO (negO o) := by
  cases o with
  | none => exact fitO_none
  | some x => exact fitO_some ⟨by rw [Rat.neg_num, Int.natAbs_neg]; exact (h x rfl).1, (h x rfl).2⟩

theorem int_parts (n : Int) : qn (some (n : Rat)) = n ∧ qd (some (n : Rat)) = 1 := ⟨Rat.num_intCast n, by show (((n : Rat).den : Nat) : Int) = 1; rw [Rat.den_intCast]; rfl⟩
theorem gzl_one : gzl 1 = rep (1 : Int).toNat := by unfold gzl; rw [capped_of (by decide)]; rfl

set_option maxRecDepth 100000 in
set_option maxHeartbeats 3200000 in
theorem impl_RatFromInt (n : Int) (n0 : -9223372036854775808 ≤ n) (n1 : n ≤ 9223372036854775807) (w : World) :
    Calls Try.prog 190 #[.int .i64 n] w (OwnR (some (n : Rat)) w) := by
  obtain ⟨e1, e2⟩ := int_parts n
  obtain ⟨o, ho⟩ : ∃ o, o = some (n : Rat) := ⟨_, rfl⟩
  rw [← ho] at e1 e2 ⊢
  clear ho
  have KD := hid (show ∀ W : World, Calls Try.prog 155 #[.int .i64 1] W (OwnP (gzl (qd o)) W) from by rw [e2, gzl_one]; exact fun W => impl_NatOf 1 (by decide) W)
  have KN := hid (show ∀ W : World, Calls Try.prog 191 #[.int .i64 n] W (OwnG (gzs (qn o)) (gzl (qn o)) W) from by rw [e1]; exact fun W => impl_BigIntOf n n0 n1 W)
  clear e1 e2
  obtain ⟨gs, hgs⟩ : ∃ g, g = gzs (qn o) := ⟨_, rfl⟩
  have HGS := hid hgs
  rw [← hgs] at KN
  clear hgs
  have B := hid (show Below w.heap.size w (w.alloc (.cells #[.bool false, .slice none 0 0, .slice none 0 0] 33)) from (Below.refl _ _).alloc (Nat.le_refl _) _)
  have LR := hid (show LocA 33 (w.alloc (.cells #[.bool false, .slice none 0 0, .slice none 0 0] 33)) (w.heap.size) #[.bool false, .slice none 0 0, .slice none 0 0] from (LocA.at (by simp)))
  generalize hW : w.alloc (.cells #[.bool false, .slice none 0 0, .slice none 0 0] 33) = W0 at B LR 
  have HW := hid hW
  clear hW
  have hs0 := B.out.size
  go_enter Try.func190, Try.ntmps190
  go_wp2_with fail
  rw [HW.out]
  (with_reducible refine (KN.out _).mono ?_)
  rintro e w1 ⟨r, rfl, i1, b1⟩
  have LR := hid (LR.out.old b1)
  have B := hid (B.out.trans (b1.mono B.out.size))
  have I1 := hid i1
  obtain ⟨a1, c1, rfl, -⟩ := Ints_form i1
  clear i1 b1
  have hs2 := B.out.size
  have I1o := hid I1.out
  go_wp2_with fail
  (with_reducible refine (KD.out _).mono ?_)
  rintro e w2 ⟨r, rfl, j2, b1⟩
  have LR := hid (LR.out.old b1)
  have I1 := hid (Ints_old I1.out b1)
  have B := hid (B.out.trans (b1.mono B.out.size))
  have nd := apart_of I1o.out j2 (Nat.le_refl _)
  have j1 := I1.out
  have f0 := LR.out.f 0
  have f1 := LR.out.f 1
  have f2 := LR.out.f 2
  have p0 := LR.out.c 0 rfl
  have p1 := LR.out.c 1 rfl
  have p2 := LR.out.c 2 rfl
  have R := hid (OwnR_out (o := o) (N := w.heap.size) HGS.out rfl rfl (by omega) LR.out (by decide) hs0 hs2 j1 j2 nd B.out)
  obtain ⟨e2, d2, rfl, -⟩ := Ints_form j2
  clear j1 j2 nd b1
  go_wp2
  exact bodyPost_ret (v := .agg #[.bool gs, .slice a1 _ c1, .slice e2 _ d2]) (by simp [results, Try.results190, go_sem, p0, p1, p2]) rfl R.out
end Go.Proofs.Yteanocjkdehhgaa

/- Two slices of ints are compared: the program's and the reference's way; two fractions are compared. -/
namespace Go.Proofs.Yteanocjkdehhgaa
open Go.RowKit
open Go.Lib (hid)
set_option linter.unusedVariables false

set_option maxRecDepth 100000 in
set_option maxHeartbeats 3200000 in
theorem equal_any (a1 a2 : Option Addr) (n1 n2 c1 c2 : Nat) (A B : List Int) (hA : A.length ≤ 1073741824) (hB : B.length ≤ 1073741824) (w : World) (h1 : RowI w a1 n1 A) (h2 : RowI w a2 n2 B) :
    Calls Try.prog 95 #[.slice a1 n1 c1, .slice a2 n2 c2] w (Drew (.bool (decide (A = B))) w) := by
  obtain ⟨rfl, H1⟩ := h1
  obtain ⟨rfl, H2⟩ := h2
  have G1 := hid H1
  have G2 := hid H2
  clear H1 H2
  obtain ⟨b, hb⟩ : ∃ b, b = decide (A = B) := ⟨_, rfl⟩
  have HB := hid hb
  rw [← hb]
  clear hb
  by_cases hl : A.length = B.length
  · have HL := hid hl
    have hl' : ((A.length : Int) != (B.length : Int)) = false := by simp [hl]
    go_enter Try.func95, Try.ntmps95
    go_wp2
    clear hl hl'
    go_loopw [13] (fun i wr => ∃ (k d : Nat), k ≤ A.length ∧ i = .int .i64 (k : Int) ∧ Hid (A.take k = B.take k) ∧ wr = w.drewN d) (fun i _ => A.length - (intOf i).toNat)
    case atStart => exact ⟨0, 0, Nat.zero_le _, rfl, hid (by simp), rfl⟩
    case round =>
      obtain ⟨k, d, hk, rfl, hc, rfl⟩ := hrel
      by_cases hlt : k < A.length
      · have hlt2 : k < B.length := by have := HL.out; omega
        obtain ⟨g1, o1, rfl, -, hc1⟩ := G1.out (by omega)
        obtain ⟨g2, o2, rfl, -, hc2⟩ := G2.out (by omega)
        clear G1 G2
        have q1 := hc1 k hlt
        have q2 := hc2 k hlt2
        clear hc1 hc2
        have a1 : (0 : Int) ≤ k := by omega
        have a2 : (k : Int) < A.length := by omega
        have a3 : (k : Int) < B.length := by omega
        have HC := hid (show (A[k] = B[k] → A.take (k + 1) = B.take (k + 1)) ∧ (A[k] ≠ B[k] → b = false) from
          ⟨fun h => by rw [List.take_succ_eq_append_getElem hlt, List.take_succ_eq_append_getElem hlt2, hc.out, h], fun h => by rw [HB.out]; exact decide_eq_false fun e => h (by subst e; rfl)⟩)
        obtain ⟨x, hx⟩ : ∃ x, x = A[k] := ⟨_, rfl⟩
        obtain ⟨y, hy⟩ : ∃ y, y = B[k] := ⟨_, rfl⟩
        rw [← hx] at q1 HC
        rw [← hy] at q2 HC
        clear hx hy hc
        by_cases hxy : x = y
        · have hn := hid (HC.out.1 hxy)
          have hb' : (x != y) = false := by simp [hxy]
          clear hxy
          go_wp2
          go_quiet (fail)
          go_wp2
          go_roundw
          case rel => exact ⟨k + 1, d + nq, by omega, rfl, hn, by first | rfl | exact World.drewN_drewN _ _ _⟩
          case measure => simp [intOf]; omega
        · have hE := hid (HC.out.2 hxy)
          have hb' : (x != y) = true := by simp [hxy]
          clear hxy
          go_wp2
          go_quiet (fail)
          go_wp2
          go_ret
          exact ⟨ret_bo hE.out.symm, _, by first | rfl | rw [World.drewN_drewN]⟩
      · have hE := hid (show b = true by
          have e := hc.out
          rw [List.take_of_length_le (by omega), List.take_of_length_le (by have := HL.out; omega)] at e
          rw [HB.out]; exact decide_eq_true e)
        have a2 : ¬ (k : Int) < A.length := by omega
        have a3 : ¬ (k : Int) < B.length := by have := HL.out; omega
        go_wp2
        go_ret
        exact ⟨ret_bo hE.out.symm, d, rfl⟩
  · have hl' : ((A.length : Int) != (B.length : Int)) = true := bne_iff_ne.2 (by omega)
    have hE := hid (show b = false by rw [HB.out]; exact decide_eq_false fun e => hl (by rw [e]))
    clear hl
    go_enter Try.func95, Try.ntmps95
    go_wp2
    go_ret
    exact ⟨ret_bo hE.out.symm, 0, rfl⟩
theorem equal_any_own (v u : Value) (A B : List Int) (hA : A.length ≤ 1073741824) (hB : B.length ≤ 1073741824) (b1 b2 : Nat) (w : World) (h1 : Ints w b1 v A) (h2 : Ints w b2 u B) :
    Calls Try.prog 95 #[v, u] w (RetB (.bool (decide (A = B))) w) := by
  obtain ⟨a, c, rfl, -, r1, -⟩ := Ints_form h1
  obtain ⟨a', c', rfl, -, r2, -⟩ := Ints_form h2
  exact RetB_of_drew (equal_any a a' _ _ c c' A B hA hB w r1 r2)
set_option maxRecDepth 100000 in
set_option maxHeartbeats 3200000 in
theorem l04List_any (a1 a2 : Option Addr) (n1 n2 c1 c2 : Nat) (A B : List Int) (hA : A.length ≤ 1073741824) (hB : B.length ≤ 1073741824) (w : World) (h1 : RowI w a1 n1 A) (h2 : RowI w a2 n2 B) :
    Calls Try.prog 92 #[.slice a1 n1 c1, .slice a2 n2 c2] w (Drew (.bool (decide (A = B))) w) := by
  obtain ⟨rfl, H1⟩ := h1
  obtain ⟨rfl, H2⟩ := h2
  have G1 := hid H1
  have G2 := hid H2
  clear H1 H2
  obtain ⟨b, hb⟩ : ∃ b, b = decide (A = B) := ⟨_, rfl⟩
  have HB := hid hb
  rw [← hb]
  clear hb
  by_cases hl : A.length = B.length
  · have HL := hid hl
    have hl' : ((A.length : Int) != (B.length : Int)) = false := by simp [hl]
    go_enter Try.func92, Try.ntmps92
    go_wp2
    clear hl hl'
    go_loopw [13] (fun i wr => ∃ (k d : Nat), k ≤ A.length ∧ i = .int .i64 (k : Int) ∧ Hid (A.take k = B.take k) ∧ wr = w.drewN d) (fun i _ => A.length - (intOf i).toNat)
    case atStart => exact ⟨0, 0, Nat.zero_le _, rfl, hid (by simp), rfl⟩
    case round =>
      obtain ⟨k, d, hk, rfl, hc, rfl⟩ := hrel
      by_cases hlt : k < A.length
      · have hlt2 : k < B.length := by have := HL.out; omega
        obtain ⟨g1, o1, rfl, -, hc1⟩ := G1.out (by omega)
        obtain ⟨g2, o2, rfl, -, hc2⟩ := G2.out (by omega)
        clear G1 G2
        have q1 := hc1 k hlt
        have q2 := hc2 k hlt2
        clear hc1 hc2
        have a1 : (0 : Int) ≤ k := by omega
        have a2 : (k : Int) < A.length := by omega
        have a3 : (k : Int) < B.length := by omega
        have HC := hid (show (A[k] = B[k] → A.take (k + 1) = B.take (k + 1)) ∧ (A[k] ≠ B[k] → b = false) from
          ⟨fun h => by rw [List.take_succ_eq_append_getElem hlt, List.take_succ_eq_append_getElem hlt2, hc.out, h], fun h => by rw [HB.out]; exact decide_eq_false fun e => h (by subst e; rfl)⟩)
        obtain ⟨x, hx⟩ : ∃ x, x = A[k] := ⟨_, rfl⟩
        obtain ⟨y, hy⟩ : ∃ y, y = B[k] := ⟨_, rfl⟩
        rw [← hx] at q1 HC
        rw [← hy] at q2 HC
        clear hx hy hc
        by_cases hxy : x = y
        · have hn := hid (HC.out.1 hxy)
          have hb' : (x != y) = false := by simp [hxy]
          clear hxy
          go_wp2
          go_quiet (fail)
          go_wp2
          go_roundw
          case rel => exact ⟨k + 1, d + nq, by omega, rfl, hn, by first | rfl | exact World.drewN_drewN _ _ _⟩
          case measure => simp [intOf]; omega
        · have hE := hid (HC.out.2 hxy)
          have hb' : (x != y) = true := by simp [hxy]
          clear hxy
          go_wp2
          go_quiet (fail)
          go_wp2
          go_ret
          exact ⟨ret_bo hE.out.symm, _, by first | rfl | rw [World.drewN_drewN]⟩
      · have hE := hid (show b = true by
          have e := hc.out
          rw [List.take_of_length_le (by omega), List.take_of_length_le (by have := HL.out; omega)] at e
          rw [HB.out]; exact decide_eq_true e)
        have a2 : ¬ (k : Int) < A.length := by omega
        have a3 : ¬ (k : Int) < B.length := by have := HL.out; omega
        go_wp2
        go_ret
        exact ⟨ret_bo hE.out.symm, d, rfl⟩
  · have hl' : ((A.length : Int) != (B.length : Int)) = true := bne_iff_ne.2 (by omega)
    have hE := hid (show b = false by rw [HB.out]; exact decide_eq_false fun e => hl (by rw [e]))
    clear hl
    go_enter Try.func92, Try.ntmps92
    go_wp2
    go_ret
    exact ⟨ret_bo hE.out.symm, 0, rfl⟩
theorem l04List_any_own (v u : Value) (A B : List Int) (hA : A.length ≤ 1073741824) (hB : B.length ≤ 1073741824) (b1 b2 : Nat) (w : World) (h1 : Ints w b1 v A) (h2 : Ints w b2 u B) :
    Calls Try.prog 92 #[v, u] w (RetB (.bool (decide (A = B))) w) := by
  obtain ⟨a, c, rfl, -, r1, -⟩ := Ints_form h1
  obtain ⟨a', c', rfl, -, r2, -⟩ := Ints_form h2
  exact RetB_of_drew (l04List_any a a' _ _ c c' A B hA hB w r1 r2)
set_option maxRecDepth 100000 in
set_option maxHeartbeats 3200000 in
theorem impl_RatEqual (s t : Bool) (v u v' u' : Value) (A D A' D' : List Int) (w : World) (h : RL w v u A D) (h' : RL w v' u' A' D') :
    Calls Try.prog 43 #[.agg #[.bool s, v, u], .agg #[.bool t, v', u']] w (RetB (.bool ((s == t) && decide (A = A') && decide (D = D'))) w) := by
  have hA : A.length ≤ 1073741824 := by have := h.la; omega
  have hD : D.length ≤ 1073741824 := by have := h.ld; omega
  have hA' : A'.length ≤ 1073741824 := by have := h'.la; omega
  have hD' : D'.length ≤ 1073741824 := by have := h'.ld; omega
  obtain ⟨b1, i1⟩ := h.a
  obtain ⟨b2, i2⟩ := h.d
  obtain ⟨b3, i3⟩ := h'.a
  obtain ⟨b4, i4⟩ := h'.d
  have K1 := hid (fun (W : World) (h1 : Ints W b1 v A) (h2 : Ints W b3 v' A') => equal_any_own v v' A A' hA hA' b1 b3 W h1 h2)
  have K2 := hid (fun (W : World) (h1 : Ints W b2 u D) (h2 : Ints W b4 u' D') => equal_any_own u u' D D' hD hD' b2 b4 W h1 h2)
  obtain ⟨a, c, b, d, rfl, rfl⟩ := h.form
  obtain ⟨a', c', b', d', rfl, rfl⟩ := h'.form
  have B := hid (show Below w.heap.size w ((w.alloc (.cells #[.bool s, .slice a A.length c, .slice b D.length d] 33)).alloc (.cells #[.bool t, .slice a' A'.length c', .slice b' D'.length d'] 33)) from ((Below.refl _ _).alloc (Nat.le_refl _) _).alloc (by simp) _)
  have LP := hid (show LocA 33 ((w.alloc (.cells #[.bool s, .slice a A.length c, .slice b D.length d] 33)).alloc (.cells #[.bool t, .slice a' A'.length c', .slice b' D'.length d'] 33)) w.heap.size #[.bool s, .slice a A.length c, .slice b D.length d] from (LocA.at rfl).new1)
  have LQ := hid (show LocA 33 ((w.alloc (.cells #[.bool s, .slice a A.length c, .slice b D.length d] 33)).alloc (.cells #[.bool t, .slice a' A'.length c', .slice b' D'.length d'] 33)) (w.heap.size + 1) #[.bool t, .slice a' A'.length c', .slice b' D'.length d'] from LocA.at (by simp))
  have I1 := hid (Ints_old i1 B.out)
  have I2 := hid (Ints_old i2 B.out)
  have I3 := hid (Ints_old i3 B.out)
  have I4 := hid (Ints_old i4 B.out)
  clear h h' i1 i2 i3 i4
  generalize hW : (w.alloc (.cells #[.bool s, .slice a A.length c, .slice b D.length d] 33)).alloc (.cells #[.bool t, .slice a' A'.length c', .slice b' D'.length d'] 33) = W0 at B LP LQ I1 I2 I3 I4
  have HW := hid hW
  clear hW
  obtain ⟨p1, hp1⟩ : ∃ p, p = decide (A = A') := ⟨_, rfl⟩
  obtain ⟨p2, hp2⟩ : ∃ p, p = decide (D = D') := ⟨_, rfl⟩
  rw [← hp1] at K1 ⊢
  rw [← hp2] at K2 ⊢
  clear hp1 hp2
  cases hst : s == t with
  | false =>
    go_enter Try.func43, Try.ntmps43
    go_wp2
    go_ret
    exact ⟨ret_bo (by simp), by first | exact B.out | (rw [HW.out]; exact B.out)⟩
  | true =>
    have q0 := LP.out.c 1 rfl
    have q1 := LQ.out.c 1 rfl
    cases p1 with
    | false =>
      go_enter Try.func43, Try.ntmps43
      go_wp2_with fail
      rw [HW.out]
      (with_reducible refine (K1.out _ I1.out I3.out).mono ?_)
      clear q0 q1
      rintro e w1 ⟨rfl, g1⟩
      have B := hid (B.out.trans (g1.mono B.out.size))
      clear g1
      go_wp2
      go_ret
      exact ⟨ret_bo (by simp), B.out⟩
    | true =>
      go_enter Try.func43, Try.ntmps43
      go_wp2_with fail
      rw [HW.out]
      (with_reducible refine (K1.out _ I1.out I3.out).mono ?_)
      clear q0 q1
      rintro e w1 ⟨rfl, g1⟩
      have B := hid (B.out.trans (g1.mono B.out.size))
      have LP := hid (LP.out.old g1)
      have LQ := hid (LQ.out.old g1)
      have I2 := hid (Ints_old I2.out g1)
      have I4 := hid (Ints_old I4.out g1)
      have q0 := LP.out.c 2 rfl
      have q1 := LQ.out.c 2 rfl
      clear g1
      go_wp2_with fail
      (with_reducible refine (K2.out _ I2.out I4.out).mono ?_)
      clear q0 q1
      rintro e w2 ⟨rfl, g1⟩
      have B := hid (B.out.trans (g1.mono B.out.size))
      clear g1
      go_wp2
      go_ret
      exact ⟨ret_bo (by simp), B.out⟩
set_option maxRecDepth 100000 in
set_option maxHeartbeats 3200000 in
theorem spec_RatEqual (s t : Bool) (v u v' u' : Value) (A D A' D' : List Int) (w : World) (h : RL w v u A D) (h' : RL w v' u' A' D') :
    Calls Try.prog 41 #[.agg #[.bool s, v, u], .agg #[.bool t, v', u']] w (RetB (.bool ((s == t) && decide (A = A') && decide (D = D'))) w) := by
  have hA : A.length ≤ 1073741824 := by have := h.la; omega
  have hD : D.length ≤ 1073741824 := by have := h.ld; omega
  have hA' : A'.length ≤ 1073741824 := by have := h'.la; omega
  have hD' : D'.length ≤ 1073741824 := by have := h'.ld; omega
  obtain ⟨b1, i1⟩ := h.a
  obtain ⟨b2, i2⟩ := h.d
  obtain ⟨b3, i3⟩ := h'.a
  obtain ⟨b4, i4⟩ := h'.d
  have K1 := hid (fun (W : World) (h1 : Ints W b1 v A) (h2 : Ints W b3 v' A') => l04List_any_own v v' A A' hA hA' b1 b3 W h1 h2)
  have K2 := hid (fun (W : World) (h1 : Ints W b2 u D) (h2 : Ints W b4 u' D') => l04List_any_own u u' D D' hD hD' b2 b4 W h1 h2)
  obtain ⟨a, c, b, d, rfl, rfl⟩ := h.form
  obtain ⟨a', c', b', d', rfl, rfl⟩ := h'.form
  have B := hid (show Below w.heap.size w ((w.alloc (.cells #[.bool s, .slice a A.length c, .slice b D.length d] 33)).alloc (.cells #[.bool t, .slice a' A'.length c', .slice b' D'.length d'] 33)) from ((Below.refl _ _).alloc (Nat.le_refl _) _).alloc (by simp) _)
  have LP := hid (show LocA 33 ((w.alloc (.cells #[.bool s, .slice a A.length c, .slice b D.length d] 33)).alloc (.cells #[.bool t, .slice a' A'.length c', .slice b' D'.length d'] 33)) w.heap.size #[.bool s, .slice a A.length c, .slice b D.length d] from (LocA.at rfl).new1)
  have LQ := hid (show LocA 33 ((w.alloc (.cells #[.bool s, .slice a A.length c, .slice b D.length d] 33)).alloc (.cells #[.bool t, .slice a' A'.length c', .slice b' D'.length d'] 33)) (w.heap.size + 1) #[.bool t, .slice a' A'.length c', .slice b' D'.length d'] from LocA.at (by simp))
  have I1 := hid (Ints_old i1 B.out)
  have I2 := hid (Ints_old i2 B.out)
  have I3 := hid (Ints_old i3 B.out)
  have I4 := hid (Ints_old i4 B.out)
  clear h h' i1 i2 i3 i4
  generalize hW : (w.alloc (.cells #[.bool s, .slice a A.length c, .slice b D.length d] 33)).alloc (.cells #[.bool t, .slice a' A'.length c', .slice b' D'.length d'] 33) = W0 at B LP LQ I1 I2 I3 I4
  have HW := hid hW
  clear hW
  obtain ⟨p1, hp1⟩ : ∃ p, p = decide (A = A') := ⟨_, rfl⟩
  obtain ⟨p2, hp2⟩ : ∃ p, p = decide (D = D') := ⟨_, rfl⟩
  rw [← hp1] at K1 ⊢
  rw [← hp2] at K2 ⊢
  clear hp1 hp2
  cases hst : s == t with
  | false =>
    go_enter Try.func41, Try.ntmps41
    go_wp2
    go_ret
    exact ⟨ret_bo (by simp), by first | exact B.out | (rw [HW.out]; exact B.out)⟩
  | true =>
    have q0 := LP.out.c 1 rfl
    have q1 := LQ.out.c 1 rfl
    cases p1 with
    | false =>
      go_enter Try.func41, Try.ntmps41
      go_wp2_with fail
      rw [HW.out]
      (with_reducible refine (K1.out _ I1.out I3.out).mono ?_)
      clear q0 q1
      rintro e w1 ⟨rfl, g1⟩
      have B := hid (B.out.trans (g1.mono B.out.size))
      clear g1
      go_wp2
      go_ret
      exact ⟨ret_bo (by simp), B.out⟩
    | true =>
      go_enter Try.func41, Try.ntmps41
      go_wp2_with fail
      rw [HW.out]
      (with_reducible refine (K1.out _ I1.out I3.out).mono ?_)
      clear q0 q1
      rintro e w1 ⟨rfl, g1⟩
      have B := hid (B.out.trans (g1.mono B.out.size))
      have LP := hid (LP.out.old g1)
      have LQ := hid (LQ.out.old g1)
      have I2 := hid (Ints_old I2.out g1)
      have I4 := hid (Ints_old I4.out g1)
      have q0 := LP.out.c 2 rfl
      have q1 := LQ.out.c 2 rfl
      clear g1
      go_wp2_with fail
      (with_reducible refine (K2.out _ I2.out I4.out).mono ?_)
      clear q0 q1
      rintro e w2 ⟨rfl, g1⟩
      have B := hid (B.out.trans (g1.mono B.out.size))
      clear g1
      go_wp2
      go_ret
      exact ⟨ret_bo (by simp), B.out⟩
end Go.Proofs.Yteanocjkdehhgaa
