/- The program: the simplest fraction of an interval. -/
import Derived.Test.YtookglpeieennaaGreatSpl
import Derived.Test.YtookglpeieennaaGreatFls
import Derived.Deep.RegionHeld3
import Derived.Deep.DeepCutAuto
namespace Go.Proofs.YtookglpeieennaaGreat
open Go.RowKit
open Go.Lib (hid)
set_option linter.unusedVariables false

/-- The simplest fraction from x to y. -/
def simpF (x y : Rat) : Option Rat := if y < x then none else if y < 0 then some (-(sqF (-y) (-x))) else if x ≤ 0 then some ((0 : Int) : Rat) else some (sqF x y)
theorem simpF_no {x y : Rat} (h : y < x) : simpF x y = none := by unfold simpF; rw [if_pos h]
theorem simpF_neg {x y : Rat} (h : ¬ y < x) (h' : y < 0) : simpF x y = some (-(sqF (-y) (-x))) := by unfold simpF; rw [if_neg h, if_pos h']
theorem simpF_zero {x y : Rat} (h : ¬ y < x) (h' : ¬ y < 0) (h2 : x ≤ 0) : simpF x y = some ((0 : Int) : Rat) := by unfold simpF; rw [if_neg h, if_neg h', if_pos h2]
theorem simpF_pos {x y : Rat} (h : ¬ y < x) (h' : ¬ y < 0) (h2 : ¬ x ≤ 0) : simpF x y = some (sqF x y) := by unfold simpF; rw [if_neg h, if_neg h', if_neg h2]
theorem neg_pos' {y : Rat} (h : y < 0) : 0 < -y := by have := Rat.neg_lt_neg_iff.2 h; rwa [Rat.neg_zero] at this
theorem sgn_num (x : Rat) : sgn x.num = cmpF x 0 := by
  have := cmpF_sub x 0
  rw [show x - 0 = x by rw [Rat.sub_eq_add_neg, Rat.neg_zero, Rat.add_zero]] at this
  exact this
theorem sgn_of_neg {x : Rat} (h : x < 0) : sgn x.num = -1 := by rw [sgn_num]; simp [cmpF, h]
theorem sgn_of_pos {x : Rat} (h : 0 < x) : sgn x.num = 1 := by
  rw [sgn_num]
  have : ¬ x < 0 := fun e => (Rat.lt_iff_le_and_not_ge.1 h).2 (Rat.le_of_lt e)
  simp [cmpF, h, this]
theorem sgn_nonpos {x : Rat} (h : x ≤ 0) : sgn x.num ≤ 0 := by
  rw [sgn_num]
  rcases cmpF_cases x 0 with ⟨e, -⟩ | ⟨e, -⟩ | ⟨e, e'⟩
  · omega
  · omega
  · exact absurd h (Rat.not_le.2 e')
theorem sgn_nonneg {x : Rat} (h : ¬ x < 0) : 0 ≤ sgn x.num := by
  rw [sgn_num]
  rcases cmpF_cases x 0 with ⟨e, e'⟩ | ⟨e, -⟩ | ⟨e, -⟩
  · exact absurd e' h
  · omega
  · omega
theorem cmp_gt {x y : Rat} (h : y < x) : cmpF x y = 1 := by
  have : ¬ x < y := fun e => (Rat.lt_iff_le_and_not_ge.1 h).2 (Rat.le_of_lt e)
  simp [cmpF, h, this]
theorem cmp_ngt {x y : Rat} (h : ¬ y < x) : ¬ 0 < cmpF x y := by
  rcases cmpF_cases x y with ⟨e, -⟩ | ⟨e, -⟩ | ⟨e, e'⟩
  · omega
  · omega
  · exact absurd e' h
theorem cmp_x {w : World} {s t : Bool} {v u v' u' : Value} {x y : Rat} {z : Int} (h : RA w s v u (some x)) (h' : RA w t v' u' (some y)) (hz : cmpF x y = z) : Calls Tryz.prog 16 #[.agg #[.bool s, v, u], .agg #[.bool t, v', u']] w (RetB (.int .i64 z) w) := by
  subst hz; exact cmp_o h h'
theorem sign_x {w : World} {s : Bool} {v u : Value} {x : Rat} {z : Int} (h : RA w s v u (some x)) (hz : sgn x.num = z) : Calls Tryz.prog 19 #[.agg #[.bool s, v, u]] w (RetB (.int .i64 z) w) := by
  subst hz; exact sign_o h
theorem neg_x {w : World} {s : Bool} {v u : Value} {x : Rat} (h : RA w s v u (some x)) : Calls Tryz.prog 23 #[.agg #[.bool s, v, u]] w (RatO true (some (-x)) w) := neg_o h
theorem l04Cmp_x {w : World} {s t : Bool} {v u v' u' : Value} {x y : Rat} {z : Int} (h : RA w s v u (some x)) (h' : RA w t v' u' (some y)) (hz : cmpF x y = z) : Calls Tryz.prog 85 #[.agg #[.bool s, v, u], .agg #[.bool t, v', u']] w (RetB (.int .i64 z) w) := by
  subst hz; exact l04Cmp_o h h'
theorem scmp_x {w : World} {s t : Bool} {v u v' u' : Value} {x y : Rat} {z : Int} (h : RA w s v u (some x)) (h' : RA w t v' u' (some y)) (hz : cmpF x y = z) : Calls Tryz.prog 127 #[.agg #[.bool s, v, u], .agg #[.bool t, v', u']] w (RetB (.int .i64 z) w) := by
  subst hz; exact scmp_o h h'
theorem ssign_x {w : World} {s : Bool} {v u : Value} {x : Rat} {z : Int} (h : RA w s v u (some x)) (hz : sgn x.num = z) : Calls Tryz.prog 86 #[.agg #[.bool s, v, u]] w (RetB (.int .i64 z) w) := by
  subst hz; exact ssign_o h
theorem sneg_x {w : World} {s : Bool} {v u : Value} {x : Rat} (h : RA w s v u (some x)) : Calls Tryz.prog 89 #[.agg #[.bool s, v, u]] w (RatO false (some (-x)) w) := sneg_o h
theorem sfloor_x {w : World} {s : Bool} {v u : Value} {x : Rat} (h : RA w s v u (some x)) : Calls Tryz.prog 72 #[.agg #[.bool s, v, u]] w (RatO false (some (flF x)) w) := sfloor_o h
theorem sceil_x {w : World} {s : Bool} {v u : Value} {x : Rat} (h : RA w s v u (some x)) : Calls Tryz.prog 90 #[.agg #[.bool s, v, u]] w (RatO false (some (ceF x)) w) := sceil_o h
theorem ssub_x {w : World} {s t : Bool} {v u v' u' : Value} {x y z : Rat} (h : RA w s v u (some x)) (h' : RA w t v' u' (some y)) (hz : x - y = z) (hf : fit z) : Calls Tryz.prog 71 #[.agg #[.bool s, v, u], .agg #[.bool t, v', u']] w (RatO false (some z) w) :=
  (ssub_o h h').mono fun e w' hh => hh.eqo (by subst hz; rw [bq_some]; unfold subF; exact capF_yes hf)
theorem sadd_x {w : World} {s t : Bool} {v u v' u' : Value} {x y z : Rat} (h : RA w s v u (some x)) (h' : RA w t v' u' (some y)) (hz : x + y = z) (hf : fit z) : Calls Tryz.prog 81 #[.agg #[.bool s, v, u], .agg #[.bool t, v', u']] w (RatO false (some z) w) :=
  (sadd_o h h').mono fun e w' hh => hh.eqo (by subst hz; rw [bq_some]; unfold addF; exact capF_yes hf)
theorem sdiv_x {w : World} {s t : Bool} {v u v' u' : Value} {x y z : Rat} (h : RA w s v u (some x)) (h' : RA w t v' u' (some y)) (h0 : y ≠ 0) (hz : x / y = z) (hf : fit z) : Calls Tryz.prog 128 #[.agg #[.bool s, v, u], .agg #[.bool t, v', u']] w (RatO false (some z) w) :=
  (sdiv_o h h').mono fun e w' hh => hh.eqo (by subst hz; rw [bq_some]; unfold divF; rw [if_neg h0]; exact capF_yes hf)
theorem gzl_nat {z : Int} (h0 : 0 ≤ z) (h : z < pw 24) : gzl z = rep z.toNat := by
  have := pw24_60
  unfold gzl
  rw [show ((z.natAbs : Nat) : Int) = z by omega, capped_of (by omega)]
theorem RA.limbs {w : World} {s : Bool} {v u : Value} {x : Rat} (h : RA w s v u (some x)) (h0 : 0 < x) : (∃ b, Ints w b v (rep x.num.toNat)) ∧ (∃ b, Ints w b u (rep x.den)) := by
  have hf := h.fitO x rfl
  obtain ⟨A, D, r, e⟩ := h
  obtain ⟨-, e1, e2⟩ := rval_lists e
  have h1 := num_pos'.2 h0
  have f1 := hf.1
  have f2 := hf.2
  rw [gzl_nat (by omega) (by omega)] at e1
  rw [gzl_nat (by omega) f2] at e2
  obtain ⟨b, i⟩ := r.a
  obtain ⟨c, j⟩ := r.d
  rw [← e1] at i
  rw [← e2] at j
  exact ⟨⟨b, i⟩, ⟨c, j⟩⟩
/-- The limbs of the fraction z, of the call's own. -/
def SqP (z : Rat) (w : World) (e : Ending) (w' : World) : Prop := ∃ a n c b m d, e = .returned (.tuple #[.slice a n c, .slice b m d]) ∧ RO true w' w.heap.size false (.slice a n c) (.slice b m d) (some z) ∧ Below w.heap.size w w'
theorem simplest_x {w : World} {s t : Bool} {v u v' u' : Value} {x y : Rat} (h : RA w s v u (some x)) (h' : RA w t v' u' (some y)) (h0 : 0 < x) (hle : x ≤ y) : Calls Tryz.prog 61 #[v, u, v', u'] w (SqP (sqF x y) w) := by
  have hx := h.fitO x rfl
  have hy := h'.fitO y rfl
  have hy0 := lt_le h0 hle
  obtain ⟨⟨b1, i1⟩, ⟨b2, i2⟩⟩ := h.limbs h0
  obtain ⟨⟨b3, i3⟩, ⟨b4, i4⟩⟩ := h'.limbs hy0
  have E := ends_of h0 hle
  have n1 := num_pos'.2 h0
  have n2 := num_pos'.2 hy0
  have f1 := hx.1
  have f2 := hx.2
  have f3 := hy.1
  have f4 := hy.2
  refine (simplest_pos _ _ _ _ _ (Nat.le_refl _) E.a E.b E.d E.le (by omega) f2 (by omega) f4 _ _ _ _ b1 b2 b3 b4 w i1 i2 i3 i4).mono ?_
  rintro e w' ⟨v1, u1, rfl, j1, j2, nd, hb⟩
  obtain ⟨p1, p2⟩ := sqF_parts E
  have g := sqF_fit E hx
  have g1 := g.1
  have g2 := g.2
  have hp : 0 < (sqF x y).num := num_pos'.2 (sqF_pos E)
  have e1 : gzl (sqF x y).num = rep (sst x.num.toNat x.den y.num.toNat y.den).1 := by rw [gzl_nat (by omega) (by omega), p1]; rfl
  have e2 : gzl ((sqF x y).den : Int) = rep (sst x.num.toNat x.den y.num.toNat y.den).2 := by rw [gzl_nat (by omega) (by omega), p2]; rfl
  rw [← e1] at j1
  rw [← e2] at j2
  obtain ⟨a, c, rfl, -⟩ := Ints_form j1
  obtain ⟨b, d, rfl, -⟩ := Ints_form j2
  exact ⟨a, _, c, b, _, d, rfl, ⟨by show false = gzs (sqF x y).num; rw [gzs_nonneg (by omega)], j1, j2, fun _ => nd, fitO_some g⟩, hb⟩
set_option maxRecDepth 100000 in
set_option maxHeartbeats 12800000 in
theorem between_pos_w {s : Bool} {a : Option Addr} {n c : Nat} {b : Option Addr} {m d : Nat} {t : Bool} {a' : Option Addr} {n' c' : Nat} {b' : Option Addr} {m' d' : Nat}  {x y : Rat} (h0 : 0 < x) (hle : x ≤ y) (w : World) (h : RA w s (.slice a n c) (.slice b m d) (some x)) (h' : RA w t (.slice a' n' c') (.slice b' m' d') (some y)) :
    Calls Tryz.prog 26 #[.agg #[.bool s, .slice a n c, .slice b m d], .agg #[.bool t, .slice a' n' c', .slice b' m' d']] w (RatO true (some (sqF x y)) w) := by
  obtain ⟨Q, hQ⟩ : ∃ Q, Q = RatO true (some (sqF x y)) w := ⟨_, rfl⟩
  rw [← hQ]
  have HQ := hid hQ
  clear hQ
  have B := hid (show Below w.heap.size w (((w.alloc (.cells #[.bool s, .slice a n c, .slice b m d] 27)).alloc (.cells #[.bool t, .slice a' n' c', .slice b' m' d'] 27)).alloc (.cells #[.bool false, .slice none 0 0, .slice none 0 0] 27)) from (((Below.refl _ _).alloc (Nat.le_refl _) _).alloc (by simp) _).alloc (by simp; try omega) _)
  have LX := hid (show LocA 27 (((w.alloc (.cells #[.bool s, .slice a n c, .slice b m d] 27)).alloc (.cells #[.bool t, .slice a' n' c', .slice b' m' d'] 27)).alloc (.cells #[.bool false, .slice none 0 0, .slice none 0 0] 27)) (w.heap.size) #[.bool s, .slice a n c, .slice b m d] from (LocA.at (by simp)).new1.new1)
  have LY := hid (show LocA 27 (((w.alloc (.cells #[.bool s, .slice a n c, .slice b m d] 27)).alloc (.cells #[.bool t, .slice a' n' c', .slice b' m' d'] 27)).alloc (.cells #[.bool false, .slice none 0 0, .slice none 0 0] 27)) (w.heap.size + 1) #[.bool t, .slice a' n' c', .slice b' m' d'] from (LocA.at (by simp)).new1)
  have LR := hid (show LocA 27 (((w.alloc (.cells #[.bool s, .slice a n c, .slice b m d] 27)).alloc (.cells #[.bool t, .slice a' n' c', .slice b' m' d'] 27)).alloc (.cells #[.bool false, .slice none 0 0, .slice none 0 0] 27)) (w.heap.size + 1 + 1) #[.bool false, .slice none 0 0, .slice none 0 0] from LocA.at (by simp))
  have X := hid (h.old B.out)
  have Y := hid (h'.old B.out)
  clear h h'
  generalize hW : ((w.alloc (.cells #[.bool s, .slice a n c, .slice b m d] 27)).alloc (.cells #[.bool t, .slice a' n' c', .slice b' m' d'] 27)).alloc (.cells #[.bool false, .slice none 0 0, .slice none 0 0] 27) = W0 at B X LX Y LY LR
  have HW := hid hW
  clear hW
  have hs0 := B.out.size
  have hw0 := LR.out.lt
  have P0 := hid h0
  have P1 := hid hle
  have hng : ¬ 0 < cmpF x y := cmp_ngt (Rat.not_lt.2 hle)
  obtain ⟨z, hz⟩ : ∃ z, z = cmpF x y := ⟨_, rfl⟩
  rw [← hz] at hng
  have HZ := hid hz.symm
  have S1 := hid (sgn_of_pos (lt_le h0 hle))
  have S2 := hid (sgn_of_pos h0)
  clear hz h0 hle
  go_enter Tryz.func26, Tryz.ntmps26
  have q0 := LX.out.c 0 (v := .bool s) rfl
  have q1 := LX.out.c 1 (v := .slice a n c) rfl
  have q2 := LX.out.c 2 (v := .slice b m d) rfl
  go_wp2_with fail
  rw [HW.out]
  (with_reducible refine (ok_some X.out).mono ?_)
  clear q0 q1 q2
  rintro e w1 ⟨rfl, hb⟩
  have LX := hid (LX.out.old hb)
  have LY := hid (LY.out.old hb)
  have LR := hid (LR.out.old hb)
  have X := hid (X.out.old hb)
  have Y := hid (Y.out.old hb)
  have B := hid (B.out.trans (hb.mono B.out.size))
  clear hb
  have q0 := LY.out.c 0 (v := .bool t) rfl
  have q1 := LY.out.c 1 (v := .slice a' n' c') rfl
  have q2 := LY.out.c 2 (v := .slice b' m' d') rfl
  go_wp2_with fail
  (with_reducible refine (ok_some Y.out).mono ?_)
  clear q0 q1 q2
  rintro e w2 ⟨rfl, hb⟩
  have LX := hid (LX.out.old hb)
  have LY := hid (LY.out.old hb)
  have LR := hid (LR.out.old hb)
  have X := hid (X.out.old hb)
  have Y := hid (Y.out.old hb)
  have B := hid (B.out.trans (hb.mono B.out.size))
  clear hb
  have q0 := LX.out.c 0 (v := .bool s) rfl
  have q1 := LX.out.c 1 (v := .slice a n c) rfl
  have q2 := LX.out.c 2 (v := .slice b m d) rfl
  have q3 := LY.out.c 0 (v := .bool t) rfl
  have q4 := LY.out.c 1 (v := .slice a' n' c') rfl
  have q5 := LY.out.c 2 (v := .slice b' m' d') rfl
  go_wp2_with fail
  (with_reducible refine (cmp_x X.out Y.out HZ.out).mono ?_)
  clear q0 q1 q2 q3 q4 q5
  rintro e w3 ⟨rfl, hb⟩
  have LX := hid (LX.out.old hb)
  have LY := hid (LY.out.old hb)
  have LR := hid (LR.out.old hb)
  have X := hid (X.out.old hb)
  have Y := hid (Y.out.old hb)
  have B := hid (B.out.trans (hb.mono B.out.size))
  clear hb
  have q0 := LY.out.c 0 (v := .bool t) rfl
  have q1 := LY.out.c 1 (v := .slice a' n' c') rfl
  have q2 := LY.out.c 2 (v := .slice b' m' d') rfl
  go_wp2_with fail
  (with_reducible refine (sign_x Y.out S1.out).mono ?_)
  clear q0 q1 q2
  rintro e w4 ⟨rfl, hb⟩
  have LX := hid (LX.out.old hb)
  have LY := hid (LY.out.old hb)
  have LR := hid (LR.out.old hb)
  have X := hid (X.out.old hb)
  have Y := hid (Y.out.old hb)
  have B := hid (B.out.trans (hb.mono B.out.size))
  clear hb
  have q0 := LX.out.c 0 (v := .bool s) rfl
  have q1 := LX.out.c 1 (v := .slice a n c) rfl
  have q2 := LX.out.c 2 (v := .slice b m d) rfl
  go_wp2_with fail
  (with_reducible refine (sign_x X.out S2.out).mono ?_)
  clear q0 q1 q2
  rintro e w5 ⟨rfl, hb⟩
  have LX := hid (LX.out.old hb)
  have LY := hid (LY.out.old hb)
  have LR := hid (LR.out.old hb)
  have X := hid (X.out.old hb)
  have Y := hid (Y.out.old hb)
  have B := hid (B.out.trans (hb.mono B.out.size))
  clear hb
  have q0 := LX.out.c 0 (v := .bool s) rfl
  have q1 := LX.out.c 1 (v := .slice a n c) rfl
  have q2 := LX.out.c 2 (v := .slice b m d) rfl
  have q3 := LY.out.c 0 (v := .bool t) rfl
  have q4 := LY.out.c 1 (v := .slice a' n' c') rfl
  have q5 := LY.out.c 2 (v := .slice b' m' d') rfl
  go_wp2_with fail
  (with_reducible refine (simplest_x X.out Y.out P0.out P1.out).mono ?_)
  clear q0 q1 q2 q3 q4 q5
  rintro e w6 ⟨a6, n6, c6, b6, m6, d6, rfl, hr, hb⟩
  have G := hid (hr.base B.out.size)
  have LX := hid (LX.out.old hb)
  have LY := hid (LY.out.old hb)
  have LR := hid (LR.out.old hb)
  have X := hid (X.out.old hb)
  have Y := hid (Y.out.old hb)
  have B := hid (B.out.trans (hb.mono B.out.size))
  clear hr hb
  have f0 := LR.out.f 0
  have f1 := LR.out.f 1
  have f2 := LR.out.f 2
  have p0 := LR.out.c 0 rfl
  have p1 := LR.out.c 1 rfl
  have p2 := LR.out.c 2 rfl
  have R := hid (q_of HQ.out (RO.out (w := w) (N := w.heap.size + 1 + 1) G.out (Nat.le_refl _) (by omega) LR.out (by decide) B.out))
  go_wp2
  exact bodyPost_ret (v := .agg #[.bool false, .slice a6 n6 c6, .slice b6 m6 d6]) (by simp [results, Tryz.results26, go_sem, p0, p1, p2]) rfl R.out
theorem between_pos {w : World} {s : Bool} {v u : Value} {t : Bool} {v' u' : Value}  {x y : Rat} (h0 : 0 < x) (hle : x ≤ y) (h : RA w s v u (some x)) (h' : RA w t v' u' (some y)) : Calls Tryz.prog 26 #[.agg #[.bool s, v, u], .agg #[.bool t, v', u']] w (RatO true (some (sqF x y)) w) := by
  obtain ⟨a, n, c, b, m, d, rfl, rfl⟩ := h.form
  obtain ⟨a', n', c', b', m', d', rfl, rfl⟩ := h'.form
  exact between_pos_w h0 hle w h h'
set_option maxRecDepth 100000 in
set_option maxHeartbeats 12800000 in
theorem between_o_w {s : Bool} {a : Option Addr} {n c : Nat} {b : Option Addr} {m d : Nat} {t : Bool} {a' : Option Addr} {n' c' : Nat} {b' : Option Addr} {m' d' : Nat} {o : Option Rat} {o' : Option Rat}  (w : World) (h : RA w s (.slice a n c) (.slice b m d) o) (h' : RA w t (.slice a' n' c') (.slice b' m' d') o') :
    Calls Tryz.prog 26 #[.agg #[.bool s, .slice a n c, .slice b m d], .agg #[.bool t, .slice a' n' c', .slice b' m' d']] w (RatO true (bq simpF o o') w) := by
  obtain ⟨Q, hQ⟩ : ∃ Q, Q = RatO true (bq simpF o o') w := ⟨_, rfl⟩
  rw [← hQ]
  have HQ := hid hQ
  clear hQ
  have B := hid (show Below w.heap.size w (((w.alloc (.cells #[.bool s, .slice a n c, .slice b m d] 27)).alloc (.cells #[.bool t, .slice a' n' c', .slice b' m' d'] 27)).alloc (.cells #[.bool false, .slice none 0 0, .slice none 0 0] 27)) from (((Below.refl _ _).alloc (Nat.le_refl _) _).alloc (by simp) _).alloc (by simp; try omega) _)
  have LX := hid (show LocA 27 (((w.alloc (.cells #[.bool s, .slice a n c, .slice b m d] 27)).alloc (.cells #[.bool t, .slice a' n' c', .slice b' m' d'] 27)).alloc (.cells #[.bool false, .slice none 0 0, .slice none 0 0] 27)) (w.heap.size) #[.bool s, .slice a n c, .slice b m d] from (LocA.at (by simp)).new1.new1)
  have LY := hid (show LocA 27 (((w.alloc (.cells #[.bool s, .slice a n c, .slice b m d] 27)).alloc (.cells #[.bool t, .slice a' n' c', .slice b' m' d'] 27)).alloc (.cells #[.bool false, .slice none 0 0, .slice none 0 0] 27)) (w.heap.size + 1) #[.bool t, .slice a' n' c', .slice b' m' d'] from (LocA.at (by simp)).new1)
  have LR := hid (show LocA 27 (((w.alloc (.cells #[.bool s, .slice a n c, .slice b m d] 27)).alloc (.cells #[.bool t, .slice a' n' c', .slice b' m' d'] 27)).alloc (.cells #[.bool false, .slice none 0 0, .slice none 0 0] 27)) (w.heap.size + 1 + 1) #[.bool false, .slice none 0 0, .slice none 0 0] from LocA.at (by simp))
  have X := hid (h.old B.out)
  have Y := hid (h'.old B.out)
  clear h h'
  generalize hW : ((w.alloc (.cells #[.bool s, .slice a n c, .slice b m d] 27)).alloc (.cells #[.bool t, .slice a' n' c', .slice b' m' d'] 27)).alloc (.cells #[.bool false, .slice none 0 0, .slice none 0 0] 27) = W0 at B X LX Y LY LR
  have HW := hid hW
  clear hW
  have hs0 := B.out.size
  have hw0 := LR.out.lt
  cases o with
  | none =>
    go_enter Tryz.func26, Tryz.ntmps26
    have q0 := LX.out.c 0 (v := .bool s) rfl
    have q1 := LX.out.c 1 (v := .slice a n c) rfl
    have q2 := LX.out.c 2 (v := .slice b m d) rfl
    go_wp2_with fail
    rw [HW.out]
    (with_reducible refine (ok_none X.out).mono ?_)
    clear q0 q1 q2
    rintro e w1 ⟨rfl, hb⟩
    have LX := hid (LX.out.old hb)
    have LY := hid (LY.out.old hb)
    have LR := hid (LR.out.old hb)
    have X := hid (X.out.old hb)
    have Y := hid (Y.out.old hb)
    have B := hid (B.out.trans (hb.mono B.out.size))
    clear hb
    have f0 := LR.out.f 0
    have f1 := LR.out.f 1
    have f2 := LR.out.f 2
    have p0 := LR.out.c 0 rfl
    have p1 := LR.out.c 1 rfl
    have p2 := LR.out.c 2 rfl
    have R := hid (q_of HQ.out (RO.out (w := w) (N := w.heap.size + 1 + 1) (RO_none (w := _) (lo := w.heap.size)) (Nat.le_refl _) (by omega) LR.out (by decide) B.out))
    go_wp2
    exact bodyPost_ret (v := .agg #[.bool false, .slice none 0 0, .slice none 0 0]) (by simp [results, Tryz.results26, go_sem, p0, p1, p2]) rfl R.out
  | some x =>
  cases o' with
  | none =>
    go_enter Tryz.func26, Tryz.ntmps26
    have q0 := LX.out.c 0 (v := .bool s) rfl
    have q1 := LX.out.c 1 (v := .slice a n c) rfl
    have q2 := LX.out.c 2 (v := .slice b m d) rfl
    go_wp2_with fail
    rw [HW.out]
    (with_reducible refine (ok_some X.out).mono ?_)
    clear q0 q1 q2
    rintro e w1 ⟨rfl, hb⟩
    have LX := hid (LX.out.old hb)
    have LY := hid (LY.out.old hb)
    have LR := hid (LR.out.old hb)
    have X := hid (X.out.old hb)
    have Y := hid (Y.out.old hb)
    have B := hid (B.out.trans (hb.mono B.out.size))
    clear hb
    have q0 := LY.out.c 0 (v := .bool t) rfl
    have q1 := LY.out.c 1 (v := .slice a' n' c') rfl
    have q2 := LY.out.c 2 (v := .slice b' m' d') rfl
    go_wp2_with fail
    (with_reducible refine (ok_none Y.out).mono ?_)
    clear q0 q1 q2
    rintro e w2 ⟨rfl, hb⟩
    have LX := hid (LX.out.old hb)
    have LY := hid (LY.out.old hb)
    have LR := hid (LR.out.old hb)
    have X := hid (X.out.old hb)
    have Y := hid (Y.out.old hb)
    have B := hid (B.out.trans (hb.mono B.out.size))
    clear hb
    have f0 := LR.out.f 0
    have f1 := LR.out.f 1
    have f2 := LR.out.f 2
    have p0 := LR.out.c 0 rfl
    have p1 := LR.out.c 1 rfl
    have p2 := LR.out.c 2 rfl
    have R := hid (q_of HQ.out (RO.out (w := w) (N := w.heap.size + 1 + 1) (RO_none (w := _) (lo := w.heap.size)) (Nat.le_refl _) (by omega) LR.out (by decide) B.out))
    go_wp2
    exact bodyPost_ret (v := .agg #[.bool false, .slice none 0 0, .slice none 0 0]) (by simp [results, Tryz.results26, go_sem, p0, p1, p2]) rfl R.out
  | some y =>
  have HQ := hid (show Q = RatO true (simpF x y) w from HQ.out)
  by_cases hgt : y < x
  · have HQ := hid (show Q = RatO true none w by rw [← simpF_no hgt]; exact HQ.out)
    have HZ := hid (cmp_gt hgt)
    clear hgt
    go_enter Tryz.func26, Tryz.ntmps26
    have q0 := LX.out.c 0 (v := .bool s) rfl
    have q1 := LX.out.c 1 (v := .slice a n c) rfl
    have q2 := LX.out.c 2 (v := .slice b m d) rfl
    go_wp2_with fail
    rw [HW.out]
    (with_reducible refine (ok_some X.out).mono ?_)
    clear q0 q1 q2
    rintro e w1 ⟨rfl, hb⟩
    have LX := hid (LX.out.old hb)
    have LY := hid (LY.out.old hb)
    have LR := hid (LR.out.old hb)
    have X := hid (X.out.old hb)
    have Y := hid (Y.out.old hb)
    have B := hid (B.out.trans (hb.mono B.out.size))
    clear hb
    have q0 := LY.out.c 0 (v := .bool t) rfl
    have q1 := LY.out.c 1 (v := .slice a' n' c') rfl
    have q2 := LY.out.c 2 (v := .slice b' m' d') rfl
    go_wp2_with fail
    (with_reducible refine (ok_some Y.out).mono ?_)
    clear q0 q1 q2
    rintro e w2 ⟨rfl, hb⟩
    have LX := hid (LX.out.old hb)
    have LY := hid (LY.out.old hb)
    have LR := hid (LR.out.old hb)
    have X := hid (X.out.old hb)
    have Y := hid (Y.out.old hb)
    have B := hid (B.out.trans (hb.mono B.out.size))
    clear hb
    have q0 := LX.out.c 0 (v := .bool s) rfl
    have q1 := LX.out.c 1 (v := .slice a n c) rfl
    have q2 := LX.out.c 2 (v := .slice b m d) rfl
    have q3 := LY.out.c 0 (v := .bool t) rfl
    have q4 := LY.out.c 1 (v := .slice a' n' c') rfl
    have q5 := LY.out.c 2 (v := .slice b' m' d') rfl
    go_wp2_with fail
    (with_reducible refine (cmp_x X.out Y.out HZ.out).mono ?_)
    clear q0 q1 q2 q3 q4 q5
    rintro e w3 ⟨rfl, hb⟩
    have LX := hid (LX.out.old hb)
    have LY := hid (LY.out.old hb)
    have LR := hid (LR.out.old hb)
    have X := hid (X.out.old hb)
    have Y := hid (Y.out.old hb)
    have B := hid (B.out.trans (hb.mono B.out.size))
    clear hb
    have f0 := LR.out.f 0
    have f1 := LR.out.f 1
    have f2 := LR.out.f 2
    have p0 := LR.out.c 0 rfl
    have p1 := LR.out.c 1 rfl
    have p2 := LR.out.c 2 rfl
    have R := hid (q_of HQ.out (RO.out (w := w) (N := w.heap.size + 1 + 1) (RO_none (w := _) (lo := w.heap.size)) (Nat.le_refl _) (by omega) LR.out (by decide) B.out))
    go_wp2
    exact bodyPost_ret (v := .agg #[.bool false, .slice none 0 0, .slice none 0 0]) (by simp [results, Tryz.results26, go_sem, p0, p1, p2]) rfl R.out
  have hng : ¬ 0 < cmpF x y := cmp_ngt hgt
  have HG := hid hgt
  obtain ⟨z, hz⟩ : ∃ z, z = cmpF x y := ⟨_, rfl⟩
  rw [← hz] at hng
  have HZ := hid hz.symm
  clear hz hgt
  by_cases hy0 : y < 0
  · have HQ := hid (show Q = RatO true (some (-(sqF (-y) (-x)))) w by rw [← simpF_neg HG.out hy0]; exact HQ.out)
    have P0 := hid (neg_pos' hy0)
    have P1 := hid (Rat.neg_le_neg (Rat.not_lt.1 HG.out))
    have S1 := hid (sgn_of_neg hy0)
    have S2 := hid (sgn_of_neg (x := x) (by by_cases e : x < 0; exact e; exact absurd (Rat.le_trans (Rat.not_lt.1 e) (Rat.not_lt.1 HG.out)) (Rat.not_le.2 hy0)))
    have hwa : IntKind.i64.wrap (-1) = -1 := by decide
    clear hy0
    go_enter Tryz.func26, Tryz.ntmps26
    have q0 := LX.out.c 0 (v := .bool s) rfl
    have q1 := LX.out.c 1 (v := .slice a n c) rfl
    have q2 := LX.out.c 2 (v := .slice b m d) rfl
    go_wp2_with fail
    rw [HW.out]
    (with_reducible refine (ok_some X.out).mono ?_)
    clear q0 q1 q2
    rintro e w1 ⟨rfl, hb⟩
    have LX := hid (LX.out.old hb)
    have LY := hid (LY.out.old hb)
    have LR := hid (LR.out.old hb)
    have X := hid (X.out.old hb)
    have Y := hid (Y.out.old hb)
    have B := hid (B.out.trans (hb.mono B.out.size))
    clear hb
    have q0 := LY.out.c 0 (v := .bool t) rfl
    have q1 := LY.out.c 1 (v := .slice a' n' c') rfl
    have q2 := LY.out.c 2 (v := .slice b' m' d') rfl
    go_wp2_with fail
    (with_reducible refine (ok_some Y.out).mono ?_)
    clear q0 q1 q2
    rintro e w2 ⟨rfl, hb⟩
    have LX := hid (LX.out.old hb)
    have LY := hid (LY.out.old hb)
    have LR := hid (LR.out.old hb)
    have X := hid (X.out.old hb)
    have Y := hid (Y.out.old hb)
    have B := hid (B.out.trans (hb.mono B.out.size))
    clear hb
    have q0 := LX.out.c 0 (v := .bool s) rfl
    have q1 := LX.out.c 1 (v := .slice a n c) rfl
    have q2 := LX.out.c 2 (v := .slice b m d) rfl
    have q3 := LY.out.c 0 (v := .bool t) rfl
    have q4 := LY.out.c 1 (v := .slice a' n' c') rfl
    have q5 := LY.out.c 2 (v := .slice b' m' d') rfl
    go_wp2_with fail
    (with_reducible refine (cmp_x X.out Y.out HZ.out).mono ?_)
    clear q0 q1 q2 q3 q4 q5
    rintro e w3 ⟨rfl, hb⟩
    have LX := hid (LX.out.old hb)
    have LY := hid (LY.out.old hb)
    have LR := hid (LR.out.old hb)
    have X := hid (X.out.old hb)
    have Y := hid (Y.out.old hb)
    have B := hid (B.out.trans (hb.mono B.out.size))
    clear hb
    have q0 := LY.out.c 0 (v := .bool t) rfl
    have q1 := LY.out.c 1 (v := .slice a' n' c') rfl
    have q2 := LY.out.c 2 (v := .slice b' m' d') rfl
    go_wp2_with fail
    (with_reducible refine (sign_x Y.out S1.out).mono ?_)
    clear q0 q1 q2
    rintro e w4 ⟨rfl, hb⟩
    have LX := hid (LX.out.old hb)
    have LY := hid (LY.out.old hb)
    have LR := hid (LR.out.old hb)
    have X := hid (X.out.old hb)
    have Y := hid (Y.out.old hb)
    have B := hid (B.out.trans (hb.mono B.out.size))
    clear hb
    go_wp2_with fail
    have LX := hid (LX.out.old (Below_drew1 (Below.refl _ _)))
    have LY := hid (LY.out.old (Below_drew1 (Below.refl _ _)))
    have LR := hid (LR.out.old (Below_drew1 (Below.refl _ _)))
    have X := hid (X.out.old (Below_drew1 (Below.refl _ _)))
    have Y := hid (Y.out.old (Below_drew1 (Below.refl _ _)))
    have B := hid (Below_drew1 B.out)
    have q0 := LY.out.c 0 (v := .bool t) rfl
    have q1 := LY.out.c 1 (v := .slice a' n' c') rfl
    have q2 := LY.out.c 2 (v := .slice b' m' d') rfl
    have q3 := LX.out.c 0 (v := .bool s) rfl
    have q4 := LX.out.c 1 (v := .slice a n c) rfl
    have q5 := LX.out.c 2 (v := .slice b m d) rfl
    have hlY := LY.out.lt
    have hlX := LX.out.lt
    go_region_held3 (fun w' => w'.cell? ⟨w.heap.size + 1, 0, none⟩ = some (.bool t) ∧ w'.cell? ⟨w.heap.size + 1, 1, none⟩ = some (.slice a' n' c') ∧ w'.cell? ⟨w.heap.size + 1, 2, none⟩ = some (.slice b' m' d') ∧ w'.cell? ⟨w.heap.size, 0, none⟩ = some (.bool s) ∧ w'.cell? ⟨w.heap.size, 1, none⟩ = some (.slice a n c) ∧ w'.cell? ⟨w.heap.size, 2, none⟩ = some (.slice b m d)) (first | with_reducible exact ⟨q0, q1, q2, q3, q4, q5⟩ | ((with_reducible refine ⟨(cell_set3 ?_).trans q0, (cell_set3 ?_).trans q1, (cell_set3 ?_).trans q2, (cell_set3 ?_).trans q3, (cell_set3 ?_).trans q4, (cell_set3 ?_).trans q5⟩) <;> omega) | go_keep) (first | (go_at_call 23; (with_reducible refine (neg_x Y.out).mono ?_); rintro e w5 ⟨s5, a5, n5, c5, b5, m5, d5, rfl, hr, hb⟩; have G := hid (hr.base B.out.size); have LX := hid (LX.out.old hb); have LY := hid (LY.out.old hb); have LR := hid (LR.out.old hb); have X := hid (X.out.old hb); have Y := hid (Y.out.old hb); have B := hid (B.out.trans (hb.mono B.out.size)); clear hr hb; have q0 := LY.out.c 0 (v := .bool t) rfl; have q1 := LY.out.c 1 (v := .slice a' n' c') rfl; have q2 := LY.out.c 2 (v := .slice b' m' d') rfl; have q3 := LX.out.c 0 (v := .bool s) rfl; have q4 := LX.out.c 1 (v := .slice a n c) rfl; have q5 := LX.out.c 2 (v := .slice b m d) rfl) | (go_at_call 23; (with_reducible refine (neg_x X.out).mono ?_); rintro e w6 ⟨s6, a6, n6, c6, b6, m6, d6, rfl, hr, hb⟩; have H := hid (hr.base B.out.size); have LX := hid (LX.out.old hb); have LY := hid (LY.out.old hb); have LR := hid (LR.out.old hb); have X := hid (X.out.old hb); have Y := hid (Y.out.old hb); have G := hid (G.out.old hb); have B := hid (B.out.trans (hb.mono B.out.size)); clear hr hb; have q0 := LY.out.c 0 (v := .bool t) rfl; have q1 := LY.out.c 1 (v := .slice a' n' c') rfl; have q2 := LY.out.c 2 (v := .slice b' m' d') rfl; have q3 := LX.out.c 0 (v := .bool s) rfl; have q4 := LX.out.c 1 (v := .slice a n c) rfl; have q5 := LX.out.c 2 (v := .slice b m d) rfl) | (go_at_call 26; (with_reducible refine (between_pos P0.out P1.out G.out.ra H.out.ra).mono ?_); rintro e w7 ⟨s7, a7, n7, c7, b7, m7, d7, rfl, hr, hb⟩; have S := hid (hr.base B.out.size); have LX := hid (LX.out.old hb); have LY := hid (LY.out.old hb); have LR := hid (LR.out.old hb); have X := hid (X.out.old hb); have Y := hid (Y.out.old hb); have G := hid (G.out.old hb); have H := hid (H.out.old hb); have B := hid (B.out.trans (hb.mono B.out.size)); clear hr hb; have q0 := LY.out.c 0 (v := .bool t) rfl; have q1 := LY.out.c 1 (v := .slice a' n' c') rfl; have q2 := LY.out.c 2 (v := .slice b' m' d') rfl; have q3 := LX.out.c 0 (v := .bool s) rfl; have q4 := LX.out.c 1 (v := .slice a n c) rfl; have q5 := LX.out.c 2 (v := .slice b m d) rfl) | (go_at_call 23; (with_reducible refine (neg_x S.out.ra).mono ?_); rintro e w8 ⟨s8, a8, n8, c8, b8, m8, d8, rfl, hr, hb⟩; have R1 := hid (hr.base B.out.size); have LX := hid (LX.out.old hb); have LY := hid (LY.out.old hb); have LR := hid (LR.out.old hb); have X := hid (X.out.old hb); have Y := hid (Y.out.old hb); have G := hid (G.out.old hb); have H := hid (H.out.old hb); have S := hid (S.out.old hb); have B := hid (B.out.trans (hb.mono B.out.size)); clear hr hb; have q0 := LY.out.c 0 (v := .bool t) rfl; have q1 := LY.out.c 1 (v := .slice a' n' c') rfl; have q2 := LY.out.c 2 (v := .slice b' m' d') rfl; have q3 := LX.out.c 0 (v := .bool s) rfl; have q4 := LX.out.c 1 (v := .slice a n c) rfl; have q5 := LX.out.c 2 (v := .slice b m d) rfl; have f0 := LR.out.f 0; have f1 := LR.out.f 1; have f2 := LR.out.f 2; have p0 := LR.out.c 0 rfl; have p1 := LR.out.c 1 rfl; have p2 := LR.out.c 2 rfl; have R := hid (q_of HQ.out (RO.out (w := w) (N := w.heap.size + 1 + 1) R1.out (Nat.le_refl _) (by omega) LR.out (by decide) B.out))))
    clear q0 q1 q2 q3 q4 q5
    go_wp2
    exact bodyPost_ret (v := .agg #[.bool s8, .slice a8 n8 c8, .slice b8 m8 d8]) (by simp [results, Tryz.results26, go_sem, p0, p1, p2]) rfl R.out
  by_cases hx0 : x ≤ 0
  · have HQ := hid (show Q = RatO true (some ((0 : Int) : Rat)) w by rw [← simpF_zero HG.out hy0 hx0]; exact HQ.out)
    have hs1 := sgn_nonneg hy0
    have hs2 := sgn_nonpos hx0
    obtain ⟨z1, hz1⟩ : ∃ z, z = sgn y.num := ⟨_, rfl⟩
    obtain ⟨z2, hz2⟩ : ∃ z, z = sgn x.num := ⟨_, rfl⟩
    rw [← hz1] at hs1
    rw [← hz2] at hs2
    have S1 := hid hz1.symm
    have S2 := hid hz2.symm
    have hs3 : ¬ z1 < 0 := by omega
    clear hz1 hz2 hy0 hx0
    go_enter Tryz.func26, Tryz.ntmps26
    have q0 := LX.out.c 0 (v := .bool s) rfl
    have q1 := LX.out.c 1 (v := .slice a n c) rfl
    have q2 := LX.out.c 2 (v := .slice b m d) rfl
    go_wp2_with fail
    rw [HW.out]
    (with_reducible refine (ok_some X.out).mono ?_)
    clear q0 q1 q2
    rintro e w1 ⟨rfl, hb⟩
    have LX := hid (LX.out.old hb)
    have LY := hid (LY.out.old hb)
    have LR := hid (LR.out.old hb)
    have X := hid (X.out.old hb)
    have Y := hid (Y.out.old hb)
    have B := hid (B.out.trans (hb.mono B.out.size))
    clear hb
    have q0 := LY.out.c 0 (v := .bool t) rfl
    have q1 := LY.out.c 1 (v := .slice a' n' c') rfl
    have q2 := LY.out.c 2 (v := .slice b' m' d') rfl
    go_wp2_with fail
    (with_reducible refine (ok_some Y.out).mono ?_)
    clear q0 q1 q2
    rintro e w2 ⟨rfl, hb⟩
    have LX := hid (LX.out.old hb)
    have LY := hid (LY.out.old hb)
    have LR := hid (LR.out.old hb)
    have X := hid (X.out.old hb)
    have Y := hid (Y.out.old hb)
    have B := hid (B.out.trans (hb.mono B.out.size))
    clear hb
    have q0 := LX.out.c 0 (v := .bool s) rfl
    have q1 := LX.out.c 1 (v := .slice a n c) rfl
    have q2 := LX.out.c 2 (v := .slice b m d) rfl
    have q3 := LY.out.c 0 (v := .bool t) rfl
    have q4 := LY.out.c 1 (v := .slice a' n' c') rfl
    have q5 := LY.out.c 2 (v := .slice b' m' d') rfl
    go_wp2_with fail
    (with_reducible refine (cmp_x X.out Y.out HZ.out).mono ?_)
    clear q0 q1 q2 q3 q4 q5
    rintro e w3 ⟨rfl, hb⟩
    have LX := hid (LX.out.old hb)
    have LY := hid (LY.out.old hb)
    have LR := hid (LR.out.old hb)
    have X := hid (X.out.old hb)
    have Y := hid (Y.out.old hb)
    have B := hid (B.out.trans (hb.mono B.out.size))
    clear hb
    have q0 := LY.out.c 0 (v := .bool t) rfl
    have q1 := LY.out.c 1 (v := .slice a' n' c') rfl
    have q2 := LY.out.c 2 (v := .slice b' m' d') rfl
    go_wp2_with fail
    (with_reducible refine (sign_x Y.out S1.out).mono ?_)
    clear q0 q1 q2
    rintro e w4 ⟨rfl, hb⟩
    have LX := hid (LX.out.old hb)
    have LY := hid (LY.out.old hb)
    have LR := hid (LR.out.old hb)
    have X := hid (X.out.old hb)
    have Y := hid (Y.out.old hb)
    have B := hid (B.out.trans (hb.mono B.out.size))
    clear hb
    have q0 := LX.out.c 0 (v := .bool s) rfl
    have q1 := LX.out.c 1 (v := .slice a n c) rfl
    have q2 := LX.out.c 2 (v := .slice b m d) rfl
    go_wp2_with fail
    (with_reducible refine (sign_x X.out S2.out).mono ?_)
    clear q0 q1 q2
    rintro e w5 ⟨rfl, hb⟩
    have LX := hid (LX.out.old hb)
    have LY := hid (LY.out.old hb)
    have LR := hid (LR.out.old hb)
    have X := hid (X.out.old hb)
    have Y := hid (Y.out.old hb)
    have B := hid (B.out.trans (hb.mono B.out.size))
    clear hb
    go_wp2_with fail
    (with_reducible refine (int_o 0 (by decide) (by decide) _).mono ?_)
    rintro e w6 ⟨s6, a6, n6, c6, b6, m6, d6, rfl, hr, hb⟩
    have R1 := hid (hr.base B.out.size)
    have LX := hid (LX.out.old hb)
    have LY := hid (LY.out.old hb)
    have LR := hid (LR.out.old hb)
    have X := hid (X.out.old hb)
    have Y := hid (Y.out.old hb)
    have B := hid (B.out.trans (hb.mono B.out.size))
    clear hr hb
    have f0 := LR.out.f 0
    have f1 := LR.out.f 1
    have f2 := LR.out.f 2
    have p0 := LR.out.c 0 rfl
    have p1 := LR.out.c 1 rfl
    have p2 := LR.out.c 2 rfl
    have R := hid (q_of HQ.out (RO.out (w := w) (N := w.heap.size + 1 + 1) R1.out (Nat.le_refl _) (by omega) LR.out (by decide) B.out))
    go_wp2
    exact bodyPost_ret (v := .agg #[.bool s6, .slice a6 n6 c6, .slice b6 m6 d6]) (by simp [results, Tryz.results26, go_sem, p0, p1, p2]) rfl R.out
  · have HQ := hid (show Q = RatO true (some (sqF x y)) w by rw [← simpF_pos HG.out hy0 hx0]; exact HQ.out)
    have P0 := hid (Rat.not_le.1 hx0)
    have P1 := hid (Rat.not_lt.1 HG.out)
    have hng2 := hng
    have S1 := hid (sgn_of_pos (lt_le P0.out P1.out))
    have S2 := hid (sgn_of_pos P0.out)
    clear hx0 hy0
    go_enter Tryz.func26, Tryz.ntmps26
    have q0 := LX.out.c 0 (v := .bool s) rfl
    have q1 := LX.out.c 1 (v := .slice a n c) rfl
    have q2 := LX.out.c 2 (v := .slice b m d) rfl
    go_wp2_with fail
    rw [HW.out]
    (with_reducible refine (ok_some X.out).mono ?_)
    clear q0 q1 q2
    rintro e w1 ⟨rfl, hb⟩
    have LX := hid (LX.out.old hb)
    have LY := hid (LY.out.old hb)
    have LR := hid (LR.out.old hb)
    have X := hid (X.out.old hb)
    have Y := hid (Y.out.old hb)
    have B := hid (B.out.trans (hb.mono B.out.size))
    clear hb
    have q0 := LY.out.c 0 (v := .bool t) rfl
    have q1 := LY.out.c 1 (v := .slice a' n' c') rfl
    have q2 := LY.out.c 2 (v := .slice b' m' d') rfl
    go_wp2_with fail
    (with_reducible refine (ok_some Y.out).mono ?_)
    clear q0 q1 q2
    rintro e w2 ⟨rfl, hb⟩
    have LX := hid (LX.out.old hb)
    have LY := hid (LY.out.old hb)
    have LR := hid (LR.out.old hb)
    have X := hid (X.out.old hb)
    have Y := hid (Y.out.old hb)
    have B := hid (B.out.trans (hb.mono B.out.size))
    clear hb
    have q0 := LX.out.c 0 (v := .bool s) rfl
    have q1 := LX.out.c 1 (v := .slice a n c) rfl
    have q2 := LX.out.c 2 (v := .slice b m d) rfl
    have q3 := LY.out.c 0 (v := .bool t) rfl
    have q4 := LY.out.c 1 (v := .slice a' n' c') rfl
    have q5 := LY.out.c 2 (v := .slice b' m' d') rfl
    go_wp2_with fail
    (with_reducible refine (cmp_x X.out Y.out HZ.out).mono ?_)
    clear q0 q1 q2 q3 q4 q5
    rintro e w3 ⟨rfl, hb⟩
    have LX := hid (LX.out.old hb)
    have LY := hid (LY.out.old hb)
    have LR := hid (LR.out.old hb)
    have X := hid (X.out.old hb)
    have Y := hid (Y.out.old hb)
    have B := hid (B.out.trans (hb.mono B.out.size))
    clear hb
    have q0 := LY.out.c 0 (v := .bool t) rfl
    have q1 := LY.out.c 1 (v := .slice a' n' c') rfl
    have q2 := LY.out.c 2 (v := .slice b' m' d') rfl
    go_wp2_with fail
    (with_reducible refine (sign_x Y.out S1.out).mono ?_)
    clear q0 q1 q2
    rintro e w4 ⟨rfl, hb⟩
    have LX := hid (LX.out.old hb)
    have LY := hid (LY.out.old hb)
    have LR := hid (LR.out.old hb)
    have X := hid (X.out.old hb)
    have Y := hid (Y.out.old hb)
    have B := hid (B.out.trans (hb.mono B.out.size))
    clear hb
    have q0 := LX.out.c 0 (v := .bool s) rfl
    have q1 := LX.out.c 1 (v := .slice a n c) rfl
    have q2 := LX.out.c 2 (v := .slice b m d) rfl
    go_wp2_with fail
    (with_reducible refine (sign_x X.out S2.out).mono ?_)
    clear q0 q1 q2
    rintro e w5 ⟨rfl, hb⟩
    have LX := hid (LX.out.old hb)
    have LY := hid (LY.out.old hb)
    have LR := hid (LR.out.old hb)
    have X := hid (X.out.old hb)
    have Y := hid (Y.out.old hb)
    have B := hid (B.out.trans (hb.mono B.out.size))
    clear hb
    have q0 := LX.out.c 0 (v := .bool s) rfl
    have q1 := LX.out.c 1 (v := .slice a n c) rfl
    have q2 := LX.out.c 2 (v := .slice b m d) rfl
    have q3 := LY.out.c 0 (v := .bool t) rfl
    have q4 := LY.out.c 1 (v := .slice a' n' c') rfl
    have q5 := LY.out.c 2 (v := .slice b' m' d') rfl
    go_wp2_with fail
    (with_reducible refine (simplest_x X.out Y.out P0.out P1.out).mono ?_)
    clear q0 q1 q2 q3 q4 q5
    rintro e w6 ⟨a6, n6, c6, b6, m6, d6, rfl, hr, hb⟩
    have G := hid (hr.base B.out.size)
    have LX := hid (LX.out.old hb)
    have LY := hid (LY.out.old hb)
    have LR := hid (LR.out.old hb)
    have X := hid (X.out.old hb)
    have Y := hid (Y.out.old hb)
    have B := hid (B.out.trans (hb.mono B.out.size))
    clear hr hb
    have f0 := LR.out.f 0
    have f1 := LR.out.f 1
    have f2 := LR.out.f 2
    have p0 := LR.out.c 0 rfl
    have p1 := LR.out.c 1 rfl
    have p2 := LR.out.c 2 rfl
    have R := hid (q_of HQ.out (RO.out (w := w) (N := w.heap.size + 1 + 1) G.out (Nat.le_refl _) (by omega) LR.out (by decide) B.out))
    go_wp2
    exact bodyPost_ret (v := .agg #[.bool false, .slice a6 n6 c6, .slice b6 m6 d6]) (by simp [results, Tryz.results26, go_sem, p0, p1, p2]) rfl R.out
theorem between_o {w : World} {s : Bool} {v u : Value} {t : Bool} {v' u' : Value} {o : Option Rat} {o' : Option Rat}  (h : RA w s v u o) (h' : RA w t v' u' o') : Calls Tryz.prog 26 #[.agg #[.bool s, v, u], .agg #[.bool t, v', u']] w (RatO true (bq simpF o o') w) := by
  obtain ⟨a, n, c, b, m, d, rfl, rfl⟩ := h.form
  obtain ⟨a', n', c', b', m', d', rfl, rfl⟩ := h'.form
  exact between_o_w  w h h'
end Go.Proofs.YtookglpeieennaaGreat
