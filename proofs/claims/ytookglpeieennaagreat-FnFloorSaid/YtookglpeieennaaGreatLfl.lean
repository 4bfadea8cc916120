/- The functions of chapter 6 at valid fractions; the walk of the law FnFloor. -/
import Derived.Test.YtookglpeieennaaGreatFlm
import Derived.Test.YtookglpeieennaaGreatMtu
import Derived.Deep.RegionHeld3
import Derived.Deep.DeepCutAuto
namespace Go.Proofs.YtookglpeieennaaGreat
open Go.RowKit
open Go.Lib (hid)
set_option linter.unusedVariables false

theorem neg_pos' {y : Rat} (h : y < 0) : 0 < -y := by have := Rat.neg_lt_neg_iff.2 h; rwa [Rat.neg_zero] at this
theorem sgn_num (x : Rat) : sgn x.num = cmpF x 0 := by
  have := cmpF_sub x 0
  rw [show x - 0 = x by rw [Rat.sub_eq_add_neg, Rat.neg_zero, Rat.add_zero]] at this
  exact this
theorem sgn_nonneg {x : Rat} (h : ¬ x < 0) : 0 ≤ sgn x.num := by
  rw [sgn_num]
  rcases cmpF_cases x 0 with ⟨e, e'⟩ | ⟨e, -⟩ | ⟨e, -⟩
  · exact absurd e' h
  · omega
  · omega
theorem cmp_ngt {x y : Rat} (h : ¬ y < x) : ¬ 0 < cmpF x y := by
  rcases cmpF_cases x y with ⟨e, -⟩ | ⟨e, -⟩ | ⟨e, e'⟩
  · omega
  · omega
  · exact absurd e' h
theorem cmp_x {w : World} {s t : Bool} {v u v' u' : Value} {x y : Rat} {z : Int} (h : RA w s v u (some x)) (h' : RA w t v' u' (some y)) (hz : cmpF x y = z) : Calls Tryz.prog 16 #[.agg #[.bool s, v, u], .agg #[.bool t, v', u']] w (RetB (.int .i64 z) w) := by
  subst hz; exact cmp_o h h'
theorem sign_x {w : World} {s : Bool} {v u : Value} {x : Rat} {z : Int} (h : RA w s v u (some x)) (hz : sgn x.num = z) : Calls Tryz.prog 19 #[.agg #[.bool s, v, u]] w (RetB (.int .i64 z) w) := by
  subst hz; exact sign_o h
theorem neg_x {w : World} {s : Bool} {v u : Value} {x : Rat} (h : RA w s v u (some x)) : Calls Tryz.prog 23 #[.agg #[.bool s, v, u]] w (RatO true (some (-x)) w) := neg_o h
theorem gzl_nat {z : Int} (h0 : 0 ≤ z) (h : z < pw 24) : gzl z = rep z.toNat := by
  have := pw24_60
  unfold gzl
  rw [show ((z.natAbs : Nat) : Int) = z by omega, capped_of (by omega)]
theorem cmp_gt {x y : Rat} (h : y < x) : cmpF x y = 1 := by
  have : ¬ x < y := fun e => (Rat.lt_iff_le_and_not_ge.1 h).2 (Rat.le_of_lt e)
  simp [cmpF, h, this]

/-- One half. -/
def half : Rat := Rat.divInt 1 2
theorem half_parts : half.num = 1 ∧ half.den = 2 := by
  have h := frq_parts (r := (1, 2)) (by decide) (by decide)
  exact ⟨h.1, h.2⟩
theorem szq_half : szq half 1 := ⟨by rw [half_parts.1]; decide, by rw [half_parts.2]; decide⟩
theorem mk_half : mkFr 1 2 = some half := by
  unfold mkFr
  rw [if_neg (by decide)]
  exact capF_yes (szq_fit szq_half (by decide))
theorem half_two : half + half = 1 := by
  unfold half
  rw [Rat.divInt_add_divInt _ _ (by decide) (by decide)]
  rfl
theorem flF_le (x : Rat) : flF x ≤ x := Rat.floor_le x
theorem flF_lt (x : Rat) : x < flF x + 1 := by
  have := Rat.lt_floor_add_one x
  rw [Rat.intCast_add] at this
  exact this
theorem le_ceF (x : Rat) : x ≤ ceF x := Rat.le_ceil
theorem sub_le_iff {x y z : Rat} : x - y ≤ z ↔ x ≤ z + y := by
  rw [Rat.sub_eq_add_neg]
  constructor
  · intro h
    have := (Rat.add_le_add_right (c := y)).2 h
    rwa [Rat.add_assoc, Rat.neg_add_cancel, Rat.add_zero] at this
  · intro h
    have := (Rat.add_le_add_right (c := -y)).2 h
    rwa [Rat.add_assoc z y (-y), Rat.add_neg_cancel, Rat.add_zero] at this
theorem sub_lt_iff {x y z : Rat} : x - y < z ↔ x < z + y := by
  rw [Rat.sub_eq_add_neg]
  constructor
  · intro h
    have := (Rat.add_lt_add_right (c := y)).2 h
    rwa [Rat.add_assoc, Rat.neg_add_cancel, Rat.add_zero] at this
  · intro h
    have := (Rat.add_lt_add_right (c := -y)).2 h
    rwa [Rat.add_assoc z y (-y), Rat.add_neg_cancel, Rat.add_zero] at this
theorem maxF_le {x y z : Rat} (h : x ≤ z) (h' : y ≤ z) : maxF x y ≤ z := by
  unfold maxF
  split
  · exact h'
  · exact h
/-- A fraction is no farther from the nearest integer than one half. -/
theorem dist_le (x : Rat) : maxF (x - flF (x + half)) (-(x - flF (x + half))) ≤ half := by
  have h1 := flF_le (x + half)
  have h2 := flF_lt (x + half)
  obtain ⟨n, hn⟩ : ∃ n, n = flF (x + half) := ⟨_, rfl⟩
  rw [← hn] at h1 h2 ⊢
  refine maxF_le ?_ ?_
  · rw [sub_le_iff, Rat.add_comm]
    have h3 : x + half < (n + half) + half := by rw [Rat.add_assoc, half_two]; exact h2
    exact Rat.le_of_lt (Rat.add_lt_add_right.1 h3)
  · rw [Rat.neg_sub, sub_le_iff, Rat.add_comm]
    exact h1
theorem floor_ceil (x : Rat) : flF x = ceF x ↔ x.den = 1 := by
  constructor
  · intro h
    have h1 := flF_le x
    have h2 := le_ceF x
    rw [← h] at h2
    rw [Rat.le_antisymm h2 h1]
    exact flF_den x
  · intro h
    have e : x = ((x.num : Int) : Rat) := Rat.ext rfl (by rw [Rat.den_intCast]; exact h)
    unfold flF ceF
    rw [e, Rat.floor_intCast, Rat.ceil_intCast]
theorem frac_lt (x : Rat) : x - flF x < ((1 : Int) : Rat) := by
  rw [sub_lt_iff, Rat.add_comm]
  exact flF_lt x
theorem frac_nonneg (x : Rat) : ¬ x - flF x < 0 := by
  intro h
  rw [sub_lt_iff, Rat.zero_add] at h
  exact (Rat.lt_iff_le_and_not_ge.1 h).2 (flF_le x)
theorem add_frac (x : Rat) : flF x + (x - flF x) = x := by rw [Rat.add_comm, Rat.sub_add_cancel]
theorem cmp_lt {x y : Rat} (h : x < y) : cmpF x y = -1 := by simp [cmpF, h]
theorem szq_fl {x : Rat} {k : Nat} (h : szq x k) : szq (flF x) k := by
  refine ⟨?_, ?_⟩
  · rw [flF_num]
    have := Int.natAbs_ediv_le_natAbs x.num x.den
    have := h.1
    omega
  · rw [flF_den]
    have := h.2
    have := x.den_pos
    omega
/-! The functions at valid fractions. -/
theorem floor_x {w : World} {s : Bool} {v u : Value} {x : Rat} (h : RA w s v u (some x)) : Calls Tryz.prog 11 #[.agg #[.bool s, v, u]] w (RatO true (some (flF x)) w) := floor_o h
theorem ceil_x {w : World} {s : Bool} {v u : Value} {x : Rat} (h : RA w s v u (some x)) : Calls Tryz.prog 12 #[.agg #[.bool s, v, u]] w (RatO true (some (ceF x)) w) := ceil_o h
theorem near_val {x : Rat} (hf : fit (x + half)) : nearO (some x) = some (flF (x + half)) := by
  show floorO (bq addF (some x) (mkFr 1 2)) = _
  rw [mk_half, bq_some]
  unfold addF
  rw [capF_yes hf]
  rfl
theorem near_x {w : World} {s : Bool} {v u : Value} {x : Rat} (h : RA w s v u (some x)) (hf : fit (x + half)) : Calls Tryz.prog 13 #[.agg #[.bool s, v, u]] w (RatO true (some (flF (x + half))) w) :=
  (near_o h).mono fun e w' hh => hh.eqo (near_val hf)
theorem frac_x {w : World} {s : Bool} {v u : Value} {x : Rat} (h : RA w s v u (some x)) (hf : fit (x - flF x)) : Calls Tryz.prog 18 #[.agg #[.bool s, v, u]] w (RatO true (some (x - flF x)) w) :=
  (frac_o h).mono fun e w' hh => hh.eqo (by show bq subF (some x) (some (flF x)) = _; rw [bq_some]; unfold subF; exact capF_yes hf)
theorem dist_x {w : World} {s : Bool} {v u : Value} {x d : Rat} (h : RA w s v u (some x)) (hf : fit (x + half)) (hg : fit (x - flF (x + half))) (hd : maxF (x - flF (x + half)) (-(x - flF (x + half))) = d) : Calls Tryz.prog 17 #[.agg #[.bool s, v, u]] w (RatO true (some d) w) :=
  (dist_o h).mono fun e w' hh => hh.eqo (by
    subst hd
    show absO (bq subF (some x) (nearO (some x))) = _
    rw [near_val hf, bq_some]
    unfold subF
    rw [capF_yes hg]
    rfl)
theorem one_x (w : World) : Calls Tryz.prog 14 #[.int .i64 1] w (RatO true (some ((1 : Int) : Rat)) w) := int_o 1 (by decide) (by decide) w
theorem half_x (w : World) : Calls Tryz.prog 22 #[.int .i64 1, .int .i64 2] w (RatO true (some half) w) :=
  (of_o 1 2 (by decide) (by decide) (by decide) (by decide) w).mono fun e w' hh => hh.eqo mk_half
theorem isint_x {w : World} {s : Bool} {v u : Value} {x : Rat} {p : Bool} (h : RA w s v u (some x)) (hp : decide (x.den = 1) = p) : Calls Tryz.prog 15 #[.agg #[.bool s, v, u]] w (RetB (.bool p) w) := by
  have hf := h.fitO x rfl
  obtain ⟨A, D, r, e⟩ := h
  obtain ⟨-, -, e2⟩ := rval_lists e
  have hr : rok s A D = true := by rw [rok_isSome, e]; rfl
  have hh := impl_RatIsInt s v u A D w r
  have f2 := hf.2
  rw [gzl_nat (by omega) f2] at e2
  rw [hr, Bool.true_and, show decide (D = [1]) = p from by rw [← hp, ← e2]; exact decide_eq_decide.2 rep_one] at hh
  exact hh
theorem add_x {w : World} {s t : Bool} {v u v' u' : Value} {x y z : Rat} (h : RA w s v u (some x)) (h' : RA w t v' u' (some y)) (hz : x + y = z) (hf : fit z) : Calls Tryz.prog 21 #[.agg #[.bool s, v, u], .agg #[.bool t, v', u']] w (RatO true (some z) w) :=
  (add_o h h').mono fun e w' hh => hh.eqo (by subst hz; rw [bq_some]; unfold addF; exact capF_yes hf)
theorem eqs_x {w : World} {s t : Bool} {v u v' u' : Value} {x : Rat} (h : RA w s v u (some x)) (h' : RA w t v' u' (some x)) : Calls Tryz.prog 20 #[.agg #[.bool s, v, u], .agg #[.bool t, v', u']] w (RetB (.bool true) w) := eq_rat h.x h'.x (decide_eq_true rfl)
theorem eq_x {w : World} {s t : Bool} {v u v' u' : Value} {x y : Rat} {p : Bool} (h : RA w s v u (some x)) (h' : RA w t v' u' (some y)) (hz : decide (x = y) = p) : Calls Tryz.prog 20 #[.agg #[.bool s, v, u], .agg #[.bool t, v', u']] w (RetB (.bool p) w) := eq_rat h.x h'.x hz
theorem eqn_x {w : World} {s t : Bool} {v u v' u' : Value} {x y : Rat} (h : RA w s v u (some x)) (h' : RA w t v' u' (some y)) (hz : x = y) : Calls Tryz.prog 20 #[.agg #[.bool s, v, u], .agg #[.bool t, v', u']] w (RetB (.bool true) w) := by
  subst hz; exact eqs_x h h'

set_option maxRecDepth 100000 in
set_option maxHeartbeats 25600000 in
theorem law_FnFloor (a : Option Addr) (n c : Nat) (Z : List Int) (hn : n ≤ maxLen) (w : World) (hr : ByteRow w a n Z) :
    Calls Tryz.prog 3 #[.slice a n c] w fun e w' => e = .returned (.bool true) ∧ Below w.heap.size w w' := by
  unfold maxLen at hn
  by_cases hA : 1048576 < (n : Int)
  · go_enter Tryz.func3, Tryz.ntmps3
    go_wp2
    go_ret
    exact ⟨rfl, Below.refl _ _⟩
  have hZ : Z.length ≤ 1048576 := by have := hr.1; omega
  have KM := hid (fun (W : World) (h : ByteRow W a n Z) (t : Int) t0 t1 => MakeRat_any a n c Z t hZ W h t0 t1)
  have RW := hid hr
  have B := hid (Below.refl w.heap.size w)
  clear hr
  go_enter Tryz.func3, Tryz.ntmps3
  go_wp2_with fail
  (with_reducible refine (KM.out _ RW.out 1 (by decide) (by decide)).mono ?_)
  rintro e w1 ⟨x, v1, u1, hx, rfl, i1, i2, hb⟩
  have Sx := hid hx
  have RW := hid (ByteRow_below RW.out hb)
  have X := hid (RA.of_x (RatX_of i1 i2 (szq_fit hx (by decide))))
  have B := hid (B.out.trans (hb.mono B.out.size))
  obtain ⟨a1, c1, rfl, -⟩ := Ints_form i1
  obtain ⟨b1, d1, rfl, -⟩ := Ints_form i2
  obtain ⟨s1, hs1⟩ : ∃ zz, zz = gzs x.num := ⟨_, rfl⟩
  obtain ⟨n1, hn1⟩ : ∃ zz, zz = (gzl x.num).length := ⟨_, rfl⟩
  obtain ⟨m1, hm1⟩ : ∃ zz, zz = (gzl (x.den : Int)).length := ⟨_, rfl⟩
  rw [← hs1, ← hn1, ← hm1] at X
  rw [← hs1]
  try rw [← hn1]
  try rw [← hm1]
  clear i1 i2 hb hx hs1 hn1 hm1
  have X := hid (X.out.old (below_new' (o := .cells #[.bool s1, .slice a1 n1 c1, .slice b1 m1 d1] 27)))
  have RW := hid (ByteRow_below RW.out (below_new' (o := .cells #[.bool s1, .slice a1 n1 c1, .slice b1 m1 d1] 27)))
  have B := hid (B.out.alloc B.out.size (.cells #[.bool s1, .slice a1 n1 c1, .slice b1 m1 d1] 27))
  have LX := hid (LocA.new (w := w1) (T := 27) (cs := #[.bool s1, .slice a1 n1 c1, .slice b1 m1 d1]))
  clear KM
  have sx := Sx.out
  have f1 := hid (szq_fit (szq_sub sx (szq_fl sx)) (by decide))
  have f2 := hid (szq_fit (szq_add sx szq_half) (by decide))
  have f3 := hid (szq_fit (szq_sub sx (szq_fl (szq_add sx szq_half))) (by decide))
  have f4 := hid (szq_fit sx (by decide))
  have D1 := hid (decide_eq_true (flF_den x))
  have D2 := hid (decide_eq_true (show (ceF x).den = 1 from Rat.den_intCast _))
  have D3 := hid (decide_eq_true (flF_den (x + half)))
  have hz1 := cmp_ngt (Rat.not_lt.2 (flF_le x))
  have hz2 := cmp_ngt (Rat.not_lt.2 (le_ceF x))
  have EC := hid (cmp_lt (frac_lt x))
  have hz3 := sgn_nonneg (frac_nonneg x)
  have EA := hid (add_frac x)
  obtain ⟨dd, hdd⟩ : ∃ d, d = maxF (x - flF (x + half)) (-(x - flF (x + half))) := ⟨_, rfl⟩
  have HD := hid hdd.symm
  have hz4 := cmp_ngt (Rat.not_lt.2 (show dd ≤ half by rw [hdd]; exact dist_le x))
  have EN := hid (show -flF (-x) = ceF x from (ce_neg x).symm)
  obtain ⟨p, hp⟩ : ∃ p, p = decide (x.den = 1) := ⟨_, rfl⟩
  have EP := hid (show decide (flF x = ceF x) = p by rw [hp]; exact decide_eq_decide.2 (floor_ceil x))
  have HP := hid hp.symm
  obtain ⟨z1, h1⟩ : ∃ z, z = cmpF (flF x) x := ⟨_, rfl⟩
  obtain ⟨z2, h2⟩ : ∃ z, z = cmpF x (ceF x) := ⟨_, rfl⟩
  obtain ⟨z3, h3⟩ : ∃ z, z = sgn (x - flF x).num := ⟨_, rfl⟩
  obtain ⟨z4, h4⟩ : ∃ z, z = cmpF dd half := ⟨_, rfl⟩
  rw [← h1] at hz1
  rw [← h2] at hz2
  rw [← h3] at hz3
  rw [← h4] at hz4
  have H1 := hid h1.symm
  have H2 := hid h2.symm
  have H3 := hid h3.symm
  have H4 := hid h4.symm
  have hz5 : z4 ≤ 0 := by omega
  have hwa : IntKind.i64.wrap (-1) = -1 := by decide
  clear sx hdd hp h1 h2 h3 h4 hz4
  have q0 := LX.out.c 0 (v := .bool s1) rfl
  have q1 := LX.out.c 1 (v := .slice a1 n1 c1) rfl
  have q2 := LX.out.c 2 (v := .slice b1 m1 d1) rfl
  go_wp2_with fail
  (with_reducible refine (floor_x X.out).mono ?_)
  clear q0 q1 q2
  rintro e w2 ⟨s2, a2, n2, c2, b2, m2, d2, rfl, hr, hb⟩
  have F := hid (hr.base B.out.size)
  have X := hid (X.out.old hb)
  have LX := hid (LX.out.old hb)
  have B := hid (B.out.trans (hb.mono B.out.size))
  clear hr hb
  have X := hid (X.out.old (below_new' (o := .cells #[.bool s2, .slice a2 n2 c2, .slice b2 m2 d2] 27)))
  have LX := hid (LX.out.old (below_new' (o := .cells #[.bool s2, .slice a2 n2 c2, .slice b2 m2 d2] 27)))
  have F := hid (F.out.old (below_new' (o := .cells #[.bool s2, .slice a2 n2 c2, .slice b2 m2 d2] 27)))
  have RW := hid (ByteRow_below RW.out (below_new' (o := .cells #[.bool s2, .slice a2 n2 c2, .slice b2 m2 d2] 27)))
  have B := hid (B.out.alloc B.out.size (.cells #[.bool s2, .slice a2 n2 c2, .slice b2 m2 d2] 27))
  have LF := hid (LocA.new (w := w2) (T := 27) (cs := #[.bool s2, .slice a2 n2 c2, .slice b2 m2 d2]))
  have q0 := LX.out.c 0 (v := .bool s1) rfl
  have q1 := LX.out.c 1 (v := .slice a1 n1 c1) rfl
  have q2 := LX.out.c 2 (v := .slice b1 m1 d1) rfl
  go_wp2_with fail
  (with_reducible refine (ceil_x X.out).mono ?_)
  clear q0 q1 q2
  rintro e w3 ⟨s3, a3, n3, c3, b3, m3, d3, rfl, hr, hb⟩
  have E := hid (hr.base B.out.size)
  have X := hid (X.out.old hb)
  have LX := hid (LX.out.old hb)
  have F := hid (F.out.old hb)
  have LF := hid (LF.out.old hb)
  have B := hid (B.out.trans (hb.mono B.out.size))
  clear hr hb
  have X := hid (X.out.old (below_new' (o := .cells #[.bool s3, .slice a3 n3 c3, .slice b3 m3 d3] 27)))
  have LX := hid (LX.out.old (below_new' (o := .cells #[.bool s3, .slice a3 n3 c3, .slice b3 m3 d3] 27)))
  have F := hid (F.out.old (below_new' (o := .cells #[.bool s3, .slice a3 n3 c3, .slice b3 m3 d3] 27)))
  have LF := hid (LF.out.old (below_new' (o := .cells #[.bool s3, .slice a3 n3 c3, .slice b3 m3 d3] 27)))
  have E := hid (E.out.old (below_new' (o := .cells #[.bool s3, .slice a3 n3 c3, .slice b3 m3 d3] 27)))
  have RW := hid (ByteRow_below RW.out (below_new' (o := .cells #[.bool s3, .slice a3 n3 c3, .slice b3 m3 d3] 27)))
  have B := hid (B.out.alloc B.out.size (.cells #[.bool s3, .slice a3 n3 c3, .slice b3 m3 d3] 27))
  have LE := hid (LocA.new (w := w3) (T := 27) (cs := #[.bool s3, .slice a3 n3 c3, .slice b3 m3 d3]))
  have q0 := LX.out.c 0 (v := .bool s1) rfl
  have q1 := LX.out.c 1 (v := .slice a1 n1 c1) rfl
  have q2 := LX.out.c 2 (v := .slice b1 m1 d1) rfl
  go_wp2_with fail
  (with_reducible refine (near_x X.out f2.out).mono ?_)
  clear q0 q1 q2
  rintro e w4 ⟨s4, a4, n4, c4, b4, m4, d4, rfl, hr, hb⟩
  have N := hid (hr.base B.out.size)
  have X := hid (X.out.old hb)
  have LX := hid (LX.out.old hb)
  have F := hid (F.out.old hb)
  have LF := hid (LF.out.old hb)
  have E := hid (E.out.old hb)
  have LE := hid (LE.out.old hb)
  have B := hid (B.out.trans (hb.mono B.out.size))
  clear hr hb
  have X := hid (X.out.old (below_new' (o := .cells #[.bool s4, .slice a4 n4 c4, .slice b4 m4 d4] 27)))
  have LX := hid (LX.out.old (below_new' (o := .cells #[.bool s4, .slice a4 n4 c4, .slice b4 m4 d4] 27)))
  have F := hid (F.out.old (below_new' (o := .cells #[.bool s4, .slice a4 n4 c4, .slice b4 m4 d4] 27)))
  have LF := hid (LF.out.old (below_new' (o := .cells #[.bool s4, .slice a4 n4 c4, .slice b4 m4 d4] 27)))
  have E := hid (E.out.old (below_new' (o := .cells #[.bool s4, .slice a4 n4 c4, .slice b4 m4 d4] 27)))
  have LE := hid (LE.out.old (below_new' (o := .cells #[.bool s4, .slice a4 n4 c4, .slice b4 m4 d4] 27)))
  have N := hid (N.out.old (below_new' (o := .cells #[.bool s4, .slice a4 n4 c4, .slice b4 m4 d4] 27)))
  have RW := hid (ByteRow_below RW.out (below_new' (o := .cells #[.bool s4, .slice a4 n4 c4, .slice b4 m4 d4] 27)))
  have B := hid (B.out.alloc B.out.size (.cells #[.bool s4, .slice a4 n4 c4, .slice b4 m4 d4] 27))
  have LN := hid (LocA.new (w := w4) (T := 27) (cs := #[.bool s4, .slice a4 n4 c4, .slice b4 m4 d4]))
  go_wp2_with fail
  (with_reducible refine (one_x _).mono ?_)
  rintro e w5 ⟨s5, a5, n5, c5, b5, m5, d5, rfl, hr, hb⟩
  have O1 := hid (hr.base B.out.size)
  have X := hid (X.out.old hb)
  have LX := hid (LX.out.old hb)
  have F := hid (F.out.old hb)
  have LF := hid (LF.out.old hb)
  have E := hid (E.out.old hb)
  have LE := hid (LE.out.old hb)
  have N := hid (N.out.old hb)
  have LN := hid (LN.out.old hb)
  have B := hid (B.out.trans (hb.mono B.out.size))
  clear hr hb
  have X := hid (X.out.old (below_new' (o := .cells #[.bool s5, .slice a5 n5 c5, .slice b5 m5 d5] 27)))
  have LX := hid (LX.out.old (below_new' (o := .cells #[.bool s5, .slice a5 n5 c5, .slice b5 m5 d5] 27)))
  have F := hid (F.out.old (below_new' (o := .cells #[.bool s5, .slice a5 n5 c5, .slice b5 m5 d5] 27)))
  have LF := hid (LF.out.old (below_new' (o := .cells #[.bool s5, .slice a5 n5 c5, .slice b5 m5 d5] 27)))
  have E := hid (E.out.old (below_new' (o := .cells #[.bool s5, .slice a5 n5 c5, .slice b5 m5 d5] 27)))
  have LE := hid (LE.out.old (below_new' (o := .cells #[.bool s5, .slice a5 n5 c5, .slice b5 m5 d5] 27)))
  have N := hid (N.out.old (below_new' (o := .cells #[.bool s5, .slice a5 n5 c5, .slice b5 m5 d5] 27)))
  have LN := hid (LN.out.old (below_new' (o := .cells #[.bool s5, .slice a5 n5 c5, .slice b5 m5 d5] 27)))
  have O1 := hid (O1.out.old (below_new' (o := .cells #[.bool s5, .slice a5 n5 c5, .slice b5 m5 d5] 27)))
  have RW := hid (ByteRow_below RW.out (below_new' (o := .cells #[.bool s5, .slice a5 n5 c5, .slice b5 m5 d5] 27)))
  have B := hid (B.out.alloc B.out.size (.cells #[.bool s5, .slice a5 n5 c5, .slice b5 m5 d5] 27))
  have LO1 := hid (LocA.new (w := w5) (T := 27) (cs := #[.bool s5, .slice a5 n5 c5, .slice b5 m5 d5]))
  have q0 := LF.out.c 0 (v := .bool s2) rfl
  have q1 := LF.out.c 1 (v := .slice a2 n2 c2) rfl
  have q2 := LF.out.c 2 (v := .slice b2 m2 d2) rfl
  go_wp2_with fail
  (with_reducible refine (isint_x F.out.ra D1.out).mono ?_)
  clear q0 q1 q2
  rintro e w6 ⟨rfl, hb⟩
  have X := hid (X.out.old hb)
  have LX := hid (LX.out.old hb)
  have F := hid (F.out.old hb)
  have LF := hid (LF.out.old hb)
  have E := hid (E.out.old hb)
  have LE := hid (LE.out.old hb)
  have N := hid (N.out.old hb)
  have LN := hid (LN.out.old hb)
  have O1 := hid (O1.out.old hb)
  have LO1 := hid (LO1.out.old hb)
  have B := hid (B.out.trans (hb.mono B.out.size))
  clear hb
  have q0 := LE.out.c 0 (v := .bool s3) rfl
  have q1 := LE.out.c 1 (v := .slice a3 n3 c3) rfl
  have q2 := LE.out.c 2 (v := .slice b3 m3 d3) rfl
  go_wp2_with fail
  (with_reducible refine (isint_x E.out.ra D2.out).mono ?_)
  clear q0 q1 q2
  rintro e w7 ⟨rfl, hb⟩
  have X := hid (X.out.old hb)
  have LX := hid (LX.out.old hb)
  have F := hid (F.out.old hb)
  have LF := hid (LF.out.old hb)
  have E := hid (E.out.old hb)
  have LE := hid (LE.out.old hb)
  have N := hid (N.out.old hb)
  have LN := hid (LN.out.old hb)
  have O1 := hid (O1.out.old hb)
  have LO1 := hid (LO1.out.old hb)
  have B := hid (B.out.trans (hb.mono B.out.size))
  clear hb
  have q0 := LN.out.c 0 (v := .bool s4) rfl
  have q1 := LN.out.c 1 (v := .slice a4 n4 c4) rfl
  have q2 := LN.out.c 2 (v := .slice b4 m4 d4) rfl
  go_wp2_with fail
  (with_reducible refine (isint_x N.out.ra D3.out).mono ?_)
  clear q0 q1 q2
  rintro e w8 ⟨rfl, hb⟩
  have X := hid (X.out.old hb)
  have LX := hid (LX.out.old hb)
  have F := hid (F.out.old hb)
  have LF := hid (LF.out.old hb)
  have E := hid (E.out.old hb)
  have LE := hid (LE.out.old hb)
  have N := hid (N.out.old hb)
  have LN := hid (LN.out.old hb)
  have O1 := hid (O1.out.old hb)
  have LO1 := hid (LO1.out.old hb)
  have B := hid (B.out.trans (hb.mono B.out.size))
  clear hb
  have q0 := LF.out.c 0 (v := .bool s2) rfl
  have q1 := LF.out.c 1 (v := .slice a2 n2 c2) rfl
  have q2 := LF.out.c 2 (v := .slice b2 m2 d2) rfl
  have q3 := LX.out.c 0 (v := .bool s1) rfl
  have q4 := LX.out.c 1 (v := .slice a1 n1 c1) rfl
  have q5 := LX.out.c 2 (v := .slice b1 m1 d1) rfl
  go_wp2_with fail
  (with_reducible refine (cmp_x F.out.ra X.out H1.out).mono ?_)
  clear q0 q1 q2 q3 q4 q5
  rintro e w9 ⟨rfl, hb⟩
  have X := hid (X.out.old hb)
  have LX := hid (LX.out.old hb)
  have F := hid (F.out.old hb)
  have LF := hid (LF.out.old hb)
  have E := hid (E.out.old hb)
  have LE := hid (LE.out.old hb)
  have N := hid (N.out.old hb)
  have LN := hid (LN.out.old hb)
  have O1 := hid (O1.out.old hb)
  have LO1 := hid (LO1.out.old hb)
  have B := hid (B.out.trans (hb.mono B.out.size))
  clear hb
  have q0 := LX.out.c 0 (v := .bool s1) rfl
  have q1 := LX.out.c 1 (v := .slice a1 n1 c1) rfl
  have q2 := LX.out.c 2 (v := .slice b1 m1 d1) rfl
  have q3 := LE.out.c 0 (v := .bool s3) rfl
  have q4 := LE.out.c 1 (v := .slice a3 n3 c3) rfl
  have q5 := LE.out.c 2 (v := .slice b3 m3 d3) rfl
  go_wp2_with fail
  (with_reducible refine (cmp_x X.out E.out.ra H2.out).mono ?_)
  clear q0 q1 q2 q3 q4 q5
  rintro e w10 ⟨rfl, hb⟩
  have X := hid (X.out.old hb)
  have LX := hid (LX.out.old hb)
  have F := hid (F.out.old hb)
  have LF := hid (LF.out.old hb)
  have E := hid (E.out.old hb)
  have LE := hid (LE.out.old hb)
  have N := hid (N.out.old hb)
  have LN := hid (LN.out.old hb)
  have O1 := hid (O1.out.old hb)
  have LO1 := hid (LO1.out.old hb)
  have B := hid (B.out.trans (hb.mono B.out.size))
  clear hb
  have q0 := LX.out.c 0 (v := .bool s1) rfl
  have q1 := LX.out.c 1 (v := .slice a1 n1 c1) rfl
  have q2 := LX.out.c 2 (v := .slice b1 m1 d1) rfl
  go_wp2_with fail
  (with_reducible refine (dist_x X.out f2.out f3.out HD.out).mono ?_)
  clear q0 q1 q2
  rintro e w11 ⟨s11, a11, n11, c11, b11, m11, d11, rfl, hr, hb⟩
  have D := hid (hr.base B.out.size)
  have X := hid (X.out.old hb)
  have LX := hid (LX.out.old hb)
  have F := hid (F.out.old hb)
  have LF := hid (LF.out.old hb)
  have E := hid (E.out.old hb)
  have LE := hid (LE.out.old hb)
  have N := hid (N.out.old hb)
  have LN := hid (LN.out.old hb)
  have O1 := hid (O1.out.old hb)
  have LO1 := hid (LO1.out.old hb)
  have B := hid (B.out.trans (hb.mono B.out.size))
  clear hr hb
  have X := hid (X.out.old (below_new' (o := .cells #[.bool s11, .slice a11 n11 c11, .slice b11 m11 d11] 27)))
  have LX := hid (LX.out.old (below_new' (o := .cells #[.bool s11, .slice a11 n11 c11, .slice b11 m11 d11] 27)))
  have F := hid (F.out.old (below_new' (o := .cells #[.bool s11, .slice a11 n11 c11, .slice b11 m11 d11] 27)))
  have LF := hid (LF.out.old (below_new' (o := .cells #[.bool s11, .slice a11 n11 c11, .slice b11 m11 d11] 27)))
  have E := hid (E.out.old (below_new' (o := .cells #[.bool s11, .slice a11 n11 c11, .slice b11 m11 d11] 27)))
  have LE := hid (LE.out.old (below_new' (o := .cells #[.bool s11, .slice a11 n11 c11, .slice b11 m11 d11] 27)))
  have N := hid (N.out.old (below_new' (o := .cells #[.bool s11, .slice a11 n11 c11, .slice b11 m11 d11] 27)))
  have LN := hid (LN.out.old (below_new' (o := .cells #[.bool s11, .slice a11 n11 c11, .slice b11 m11 d11] 27)))
  have O1 := hid (O1.out.old (below_new' (o := .cells #[.bool s11, .slice a11 n11 c11, .slice b11 m11 d11] 27)))
  have LO1 := hid (LO1.out.old (below_new' (o := .cells #[.bool s11, .slice a11 n11 c11, .slice b11 m11 d11] 27)))
  have D := hid (D.out.old (below_new' (o := .cells #[.bool s11, .slice a11 n11 c11, .slice b11 m11 d11] 27)))
  have RW := hid (ByteRow_below RW.out (below_new' (o := .cells #[.bool s11, .slice a11 n11 c11, .slice b11 m11 d11] 27)))
  have B := hid (B.out.alloc B.out.size (.cells #[.bool s11, .slice a11 n11 c11, .slice b11 m11 d11] 27))
  have LD := hid (LocA.new (w := w11) (T := 27) (cs := #[.bool s11, .slice a11 n11 c11, .slice b11 m11 d11]))
  clear RW hz1 hz2
  cases p with
  | false =>
    go_wp2_with fail
    have X := hid (X.out.old (Below_drew1 (Below.refl _ _)))
    have LX := hid (LX.out.old (Below_drew1 (Below.refl _ _)))
    have F := hid (F.out.old (Below_drew1 (Below.refl _ _)))
    have LF := hid (LF.out.old (Below_drew1 (Below.refl _ _)))
    have E := hid (E.out.old (Below_drew1 (Below.refl _ _)))
    have LE := hid (LE.out.old (Below_drew1 (Below.refl _ _)))
    have N := hid (N.out.old (Below_drew1 (Below.refl _ _)))
    have LN := hid (LN.out.old (Below_drew1 (Below.refl _ _)))
    have O1 := hid (O1.out.old (Below_drew1 (Below.refl _ _)))
    have LO1 := hid (LO1.out.old (Below_drew1 (Below.refl _ _)))
    have D := hid (D.out.old (Below_drew1 (Below.refl _ _)))
    have LD := hid (LD.out.old (Below_drew1 (Below.refl _ _)))
    have B := hid (Below_drew1 B.out)
    have q0 := LX.out.c 0 (v := .bool s1) rfl
    have q1 := LX.out.c 1 (v := .slice a1 n1 c1) rfl
    have q2 := LX.out.c 2 (v := .slice b1 m1 d1) rfl
    have q3 := LO1.out.c 0 (v := .bool s5) rfl
    have q4 := LO1.out.c 1 (v := .slice a5 n5 c5) rfl
    have q5 := LO1.out.c 2 (v := .slice b5 m5 d5) rfl
    have q6 := LF.out.c 0 (v := .bool s2) rfl
    have q7 := LF.out.c 1 (v := .slice a2 n2 c2) rfl
    have q8 := LF.out.c 2 (v := .slice b2 m2 d2) rfl
    have q9 := LD.out.c 0 (v := .bool s11) rfl
    have q10 := LD.out.c 1 (v := .slice a11 n11 c11) rfl
    have q11 := LD.out.c 2 (v := .slice b11 m11 d11) rfl
    have q12 := LE.out.c 0 (v := .bool s3) rfl
    have q13 := LE.out.c 1 (v := .slice a3 n3 c3) rfl
    have q14 := LE.out.c 2 (v := .slice b3 m3 d3) rfl
    have hlX := LX.out.lt
    have hlO1 := LO1.out.lt
    have hlF := LF.out.lt
    have hlD := LD.out.lt
    have hlE := LE.out.lt
    go_region_held3 (fun w' => w'.cell? ⟨w1.heap.size, 0, none⟩ = some (.bool s1) ∧ w'.cell? ⟨w1.heap.size, 1, none⟩ = some (.slice a1 n1 c1) ∧ w'.cell? ⟨w1.heap.size, 2, none⟩ = some (.slice b1 m1 d1) ∧ w'.cell? ⟨w5.heap.size, 0, none⟩ = some (.bool s5) ∧ w'.cell? ⟨w5.heap.size, 1, none⟩ = some (.slice a5 n5 c5) ∧ w'.cell? ⟨w5.heap.size, 2, none⟩ = some (.slice b5 m5 d5) ∧ w'.cell? ⟨w2.heap.size, 0, none⟩ = some (.bool s2) ∧ w'.cell? ⟨w2.heap.size, 1, none⟩ = some (.slice a2 n2 c2) ∧ w'.cell? ⟨w2.heap.size, 2, none⟩ = some (.slice b2 m2 d2) ∧ w'.cell? ⟨w11.heap.size, 0, none⟩ = some (.bool s11) ∧ w'.cell? ⟨w11.heap.size, 1, none⟩ = some (.slice a11 n11 c11) ∧ w'.cell? ⟨w11.heap.size, 2, none⟩ = some (.slice b11 m11 d11) ∧ w'.cell? ⟨w3.heap.size, 0, none⟩ = some (.bool s3) ∧ w'.cell? ⟨w3.heap.size, 1, none⟩ = some (.slice a3 n3 c3) ∧ w'.cell? ⟨w3.heap.size, 2, none⟩ = some (.slice b3 m3 d3)) (first | with_reducible exact ⟨q0, q1, q2, q3, q4, q5, q6, q7, q8, q9, q10, q11, q12, q13, q14⟩) (first | (go_at_call 18; (with_reducible refine (frac_x X.out f1.out).mono ?_); rintro e w12 ⟨s12, a12, n12, c12, b12, m12, d12, rfl, hr, hb⟩; have G := hid (hr.base B.out.size); have X := hid (X.out.old hb); have LX := hid (LX.out.old hb); have F := hid (F.out.old hb); have LF := hid (LF.out.old hb); have E := hid (E.out.old hb); have LE := hid (LE.out.old hb); have N := hid (N.out.old hb); have LN := hid (LN.out.old hb); have O1 := hid (O1.out.old hb); have LO1 := hid (LO1.out.old hb); have D := hid (D.out.old hb); have LD := hid (LD.out.old hb); (try have A := hid (A.out.old hb)); (try have H := hid (H.out.old hb)); (try have J := hid (J.out.old hb)); (try have K := hid (K.out.old hb)); (try have M := hid (M.out.old hb)); have B := hid (B.out.trans (hb.mono B.out.size)); clear hr hb; have q0 := LX.out.c 0 (v := .bool s1) rfl; have q1 := LX.out.c 1 (v := .slice a1 n1 c1) rfl; have q2 := LX.out.c 2 (v := .slice b1 m1 d1) rfl; have q3 := LO1.out.c 0 (v := .bool s5) rfl; have q4 := LO1.out.c 1 (v := .slice a5 n5 c5) rfl; have q5 := LO1.out.c 2 (v := .slice b5 m5 d5) rfl; have q6 := LF.out.c 0 (v := .bool s2) rfl; have q7 := LF.out.c 1 (v := .slice a2 n2 c2) rfl; have q8 := LF.out.c 2 (v := .slice b2 m2 d2) rfl; have q9 := LD.out.c 0 (v := .bool s11) rfl; have q10 := LD.out.c 1 (v := .slice a11 n11 c11) rfl; have q11 := LD.out.c 2 (v := .slice b11 m11 d11) rfl; have q12 := LE.out.c 0 (v := .bool s3) rfl; have q13 := LE.out.c 1 (v := .slice a3 n3 c3) rfl; have q14 := LE.out.c 2 (v := .slice b3 m3 d3) rfl) | (go_at_call 16; (with_reducible refine (cmp_x G.out.ra O1.out.ra EC.out).mono ?_); rintro e w13 ⟨rfl, hb⟩; have X := hid (X.out.old hb); have LX := hid (LX.out.old hb); have F := hid (F.out.old hb); have LF := hid (LF.out.old hb); have E := hid (E.out.old hb); have LE := hid (LE.out.old hb); have N := hid (N.out.old hb); have LN := hid (LN.out.old hb); have O1 := hid (O1.out.old hb); have LO1 := hid (LO1.out.old hb); have D := hid (D.out.old hb); have LD := hid (LD.out.old hb); (try have A := hid (A.out.old hb)); (try have G := hid (G.out.old hb)); (try have H := hid (H.out.old hb)); (try have J := hid (J.out.old hb)); (try have K := hid (K.out.old hb)); (try have M := hid (M.out.old hb)); have B := hid (B.out.trans (hb.mono B.out.size)); clear hb; have q0 := LX.out.c 0 (v := .bool s1) rfl; have q1 := LX.out.c 1 (v := .slice a1 n1 c1) rfl; have q2 := LX.out.c 2 (v := .slice b1 m1 d1) rfl; have q3 := LO1.out.c 0 (v := .bool s5) rfl; have q4 := LO1.out.c 1 (v := .slice a5 n5 c5) rfl; have q5 := LO1.out.c 2 (v := .slice b5 m5 d5) rfl; have q6 := LF.out.c 0 (v := .bool s2) rfl; have q7 := LF.out.c 1 (v := .slice a2 n2 c2) rfl; have q8 := LF.out.c 2 (v := .slice b2 m2 d2) rfl; have q9 := LD.out.c 0 (v := .bool s11) rfl; have q10 := LD.out.c 1 (v := .slice a11 n11 c11) rfl; have q11 := LD.out.c 2 (v := .slice b11 m11 d11) rfl; have q12 := LE.out.c 0 (v := .bool s3) rfl; have q13 := LE.out.c 1 (v := .slice a3 n3 c3) rfl; have q14 := LE.out.c 2 (v := .slice b3 m3 d3) rfl) | (go_at_call 19; (with_reducible refine (sign_x G.out.ra H3.out).mono ?_); rintro e w14 ⟨rfl, hb⟩; have X := hid (X.out.old hb); have LX := hid (LX.out.old hb); have F := hid (F.out.old hb); have LF := hid (LF.out.old hb); have E := hid (E.out.old hb); have LE := hid (LE.out.old hb); have N := hid (N.out.old hb); have LN := hid (LN.out.old hb); have O1 := hid (O1.out.old hb); have LO1 := hid (LO1.out.old hb); have D := hid (D.out.old hb); have LD := hid (LD.out.old hb); (try have A := hid (A.out.old hb)); (try have G := hid (G.out.old hb)); (try have H := hid (H.out.old hb)); (try have J := hid (J.out.old hb)); (try have K := hid (K.out.old hb)); (try have M := hid (M.out.old hb)); have B := hid (B.out.trans (hb.mono B.out.size)); clear hb; have q0 := LX.out.c 0 (v := .bool s1) rfl; have q1 := LX.out.c 1 (v := .slice a1 n1 c1) rfl; have q2 := LX.out.c 2 (v := .slice b1 m1 d1) rfl; have q3 := LO1.out.c 0 (v := .bool s5) rfl; have q4 := LO1.out.c 1 (v := .slice a5 n5 c5) rfl; have q5 := LO1.out.c 2 (v := .slice b5 m5 d5) rfl; have q6 := LF.out.c 0 (v := .bool s2) rfl; have q7 := LF.out.c 1 (v := .slice a2 n2 c2) rfl; have q8 := LF.out.c 2 (v := .slice b2 m2 d2) rfl; have q9 := LD.out.c 0 (v := .bool s11) rfl; have q10 := LD.out.c 1 (v := .slice a11 n11 c11) rfl; have q11 := LD.out.c 2 (v := .slice b11 m11 d11) rfl; have q12 := LE.out.c 0 (v := .bool s3) rfl; have q13 := LE.out.c 1 (v := .slice a3 n3 c3) rfl; have q14 := LE.out.c 2 (v := .slice b3 m3 d3) rfl) | (go_at_call 21; (with_reducible refine (add_x F.out.ra G.out.ra EA.out f4.out).mono ?_); rintro e w15 ⟨s15, a15, n15, c15, b15, m15, d15, rfl, hr, hb⟩; have A := hid (hr.base B.out.size); have X := hid (X.out.old hb); have LX := hid (LX.out.old hb); have F := hid (F.out.old hb); have LF := hid (LF.out.old hb); have E := hid (E.out.old hb); have LE := hid (LE.out.old hb); have N := hid (N.out.old hb); have LN := hid (LN.out.old hb); have O1 := hid (O1.out.old hb); have LO1 := hid (LO1.out.old hb); have D := hid (D.out.old hb); have LD := hid (LD.out.old hb); (try have G := hid (G.out.old hb)); (try have H := hid (H.out.old hb)); (try have J := hid (J.out.old hb)); (try have K := hid (K.out.old hb)); (try have M := hid (M.out.old hb)); have B := hid (B.out.trans (hb.mono B.out.size)); clear hr hb; have q0 := LX.out.c 0 (v := .bool s1) rfl; have q1 := LX.out.c 1 (v := .slice a1 n1 c1) rfl; have q2 := LX.out.c 2 (v := .slice b1 m1 d1) rfl; have q3 := LO1.out.c 0 (v := .bool s5) rfl; have q4 := LO1.out.c 1 (v := .slice a5 n5 c5) rfl; have q5 := LO1.out.c 2 (v := .slice b5 m5 d5) rfl; have q6 := LF.out.c 0 (v := .bool s2) rfl; have q7 := LF.out.c 1 (v := .slice a2 n2 c2) rfl; have q8 := LF.out.c 2 (v := .slice b2 m2 d2) rfl; have q9 := LD.out.c 0 (v := .bool s11) rfl; have q10 := LD.out.c 1 (v := .slice a11 n11 c11) rfl; have q11 := LD.out.c 2 (v := .slice b11 m11 d11) rfl; have q12 := LE.out.c 0 (v := .bool s3) rfl; have q13 := LE.out.c 1 (v := .slice a3 n3 c3) rfl; have q14 := LE.out.c 2 (v := .slice b3 m3 d3) rfl) | (go_at_call 20; (with_reducible refine (eqs_x A.out.ra X.out).mono ?_); rintro e w16 ⟨rfl, hb⟩; have X := hid (X.out.old hb); have LX := hid (LX.out.old hb); have F := hid (F.out.old hb); have LF := hid (LF.out.old hb); have E := hid (E.out.old hb); have LE := hid (LE.out.old hb); have N := hid (N.out.old hb); have LN := hid (LN.out.old hb); have O1 := hid (O1.out.old hb); have LO1 := hid (LO1.out.old hb); have D := hid (D.out.old hb); have LD := hid (LD.out.old hb); (try have A := hid (A.out.old hb)); (try have G := hid (G.out.old hb)); (try have H := hid (H.out.old hb)); (try have J := hid (J.out.old hb)); (try have K := hid (K.out.old hb)); (try have M := hid (M.out.old hb)); have B := hid (B.out.trans (hb.mono B.out.size)); clear hb; have q0 := LX.out.c 0 (v := .bool s1) rfl; have q1 := LX.out.c 1 (v := .slice a1 n1 c1) rfl; have q2 := LX.out.c 2 (v := .slice b1 m1 d1) rfl; have q3 := LO1.out.c 0 (v := .bool s5) rfl; have q4 := LO1.out.c 1 (v := .slice a5 n5 c5) rfl; have q5 := LO1.out.c 2 (v := .slice b5 m5 d5) rfl; have q6 := LF.out.c 0 (v := .bool s2) rfl; have q7 := LF.out.c 1 (v := .slice a2 n2 c2) rfl; have q8 := LF.out.c 2 (v := .slice b2 m2 d2) rfl; have q9 := LD.out.c 0 (v := .bool s11) rfl; have q10 := LD.out.c 1 (v := .slice a11 n11 c11) rfl; have q11 := LD.out.c 2 (v := .slice b11 m11 d11) rfl; have q12 := LE.out.c 0 (v := .bool s3) rfl; have q13 := LE.out.c 1 (v := .slice a3 n3 c3) rfl; have q14 := LE.out.c 2 (v := .slice b3 m3 d3) rfl) | (go_at_call 22; (with_reducible refine (half_x _).mono ?_); rintro e w17 ⟨s17, a17, n17, c17, b17, m17, d17, rfl, hr, hb⟩; have H := hid (hr.base B.out.size); have X := hid (X.out.old hb); have LX := hid (LX.out.old hb); have F := hid (F.out.old hb); have LF := hid (LF.out.old hb); have E := hid (E.out.old hb); have LE := hid (LE.out.old hb); have N := hid (N.out.old hb); have LN := hid (LN.out.old hb); have O1 := hid (O1.out.old hb); have LO1 := hid (LO1.out.old hb); have D := hid (D.out.old hb); have LD := hid (LD.out.old hb); (try have A := hid (A.out.old hb)); (try have G := hid (G.out.old hb)); (try have J := hid (J.out.old hb)); (try have K := hid (K.out.old hb)); (try have M := hid (M.out.old hb)); have B := hid (B.out.trans (hb.mono B.out.size)); clear hr hb; have q0 := LX.out.c 0 (v := .bool s1) rfl; have q1 := LX.out.c 1 (v := .slice a1 n1 c1) rfl; have q2 := LX.out.c 2 (v := .slice b1 m1 d1) rfl; have q3 := LO1.out.c 0 (v := .bool s5) rfl; have q4 := LO1.out.c 1 (v := .slice a5 n5 c5) rfl; have q5 := LO1.out.c 2 (v := .slice b5 m5 d5) rfl; have q6 := LF.out.c 0 (v := .bool s2) rfl; have q7 := LF.out.c 1 (v := .slice a2 n2 c2) rfl; have q8 := LF.out.c 2 (v := .slice b2 m2 d2) rfl; have q9 := LD.out.c 0 (v := .bool s11) rfl; have q10 := LD.out.c 1 (v := .slice a11 n11 c11) rfl; have q11 := LD.out.c 2 (v := .slice b11 m11 d11) rfl; have q12 := LE.out.c 0 (v := .bool s3) rfl; have q13 := LE.out.c 1 (v := .slice a3 n3 c3) rfl; have q14 := LE.out.c 2 (v := .slice b3 m3 d3) rfl) | (go_at_call 16; (with_reducible refine (cmp_x D.out.ra H.out.ra H4.out).mono ?_); rintro e w18 ⟨rfl, hb⟩; have X := hid (X.out.old hb); have LX := hid (LX.out.old hb); have F := hid (F.out.old hb); have LF := hid (LF.out.old hb); have E := hid (E.out.old hb); have LE := hid (LE.out.old hb); have N := hid (N.out.old hb); have LN := hid (LN.out.old hb); have O1 := hid (O1.out.old hb); have LO1 := hid (LO1.out.old hb); have D := hid (D.out.old hb); have LD := hid (LD.out.old hb); (try have A := hid (A.out.old hb)); (try have G := hid (G.out.old hb)); (try have H := hid (H.out.old hb)); (try have J := hid (J.out.old hb)); (try have K := hid (K.out.old hb)); (try have M := hid (M.out.old hb)); have B := hid (B.out.trans (hb.mono B.out.size)); clear hb; have q0 := LX.out.c 0 (v := .bool s1) rfl; have q1 := LX.out.c 1 (v := .slice a1 n1 c1) rfl; have q2 := LX.out.c 2 (v := .slice b1 m1 d1) rfl; have q3 := LO1.out.c 0 (v := .bool s5) rfl; have q4 := LO1.out.c 1 (v := .slice a5 n5 c5) rfl; have q5 := LO1.out.c 2 (v := .slice b5 m5 d5) rfl; have q6 := LF.out.c 0 (v := .bool s2) rfl; have q7 := LF.out.c 1 (v := .slice a2 n2 c2) rfl; have q8 := LF.out.c 2 (v := .slice b2 m2 d2) rfl; have q9 := LD.out.c 0 (v := .bool s11) rfl; have q10 := LD.out.c 1 (v := .slice a11 n11 c11) rfl; have q11 := LD.out.c 2 (v := .slice b11 m11 d11) rfl; have q12 := LE.out.c 0 (v := .bool s3) rfl; have q13 := LE.out.c 1 (v := .slice a3 n3 c3) rfl; have q14 := LE.out.c 2 (v := .slice b3 m3 d3) rfl) | (go_at_call 20; (with_reducible refine (eq_x F.out.ra E.out.ra EP.out).mono ?_); rintro e w19 ⟨rfl, hb⟩; have X := hid (X.out.old hb); have LX := hid (LX.out.old hb); have F := hid (F.out.old hb); have LF := hid (LF.out.old hb); have E := hid (E.out.old hb); have LE := hid (LE.out.old hb); have N := hid (N.out.old hb); have LN := hid (LN.out.old hb); have O1 := hid (O1.out.old hb); have LO1 := hid (LO1.out.old hb); have D := hid (D.out.old hb); have LD := hid (LD.out.old hb); (try have A := hid (A.out.old hb)); (try have G := hid (G.out.old hb)); (try have H := hid (H.out.old hb)); (try have J := hid (J.out.old hb)); (try have K := hid (K.out.old hb)); (try have M := hid (M.out.old hb)); have B := hid (B.out.trans (hb.mono B.out.size)); clear hb; have q0 := LX.out.c 0 (v := .bool s1) rfl; have q1 := LX.out.c 1 (v := .slice a1 n1 c1) rfl; have q2 := LX.out.c 2 (v := .slice b1 m1 d1) rfl; have q3 := LO1.out.c 0 (v := .bool s5) rfl; have q4 := LO1.out.c 1 (v := .slice a5 n5 c5) rfl; have q5 := LO1.out.c 2 (v := .slice b5 m5 d5) rfl; have q6 := LF.out.c 0 (v := .bool s2) rfl; have q7 := LF.out.c 1 (v := .slice a2 n2 c2) rfl; have q8 := LF.out.c 2 (v := .slice b2 m2 d2) rfl; have q9 := LD.out.c 0 (v := .bool s11) rfl; have q10 := LD.out.c 1 (v := .slice a11 n11 c11) rfl; have q11 := LD.out.c 2 (v := .slice b11 m11 d11) rfl; have q12 := LE.out.c 0 (v := .bool s3) rfl; have q13 := LE.out.c 1 (v := .slice a3 n3 c3) rfl; have q14 := LE.out.c 2 (v := .slice b3 m3 d3) rfl) | (go_at_call 15; (with_reducible refine (isint_x X.out HP.out).mono ?_); rintro e w20 ⟨rfl, hb⟩; have X := hid (X.out.old hb); have LX := hid (LX.out.old hb); have F := hid (F.out.old hb); have LF := hid (LF.out.old hb); have E := hid (E.out.old hb); have LE := hid (LE.out.old hb); have N := hid (N.out.old hb); have LN := hid (LN.out.old hb); have O1 := hid (O1.out.old hb); have LO1 := hid (LO1.out.old hb); have D := hid (D.out.old hb); have LD := hid (LD.out.old hb); (try have A := hid (A.out.old hb)); (try have G := hid (G.out.old hb)); (try have H := hid (H.out.old hb)); (try have J := hid (J.out.old hb)); (try have K := hid (K.out.old hb)); (try have M := hid (M.out.old hb)); have B := hid (B.out.trans (hb.mono B.out.size)); clear hb; have q0 := LX.out.c 0 (v := .bool s1) rfl; have q1 := LX.out.c 1 (v := .slice a1 n1 c1) rfl; have q2 := LX.out.c 2 (v := .slice b1 m1 d1) rfl; have q3 := LO1.out.c 0 (v := .bool s5) rfl; have q4 := LO1.out.c 1 (v := .slice a5 n5 c5) rfl; have q5 := LO1.out.c 2 (v := .slice b5 m5 d5) rfl; have q6 := LF.out.c 0 (v := .bool s2) rfl; have q7 := LF.out.c 1 (v := .slice a2 n2 c2) rfl; have q8 := LF.out.c 2 (v := .slice b2 m2 d2) rfl; have q9 := LD.out.c 0 (v := .bool s11) rfl; have q10 := LD.out.c 1 (v := .slice a11 n11 c11) rfl; have q11 := LD.out.c 2 (v := .slice b11 m11 d11) rfl; have q12 := LE.out.c 0 (v := .bool s3) rfl; have q13 := LE.out.c 1 (v := .slice a3 n3 c3) rfl; have q14 := LE.out.c 2 (v := .slice b3 m3 d3) rfl) | (go_at_call 23; (with_reducible refine (neg_x X.out).mono ?_); rintro e w21 ⟨s21, a21, n21, c21, b21, m21, d21, rfl, hr, hb⟩; have K := hid (hr.base B.out.size); have X := hid (X.out.old hb); have LX := hid (LX.out.old hb); have F := hid (F.out.old hb); have LF := hid (LF.out.old hb); have E := hid (E.out.old hb); have LE := hid (LE.out.old hb); have N := hid (N.out.old hb); have LN := hid (LN.out.old hb); have O1 := hid (O1.out.old hb); have LO1 := hid (LO1.out.old hb); have D := hid (D.out.old hb); have LD := hid (LD.out.old hb); (try have A := hid (A.out.old hb)); (try have G := hid (G.out.old hb)); (try have H := hid (H.out.old hb)); (try have J := hid (J.out.old hb)); (try have M := hid (M.out.old hb)); have B := hid (B.out.trans (hb.mono B.out.size)); clear hr hb; have q0 := LX.out.c 0 (v := .bool s1) rfl; have q1 := LX.out.c 1 (v := .slice a1 n1 c1) rfl; have q2 := LX.out.c 2 (v := .slice b1 m1 d1) rfl; have q3 := LO1.out.c 0 (v := .bool s5) rfl; have q4 := LO1.out.c 1 (v := .slice a5 n5 c5) rfl; have q5 := LO1.out.c 2 (v := .slice b5 m5 d5) rfl; have q6 := LF.out.c 0 (v := .bool s2) rfl; have q7 := LF.out.c 1 (v := .slice a2 n2 c2) rfl; have q8 := LF.out.c 2 (v := .slice b2 m2 d2) rfl; have q9 := LD.out.c 0 (v := .bool s11) rfl; have q10 := LD.out.c 1 (v := .slice a11 n11 c11) rfl; have q11 := LD.out.c 2 (v := .slice b11 m11 d11) rfl; have q12 := LE.out.c 0 (v := .bool s3) rfl; have q13 := LE.out.c 1 (v := .slice a3 n3 c3) rfl; have q14 := LE.out.c 2 (v := .slice b3 m3 d3) rfl) | (go_at_call 11; (with_reducible refine (floor_x K.out.ra).mono ?_); rintro e w22 ⟨s22, a22, n22, c22, b22, m22, d22, rfl, hr, hb⟩; have M := hid (hr.base B.out.size); have X := hid (X.out.old hb); have LX := hid (LX.out.old hb); have F := hid (F.out.old hb); have LF := hid (LF.out.old hb); have E := hid (E.out.old hb); have LE := hid (LE.out.old hb); have N := hid (N.out.old hb); have LN := hid (LN.out.old hb); have O1 := hid (O1.out.old hb); have LO1 := hid (LO1.out.old hb); have D := hid (D.out.old hb); have LD := hid (LD.out.old hb); (try have A := hid (A.out.old hb)); (try have G := hid (G.out.old hb)); (try have H := hid (H.out.old hb)); (try have J := hid (J.out.old hb)); (try have K := hid (K.out.old hb)); have B := hid (B.out.trans (hb.mono B.out.size)); clear hr hb; have q0 := LX.out.c 0 (v := .bool s1) rfl; have q1 := LX.out.c 1 (v := .slice a1 n1 c1) rfl; have q2 := LX.out.c 2 (v := .slice b1 m1 d1) rfl; have q3 := LO1.out.c 0 (v := .bool s5) rfl; have q4 := LO1.out.c 1 (v := .slice a5 n5 c5) rfl; have q5 := LO1.out.c 2 (v := .slice b5 m5 d5) rfl; have q6 := LF.out.c 0 (v := .bool s2) rfl; have q7 := LF.out.c 1 (v := .slice a2 n2 c2) rfl; have q8 := LF.out.c 2 (v := .slice b2 m2 d2) rfl; have q9 := LD.out.c 0 (v := .bool s11) rfl; have q10 := LD.out.c 1 (v := .slice a11 n11 c11) rfl; have q11 := LD.out.c 2 (v := .slice b11 m11 d11) rfl; have q12 := LE.out.c 0 (v := .bool s3) rfl; have q13 := LE.out.c 1 (v := .slice a3 n3 c3) rfl; have q14 := LE.out.c 2 (v := .slice b3 m3 d3) rfl) | (go_at_call 23; (with_reducible refine (neg_x M.out.ra).mono ?_); rintro e w23 ⟨s23, a23, n23, c23, b23, m23, d23, rfl, hr, hb⟩; have J := hid (hr.base B.out.size); have X := hid (X.out.old hb); have LX := hid (LX.out.old hb); have F := hid (F.out.old hb); have LF := hid (LF.out.old hb); have E := hid (E.out.old hb); have LE := hid (LE.out.old hb); have N := hid (N.out.old hb); have LN := hid (LN.out.old hb); have O1 := hid (O1.out.old hb); have LO1 := hid (LO1.out.old hb); have D := hid (D.out.old hb); have LD := hid (LD.out.old hb); (try have A := hid (A.out.old hb)); (try have G := hid (G.out.old hb)); (try have H := hid (H.out.old hb)); (try have K := hid (K.out.old hb)); (try have M := hid (M.out.old hb)); have B := hid (B.out.trans (hb.mono B.out.size)); clear hr hb; have q0 := LX.out.c 0 (v := .bool s1) rfl; have q1 := LX.out.c 1 (v := .slice a1 n1 c1) rfl; have q2 := LX.out.c 2 (v := .slice b1 m1 d1) rfl; have q3 := LO1.out.c 0 (v := .bool s5) rfl; have q4 := LO1.out.c 1 (v := .slice a5 n5 c5) rfl; have q5 := LO1.out.c 2 (v := .slice b5 m5 d5) rfl; have q6 := LF.out.c 0 (v := .bool s2) rfl; have q7 := LF.out.c 1 (v := .slice a2 n2 c2) rfl; have q8 := LF.out.c 2 (v := .slice b2 m2 d2) rfl; have q9 := LD.out.c 0 (v := .bool s11) rfl; have q10 := LD.out.c 1 (v := .slice a11 n11 c11) rfl; have q11 := LD.out.c 2 (v := .slice b11 m11 d11) rfl; have q12 := LE.out.c 0 (v := .bool s3) rfl; have q13 := LE.out.c 1 (v := .slice a3 n3 c3) rfl; have q14 := LE.out.c 2 (v := .slice b3 m3 d3) rfl) | (go_at_call 20; (with_reducible refine (eqn_x J.out.ra E.out.ra EN.out).mono ?_); rintro e w24 ⟨rfl, hb⟩; have X := hid (X.out.old hb); have LX := hid (LX.out.old hb); have F := hid (F.out.old hb); have LF := hid (LF.out.old hb); have E := hid (E.out.old hb); have LE := hid (LE.out.old hb); have N := hid (N.out.old hb); have LN := hid (LN.out.old hb); have O1 := hid (O1.out.old hb); have LO1 := hid (LO1.out.old hb); have D := hid (D.out.old hb); have LD := hid (LD.out.old hb); (try have A := hid (A.out.old hb)); (try have G := hid (G.out.old hb)); (try have H := hid (H.out.old hb)); (try have J := hid (J.out.old hb)); (try have K := hid (K.out.old hb)); (try have M := hid (M.out.old hb)); have B := hid (B.out.trans (hb.mono B.out.size)); clear hb; have q0 := LX.out.c 0 (v := .bool s1) rfl; have q1 := LX.out.c 1 (v := .slice a1 n1 c1) rfl; have q2 := LX.out.c 2 (v := .slice b1 m1 d1) rfl; have q3 := LO1.out.c 0 (v := .bool s5) rfl; have q4 := LO1.out.c 1 (v := .slice a5 n5 c5) rfl; have q5 := LO1.out.c 2 (v := .slice b5 m5 d5) rfl; have q6 := LF.out.c 0 (v := .bool s2) rfl; have q7 := LF.out.c 1 (v := .slice a2 n2 c2) rfl; have q8 := LF.out.c 2 (v := .slice b2 m2 d2) rfl; have q9 := LD.out.c 0 (v := .bool s11) rfl; have q10 := LD.out.c 1 (v := .slice a11 n11 c11) rfl; have q11 := LD.out.c 2 (v := .slice b11 m11 d11) rfl; have q12 := LE.out.c 0 (v := .bool s3) rfl; have q13 := LE.out.c 1 (v := .slice a3 n3 c3) rfl; have q14 := LE.out.c 2 (v := .slice b3 m3 d3) rfl))
    clear q0 q1 q2 q3 q4 q5 q6 q7 q8 q9 q10 q11 q12 q13 q14
    go_wp2
    go_ret
    exact ⟨rfl, B.out⟩
  | true =>
    go_wp2_with fail
    have X := hid (X.out.old (Below_drew1 (Below.refl _ _)))
    have LX := hid (LX.out.old (Below_drew1 (Below.refl _ _)))
    have F := hid (F.out.old (Below_drew1 (Below.refl _ _)))
    have LF := hid (LF.out.old (Below_drew1 (Below.refl _ _)))
    have E := hid (E.out.old (Below_drew1 (Below.refl _ _)))
    have LE := hid (LE.out.old (Below_drew1 (Below.refl _ _)))
    have N := hid (N.out.old (Below_drew1 (Below.refl _ _)))
    have LN := hid (LN.out.old (Below_drew1 (Below.refl _ _)))
    have O1 := hid (O1.out.old (Below_drew1 (Below.refl _ _)))
    have LO1 := hid (LO1.out.old (Below_drew1 (Below.refl _ _)))
    have D := hid (D.out.old (Below_drew1 (Below.refl _ _)))
    have LD := hid (LD.out.old (Below_drew1 (Below.refl _ _)))
    have B := hid (Below_drew1 B.out)
    have q0 := LX.out.c 0 (v := .bool s1) rfl
    have q1 := LX.out.c 1 (v := .slice a1 n1 c1) rfl
    have q2 := LX.out.c 2 (v := .slice b1 m1 d1) rfl
    have q3 := LO1.out.c 0 (v := .bool s5) rfl
    have q4 := LO1.out.c 1 (v := .slice a5 n5 c5) rfl
    have q5 := LO1.out.c 2 (v := .slice b5 m5 d5) rfl
    have q6 := LF.out.c 0 (v := .bool s2) rfl
    have q7 := LF.out.c 1 (v := .slice a2 n2 c2) rfl
    have q8 := LF.out.c 2 (v := .slice b2 m2 d2) rfl
    have q9 := LD.out.c 0 (v := .bool s11) rfl
    have q10 := LD.out.c 1 (v := .slice a11 n11 c11) rfl
    have q11 := LD.out.c 2 (v := .slice b11 m11 d11) rfl
    have q12 := LE.out.c 0 (v := .bool s3) rfl
    have q13 := LE.out.c 1 (v := .slice a3 n3 c3) rfl
    have q14 := LE.out.c 2 (v := .slice b3 m3 d3) rfl
    have hlX := LX.out.lt
    have hlO1 := LO1.out.lt
    have hlF := LF.out.lt
    have hlD := LD.out.lt
    have hlE := LE.out.lt
    go_region_held3 (fun w' => w'.cell? ⟨w1.heap.size, 0, none⟩ = some (.bool s1) ∧ w'.cell? ⟨w1.heap.size, 1, none⟩ = some (.slice a1 n1 c1) ∧ w'.cell? ⟨w1.heap.size, 2, none⟩ = some (.slice b1 m1 d1) ∧ w'.cell? ⟨w5.heap.size, 0, none⟩ = some (.bool s5) ∧ w'.cell? ⟨w5.heap.size, 1, none⟩ = some (.slice a5 n5 c5) ∧ w'.cell? ⟨w5.heap.size, 2, none⟩ = some (.slice b5 m5 d5) ∧ w'.cell? ⟨w2.heap.size, 0, none⟩ = some (.bool s2) ∧ w'.cell? ⟨w2.heap.size, 1, none⟩ = some (.slice a2 n2 c2) ∧ w'.cell? ⟨w2.heap.size, 2, none⟩ = some (.slice b2 m2 d2) ∧ w'.cell? ⟨w11.heap.size, 0, none⟩ = some (.bool s11) ∧ w'.cell? ⟨w11.heap.size, 1, none⟩ = some (.slice a11 n11 c11) ∧ w'.cell? ⟨w11.heap.size, 2, none⟩ = some (.slice b11 m11 d11) ∧ w'.cell? ⟨w3.heap.size, 0, none⟩ = some (.bool s3) ∧ w'.cell? ⟨w3.heap.size, 1, none⟩ = some (.slice a3 n3 c3) ∧ w'.cell? ⟨w3.heap.size, 2, none⟩ = some (.slice b3 m3 d3)) (first | with_reducible exact ⟨q0, q1, q2, q3, q4, q5, q6, q7, q8, q9, q10, q11, q12, q13, q14⟩) (first | (go_at_call 18; (with_reducible refine (frac_x X.out f1.out).mono ?_); rintro e w12 ⟨s12, a12, n12, c12, b12, m12, d12, rfl, hr, hb⟩; have G := hid (hr.base B.out.size); have X := hid (X.out.old hb); have LX := hid (LX.out.old hb); have F := hid (F.out.old hb); have LF := hid (LF.out.old hb); have E := hid (E.out.old hb); have LE := hid (LE.out.old hb); have N := hid (N.out.old hb); have LN := hid (LN.out.old hb); have O1 := hid (O1.out.old hb); have LO1 := hid (LO1.out.old hb); have D := hid (D.out.old hb); have LD := hid (LD.out.old hb); (try have A := hid (A.out.old hb)); (try have H := hid (H.out.old hb)); (try have J := hid (J.out.old hb)); (try have K := hid (K.out.old hb)); (try have M := hid (M.out.old hb)); have B := hid (B.out.trans (hb.mono B.out.size)); clear hr hb; have q0 := LX.out.c 0 (v := .bool s1) rfl; have q1 := LX.out.c 1 (v := .slice a1 n1 c1) rfl; have q2 := LX.out.c 2 (v := .slice b1 m1 d1) rfl; have q3 := LO1.out.c 0 (v := .bool s5) rfl; have q4 := LO1.out.c 1 (v := .slice a5 n5 c5) rfl; have q5 := LO1.out.c 2 (v := .slice b5 m5 d5) rfl; have q6 := LF.out.c 0 (v := .bool s2) rfl; have q7 := LF.out.c 1 (v := .slice a2 n2 c2) rfl; have q8 := LF.out.c 2 (v := .slice b2 m2 d2) rfl; have q9 := LD.out.c 0 (v := .bool s11) rfl; have q10 := LD.out.c 1 (v := .slice a11 n11 c11) rfl; have q11 := LD.out.c 2 (v := .slice b11 m11 d11) rfl; have q12 := LE.out.c 0 (v := .bool s3) rfl; have q13 := LE.out.c 1 (v := .slice a3 n3 c3) rfl; have q14 := LE.out.c 2 (v := .slice b3 m3 d3) rfl) | (go_at_call 16; (with_reducible refine (cmp_x G.out.ra O1.out.ra EC.out).mono ?_); rintro e w13 ⟨rfl, hb⟩; have X := hid (X.out.old hb); have LX := hid (LX.out.old hb); have F := hid (F.out.old hb); have LF := hid (LF.out.old hb); have E := hid (E.out.old hb); have LE := hid (LE.out.old hb); have N := hid (N.out.old hb); have LN := hid (LN.out.old hb); have O1 := hid (O1.out.old hb); have LO1 := hid (LO1.out.old hb); have D := hid (D.out.old hb); have LD := hid (LD.out.old hb); (try have A := hid (A.out.old hb)); (try have G := hid (G.out.old hb)); (try have H := hid (H.out.old hb)); (try have J := hid (J.out.old hb)); (try have K := hid (K.out.old hb)); (try have M := hid (M.out.old hb)); have B := hid (B.out.trans (hb.mono B.out.size)); clear hb; have q0 := LX.out.c 0 (v := .bool s1) rfl; have q1 := LX.out.c 1 (v := .slice a1 n1 c1) rfl; have q2 := LX.out.c 2 (v := .slice b1 m1 d1) rfl; have q3 := LO1.out.c 0 (v := .bool s5) rfl; have q4 := LO1.out.c 1 (v := .slice a5 n5 c5) rfl; have q5 := LO1.out.c 2 (v := .slice b5 m5 d5) rfl; have q6 := LF.out.c 0 (v := .bool s2) rfl; have q7 := LF.out.c 1 (v := .slice a2 n2 c2) rfl; have q8 := LF.out.c 2 (v := .slice b2 m2 d2) rfl; have q9 := LD.out.c 0 (v := .bool s11) rfl; have q10 := LD.out.c 1 (v := .slice a11 n11 c11) rfl; have q11 := LD.out.c 2 (v := .slice b11 m11 d11) rfl; have q12 := LE.out.c 0 (v := .bool s3) rfl; have q13 := LE.out.c 1 (v := .slice a3 n3 c3) rfl; have q14 := LE.out.c 2 (v := .slice b3 m3 d3) rfl) | (go_at_call 19; (with_reducible refine (sign_x G.out.ra H3.out).mono ?_); rintro e w14 ⟨rfl, hb⟩; have X := hid (X.out.old hb); have LX := hid (LX.out.old hb); have F := hid (F.out.old hb); have LF := hid (LF.out.old hb); have E := hid (E.out.old hb); have LE := hid (LE.out.old hb); have N := hid (N.out.old hb); have LN := hid (LN.out.old hb); have O1 := hid (O1.out.old hb); have LO1 := hid (LO1.out.old hb); have D := hid (D.out.old hb); have LD := hid (LD.out.old hb); (try have A := hid (A.out.old hb)); (try have G := hid (G.out.old hb)); (try have H := hid (H.out.old hb)); (try have J := hid (J.out.old hb)); (try have K := hid (K.out.old hb)); (try have M := hid (M.out.old hb)); have B := hid (B.out.trans (hb.mono B.out.size)); clear hb; have q0 := LX.out.c 0 (v := .bool s1) rfl; have q1 := LX.out.c 1 (v := .slice a1 n1 c1) rfl; have q2 := LX.out.c 2 (v := .slice b1 m1 d1) rfl; have q3 := LO1.out.c 0 (v := .bool s5) rfl; have q4 := LO1.out.c 1 (v := .slice a5 n5 c5) rfl; have q5 := LO1.out.c 2 (v := .slice b5 m5 d5) rfl; have q6 := LF.out.c 0 (v := .bool s2) rfl; have q7 := LF.out.c 1 (v := .slice a2 n2 c2) rfl; have q8 := LF.out.c 2 (v := .slice b2 m2 d2) rfl; have q9 := LD.out.c 0 (v := .bool s11) rfl; have q10 := LD.out.c 1 (v := .slice a11 n11 c11) rfl; have q11 := LD.out.c 2 (v := .slice b11 m11 d11) rfl; have q12 := LE.out.c 0 (v := .bool s3) rfl; have q13 := LE.out.c 1 (v := .slice a3 n3 c3) rfl; have q14 := LE.out.c 2 (v := .slice b3 m3 d3) rfl) | (go_at_call 21; (with_reducible refine (add_x F.out.ra G.out.ra EA.out f4.out).mono ?_); rintro e w15 ⟨s15, a15, n15, c15, b15, m15, d15, rfl, hr, hb⟩; have A := hid (hr.base B.out.size); have X := hid (X.out.old hb); have LX := hid (LX.out.old hb); have F := hid (F.out.old hb); have LF := hid (LF.out.old hb); have E := hid (E.out.old hb); have LE := hid (LE.out.old hb); have N := hid (N.out.old hb); have LN := hid (LN.out.old hb); have O1 := hid (O1.out.old hb); have LO1 := hid (LO1.out.old hb); have D := hid (D.out.old hb); have LD := hid (LD.out.old hb); (try have G := hid (G.out.old hb)); (try have H := hid (H.out.old hb)); (try have J := hid (J.out.old hb)); (try have K := hid (K.out.old hb)); (try have M := hid (M.out.old hb)); have B := hid (B.out.trans (hb.mono B.out.size)); clear hr hb; have q0 := LX.out.c 0 (v := .bool s1) rfl; have q1 := LX.out.c 1 (v := .slice a1 n1 c1) rfl; have q2 := LX.out.c 2 (v := .slice b1 m1 d1) rfl; have q3 := LO1.out.c 0 (v := .bool s5) rfl; have q4 := LO1.out.c 1 (v := .slice a5 n5 c5) rfl; have q5 := LO1.out.c 2 (v := .slice b5 m5 d5) rfl; have q6 := LF.out.c 0 (v := .bool s2) rfl; have q7 := LF.out.c 1 (v := .slice a2 n2 c2) rfl; have q8 := LF.out.c 2 (v := .slice b2 m2 d2) rfl; have q9 := LD.out.c 0 (v := .bool s11) rfl; have q10 := LD.out.c 1 (v := .slice a11 n11 c11) rfl; have q11 := LD.out.c 2 (v := .slice b11 m11 d11) rfl; have q12 := LE.out.c 0 (v := .bool s3) rfl; have q13 := LE.out.c 1 (v := .slice a3 n3 c3) rfl; have q14 := LE.out.c 2 (v := .slice b3 m3 d3) rfl) | (go_at_call 20; (with_reducible refine (eqs_x A.out.ra X.out).mono ?_); rintro e w16 ⟨rfl, hb⟩; have X := hid (X.out.old hb); have LX := hid (LX.out.old hb); have F := hid (F.out.old hb); have LF := hid (LF.out.old hb); have E := hid (E.out.old hb); have LE := hid (LE.out.old hb); have N := hid (N.out.old hb); have LN := hid (LN.out.old hb); have O1 := hid (O1.out.old hb); have LO1 := hid (LO1.out.old hb); have D := hid (D.out.old hb); have LD := hid (LD.out.old hb); (try have A := hid (A.out.old hb)); (try have G := hid (G.out.old hb)); (try have H := hid (H.out.old hb)); (try have J := hid (J.out.old hb)); (try have K := hid (K.out.old hb)); (try have M := hid (M.out.old hb)); have B := hid (B.out.trans (hb.mono B.out.size)); clear hb; have q0 := LX.out.c 0 (v := .bool s1) rfl; have q1 := LX.out.c 1 (v := .slice a1 n1 c1) rfl; have q2 := LX.out.c 2 (v := .slice b1 m1 d1) rfl; have q3 := LO1.out.c 0 (v := .bool s5) rfl; have q4 := LO1.out.c 1 (v := .slice a5 n5 c5) rfl; have q5 := LO1.out.c 2 (v := .slice b5 m5 d5) rfl; have q6 := LF.out.c 0 (v := .bool s2) rfl; have q7 := LF.out.c 1 (v := .slice a2 n2 c2) rfl; have q8 := LF.out.c 2 (v := .slice b2 m2 d2) rfl; have q9 := LD.out.c 0 (v := .bool s11) rfl; have q10 := LD.out.c 1 (v := .slice a11 n11 c11) rfl; have q11 := LD.out.c 2 (v := .slice b11 m11 d11) rfl; have q12 := LE.out.c 0 (v := .bool s3) rfl; have q13 := LE.out.c 1 (v := .slice a3 n3 c3) rfl; have q14 := LE.out.c 2 (v := .slice b3 m3 d3) rfl) | (go_at_call 22; (with_reducible refine (half_x _).mono ?_); rintro e w17 ⟨s17, a17, n17, c17, b17, m17, d17, rfl, hr, hb⟩; have H := hid (hr.base B.out.size); have X := hid (X.out.old hb); have LX := hid (LX.out.old hb); have F := hid (F.out.old hb); have LF := hid (LF.out.old hb); have E := hid (E.out.old hb); have LE := hid (LE.out.old hb); have N := hid (N.out.old hb); have LN := hid (LN.out.old hb); have O1 := hid (O1.out.old hb); have LO1 := hid (LO1.out.old hb); have D := hid (D.out.old hb); have LD := hid (LD.out.old hb); (try have A := hid (A.out.old hb)); (try have G := hid (G.out.old hb)); (try have J := hid (J.out.old hb)); (try have K := hid (K.out.old hb)); (try have M := hid (M.out.old hb)); have B := hid (B.out.trans (hb.mono B.out.size)); clear hr hb; have q0 := LX.out.c 0 (v := .bool s1) rfl; have q1 := LX.out.c 1 (v := .slice a1 n1 c1) rfl; have q2 := LX.out.c 2 (v := .slice b1 m1 d1) rfl; have q3 := LO1.out.c 0 (v := .bool s5) rfl; have q4 := LO1.out.c 1 (v := .slice a5 n5 c5) rfl; have q5 := LO1.out.c 2 (v := .slice b5 m5 d5) rfl; have q6 := LF.out.c 0 (v := .bool s2) rfl; have q7 := LF.out.c 1 (v := .slice a2 n2 c2) rfl; have q8 := LF.out.c 2 (v := .slice b2 m2 d2) rfl; have q9 := LD.out.c 0 (v := .bool s11) rfl; have q10 := LD.out.c 1 (v := .slice a11 n11 c11) rfl; have q11 := LD.out.c 2 (v := .slice b11 m11 d11) rfl; have q12 := LE.out.c 0 (v := .bool s3) rfl; have q13 := LE.out.c 1 (v := .slice a3 n3 c3) rfl; have q14 := LE.out.c 2 (v := .slice b3 m3 d3) rfl) | (go_at_call 16; (with_reducible refine (cmp_x D.out.ra H.out.ra H4.out).mono ?_); rintro e w18 ⟨rfl, hb⟩; have X := hid (X.out.old hb); have LX := hid (LX.out.old hb); have F := hid (F.out.old hb); have LF := hid (LF.out.old hb); have E := hid (E.out.old hb); have LE := hid (LE.out.old hb); have N := hid (N.out.old hb); have LN := hid (LN.out.old hb); have O1 := hid (O1.out.old hb); have LO1 := hid (LO1.out.old hb); have D := hid (D.out.old hb); have LD := hid (LD.out.old hb); (try have A := hid (A.out.old hb)); (try have G := hid (G.out.old hb)); (try have H := hid (H.out.old hb)); (try have J := hid (J.out.old hb)); (try have K := hid (K.out.old hb)); (try have M := hid (M.out.old hb)); have B := hid (B.out.trans (hb.mono B.out.size)); clear hb; have q0 := LX.out.c 0 (v := .bool s1) rfl; have q1 := LX.out.c 1 (v := .slice a1 n1 c1) rfl; have q2 := LX.out.c 2 (v := .slice b1 m1 d1) rfl; have q3 := LO1.out.c 0 (v := .bool s5) rfl; have q4 := LO1.out.c 1 (v := .slice a5 n5 c5) rfl; have q5 := LO1.out.c 2 (v := .slice b5 m5 d5) rfl; have q6 := LF.out.c 0 (v := .bool s2) rfl; have q7 := LF.out.c 1 (v := .slice a2 n2 c2) rfl; have q8 := LF.out.c 2 (v := .slice b2 m2 d2) rfl; have q9 := LD.out.c 0 (v := .bool s11) rfl; have q10 := LD.out.c 1 (v := .slice a11 n11 c11) rfl; have q11 := LD.out.c 2 (v := .slice b11 m11 d11) rfl; have q12 := LE.out.c 0 (v := .bool s3) rfl; have q13 := LE.out.c 1 (v := .slice a3 n3 c3) rfl; have q14 := LE.out.c 2 (v := .slice b3 m3 d3) rfl) | (go_at_call 20; (with_reducible refine (eq_x F.out.ra E.out.ra EP.out).mono ?_); rintro e w19 ⟨rfl, hb⟩; have X := hid (X.out.old hb); have LX := hid (LX.out.old hb); have F := hid (F.out.old hb); have LF := hid (LF.out.old hb); have E := hid (E.out.old hb); have LE := hid (LE.out.old hb); have N := hid (N.out.old hb); have LN := hid (LN.out.old hb); have O1 := hid (O1.out.old hb); have LO1 := hid (LO1.out.old hb); have D := hid (D.out.old hb); have LD := hid (LD.out.old hb); (try have A := hid (A.out.old hb)); (try have G := hid (G.out.old hb)); (try have H := hid (H.out.old hb)); (try have J := hid (J.out.old hb)); (try have K := hid (K.out.old hb)); (try have M := hid (M.out.old hb)); have B := hid (B.out.trans (hb.mono B.out.size)); clear hb; have q0 := LX.out.c 0 (v := .bool s1) rfl; have q1 := LX.out.c 1 (v := .slice a1 n1 c1) rfl; have q2 := LX.out.c 2 (v := .slice b1 m1 d1) rfl; have q3 := LO1.out.c 0 (v := .bool s5) rfl; have q4 := LO1.out.c 1 (v := .slice a5 n5 c5) rfl; have q5 := LO1.out.c 2 (v := .slice b5 m5 d5) rfl; have q6 := LF.out.c 0 (v := .bool s2) rfl; have q7 := LF.out.c 1 (v := .slice a2 n2 c2) rfl; have q8 := LF.out.c 2 (v := .slice b2 m2 d2) rfl; have q9 := LD.out.c 0 (v := .bool s11) rfl; have q10 := LD.out.c 1 (v := .slice a11 n11 c11) rfl; have q11 := LD.out.c 2 (v := .slice b11 m11 d11) rfl; have q12 := LE.out.c 0 (v := .bool s3) rfl; have q13 := LE.out.c 1 (v := .slice a3 n3 c3) rfl; have q14 := LE.out.c 2 (v := .slice b3 m3 d3) rfl) | (go_at_call 15; (with_reducible refine (isint_x X.out HP.out).mono ?_); rintro e w20 ⟨rfl, hb⟩; have X := hid (X.out.old hb); have LX := hid (LX.out.old hb); have F := hid (F.out.old hb); have LF := hid (LF.out.old hb); have E := hid (E.out.old hb); have LE := hid (LE.out.old hb); have N := hid (N.out.old hb); have LN := hid (LN.out.old hb); have O1 := hid (O1.out.old hb); have LO1 := hid (LO1.out.old hb); have D := hid (D.out.old hb); have LD := hid (LD.out.old hb); (try have A := hid (A.out.old hb)); (try have G := hid (G.out.old hb)); (try have H := hid (H.out.old hb)); (try have J := hid (J.out.old hb)); (try have K := hid (K.out.old hb)); (try have M := hid (M.out.old hb)); have B := hid (B.out.trans (hb.mono B.out.size)); clear hb; have q0 := LX.out.c 0 (v := .bool s1) rfl; have q1 := LX.out.c 1 (v := .slice a1 n1 c1) rfl; have q2 := LX.out.c 2 (v := .slice b1 m1 d1) rfl; have q3 := LO1.out.c 0 (v := .bool s5) rfl; have q4 := LO1.out.c 1 (v := .slice a5 n5 c5) rfl; have q5 := LO1.out.c 2 (v := .slice b5 m5 d5) rfl; have q6 := LF.out.c 0 (v := .bool s2) rfl; have q7 := LF.out.c 1 (v := .slice a2 n2 c2) rfl; have q8 := LF.out.c 2 (v := .slice b2 m2 d2) rfl; have q9 := LD.out.c 0 (v := .bool s11) rfl; have q10 := LD.out.c 1 (v := .slice a11 n11 c11) rfl; have q11 := LD.out.c 2 (v := .slice b11 m11 d11) rfl; have q12 := LE.out.c 0 (v := .bool s3) rfl; have q13 := LE.out.c 1 (v := .slice a3 n3 c3) rfl; have q14 := LE.out.c 2 (v := .slice b3 m3 d3) rfl) | (go_at_call 23; (with_reducible refine (neg_x X.out).mono ?_); rintro e w21 ⟨s21, a21, n21, c21, b21, m21, d21, rfl, hr, hb⟩; have K := hid (hr.base B.out.size); have X := hid (X.out.old hb); have LX := hid (LX.out.old hb); have F := hid (F.out.old hb); have LF := hid (LF.out.old hb); have E := hid (E.out.old hb); have LE := hid (LE.out.old hb); have N := hid (N.out.old hb); have LN := hid (LN.out.old hb); have O1 := hid (O1.out.old hb); have LO1 := hid (LO1.out.old hb); have D := hid (D.out.old hb); have LD := hid (LD.out.old hb); (try have A := hid (A.out.old hb)); (try have G := hid (G.out.old hb)); (try have H := hid (H.out.old hb)); (try have J := hid (J.out.old hb)); (try have M := hid (M.out.old hb)); have B := hid (B.out.trans (hb.mono B.out.size)); clear hr hb; have q0 := LX.out.c 0 (v := .bool s1) rfl; have q1 := LX.out.c 1 (v := .slice a1 n1 c1) rfl; have q2 := LX.out.c 2 (v := .slice b1 m1 d1) rfl; have q3 := LO1.out.c 0 (v := .bool s5) rfl; have q4 := LO1.out.c 1 (v := .slice a5 n5 c5) rfl; have q5 := LO1.out.c 2 (v := .slice b5 m5 d5) rfl; have q6 := LF.out.c 0 (v := .bool s2) rfl; have q7 := LF.out.c 1 (v := .slice a2 n2 c2) rfl; have q8 := LF.out.c 2 (v := .slice b2 m2 d2) rfl; have q9 := LD.out.c 0 (v := .bool s11) rfl; have q10 := LD.out.c 1 (v := .slice a11 n11 c11) rfl; have q11 := LD.out.c 2 (v := .slice b11 m11 d11) rfl; have q12 := LE.out.c 0 (v := .bool s3) rfl; have q13 := LE.out.c 1 (v := .slice a3 n3 c3) rfl; have q14 := LE.out.c 2 (v := .slice b3 m3 d3) rfl) | (go_at_call 11; (with_reducible refine (floor_x K.out.ra).mono ?_); rintro e w22 ⟨s22, a22, n22, c22, b22, m22, d22, rfl, hr, hb⟩; have M := hid (hr.base B.out.size); have X := hid (X.out.old hb); have LX := hid (LX.out.old hb); have F := hid (F.out.old hb); have LF := hid (LF.out.old hb); have E := hid (E.out.old hb); have LE := hid (LE.out.old hb); have N := hid (N.out.old hb); have LN := hid (LN.out.old hb); have O1 := hid (O1.out.old hb); have LO1 := hid (LO1.out.old hb); have D := hid (D.out.old hb); have LD := hid (LD.out.old hb); (try have A := hid (A.out.old hb)); (try have G := hid (G.out.old hb)); (try have H := hid (H.out.old hb)); (try have J := hid (J.out.old hb)); (try have K := hid (K.out.old hb)); have B := hid (B.out.trans (hb.mono B.out.size)); clear hr hb; have q0 := LX.out.c 0 (v := .bool s1) rfl; have q1 := LX.out.c 1 (v := .slice a1 n1 c1) rfl; have q2 := LX.out.c 2 (v := .slice b1 m1 d1) rfl; have q3 := LO1.out.c 0 (v := .bool s5) rfl; have q4 := LO1.out.c 1 (v := .slice a5 n5 c5) rfl; have q5 := LO1.out.c 2 (v := .slice b5 m5 d5) rfl; have q6 := LF.out.c 0 (v := .bool s2) rfl; have q7 := LF.out.c 1 (v := .slice a2 n2 c2) rfl; have q8 := LF.out.c 2 (v := .slice b2 m2 d2) rfl; have q9 := LD.out.c 0 (v := .bool s11) rfl; have q10 := LD.out.c 1 (v := .slice a11 n11 c11) rfl; have q11 := LD.out.c 2 (v := .slice b11 m11 d11) rfl; have q12 := LE.out.c 0 (v := .bool s3) rfl; have q13 := LE.out.c 1 (v := .slice a3 n3 c3) rfl; have q14 := LE.out.c 2 (v := .slice b3 m3 d3) rfl) | (go_at_call 23; (with_reducible refine (neg_x M.out.ra).mono ?_); rintro e w23 ⟨s23, a23, n23, c23, b23, m23, d23, rfl, hr, hb⟩; have J := hid (hr.base B.out.size); have X := hid (X.out.old hb); have LX := hid (LX.out.old hb); have F := hid (F.out.old hb); have LF := hid (LF.out.old hb); have E := hid (E.out.old hb); have LE := hid (LE.out.old hb); have N := hid (N.out.old hb); have LN := hid (LN.out.old hb); have O1 := hid (O1.out.old hb); have LO1 := hid (LO1.out.old hb); have D := hid (D.out.old hb); have LD := hid (LD.out.old hb); (try have A := hid (A.out.old hb)); (try have G := hid (G.out.old hb)); (try have H := hid (H.out.old hb)); (try have K := hid (K.out.old hb)); (try have M := hid (M.out.old hb)); have B := hid (B.out.trans (hb.mono B.out.size)); clear hr hb; have q0 := LX.out.c 0 (v := .bool s1) rfl; have q1 := LX.out.c 1 (v := .slice a1 n1 c1) rfl; have q2 := LX.out.c 2 (v := .slice b1 m1 d1) rfl; have q3 := LO1.out.c 0 (v := .bool s5) rfl; have q4 := LO1.out.c 1 (v := .slice a5 n5 c5) rfl; have q5 := LO1.out.c 2 (v := .slice b5 m5 d5) rfl; have q6 := LF.out.c 0 (v := .bool s2) rfl; have q7 := LF.out.c 1 (v := .slice a2 n2 c2) rfl; have q8 := LF.out.c 2 (v := .slice b2 m2 d2) rfl; have q9 := LD.out.c 0 (v := .bool s11) rfl; have q10 := LD.out.c 1 (v := .slice a11 n11 c11) rfl; have q11 := LD.out.c 2 (v := .slice b11 m11 d11) rfl; have q12 := LE.out.c 0 (v := .bool s3) rfl; have q13 := LE.out.c 1 (v := .slice a3 n3 c3) rfl; have q14 := LE.out.c 2 (v := .slice b3 m3 d3) rfl) | (go_at_call 20; (with_reducible refine (eqn_x J.out.ra E.out.ra EN.out).mono ?_); rintro e w24 ⟨rfl, hb⟩; have X := hid (X.out.old hb); have LX := hid (LX.out.old hb); have F := hid (F.out.old hb); have LF := hid (LF.out.old hb); have E := hid (E.out.old hb); have LE := hid (LE.out.old hb); have N := hid (N.out.old hb); have LN := hid (LN.out.old hb); have O1 := hid (O1.out.old hb); have LO1 := hid (LO1.out.old hb); have D := hid (D.out.old hb); have LD := hid (LD.out.old hb); (try have A := hid (A.out.old hb)); (try have G := hid (G.out.old hb)); (try have H := hid (H.out.old hb)); (try have J := hid (J.out.old hb)); (try have K := hid (K.out.old hb)); (try have M := hid (M.out.old hb)); have B := hid (B.out.trans (hb.mono B.out.size)); clear hb; have q0 := LX.out.c 0 (v := .bool s1) rfl; have q1 := LX.out.c 1 (v := .slice a1 n1 c1) rfl; have q2 := LX.out.c 2 (v := .slice b1 m1 d1) rfl; have q3 := LO1.out.c 0 (v := .bool s5) rfl; have q4 := LO1.out.c 1 (v := .slice a5 n5 c5) rfl; have q5 := LO1.out.c 2 (v := .slice b5 m5 d5) rfl; have q6 := LF.out.c 0 (v := .bool s2) rfl; have q7 := LF.out.c 1 (v := .slice a2 n2 c2) rfl; have q8 := LF.out.c 2 (v := .slice b2 m2 d2) rfl; have q9 := LD.out.c 0 (v := .bool s11) rfl; have q10 := LD.out.c 1 (v := .slice a11 n11 c11) rfl; have q11 := LD.out.c 2 (v := .slice b11 m11 d11) rfl; have q12 := LE.out.c 0 (v := .bool s3) rfl; have q13 := LE.out.c 1 (v := .slice a3 n3 c3) rfl; have q14 := LE.out.c 2 (v := .slice b3 m3 d3) rfl))
    clear q0 q1 q2 q3 q4 q5 q6 q7 q8 q9 q10 q11 q12 q13 q14
    go_wp2
    go_ret
    exact ⟨rfl, B.out⟩
end Go.Proofs.YtookglpeieennaaGreat
