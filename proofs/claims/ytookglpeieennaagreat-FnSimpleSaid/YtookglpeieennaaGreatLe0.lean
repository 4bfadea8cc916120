/- The functions of chapter 6 at valid fractions; what the law FnFloor says of them. -/
import Derived.Test.YtookglpeieennaaGreatSpz
import Derived.Test.YtookglpeieennaaGreatMtu
import Derived.Test.YtookglpeieennaaGreatFlm
import Derived.Deep.RegionHeld3
import Derived.Deep.DeepCutAuto
namespace Go.Proofs.YtookglpeieennaaGreat
open Go.RowKit
open Go.Lib (hid)
set_option linter.unusedVariables false

/-- One half. -/
def half : Rat := Rat.divInt 1 2
theorem half_parts : half.num = 1 ∧ half.den = 2 := by
  have h := frq_parts (r := (1, 2)) (by decide) (by decide)
  exact ⟨h.1, h.2⟩
theorem szq_half : szq half 1 := ⟨by rw [half_parts.1]; decide, by rw [half_parts.2]; decide⟩
theorem mk_half : mkFr 1 2 = some half := by
  unfold mkFr
  rw [if_neg (by decide)]
  exact capF_yes (szq_fit szq_half (by decide))
theorem half_two : half + half = 1 := by
  unfold half
  rw [Rat.divInt_add_divInt _ _ (by decide) (by decide)]
  rfl
theorem flF_le (x : Rat) : flF x ≤ x := Rat.floor_le x
theorem flF_lt (x : Rat) : x < flF x + 1 := by
  have := Rat.lt_floor_add_one x
  rw [Rat.intCast_add] at this
  exact this
theorem le_ceF (x : Rat) : x ≤ ceF x := Rat.le_ceil
theorem sub_le_iff {x y z : Rat} : x - y ≤ z ↔ x ≤ z + y := by
  rw [Rat.sub_eq_add_neg]
  constructor
  · intro h
    have := (Rat.add_le_add_right (c := y)).2 h
    rwa [Rat.add_assoc, Rat.neg_add_cancel, Rat.add_zero] at this
  · intro h
    have := (Rat.add_le_add_right (c := -y)).2 h
    rwa [Rat.add_assoc z y (-y), Rat.add_neg_cancel, Rat.add_zero] at this
theorem sub_lt_iff {x y z : Rat} : x - y < z ↔ x < z + y := by
  rw [Rat.sub_eq_add_neg]
  constructor
  · intro h
    have := (Rat.add_lt_add_right (c := y)).2 h
    rwa [Rat.add_assoc, Rat.neg_add_cancel, Rat.add_zero] at this
  · intro h
    have := (Rat.add_lt_add_right (c := -y)).2 h
    rwa [Rat.add_assoc z y (-y), Rat.add_neg_cancel, Rat.add_zero] at this
theorem maxF_le {x y z : Rat} (h : x ≤ z) (h' : y ≤ z) : maxF x y ≤ z := by
  unfold maxF
  split
  · exact h'
  · exact h
/-- A fraction is no farther from the nearest integer than one half. -/
theorem dist_le (x : Rat) : maxF (x - flF (x + half)) (-(x - flF (x + half))) ≤ half := by
  have h1 := flF_le (x + half)
  have h2 := flF_lt (x + half)
  obtain ⟨n, hn⟩ : ∃ n, n = flF (x + half) := ⟨_, rfl⟩
  rw [← hn] at h1 h2 ⊢
  refine maxF_le ?_ ?_
  · rw [sub_le_iff, Rat.add_comm]
    have h3 : x + half < (n + half) + half := by rw [Rat.add_assoc, half_two]; exact h2
    exact Rat.le_of_lt (Rat.add_lt_add_right.1 h3)
  · rw [Rat.neg_sub, sub_le_iff, Rat.add_comm]
    exact h1
theorem floor_ceil (x : Rat) : flF x = ceF x ↔ x.den = 1 := by
  constructor
  · intro h
    have h1 := flF_le x
    have h2 := le_ceF x
    rw [← h] at h2
    rw [Rat.le_antisymm h2 h1]
    exact flF_den x
  · intro h
    have e : x = ((x.num : Int) : Rat) := Rat.ext rfl (by rw [Rat.den_intCast]; exact h)
    unfold flF ceF
    rw [e, Rat.floor_intCast, Rat.ceil_intCast]
theorem frac_lt (x : Rat) : x - flF x < ((1 : Int) : Rat) := by
  rw [sub_lt_iff, Rat.add_comm]
  exact flF_lt x
theorem frac_nonneg (x : Rat) : ¬ x - flF x < 0 := by
  intro h
  rw [sub_lt_iff, Rat.zero_add] at h
  exact (Rat.lt_iff_le_and_not_ge.1 h).2 (flF_le x)
theorem add_frac (x : Rat) : flF x + (x - flF x) = x := by rw [Rat.add_comm, Rat.sub_add_cancel]
theorem cmp_lt {x y : Rat} (h : x < y) : cmpF x y = -1 := by simp [cmpF, h]
theorem szq_fl {x : Rat} {k : Nat} (h : szq x k) : szq (flF x) k := by
  refine ⟨?_, ?_⟩
  · rw [flF_num]
    have := Int.natAbs_ediv_le_natAbs x.num x.den
    have := h.1
    omega
  · rw [flF_den]
    have := h.2
    have := x.den_pos
    omega
/-! The functions at valid fractions. -/
theorem floor_x {w : World} {s : Bool} {v u : Value} {x : Rat} (h : RA w s v u (some x)) : Calls Tryz.prog 11 #[.agg #[.bool s, v, u]] w (RatO true (some (flF x)) w) := floor_o h
theorem ceil_x {w : World} {s : Bool} {v u : Value} {x : Rat} (h : RA w s v u (some x)) : Calls Tryz.prog 12 #[.agg #[.bool s, v, u]] w (RatO true (some (ceF x)) w) := ceil_o h
theorem near_val {x : Rat} (hf : fit (x + half)) : nearO (some x) = some (flF (x + half)) := by
  show floorO (bq addF (some x) (mkFr 1 2)) = _
  rw [mk_half, bq_some]
  unfold addF
  rw [capF_yes hf]
  rfl
theorem near_x {w : World} {s : Bool} {v u : Value} {x : Rat} (h : RA w s v u (some x)) (hf : fit (x + half)) : Calls Tryz.prog 13 #[.agg #[.bool s, v, u]] w (RatO true (some (flF (x + half))) w) :=
  (near_o h).mono fun e w' hh => hh.eqo (near_val hf)
theorem frac_x {w : World} {s : Bool} {v u : Value} {x : Rat} (h : RA w s v u (some x)) (hf : fit (x - flF x)) : Calls Tryz.prog 18 #[.agg #[.bool s, v, u]] w (RatO true (some (x - flF x)) w) :=
  (frac_o h).mono fun e w' hh => hh.eqo (by show bq subF (some x) (some (flF x)) = _; rw [bq_some]; unfold subF; exact capF_yes hf)
theorem dist_x {w : World} {s : Bool} {v u : Value} {x d : Rat} (h : RA w s v u (some x)) (hf : fit (x + half)) (hg : fit (x - flF (x + half))) (hd : maxF (x - flF (x + half)) (-(x - flF (x + half))) = d) : Calls Tryz.prog 17 #[.agg #[.bool s, v, u]] w (RatO true (some d) w) :=
  (dist_o h).mono fun e w' hh => hh.eqo (by
    subst hd
    show absO (bq subF (some x) (nearO (some x))) = _
    rw [near_val hf, bq_some]
    unfold subF
    rw [capF_yes hg]
    rfl)
theorem one_x (w : World) : Calls Tryz.prog 14 #[.int .i64 1] w (RatO true (some ((1 : Int) : Rat)) w) := int_o 1 (by decide) (by decide) w
theorem half_x (w : World) : Calls Tryz.prog 22 #[.int .i64 1, .int .i64 2] w (RatO true (some half) w) :=
  (of_o 1 2 (by decide) (by decide) (by decide) (by decide) w).mono fun e w' hh => hh.eqo mk_half
theorem isint_x {w : World} {s : Bool} {v u : Value} {x : Rat} {p : Bool} (h : RA w s v u (some x)) (hp : decide (x.den = 1) = p) : Calls Tryz.prog 15 #[.agg #[.bool s, v, u]] w (RetB (.bool p) w) := by
  have hf := h.fitO x rfl
  obtain ⟨A, D, r, e⟩ := h
  obtain ⟨-, -, e2⟩ := rval_lists e
  have hr : rok s A D = true := by rw [rok_isSome, e]; rfl
  have hh := impl_RatIsInt s v u A D w r
  have f2 := hf.2
  rw [gzl_nat (by omega) f2] at e2
  rw [hr, Bool.true_and, show decide (D = [1]) = p from by rw [← hp, ← e2]; exact decide_eq_decide.2 rep_one] at hh
  exact hh
theorem add_x {w : World} {s t : Bool} {v u v' u' : Value} {x y z : Rat} (h : RA w s v u (some x)) (h' : RA w t v' u' (some y)) (hz : x + y = z) (hf : fit z) : Calls Tryz.prog 21 #[.agg #[.bool s, v, u], .agg #[.bool t, v', u']] w (RatO true (some z) w) :=
  (add_o h h').mono fun e w' hh => hh.eqo (by subst hz; rw [bq_some]; unfold addF; exact capF_yes hf)
theorem eqs_x {w : World} {s t : Bool} {v u v' u' : Value} {x : Rat} (h : RA w s v u (some x)) (h' : RA w t v' u' (some x)) : Calls Tryz.prog 20 #[.agg #[.bool s, v, u], .agg #[.bool t, v', u']] w (RetB (.bool true) w) := eq_rat h.x h'.x (decide_eq_true rfl)
theorem eq_x {w : World} {s t : Bool} {v u v' u' : Value} {x y : Rat} {p : Bool} (h : RA w s v u (some x)) (h' : RA w t v' u' (some y)) (hz : decide (x = y) = p) : Calls Tryz.prog 20 #[.agg #[.bool s, v, u], .agg #[.bool t, v', u']] w (RetB (.bool p) w) := eq_rat h.x h'.x hz
theorem eqn_x {w : World} {s t : Bool} {v u v' u' : Value} {x y : Rat} (h : RA w s v u (some x)) (h' : RA w t v' u' (some y)) (hz : x = y) : Calls Tryz.prog 20 #[.agg #[.bool s, v, u], .agg #[.bool t, v', u']] w (RetB (.bool true) w) := by
  subst hz; exact eqs_x h h'
end Go.Proofs.YtookglpeieennaaGreat
