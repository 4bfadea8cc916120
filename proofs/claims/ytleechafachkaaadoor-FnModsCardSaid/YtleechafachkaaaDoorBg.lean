/- Big integers by their values: the program's functions in the laws' words. -/
import Derived.Test.YtleechafachkaaaDoorNums
import Derived.Test.YtleechafachkaaaDoorMw
import Derived.Test.YtleechafachkaaaDoorFb
namespace Go.Proofs.YtleechafachkaaaDoor
open Go.RowKit
open Go.Lib (hid)
set_option linter.unusedVariables false

theorem gz_ok {Z : Int} (h : (Z.natAbs : Int) < pw 60) : bok (gzs Z) (gzl Z) = true ∧ sval (gzs Z) (val (gzl Z)) = Z := by
  have e1 : gzl Z = rep (Z.natAbs : Int).toNat := by unfold gzl; rw [capped_of h]
  have hv : val (gzl Z) = (Z.natAbs : Int) := by rw [e1, val_rep' (by omega)]
  have hn : nok (gzl Z) = true := by rw [e1]; exact nok_iff.2 ⟨rep_len h, Can_rep _⟩
  by_cases hz : Z < 0
  · have hs : gzs Z = true := by unfold gzs; simp; omega
    rw [hs]
    refine ⟨bok_ne hn ?_, by rw [hv]; unfold sval; rw [if_pos rfl]; omega⟩
    intro e
    rw [e] at hv
    simp only [val] at hv
    omega
  · have hs : gzs Z = false := by unfold gzs; simp; omega
    rw [hs]
    exact ⟨bok_pos hn, by rw [hv]; show ((Z.natAbs : Nat) : Int) = Z; omega⟩
theorem gz_of {s : Bool} {L : List Int} (h : bok s L = true) : gzs (sval s (val L)) = s ∧ gzl (sval s (val L)) = L := by
  obtain ⟨hn, hne⟩ := bok_iff.1 h
  have h0 := val_nonneg (nok_lim hn)
  have hlt := nok_lt hn
  refine ⟨?_, by rw [gzl_sval h0, capped_of hlt, rep_val (nok_iff.1 hn).2]⟩
  cases s with
  | false => unfold gzs sval; simp; omega
  | true =>
    have := pos_of h
    exact gzs_sval this hlt

/-- The struct of sign s and slice u is the integer X. -/
def BigV (w : World) (s : Bool) (u : Value) (X : Int) : Prop := ∃ L lo hi, Obj w u L lo hi ∧ bok s L = true ∧ sval s (val L) = X
theorem BigV.old {w w' : World} {s : Bool} {u : Value} {X : Int} (h : BigV w s u X) (hb : Below w.heap.size w w') : BigV w' s u X := by
  obtain ⟨L, lo, hi, o, a, b⟩ := h
  exact ⟨L, lo, hi, o.old hb, a, b⟩
theorem BigV.sign {w : World} {s : Bool} {u : Value} {X : Int} (h : BigV w s u X) : s = gzs X := by
  obtain ⟨L, _, _, _, a, rfl⟩ := h
  exact (gz_of a).1.symm
theorem BigV.bound {w : World} {s : Bool} {u : Value} {X : Int} (h : BigV w s u X) : (X.natAbs : Int) < pw 60 := by
  obtain ⟨L, _, _, _, a, rfl⟩ := h
  have hn := (bok_iff.1 a).1
  rw [sval_abs (val_nonneg (nok_lim hn))]
  exact nok_lt hn
theorem BigV.form {w : World} {s : Bool} {u : Value} {X : Int} (h : BigV w s u X) : ∃ (a : Option Addr) (n c : Nat), u = .slice a n c := by
  obtain ⟨L, _, _, o, _, _⟩ := h
  obtain ⟨a, c, e, -⟩ := Ints_form o.ints
  exact ⟨a, _, c, e⟩
/-- A number is the integer of sign +. -/
theorem BigV.ofNum {w : World} {u : Value} {X : Int} (h : NumO w u X) : BigV w false u X := by
  obtain ⟨L, lo, hi, o, a, b⟩ := h
  exact ⟨L, lo, hi, o, bok_pos a, by rw [← b]; rfl⟩
def BigP (X : Int) (w : World) (e : Ending) (w' : World) : Prop := ∃ s a n c, e = .returned (.agg #[.bool s, .slice a n c]) ∧ BigV w' s (.slice a n c) X ∧ Below w.heap.size w w'
theorem BigP_of {Z : Int} {w w' : World} {e : Ending} (h : OwnG (gzs Z) (gzl Z) w e w') (hb : (Z.natAbs : Int) < pw 60) : BigP Z w e w' := by
  obtain ⟨v, he, hi, hw⟩ := h
  obtain ⟨h1, h2⟩ := gz_ok hb
  obtain ⟨a, c, rfl, -⟩ := Ints_form hi
  exact ⟨gzs Z, a, _, c, he, ⟨gzl Z, _, _, Obj.of hi, h1, h2⟩, hw⟩
theorem big_len {s : Bool} {L : List Int} (h : bok s L = true) : L.length ≤ 1073741824 := by have := nok_len (bok_iff.1 h).1; omega
theorem add_big {w : World} {s t : Bool} {u v : Value} {X Y : Int} (h1 : BigV w s u X) (h2 : BigV w t v Y) (hb : ((X + Y).natAbs : Int) < pw 60) :
    Calls Tryd.prog 8 #[.agg #[.bool s, u], .agg #[.bool t, v]] w (BigP (X + Y) w) := by
  obtain ⟨A, l1, u1, o1, a1, rfl⟩ := h1
  obtain ⟨B, l2, u2, o2, a2, rfl⟩ := h2
  refine (impl_BigIntAdd s t u v A B (big_len a1) (big_len a2) _ _ w o1.ints o2.ints).mono fun e w' h => ?_
  rw [bin_yes a1 a2] at h
  exact BigP_of h hb
theorem sub_big {w : World} {s t : Bool} {u v : Value} {X Y : Int} (h1 : BigV w s u X) (h2 : BigV w t v Y) (hb : ((X - Y).natAbs : Int) < pw 60) :
    Calls Tryd.prog 12 #[.agg #[.bool s, u], .agg #[.bool t, v]] w (BigP (X - Y) w) := by
  obtain ⟨A, l1, u1, o1, a1, rfl⟩ := h1
  obtain ⟨B, l2, u2, o2, a2, rfl⟩ := h2
  refine (impl_BigIntSub s t u v A B (big_len a1) (big_len a2) _ _ w o1.ints o2.ints).mono fun e w' h => ?_
  rw [bin_yes a1 a2] at h
  exact BigP_of h hb
theorem mul_big {w : World} {s t : Bool} {u v : Value} {X Y : Int} (h1 : BigV w s u X) (h2 : BigV w t v Y) (hb : ((X * Y).natAbs : Int) < pw 60) :
    Calls Tryd.prog 9 #[.agg #[.bool s, u], .agg #[.bool t, v]] w (BigP (X * Y) w) := by
  obtain ⟨A, l1, u1, o1, a1, rfl⟩ := h1
  obtain ⟨B, l2, u2, o2, a2, rfl⟩ := h2
  refine (impl_BigIntMul s t u v A B (big_len a1) (big_len a2) _ _ w o1.ints o2.ints).mono fun e w' h => ?_
  rw [bin_yes a1 a2] at h
  exact BigP_of h hb
theorem neg_big {w : World} {s : Bool} {u : Value} {X : Int} (h1 : BigV w s u X) : Calls Tryd.prog 14 #[.agg #[.bool s, u]] w (BigP (-X) w) := by
  have hb := h1.bound
  obtain ⟨A, l1, u1, o1, a1, rfl⟩ := h1
  refine (impl_BigIntNeg s u A (big_len a1) _ w o1.ints).mono fun e w' h => ?_
  rw [una_yes a1] at h
  exact BigP_of h (by rw [Int.natAbs_neg]; exact hb)
theorem of_big {n : Int} (h0 : -9223372036854775808 ≤ n) (h1 : n ≤ 9223372036854775807) (w : World) : Calls Tryd.prog 15 #[.int .i64 n] w (BigP n w) :=
  (impl_BigIntOf n h0 h1 w).mono fun e w' h => BigP_of h (i64_small h0 h1)
theorem ok_big {w : World} {s : Bool} {u : Value} {X : Int} (h1 : BigV w s u X) : Calls Tryd.prog 10 #[.agg #[.bool s, u]] w (RetB (.bool true) w) := by
  obtain ⟨A, l1, u1, o1, a1, rfl⟩ := h1
  have := impl_BigIntOk_own s u A (big_len a1) _ w o1.ints
  rw [a1] at this
  exact this
theorem cmp_big {w : World} {s t : Bool} {u v : Value} {X Y z : Int} (h1 : BigV w s u X) (h2 : BigV w t v Y) (hz : z = sgn (X - Y)) :
    Calls Tryd.prog 13 #[.agg #[.bool s, u], .agg #[.bool t, v]] w (RetB (.int .i64 z) w) := by
  obtain ⟨A, l1, u1, o1, a1, rfl⟩ := h1
  obtain ⟨B, l2, u2, o2, a2, rfl⟩ := h2
  have := impl_BigIntCmp s t u v A B (big_len a1) (big_len a2) _ _ w o1.ints o2.ints
  rw [cmpB_yes a1 a2, ← hz] at this
  exact this
/-- The text of an integer. -/
def fmtZ (X : Int) : ByteArray := fmtB (gzs X) (gzl X)
theorem fmt_big {w : World} {s : Bool} {u : Value} {X : Int} {z : ByteArray} (h1 : BigV w s u X) (hp : Pow10 w) (hz : z = fmtZ X) :
    Calls Tryd.prog 11 #[.agg #[.bool s, u]] w (StrP z w) := by
  obtain ⟨A, l1, u1, o1, a1, rfl⟩ := h1
  have := impl_FormatBigInt s u A (big_len a1) _ w o1.ints hp
  rw [hz]
  unfold fmtZ
  rw [(gz_of a1).1, (gz_of a1).2]
  exact this
theorem make_big (a : Option Addr) (n c : Nat) (Z : List Int) (t : Int) (hZ : Z.length ≤ 1048576) (w : World) (hr : ByteRow w a n Z) (t0 : 0 ≤ t) (t1 : t ≤ 1000) :
    Calls Tryd.prog 7 #[.slice a n c, .int .i64 t] w (fun e w' => ∃ X s a n c, -pw 3 < X ∧ X < pw 3 ∧ e = .returned (.agg #[.bool s, .slice a n c]) ∧ BigV w' s (.slice a n c) X ∧ Below w.heap.size w w') := by
  refine (MakeWhole_any a n c Z t hZ w hr t0 t1).mono fun e w' h => ?_
  obtain ⟨X, u, h1, h2, he, hi, hb⟩ := h
  have := pw3_1000
  obtain ⟨s, a, n, c, e1, e2, e3⟩ := BigP_of (Z := X) ⟨u, he, hi, hb⟩ (by omega)
  exact ⟨X, s, a, n, c, h1, h2, e1, e2, e3⟩
theorem mul_ab {x y P Q : Int} (hx : -P < x ∧ x < P) (hy : -Q < y ∧ y < Q) : -(P * Q) < x * y ∧ x * y < P * Q := by
  have h1 : (x * y).natAbs = x.natAbs * y.natAbs := Int.natAbs_mul x y
  have h2 : (x.natAbs : Int) * (y.natAbs : Int) < P * Q := by
    have a1 : (x.natAbs : Int) < P := by omega
    have a2 : (y.natAbs : Int) < Q := by omega
    exact (mul_bd (by omega) a1 (by omega) a2).2
  have h3 : ((x * y).natAbs : Int) = (x.natAbs : Int) * (y.natAbs : Int) := by rw [h1]; exact Int.natCast_mul _ _
  omega
theorem fmt_m7 : fmtZ (-7) = ByteArray.mk #[45, 55] := by
  have hs : gzs (-7) = true := by decide
  have hl : gzl (-7) = [7] := by
    unfold gzl
    rw [capped_of (by decide)]
    show rep 7 = [7]
    rw [rep_pos (by decide), show 7 / 1000000000 = 0 from rfl, rep_zero]
    rfl
  have hd : Lib.itoa 7 = [55] := by
    unfold Lib.itoa
    rw [if_neg (by decide)]
    show Lib.decDigits 7 = [55]
    rw [dec_small (by decide)]
    rfl
  unfold fmtZ
  rw [hs, hl, fmtB_neg (by decide), formatL_yes (by decide) (by decide)]
  show ByteArray.mk #[45] ++ bts (Lib.itoa 7) = _
  rw [hd]
  rfl
end Go.Proofs.YtleechafachkaaaDoor
