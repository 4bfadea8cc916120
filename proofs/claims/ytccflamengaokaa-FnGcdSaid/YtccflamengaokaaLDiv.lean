/- The walk of the law FnDiv. -/
import Derived.Test.YtccflamengaokaaImd
import Derived.Test.YtccflamengaokaaNums
namespace Go.Proofs.Ytccflamengaokaa
open Go.RowKit
open Go.Lib (hid)
set_option linter.unusedVariables false

def Num2 (X Y : Int) (w : World) (e : Ending) (w' : World) : Prop := ∃ v u, e = .returned (.tuple #[v, u]) ∧ NumO w' v X ∧ NumO w' u Y ∧ Below w.heap.size w w'
theorem NumO_list {w : World} {v : Value} {V : Int} (h : NumO w v V) : ∃ L lo hi, Obj w v L lo hi ∧ nok L = true ∧ L = rep V.toNat ∧ val L = V := by
  obtain ⟨L, lo, hi, o, a, b⟩ := h
  exact ⟨L, lo, hi, o, a, by rw [← b, rep_val (nok_iff.1 a).2], b⟩
theorem div_num {v u : Value} {X Y : Int} {w : World} (h1 : NumO w v X) (h2 : NumO w u Y) (hY : 0 < Y) : Calls Try.prog 22 #[v, u] w (Num2 (X / Y) (X % Y) w) := by
  have n1 := h1.nonneg
  have n2 := h2.nonneg
  obtain ⟨A, l1, u1, o1, a1, rfl⟩ := h1
  obtain ⟨B, l2, u2, o2, a2, rfl⟩ := h2
  have hne : B ≠ [] := by
    intro e
    subst e
    simp [val] at hY
  refine (impl_NatDiv v u A B (nok_big a1) (nok_big a2) _ _ w o1.ints o2.ints).mono fun e w' h => ?_
  obtain ⟨q, r, he, hq, hr, -, hb⟩ := h
  obtain ⟨e1, e2⟩ := div_yes a1 a2 hne
  rw [e1] at hq
  rw [e2] at hr
  have k1 : val A / val B ≤ val A := Int.ediv_le_self _ n1.1
  have k2 := Int.emod_lt_of_pos (val A) hY
  have r1 := nok_rep (V := val A / val B) (Int.ediv_nonneg n1.1 n2.1) (by omega)
  have r2 := nok_rep (V := val A % val B) (Int.emod_nonneg _ (by omega)) (by omega)
  exact ⟨q, r, he, ⟨_, _, _, Obj.of hq, r1.1, r1.2⟩, ⟨_, _, _, Obj.of hr, r2.1, r2.2⟩, hb⟩
theorem div_zero {v u : Value} {X : Int} {w : World} (h1 : NumO w v X) (h2 : NumO w u 0) : Calls Try.prog 22 #[v, u] w (fun e w' => ∃ a c a' c', e = .returned (.tuple #[.slice a 0 c, .slice a' 0 c']) ∧ Below w.heap.size w w') := by
  obtain ⟨A, l1, u1, o1, a1, rfl⟩ := h1
  obtain ⟨B, l2, u2, o2, a2, hb⟩ := h2
  have hnil : B = [] := Can_val (nok_iff.1 a2).2 hb
  subst hnil
  refine (impl_NatDiv v u A [] (nok_big a1) (by decide) _ _ w o1.ints o2.ints).mono fun e w' h => ?_
  obtain ⟨q, r, he, hq, hr, -, hb⟩ := h
  obtain ⟨e1, e2⟩ := div_no (A := A) (B := []) (.inr (.inr rfl))
  rw [e1] at hq
  rw [e2] at hr
  obtain ⟨x, y, rfl, -⟩ := Ints_form hq
  obtain ⟨x', y', rfl, -⟩ := Ints_form hr
  exact ⟨x, y, x', y', he, hb⟩
/-- A number's slice, as a slice. -/
theorem NumO_slice {w : World} {v : Value} {V : Int} (h : NumO w v V) : ∃ (a : Option Addr) (n c : Nat), v = .slice a n c ∧ (n = 0 ↔ V = 0) ∧ n ≤ 60 := by
  obtain ⟨L, lo, hi, o, a, b⟩ := h
  obtain ⟨x, y, e, -⟩ := Ints_form o.ints
  refine ⟨x, L.length, y, e, ?_, nok_len a⟩
  constructor
  · intro h0
    have : L = [] := List.length_eq_zero_iff.1 h0
    subst this
    rw [← b]; rfl
  · intro h0
    have := Can_val (nok_iff.1 a).2 (b.trans h0)
    subst this; rfl

set_option maxRecDepth 100000 in
set_option maxHeartbeats 3200000 in
theorem law_Div (a : Option Addr) (n c : Nat) (Z : List Int) (hn : n ≤ maxLen) (w : World) (hr : ByteRow w a n Z) :
    Calls Try.prog 4 #[.slice a n c] w fun e w' => e = .returned (.bool true) ∧ Below w.heap.size w w' := by
  unfold maxLen at hn
  by_cases hA : 1048576 < (n : Int)
  · go_enter Try.func4, Try.ntmps4
    go_wp2
    go_ret
    exact ⟨rfl, Below.refl _ _⟩
  have hZ : Z.length ≤ 1048576 := by have := hr.1; omega
  have KM := hid (fun (W : World) (h : ByteRow W a n Z) (t : Int) t0 t1 => make_num a n c Z t hZ W h t0 t1)
  have R := hid hr
  have B := hid (Below.refl w.heap.size w)
  clear hr
  go_enter Try.func4, Try.ntmps4
  go_wp2_with fail
  refine (KM.out _ R.out 1 (by decide) (by decide)).mono ?_
  rintro e w1 ⟨va, x, rfl, x0, x1, oa, b1⟩
  have X := hid oa
  have R := hid (ByteRow_below R.out b1)
  have B := hid (B.out.trans (b1.mono B.out.size))
  clear oa b1
  go_wp2_with fail
  refine (KM.out _ R.out 2 (by decide) (by decide)).mono ?_
  rintro e w2 ⟨vb, y, rfl, y0, y1, ob, b1⟩
  have Y := hid ob
  have X := hid (X.out.old b1)
  have B := hid (B.out.trans (b1.mono B.out.size))
  obtain ⟨ay, ny, cy, rfl, hny, hn60⟩ := NumO_slice ob
  have HNY := hid hny
  clear ob b1 hny R KM
  by_cases hy : y = 0
  · have hn0 : ny = 0 := HNY.out.2 hy
    subst hn0
    subst hy
    have hb0 : (((0 : Nat) : Int) == 0) = true := rfl
    go_wp2_with fail
    refine (div_zero X.out Y.out).mono ?_
    rintro e w3 ⟨aq, cq, ar, cr, rfl, b1⟩
    have B := hid (B.out.trans (b1.mono B.out.size))
    clear b1
    go_wp2_with fail
    refine (of_num (n := 7) (by decide) (by decide) _).mono ?_
    rintro e w4 ⟨v7, rfl, os, b1⟩
    have S := hid os
    have B := hid (B.out.trans (b1.mono B.out.size))
    clear os b1
    go_wp2_with fail
    refine (of_num (n := 6) (by decide) (by decide) _).mono ?_
    rintro e w5 ⟨v6, rfl, os, b1⟩
    have T := hid os
    have S := hid (S.out.old b1)
    have B := hid (B.out.trans (b1.mono B.out.size))
    clear os b1
    go_wp2_with fail
    refine (cmp_num S.out T.out (sgn_one (by decide))).mono ?_
    rintro e w6 ⟨rfl, b1⟩
    have B := hid (B.out.trans (b1.mono B.out.size))
    clear b1
    go_wp2
    go_ret
    exact ⟨rfl, B.out⟩
  · have hyp : 0 < y := by omega
    have hny0 : ¬ ny = 0 := fun h => hy (HNY.out.1 h)
    have hnz : ((ny : Int) == 0) = false := beq_eq_false_iff_ne.2 (by omega)
    have F := hid (show x % y < y ∧ x / y * y + x % y = x ∧ x / y * y < pw 60 ∧ x / y * y + x % y < pw 60 by
      have a1 := Int.emod_lt_of_pos x hyp
      have a2 := Int.emod_add_ediv_mul x y
      have a3 := Int.emod_nonneg x (show y ≠ 0 by omega)
      have a4 := pw_le (m := 4) (n := 60) (by omega)
      omega)
    clear hny0 hy
    go_wp2_with fail
    refine (div_num X.out Y.out hyp).mono ?_
    rintro e w3 ⟨q, r, rfl, oq, or, b1⟩
    have Q := hid oq
    have RR := hid or
    have X := hid (X.out.old b1)
    have Y := hid (Y.out.old b1)
    have B := hid (B.out.trans (b1.mono B.out.size))
    clear oq or b1
    go_wp2_with fail
    refine (ok_num Q.out).mono ?_
    rintro e w4 ⟨rfl, b1⟩
    have Q := hid (Q.out.old b1)
    have RR := hid (RR.out.old b1)
    have X := hid (X.out.old b1)
    have Y := hid (Y.out.old b1)
    have B := hid (B.out.trans (b1.mono B.out.size))
    clear b1
    go_wp2_with fail
    refine (ok_num RR.out).mono ?_
    rintro e w5 ⟨rfl, b1⟩
    have Q := hid (Q.out.old b1)
    have RR := hid (RR.out.old b1)
    have X := hid (X.out.old b1)
    have Y := hid (Y.out.old b1)
    have B := hid (B.out.trans (b1.mono B.out.size))
    clear b1
    go_wp2_with fail
    refine (cmp_num RR.out Y.out (sgn_neg F.out.1)).mono ?_
    rintro e w6 ⟨rfl, b1⟩
    have Q := hid (Q.out.old b1)
    have RR := hid (RR.out.old b1)
    have X := hid (X.out.old b1)
    have Y := hid (Y.out.old b1)
    have B := hid (B.out.trans (b1.mono B.out.size))
    clear b1
    go_wp2_with fail
    refine (mul_num Q.out Y.out F.out.2.2.1).mono ?_
    rintro e w7 ⟨vm, rfl, os, b1⟩
    have M := hid os
    have RR := hid (RR.out.old b1)
    have X := hid (X.out.old b1)
    have B := hid (B.out.trans (b1.mono B.out.size))
    clear os b1
    go_wp2_with fail
    refine (add_num M.out RR.out F.out.2.2.2).mono ?_
    rintro e w8 ⟨vs, rfl, os, b1⟩
    have S := hid os
    have X := hid (X.out.old b1)
    have B := hid (B.out.trans (b1.mono B.out.size))
    clear os b1
    go_wp2_with fail
    refine (cmp_num S.out X.out (sgn_zero F.out.2.1)).mono ?_
    rintro e w9 ⟨rfl, b1⟩
    have B := hid (B.out.trans (b1.mono B.out.size))
    clear b1
    go_wp2
    go_ret
    exact ⟨rfl, B.out⟩
end Go.Proofs.Ytccflamengaokaa
