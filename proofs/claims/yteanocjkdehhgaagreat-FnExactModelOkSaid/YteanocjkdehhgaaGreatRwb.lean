import Derived.Test.YteanocjkdehhgaaGreatRwa
import Derived.Test.YteanocjkdehhgaaGreatTos
set_option maxRecDepth 100000
set_option maxHeartbeats 6400000
set_option linter.unusedVariables false
set_option linter.unusedSimpArgs false
namespace Go.Proofs.YteanocjkdehhgaaGreat
open Go.RowKit
open Go.Lib (hid)
def rowOk (K : List Tq) (x : Int) (s : Bool) (A D : List Int) (z : Int) : Bool := tok K z && (decide (1 ≤ x) && decide (x ≤ 3)) && rok s A D
theorem impl_TermsOk_rw {t v u : Value} {K : List Tq} {A D : List Int} (hK : SmT K) (z : Int) (z0 : -9223372036854775808 ≤ z) (z1 : z ≤ 9223372036854775807) (W : World) (g : RwW W t v u K A D) : Calls Tryz.prog 87 #[t, .int .i64 z] W (RetB (.bool (tok K z)) W) := by
 obtain ⟨⟨_, _, _, a1⟩, -⟩ := g
 obtain ⟨a, c, rfl⟩ := a1.form
 exact impl_TermsOk hK z z0 z1 W a1
theorem spec_TermsOk_rw {t v u : Value} {K : List Tq} {A D : List Int} (hK : SmT K) (z : Int) (z0 : -9223372036854775808 ≤ z) (z1 : z ≤ 9223372036854775807) (W : World) (g : RwW W t v u K A D) : Calls Tryz.prog 77 #[t, .int .i64 z] W (RetB (.bool (tok K z)) W) := by
 obtain ⟨⟨_, _, _, a1⟩, -⟩ := g
 obtain ⟨a, c, rfl⟩ := a1.form
 exact spec_TermsOk hK z z0 z1 W a1
theorem impl_RowOk {t v u : Value} {K : List Tq} {A D : List Int} (x : Int) (s : Bool) (hK : SmT K) (la : A.length ≤ 1048576) (ld : D.length ≤ 1048576) (z : Int) (z0 : -9223372036854775808 ≤ z) (z1 : z ≤ 9223372036854775807) (w : World) (h : RwW w t v u K A D) :
  Calls Tryz.prog 65 #[.agg #[t, .int .i64 x, .bool s, v, u], .int .i64 z] w (RetB (.bool (rowOk K x s A D z)) w) := by
 obtain ⟨a1, c1, b1, d1, e1, f1, rfl, rfl, rfl⟩ := h.form
 have B := hid (below_new' (w := w) (o := .cells #[.slice a1 K.length c1, .int .i64 x, .bool s, .slice b1 A.length d1, .slice e1 D.length f1] 77))
 have LX := hid (LocA.new (w := w) (T := 77) (cs := #[.slice a1 K.length c1, .int .i64 x, .bool s, .slice b1 A.length d1, .slice e1 D.length f1]))
 have H := hid (h.old B.out)
 clear h
 have KT := hid (fun (W : World) (g : RwW W (.slice a1 K.length c1) (.slice b1 A.length d1) (.slice e1 D.length f1) K A D) => impl_TermsOk_rw hK z z0 z1 W g)
 have KR := hid (fun (W : World) (g : RwW W (.slice a1 K.length c1) (.slice b1 A.length d1) (.slice e1 D.length f1) K A D) => impl_RatOk s (.slice b1 A.length d1) (.slice e1 D.length f1) A D W (g.rl la ld))
 obtain ⟨R, hR⟩ : ∃ R, R = rowOk K x s A D z := ⟨_, rfl⟩
 rw [← hR]
 have HR := hid hR
 clear hR
 generalize hW : w.alloc (.cells #[.slice a1 K.length c1, .int .i64 x, .bool s, .slice b1 A.length d1, .slice e1 D.length f1] 77) = W0 at B LX H
 have HW := hid hW
 clear hW
 cases ht : tok K z with
 |false =>
  rw [ht] at KT
  go_enter Tryz.func65, Tryz.ntmps65
  go_wp2_with fail
  rw [HW.out]
  (with_reducible refine (KT.out _ H.out).mono ?_)
  rintro e w1 ⟨rfl, g1⟩
  have H := hid (H.out.old g1)
  have LX := hid (LX.out.old g1)
  have B := hid (B.out.trans (g1.mono B.out.size))
  have q0 := LX.out.c 1 rfl
  have q1 := LX.out.c 2 rfl
  have q2 := LX.out.c 3 rfl
  have q3 := LX.out.c 4 rfl
  clear g1
  go_wp2
  go_ret
  exact ret_bool' (by rw [HR.out, rowOk, ht]; rfl) B.out
 |true =>
  rw [ht] at KT
  by_cases hx : 1 ≤ x
  case neg =>
   have u0 : ¬ (1 : Int) ≤ x := hx
   have u1 : x < 1 := by omega
   go_enter Tryz.func65, Tryz.ntmps65
   go_wp2_with fail
   rw [HW.out]
   (with_reducible refine (KT.out _ H.out).mono ?_)
   rintro e w1 ⟨rfl, g1⟩
   have H := hid (H.out.old g1)
   have LX := hid (LX.out.old g1)
   have B := hid (B.out.trans (g1.mono B.out.size))
   have q0 := LX.out.c 1 rfl
   have q1 := LX.out.c 2 rfl
   have q2 := LX.out.c 3 rfl
   have q3 := LX.out.c 4 rfl
   clear g1
   go_wp2
   go_ret
   exact ret_bool' (by rw [HR.out, rowOk, ht, decide_eq_false (show ¬ 1 ≤ x by omega)]; rfl) B.out
  by_cases hy : x ≤ 3
  case neg =>
   have u1 : ¬ x ≤ 3 := hy
   have u2 : (3 : Int) < x := by omega
   go_enter Tryz.func65, Tryz.ntmps65
   go_wp2_with fail
   rw [HW.out]
   (with_reducible refine (KT.out _ H.out).mono ?_)
   rintro e w1 ⟨rfl, g1⟩
   have H := hid (H.out.old g1)
   have LX := hid (LX.out.old g1)
   have B := hid (B.out.trans (g1.mono B.out.size))
   have q0 := LX.out.c 1 rfl
   have q1 := LX.out.c 2 rfl
   have q2 := LX.out.c 3 rfl
   have q3 := LX.out.c 4 rfl
   clear g1
   go_wp2
   go_ret
   exact ret_bool' (by rw [HR.out, rowOk, ht, decide_eq_true (show 1 ≤ x by omega), decide_eq_false (show ¬ x ≤ 3 by omega)]; rfl) B.out
  go_enter Tryz.func65, Tryz.ntmps65
  go_wp2_with fail
  rw [HW.out]
  (with_reducible refine (KT.out _ H.out).mono ?_)
  rintro e w1 ⟨rfl, g1⟩
  have H := hid (H.out.old g1)
  have LX := hid (LX.out.old g1)
  have B := hid (B.out.trans (g1.mono B.out.size))
  have q0 := LX.out.c 1 rfl
  have q1 := LX.out.c 2 rfl
  have q2 := LX.out.c 3 rfl
  have q3 := LX.out.c 4 rfl
  clear g1
  go_wp2_with fail
  (with_reducible refine (KR.out _ H.out).mono ?_)
  rintro e w2 ⟨rfl, g1⟩
  have B := hid (B.out.trans (g1.mono B.out.size))
  clear g1 q0 q1 q2 q3
  go_wp2
  go_ret
  exact ret_bool' (by rw [HR.out, rowOk, ht, decide_eq_true (show 1 ≤ x by omega), decide_eq_true (show x ≤ 3 by omega)]; rfl) B.out
theorem spec_RowOk {t v u : Value} {K : List Tq} {A D : List Int} (x : Int) (s : Bool) (hK : SmT K) (la : A.length ≤ 1048576) (ld : D.length ≤ 1048576) (z : Int) (z0 : -9223372036854775808 ≤ z) (z1 : z ≤ 9223372036854775807) (w : World) (h : RwW w t v u K A D) :
  Calls Tryz.prog 80 #[.agg #[t, .int .i64 x, .bool s, v, u], .int .i64 z] w (RetB (.bool (rowOk K x s A D z)) w) := by
 obtain ⟨a1, c1, b1, d1, e1, f1, rfl, rfl, rfl⟩ := h.form
 have B := hid (below_new' (w := w) (o := .cells #[.slice a1 K.length c1, .int .i64 x, .bool s, .slice b1 A.length d1, .slice e1 D.length f1] 77))
 have LX := hid (LocA.new (w := w) (T := 77) (cs := #[.slice a1 K.length c1, .int .i64 x, .bool s, .slice b1 A.length d1, .slice e1 D.length f1]))
 have H := hid (h.old B.out)
 clear h
 have KT := hid (fun (W : World) (g : RwW W (.slice a1 K.length c1) (.slice b1 A.length d1) (.slice e1 D.length f1) K A D) => spec_TermsOk_rw hK z z0 z1 W g)
 have KR := hid (fun (W : World) (g : RwW W (.slice a1 K.length c1) (.slice b1 A.length d1) (.slice e1 D.length f1) K A D) => spec_RatOk s (.slice b1 A.length d1) (.slice e1 D.length f1) A D W (g.rl la ld))
 obtain ⟨R, hR⟩ : ∃ R, R = rowOk K x s A D z := ⟨_, rfl⟩
 rw [← hR]
 have HR := hid hR
 clear hR
 generalize hW : w.alloc (.cells #[.slice a1 K.length c1, .int .i64 x, .bool s, .slice b1 A.length d1, .slice e1 D.length f1] 77) = W0 at B LX H
 have HW := hid hW
 clear hW
 cases ht : tok K z with
 |false =>
  rw [ht] at KT
  go_enter Tryz.func80, Tryz.ntmps80
  go_wp2_with fail
  rw [HW.out]
  (with_reducible refine (KT.out _ H.out).mono ?_)
  rintro e w1 ⟨rfl, g1⟩
  have H := hid (H.out.old g1)
  have LX := hid (LX.out.old g1)
  have B := hid (B.out.trans (g1.mono B.out.size))
  have q0 := LX.out.c 1 rfl
  have q1 := LX.out.c 2 rfl
  have q2 := LX.out.c 3 rfl
  have q3 := LX.out.c 4 rfl
  clear g1
  go_wp2
  go_ret
  exact ret_bool' (by rw [HR.out, rowOk, ht]; rfl) B.out
 |true =>
  rw [ht] at KT
  by_cases hx : 1 ≤ x
  case neg =>
   have u0 : ¬ (1 : Int) ≤ x := hx
   have u1 : x < 1 := by omega
   go_enter Tryz.func80, Tryz.ntmps80
   go_wp2_with fail
   rw [HW.out]
   (with_reducible refine (KT.out _ H.out).mono ?_)
   rintro e w1 ⟨rfl, g1⟩
   have H := hid (H.out.old g1)
   have LX := hid (LX.out.old g1)
   have B := hid (B.out.trans (g1.mono B.out.size))
   have q0 := LX.out.c 1 rfl
   have q1 := LX.out.c 2 rfl
   have q2 := LX.out.c 3 rfl
   have q3 := LX.out.c 4 rfl
   clear g1
   go_wp2_with fail
   (with_reducible refine (l01In_any x 1 3 _).mono ?_)
   rintro e w1' ⟨rfl, rfl⟩
   go_wp2
   go_ret
   exact ret_bool' (by rw [HR.out, rowOk, ht, decide_eq_false (show ¬ 1 ≤ x by omega)]; rfl) B.out
  by_cases hy : x ≤ 3
  case neg =>
   have u1 : ¬ x ≤ 3 := hy
   have u2 : (3 : Int) < x := by omega
   go_enter Tryz.func80, Tryz.ntmps80
   go_wp2_with fail
   rw [HW.out]
   (with_reducible refine (KT.out _ H.out).mono ?_)
   rintro e w1 ⟨rfl, g1⟩
   have H := hid (H.out.old g1)
   have LX := hid (LX.out.old g1)
   have B := hid (B.out.trans (g1.mono B.out.size))
   have q0 := LX.out.c 1 rfl
   have q1 := LX.out.c 2 rfl
   have q2 := LX.out.c 3 rfl
   have q3 := LX.out.c 4 rfl
   clear g1
   go_wp2_with fail
   (with_reducible refine (l01In_any x 1 3 _).mono ?_)
   rintro e w1' ⟨rfl, rfl⟩
   go_wp2
   go_ret
   exact ret_bool' (by rw [HR.out, rowOk, ht, decide_eq_true (show 1 ≤ x by omega), decide_eq_false (show ¬ x ≤ 3 by omega)]; rfl) B.out
  go_enter Tryz.func80, Tryz.ntmps80
  go_wp2_with fail
  rw [HW.out]
  (with_reducible refine (KT.out _ H.out).mono ?_)
  rintro e w1 ⟨rfl, g1⟩
  have H := hid (H.out.old g1)
  have LX := hid (LX.out.old g1)
  have B := hid (B.out.trans (g1.mono B.out.size))
  have q0 := LX.out.c 1 rfl
  have q1 := LX.out.c 2 rfl
  have q2 := LX.out.c 3 rfl
  have q3 := LX.out.c 4 rfl
  clear g1
  go_wp2_with fail
  (with_reducible refine (l01In_any x 1 3 _).mono ?_)
  rintro e w1' ⟨rfl, rfl⟩
  go_wp2_with fail
  (with_reducible refine (KR.out _ H.out).mono ?_)
  rintro e w2 ⟨rfl, g1⟩
  have B := hid (B.out.trans (g1.mono B.out.size))
  clear g1 q0 q1 q2 q3
  go_wp2
  go_ret
  exact ret_bool' (by rw [HR.out, rowOk, ht, decide_eq_true (show 1 ≤ x by omega), decide_eq_true (show x ≤ 3 by omega)]; rfl) B.out
end Go.Proofs.YteanocjkdehhgaaGreat
