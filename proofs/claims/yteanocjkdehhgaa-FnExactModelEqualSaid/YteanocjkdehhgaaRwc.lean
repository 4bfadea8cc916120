/- Rows: equal or not, both sides. -/
import Derived.Test.YteanocjkdehhgaaRwa
import Derived.Test.YteanocjkdehhgaaTeq
namespace Go.Proofs.Yteanocjkdehhgaa
open Go.RowKit
open Go.Lib (hid)
set_option linter.unusedVariables false

theorem impl_TermsEqual_rw {t1 v1 u1 t2 v2 u2 : Value} {K L : List Tq} {A D A' D' : List Int} (hK : SmT K) (hL : SmT L) (W : World) (g : RwW W t1 v1 u1 K A D) (g' : RwW W t2 v2 u2 L A' D') : Calls Try.prog 69 #[t1, t2] W (RetB (.bool (eqT K L)) W) := by
  obtain ⟨⟨_, _, _, a1⟩, -⟩ := g
  obtain ⟨⟨_, _, _, a2⟩, -⟩ := g'
  obtain ⟨_, _, rfl⟩ := a1.form
  obtain ⟨_, _, rfl⟩ := a2.form
  exact impl_TermsEqual hK hL W a1 a2
theorem spec_TermsEqual_rw {t1 v1 u1 t2 v2 u2 : Value} {K L : List Tq} {A D A' D' : List Int} (hK : SmT K) (hL : SmT L) (W : World) (g : RwW W t1 v1 u1 K A D) (g' : RwW W t2 v2 u2 L A' D') : Calls Try.prog 65 #[t1, t2] W (RetB (.bool (eqT K L)) W) := by
  obtain ⟨⟨_, _, _, a1⟩, -⟩ := g
  obtain ⟨⟨_, _, _, a2⟩, -⟩ := g'
  obtain ⟨_, _, rfl⟩ := a1.form
  obtain ⟨_, _, rfl⟩ := a2.form
  exact spec_TermsEqual hK hL W a1 a2
set_option maxRecDepth 100000 in
set_option maxHeartbeats 6400000 in
theorem impl_RowEqual {t1 v1 u1 t2 v2 u2 : Value} {K L : List Tq} {A D A' D' : List Int} (x y : Int) (s t : Bool) (hK : SmT K) (hL : SmT L) (la : A.length ≤ 1048576) (ld : D.length ≤ 1048576) (la' : A'.length ≤ 1048576) (ld' : D'.length ≤ 1048576) (w : World) (h : RwW w t1 v1 u1 K A D) (h' : RwW w t2 v2 u2 L A' D') :
    Calls Try.prog 71 #[.agg #[t1, .int .i64 x, .bool s, v1, u1], .agg #[t2, .int .i64 y, .bool t, v2, u2]] w (RetB (.bool (eqT K L && decide (x = y) && ((s == t) && decide (A = A') && decide (D = D')))) w) := by
  obtain ⟨a1, c1, b1, d1, e1, f1, rfl, rfl, rfl⟩ := h.form
  obtain ⟨a2, c2, b2, d2, e2, f2, rfl, rfl, rfl⟩ := h'.form
  have B := hid (below_new2 (w := w) (o := .cells #[.slice a1 K.length c1, .int .i64 x, .bool s, .slice b1 A.length d1, .slice e1 D.length f1] 91) (o' := .cells #[.slice a2 L.length c2, .int .i64 y, .bool t, .slice b2 A'.length d2, .slice e2 D'.length f2] 91))
  have L1 := hid ((LocA.at (T := 91) (w := w) (b := w.heap.size) (cs := #[.slice a1 K.length c1, .int .i64 x, .bool s, .slice b1 A.length d1, .slice e1 D.length f1]) rfl).new1 (o := .cells #[.slice a2 L.length c2, .int .i64 y, .bool t, .slice b2 A'.length d2, .slice e2 D'.length f2] 91))
  have L2 := hid (LocA.at (T := 91) (w := w.alloc (.cells #[.slice a1 K.length c1, .int .i64 x, .bool s, .slice b1 A.length d1, .slice e1 D.length f1] 91)) (b := w.heap.size + 1) (cs := #[.slice a2 L.length c2, .int .i64 y, .bool t, .slice b2 A'.length d2, .slice e2 D'.length f2]) (by simp))
  have H1 := hid (h.old B.out)
  have H2 := hid (h'.old B.out)
  clear h h'
  have KT := hid (fun (W : World) (g : RwW W (.slice a1 K.length c1) (.slice b1 A.length d1) (.slice e1 D.length f1) K A D) (g' : RwW W (.slice a2 L.length c2) (.slice b2 A'.length d2) (.slice e2 D'.length f2) L A' D') => impl_TermsEqual_rw hK hL W g g')
  have KR := hid (fun (W : World) (g : RwW W (.slice a1 K.length c1) (.slice b1 A.length d1) (.slice e1 D.length f1) K A D) (g' : RwW W (.slice a2 L.length c2) (.slice b2 A'.length d2) (.slice e2 D'.length f2) L A' D') => impl_RatEqual s t (.slice b1 A.length d1) (.slice e1 D.length f1) (.slice b2 A'.length d2) (.slice e2 D'.length f2) A D A' D' W (g.rl la ld) (g'.rl la' ld'))
  obtain ⟨RE, hRE⟩ : ∃ R, R = ((s == t) && decide (A = A') && decide (D = D')) := ⟨_, rfl⟩
  rw [← hRE] at KR ⊢
  clear hRE
  generalize hW : (w.alloc (.cells #[.slice a1 K.length c1, .int .i64 x, .bool s, .slice b1 A.length d1, .slice e1 D.length f1] 91)).alloc (.cells #[.slice a2 L.length c2, .int .i64 y, .bool t, .slice b2 A'.length d2, .slice e2 D'.length f2] 91) = W0 at B L1 L2 H1 H2
  have HW := hid hW
  clear hW
  cases ht : eqT K L with
  | false =>
    rw [ht] at KT
    go_enter Try.func71, Try.ntmps71
    go_wp2_with fail
    rw [HW.out]
    (with_reducible refine (KT.out _ H1.out H2.out).mono ?_)
    rintro e w1 ⟨rfl, g1⟩
    have H1 := hid (H1.out.old g1)
    have H2 := hid (H2.out.old g1)
    have L1 := hid (L1.out.old g1)
    have L2 := hid (L2.out.old g1)
    have B := hid (B.out.trans (g1.mono B.out.size))
    have q0 := L1.out.c 1 rfl
    have q1 := L1.out.c 2 rfl
    have q2 := L1.out.c 3 rfl
    have q3 := L1.out.c 4 rfl
    have q4 := L2.out.c 1 rfl
    have q5 := L2.out.c 2 rfl
    have q6 := L2.out.c 3 rfl
    have q7 := L2.out.c 4 rfl
    clear g1
    go_wp2
    go_ret
    exact ret_bool' (by simp) B.out
  | true =>
    rw [ht] at KT
    by_cases hx : x = y
    case neg =>
      have u0 : (x == y) = false := beq_eq_false_iff_ne.2 hx
      go_enter Try.func71, Try.ntmps71
      go_wp2_with fail
      rw [HW.out]
      (with_reducible refine (KT.out _ H1.out H2.out).mono ?_)
      rintro e w1 ⟨rfl, g1⟩
      have H1 := hid (H1.out.old g1)
      have H2 := hid (H2.out.old g1)
      have L1 := hid (L1.out.old g1)
      have L2 := hid (L2.out.old g1)
      have B := hid (B.out.trans (g1.mono B.out.size))
      have q0 := L1.out.c 1 rfl
      have q1 := L1.out.c 2 rfl
      have q2 := L1.out.c 3 rfl
      have q3 := L1.out.c 4 rfl
      have q4 := L2.out.c 1 rfl
      have q5 := L2.out.c 2 rfl
      have q6 := L2.out.c 3 rfl
      have q7 := L2.out.c 4 rfl
      clear g1
      go_wp2
      go_ret
      exact ret_bool' (by simp [hx]) B.out
    subst hx
    go_enter Try.func71, Try.ntmps71
    go_wp2_with fail
    rw [HW.out]
    (with_reducible refine (KT.out _ H1.out H2.out).mono ?_)
    rintro e w1 ⟨rfl, g1⟩
    have H1 := hid (H1.out.old g1)
    have H2 := hid (H2.out.old g1)
    have L1 := hid (L1.out.old g1)
    have L2 := hid (L2.out.old g1)
    have B := hid (B.out.trans (g1.mono B.out.size))
    have q0 := L1.out.c 1 rfl
    have q1 := L1.out.c 2 rfl
    have q2 := L1.out.c 3 rfl
    have q3 := L1.out.c 4 rfl
    have q4 := L2.out.c 1 rfl
    have q5 := L2.out.c 2 rfl
    have q6 := L2.out.c 3 rfl
    have q7 := L2.out.c 4 rfl
    clear g1
    go_wp2_with fail
    (with_reducible refine (KR.out _ H1.out H2.out).mono ?_)
    rintro e w2 ⟨rfl, g1⟩
    have B := hid (B.out.trans (g1.mono B.out.size))
    clear g1 q0 q1 q2 q3 q4 q5 q6 q7
    go_wp2
    go_ret
    exact ret_bool' (by simp) B.out
set_option maxRecDepth 100000 in
set_option maxHeartbeats 6400000 in
theorem spec_RowEqual {t1 v1 u1 t2 v2 u2 : Value} {K L : List Tq} {A D A' D' : List Int} (x y : Int) (s t : Bool) (hK : SmT K) (hL : SmT L) (la : A.length ≤ 1048576) (ld : D.length ≤ 1048576) (la' : A'.length ≤ 1048576) (ld' : D'.length ≤ 1048576) (w : World) (h : RwW w t1 v1 u1 K A D) (h' : RwW w t2 v2 u2 L A' D') :
    Calls Try.prog 66 #[.agg #[t1, .int .i64 x, .bool s, v1, u1], .agg #[t2, .int .i64 y, .bool t, v2, u2]] w (RetB (.bool (eqT K L && decide (x = y) && ((s == t) && decide (A = A') && decide (D = D')))) w) := by
  obtain ⟨a1, c1, b1, d1, e1, f1, rfl, rfl, rfl⟩ := h.form
  obtain ⟨a2, c2, b2, d2, e2, f2, rfl, rfl, rfl⟩ := h'.form
  have B := hid (below_new2 (w := w) (o := .cells #[.slice a1 K.length c1, .int .i64 x, .bool s, .slice b1 A.length d1, .slice e1 D.length f1] 91) (o' := .cells #[.slice a2 L.length c2, .int .i64 y, .bool t, .slice b2 A'.length d2, .slice e2 D'.length f2] 91))
  have L1 := hid ((LocA.at (T := 91) (w := w) (b := w.heap.size) (cs := #[.slice a1 K.length c1, .int .i64 x, .bool s, .slice b1 A.length d1, .slice e1 D.length f1]) rfl).new1 (o := .cells #[.slice a2 L.length c2, .int .i64 y, .bool t, .slice b2 A'.length d2, .slice e2 D'.length f2] 91))
  have L2 := hid (LocA.at (T := 91) (w := w.alloc (.cells #[.slice a1 K.length c1, .int .i64 x, .bool s, .slice b1 A.length d1, .slice e1 D.length f1] 91)) (b := w.heap.size + 1) (cs := #[.slice a2 L.length c2, .int .i64 y, .bool t, .slice b2 A'.length d2, .slice e2 D'.length f2]) (by simp))
  have H1 := hid (h.old B.out)
  have H2 := hid (h'.old B.out)
  clear h h'
  have KT := hid (fun (W : World) (g : RwW W (.slice a1 K.length c1) (.slice b1 A.length d1) (.slice e1 D.length f1) K A D) (g' : RwW W (.slice a2 L.length c2) (.slice b2 A'.length d2) (.slice e2 D'.length f2) L A' D') => spec_TermsEqual_rw hK hL W g g')
  have KR := hid (fun (W : World) (g : RwW W (.slice a1 K.length c1) (.slice b1 A.length d1) (.slice e1 D.length f1) K A D) (g' : RwW W (.slice a2 L.length c2) (.slice b2 A'.length d2) (.slice e2 D'.length f2) L A' D') => spec_RatEqual s t (.slice b1 A.length d1) (.slice e1 D.length f1) (.slice b2 A'.length d2) (.slice e2 D'.length f2) A D A' D' W (g.rl la ld) (g'.rl la' ld'))
  obtain ⟨RE, hRE⟩ : ∃ R, R = ((s == t) && decide (A = A') && decide (D = D')) := ⟨_, rfl⟩
  rw [← hRE] at KR ⊢
  clear hRE
  generalize hW : (w.alloc (.cells #[.slice a1 K.length c1, .int .i64 x, .bool s, .slice b1 A.length d1, .slice e1 D.length f1] 91)).alloc (.cells #[.slice a2 L.length c2, .int .i64 y, .bool t, .slice b2 A'.length d2, .slice e2 D'.length f2] 91) = W0 at B L1 L2 H1 H2
  have HW := hid hW
  clear hW
  cases ht : eqT K L with
  | false =>
    rw [ht] at KT
    go_enter Try.func66, Try.ntmps66
    go_wp2_with fail
    rw [HW.out]
    (with_reducible refine (KT.out _ H1.out H2.out).mono ?_)
    rintro e w1 ⟨rfl, g1⟩
    have H1 := hid (H1.out.old g1)
    have H2 := hid (H2.out.old g1)
    have L1 := hid (L1.out.old g1)
    have L2 := hid (L2.out.old g1)
    have B := hid (B.out.trans (g1.mono B.out.size))
    have q0 := L1.out.c 1 rfl
    have q1 := L1.out.c 2 rfl
    have q2 := L1.out.c 3 rfl
    have q3 := L1.out.c 4 rfl
    have q4 := L2.out.c 1 rfl
    have q5 := L2.out.c 2 rfl
    have q6 := L2.out.c 3 rfl
    have q7 := L2.out.c 4 rfl
    clear g1
    go_wp2
    go_ret
    exact ret_bool' (by simp) B.out
  | true =>
    rw [ht] at KT
    by_cases hx : x = y
    case neg =>
      have u0 : (x == y) = false := beq_eq_false_iff_ne.2 hx
      go_enter Try.func66, Try.ntmps66
      go_wp2_with fail
      rw [HW.out]
      (with_reducible refine (KT.out _ H1.out H2.out).mono ?_)
      rintro e w1 ⟨rfl, g1⟩
      have H1 := hid (H1.out.old g1)
      have H2 := hid (H2.out.old g1)
      have L1 := hid (L1.out.old g1)
      have L2 := hid (L2.out.old g1)
      have B := hid (B.out.trans (g1.mono B.out.size))
      have q0 := L1.out.c 1 rfl
      have q1 := L1.out.c 2 rfl
      have q2 := L1.out.c 3 rfl
      have q3 := L1.out.c 4 rfl
      have q4 := L2.out.c 1 rfl
      have q5 := L2.out.c 2 rfl
      have q6 := L2.out.c 3 rfl
      have q7 := L2.out.c 4 rfl
      clear g1
      go_wp2
      go_ret
      exact ret_bool' (by simp [hx]) B.out
    subst hx
    go_enter Try.func66, Try.ntmps66
    go_wp2_with fail
    rw [HW.out]
    (with_reducible refine (KT.out _ H1.out H2.out).mono ?_)
    rintro e w1 ⟨rfl, g1⟩
    have H1 := hid (H1.out.old g1)
    have H2 := hid (H2.out.old g1)
    have L1 := hid (L1.out.old g1)
    have L2 := hid (L2.out.old g1)
    have B := hid (B.out.trans (g1.mono B.out.size))
    have q0 := L1.out.c 1 rfl
    have q1 := L1.out.c 2 rfl
    have q2 := L1.out.c 3 rfl
    have q3 := L1.out.c 4 rfl
    have q4 := L2.out.c 1 rfl
    have q5 := L2.out.c 2 rfl
    have q6 := L2.out.c 3 rfl
    have q7 := L2.out.c 4 rfl
    clear g1
    go_wp2_with fail
    (with_reducible refine (KR.out _ H1.out H2.out).mono ?_)
    rintro e w2 ⟨rfl, g1⟩
    have B := hid (B.out.trans (g1.mono B.out.size))
    clear g1 q0 q1 q2 q3 q4 q5 q6 q7
    go_wp2
    go_ret
    exact ret_bool' (by simp) B.out
end Go.Proofs.Yteanocjkdehhgaa
