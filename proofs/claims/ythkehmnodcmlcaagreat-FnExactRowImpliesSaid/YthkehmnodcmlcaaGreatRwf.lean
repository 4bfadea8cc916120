import Derived.Test.YthkehmnodcmlcaaGreatRwe
set_option maxRecDepth 100000
set_option maxHeartbeats 12800000
set_option linter.unusedVariables false
set_option linter.unusedSimpArgs false
namespace Go.Proofs.YthkehmnodcmlcaaGreat
open Go.RowKit
open Go.Lib (hid)
def impR (T0 : List Tq) (x : Int) (s : Bool) (A D : List Int) (U0 : List Tq) (y : Int) (t : Bool) (A' D' : List Int) : Bool :=
 rowOk T0 x s A D 40 && rowOk U0 y t A' D' 40 && (infR T0 x s A D || (((decide (x = y) || decide (x = 3)) && meets y (cmpO (rval s A D) (rval t A' D'))) && eqT T0 U0))
theorem impl_RowImplies {t1 v1 u1 t2 v2 u2 : Value} {T0 U0 : List Tq} {A D A' D' : List Int} (x y : Int) (s t : Bool) (hK : SmT T0) (hL : SmT U0) (la : A.length ≤ 1048576) (ld : D.length ≤ 1048576) (la' : A'.length ≤ 1048576) (ld' : D'.length ≤ 1048576) (w : World) (h : RwW w t1 v1 u1 T0 A D) (h' : RwW w t2 v2 u2 U0 A' D') :
  Calls Tryz.prog 40 #[.agg #[t1, .int .i64 x, .bool s, v1, u1], .agg #[t2, .int .i64 y, .bool t, v2, u2]] w (RetB (.bool (impR T0 x s A D U0 y t A' D')) w) := by
 obtain ⟨a1, c1, b1, d1, e1, f1, rfl, rfl, rfl⟩ := h.form
 obtain ⟨a2, c2, b2, d2, e2, f2, rfl, rfl, rfl⟩ := h'.form
 have B := hid (below_new2 (w := w) (o := .cells #[.slice a1 T0.length c1, .int .i64 x, .bool s, .slice b1 A.length d1, .slice e1 D.length f1] 39) (o' := .cells #[.slice a2 U0.length c2, .int .i64 y, .bool t, .slice b2 A'.length d2, .slice e2 D'.length f2] 39))
 have L1 := hid ((LocA.at (T := 39) (w := w) (b := w.heap.size) (cs := #[.slice a1 T0.length c1, .int .i64 x, .bool s, .slice b1 A.length d1, .slice e1 D.length f1]) rfl).new1 (o := .cells #[.slice a2 U0.length c2, .int .i64 y, .bool t, .slice b2 A'.length d2, .slice e2 D'.length f2] 39))
 have L2 := hid (LocA.at (T := 39) (w := w.alloc (.cells #[.slice a1 T0.length c1, .int .i64 x, .bool s, .slice b1 A.length d1, .slice e1 D.length f1] 39)) (b := w.heap.size + 1) (cs := #[.slice a2 U0.length c2, .int .i64 y, .bool t, .slice b2 A'.length d2, .slice e2 D'.length f2]) (by simp))
 have H1 := hid (h.old B.out)
 have H2 := hid (h'.old B.out)
 clear h h'
 have KO := hid (fun (W : World) (g : RwW W (.slice a1 T0.length c1) (.slice b1 A.length d1) (.slice e1 D.length f1) T0 A D) => impl_RowOk x s hK la ld 40 (by omega) (by omega) W g)
 have KO' := hid (fun (W : World) (g : RwW W (.slice a2 U0.length c2) (.slice b2 A'.length d2) (.slice e2 D'.length f2) U0 A' D') => impl_RowOk y t hL la' ld' 40 (by omega) (by omega) W g)
 have KI := hid (fun (W : World) (g : RwW W (.slice a1 T0.length c1) (.slice b1 A.length d1) (.slice e1 D.length f1) T0 A D) => impl_RowInfeasible x s hK la ld W g)
 have KE := hid (fun (W : World) (g : RwW W (.slice a1 T0.length c1) (.slice b1 A.length d1) (.slice e1 D.length f1) T0 A D) (g' : RwW W (.slice a2 U0.length c2) (.slice b2 A'.length d2) (.slice e2 D'.length f2) U0 A' D') => impl_TermsEqual_rw hK hL W g g')
 have KS := hid (fun (W : World) (g : RwW W (.slice a1 T0.length c1) (.slice b1 A.length d1) (.slice e1 D.length f1) T0 A D) (g' : RwW W (.slice a2 U0.length c2) (.slice b2 A'.length d2) (.slice e2 D'.length f2) U0 A' D') => impl_satisfies y t s la' ld' W (g.ra la ld s) g')
 obtain ⟨zz, hzz⟩ : ∃ zz, meets y (cmpO (rval s A D) (rval t A' D')) = zz := ⟨_, rfl⟩
 rw [hzz] at KS
 obtain ⟨R, hR⟩ : ∃ R, R = impR T0 x s A D U0 y t A' D' := ⟨_, rfl⟩
 rw [← hR]
 have HR := hid hR
 clear hR
 generalize hW : (w.alloc (.cells #[.slice a1 T0.length c1, .int .i64 x, .bool s, .slice b1 A.length d1, .slice e1 D.length f1] 39)).alloc (.cells #[.slice a2 U0.length c2, .int .i64 y, .bool t, .slice b2 A'.length d2, .slice e2 D'.length f2] 39) = W0 at B L1 L2 H1 H2
 have HW := hid hW
 clear hW
 cases ho : rowOk T0 x s A D 40 with
 |false =>
  rw [ho] at KO
  go_enter Tryz.func40, Tryz.ntmps40
  go_wp2_with fail
  rw [HW.out]
  (with_reducible refine (KO.out _ H1.out).mono ?_)
  rintro e w1 ⟨rfl, bb⟩
  have H1 := hid (H1.out.old bb)
  have H2 := hid (H2.out.old bb)
  have L1 := hid (L1.out.old bb)
  have L2 := hid (L2.out.old bb)
  have B := hid (B.out.trans (bb.mono B.out.size))
  clear bb
  have q0 := L1.out.c 0 (v := .slice a1 T0.length c1) rfl
  have q1 := L1.out.c 1 (v := .int .i64 x) rfl
  have q2 := L1.out.c 2 (v := .bool s) rfl
  have q3 := L1.out.c 3 (v := .slice b1 A.length d1) rfl
  have q4 := L1.out.c 4 (v := .slice e1 D.length f1) rfl
  have q5 := L2.out.c 0 (v := .slice a2 U0.length c2) rfl
  have q6 := L2.out.c 1 (v := .int .i64 y) rfl
  have q7 := L2.out.c 2 (v := .bool t) rfl
  have q8 := L2.out.c 3 (v := .slice b2 A'.length d2) rfl
  have q9 := L2.out.c 4 (v := .slice e2 D'.length f2) rfl
  go_wp2
  go_ret
  exact ret_bool' (by rw [HR.out]; simp [impR, ho]) B.out
 |true =>
  rw [ho] at KO
  cases ho' : rowOk U0 y t A' D' 40 with
  |false =>
   rw [ho'] at KO'
   go_enter Tryz.func40, Tryz.ntmps40
   go_wp2_with fail
   rw [HW.out]
   (with_reducible refine (KO.out _ H1.out).mono ?_)
   rintro e w1 ⟨rfl, bb⟩
   have H1 := hid (H1.out.old bb)
   have H2 := hid (H2.out.old bb)
   have L1 := hid (L1.out.old bb)
   have L2 := hid (L2.out.old bb)
   have B := hid (B.out.trans (bb.mono B.out.size))
   clear bb
   have q0 := L1.out.c 0 (v := .slice a1 T0.length c1) rfl
   have q1 := L1.out.c 1 (v := .int .i64 x) rfl
   have q2 := L1.out.c 2 (v := .bool s) rfl
   have q3 := L1.out.c 3 (v := .slice b1 A.length d1) rfl
   have q4 := L1.out.c 4 (v := .slice e1 D.length f1) rfl
   have q5 := L2.out.c 0 (v := .slice a2 U0.length c2) rfl
   have q6 := L2.out.c 1 (v := .int .i64 y) rfl
   have q7 := L2.out.c 2 (v := .bool t) rfl
   have q8 := L2.out.c 3 (v := .slice b2 A'.length d2) rfl
   have q9 := L2.out.c 4 (v := .slice e2 D'.length f2) rfl
   go_wp2_with fail
   (with_reducible refine (KO'.out _ H2.out).mono ?_)
   clear q0 q1 q2 q3 q4 q5 q6 q7 q8 q9
   rintro e w2 ⟨rfl, bb⟩
   have H1 := hid (H1.out.old bb)
   have H2 := hid (H2.out.old bb)
   have L1 := hid (L1.out.old bb)
   have L2 := hid (L2.out.old bb)
   have B := hid (B.out.trans (bb.mono B.out.size))
   clear bb
   have q0 := L1.out.c 0 (v := .slice a1 T0.length c1) rfl
   have q1 := L1.out.c 1 (v := .int .i64 x) rfl
   have q2 := L1.out.c 2 (v := .bool s) rfl
   have q3 := L1.out.c 3 (v := .slice b1 A.length d1) rfl
   have q4 := L1.out.c 4 (v := .slice e1 D.length f1) rfl
   have q5 := L2.out.c 0 (v := .slice a2 U0.length c2) rfl
   have q6 := L2.out.c 1 (v := .int .i64 y) rfl
   have q7 := L2.out.c 2 (v := .bool t) rfl
   have q8 := L2.out.c 3 (v := .slice b2 A'.length d2) rfl
   have q9 := L2.out.c 4 (v := .slice e2 D'.length f2) rfl
   go_wp2
   go_ret
   exact ret_bool' (by rw [HR.out]; simp [impR, ho, ho']) B.out
  |true =>
   rw [ho'] at KO'
   cases hi : infR T0 x s A D with
   |true =>
    rw [hi] at KI
    go_enter Tryz.func40, Tryz.ntmps40
    go_wp2_with fail
    rw [HW.out]
    (with_reducible refine (KO.out _ H1.out).mono ?_)
    rintro e w1 ⟨rfl, bb⟩
    have H1 := hid (H1.out.old bb)
    have H2 := hid (H2.out.old bb)
    have L1 := hid (L1.out.old bb)
    have L2 := hid (L2.out.old bb)
    have B := hid (B.out.trans (bb.mono B.out.size))
    clear bb
    have q0 := L1.out.c 0 (v := .slice a1 T0.length c1) rfl
    have q1 := L1.out.c 1 (v := .int .i64 x) rfl
    have q2 := L1.out.c 2 (v := .bool s) rfl
    have q3 := L1.out.c 3 (v := .slice b1 A.length d1) rfl
    have q4 := L1.out.c 4 (v := .slice e1 D.length f1) rfl
    have q5 := L2.out.c 0 (v := .slice a2 U0.length c2) rfl
    have q6 := L2.out.c 1 (v := .int .i64 y) rfl
    have q7 := L2.out.c 2 (v := .bool t) rfl
    have q8 := L2.out.c 3 (v := .slice b2 A'.length d2) rfl
    have q9 := L2.out.c 4 (v := .slice e2 D'.length f2) rfl
    go_wp2_with fail
    (with_reducible refine (KO'.out _ H2.out).mono ?_)
    clear q0 q1 q2 q3 q4 q5 q6 q7 q8 q9
    rintro e w2 ⟨rfl, bb⟩
    have H1 := hid (H1.out.old bb)
    have H2 := hid (H2.out.old bb)
    have L1 := hid (L1.out.old bb)
    have L2 := hid (L2.out.old bb)
    have B := hid (B.out.trans (bb.mono B.out.size))
    clear bb
    have q0 := L1.out.c 0 (v := .slice a1 T0.length c1) rfl
    have q1 := L1.out.c 1 (v := .int .i64 x) rfl
    have q2 := L1.out.c 2 (v := .bool s) rfl
    have q3 := L1.out.c 3 (v := .slice b1 A.length d1) rfl
    have q4 := L1.out.c 4 (v := .slice e1 D.length f1) rfl
    have q5 := L2.out.c 0 (v := .slice a2 U0.length c2) rfl
    have q6 := L2.out.c 1 (v := .int .i64 y) rfl
    have q7 := L2.out.c 2 (v := .bool t) rfl
    have q8 := L2.out.c 3 (v := .slice b2 A'.length d2) rfl
    have q9 := L2.out.c 4 (v := .slice e2 D'.length f2) rfl
    go_wp2_with fail
    (with_reducible refine (KI.out _ H1.out).mono ?_)
    clear q0 q1 q2 q3 q4 q5 q6 q7 q8 q9
    rintro e w3 ⟨rfl, bb⟩
    have H1 := hid (H1.out.old bb)
    have H2 := hid (H2.out.old bb)
    have L1 := hid (L1.out.old bb)
    have L2 := hid (L2.out.old bb)
    have B := hid (B.out.trans (bb.mono B.out.size))
    clear bb
    have q0 := L1.out.c 0 (v := .slice a1 T0.length c1) rfl
    have q1 := L1.out.c 1 (v := .int .i64 x) rfl
    have q2 := L1.out.c 2 (v := .bool s) rfl
    have q3 := L1.out.c 3 (v := .slice b1 A.length d1) rfl
    have q4 := L1.out.c 4 (v := .slice e1 D.length f1) rfl
    have q5 := L2.out.c 0 (v := .slice a2 U0.length c2) rfl
    have q6 := L2.out.c 1 (v := .int .i64 y) rfl
    have q7 := L2.out.c 2 (v := .bool t) rfl
    have q8 := L2.out.c 3 (v := .slice b2 A'.length d2) rfl
    have q9 := L2.out.c 4 (v := .slice e2 D'.length f2) rfl
    go_wp2
    go_ret
    exact ret_bool' (by rw [HR.out]; simp [impR, ho, ho', hi]) B.out
   |false =>
    rw [hi] at KI
    by_cases hx : x = y
    ·subst hx
     cases zz with
     |false =>
      go_enter Tryz.func40, Tryz.ntmps40
      go_wp2_with fail
      rw [HW.out]
      (with_reducible refine (KO.out _ H1.out).mono ?_)
      rintro e w1 ⟨rfl, bb⟩
      have H1 := hid (H1.out.old bb)
      have H2 := hid (H2.out.old bb)
      have L1 := hid (L1.out.old bb)
      have L2 := hid (L2.out.old bb)
      have B := hid (B.out.trans (bb.mono B.out.size))
      clear bb
      have q0 := L1.out.c 0 (v := .slice a1 T0.length c1) rfl
      have q1 := L1.out.c 1 (v := .int .i64 x) rfl
      have q2 := L1.out.c 2 (v := .bool s) rfl
      have q3 := L1.out.c 3 (v := .slice b1 A.length d1) rfl
      have q4 := L1.out.c 4 (v := .slice e1 D.length f1) rfl
      have q5 := L2.out.c 0 (v := .slice a2 U0.length c2) rfl
      have q6 := L2.out.c 1 (v := .int .i64 x) rfl
      have q7 := L2.out.c 2 (v := .bool t) rfl
      have q8 := L2.out.c 3 (v := .slice b2 A'.length d2) rfl
      have q9 := L2.out.c 4 (v := .slice e2 D'.length f2) rfl
      go_wp2_with fail
      (with_reducible refine (KO'.out _ H2.out).mono ?_)
      clear q0 q1 q2 q3 q4 q5 q6 q7 q8 q9
      rintro e w2 ⟨rfl, bb⟩
      have H1 := hid (H1.out.old bb)
      have H2 := hid (H2.out.old bb)
      have L1 := hid (L1.out.old bb)
      have L2 := hid (L2.out.old bb)
      have B := hid (B.out.trans (bb.mono B.out.size))
      clear bb
      have q0 := L1.out.c 0 (v := .slice a1 T0.length c1) rfl
      have q1 := L1.out.c 1 (v := .int .i64 x) rfl
      have q2 := L1.out.c 2 (v := .bool s) rfl
      have q3 := L1.out.c 3 (v := .slice b1 A.length d1) rfl
      have q4 := L1.out.c 4 (v := .slice e1 D.length f1) rfl
      have q5 := L2.out.c 0 (v := .slice a2 U0.length c2) rfl
      have q6 := L2.out.c 1 (v := .int .i64 x) rfl
      have q7 := L2.out.c 2 (v := .bool t) rfl
      have q8 := L2.out.c 3 (v := .slice b2 A'.length d2) rfl
      have q9 := L2.out.c 4 (v := .slice e2 D'.length f2) rfl
      go_wp2_with fail
      (with_reducible refine (KI.out _ H1.out).mono ?_)
      clear q0 q1 q2 q3 q4 q5 q6 q7 q8 q9
      rintro e w3 ⟨rfl, bb⟩
      have H1 := hid (H1.out.old bb)
      have H2 := hid (H2.out.old bb)
      have L1 := hid (L1.out.old bb)
      have L2 := hid (L2.out.old bb)
      have B := hid (B.out.trans (bb.mono B.out.size))
      clear bb
      have q0 := L1.out.c 0 (v := .slice a1 T0.length c1) rfl
      have q1 := L1.out.c 1 (v := .int .i64 x) rfl
      have q2 := L1.out.c 2 (v := .bool s) rfl
      have q3 := L1.out.c 3 (v := .slice b1 A.length d1) rfl
      have q4 := L1.out.c 4 (v := .slice e1 D.length f1) rfl
      have q5 := L2.out.c 0 (v := .slice a2 U0.length c2) rfl
      have q6 := L2.out.c 1 (v := .int .i64 x) rfl
      have q7 := L2.out.c 2 (v := .bool t) rfl
      have q8 := L2.out.c 3 (v := .slice b2 A'.length d2) rfl
      have q9 := L2.out.c 4 (v := .slice e2 D'.length f2) rfl
      go_wp2_with fail
      (with_reducible refine (KS.out _ H1.out H2.out).mono ?_)
      clear q0 q1 q2 q3 q4 q5 q6 q7 q8 q9
      rintro e w4 ⟨rfl, bb⟩
      have H1 := hid (H1.out.old bb)
      have H2 := hid (H2.out.old bb)
      have L1 := hid (L1.out.old bb)
      have L2 := hid (L2.out.old bb)
      have B := hid (B.out.trans (bb.mono B.out.size))
      clear bb
      have q0 := L1.out.c 0 (v := .slice a1 T0.length c1) rfl
      have q1 := L1.out.c 1 (v := .int .i64 x) rfl
      have q2 := L1.out.c 2 (v := .bool s) rfl
      have q3 := L1.out.c 3 (v := .slice b1 A.length d1) rfl
      have q4 := L1.out.c 4 (v := .slice e1 D.length f1) rfl
      have q5 := L2.out.c 0 (v := .slice a2 U0.length c2) rfl
      have q6 := L2.out.c 1 (v := .int .i64 x) rfl
      have q7 := L2.out.c 2 (v := .bool t) rfl
      have q8 := L2.out.c 3 (v := .slice b2 A'.length d2) rfl
      have q9 := L2.out.c 4 (v := .slice e2 D'.length f2) rfl
      go_wp2
      go_ret
      exact ret_bool' (by rw [HR.out]; simp [impR, ho, ho', hi, hzz]) B.out
     |true =>
      cases hE : eqT T0 U0 with
      |false =>
       rw [hE] at KE
       go_enter Tryz.func40, Tryz.ntmps40
       go_wp2_with fail
       rw [HW.out]
       (with_reducible refine (KO.out _ H1.out).mono ?_)
       rintro e w1 ⟨rfl, bb⟩
       have H1 := hid (H1.out.old bb)
       have H2 := hid (H2.out.old bb)
       have L1 := hid (L1.out.old bb)
       have L2 := hid (L2.out.old bb)
       have B := hid (B.out.trans (bb.mono B.out.size))
       clear bb
       have q0 := L1.out.c 0 (v := .slice a1 T0.length c1) rfl
       have q1 := L1.out.c 1 (v := .int .i64 x) rfl
       have q2 := L1.out.c 2 (v := .bool s) rfl
       have q3 := L1.out.c 3 (v := .slice b1 A.length d1) rfl
       have q4 := L1.out.c 4 (v := .slice e1 D.length f1) rfl
       have q5 := L2.out.c 0 (v := .slice a2 U0.length c2) rfl
       have q6 := L2.out.c 1 (v := .int .i64 x) rfl
       have q7 := L2.out.c 2 (v := .bool t) rfl
       have q8 := L2.out.c 3 (v := .slice b2 A'.length d2) rfl
       have q9 := L2.out.c 4 (v := .slice e2 D'.length f2) rfl
       go_wp2_with fail
       (with_reducible refine (KO'.out _ H2.out).mono ?_)
       clear q0 q1 q2 q3 q4 q5 q6 q7 q8 q9
       rintro e w2 ⟨rfl, bb⟩
       have H1 := hid (H1.out.old bb)
       have H2 := hid (H2.out.old bb)
       have L1 := hid (L1.out.old bb)
       have L2 := hid (L2.out.old bb)
       have B := hid (B.out.trans (bb.mono B.out.size))
       clear bb
       have q0 := L1.out.c 0 (v := .slice a1 T0.length c1) rfl
       have q1 := L1.out.c 1 (v := .int .i64 x) rfl
       have q2 := L1.out.c 2 (v := .bool s) rfl
       have q3 := L1.out.c 3 (v := .slice b1 A.length d1) rfl
       have q4 := L1.out.c 4 (v := .slice e1 D.length f1) rfl
       have q5 := L2.out.c 0 (v := .slice a2 U0.length c2) rfl
       have q6 := L2.out.c 1 (v := .int .i64 x) rfl
       have q7 := L2.out.c 2 (v := .bool t) rfl
       have q8 := L2.out.c 3 (v := .slice b2 A'.length d2) rfl
       have q9 := L2.out.c 4 (v := .slice e2 D'.length f2) rfl
       go_wp2_with fail
       (with_reducible refine (KI.out _ H1.out).mono ?_)
       clear q0 q1 q2 q3 q4 q5 q6 q7 q8 q9
       rintro e w3 ⟨rfl, bb⟩
       have H1 := hid (H1.out.old bb)
       have H2 := hid (H2.out.old bb)
       have L1 := hid (L1.out.old bb)
       have L2 := hid (L2.out.old bb)
       have B := hid (B.out.trans (bb.mono B.out.size))
       clear bb
       have q0 := L1.out.c 0 (v := .slice a1 T0.length c1) rfl
       have q1 := L1.out.c 1 (v := .int .i64 x) rfl
       have q2 := L1.out.c 2 (v := .bool s) rfl
       have q3 := L1.out.c 3 (v := .slice b1 A.length d1) rfl
       have q4 := L1.out.c 4 (v := .slice e1 D.length f1) rfl
       have q5 := L2.out.c 0 (v := .slice a2 U0.length c2) rfl
       have q6 := L2.out.c 1 (v := .int .i64 x) rfl
       have q7 := L2.out.c 2 (v := .bool t) rfl
       have q8 := L2.out.c 3 (v := .slice b2 A'.length d2) rfl
       have q9 := L2.out.c 4 (v := .slice e2 D'.length f2) rfl
       go_wp2_with fail
       (with_reducible refine (KS.out _ H1.out H2.out).mono ?_)
       clear q0 q1 q2 q3 q4 q5 q6 q7 q8 q9
       rintro e w4 ⟨rfl, bb⟩
       have H1 := hid (H1.out.old bb)
       have H2 := hid (H2.out.old bb)
       have L1 := hid (L1.out.old bb)
       have L2 := hid (L2.out.old bb)
       have B := hid (B.out.trans (bb.mono B.out.size))
       clear bb
       have q0 := L1.out.c 0 (v := .slice a1 T0.length c1) rfl
       have q1 := L1.out.c 1 (v := .int .i64 x) rfl
       have q2 := L1.out.c 2 (v := .bool s) rfl
       have q3 := L1.out.c 3 (v := .slice b1 A.length d1) rfl
       have q4 := L1.out.c 4 (v := .slice e1 D.length f1) rfl
       have q5 := L2.out.c 0 (v := .slice a2 U0.length c2) rfl
       have q6 := L2.out.c 1 (v := .int .i64 x) rfl
       have q7 := L2.out.c 2 (v := .bool t) rfl
       have q8 := L2.out.c 3 (v := .slice b2 A'.length d2) rfl
       have q9 := L2.out.c 4 (v := .slice e2 D'.length f2) rfl
       go_wp2_with fail
       (with_reducible refine (KE.out _ H1.out H2.out).mono ?_)
       clear q0 q1 q2 q3 q4 q5 q6 q7 q8 q9
       rintro e w5 ⟨rfl, bb⟩
       have H1 := hid (H1.out.old bb)
       have H2 := hid (H2.out.old bb)
       have L1 := hid (L1.out.old bb)
       have L2 := hid (L2.out.old bb)
       have B := hid (B.out.trans (bb.mono B.out.size))
       clear bb
       have q0 := L1.out.c 0 (v := .slice a1 T0.length c1) rfl
       have q1 := L1.out.c 1 (v := .int .i64 x) rfl
       have q2 := L1.out.c 2 (v := .bool s) rfl
       have q3 := L1.out.c 3 (v := .slice b1 A.length d1) rfl
       have q4 := L1.out.c 4 (v := .slice e1 D.length f1) rfl
       have q5 := L2.out.c 0 (v := .slice a2 U0.length c2) rfl
       have q6 := L2.out.c 1 (v := .int .i64 x) rfl
       have q7 := L2.out.c 2 (v := .bool t) rfl
       have q8 := L2.out.c 3 (v := .slice b2 A'.length d2) rfl
       have q9 := L2.out.c 4 (v := .slice e2 D'.length f2) rfl
       go_wp2
       go_ret
       exact ret_bool' (by rw [HR.out]; simp [impR, ho, ho', hi, hzz, hE]) B.out
      |true =>
       rw [hE] at KE
       go_enter Tryz.func40, Tryz.ntmps40
       go_wp2_with fail
       rw [HW.out]
       (with_reducible refine (KO.out _ H1.out).mono ?_)
       rintro e w1 ⟨rfl, bb⟩
       have H1 := hid (H1.out.old bb)
       have H2 := hid (H2.out.old bb)
       have L1 := hid (L1.out.old bb)
       have L2 := hid (L2.out.old bb)
       have B := hid (B.out.trans (bb.mono B.out.size))
       clear bb
       have q0 := L1.out.c 0 (v := .slice a1 T0.length c1) rfl
       have q1 := L1.out.c 1 (v := .int .i64 x) rfl
       have q2 := L1.out.c 2 (v := .bool s) rfl
       have q3 := L1.out.c 3 (v := .slice b1 A.length d1) rfl
       have q4 := L1.out.c 4 (v := .slice e1 D.length f1) rfl
       have q5 := L2.out.c 0 (v := .slice a2 U0.length c2) rfl
       have q6 := L2.out.c 1 (v := .int .i64 x) rfl
       have q7 := L2.out.c 2 (v := .bool t) rfl
       have q8 := L2.out.c 3 (v := .slice b2 A'.length d2) rfl
       have q9 := L2.out.c 4 (v := .slice e2 D'.length f2) rfl
       go_wp2_with fail
       (with_reducible refine (KO'.out _ H2.out).mono ?_)
       clear q0 q1 q2 q3 q4 q5 q6 q7 q8 q9
       rintro e w2 ⟨rfl, bb⟩
       have H1 := hid (H1.out.old bb)
       have H2 := hid (H2.out.old bb)
       have L1 := hid (L1.out.old bb)
       have L2 := hid (L2.out.old bb)
       have B := hid (B.out.trans (bb.mono B.out.size))
       clear bb
       have q0 := L1.out.c 0 (v := .slice a1 T0.length c1) rfl
       have q1 := L1.out.c 1 (v := .int .i64 x) rfl
       have q2 := L1.out.c 2 (v := .bool s) rfl
       have q3 := L1.out.c 3 (v := .slice b1 A.length d1) rfl
       have q4 := L1.out.c 4 (v := .slice e1 D.length f1) rfl
       have q5 := L2.out.c 0 (v := .slice a2 U0.length c2) rfl
       have q6 := L2.out.c 1 (v := .int .i64 x) rfl
       have q7 := L2.out.c 2 (v := .bool t) rfl
       have q8 := L2.out.c 3 (v := .slice b2 A'.length d2) rfl
       have q9 := L2.out.c 4 (v := .slice e2 D'.length f2) rfl
       go_wp2_with fail
       (with_reducible refine (KI.out _ H1.out).mono ?_)
       clear q0 q1 q2 q3 q4 q5 q6 q7 q8 q9
       rintro e w3 ⟨rfl, bb⟩
       have H1 := hid (H1.out.old bb)
       have H2 := hid (H2.out.old bb)
       have L1 := hid (L1.out.old bb)
       have L2 := hid (L2.out.old bb)
       have B := hid (B.out.trans (bb.mono B.out.size))
       clear bb
       have q0 := L1.out.c 0 (v := .slice a1 T0.length c1) rfl
       have q1 := L1.out.c 1 (v := .int .i64 x) rfl
       have q2 := L1.out.c 2 (v := .bool s) rfl
       have q3 := L1.out.c 3 (v := .slice b1 A.length d1) rfl
       have q4 := L1.out.c 4 (v := .slice e1 D.length f1) rfl
       have q5 := L2.out.c 0 (v := .slice a2 U0.length c2) rfl
       have q6 := L2.out.c 1 (v := .int .i64 x) rfl
       have q7 := L2.out.c 2 (v := .bool t) rfl
       have q8 := L2.out.c 3 (v := .slice b2 A'.length d2) rfl
       have q9 := L2.out.c 4 (v := .slice e2 D'.length f2) rfl
       go_wp2_with fail
       (with_reducible refine (KS.out _ H1.out H2.out).mono ?_)
       clear q0 q1 q2 q3 q4 q5 q6 q7 q8 q9
       rintro e w4 ⟨rfl, bb⟩
       have H1 := hid (H1.out.old bb)
       have H2 := hid (H2.out.old bb)
       have L1 := hid (L1.out.old bb)
       have L2 := hid (L2.out.old bb)
       have B := hid (B.out.trans (bb.mono B.out.size))
       clear bb
       have q0 := L1.out.c 0 (v := .slice a1 T0.length c1) rfl
       have q1 := L1.out.c 1 (v := .int .i64 x) rfl
       have q2 := L1.out.c 2 (v := .bool s) rfl
       have q3 := L1.out.c 3 (v := .slice b1 A.length d1) rfl
       have q4 := L1.out.c 4 (v := .slice e1 D.length f1) rfl
       have q5 := L2.out.c 0 (v := .slice a2 U0.length c2) rfl
       have q6 := L2.out.c 1 (v := .int .i64 x) rfl
       have q7 := L2.out.c 2 (v := .bool t) rfl
       have q8 := L2.out.c 3 (v := .slice b2 A'.length d2) rfl
       have q9 := L2.out.c 4 (v := .slice e2 D'.length f2) rfl
       go_wp2_with fail
       (with_reducible refine (KE.out _ H1.out H2.out).mono ?_)
       clear q0 q1 q2 q3 q4 q5 q6 q7 q8 q9
       rintro e w5 ⟨rfl, bb⟩
       have H1 := hid (H1.out.old bb)
       have H2 := hid (H2.out.old bb)
       have L1 := hid (L1.out.old bb)
       have L2 := hid (L2.out.old bb)
       have B := hid (B.out.trans (bb.mono B.out.size))
       clear bb
       have q0 := L1.out.c 0 (v := .slice a1 T0.length c1) rfl
       have q1 := L1.out.c 1 (v := .int .i64 x) rfl
       have q2 := L1.out.c 2 (v := .bool s) rfl
       have q3 := L1.out.c 3 (v := .slice b1 A.length d1) rfl
       have q4 := L1.out.c 4 (v := .slice e1 D.length f1) rfl
       have q5 := L2.out.c 0 (v := .slice a2 U0.length c2) rfl
       have q6 := L2.out.c 1 (v := .int .i64 x) rfl
       have q7 := L2.out.c 2 (v := .bool t) rfl
       have q8 := L2.out.c 3 (v := .slice b2 A'.length d2) rfl
       have q9 := L2.out.c 4 (v := .slice e2 D'.length f2) rfl
       go_wp2
       go_ret
       exact ret_bool' (by rw [HR.out]; simp [impR, ho, ho', hi, hzz, hE]) B.out
    ·have u0 : (x == y) = false := beq_eq_false_iff_ne.2 hx
     by_cases h3 : x = 3
     ·subst h3
      cases zz with
      |false =>
       go_enter Tryz.func40, Tryz.ntmps40
       go_wp2_with fail
       rw [HW.out]
       (with_reducible refine (KO.out _ H1.out).mono ?_)
       rintro e w1 ⟨rfl, bb⟩
       have H1 := hid (H1.out.old bb)
       have H2 := hid (H2.out.old bb)
       have L1 := hid (L1.out.old bb)
       have L2 := hid (L2.out.old bb)
       have B := hid (B.out.trans (bb.mono B.out.size))
       clear bb
       have q0 := L1.out.c 0 (v := .slice a1 T0.length c1) rfl
       have q1 := L1.out.c 1 (v := .int .i64 3) rfl
       have q2 := L1.out.c 2 (v := .bool s) rfl
       have q3 := L1.out.c 3 (v := .slice b1 A.length d1) rfl
       have q4 := L1.out.c 4 (v := .slice e1 D.length f1) rfl
       have q5 := L2.out.c 0 (v := .slice a2 U0.length c2) rfl
       have q6 := L2.out.c 1 (v := .int .i64 y) rfl
       have q7 := L2.out.c 2 (v := .bool t) rfl
       have q8 := L2.out.c 3 (v := .slice b2 A'.length d2) rfl
       have q9 := L2.out.c 4 (v := .slice e2 D'.length f2) rfl
       go_wp2_with fail
       (with_reducible refine (KO'.out _ H2.out).mono ?_)
       clear q0 q1 q2 q3 q4 q5 q6 q7 q8 q9
       rintro e w2 ⟨rfl, bb⟩
       have H1 := hid (H1.out.old bb)
       have H2 := hid (H2.out.old bb)
       have L1 := hid (L1.out.old bb)
       have L2 := hid (L2.out.old bb)
       have B := hid (B.out.trans (bb.mono B.out.size))
       clear bb
       have q0 := L1.out.c 0 (v := .slice a1 T0.length c1) rfl
       have q1 := L1.out.c 1 (v := .int .i64 3) rfl
       have q2 := L1.out.c 2 (v := .bool s) rfl
       have q3 := L1.out.c 3 (v := .slice b1 A.length d1) rfl
       have q4 := L1.out.c 4 (v := .slice e1 D.length f1) rfl
       have q5 := L2.out.c 0 (v := .slice a2 U0.length c2) rfl
       have q6 := L2.out.c 1 (v := .int .i64 y) rfl
       have q7 := L2.out.c 2 (v := .bool t) rfl
       have q8 := L2.out.c 3 (v := .slice b2 A'.length d2) rfl
       have q9 := L2.out.c 4 (v := .slice e2 D'.length f2) rfl
       go_wp2_with fail
       (with_reducible refine (KI.out _ H1.out).mono ?_)
       clear q0 q1 q2 q3 q4 q5 q6 q7 q8 q9
       rintro e w3 ⟨rfl, bb⟩
       have H1 := hid (H1.out.old bb)
       have H2 := hid (H2.out.old bb)
       have L1 := hid (L1.out.old bb)
       have L2 := hid (L2.out.old bb)
       have B := hid (B.out.trans (bb.mono B.out.size))
       clear bb
       have q0 := L1.out.c 0 (v := .slice a1 T0.length c1) rfl
       have q1 := L1.out.c 1 (v := .int .i64 3) rfl
       have q2 := L1.out.c 2 (v := .bool s) rfl
       have q3 := L1.out.c 3 (v := .slice b1 A.length d1) rfl
       have q4 := L1.out.c 4 (v := .slice e1 D.length f1) rfl
       have q5 := L2.out.c 0 (v := .slice a2 U0.length c2) rfl
       have q6 := L2.out.c 1 (v := .int .i64 y) rfl
       have q7 := L2.out.c 2 (v := .bool t) rfl
       have q8 := L2.out.c 3 (v := .slice b2 A'.length d2) rfl
       have q9 := L2.out.c 4 (v := .slice e2 D'.length f2) rfl
       go_wp2_with fail
       (with_reducible refine (KS.out _ H1.out H2.out).mono ?_)
       clear q0 q1 q2 q3 q4 q5 q6 q7 q8 q9
       rintro e w4 ⟨rfl, bb⟩
       have H1 := hid (H1.out.old bb)
       have H2 := hid (H2.out.old bb)
       have L1 := hid (L1.out.old bb)
       have L2 := hid (L2.out.old bb)
       have B := hid (B.out.trans (bb.mono B.out.size))
       clear bb
       have q0 := L1.out.c 0 (v := .slice a1 T0.length c1) rfl
       have q1 := L1.out.c 1 (v := .int .i64 3) rfl
       have q2 := L1.out.c 2 (v := .bool s) rfl
       have q3 := L1.out.c 3 (v := .slice b1 A.length d1) rfl
       have q4 := L1.out.c 4 (v := .slice e1 D.length f1) rfl
       have q5 := L2.out.c 0 (v := .slice a2 U0.length c2) rfl
       have q6 := L2.out.c 1 (v := .int .i64 y) rfl
       have q7 := L2.out.c 2 (v := .bool t) rfl
       have q8 := L2.out.c 3 (v := .slice b2 A'.length d2) rfl
       have q9 := L2.out.c 4 (v := .slice e2 D'.length f2) rfl
       go_wp2
       go_ret
       exact ret_bool' (by rw [HR.out]; simp [impR, ho, ho', hi, hzz, hx]) B.out
      |true =>
       cases hE : eqT T0 U0 with
       |false =>
        rw [hE] at KE
        go_enter Tryz.func40, Tryz.ntmps40
        go_wp2_with fail
        rw [HW.out]
        (with_reducible refine (KO.out _ H1.out).mono ?_)
        rintro e w1 ⟨rfl, bb⟩
        have H1 := hid (H1.out.old bb)
        have H2 := hid (H2.out.old bb)
        have L1 := hid (L1.out.old bb)
        have L2 := hid (L2.out.old bb)
        have B := hid (B.out.trans (bb.mono B.out.size))
        clear bb
        have q0 := L1.out.c 0 (v := .slice a1 T0.length c1) rfl
        have q1 := L1.out.c 1 (v := .int .i64 3) rfl
        have q2 := L1.out.c 2 (v := .bool s) rfl
        have q3 := L1.out.c 3 (v := .slice b1 A.length d1) rfl
        have q4 := L1.out.c 4 (v := .slice e1 D.length f1) rfl
        have q5 := L2.out.c 0 (v := .slice a2 U0.length c2) rfl
        have q6 := L2.out.c 1 (v := .int .i64 y) rfl
        have q7 := L2.out.c 2 (v := .bool t) rfl
        have q8 := L2.out.c 3 (v := .slice b2 A'.length d2) rfl
        have q9 := L2.out.c 4 (v := .slice e2 D'.length f2) rfl
        go_wp2_with fail
        (with_reducible refine (KO'.out _ H2.out).mono ?_)
        clear q0 q1 q2 q3 q4 q5 q6 q7 q8 q9
        rintro e w2 ⟨rfl, bb⟩
        have H1 := hid (H1.out.old bb)
        have H2 := hid (H2.out.old bb)
        have L1 := hid (L1.out.old bb)
        have L2 := hid (L2.out.old bb)
        have B := hid (B.out.trans (bb.mono B.out.size))
        clear bb
        have q0 := L1.out.c 0 (v := .slice a1 T0.length c1) rfl
        have q1 := L1.out.c 1 (v := .int .i64 3) rfl
        have q2 := L1.out.c 2 (v := .bool s) rfl
        have q3 := L1.out.c 3 (v := .slice b1 A.length d1) rfl
        have q4 := L1.out.c 4 (v := .slice e1 D.length f1) rfl
        have q5 := L2.out.c 0 (v := .slice a2 U0.length c2) rfl
        have q6 := L2.out.c 1 (v := .int .i64 y) rfl
        have q7 := L2.out.c 2 (v := .bool t) rfl
        have q8 := L2.out.c 3 (v := .slice b2 A'.length d2) rfl
        have q9 := L2.out.c 4 (v := .slice e2 D'.length f2) rfl
        go_wp2_with fail
        (with_reducible refine (KI.out _ H1.out).mono ?_)
        clear q0 q1 q2 q3 q4 q5 q6 q7 q8 q9
        rintro e w3 ⟨rfl, bb⟩
        have H1 := hid (H1.out.old bb)
        have H2 := hid (H2.out.old bb)
        have L1 := hid (L1.out.old bb)
        have L2 := hid (L2.out.old bb)
        have B := hid (B.out.trans (bb.mono B.out.size))
        clear bb
        have q0 := L1.out.c 0 (v := .slice a1 T0.length c1) rfl
        have q1 := L1.out.c 1 (v := .int .i64 3) rfl
        have q2 := L1.out.c 2 (v := .bool s) rfl
        have q3 := L1.out.c 3 (v := .slice b1 A.length d1) rfl
        have q4 := L1.out.c 4 (v := .slice e1 D.length f1) rfl
        have q5 := L2.out.c 0 (v := .slice a2 U0.length c2) rfl
        have q6 := L2.out.c 1 (v := .int .i64 y) rfl
        have q7 := L2.out.c 2 (v := .bool t) rfl
        have q8 := L2.out.c 3 (v := .slice b2 A'.length d2) rfl
        have q9 := L2.out.c 4 (v := .slice e2 D'.length f2) rfl
        go_wp2_with fail
        (with_reducible refine (KS.out _ H1.out H2.out).mono ?_)
        clear q0 q1 q2 q3 q4 q5 q6 q7 q8 q9
        rintro e w4 ⟨rfl, bb⟩
        have H1 := hid (H1.out.old bb)
        have H2 := hid (H2.out.old bb)
        have L1 := hid (L1.out.old bb)
        have L2 := hid (L2.out.old bb)
        have B := hid (B.out.trans (bb.mono B.out.size))
        clear bb
        have q0 := L1.out.c 0 (v := .slice a1 T0.length c1) rfl
        have q1 := L1.out.c 1 (v := .int .i64 3) rfl
        have q2 := L1.out.c 2 (v := .bool s) rfl
        have q3 := L1.out.c 3 (v := .slice b1 A.length d1) rfl
        have q4 := L1.out.c 4 (v := .slice e1 D.length f1) rfl
        have q5 := L2.out.c 0 (v := .slice a2 U0.length c2) rfl
        have q6 := L2.out.c 1 (v := .int .i64 y) rfl
        have q7 := L2.out.c 2 (v := .bool t) rfl
        have q8 := L2.out.c 3 (v := .slice b2 A'.length d2) rfl
        have q9 := L2.out.c 4 (v := .slice e2 D'.length f2) rfl
        go_wp2_with fail
        (with_reducible refine (KE.out _ H1.out H2.out).mono ?_)
        clear q0 q1 q2 q3 q4 q5 q6 q7 q8 q9
        rintro e w5 ⟨rfl, bb⟩
        have H1 := hid (H1.out.old bb)
        have H2 := hid (H2.out.old bb)
        have L1 := hid (L1.out.old bb)
        have L2 := hid (L2.out.old bb)
        have B := hid (B.out.trans (bb.mono B.out.size))
        clear bb
        have q0 := L1.out.c 0 (v := .slice a1 T0.length c1) rfl
        have q1 := L1.out.c 1 (v := .int .i64 3) rfl
        have q2 := L1.out.c 2 (v := .bool s) rfl
        have q3 := L1.out.c 3 (v := .slice b1 A.length d1) rfl
        have q4 := L1.out.c 4 (v := .slice e1 D.length f1) rfl
        have q5 := L2.out.c 0 (v := .slice a2 U0.length c2) rfl
        have q6 := L2.out.c 1 (v := .int .i64 y) rfl
        have q7 := L2.out.c 2 (v := .bool t) rfl
        have q8 := L2.out.c 3 (v := .slice b2 A'.length d2) rfl
        have q9 := L2.out.c 4 (v := .slice e2 D'.length f2) rfl
        go_wp2
        go_ret
        exact ret_bool' (by rw [HR.out]; simp [impR, ho, ho', hi, hzz, hE, hx]) B.out
       |true =>
        rw [hE] at KE
        go_enter Tryz.func40, Tryz.ntmps40
        go_wp2_with fail
        rw [HW.out]
        (with_reducible refine (KO.out _ H1.out).mono ?_)
        rintro e w1 ⟨rfl, bb⟩
        have H1 := hid (H1.out.old bb)
        have H2 := hid (H2.out.old bb)
        have L1 := hid (L1.out.old bb)
        have L2 := hid (L2.out.old bb)
        have B := hid (B.out.trans (bb.mono B.out.size))
        clear bb
        have q0 := L1.out.c 0 (v := .slice a1 T0.length c1) rfl
        have q1 := L1.out.c 1 (v := .int .i64 3) rfl
        have q2 := L1.out.c 2 (v := .bool s) rfl
        have q3 := L1.out.c 3 (v := .slice b1 A.length d1) rfl
        have q4 := L1.out.c 4 (v := .slice e1 D.length f1) rfl
        have q5 := L2.out.c 0 (v := .slice a2 U0.length c2) rfl
        have q6 := L2.out.c 1 (v := .int .i64 y) rfl
        have q7 := L2.out.c 2 (v := .bool t) rfl
        have q8 := L2.out.c 3 (v := .slice b2 A'.length d2) rfl
        have q9 := L2.out.c 4 (v := .slice e2 D'.length f2) rfl
        go_wp2_with fail
        (with_reducible refine (KO'.out _ H2.out).mono ?_)
        clear q0 q1 q2 q3 q4 q5 q6 q7 q8 q9
        rintro e w2 ⟨rfl, bb⟩
        have H1 := hid (H1.out.old bb)
        have H2 := hid (H2.out.old bb)
        have L1 := hid (L1.out.old bb)
        have L2 := hid (L2.out.old bb)
        have B := hid (B.out.trans (bb.mono B.out.size))
        clear bb
        have q0 := L1.out.c 0 (v := .slice a1 T0.length c1) rfl
        have q1 := L1.out.c 1 (v := .int .i64 3) rfl
        have q2 := L1.out.c 2 (v := .bool s) rfl
        have q3 := L1.out.c 3 (v := .slice b1 A.length d1) rfl
        have q4 := L1.out.c 4 (v := .slice e1 D.length f1) rfl
        have q5 := L2.out.c 0 (v := .slice a2 U0.length c2) rfl
        have q6 := L2.out.c 1 (v := .int .i64 y) rfl
        have q7 := L2.out.c 2 (v := .bool t) rfl
        have q8 := L2.out.c 3 (v := .slice b2 A'.length d2) rfl
        have q9 := L2.out.c 4 (v := .slice e2 D'.length f2) rfl
        go_wp2_with fail
        (with_reducible refine (KI.out _ H1.out).mono ?_)
        clear q0 q1 q2 q3 q4 q5 q6 q7 q8 q9
        rintro e w3 ⟨rfl, bb⟩
        have H1 := hid (H1.out.old bb)
        have H2 := hid (H2.out.old bb)
        have L1 := hid (L1.out.old bb)
        have L2 := hid (L2.out.old bb)
        have B := hid (B.out.trans (bb.mono B.out.size))
        clear bb
        have q0 := L1.out.c 0 (v := .slice a1 T0.length c1) rfl
        have q1 := L1.out.c 1 (v := .int .i64 3) rfl
        have q2 := L1.out.c 2 (v := .bool s) rfl
        have q3 := L1.out.c 3 (v := .slice b1 A.length d1) rfl
        have q4 := L1.out.c 4 (v := .slice e1 D.length f1) rfl
        have q5 := L2.out.c 0 (v := .slice a2 U0.length c2) rfl
        have q6 := L2.out.c 1 (v := .int .i64 y) rfl
        have q7 := L2.out.c 2 (v := .bool t) rfl
        have q8 := L2.out.c 3 (v := .slice b2 A'.length d2) rfl
        have q9 := L2.out.c 4 (v := .slice e2 D'.length f2) rfl
        go_wp2_with fail
        (with_reducible refine (KS.out _ H1.out H2.out).mono ?_)
        clear q0 q1 q2 q3 q4 q5 q6 q7 q8 q9
        rintro e w4 ⟨rfl, bb⟩
        have H1 := hid (H1.out.old bb)
        have H2 := hid (H2.out.old bb)
        have L1 := hid (L1.out.old bb)
        have L2 := hid (L2.out.old bb)
        have B := hid (B.out.trans (bb.mono B.out.size))
        clear bb
        have q0 := L1.out.c 0 (v := .slice a1 T0.length c1) rfl
        have q1 := L1.out.c 1 (v := .int .i64 3) rfl
        have q2 := L1.out.c 2 (v := .bool s) rfl
        have q3 := L1.out.c 3 (v := .slice b1 A.length d1) rfl
        have q4 := L1.out.c 4 (v := .slice e1 D.length f1) rfl
        have q5 := L2.out.c 0 (v := .slice a2 U0.length c2) rfl
        have q6 := L2.out.c 1 (v := .int .i64 y) rfl
        have q7 := L2.out.c 2 (v := .bool t) rfl
        have q8 := L2.out.c 3 (v := .slice b2 A'.length d2) rfl
        have q9 := L2.out.c 4 (v := .slice e2 D'.length f2) rfl
        go_wp2_with fail
        (with_reducible refine (KE.out _ H1.out H2.out).mono ?_)
        clear q0 q1 q2 q3 q4 q5 q6 q7 q8 q9
        rintro e w5 ⟨rfl, bb⟩
        have H1 := hid (H1.out.old bb)
        have H2 := hid (H2.out.old bb)
        have L1 := hid (L1.out.old bb)
        have L2 := hid (L2.out.old bb)
        have B := hid (B.out.trans (bb.mono B.out.size))
        clear bb
        have q0 := L1.out.c 0 (v := .slice a1 T0.length c1) rfl
        have q1 := L1.out.c 1 (v := .int .i64 3) rfl
        have q2 := L1.out.c 2 (v := .bool s) rfl
        have q3 := L1.out.c 3 (v := .slice b1 A.length d1) rfl
        have q4 := L1.out.c 4 (v := .slice e1 D.length f1) rfl
        have q5 := L2.out.c 0 (v := .slice a2 U0.length c2) rfl
        have q6 := L2.out.c 1 (v := .int .i64 y) rfl
        have q7 := L2.out.c 2 (v := .bool t) rfl
        have q8 := L2.out.c 3 (v := .slice b2 A'.length d2) rfl
        have q9 := L2.out.c 4 (v := .slice e2 D'.length f2) rfl
        go_wp2
        go_ret
        exact ret_bool' (by rw [HR.out]; simp [impR, ho, ho', hi, hzz, hE, hx]) B.out
     ·have u1 : (x == 3) = false := beq_eq_false_iff_ne.2 h3
      go_enter Tryz.func40, Tryz.ntmps40
      go_wp2_with fail
      rw [HW.out]
      (with_reducible refine (KO.out _ H1.out).mono ?_)
      rintro e w1 ⟨rfl, bb⟩
      have H1 := hid (H1.out.old bb)
      have H2 := hid (H2.out.old bb)
      have L1 := hid (L1.out.old bb)
      have L2 := hid (L2.out.old bb)
      have B := hid (B.out.trans (bb.mono B.out.size))
      clear bb
      have q0 := L1.out.c 0 (v := .slice a1 T0.length c1) rfl
      have q1 := L1.out.c 1 (v := .int .i64 x) rfl
      have q2 := L1.out.c 2 (v := .bool s) rfl
      have q3 := L1.out.c 3 (v := .slice b1 A.length d1) rfl
      have q4 := L1.out.c 4 (v := .slice e1 D.length f1) rfl
      have q5 := L2.out.c 0 (v := .slice a2 U0.length c2) rfl
      have q6 := L2.out.c 1 (v := .int .i64 y) rfl
      have q7 := L2.out.c 2 (v := .bool t) rfl
      have q8 := L2.out.c 3 (v := .slice b2 A'.length d2) rfl
      have q9 := L2.out.c 4 (v := .slice e2 D'.length f2) rfl
      go_wp2_with fail
      (with_reducible refine (KO'.out _ H2.out).mono ?_)
      clear q0 q1 q2 q3 q4 q5 q6 q7 q8 q9
      rintro e w2 ⟨rfl, bb⟩
      have H1 := hid (H1.out.old bb)
      have H2 := hid (H2.out.old bb)
      have L1 := hid (L1.out.old bb)
      have L2 := hid (L2.out.old bb)
      have B := hid (B.out.trans (bb.mono B.out.size))
      clear bb
      have q0 := L1.out.c 0 (v := .slice a1 T0.length c1) rfl
      have q1 := L1.out.c 1 (v := .int .i64 x) rfl
      have q2 := L1.out.c 2 (v := .bool s) rfl
      have q3 := L1.out.c 3 (v := .slice b1 A.length d1) rfl
      have q4 := L1.out.c 4 (v := .slice e1 D.length f1) rfl
      have q5 := L2.out.c 0 (v := .slice a2 U0.length c2) rfl
      have q6 := L2.out.c 1 (v := .int .i64 y) rfl
      have q7 := L2.out.c 2 (v := .bool t) rfl
      have q8 := L2.out.c 3 (v := .slice b2 A'.length d2) rfl
      have q9 := L2.out.c 4 (v := .slice e2 D'.length f2) rfl
      go_wp2_with fail
      (with_reducible refine (KI.out _ H1.out).mono ?_)
      clear q0 q1 q2 q3 q4 q5 q6 q7 q8 q9
      rintro e w3 ⟨rfl, bb⟩
      have H1 := hid (H1.out.old bb)
      have H2 := hid (H2.out.old bb)
      have L1 := hid (L1.out.old bb)
      have L2 := hid (L2.out.old bb)
      have B := hid (B.out.trans (bb.mono B.out.size))
      clear bb
      have q0 := L1.out.c 0 (v := .slice a1 T0.length c1) rfl
      have q1 := L1.out.c 1 (v := .int .i64 x) rfl
      have q2 := L1.out.c 2 (v := .bool s) rfl
      have q3 := L1.out.c 3 (v := .slice b1 A.length d1) rfl
      have q4 := L1.out.c 4 (v := .slice e1 D.length f1) rfl
      have q5 := L2.out.c 0 (v := .slice a2 U0.length c2) rfl
      have q6 := L2.out.c 1 (v := .int .i64 y) rfl
      have q7 := L2.out.c 2 (v := .bool t) rfl
      have q8 := L2.out.c 3 (v := .slice b2 A'.length d2) rfl
      have q9 := L2.out.c 4 (v := .slice e2 D'.length f2) rfl
      go_wp2
      go_ret
      exact ret_bool' (by rw [HR.out]; simp [impR, ho, ho', hi, hx, h3]) B.out
theorem spec_RowImplies {t1 v1 u1 t2 v2 u2 : Value} {T0 U0 : List Tq} {A D A' D' : List Int} (x y : Int) (s t : Bool) (hK : SmT T0) (hL : SmT U0) (la : A.length ≤ 1048576) (ld : D.length ≤ 1048576) (la' : A'.length ≤ 1048576) (ld' : D'.length ≤ 1048576) (w : World) (h : RwW w t1 v1 u1 T0 A D) (h' : RwW w t2 v2 u2 U0 A' D') :
  Calls Tryz.prog 39 #[.agg #[t1, .int .i64 x, .bool s, v1, u1], .agg #[t2, .int .i64 y, .bool t, v2, u2]] w (RetB (.bool (impR T0 x s A D U0 y t A' D')) w) := by
 obtain ⟨a1, c1, b1, d1, e1, f1, rfl, rfl, rfl⟩ := h.form
 obtain ⟨a2, c2, b2, d2, e2, f2, rfl, rfl, rfl⟩ := h'.form
 have B := hid (below_new2 (w := w) (o := .cells #[.slice a1 T0.length c1, .int .i64 x, .bool s, .slice b1 A.length d1, .slice e1 D.length f1] 39) (o' := .cells #[.slice a2 U0.length c2, .int .i64 y, .bool t, .slice b2 A'.length d2, .slice e2 D'.length f2] 39))
 have L1 := hid ((LocA.at (T := 39) (w := w) (b := w.heap.size) (cs := #[.slice a1 T0.length c1, .int .i64 x, .bool s, .slice b1 A.length d1, .slice e1 D.length f1]) rfl).new1 (o := .cells #[.slice a2 U0.length c2, .int .i64 y, .bool t, .slice b2 A'.length d2, .slice e2 D'.length f2] 39))
 have L2 := hid (LocA.at (T := 39) (w := w.alloc (.cells #[.slice a1 T0.length c1, .int .i64 x, .bool s, .slice b1 A.length d1, .slice e1 D.length f1] 39)) (b := w.heap.size + 1) (cs := #[.slice a2 U0.length c2, .int .i64 y, .bool t, .slice b2 A'.length d2, .slice e2 D'.length f2]) (by simp))
 have H1 := hid (h.old B.out)
 have H2 := hid (h'.old B.out)
 clear h h'
 have KO := hid (fun (W : World) (g : RwW W (.slice a1 T0.length c1) (.slice b1 A.length d1) (.slice e1 D.length f1) T0 A D) => spec_RowOk x s hK la ld 40 (by omega) (by omega) W g)
 have KO' := hid (fun (W : World) (g : RwW W (.slice a2 U0.length c2) (.slice b2 A'.length d2) (.slice e2 D'.length f2) U0 A' D') => spec_RowOk y t hL la' ld' 40 (by omega) (by omega) W g)
 have KI := hid (fun (W : World) (g : RwW W (.slice a1 T0.length c1) (.slice b1 A.length d1) (.slice e1 D.length f1) T0 A D) => spec_RowInfeasible x s hK la ld W g)
 have KE := hid (fun (W : World) (g : RwW W (.slice a1 T0.length c1) (.slice b1 A.length d1) (.slice e1 D.length f1) T0 A D) (g' : RwW W (.slice a2 U0.length c2) (.slice b2 A'.length d2) (.slice e2 D'.length f2) U0 A' D') => spec_TermsEqual_rw hK hL W g g')
 obtain ⟨R, hR⟩ : ∃ R, R = impR T0 x s A D U0 y t A' D' := ⟨_, rfl⟩
 rw [← hR]
 have HR := hid hR
 clear hR
 generalize hW : (w.alloc (.cells #[.slice a1 T0.length c1, .int .i64 x, .bool s, .slice b1 A.length d1, .slice e1 D.length f1] 39)).alloc (.cells #[.slice a2 U0.length c2, .int .i64 y, .bool t, .slice b2 A'.length d2, .slice e2 D'.length f2] 39) = W0 at B L1 L2 H1 H2
 have HW := hid hW
 clear hW
 cases ho : rowOk T0 x s A D 40 with
 |false =>
  rw [ho] at KO
  go_enter Tryz.func39, Tryz.ntmps39
  go_wp2_with fail
  rw [HW.out]
  (with_reducible refine (KO.out _ H1.out).mono ?_)
  rintro e w1 ⟨rfl, bb⟩
  have H1 := hid (H1.out.old bb)
  have H2 := hid (H2.out.old bb)
  have L1 := hid (L1.out.old bb)
  have L2 := hid (L2.out.old bb)
  have B := hid (B.out.trans (bb.mono B.out.size))
  clear bb
  have q0 := L1.out.c 0 (v := .slice a1 T0.length c1) rfl
  have q1 := L1.out.c 1 (v := .int .i64 x) rfl
  have q2 := L1.out.c 2 (v := .bool s) rfl
  have q3 := L1.out.c 3 (v := .slice b1 A.length d1) rfl
  have q4 := L1.out.c 4 (v := .slice e1 D.length f1) rfl
  have q5 := L2.out.c 0 (v := .slice a2 U0.length c2) rfl
  have q6 := L2.out.c 1 (v := .int .i64 y) rfl
  have q7 := L2.out.c 2 (v := .bool t) rfl
  have q8 := L2.out.c 3 (v := .slice b2 A'.length d2) rfl
  have q9 := L2.out.c 4 (v := .slice e2 D'.length f2) rfl
  go_wp2
  go_ret
  exact ret_bool' (by rw [HR.out]; simp [impR, ho]) B.out
 |true =>
  rw [ho] at KO
  cases ho' : rowOk U0 y t A' D' 40 with
  |false =>
   rw [ho'] at KO'
   go_enter Tryz.func39, Tryz.ntmps39
   go_wp2_with fail
   rw [HW.out]
   (with_reducible refine (KO.out _ H1.out).mono ?_)
   rintro e w1 ⟨rfl, bb⟩
   have H1 := hid (H1.out.old bb)
   have H2 := hid (H2.out.old bb)
   have L1 := hid (L1.out.old bb)
   have L2 := hid (L2.out.old bb)
   have B := hid (B.out.trans (bb.mono B.out.size))
   clear bb
   have q0 := L1.out.c 0 (v := .slice a1 T0.length c1) rfl
   have q1 := L1.out.c 1 (v := .int .i64 x) rfl
   have q2 := L1.out.c 2 (v := .bool s) rfl
   have q3 := L1.out.c 3 (v := .slice b1 A.length d1) rfl
   have q4 := L1.out.c 4 (v := .slice e1 D.length f1) rfl
   have q5 := L2.out.c 0 (v := .slice a2 U0.length c2) rfl
   have q6 := L2.out.c 1 (v := .int .i64 y) rfl
   have q7 := L2.out.c 2 (v := .bool t) rfl
   have q8 := L2.out.c 3 (v := .slice b2 A'.length d2) rfl
   have q9 := L2.out.c 4 (v := .slice e2 D'.length f2) rfl
   go_wp2_with fail
   (with_reducible refine (KO'.out _ H2.out).mono ?_)
   clear q0 q1 q2 q3 q4 q5 q6 q7 q8 q9
   rintro e w2 ⟨rfl, bb⟩
   have H1 := hid (H1.out.old bb)
   have H2 := hid (H2.out.old bb)
   have L1 := hid (L1.out.old bb)
   have L2 := hid (L2.out.old bb)
   have B := hid (B.out.trans (bb.mono B.out.size))
   clear bb
   have q0 := L1.out.c 0 (v := .slice a1 T0.length c1) rfl
   have q1 := L1.out.c 1 (v := .int .i64 x) rfl
   have q2 := L1.out.c 2 (v := .bool s) rfl
   have q3 := L1.out.c 3 (v := .slice b1 A.length d1) rfl
   have q4 := L1.out.c 4 (v := .slice e1 D.length f1) rfl
   have q5 := L2.out.c 0 (v := .slice a2 U0.length c2) rfl
   have q6 := L2.out.c 1 (v := .int .i64 y) rfl
   have q7 := L2.out.c 2 (v := .bool t) rfl
   have q8 := L2.out.c 3 (v := .slice b2 A'.length d2) rfl
   have q9 := L2.out.c 4 (v := .slice e2 D'.length f2) rfl
   go_wp2
   go_ret
   exact ret_bool' (by rw [HR.out]; simp [impR, ho, ho']) B.out
  |true =>
   rw [ho'] at KO'
   obtain ⟨-, -, -, hr1⟩ := rowOk_parts ho
   obtain ⟨-, -, -, hr2⟩ := rowOk_parts ho'
   obtain ⟨X, hX0⟩ : ∃ X, rval s A D = some X := ⟨_, if_pos hr1⟩
   obtain ⟨Y, hY0⟩ : ∃ Y, rval t A' D' = some Y := ⟨_, if_pos hr2⟩
   have hX := hid hX0
   have hY := hid hY0
   have HZ := hid (show cmpO (rval s A D) (rval t A' D') = cmpF X Y by rw [hX0, hY0]; rfl)
   clear hX0 hY0 hr1 hr2
   cases hi : infR T0 x s A D with
   |true =>
    rw [hi] at KI
    go_enter Tryz.func39, Tryz.ntmps39
    go_wp2_with fail
    rw [HW.out]
    (with_reducible refine (KO.out _ H1.out).mono ?_)
    rintro e w1 ⟨rfl, bb⟩
    have H1 := hid (H1.out.old bb)
    have H2 := hid (H2.out.old bb)
    have L1 := hid (L1.out.old bb)
    have L2 := hid (L2.out.old bb)
    have B := hid (B.out.trans (bb.mono B.out.size))
    clear bb
    have q0 := L1.out.c 0 (v := .slice a1 T0.length c1) rfl
    have q1 := L1.out.c 1 (v := .int .i64 x) rfl
    have q2 := L1.out.c 2 (v := .bool s) rfl
    have q3 := L1.out.c 3 (v := .slice b1 A.length d1) rfl
    have q4 := L1.out.c 4 (v := .slice e1 D.length f1) rfl
    have q5 := L2.out.c 0 (v := .slice a2 U0.length c2) rfl
    have q6 := L2.out.c 1 (v := .int .i64 y) rfl
    have q7 := L2.out.c 2 (v := .bool t) rfl
    have q8 := L2.out.c 3 (v := .slice b2 A'.length d2) rfl
    have q9 := L2.out.c 4 (v := .slice e2 D'.length f2) rfl
    go_wp2_with fail
    (with_reducible refine (KO'.out _ H2.out).mono ?_)
    clear q0 q1 q2 q3 q4 q5 q6 q7 q8 q9
    rintro e w2 ⟨rfl, bb⟩
    have H1 := hid (H1.out.old bb)
    have H2 := hid (H2.out.old bb)
    have L1 := hid (L1.out.old bb)
    have L2 := hid (L2.out.old bb)
    have B := hid (B.out.trans (bb.mono B.out.size))
    clear bb
    have q0 := L1.out.c 0 (v := .slice a1 T0.length c1) rfl
    have q1 := L1.out.c 1 (v := .int .i64 x) rfl
    have q2 := L1.out.c 2 (v := .bool s) rfl
    have q3 := L1.out.c 3 (v := .slice b1 A.length d1) rfl
    have q4 := L1.out.c 4 (v := .slice e1 D.length f1) rfl
    have q5 := L2.out.c 0 (v := .slice a2 U0.length c2) rfl
    have q6 := L2.out.c 1 (v := .int .i64 y) rfl
    have q7 := L2.out.c 2 (v := .bool t) rfl
    have q8 := L2.out.c 3 (v := .slice b2 A'.length d2) rfl
    have q9 := L2.out.c 4 (v := .slice e2 D'.length f2) rfl
    go_wp2_with fail
    (with_reducible refine (KI.out _ H1.out).mono ?_)
    clear q0 q1 q2 q3 q4 q5 q6 q7 q8 q9
    rintro e w3 ⟨rfl, bb⟩
    have H1 := hid (H1.out.old bb)
    have H2 := hid (H2.out.old bb)
    have L1 := hid (L1.out.old bb)
    have L2 := hid (L2.out.old bb)
    have B := hid (B.out.trans (bb.mono B.out.size))
    clear bb
    have q0 := L1.out.c 0 (v := .slice a1 T0.length c1) rfl
    have q1 := L1.out.c 1 (v := .int .i64 x) rfl
    have q2 := L1.out.c 2 (v := .bool s) rfl
    have q3 := L1.out.c 3 (v := .slice b1 A.length d1) rfl
    have q4 := L1.out.c 4 (v := .slice e1 D.length f1) rfl
    have q5 := L2.out.c 0 (v := .slice a2 U0.length c2) rfl
    have q6 := L2.out.c 1 (v := .int .i64 y) rfl
    have q7 := L2.out.c 2 (v := .bool t) rfl
    have q8 := L2.out.c 3 (v := .slice b2 A'.length d2) rfl
    have q9 := L2.out.c 4 (v := .slice e2 D'.length f2) rfl
    go_wp2
    go_ret
    exact ret_bool' (by rw [HR.out]; simp [impR, ho, ho', hi]) B.out
   |false =>
    rw [hi] at KI
    cases hE : eqT T0 U0 with
    |false =>
     rw [hE] at KE
     go_enter Tryz.func39, Tryz.ntmps39
     go_wp2_with fail
     rw [HW.out]
     (with_reducible refine (KO.out _ H1.out).mono ?_)
     rintro e w1 ⟨rfl, bb⟩
     have H1 := hid (H1.out.old bb)
     have H2 := hid (H2.out.old bb)
     have L1 := hid (L1.out.old bb)
     have L2 := hid (L2.out.old bb)
     have B := hid (B.out.trans (bb.mono B.out.size))
     clear bb
     have q0 := L1.out.c 0 (v := .slice a1 T0.length c1) rfl
     have q1 := L1.out.c 1 (v := .int .i64 x) rfl
     have q2 := L1.out.c 2 (v := .bool s) rfl
     have q3 := L1.out.c 3 (v := .slice b1 A.length d1) rfl
     have q4 := L1.out.c 4 (v := .slice e1 D.length f1) rfl
     have q5 := L2.out.c 0 (v := .slice a2 U0.length c2) rfl
     have q6 := L2.out.c 1 (v := .int .i64 y) rfl
     have q7 := L2.out.c 2 (v := .bool t) rfl
     have q8 := L2.out.c 3 (v := .slice b2 A'.length d2) rfl
     have q9 := L2.out.c 4 (v := .slice e2 D'.length f2) rfl
     go_wp2_with fail
     (with_reducible refine (KO'.out _ H2.out).mono ?_)
     clear q0 q1 q2 q3 q4 q5 q6 q7 q8 q9
     rintro e w2 ⟨rfl, bb⟩
     have H1 := hid (H1.out.old bb)
     have H2 := hid (H2.out.old bb)
     have L1 := hid (L1.out.old bb)
     have L2 := hid (L2.out.old bb)
     have B := hid (B.out.trans (bb.mono B.out.size))
     clear bb
     have q0 := L1.out.c 0 (v := .slice a1 T0.length c1) rfl
     have q1 := L1.out.c 1 (v := .int .i64 x) rfl
     have q2 := L1.out.c 2 (v := .bool s) rfl
     have q3 := L1.out.c 3 (v := .slice b1 A.length d1) rfl
     have q4 := L1.out.c 4 (v := .slice e1 D.length f1) rfl
     have q5 := L2.out.c 0 (v := .slice a2 U0.length c2) rfl
     have q6 := L2.out.c 1 (v := .int .i64 y) rfl
     have q7 := L2.out.c 2 (v := .bool t) rfl
     have q8 := L2.out.c 3 (v := .slice b2 A'.length d2) rfl
     have q9 := L2.out.c 4 (v := .slice e2 D'.length f2) rfl
     go_wp2_with fail
     (with_reducible refine (KI.out _ H1.out).mono ?_)
     clear q0 q1 q2 q3 q4 q5 q6 q7 q8 q9
     rintro e w3 ⟨rfl, bb⟩
     have H1 := hid (H1.out.old bb)
     have H2 := hid (H2.out.old bb)
     have L1 := hid (L1.out.old bb)
     have L2 := hid (L2.out.old bb)
     have B := hid (B.out.trans (bb.mono B.out.size))
     clear bb
     have q0 := L1.out.c 0 (v := .slice a1 T0.length c1) rfl
     have q1 := L1.out.c 1 (v := .int .i64 x) rfl
     have q2 := L1.out.c 2 (v := .bool s) rfl
     have q3 := L1.out.c 3 (v := .slice b1 A.length d1) rfl
     have q4 := L1.out.c 4 (v := .slice e1 D.length f1) rfl
     have q5 := L2.out.c 0 (v := .slice a2 U0.length c2) rfl
     have q6 := L2.out.c 1 (v := .int .i64 y) rfl
     have q7 := L2.out.c 2 (v := .bool t) rfl
     have q8 := L2.out.c 3 (v := .slice b2 A'.length d2) rfl
     have q9 := L2.out.c 4 (v := .slice e2 D'.length f2) rfl
     go_wp2_with fail
     (with_reducible refine (KE.out _ H1.out H2.out).mono ?_)
     clear q0 q1 q2 q3 q4 q5 q6 q7 q8 q9
     rintro e w4 ⟨rfl, bb⟩
     have H1 := hid (H1.out.old bb)
     have H2 := hid (H2.out.old bb)
     have L1 := hid (L1.out.old bb)
     have L2 := hid (L2.out.old bb)
     have B := hid (B.out.trans (bb.mono B.out.size))
     clear bb
     have q0 := L1.out.c 0 (v := .slice a1 T0.length c1) rfl
     have q1 := L1.out.c 1 (v := .int .i64 x) rfl
     have q2 := L1.out.c 2 (v := .bool s) rfl
     have q3 := L1.out.c 3 (v := .slice b1 A.length d1) rfl
     have q4 := L1.out.c 4 (v := .slice e1 D.length f1) rfl
     have q5 := L2.out.c 0 (v := .slice a2 U0.length c2) rfl
     have q6 := L2.out.c 1 (v := .int .i64 y) rfl
     have q7 := L2.out.c 2 (v := .bool t) rfl
     have q8 := L2.out.c 3 (v := .slice b2 A'.length d2) rfl
     have q9 := L2.out.c 4 (v := .slice e2 D'.length f2) rfl
     go_wp2
     go_ret
     exact ret_bool' (by rw [HR.out]; simp [impR, ho, ho', hi, hE]) B.out
    |true =>
     rw [hE] at KE
     by_cases hx : x = y
     ·subst hx
      go_enter Tryz.func39, Tryz.ntmps39
      go_wp2_with fail
      rw [HW.out]
      (with_reducible refine (KO.out _ H1.out).mono ?_)
      rintro e w1 ⟨rfl, bb⟩
      have H1 := hid (H1.out.old bb)
      have H2 := hid (H2.out.old bb)
      have L1 := hid (L1.out.old bb)
      have L2 := hid (L2.out.old bb)
      have B := hid (B.out.trans (bb.mono B.out.size))
      clear bb
      have q0 := L1.out.c 0 (v := .slice a1 T0.length c1) rfl
      have q1 := L1.out.c 1 (v := .int .i64 x) rfl
      have q2 := L1.out.c 2 (v := .bool s) rfl
      have q3 := L1.out.c 3 (v := .slice b1 A.length d1) rfl
      have q4 := L1.out.c 4 (v := .slice e1 D.length f1) rfl
      have q5 := L2.out.c 0 (v := .slice a2 U0.length c2) rfl
      have q6 := L2.out.c 1 (v := .int .i64 x) rfl
      have q7 := L2.out.c 2 (v := .bool t) rfl
      have q8 := L2.out.c 3 (v := .slice b2 A'.length d2) rfl
      have q9 := L2.out.c 4 (v := .slice e2 D'.length f2) rfl
      go_wp2_with fail
      (with_reducible refine (KO'.out _ H2.out).mono ?_)
      clear q0 q1 q2 q3 q4 q5 q6 q7 q8 q9
      rintro e w2 ⟨rfl, bb⟩
      have H1 := hid (H1.out.old bb)
      have H2 := hid (H2.out.old bb)
      have L1 := hid (L1.out.old bb)
      have L2 := hid (L2.out.old bb)
      have B := hid (B.out.trans (bb.mono B.out.size))
      clear bb
      have q0 := L1.out.c 0 (v := .slice a1 T0.length c1) rfl
      have q1 := L1.out.c 1 (v := .int .i64 x) rfl
      have q2 := L1.out.c 2 (v := .bool s) rfl
      have q3 := L1.out.c 3 (v := .slice b1 A.length d1) rfl
      have q4 := L1.out.c 4 (v := .slice e1 D.length f1) rfl
      have q5 := L2.out.c 0 (v := .slice a2 U0.length c2) rfl
      have q6 := L2.out.c 1 (v := .int .i64 x) rfl
      have q7 := L2.out.c 2 (v := .bool t) rfl
      have q8 := L2.out.c 3 (v := .slice b2 A'.length d2) rfl
      have q9 := L2.out.c 4 (v := .slice e2 D'.length f2) rfl
      go_wp2_with fail
      (with_reducible refine (KI.out _ H1.out).mono ?_)
      clear q0 q1 q2 q3 q4 q5 q6 q7 q8 q9
      rintro e w3 ⟨rfl, bb⟩
      have H1 := hid (H1.out.old bb)
      have H2 := hid (H2.out.old bb)
      have L1 := hid (L1.out.old bb)
      have L2 := hid (L2.out.old bb)
      have B := hid (B.out.trans (bb.mono B.out.size))
      clear bb
      have q0 := L1.out.c 0 (v := .slice a1 T0.length c1) rfl
      have q1 := L1.out.c 1 (v := .int .i64 x) rfl
      have q2 := L1.out.c 2 (v := .bool s) rfl
      have q3 := L1.out.c 3 (v := .slice b1 A.length d1) rfl
      have q4 := L1.out.c 4 (v := .slice e1 D.length f1) rfl
      have q5 := L2.out.c 0 (v := .slice a2 U0.length c2) rfl
      have q6 := L2.out.c 1 (v := .int .i64 x) rfl
      have q7 := L2.out.c 2 (v := .bool t) rfl
      have q8 := L2.out.c 3 (v := .slice b2 A'.length d2) rfl
      have q9 := L2.out.c 4 (v := .slice e2 D'.length f2) rfl
      go_wp2_with fail
      (with_reducible refine (KE.out _ H1.out H2.out).mono ?_)
      clear q0 q1 q2 q3 q4 q5 q6 q7 q8 q9
      rintro e w4 ⟨rfl, bb⟩
      have H1 := hid (H1.out.old bb)
      have H2 := hid (H2.out.old bb)
      have L1 := hid (L1.out.old bb)
      have L2 := hid (L2.out.old bb)
      have B := hid (B.out.trans (bb.mono B.out.size))
      clear bb
      have KM := hid (spec_l11Meets x t s _ (hX.out ▸ H1.out.ra la ld s) (hY.out ▸ H2.out.ra la' ld' t))
      have q0 := L1.out.c 0 (v := .slice a1 T0.length c1) rfl
      have q1 := L1.out.c 1 (v := .int .i64 x) rfl
      have q2 := L1.out.c 2 (v := .bool s) rfl
      have q3 := L1.out.c 3 (v := .slice b1 A.length d1) rfl
      have q4 := L1.out.c 4 (v := .slice e1 D.length f1) rfl
      have q5 := L2.out.c 0 (v := .slice a2 U0.length c2) rfl
      have q6 := L2.out.c 1 (v := .int .i64 x) rfl
      have q7 := L2.out.c 2 (v := .bool t) rfl
      have q8 := L2.out.c 3 (v := .slice b2 A'.length d2) rfl
      have q9 := L2.out.c 4 (v := .slice e2 D'.length f2) rfl
      go_wp2_with fail
      (with_reducible refine (KM.out).mono ?_)
      clear q0 q1 q2 q3 q4 q5 q6 q7 q8 q9
      rintro e w5 ⟨rfl, bb⟩
      have H1 := hid (H1.out.old bb)
      have H2 := hid (H2.out.old bb)
      have L1 := hid (L1.out.old bb)
      have L2 := hid (L2.out.old bb)
      have B := hid (B.out.trans (bb.mono B.out.size))
      clear bb
      go_wp2
      go_ret
      exact ret_bool' (by rw [HR.out]; simp [impR, ho, ho', hi, hE, HZ.out]) B.out
     ·have u0 : (x != y) = true := bne_iff_ne.2 hx
      by_cases h3 : x = 3
      ·subst h3
       go_enter Tryz.func39, Tryz.ntmps39
       go_wp2_with fail
       rw [HW.out]
       (with_reducible refine (KO.out _ H1.out).mono ?_)
       rintro e w1 ⟨rfl, bb⟩
       have H1 := hid (H1.out.old bb)
       have H2 := hid (H2.out.old bb)
       have L1 := hid (L1.out.old bb)
       have L2 := hid (L2.out.old bb)
       have B := hid (B.out.trans (bb.mono B.out.size))
       clear bb
       have q0 := L1.out.c 0 (v := .slice a1 T0.length c1) rfl
       have q1 := L1.out.c 1 (v := .int .i64 3) rfl
       have q2 := L1.out.c 2 (v := .bool s) rfl
       have q3 := L1.out.c 3 (v := .slice b1 A.length d1) rfl
       have q4 := L1.out.c 4 (v := .slice e1 D.length f1) rfl
       have q5 := L2.out.c 0 (v := .slice a2 U0.length c2) rfl
       have q6 := L2.out.c 1 (v := .int .i64 y) rfl
       have q7 := L2.out.c 2 (v := .bool t) rfl
       have q8 := L2.out.c 3 (v := .slice b2 A'.length d2) rfl
       have q9 := L2.out.c 4 (v := .slice e2 D'.length f2) rfl
       go_wp2_with fail
       (with_reducible refine (KO'.out _ H2.out).mono ?_)
       clear q0 q1 q2 q3 q4 q5 q6 q7 q8 q9
       rintro e w2 ⟨rfl, bb⟩
       have H1 := hid (H1.out.old bb)
       have H2 := hid (H2.out.old bb)
       have L1 := hid (L1.out.old bb)
       have L2 := hid (L2.out.old bb)
       have B := hid (B.out.trans (bb.mono B.out.size))
       clear bb
       have q0 := L1.out.c 0 (v := .slice a1 T0.length c1) rfl
       have q1 := L1.out.c 1 (v := .int .i64 3) rfl
       have q2 := L1.out.c 2 (v := .bool s) rfl
       have q3 := L1.out.c 3 (v := .slice b1 A.length d1) rfl
       have q4 := L1.out.c 4 (v := .slice e1 D.length f1) rfl
       have q5 := L2.out.c 0 (v := .slice a2 U0.length c2) rfl
       have q6 := L2.out.c 1 (v := .int .i64 y) rfl
       have q7 := L2.out.c 2 (v := .bool t) rfl
       have q8 := L2.out.c 3 (v := .slice b2 A'.length d2) rfl
       have q9 := L2.out.c 4 (v := .slice e2 D'.length f2) rfl
       go_wp2_with fail
       (with_reducible refine (KI.out _ H1.out).mono ?_)
       clear q0 q1 q2 q3 q4 q5 q6 q7 q8 q9
       rintro e w3 ⟨rfl, bb⟩
       have H1 := hid (H1.out.old bb)
       have H2 := hid (H2.out.old bb)
       have L1 := hid (L1.out.old bb)
       have L2 := hid (L2.out.old bb)
       have B := hid (B.out.trans (bb.mono B.out.size))
       clear bb
       have q0 := L1.out.c 0 (v := .slice a1 T0.length c1) rfl
       have q1 := L1.out.c 1 (v := .int .i64 3) rfl
       have q2 := L1.out.c 2 (v := .bool s) rfl
       have q3 := L1.out.c 3 (v := .slice b1 A.length d1) rfl
       have q4 := L1.out.c 4 (v := .slice e1 D.length f1) rfl
       have q5 := L2.out.c 0 (v := .slice a2 U0.length c2) rfl
       have q6 := L2.out.c 1 (v := .int .i64 y) rfl
       have q7 := L2.out.c 2 (v := .bool t) rfl
       have q8 := L2.out.c 3 (v := .slice b2 A'.length d2) rfl
       have q9 := L2.out.c 4 (v := .slice e2 D'.length f2) rfl
       go_wp2_with fail
       (with_reducible refine (KE.out _ H1.out H2.out).mono ?_)
       clear q0 q1 q2 q3 q4 q5 q6 q7 q8 q9
       rintro e w4 ⟨rfl, bb⟩
       have H1 := hid (H1.out.old bb)
       have H2 := hid (H2.out.old bb)
       have L1 := hid (L1.out.old bb)
       have L2 := hid (L2.out.old bb)
       have B := hid (B.out.trans (bb.mono B.out.size))
       clear bb
       have KM := hid (spec_l11Meets y t s _ (hX.out ▸ H1.out.ra la ld s) (hY.out ▸ H2.out.ra la' ld' t))
       have q0 := L1.out.c 0 (v := .slice a1 T0.length c1) rfl
       have q1 := L1.out.c 1 (v := .int .i64 3) rfl
       have q2 := L1.out.c 2 (v := .bool s) rfl
       have q3 := L1.out.c 3 (v := .slice b1 A.length d1) rfl
       have q4 := L1.out.c 4 (v := .slice e1 D.length f1) rfl
       have q5 := L2.out.c 0 (v := .slice a2 U0.length c2) rfl
       have q6 := L2.out.c 1 (v := .int .i64 y) rfl
       have q7 := L2.out.c 2 (v := .bool t) rfl
       have q8 := L2.out.c 3 (v := .slice b2 A'.length d2) rfl
       have q9 := L2.out.c 4 (v := .slice e2 D'.length f2) rfl
       go_wp2_with fail
       (with_reducible refine (KM.out).mono ?_)
       clear q0 q1 q2 q3 q4 q5 q6 q7 q8 q9
       rintro e w5 ⟨rfl, bb⟩
       have H1 := hid (H1.out.old bb)
       have H2 := hid (H2.out.old bb)
       have L1 := hid (L1.out.old bb)
       have L2 := hid (L2.out.old bb)
       have B := hid (B.out.trans (bb.mono B.out.size))
       clear bb
       go_wp2
       go_ret
       exact ret_bool' (by rw [HR.out]; simp [impR, ho, ho', hi, hE, HZ.out]) B.out
      ·have u1 : (x != 3) = true := bne_iff_ne.2 h3
       go_enter Tryz.func39, Tryz.ntmps39
       go_wp2_with fail
       rw [HW.out]
       (with_reducible refine (KO.out _ H1.out).mono ?_)
       rintro e w1 ⟨rfl, bb⟩
       have H1 := hid (H1.out.old bb)
       have H2 := hid (H2.out.old bb)
       have L1 := hid (L1.out.old bb)
       have L2 := hid (L2.out.old bb)
       have B := hid (B.out.trans (bb.mono B.out.size))
       clear bb
       have q0 := L1.out.c 0 (v := .slice a1 T0.length c1) rfl
       have q1 := L1.out.c 1 (v := .int .i64 x) rfl
       have q2 := L1.out.c 2 (v := .bool s) rfl
       have q3 := L1.out.c 3 (v := .slice b1 A.length d1) rfl
       have q4 := L1.out.c 4 (v := .slice e1 D.length f1) rfl
       have q5 := L2.out.c 0 (v := .slice a2 U0.length c2) rfl
       have q6 := L2.out.c 1 (v := .int .i64 y) rfl
       have q7 := L2.out.c 2 (v := .bool t) rfl
       have q8 := L2.out.c 3 (v := .slice b2 A'.length d2) rfl
       have q9 := L2.out.c 4 (v := .slice e2 D'.length f2) rfl
       go_wp2_with fail
       (with_reducible refine (KO'.out _ H2.out).mono ?_)
       clear q0 q1 q2 q3 q4 q5 q6 q7 q8 q9
       rintro e w2 ⟨rfl, bb⟩
       have H1 := hid (H1.out.old bb)
       have H2 := hid (H2.out.old bb)
       have L1 := hid (L1.out.old bb)
       have L2 := hid (L2.out.old bb)
       have B := hid (B.out.trans (bb.mono B.out.size))
       clear bb
       have q0 := L1.out.c 0 (v := .slice a1 T0.length c1) rfl
       have q1 := L1.out.c 1 (v := .int .i64 x) rfl
       have q2 := L1.out.c 2 (v := .bool s) rfl
       have q3 := L1.out.c 3 (v := .slice b1 A.length d1) rfl
       have q4 := L1.out.c 4 (v := .slice e1 D.length f1) rfl
       have q5 := L2.out.c 0 (v := .slice a2 U0.length c2) rfl
       have q6 := L2.out.c 1 (v := .int .i64 y) rfl
       have q7 := L2.out.c 2 (v := .bool t) rfl
       have q8 := L2.out.c 3 (v := .slice b2 A'.length d2) rfl
       have q9 := L2.out.c 4 (v := .slice e2 D'.length f2) rfl
       go_wp2_with fail
       (with_reducible refine (KI.out _ H1.out).mono ?_)
       clear q0 q1 q2 q3 q4 q5 q6 q7 q8 q9
       rintro e w3 ⟨rfl, bb⟩
       have H1 := hid (H1.out.old bb)
       have H2 := hid (H2.out.old bb)
       have L1 := hid (L1.out.old bb)
       have L2 := hid (L2.out.old bb)
       have B := hid (B.out.trans (bb.mono B.out.size))
       clear bb
       have q0 := L1.out.c 0 (v := .slice a1 T0.length c1) rfl
       have q1 := L1.out.c 1 (v := .int .i64 x) rfl
       have q2 := L1.out.c 2 (v := .bool s) rfl
       have q3 := L1.out.c 3 (v := .slice b1 A.length d1) rfl
       have q4 := L1.out.c 4 (v := .slice e1 D.length f1) rfl
       have q5 := L2.out.c 0 (v := .slice a2 U0.length c2) rfl
       have q6 := L2.out.c 1 (v := .int .i64 y) rfl
       have q7 := L2.out.c 2 (v := .bool t) rfl
       have q8 := L2.out.c 3 (v := .slice b2 A'.length d2) rfl
       have q9 := L2.out.c 4 (v := .slice e2 D'.length f2) rfl
       go_wp2_with fail
       (with_reducible refine (KE.out _ H1.out H2.out).mono ?_)
       clear q0 q1 q2 q3 q4 q5 q6 q7 q8 q9
       rintro e w4 ⟨rfl, bb⟩
       have H1 := hid (H1.out.old bb)
       have H2 := hid (H2.out.old bb)
       have L1 := hid (L1.out.old bb)
       have L2 := hid (L2.out.old bb)
       have B := hid (B.out.trans (bb.mono B.out.size))
       clear bb
       have q0 := L1.out.c 0 (v := .slice a1 T0.length c1) rfl
       have q1 := L1.out.c 1 (v := .int .i64 x) rfl
       have q2 := L1.out.c 2 (v := .bool s) rfl
       have q3 := L1.out.c 3 (v := .slice b1 A.length d1) rfl
       have q4 := L1.out.c 4 (v := .slice e1 D.length f1) rfl
       have q5 := L2.out.c 0 (v := .slice a2 U0.length c2) rfl
       have q6 := L2.out.c 1 (v := .int .i64 y) rfl
       have q7 := L2.out.c 2 (v := .bool t) rfl
       have q8 := L2.out.c 3 (v := .slice b2 A'.length d2) rfl
       have q9 := L2.out.c 4 (v := .slice e2 D'.length f2) rfl
       go_wp2
       go_ret
       exact ret_bool' (by rw [HR.out]; simp [impR, ho, ho', hi, hE, hx, h3]) B.out
end Go.Proofs.YthkehmnodcmlcaaGreat
