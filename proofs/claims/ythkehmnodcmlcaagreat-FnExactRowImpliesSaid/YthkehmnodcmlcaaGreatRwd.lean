import Derived.Test.YthkehmnodcmlcaaGreatRwb
import Derived.Test.YthkehmnodcmlcaaGreatTva
import Derived.Deep.RegionLaw
import Derived.Deep.RegionHeld3
import Derived.Deep.DeepCutAuto
set_option maxRecDepth 100000
set_option maxHeartbeats 12800000
set_option linter.unusedVariables false
set_option linter.unusedSimpArgs false
namespace Go.Proofs.YthkehmnodcmlcaaGreat
open Go.RowKit
open Go.Lib (hid)
theorem meets_zero (x : Int) : meets x 0 = true := by unfold meets; split <;> (try split) <;> simp
def holdsR (T0 : List Tq) (x : Int) (s : Bool) (A D : List Int) (V : List Fq) : Bool := rowOk T0 x s A D V.length && oks (vals V) && meets x (cmpO (valT T0 V) (rval s A D))
theorem rowOk_parts {T0 : List Tq} {x : Int} {s : Bool} {A D : List Int} {z : Int} (h : rowOk T0 x s A D z = true) : tok T0 z = true ∧ 1 ≤ x ∧ x ≤ 3 ∧ rok s A D = true := by
 simp only [rowOk, Bool.and_eq_true, decide_eq_true_eq] at h
 exact ⟨h.1.1, h.1.2.1, h.1.2.2, h.2⟩
theorem impl_satisfies {v' u' t v u : Value} {T0 : List Tq} {A D : List Int} {o : Option Rat} (x : Int) (s s' : Bool) (la : A.length ≤ 1048576) (ld : D.length ≤ 1048576) (w : World) (hv : RA w s' v' u' o) (h : RwW w t v u T0 A D) :
  Calls Tryz.prog 64 #[.agg #[.bool s', v', u'], .agg #[t, .int .i64 x, .bool s, v, u]] w (RetB (.bool (meets x (cmpO o (rval s A D)))) w) := by
 obtain ⟨a1, c1, b1, d1, e1, f1, rfl, rfl, rfl⟩ := h.form
 obtain ⟨a2, n2, c2, b2, m2, d2, rfl, rfl⟩ := hv.form
 have B := hid (below_new2 (w := w) (o := .cells #[.bool s', .slice a2 n2 c2, .slice b2 m2 d2] 37) (o' := .cells #[.slice a1 T0.length c1, .int .i64 x, .bool s, .slice b1 A.length d1, .slice e1 D.length f1] 39))
 have L1 := hid ((LocA.at (T := 37) (w := w) (b := w.heap.size) (cs := #[.bool s', .slice a2 n2 c2, .slice b2 m2 d2]) rfl).new1 (o := .cells #[.slice a1 T0.length c1, .int .i64 x, .bool s, .slice b1 A.length d1, .slice e1 D.length f1] 39))
 have L2 := hid (LocA.at (T := 39) (w := w.alloc (.cells #[.bool s', .slice a2 n2 c2, .slice b2 m2 d2] 37)) (b := w.heap.size + 1) (cs := #[.slice a1 T0.length c1, .int .i64 x, .bool s, .slice b1 A.length d1, .slice e1 D.length f1]) (by simp))
 obtain ⟨A', D', hr', ho⟩ := hv.old B.out
 have H := h.old B.out
 have KC := hid (impl_RatCmp s' s (.slice a2 n2 c2) (.slice b2 m2 d2) (.slice b1 A.length d1) (.slice e1 D.length f1) A' D' A D _ hr' (H.rl la ld))
 rw [ho] at KC
 obtain ⟨z, hz⟩ : ∃ z, z = cmpO o (rval s A D) := ⟨_, rfl⟩
 rw [← hz] at KC ⊢
 clear hz ho hr' H h hv
 generalize hW : (w.alloc (.cells #[.bool s', .slice a2 n2 c2, .slice b2 m2 d2] 37)).alloc (.cells #[.slice a1 T0.length c1, .int .i64 x, .bool s, .slice b1 A.length d1, .slice e1 D.length f1] 39) = W0 at B L1 L2 KC
 have HW := hid hW
 clear hW
 by_cases h1 : x = 1
 ·subst h1
  go_enter Tryz.func64, Tryz.ntmps64
  go_wp2_with fail
  rw [HW.out]
  (with_reducible refine (KC.out).mono ?_)
  rintro e w1 ⟨rfl, gg⟩
  have L1 := hid (L1.out.old gg)
  have L2 := hid (L2.out.old gg)
  have B := hid (B.out.trans (gg.mono B.out.size))
  have q0 := L2.out.c 1 rfl
  clear gg
  go_wp2
  go_ret
  exact ret_bool' (by unfold meets; rw [if_pos rfl] <;> first | rfl | simp) B.out
 have u0 : (x == 1) = false := beq_eq_false_iff_ne.2 h1
 by_cases h2 : x = 2
 ·subst h2
  go_enter Tryz.func64, Tryz.ntmps64
  go_wp2_with fail
  rw [HW.out]
  (with_reducible refine (KC.out).mono ?_)
  rintro e w1 ⟨rfl, gg⟩
  have L1 := hid (L1.out.old gg)
  have L2 := hid (L2.out.old gg)
  have B := hid (B.out.trans (gg.mono B.out.size))
  have q0 := L2.out.c 1 rfl
  clear gg
  go_wp2
  go_ret
  exact ret_bool' (by unfold meets; rw [if_neg (by decide), if_pos rfl] <;> first | rfl | simp) B.out
 have u1 : (x == 2) = false := beq_eq_false_iff_ne.2 h2
 go_enter Tryz.func64, Tryz.ntmps64
 go_wp2_with fail
 rw [HW.out]
 (with_reducible refine (KC.out).mono ?_)
 rintro e w1 ⟨rfl, gg⟩
 have L1 := hid (L1.out.old gg)
 have L2 := hid (L2.out.old gg)
 have B := hid (B.out.trans (gg.mono B.out.size))
 have q0 := L2.out.c 1 rfl
 clear gg
 go_wp2
 go_ret
 exact ret_bool' (by unfold meets; rw [if_neg h1, if_neg h2] <;> first | rfl | simp) B.out
theorem spec_l11Meets {v' u' v u : Value} {X Y : Rat} (x : Int) (s s' : Bool) (w : World) (hv : RA w s' v' u' (some X)) (hr : RA w s v u (some Y)) :
  Calls Tryz.prog 61 #[.agg #[.bool s', v', u'], .int .i64 x, .agg #[.bool s, v, u]] w (RetB (.bool (meets x (cmpF X Y))) w) := by
 obtain ⟨a1, n1, c1, b1, m1, d1, rfl, rfl⟩ := hr.form
 obtain ⟨a2, n2, c2, b2, m2, d2, rfl, rfl⟩ := hv.form
 have B := hid (below_new2 (w := w) (o := .cells #[.bool s', .slice a2 n2 c2, .slice b2 m2 d2] 37) (o' := .cells #[.bool s, .slice a1 n1 c1, .slice b1 m1 d1] 37))
 have L1 := hid ((LocA.at (T := 37) (w := w) (b := w.heap.size) (cs := #[.bool s', .slice a2 n2 c2, .slice b2 m2 d2]) rfl).new1 (o := .cells #[.bool s, .slice a1 n1 c1, .slice b1 m1 d1] 37))
 have L2 := hid (LocA.at (T := 37) (w := w.alloc (.cells #[.bool s', .slice a2 n2 c2, .slice b2 m2 d2] 37)) (b := w.heap.size + 1) (cs := #[.bool s, .slice a1 n1 c1, .slice b1 m1 d1]) (by simp))
 have KC := hid (l04Cmp_own s' s (.slice a2 n2 c2) (.slice b2 m2 d2) (.slice a1 n1 c1) (.slice b1 m1 d1) X Y _ (hv.old B.out).x (hr.old B.out).x)
 obtain ⟨z, hz⟩ : ∃ z, z = cmpF X Y := ⟨_, rfl⟩
 rw [← hz] at KC ⊢
 clear hz hv hr
 generalize hW : (w.alloc (.cells #[.bool s', .slice a2 n2 c2, .slice b2 m2 d2] 37)).alloc (.cells #[.bool s, .slice a1 n1 c1, .slice b1 m1 d1] 37) = W0 at B L1 L2 KC
 have HW := hid hW
 clear hW
 by_cases h1 : x = 1
 ·subst h1
  go_enter Tryz.func61, Tryz.ntmps61
  go_wp2_with fail
  rw [HW.out]
  (with_reducible refine (KC.out).mono ?_)
  rintro e w1 ⟨rfl, gg⟩
  have L1 := hid (L1.out.old gg)
  have L2 := hid (L2.out.old gg)
  have B := hid (B.out.trans (gg.mono B.out.size))
  skip
  clear gg
  go_wp2
  go_ret
  exact ret_bool' (by unfold meets; rw [if_pos rfl] <;> first | rfl | simp) B.out
 have u0 : (x == 1) = false := beq_eq_false_iff_ne.2 h1
 by_cases h2 : x = 2
 ·subst h2
  go_enter Tryz.func61, Tryz.ntmps61
  go_wp2_with fail
  rw [HW.out]
  (with_reducible refine (KC.out).mono ?_)
  rintro e w1 ⟨rfl, gg⟩
  have L1 := hid (L1.out.old gg)
  have L2 := hid (L2.out.old gg)
  have B := hid (B.out.trans (gg.mono B.out.size))
  skip
  clear gg
  go_wp2
  go_ret
  exact ret_bool' (by unfold meets; rw [if_neg (by decide), if_pos rfl] <;> first | rfl | simp) B.out
 have u1 : (x == 2) = false := beq_eq_false_iff_ne.2 h2
 go_enter Tryz.func61, Tryz.ntmps61
 go_wp2_with fail
 rw [HW.out]
 (with_reducible refine (KC.out).mono ?_)
 rintro e w1 ⟨rfl, gg⟩
 have L1 := hid (L1.out.old gg)
 have L2 := hid (L2.out.old gg)
 have B := hid (B.out.trans (gg.mono B.out.size))
 skip
 clear gg
 go_wp2
 go_ret
 exact ret_bool' (by unfold meets; rw [if_neg h1, if_neg h2] <;> first | rfl | simp) B.out
theorem impl_RowHolds {t v u : Value} {T0 : List Tq} {A D : List Int} {b : Option Addr} {n c : Nat} {V : List Fq} {p : Bool} {lo hi : Nat} (x : Int) (s : Bool) (hK : SmT T0) (hL : Sm V) (la : A.length ≤ 1048576) (ld : D.length ≤ 1048576) (w : World) (h : RwW w t v u T0 A D) (h' : VK p w (.slice b n c) V lo hi) :
  Calls Tryz.prog 18 #[.agg #[t, .int .i64 x, .bool s, v, u], .slice b n c] w (RetB (.bool (holdsR T0 x s A D V)) w) := by
 obtain ⟨a1, c1, b1, d1, e1, f1, rfl, rfl, rfl⟩ := h.form
 obtain rfl := h'.num
 have hlen := hL.2
 have B := hid (below_new' (w := w) (o := .cells #[.slice a1 T0.length c1, .int .i64 x, .bool s, .slice b1 A.length d1, .slice e1 D.length f1] 39))
 have LX := hid (LocA.new (w := w) (T := 39) (cs := #[.slice a1 T0.length c1, .int .i64 x, .bool s, .slice b1 A.length d1, .slice e1 D.length f1]))
 have H := hid (h.old B.out)
 have HV := hid (h'.old B.out)
 clear h h'
 have KO := hid (fun (W : World) (g : RwW W (.slice a1 T0.length c1) (.slice b1 A.length d1) (.slice e1 D.length f1) T0 A D) => impl_RowOk x s hK la ld (V.length : Int) (by omega) (by omega) W g)
 have KV := hid (fun (W : World) (g : VK p W (.slice b V.length c) V lo hi) => impl_VecOk hL W g)
 have KT := hid (fun (W : World) (g : RwW W (.slice a1 T0.length c1) (.slice b1 A.length d1) (.slice e1 D.length f1) T0 A D) (g' : VK p W (.slice b V.length c) V lo hi) => show Calls Tryz.prog 65 #[.slice a1 T0.length c1, .slice b V.length c] W (RatO true (valT T0 V) W) from by
  obtain ⟨⟨_, _, _, y⟩, -⟩ := g
  exact impl_TermsValue hK hL W y g')
 have KS := hid (fun (W : World) (sa : Bool) (aa : Option Addr) (na ca : Nat) (ba : Option Addr) (ma da : Nat) (g : RwW W (.slice a1 T0.length c1) (.slice b1 A.length d1) (.slice e1 D.length f1) T0 A D) (g' : RA W sa (.slice aa na ca) (.slice ba ma da) (valT T0 V)) => impl_satisfies x s sa la ld W g' g)
 obtain ⟨R, hR⟩ : ∃ R, R = holdsR T0 x s A D V := ⟨_, rfl⟩
 rw [← hR]
 have HR := hid hR
 clear hR
 obtain ⟨zz, hzz⟩ : ∃ zz, meets x (cmpO (valT T0 V) (rval s A D)) = zz := ⟨_, rfl⟩
 rw [hzz] at KS
 generalize hW : w.alloc (.cells #[.slice a1 T0.length c1, .int .i64 x, .bool s, .slice b1 A.length d1, .slice e1 D.length f1] 39) = W0 at B LX H HV
 have HW := hid hW
 clear hW
 have H := hid (H.out.old (Below_drew1 (Below.refl _ _)))
 have HV := hid (HV.out.old (Below_drew1 (Below.refl _ _)))
 have LX := hid (LX.out.old (Below_drew1 (Below.refl _ _)))
 have B := hid (Below_drew1 B.out)
 have q0 := LX.out.c 0 (v := .slice a1 T0.length c1) rfl
 have q1 := LX.out.c 1 (v := .int .i64 x) rfl
 have q2 := LX.out.c 2 (v := .bool s) rfl
 have q3 := LX.out.c 3 (v := .slice b1 A.length d1) rfl
 have q4 := LX.out.c 4 (v := .slice e1 D.length f1) rfl
 cases ho : rowOk T0 x s A D V.length with
 |false =>
  rw [ho] at KO
  go_enter Tryz.func18, Tryz.ntmps18
  go_wp2_with fail
  rw [HW.out]
  refine wp_region_held_drew (S := (fun w' => w'.cell? ⟨w.heap.size, 0, none⟩ = some (.slice a1 T0.length c1) ∧ w'.cell? ⟨w.heap.size, 1, none⟩ = some (.int .i64 x) ∧ w'.cell? ⟨w.heap.size, 2, none⟩ = some (.bool s) ∧ w'.cell? ⟨w.heap.size, 3, none⟩ = some (.slice b1 A.length d1) ∧ w'.cell? ⟨w.heap.size, 4, none⟩ = some (.slice e1 D.length f1))) (by kernel_rfl) (by first | (with_reducible exact ⟨q0, q1, q2, q3, q4⟩) | ((try dsimp only); with_reducible exact ⟨q0, q1, q2, q3, q4⟩)) (fun hHeld => ?_)
  refine wpAnyH_take (i := 0) (oi := _) (v := ?_) rfl (by kernel_rfl) (by kernel_rfl) (by kernel_rfl) (fun _ _ _ h => h) (Or.inl ⟨by rfl, ?_⟩) (by assumption) ?_
  rotate_left
  ·(intro w hSw; (try dsimp only at hSw); go_simp; try (with_reducible rfl))
  try simp only [Act.put, List.setIfInBounds_toArray, List.set_cons_zero, List.set_cons_succ, List.getElem_toArray, List.getElem_cons_zero]
  refine wpAnyH_take (i := 1) (oi := _) (v := ?_) rfl (by kernel_rfl) (by kernel_rfl) (by kernel_rfl) (fun _ _ _ h => h) (Or.inl ⟨by rfl, ?_⟩) (by assumption) ?_
  rotate_left
  ·(intro w hSw; (try dsimp only at hSw); go_simp; try (with_reducible rfl))
  try simp only [Act.put, List.setIfInBounds_toArray, List.set_cons_zero, List.set_cons_succ, List.getElem_toArray, List.getElem_cons_zero, List.getElem_cons_succ]
  refine wpAnyH_take (i := 2) (oi := _) (v := ?_) rfl (by kernel_rfl) (by kernel_rfl) (by kernel_rfl) (fun _ _ _ h => h) (Or.inl ⟨by rfl, ?_⟩) (by assumption) ?_
  rotate_left
  ·(intro w hSw; (try dsimp only at hSw); go_simp; try (with_reducible rfl))
  try simp only [Act.put, List.setIfInBounds_toArray, List.set_cons_zero, List.set_cons_succ, List.getElem_toArray, List.getElem_cons_zero, List.getElem_cons_succ]
  refine wpAnyH_ready (rs := [3]) (by kernel_rfl) (by simp) ?_
  refine AllReadyH.cons (o := _) rfl (fun K hK => ?_) AllReadyH.nil
  go_simp
  (with_reducible refine (KO.out _ H.out).mono ?_)
  rintro e w1 ⟨rfl, bb⟩
  have H := hid (H.out.old bb)
  have HV := hid (HV.out.old bb)
  have LX := hid (LX.out.old bb)
  have B := hid (B.out.trans (bb.mono B.out.size))
  have q0 := LX.out.c 0 (v := .slice a1 T0.length c1) rfl
  have q1 := LX.out.c 1 (v := .int .i64 x) rfl
  have q2 := LX.out.c 2 (v := .bool s) rfl
  have q3 := LX.out.c 3 (v := .slice b1 A.length d1) rfl
  have q4 := LX.out.c 4 (v := .slice e1 D.length f1) rfl
  clear bb
  go_wp2_with fail
  refine hK.out _ _ ?_ (fun hHeld => ?_)
  ·first | (with_reducible exact ⟨q0, q1, q2, q3, q4⟩) | ((try dsimp only); with_reducible exact ⟨q0, q1, q2, q3, q4⟩)
  refine wpAnyH_take (i := 4) (oi := _) (v := ?_) rfl (by kernel_rfl) (by kernel_rfl) (by kernel_rfl) (fun _ _ _ h => h) (Or.inl ⟨by rfl, ?_⟩) (by assumption) ?_
  rotate_left
  ·(intro w hSw; (try dsimp only at hSw); go_simp; try (with_reducible rfl))
  try simp only [Act.put, List.setIfInBounds_toArray, List.set_cons_zero, List.set_cons_succ, List.getElem_toArray, List.getElem_cons_zero, List.getElem_cons_succ]
  refine wpAnyH_take (i := 5) (oi := _) (v := undef) rfl (by kernel_rfl) (by kernel_rfl) (by kernel_rfl) (fun _ _ _ h => h) (Or.inr ⟨by rfl, rfl⟩) (by assumption) ?_
  try simp only [Act.put, List.setIfInBounds_toArray, List.set_cons_zero, List.set_cons_succ, List.getElem_toArray, List.getElem_cons_zero, List.getElem_cons_succ]
  refine wpAnyH_take (i := 6) (oi := _) (v := undef) rfl (by kernel_rfl) (by kernel_rfl) (by kernel_rfl) (fun _ _ _ h => h) (Or.inr ⟨by rfl, rfl⟩) (by assumption) ?_
  try simp only [Act.put, List.setIfInBounds_toArray, List.set_cons_zero, List.set_cons_succ, List.getElem_toArray, List.getElem_cons_zero, List.getElem_cons_succ]
  refine wpAnyH_take (i := 7) (oi := _) (v := ?_) rfl (by kernel_rfl) (by kernel_rfl) (by kernel_rfl) (fun _ _ _ h => h) (Or.inl ⟨by rfl, ?_⟩) (by assumption) ?_
  rotate_left
  ·(intro w hSw; (try dsimp only at hSw); go_simp; try (with_reducible rfl))
  try simp only [Act.put, List.setIfInBounds_toArray, List.set_cons_zero, List.set_cons_succ, List.getElem_toArray, List.getElem_cons_zero, List.getElem_cons_succ]
  refine wpAnyH_take (i := 8) (oi := _) (v := ?_) rfl (by kernel_rfl) (by kernel_rfl) (by kernel_rfl) (fun _ _ _ h => h) (Or.inl ⟨by rfl, ?_⟩) (by assumption) ?_
  rotate_left
  ·(intro w hSw; (try dsimp only at hSw); go_simp; try (with_reducible rfl))
  try simp only [Act.put, List.setIfInBounds_toArray, List.set_cons_zero, List.set_cons_succ, List.getElem_toArray, List.getElem_cons_zero, List.getElem_cons_succ]
  refine wpAnyH_take (i := 9) (oi := _) (v := undef) rfl (by kernel_rfl) (by kernel_rfl) (by kernel_rfl) (fun _ _ _ h => h) (Or.inr ⟨by rfl, rfl⟩) (by assumption) ?_
  try simp only [Act.put, List.setIfInBounds_toArray, List.set_cons_zero, List.set_cons_succ, List.getElem_toArray, List.getElem_cons_zero, List.getElem_cons_succ]
  refine wpAnyH_take (i := 10) (oi := _) (v := undef) rfl (by kernel_rfl) (by kernel_rfl) (by kernel_rfl) (fun _ _ _ h => h) (Or.inr ⟨by rfl, rfl⟩) (by assumption) ?_
  try simp only [Act.put, List.setIfInBounds_toArray, List.set_cons_zero, List.set_cons_succ, List.getElem_toArray, List.getElem_cons_zero, List.getElem_cons_succ]
  refine wpAnyH_take (i := 11) (oi := _) (v := undef) rfl (by kernel_rfl) (by kernel_rfl) (by kernel_rfl) (fun _ _ _ h => h) (Or.inr ⟨by rfl, rfl⟩) (by assumption) ?_
  try simp only [Act.put, List.setIfInBounds_toArray, List.set_cons_zero, List.set_cons_succ, List.getElem_toArray, List.getElem_cons_zero, List.getElem_cons_succ]
  refine wpAnyH_take (i := 12) (oi := _) (v := undef) rfl (by kernel_rfl) (by kernel_rfl) (by kernel_rfl) (fun _ _ _ h => h) (Or.inr ⟨by rfl, rfl⟩) (by assumption) ?_
  try simp only [Act.put, List.setIfInBounds_toArray, List.set_cons_zero, List.set_cons_succ, List.getElem_toArray, List.getElem_cons_zero, List.getElem_cons_succ]
  refine wpAnyH_take (i := 13) (oi := _) (v := undef) rfl (by kernel_rfl) (by kernel_rfl) (by kernel_rfl) (fun _ _ _ h => h) (Or.inr ⟨by rfl, rfl⟩) (by assumption) ?_
  try simp only [Act.put, List.setIfInBounds_toArray, List.set_cons_zero, List.set_cons_succ, List.getElem_toArray, List.getElem_cons_zero, List.getElem_cons_succ]
  refine wpAnyH_take (i := 14) (oi := _) (v := undef) rfl (by kernel_rfl) (by kernel_rfl) (by kernel_rfl) (fun _ _ _ h => h) (Or.inr ⟨by rfl, rfl⟩) (by assumption) ?_
  try simp only [Act.put, List.setIfInBounds_toArray, List.set_cons_zero, List.set_cons_succ, List.getElem_toArray, List.getElem_cons_zero, List.getElem_cons_succ]
  refine wpAnyH_take (i := 15) (oi := _) (v := ?_) rfl (by kernel_rfl) (by kernel_rfl) (by kernel_rfl) (fun _ _ _ h => h) (Or.inl ⟨by rfl, ?_⟩) (by assumption) ?_
  rotate_left
  ·(intro w hSw; (try dsimp only at hSw); go_simp; try (with_reducible rfl))
  try simp only [Act.put, List.setIfInBounds_toArray, List.set_cons_zero, List.set_cons_succ, List.getElem_toArray, List.getElem_cons_zero, List.getElem_cons_succ]
  refine wpAnyH_take (i := 16) (oi := _) (v := ?_) rfl (by kernel_rfl) (by kernel_rfl) (by kernel_rfl) (fun _ _ _ h => h) (Or.inl ⟨by rfl, ?_⟩) (by assumption) ?_
  rotate_left
  ·(intro w hSw; (try dsimp only at hSw); go_simp; try (with_reducible rfl))
  try simp only [Act.put, List.setIfInBounds_toArray, List.set_cons_zero, List.set_cons_succ, List.getElem_toArray, List.getElem_cons_zero, List.getElem_cons_succ]
  refine wpAnyH_done (by kernel_rfl) ?_ _
  clear q0 q1 q2 q3 q4
  go_wp2
  go_ret
  exact ret_bool' (by rw [HR.out]; simp [holdsR, ho]) B.out
 |true =>
  rw [ho] at KO
  cases hv : oks (vals V) with
  |false =>
   rw [hv] at KV
   go_enter Tryz.func18, Tryz.ntmps18
   go_wp2_with fail
   rw [HW.out]
   refine wp_region_held_drew (S := (fun w' => w'.cell? ⟨w.heap.size, 0, none⟩ = some (.slice a1 T0.length c1) ∧ w'.cell? ⟨w.heap.size, 1, none⟩ = some (.int .i64 x) ∧ w'.cell? ⟨w.heap.size, 2, none⟩ = some (.bool s) ∧ w'.cell? ⟨w.heap.size, 3, none⟩ = some (.slice b1 A.length d1) ∧ w'.cell? ⟨w.heap.size, 4, none⟩ = some (.slice e1 D.length f1))) (by kernel_rfl) (by first | (with_reducible exact ⟨q0, q1, q2, q3, q4⟩) | ((try dsimp only); with_reducible exact ⟨q0, q1, q2, q3, q4⟩)) (fun hHeld => ?_)
   refine wpAnyH_take (i := 0) (oi := _) (v := ?_) rfl (by kernel_rfl) (by kernel_rfl) (by kernel_rfl) (fun _ _ _ h => h) (Or.inl ⟨by rfl, ?_⟩) (by assumption) ?_
   rotate_left
   ·(intro w hSw; (try dsimp only at hSw); go_simp; try (with_reducible rfl))
   try simp only [Act.put, List.setIfInBounds_toArray, List.set_cons_zero, List.set_cons_succ, List.getElem_toArray, List.getElem_cons_zero]
   refine wpAnyH_take (i := 1) (oi := _) (v := ?_) rfl (by kernel_rfl) (by kernel_rfl) (by kernel_rfl) (fun _ _ _ h => h) (Or.inl ⟨by rfl, ?_⟩) (by assumption) ?_
   rotate_left
   ·(intro w hSw; (try dsimp only at hSw); go_simp; try (with_reducible rfl))
   try simp only [Act.put, List.setIfInBounds_toArray, List.set_cons_zero, List.set_cons_succ, List.getElem_toArray, List.getElem_cons_zero, List.getElem_cons_succ]
   refine wpAnyH_take (i := 2) (oi := _) (v := ?_) rfl (by kernel_rfl) (by kernel_rfl) (by kernel_rfl) (fun _ _ _ h => h) (Or.inl ⟨by rfl, ?_⟩) (by assumption) ?_
   rotate_left
   ·(intro w hSw; (try dsimp only at hSw); go_simp; try (with_reducible rfl))
   try simp only [Act.put, List.setIfInBounds_toArray, List.set_cons_zero, List.set_cons_succ, List.getElem_toArray, List.getElem_cons_zero, List.getElem_cons_succ]
   refine wpAnyH_ready (rs := [3]) (by kernel_rfl) (by simp) ?_
   refine AllReadyH.cons (o := _) rfl (fun K hK => ?_) AllReadyH.nil
   go_simp
   (with_reducible refine (KO.out _ H.out).mono ?_)
   rintro e w1 ⟨rfl, bb⟩
   have H := hid (H.out.old bb)
   have HV := hid (HV.out.old bb)
   have LX := hid (LX.out.old bb)
   have B := hid (B.out.trans (bb.mono B.out.size))
   have q0 := LX.out.c 0 (v := .slice a1 T0.length c1) rfl
   have q1 := LX.out.c 1 (v := .int .i64 x) rfl
   have q2 := LX.out.c 2 (v := .bool s) rfl
   have q3 := LX.out.c 3 (v := .slice b1 A.length d1) rfl
   have q4 := LX.out.c 4 (v := .slice e1 D.length f1) rfl
   clear bb
   go_wp2_with fail
   refine hK.out _ _ ?_ (fun hHeld => ?_)
   ·first | (with_reducible exact ⟨q0, q1, q2, q3, q4⟩) | ((try dsimp only); with_reducible exact ⟨q0, q1, q2, q3, q4⟩)
   refine wpAnyH_take (i := 4) (oi := _) (v := ?_) rfl (by kernel_rfl) (by kernel_rfl) (by kernel_rfl) (fun _ _ _ h => h) (Or.inl ⟨by rfl, ?_⟩) (by assumption) ?_
   rotate_left
   ·(intro w hSw; (try dsimp only at hSw); go_simp; try (with_reducible rfl))
   try simp only [Act.put, List.setIfInBounds_toArray, List.set_cons_zero, List.set_cons_succ, List.getElem_toArray, List.getElem_cons_zero, List.getElem_cons_succ]
   refine wpAnyH_take (i := 5) (oi := _) (v := ?_) rfl (by kernel_rfl) (by kernel_rfl) (by kernel_rfl) (fun _ _ _ h => h) (Or.inl ⟨by rfl, ?_⟩) (by assumption) ?_
   rotate_left
   ·(intro w hSw; (try dsimp only at hSw); go_simp; try (with_reducible rfl))
   try simp only [Act.put, List.setIfInBounds_toArray, List.set_cons_zero, List.set_cons_succ, List.getElem_toArray, List.getElem_cons_zero, List.getElem_cons_succ]
   refine wpAnyH_ready (rs := [6]) (by kernel_rfl) (by simp) ?_
   refine AllReadyH.cons (o := _) rfl (fun K hK => ?_) AllReadyH.nil
   go_simp
   (with_reducible refine (KV.out _ HV.out).mono ?_)
   rintro e w2 ⟨rfl, bb⟩
   have H := hid (H.out.old bb)
   have HV := hid (HV.out.old bb)
   have LX := hid (LX.out.old bb)
   have B := hid (B.out.trans (bb.mono B.out.size))
   have q0 := LX.out.c 0 (v := .slice a1 T0.length c1) rfl
   have q1 := LX.out.c 1 (v := .int .i64 x) rfl
   have q2 := LX.out.c 2 (v := .bool s) rfl
   have q3 := LX.out.c 3 (v := .slice b1 A.length d1) rfl
   have q4 := LX.out.c 4 (v := .slice e1 D.length f1) rfl
   clear bb
   go_wp2_with fail
   refine hK.out _ _ ?_ (fun hHeld => ?_)
   ·first | (with_reducible exact ⟨q0, q1, q2, q3, q4⟩) | ((try dsimp only); with_reducible exact ⟨q0, q1, q2, q3, q4⟩)
   refine wpAnyH_take (i := 7) (oi := _) (v := ?_) rfl (by kernel_rfl) (by kernel_rfl) (by kernel_rfl) (fun _ _ _ h => h) (Or.inl ⟨by rfl, ?_⟩) (by assumption) ?_
   rotate_left
   ·(intro w hSw; (try dsimp only at hSw); go_simp; try (with_reducible rfl))
   try simp only [Act.put, List.setIfInBounds_toArray, List.set_cons_zero, List.set_cons_succ, List.getElem_toArray, List.getElem_cons_zero, List.getElem_cons_succ]
   refine wpAnyH_take (i := 8) (oi := _) (v := ?_) rfl (by kernel_rfl) (by kernel_rfl) (by kernel_rfl) (fun _ _ _ h => h) (Or.inl ⟨by rfl, ?_⟩) (by assumption) ?_
   rotate_left
   ·(intro w hSw; (try dsimp only at hSw); go_simp; try (with_reducible rfl))
   try simp only [Act.put, List.setIfInBounds_toArray, List.set_cons_zero, List.set_cons_succ, List.getElem_toArray, List.getElem_cons_zero, List.getElem_cons_succ]
   refine wpAnyH_take (i := 9) (oi := _) (v := undef) rfl (by kernel_rfl) (by kernel_rfl) (by kernel_rfl) (fun _ _ _ h => h) (Or.inr ⟨by rfl, rfl⟩) (by assumption) ?_
   try simp only [Act.put, List.setIfInBounds_toArray, List.set_cons_zero, List.set_cons_succ, List.getElem_toArray, List.getElem_cons_zero, List.getElem_cons_succ]
   refine wpAnyH_take (i := 10) (oi := _) (v := undef) rfl (by kernel_rfl) (by kernel_rfl) (by kernel_rfl) (fun _ _ _ h => h) (Or.inr ⟨by rfl, rfl⟩) (by assumption) ?_
   try simp only [Act.put, List.setIfInBounds_toArray, List.set_cons_zero, List.set_cons_succ, List.getElem_toArray, List.getElem_cons_zero, List.getElem_cons_succ]
   refine wpAnyH_take (i := 11) (oi := _) (v := undef) rfl (by kernel_rfl) (by kernel_rfl) (by kernel_rfl) (fun _ _ _ h => h) (Or.inr ⟨by rfl, rfl⟩) (by assumption) ?_
   try simp only [Act.put, List.setIfInBounds_toArray, List.set_cons_zero, List.set_cons_succ, List.getElem_toArray, List.getElem_cons_zero, List.getElem_cons_succ]
   refine wpAnyH_take (i := 12) (oi := _) (v := undef) rfl (by kernel_rfl) (by kernel_rfl) (by kernel_rfl) (fun _ _ _ h => h) (Or.inr ⟨by rfl, rfl⟩) (by assumption) ?_
   try simp only [Act.put, List.setIfInBounds_toArray, List.set_cons_zero, List.set_cons_succ, List.getElem_toArray, List.getElem_cons_zero, List.getElem_cons_succ]
   refine wpAnyH_take (i := 13) (oi := _) (v := undef) rfl (by kernel_rfl) (by kernel_rfl) (by kernel_rfl) (fun _ _ _ h => h) (Or.inr ⟨by rfl, rfl⟩) (by assumption) ?_
   try simp only [Act.put, List.setIfInBounds_toArray, List.set_cons_zero, List.set_cons_succ, List.getElem_toArray, List.getElem_cons_zero, List.getElem_cons_succ]
   refine wpAnyH_take (i := 14) (oi := _) (v := undef) rfl (by kernel_rfl) (by kernel_rfl) (by kernel_rfl) (fun _ _ _ h => h) (Or.inr ⟨by rfl, rfl⟩) (by assumption) ?_
   try simp only [Act.put, List.setIfInBounds_toArray, List.set_cons_zero, List.set_cons_succ, List.getElem_toArray, List.getElem_cons_zero, List.getElem_cons_succ]
   refine wpAnyH_take (i := 15) (oi := _) (v := ?_) rfl (by kernel_rfl) (by kernel_rfl) (by kernel_rfl) (fun _ _ _ h => h) (Or.inl ⟨by rfl, ?_⟩) (by assumption) ?_
   rotate_left
   ·(intro w hSw; (try dsimp only at hSw); go_simp; try (with_reducible rfl))
   try simp only [Act.put, List.setIfInBounds_toArray, List.set_cons_zero, List.set_cons_succ, List.getElem_toArray, List.getElem_cons_zero, List.getElem_cons_succ]
   refine wpAnyH_take (i := 16) (oi := _) (v := ?_) rfl (by kernel_rfl) (by kernel_rfl) (by kernel_rfl) (fun _ _ _ h => h) (Or.inl ⟨by rfl, ?_⟩) (by assumption) ?_
   rotate_left
   ·(intro w hSw; (try dsimp only at hSw); go_simp; try (with_reducible rfl))
   try simp only [Act.put, List.setIfInBounds_toArray, List.set_cons_zero, List.set_cons_succ, List.getElem_toArray, List.getElem_cons_zero, List.getElem_cons_succ]
   refine wpAnyH_done (by kernel_rfl) ?_ _
   clear q0 q1 q2 q3 q4
   go_wp2
   go_ret
   exact ret_bool' (by rw [HR.out]; simp [holdsR, ho, hv]) B.out
  |true =>
   rw [hv] at KV
   go_enter Tryz.func18, Tryz.ntmps18
   go_wp2_with fail
   rw [HW.out]
   refine wp_region_held_drew (S := (fun w' => w'.cell? ⟨w.heap.size, 0, none⟩ = some (.slice a1 T0.length c1) ∧ w'.cell? ⟨w.heap.size, 1, none⟩ = some (.int .i64 x) ∧ w'.cell? ⟨w.heap.size, 2, none⟩ = some (.bool s) ∧ w'.cell? ⟨w.heap.size, 3, none⟩ = some (.slice b1 A.length d1) ∧ w'.cell? ⟨w.heap.size, 4, none⟩ = some (.slice e1 D.length f1))) (by kernel_rfl) (by first | (with_reducible exact ⟨q0, q1, q2, q3, q4⟩) | ((try dsimp only); with_reducible exact ⟨q0, q1, q2, q3, q4⟩)) (fun hHeld => ?_)
   refine wpAnyH_take (i := 0) (oi := _) (v := ?_) rfl (by kernel_rfl) (by kernel_rfl) (by kernel_rfl) (fun _ _ _ h => h) (Or.inl ⟨by rfl, ?_⟩) (by assumption) ?_
   rotate_left
   ·(intro w hSw; (try dsimp only at hSw); go_simp; try (with_reducible rfl))
   try simp only [Act.put, List.setIfInBounds_toArray, List.set_cons_zero, List.set_cons_succ, List.getElem_toArray, List.getElem_cons_zero]
   refine wpAnyH_take (i := 1) (oi := _) (v := ?_) rfl (by kernel_rfl) (by kernel_rfl) (by kernel_rfl) (fun _ _ _ h => h) (Or.inl ⟨by rfl, ?_⟩) (by assumption) ?_
   rotate_left
   ·(intro w hSw; (try dsimp only at hSw); go_simp; try (with_reducible rfl))
   try simp only [Act.put, List.setIfInBounds_toArray, List.set_cons_zero, List.set_cons_succ, List.getElem_toArray, List.getElem_cons_zero, List.getElem_cons_succ]
   refine wpAnyH_take (i := 2) (oi := _) (v := ?_) rfl (by kernel_rfl) (by kernel_rfl) (by kernel_rfl) (fun _ _ _ h => h) (Or.inl ⟨by rfl, ?_⟩) (by assumption) ?_
   rotate_left
   ·(intro w hSw; (try dsimp only at hSw); go_simp; try (with_reducible rfl))
   try simp only [Act.put, List.setIfInBounds_toArray, List.set_cons_zero, List.set_cons_succ, List.getElem_toArray, List.getElem_cons_zero, List.getElem_cons_succ]
   refine wpAnyH_ready (rs := [3]) (by kernel_rfl) (by simp) ?_
   refine AllReadyH.cons (o := _) rfl (fun K hK => ?_) AllReadyH.nil
   go_simp
   (with_reducible refine (KO.out _ H.out).mono ?_)
   rintro e w1 ⟨rfl, bb⟩
   have H := hid (H.out.old bb)
   have HV := hid (HV.out.old bb)
   have LX := hid (LX.out.old bb)
   have B := hid (B.out.trans (bb.mono B.out.size))
   have q0 := LX.out.c 0 (v := .slice a1 T0.length c1) rfl
   have q1 := LX.out.c 1 (v := .int .i64 x) rfl
   have q2 := LX.out.c 2 (v := .bool s) rfl
   have q3 := LX.out.c 3 (v := .slice b1 A.length d1) rfl
   have q4 := LX.out.c 4 (v := .slice e1 D.length f1) rfl
   clear bb
   go_wp2_with fail
   refine hK.out _ _ ?_ (fun hHeld => ?_)
   ·first | (with_reducible exact ⟨q0, q1, q2, q3, q4⟩) | ((try dsimp only); with_reducible exact ⟨q0, q1, q2, q3, q4⟩)
   refine wpAnyH_take (i := 4) (oi := _) (v := ?_) rfl (by kernel_rfl) (by kernel_rfl) (by kernel_rfl) (fun _ _ _ h => h) (Or.inl ⟨by rfl, ?_⟩) (by assumption) ?_
   rotate_left
   ·(intro w hSw; (try dsimp only at hSw); go_simp; try (with_reducible rfl))
   try simp only [Act.put, List.setIfInBounds_toArray, List.set_cons_zero, List.set_cons_succ, List.getElem_toArray, List.getElem_cons_zero, List.getElem_cons_succ]
   refine wpAnyH_take (i := 5) (oi := _) (v := ?_) rfl (by kernel_rfl) (by kernel_rfl) (by kernel_rfl) (fun _ _ _ h => h) (Or.inl ⟨by rfl, ?_⟩) (by assumption) ?_
   rotate_left
   ·(intro w hSw; (try dsimp only at hSw); go_simp; try (with_reducible rfl))
   try simp only [Act.put, List.setIfInBounds_toArray, List.set_cons_zero, List.set_cons_succ, List.getElem_toArray, List.getElem_cons_zero, List.getElem_cons_succ]
   refine wpAnyH_ready (rs := [6]) (by kernel_rfl) (by simp) ?_
   refine AllReadyH.cons (o := _) rfl (fun K hK => ?_) AllReadyH.nil
   go_simp
   (with_reducible refine (KV.out _ HV.out).mono ?_)
   rintro e w2 ⟨rfl, bb⟩
   have H := hid (H.out.old bb)
   have HV := hid (HV.out.old bb)
   have LX := hid (LX.out.old bb)
   have B := hid (B.out.trans (bb.mono B.out.size))
   have q0 := LX.out.c 0 (v := .slice a1 T0.length c1) rfl
   have q1 := LX.out.c 1 (v := .int .i64 x) rfl
   have q2 := LX.out.c 2 (v := .bool s) rfl
   have q3 := LX.out.c 3 (v := .slice b1 A.length d1) rfl
   have q4 := LX.out.c 4 (v := .slice e1 D.length f1) rfl
   clear bb
   go_wp2_with fail
   refine hK.out _ _ ?_ (fun hHeld => ?_)
   ·first | (with_reducible exact ⟨q0, q1, q2, q3, q4⟩) | ((try dsimp only); with_reducible exact ⟨q0, q1, q2, q3, q4⟩)
   refine wpAnyH_take (i := 7) (oi := _) (v := ?_) rfl (by kernel_rfl) (by kernel_rfl) (by kernel_rfl) (fun _ _ _ h => h) (Or.inl ⟨by rfl, ?_⟩) (by assumption) ?_
   rotate_left
   ·(intro w hSw; (try dsimp only at hSw); go_simp; try (with_reducible rfl))
   try simp only [Act.put, List.setIfInBounds_toArray, List.set_cons_zero, List.set_cons_succ, List.getElem_toArray, List.getElem_cons_zero, List.getElem_cons_succ]
   refine wpAnyH_take (i := 8) (oi := _) (v := ?_) rfl (by kernel_rfl) (by kernel_rfl) (by kernel_rfl) (fun _ _ _ h => h) (Or.inl ⟨by rfl, ?_⟩) (by assumption) ?_
   rotate_left
   ·(intro w hSw; (try dsimp only at hSw); go_simp; try (with_reducible rfl))
   try simp only [Act.put, List.setIfInBounds_toArray, List.set_cons_zero, List.set_cons_succ, List.getElem_toArray, List.getElem_cons_zero, List.getElem_cons_succ]
   refine wpAnyH_take (i := 9) (oi := _) (v := ?_) rfl (by kernel_rfl) (by kernel_rfl) (by kernel_rfl) (fun _ _ _ h => h) (Or.inl ⟨by rfl, ?_⟩) (by assumption) ?_
   rotate_left
   ·(intro w hSw; (try dsimp only at hSw); go_simp; try (with_reducible rfl))
   try simp only [Act.put, List.setIfInBounds_toArray, List.set_cons_zero, List.set_cons_succ, List.getElem_toArray, List.getElem_cons_zero, List.getElem_cons_succ]
   refine wpAnyH_take (i := 10) (oi := _) (v := ?_) rfl (by kernel_rfl) (by kernel_rfl) (by kernel_rfl) (fun _ _ _ h => h) (Or.inl ⟨by rfl, ?_⟩) (by assumption) ?_
   rotate_left
   ·(intro w hSw; (try dsimp only at hSw); go_simp; try (with_reducible rfl))
   try simp only [Act.put, List.setIfInBounds_toArray, List.set_cons_zero, List.set_cons_succ, List.getElem_toArray, List.getElem_cons_zero, List.getElem_cons_succ]
   refine wpAnyH_take (i := 11) (oi := _) (v := ?_) rfl (by kernel_rfl) (by kernel_rfl) (by kernel_rfl) (fun _ _ _ h => h) (Or.inl ⟨by rfl, ?_⟩) (by assumption) ?_
   rotate_left
   ·(intro w hSw; (try dsimp only at hSw); go_simp; try (with_reducible rfl))
   try simp only [Act.put, List.setIfInBounds_toArray, List.set_cons_zero, List.set_cons_succ, List.getElem_toArray, List.getElem_cons_zero, List.getElem_cons_succ]
   refine wpAnyH_take (i := 13) (oi := _) (v := ?_) rfl (by kernel_rfl) (by kernel_rfl) (by kernel_rfl) (fun _ _ _ h => h) (Or.inl ⟨by rfl, ?_⟩) (by assumption) ?_
   rotate_left
   ·(intro w hSw; (try dsimp only at hSw); go_simp; try (with_reducible rfl))
   try simp only [Act.put, List.setIfInBounds_toArray, List.set_cons_zero, List.set_cons_succ, List.getElem_toArray, List.getElem_cons_zero, List.getElem_cons_succ]
   refine wpAnyH_ready (rs := [12]) (by kernel_rfl) (by simp) ?_
   refine AllReadyH.cons (o := _) rfl (fun K hK => ?_) AllReadyH.nil
   go_simp
   (with_reducible refine (KT.out _ H.out HV.out).mono ?_)
   rintro e w3 ⟨sa, aa, na, ca, ba, ma, da, rfl, ro, bb⟩
   have H := hid (H.out.old bb)
   have HV := hid (HV.out.old bb)
   have LX := hid (LX.out.old bb)
   have B := hid (B.out.trans (bb.mono B.out.size))
   have RX := hid ro.ra
   have q0 := LX.out.c 0 (v := .slice a1 T0.length c1) rfl
   have q1 := LX.out.c 1 (v := .int .i64 x) rfl
   have q2 := LX.out.c 2 (v := .bool s) rfl
   have q3 := LX.out.c 3 (v := .slice b1 A.length d1) rfl
   have q4 := LX.out.c 4 (v := .slice e1 D.length f1) rfl
   clear bb ro
   go_wp2_with fail
   refine hK.out _ _ ?_ (fun hHeld => ?_)
   ·first | (with_reducible exact ⟨q0, q1, q2, q3, q4⟩) | ((try dsimp only); with_reducible exact ⟨q0, q1, q2, q3, q4⟩)
   refine wpAnyH_ready (rs := [14]) (by kernel_rfl) (by simp) ?_
   refine AllReadyH.cons (o := _) rfl (fun K hK => ?_) AllReadyH.nil
   go_simp
   (with_reducible refine (KS.out _ _ _ _ _ _ _ _ H.out RX.out).mono ?_)
   rintro e w4 ⟨rfl, bb⟩
   have H := hid (H.out.old bb)
   have HV := hid (HV.out.old bb)
   have LX := hid (LX.out.old bb)
   have B := hid (B.out.trans (bb.mono B.out.size))
   have q0 := LX.out.c 0 (v := .slice a1 T0.length c1) rfl
   have q1 := LX.out.c 1 (v := .int .i64 x) rfl
   have q2 := LX.out.c 2 (v := .bool s) rfl
   have q3 := LX.out.c 3 (v := .slice b1 A.length d1) rfl
   have q4 := LX.out.c 4 (v := .slice e1 D.length f1) rfl
   clear bb
   go_wp2_with fail
   refine hK.out _ _ ?_ (fun hHeld => ?_)
   ·first | (with_reducible exact ⟨q0, q1, q2, q3, q4⟩) | ((try dsimp only); with_reducible exact ⟨q0, q1, q2, q3, q4⟩)
   refine wpAnyH_take (i := 15) (oi := _) (v := ?_) rfl (by kernel_rfl) (by kernel_rfl) (by kernel_rfl) (fun _ _ _ h => h) (Or.inl ⟨by rfl, ?_⟩) (by assumption) ?_
   rotate_left
   ·(intro w hSw; (try dsimp only at hSw); go_simp; try (with_reducible rfl))
   try simp only [Act.put, List.setIfInBounds_toArray, List.set_cons_zero, List.set_cons_succ, List.getElem_toArray, List.getElem_cons_zero, List.getElem_cons_succ]
   refine wpAnyH_take (i := 16) (oi := _) (v := ?_) rfl (by kernel_rfl) (by kernel_rfl) (by kernel_rfl) (fun _ _ _ h => h) (Or.inl ⟨by rfl, ?_⟩) (by assumption) ?_
   rotate_left
   ·(intro w hSw; (try dsimp only at hSw); go_simp; try (with_reducible rfl))
   try simp only [Act.put, List.setIfInBounds_toArray, List.set_cons_zero, List.set_cons_succ, List.getElem_toArray, List.getElem_cons_zero, List.getElem_cons_succ]
   refine wpAnyH_done (by kernel_rfl) ?_ _
   clear q0 q1 q2 q3 q4
   go_wp2
   go_ret
   exact ret_bool' (by rw [HR.out]; simp [holdsR, ho, hv, hzz]) B.out
end Go.Proofs.YthkehmnodcmlcaaGreat
