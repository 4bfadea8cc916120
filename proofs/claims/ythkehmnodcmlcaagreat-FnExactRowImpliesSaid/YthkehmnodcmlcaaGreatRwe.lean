import Derived.Test.YthkehmnodcmlcaaGreatRwd
import Derived.Test.YthkehmnodcmlcaaGreatTeq
import Derived.Test.YthkehmnodcmlcaaGreatRwc
import Derived.Deep.RegionLaw
import Derived.Deep.RegionHeld3
import Derived.Deep.DeepCutAuto
set_option maxRecDepth 100000
set_option maxHeartbeats 12800000
set_option linter.unusedVariables false
set_option linter.unusedSimpArgs false
namespace Go.Proofs.YthkehmnodcmlcaaGreat
open Go.RowKit
open Go.Lib (hid)
def empR (T0 : List Tq) (x : Int) (s : Bool) (A D : List Int) : Bool := rowOk T0 x s A D 40 && decide ((T0.length : Int) = 0)
def infR (T0 : List Tq) (x : Int) (s : Bool) (A D : List Int) : Bool := empR T0 x s A D && !meets x (cmpO (some ((0 : Int) : Rat)) (rval s A D))
def trivR (T0 : List Tq) (x : Int) (s : Bool) (A D : List Int) : Bool := empR T0 x s A D && meets x (cmpO (some ((0 : Int) : Rat)) (rval s A D))
theorem rowOk_zero (T0 : List Tq) (x : Int) (s : Bool) (A D : List Int) : rowOk T0 x s A D 0 = empR T0 x s A D := by
 cases T0 with
 | nil => simp [empR, rowOk, tok, tokF]
 |cons f T =>
  have h1 : tok (f :: T) 0 = false := by
   refine Bool.eq_false_iff.2 fun h => ?_
   have := tok_at h (k := 0) (by simp)
   omega
  have h2 : decide (((f :: T).length : Int) = 0) = false := by simp; omega
  rw [empR, h2, Bool.and_false, rowOk, h1]; rfl
theorem holds_nil (T0 : List Tq) (x : Int) (s : Bool) (A D : List Int) : holdsR T0 x s A D [] = trivR T0 x s A D := by
 have h0 : ((([] : List Fq).length : Nat) : Int) = 0 := rfl
 unfold holdsR trivR
 rw [h0, rowOk_zero]
 cases T0 with
 |nil =>
  have h1 : oks (vals ([] : List Fq)) = true := by rfl
  have h2 : valT [] [] = some ((0 : Int) : Rat) := by
   unfold valT
   rw [if_pos (by rfl)]
   rfl
  rw [h1, h2, Bool.and_true]
 |cons f T =>
  have h2 : decide (((f :: T).length : Int) = 0) = false := by simp; omega
  rw [empR, h2, Bool.and_false]; rfl
theorem inf_eq (T0 : List Tq) (x : Int) (s : Bool) (A D : List Int) : (empR T0 x s A D && !holdsR T0 x s A D []) = infR T0 x s A D := by
 rw [holds_nil]
 unfold infR trivR
 cases empR T0 x s A D <;> simp
theorem empR_ok {T0 : List Tq} {x : Int} {s : Bool} {A D : List Int} (h : empR T0 x s A D = true) : ∃ Y, rval s A D = some Y := by
 simp only [empR, Bool.and_eq_true] at h
 obtain ⟨-, -, -, hr⟩ := rowOk_parts h.1
 exact ⟨_, if_pos hr⟩
theorem Sm_nil : Sm [] := ⟨fun f hf => (by cases hf), Nat.zero_le _⟩
theorem VKnil (w : World) : VK true w (.slice none 0 0) [] 0 0 := VK_nil _ _ _ _
theorem impl_RowInfeasible {t v u : Value} {T0 : List Tq} {A D : List Int} (x : Int) (s : Bool) (hK : SmT T0) (la : A.length ≤ 1048576) (ld : D.length ≤ 1048576) (w : World) (h : RwW w t v u T0 A D) :
  Calls Tryz.prog 36 #[.agg #[t, .int .i64 x, .bool s, v, u]] w (RetB (.bool (infR T0 x s A D)) w) := by
 obtain ⟨a1, c1, b1, d1, e1, f1, rfl, rfl, rfl⟩ := h.form
 have B := hid (below_new' (w := w) (o := .cells #[.slice a1 T0.length c1, .int .i64 x, .bool s, .slice b1 A.length d1, .slice e1 D.length f1] 39))
 have LX := hid (LocA.new (w := w) (T := 39) (cs := #[.slice a1 T0.length c1, .int .i64 x, .bool s, .slice b1 A.length d1, .slice e1 D.length f1]))
 have H := hid (h.old B.out)
 clear h
 have KO := hid (fun (W : World) (g : RwW W (.slice a1 T0.length c1) (.slice b1 A.length d1) (.slice e1 D.length f1) T0 A D) => impl_RowOk x s hK la ld 0 (by omega) (by omega) W g)
 rw [rowOk_zero] at KO
 have KH := hid (fun (W : World) (g : RwW W (.slice a1 T0.length c1) (.slice b1 A.length d1) (.slice e1 D.length f1) T0 A D) => impl_RowHolds x s hK Sm_nil la ld W g (VKnil W))
 obtain ⟨zz, hzz⟩ : ∃ zz, holdsR T0 x s A D [] = zz := ⟨_, rfl⟩
 rw [hzz] at KH
 obtain ⟨R, hR⟩ : ∃ R, R = infR T0 x s A D := ⟨_, rfl⟩
 rw [← hR]
 have HR := hid hR
 clear hR
 generalize hW : w.alloc (.cells #[.slice a1 T0.length c1, .int .i64 x, .bool s, .slice b1 A.length d1, .slice e1 D.length f1] 39) = W0 at B LX H
 have HW := hid hW
 clear hW
 cases ho : empR T0 x s A D with
 |false =>
  rw [ho] at KO
  go_enter Tryz.func36, Tryz.ntmps36
  go_wp2_with fail
  rw [HW.out]
  (with_reducible refine (KO.out _ H.out).mono ?_)
  rintro e w1 ⟨rfl, bb⟩
  have H := hid (H.out.old bb)
  have LX := hid (LX.out.old bb)
  have B := hid (B.out.trans (bb.mono B.out.size))
  clear bb
  go_wp2
  go_ret
  exact ret_bool' (by rw [HR.out]; rw [← inf_eq]; simp [ho]) B.out
 |true =>
  rw [ho] at KO
  go_enter Tryz.func36, Tryz.ntmps36
  go_wp2_with fail
  rw [HW.out]
  (with_reducible refine (KO.out _ H.out).mono ?_)
  rintro e w1 ⟨rfl, bb⟩
  have H := hid (H.out.old bb)
  have LX := hid (LX.out.old bb)
  have B := hid (B.out.trans (bb.mono B.out.size))
  clear bb
  have q0 := LX.out.c 0 (v := .slice a1 T0.length c1) rfl
  have q1 := LX.out.c 1 (v := .int .i64 x) rfl
  have q2 := LX.out.c 2 (v := .bool s) rfl
  have q3 := LX.out.c 3 (v := .slice b1 A.length d1) rfl
  have q4 := LX.out.c 4 (v := .slice e1 D.length f1) rfl
  go_wp2_with fail
  (with_reducible refine (KH.out _ H.out).mono ?_)
  clear q0 q1 q2 q3 q4
  rintro e w2 ⟨rfl, bb⟩
  have H := hid (H.out.old bb)
  have LX := hid (LX.out.old bb)
  have B := hid (B.out.trans (bb.mono B.out.size))
  clear bb
  go_wp2
  go_ret
  exact ret_bool' (by rw [HR.out]; rw [← inf_eq]; simp [ho, hzz]) B.out
theorem spec_l11Empty {t v u : Value} {T0 : List Tq} {A D : List Int} (x : Int) (s : Bool) (hK : SmT T0) (la : A.length ≤ 1048576) (ld : D.length ≤ 1048576) (w : World) (h : RwW w t v u T0 A D) :
  Calls Tryz.prog 90 #[.agg #[t, .int .i64 x, .bool s, v, u]] w (RetB (.bool (empR T0 x s A D)) w) := by
 obtain ⟨a1, c1, b1, d1, e1, f1, rfl, rfl, rfl⟩ := h.form
 have B := hid (below_new' (w := w) (o := .cells #[.slice a1 T0.length c1, .int .i64 x, .bool s, .slice b1 A.length d1, .slice e1 D.length f1] 39))
 have LX := hid (LocA.new (w := w) (T := 39) (cs := #[.slice a1 T0.length c1, .int .i64 x, .bool s, .slice b1 A.length d1, .slice e1 D.length f1]))
 have H := hid (h.old B.out)
 clear h
 have KO := hid (fun (W : World) (g : RwW W (.slice a1 T0.length c1) (.slice b1 A.length d1) (.slice e1 D.length f1) T0 A D) => spec_RowOk x s hK la ld 40 (by omega) (by omega) W g)
 obtain ⟨R, hR⟩ : ∃ R, R = empR T0 x s A D := ⟨_, rfl⟩
 rw [← hR]
 have HR := hid hR
 clear hR
 generalize hW : w.alloc (.cells #[.slice a1 T0.length c1, .int .i64 x, .bool s, .slice b1 A.length d1, .slice e1 D.length f1] 39) = W0 at B LX H
 have HW := hid hW
 clear hW
 cases ho : rowOk T0 x s A D 40 with
 |false =>
  rw [ho] at KO
  go_enter Tryz.func90, Tryz.ntmps90
  go_wp2_with fail
  rw [HW.out]
  (with_reducible refine (KO.out _ H.out).mono ?_)
  rintro e w1 ⟨rfl, bb⟩
  have H := hid (H.out.old bb)
  have LX := hid (LX.out.old bb)
  have B := hid (B.out.trans (bb.mono B.out.size))
  clear bb
  go_wp2
  go_ret
  exact ret_bool' (by rw [HR.out]; simp [empR, ho]) B.out
 |true =>
  rw [ho] at KO
  have hl := hK.2
  go_enter Tryz.func90, Tryz.ntmps90
  go_wp2_with fail
  rw [HW.out]
  (with_reducible refine (KO.out _ H.out).mono ?_)
  rintro e w1 ⟨rfl, bb⟩
  have H := hid (H.out.old bb)
  have LX := hid (LX.out.old bb)
  have B := hid (B.out.trans (bb.mono B.out.size))
  clear bb
  have q0 := LX.out.c 0 (v := .slice a1 T0.length c1) rfl
  have q1 := LX.out.c 1 (v := .int .i64 x) rfl
  have q2 := LX.out.c 2 (v := .bool s) rfl
  have q3 := LX.out.c 3 (v := .slice b1 A.length d1) rfl
  have q4 := LX.out.c 4 (v := .slice e1 D.length f1) rfl
  clear q1 q2 q3 q4
  go_wp2
  go_ret
  exact ret_bool' (by rw [HR.out]; rw [empR, ho]; rfl) B.out
theorem spec_RowInfeasible {t v u : Value} {T0 : List Tq} {A D : List Int} (x : Int) (s : Bool) (hK : SmT T0) (la : A.length ≤ 1048576) (ld : D.length ≤ 1048576) (w : World) (h : RwW w t v u T0 A D) :
  Calls Tryz.prog 35 #[.agg #[t, .int .i64 x, .bool s, v, u]] w (RetB (.bool (infR T0 x s A D)) w) := by
 obtain ⟨a1, c1, b1, d1, e1, f1, rfl, rfl, rfl⟩ := h.form
 have B := hid (below_new' (w := w) (o := .cells #[.slice a1 T0.length c1, .int .i64 x, .bool s, .slice b1 A.length d1, .slice e1 D.length f1] 39))
 have LX := hid (LocA.new (w := w) (T := 39) (cs := #[.slice a1 T0.length c1, .int .i64 x, .bool s, .slice b1 A.length d1, .slice e1 D.length f1]))
 have H := hid (h.old B.out)
 clear h
 have KO := hid (fun (W : World) (g : RwW W (.slice a1 T0.length c1) (.slice b1 A.length d1) (.slice e1 D.length f1) T0 A D) => spec_l11Empty x s hK la ld W g)
 obtain ⟨R, hR⟩ : ∃ R, R = infR T0 x s A D := ⟨_, rfl⟩
 rw [← hR]
 have HR := hid hR
 clear hR
 generalize hW : w.alloc (.cells #[.slice a1 T0.length c1, .int .i64 x, .bool s, .slice b1 A.length d1, .slice e1 D.length f1] 39) = W0 at B LX H
 have HW := hid hW
 clear hW
 have H := hid (H.out.old (Below_drew1 (Below.refl _ _)))
 have LX := hid (LX.out.old (Below_drew1 (Below.refl _ _)))
 have B := hid (Below_drew1 B.out)
 have q0 := LX.out.c 0 (v := .slice a1 T0.length c1) rfl
 have q1 := LX.out.c 1 (v := .int .i64 x) rfl
 have q2 := LX.out.c 2 (v := .bool s) rfl
 have q3 := LX.out.c 3 (v := .slice b1 A.length d1) rfl
 have q4 := LX.out.c 4 (v := .slice e1 D.length f1) rfl
 cases ho : empR T0 x s A D with
 |false =>
  rw [ho] at KO
  go_enter Tryz.func35, Tryz.ntmps35
  go_wp2_with fail
  rw [HW.out]
  refine wp_region_held_drew (S := (fun w' => w'.cell? ⟨w.heap.size, 0, none⟩ = some (.slice a1 T0.length c1) ∧ w'.cell? ⟨w.heap.size, 1, none⟩ = some (.int .i64 x) ∧ w'.cell? ⟨w.heap.size, 2, none⟩ = some (.bool s) ∧ w'.cell? ⟨w.heap.size, 3, none⟩ = some (.slice b1 A.length d1) ∧ w'.cell? ⟨w.heap.size, 4, none⟩ = some (.slice e1 D.length f1))) (by kernel_rfl) (by first | (with_reducible exact ⟨q0, q1, q2, q3, q4⟩) | ((try dsimp only); with_reducible exact ⟨q0, q1, q2, q3, q4⟩)) (fun hHeld => ?_)
  refine wpAnyH_take (i := 0) (oi := _) (v := ?_) rfl (by kernel_rfl) (by kernel_rfl) (by kernel_rfl) (fun _ _ _ h => h) (Or.inl ⟨by rfl, ?_⟩) (by assumption) ?_
  rotate_left
  ·(intro w hSw; (try dsimp only at hSw); go_simp; try (with_reducible rfl))
  try simp only [Act.put, List.setIfInBounds_toArray, List.set_cons_zero, List.set_cons_succ, List.getElem_toArray, List.getElem_cons_zero]
  refine wpAnyH_ready (rs := [1]) (by kernel_rfl) (by simp) ?_
  refine AllReadyH.cons (o := _) rfl (fun K hK => ?_) AllReadyH.nil
  go_simp
  (with_reducible refine (KO.out _ H.out).mono ?_)
  rintro e w1 ⟨rfl, bb⟩
  have H := hid (H.out.old bb)
  have LX := hid (LX.out.old bb)
  have B := hid (B.out.trans (bb.mono B.out.size))
  have q0 := LX.out.c 0 (v := .slice a1 T0.length c1) rfl
  have q1 := LX.out.c 1 (v := .int .i64 x) rfl
  have q2 := LX.out.c 2 (v := .bool s) rfl
  have q3 := LX.out.c 3 (v := .slice b1 A.length d1) rfl
  have q4 := LX.out.c 4 (v := .slice e1 D.length f1) rfl
  clear bb
  go_wp2_with fail
  refine hK.out _ _ ?_ (fun hHeld => ?_)
  ·first | (with_reducible exact ⟨q0, q1, q2, q3, q4⟩) | ((try dsimp only); with_reducible exact ⟨q0, q1, q2, q3, q4⟩)
  refine wpAnyH_take (i := 2) (oi := _) (v := ?_) rfl (by kernel_rfl) (by kernel_rfl) (by kernel_rfl) (fun _ _ _ h => h) (Or.inl ⟨by rfl, ?_⟩) (by assumption) ?_
  rotate_left
  ·(intro w hSw; (try dsimp only at hSw); go_simp; try (with_reducible rfl))
  try simp only [Act.put, List.setIfInBounds_toArray, List.set_cons_zero, List.set_cons_succ, List.getElem_toArray, List.getElem_cons_zero, List.getElem_cons_succ]
  refine wpAnyH_take (i := 3) (oi := _) (v := undef) rfl (by kernel_rfl) (by kernel_rfl) (by kernel_rfl) (fun _ _ _ h => h) (Or.inr ⟨by rfl, rfl⟩) (by assumption) ?_
  try simp only [Act.put, List.setIfInBounds_toArray, List.set_cons_zero, List.set_cons_succ, List.getElem_toArray, List.getElem_cons_zero, List.getElem_cons_succ]
  refine wpAnyH_take (i := 4) (oi := _) (v := undef) rfl (by kernel_rfl) (by kernel_rfl) (by kernel_rfl) (fun _ _ _ h => h) (Or.inr ⟨by rfl, rfl⟩) (by assumption) ?_
  try simp only [Act.put, List.setIfInBounds_toArray, List.set_cons_zero, List.set_cons_succ, List.getElem_toArray, List.getElem_cons_zero, List.getElem_cons_succ]
  refine wpAnyH_take (i := 5) (oi := _) (v := undef) rfl (by kernel_rfl) (by kernel_rfl) (by kernel_rfl) (fun _ _ _ h => h) (Or.inr ⟨by rfl, rfl⟩) (by assumption) ?_
  try simp only [Act.put, List.setIfInBounds_toArray, List.set_cons_zero, List.set_cons_succ, List.getElem_toArray, List.getElem_cons_zero, List.getElem_cons_succ]
  refine wpAnyH_take (i := 6) (oi := _) (v := undef) rfl (by kernel_rfl) (by kernel_rfl) (by kernel_rfl) (fun _ _ _ h => h) (Or.inr ⟨by rfl, rfl⟩) (by assumption) ?_
  try simp only [Act.put, List.setIfInBounds_toArray, List.set_cons_zero, List.set_cons_succ, List.getElem_toArray, List.getElem_cons_zero, List.getElem_cons_succ]
  refine wpAnyH_take (i := 7) (oi := _) (v := undef) rfl (by kernel_rfl) (by kernel_rfl) (by kernel_rfl) (fun _ _ _ h => h) (Or.inr ⟨by rfl, rfl⟩) (by assumption) ?_
  try simp only [Act.put, List.setIfInBounds_toArray, List.set_cons_zero, List.set_cons_succ, List.getElem_toArray, List.getElem_cons_zero, List.getElem_cons_succ]
  refine wpAnyH_take (i := 8) (oi := _) (v := undef) rfl (by kernel_rfl) (by kernel_rfl) (by kernel_rfl) (fun _ _ _ h => h) (Or.inr ⟨by rfl, rfl⟩) (by assumption) ?_
  try simp only [Act.put, List.setIfInBounds_toArray, List.set_cons_zero, List.set_cons_succ, List.getElem_toArray, List.getElem_cons_zero, List.getElem_cons_succ]
  refine wpAnyH_take (i := 9) (oi := _) (v := undef) rfl (by kernel_rfl) (by kernel_rfl) (by kernel_rfl) (fun _ _ _ h => h) (Or.inr ⟨by rfl, rfl⟩) (by assumption) ?_
  try simp only [Act.put, List.setIfInBounds_toArray, List.set_cons_zero, List.set_cons_succ, List.getElem_toArray, List.getElem_cons_zero, List.getElem_cons_succ]
  refine wpAnyH_take (i := 10) (oi := _) (v := ?_) rfl (by kernel_rfl) (by kernel_rfl) (by kernel_rfl) (fun _ _ _ h => h) (Or.inl ⟨by rfl, ?_⟩) (by assumption) ?_
  rotate_left
  ·(intro w hSw; (try dsimp only at hSw); go_simp; try (with_reducible rfl))
  try simp only [Act.put, List.setIfInBounds_toArray, List.set_cons_zero, List.set_cons_succ, List.getElem_toArray, List.getElem_cons_zero, List.getElem_cons_succ]
  refine wpAnyH_take (i := 11) (oi := _) (v := ?_) rfl (by kernel_rfl) (by kernel_rfl) (by kernel_rfl) (fun _ _ _ h => h) (Or.inl ⟨by rfl, ?_⟩) (by assumption) ?_
  rotate_left
  ·(intro w hSw; (try dsimp only at hSw); go_simp; try (with_reducible rfl))
  try simp only [Act.put, List.setIfInBounds_toArray, List.set_cons_zero, List.set_cons_succ, List.getElem_toArray, List.getElem_cons_zero, List.getElem_cons_succ]
  refine wpAnyH_done (by kernel_rfl) ?_ _
  clear q0 q1 q2 q3 q4
  go_wp2
  go_ret
  exact ret_bool' (by rw [HR.out]; simp [infR, ho]) B.out
 |true =>
  rw [ho] at KO
  obtain ⟨Y, hY0⟩ := empR_ok ho
  have hY := hid hY0
  obtain ⟨zz, hzz0⟩ : ∃ zz, meets x (cmpF ((0 : Int) : Rat) Y) = zz := ⟨_, rfl⟩
  have hzz := hid hzz0
  have HRS := hid (show infR T0 x s A D = !zz from by unfold infR; rw [ho, hY0]; show (true && !meets x (cmpF _ _)) = _; rw [hzz0]; rfl)
  clear hY0 hzz0
  go_enter Tryz.func35, Tryz.ntmps35
  go_wp2_with fail
  rw [HW.out]
  refine wp_region_held_drew (S := (fun w' => w'.cell? ⟨w.heap.size, 0, none⟩ = some (.slice a1 T0.length c1) ∧ w'.cell? ⟨w.heap.size, 1, none⟩ = some (.int .i64 x) ∧ w'.cell? ⟨w.heap.size, 2, none⟩ = some (.bool s) ∧ w'.cell? ⟨w.heap.size, 3, none⟩ = some (.slice b1 A.length d1) ∧ w'.cell? ⟨w.heap.size, 4, none⟩ = some (.slice e1 D.length f1))) (by kernel_rfl) (by first | (with_reducible exact ⟨q0, q1, q2, q3, q4⟩) | ((try dsimp only); with_reducible exact ⟨q0, q1, q2, q3, q4⟩)) (fun hHeld => ?_)
  refine wpAnyH_take (i := 0) (oi := _) (v := ?_) rfl (by kernel_rfl) (by kernel_rfl) (by kernel_rfl) (fun _ _ _ h => h) (Or.inl ⟨by rfl, ?_⟩) (by assumption) ?_
  rotate_left
  ·(intro w hSw; (try dsimp only at hSw); go_simp; try (with_reducible rfl))
  try simp only [Act.put, List.setIfInBounds_toArray, List.set_cons_zero, List.set_cons_succ, List.getElem_toArray, List.getElem_cons_zero]
  refine wpAnyH_ready (rs := [1]) (by kernel_rfl) (by simp) ?_
  refine AllReadyH.cons (o := _) rfl (fun K hK => ?_) AllReadyH.nil
  go_simp
  (with_reducible refine (KO.out _ H.out).mono ?_)
  rintro e w1 ⟨rfl, bb⟩
  have H := hid (H.out.old bb)
  have LX := hid (LX.out.old bb)
  have B := hid (B.out.trans (bb.mono B.out.size))
  have q0 := LX.out.c 0 (v := .slice a1 T0.length c1) rfl
  have q1 := LX.out.c 1 (v := .int .i64 x) rfl
  have q2 := LX.out.c 2 (v := .bool s) rfl
  have q3 := LX.out.c 3 (v := .slice b1 A.length d1) rfl
  have q4 := LX.out.c 4 (v := .slice e1 D.length f1) rfl
  clear bb
  go_wp2_with fail
  refine hK.out _ _ ?_ (fun hHeld => ?_)
  ·first | (with_reducible exact ⟨q0, q1, q2, q3, q4⟩) | ((try dsimp only); with_reducible exact ⟨q0, q1, q2, q3, q4⟩)
  refine wpAnyH_take (i := 2) (oi := _) (v := ?_) rfl (by kernel_rfl) (by kernel_rfl) (by kernel_rfl) (fun _ _ _ h => h) (Or.inl ⟨by rfl, ?_⟩) (by assumption) ?_
  rotate_left
  ·(intro w hSw; (try dsimp only at hSw); go_simp; try (with_reducible rfl))
  try simp only [Act.put, List.setIfInBounds_toArray, List.set_cons_zero, List.set_cons_succ, List.getElem_toArray, List.getElem_cons_zero, List.getElem_cons_succ]
  refine wpAnyH_take (i := 4) (oi := _) (v := ?_) rfl (by kernel_rfl) (by kernel_rfl) (by kernel_rfl) (fun _ _ _ h => h) (Or.inl ⟨by rfl, ?_⟩) (by assumption) ?_
  rotate_left
  ·(intro w hSw; (try dsimp only at hSw); go_simp; try (with_reducible rfl))
  try simp only [Act.put, List.setIfInBounds_toArray, List.set_cons_zero, List.set_cons_succ, List.getElem_toArray, List.getElem_cons_zero, List.getElem_cons_succ]
  refine wpAnyH_take (i := 5) (oi := _) (v := ?_) rfl (by kernel_rfl) (by kernel_rfl) (by kernel_rfl) (fun _ _ _ h => h) (Or.inl ⟨by rfl, ?_⟩) (by assumption) ?_
  rotate_left
  ·(intro w hSw; (try dsimp only at hSw); go_simp; try (with_reducible rfl))
  try simp only [Act.put, List.setIfInBounds_toArray, List.set_cons_zero, List.set_cons_succ, List.getElem_toArray, List.getElem_cons_zero, List.getElem_cons_succ]
  refine wpAnyH_take (i := 6) (oi := _) (v := ?_) rfl (by kernel_rfl) (by kernel_rfl) (by kernel_rfl) (fun _ _ _ h => h) (Or.inl ⟨by rfl, ?_⟩) (by assumption) ?_
  rotate_left
  ·(intro w hSw; (try dsimp only at hSw); go_simp; try (with_reducible rfl))
  try simp only [Act.put, List.setIfInBounds_toArray, List.set_cons_zero, List.set_cons_succ, List.getElem_toArray, List.getElem_cons_zero, List.getElem_cons_succ]
  refine wpAnyH_take (i := 7) (oi := _) (v := ?_) rfl (by kernel_rfl) (by kernel_rfl) (by kernel_rfl) (fun _ _ _ h => h) (Or.inl ⟨by rfl, ?_⟩) (by assumption) ?_
  rotate_left
  ·(intro w hSw; (try dsimp only at hSw); go_simp; try (with_reducible rfl))
  try simp only [Act.put, List.setIfInBounds_toArray, List.set_cons_zero, List.set_cons_succ, List.getElem_toArray, List.getElem_cons_zero, List.getElem_cons_succ]
  refine wpAnyH_ready (rs := [3]) (by kernel_rfl) (by simp) ?_
  refine AllReadyH.cons (o := _) rfl (fun K hK => ?_) AllReadyH.nil
  go_simp
  (with_reducible refine (sint_o 0 (by decide) (by decide) _).mono ?_)
  rintro e w2 ⟨sa, aa, na, ca, ba, ma, da, rfl, ro, bb⟩
  have H := hid (H.out.old bb)
  have LX := hid (LX.out.old bb)
  have B := hid (B.out.trans (bb.mono B.out.size))
  have KM := hid (spec_l11Meets x s sa w2 ro.ra (hY.out ▸ H.out.ra la ld s))
  rw [hzz.out] at KM
  have q0 := LX.out.c 0 (v := .slice a1 T0.length c1) rfl
  have q1 := LX.out.c 1 (v := .int .i64 x) rfl
  have q2 := LX.out.c 2 (v := .bool s) rfl
  have q3 := LX.out.c 3 (v := .slice b1 A.length d1) rfl
  have q4 := LX.out.c 4 (v := .slice e1 D.length f1) rfl
  clear bb ro
  go_wp2_with fail
  refine hK.out _ _ ?_ (fun hHeld => ?_)
  ·first | (with_reducible exact ⟨q0, q1, q2, q3, q4⟩) | ((try dsimp only); with_reducible exact ⟨q0, q1, q2, q3, q4⟩)
  refine wpAnyH_ready (rs := [8]) (by kernel_rfl) (by simp) ?_
  refine AllReadyH.cons (o := _) rfl (fun K hK => ?_) AllReadyH.nil
  go_simp
  (with_reducible refine (KM.out).mono ?_)
  rintro e w3 ⟨rfl, bb⟩
  have H := hid (H.out.old bb)
  have LX := hid (LX.out.old bb)
  have B := hid (B.out.trans (bb.mono B.out.size))
  have q0 := LX.out.c 0 (v := .slice a1 T0.length c1) rfl
  have q1 := LX.out.c 1 (v := .int .i64 x) rfl
  have q2 := LX.out.c 2 (v := .bool s) rfl
  have q3 := LX.out.c 3 (v := .slice b1 A.length d1) rfl
  have q4 := LX.out.c 4 (v := .slice e1 D.length f1) rfl
  clear bb
  go_wp2_with fail
  refine hK.out _ _ ?_ (fun hHeld => ?_)
  ·first | (with_reducible exact ⟨q0, q1, q2, q3, q4⟩) | ((try dsimp only); with_reducible exact ⟨q0, q1, q2, q3, q4⟩)
  refine wpAnyH_take (i := 9) (oi := _) (v := ?_) rfl (by kernel_rfl) (by kernel_rfl) (by kernel_rfl) (fun _ _ _ h => h) (Or.inl ⟨by rfl, ?_⟩) (by assumption) ?_
  rotate_left
  ·(intro w hSw; (try dsimp only at hSw); go_simp; try (with_reducible rfl))
  try simp only [Act.put, List.setIfInBounds_toArray, List.set_cons_zero, List.set_cons_succ, List.getElem_toArray, List.getElem_cons_zero, List.getElem_cons_succ]
  refine wpAnyH_take (i := 10) (oi := _) (v := ?_) rfl (by kernel_rfl) (by kernel_rfl) (by kernel_rfl) (fun _ _ _ h => h) (Or.inl ⟨by rfl, ?_⟩) (by assumption) ?_
  rotate_left
  ·(intro w hSw; (try dsimp only at hSw); go_simp; try (with_reducible rfl))
  try simp only [Act.put, List.setIfInBounds_toArray, List.set_cons_zero, List.set_cons_succ, List.getElem_toArray, List.getElem_cons_zero, List.getElem_cons_succ]
  refine wpAnyH_take (i := 11) (oi := _) (v := ?_) rfl (by kernel_rfl) (by kernel_rfl) (by kernel_rfl) (fun _ _ _ h => h) (Or.inl ⟨by rfl, ?_⟩) (by assumption) ?_
  rotate_left
  ·(intro w hSw; (try dsimp only at hSw); go_simp; try (with_reducible rfl))
  try simp only [Act.put, List.setIfInBounds_toArray, List.set_cons_zero, List.set_cons_succ, List.getElem_toArray, List.getElem_cons_zero, List.getElem_cons_succ]
  refine wpAnyH_done (by kernel_rfl) ?_ _
  clear q0 q1 q2 q3 q4
  go_wp2
  go_ret
  exact ret_bool' (by rw [HR.out, HRS.out]) B.out
end Go.Proofs.YthkehmnodcmlcaaGreat
