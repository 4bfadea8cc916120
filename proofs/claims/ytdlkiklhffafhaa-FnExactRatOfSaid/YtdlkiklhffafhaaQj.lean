/- The walks of the laws FnExactRatOf, FnExactRatFromInt. -/
import Derived.Test.YtdlkiklhffafhaaRhi
import Derived.Test.YtdlkiklhffafhaaSra
import Derived.Test.YtdlkiklhffafhaaFrb
import Derived.Deep.RegionHeld3
import Derived.Deep.DeepCutAuto
namespace Go.Proofs.Ytdlkiklhffafhaa
open Go.RowKit
open Go.Lib (hid)
set_option linter.unusedVariables false

set_option maxRecDepth 100000 in
set_option maxHeartbeats 12800000 in
theorem law_RatOf (n : Int) (n0 : -9223372036854775808 ≤ n) (n1 : n ≤ 9223372036854775807) (d : Int) (d0 : -9223372036854775808 ≤ d) (d1 : d ≤ 9223372036854775807) (w : World) :
    Calls Try.prog 7 #[.int .i64 n, .int .i64 d] w (RetB (.bool true) w) := by
  have KS := hid (fun (W : World) => (spec_RatOf n d n0 n1 d0 d1 W).mono fun e w' hh => OwnRS_of hh)
  have KI := hid (fun (W : World) => (impl_RatOf n d n0 n1 d0 d1 W).mono fun e w' hh => OwnRR_of hh)
  obtain ⟨o, ho⟩ : ∃ o, o = mkFr n d := ⟨_, rfl⟩
  rw [← ho] at KS KI
  clear ho
  have hl1 : (gzl (qn o)).length ≤ 60 := cappedLen
  have hl2 : (gzl (qd o)).length ≤ 60 := cappedLen
  obtain ⟨R1, hR1⟩ : ∃ R, R = gzl (qn o) := ⟨_, rfl⟩
  obtain ⟨R2, hR2⟩ : ∃ R, R = gzl (qd o) := ⟨_, rfl⟩
  obtain ⟨rs, hrs⟩ : ∃ r, r = gzs (qn o) := ⟨_, rfl⟩
  rw [← hR1, ← hR2, ← hrs] at KS KI
  rw [← hR1] at hl1
  rw [← hR2] at hl2
  clear hR1 hR2 hrs
  have hk1 : ¬ 1 + (R1.length : Int) + (R2.length : Int) < 0 := by omega
  have B := hid (Below.refl w.heap.size w)
  obtain ⟨w1, hw1⟩ : ∃ w1, w1 = w := ⟨_, rfl⟩
  have t1 : w.heap.size ≤ w1.heap.size := by rw [hw1]; exact Nat.le_refl _
  rw [show Below w.heap.size w w = Below w.heap.size w w1 by rw [hw1]] at B
  go_enter Try.func7, Try.ntmps7
  go_wp2_with fail
  rw [← hw1]
  clear hw1
  (with_reducible refine (KS.out _).mono ?_)
  rintro e w2 ⟨v2, u2, rfl, i1, b1⟩
  have t2 : w1.heap.size ≤ w2.heap.size := by have := b1.size; omega
  have V := hid (ROw.at (lo := w1.heap.size) i1 (by simp))
  have B := hid (B.out.trans (b1.mono B.out.size))
  obtain ⟨a2, c2, b2, d2, rfl, rfl⟩ := i1.form
  clear i1 b1
  have V := hid (V.out.old (below_new' (o := .cells #[.bool rs, .slice a2 R1.length c2, .slice b2 R2.length d2] 27)))
  have B := hid (B.out.alloc B.out.size (.cells #[.bool rs, .slice a2 R1.length c2, .slice b2 R2.length d2] 27))
  have LV := hid (LocA.new (w := w2) (T := 27) (cs := #[.bool rs, .slice a2 R1.length c2, .slice b2 R2.length d2]))
  go_wp2_with fail
  (with_reducible refine (KI.out _).mono ?_)
  rintro e w3 ⟨v3, u3, rfl, i1, b1⟩
  have t3 : w2.heap.size + 1 ≤ w3.heap.size := by have := b1.size; simp at this; omega
  have G := hid (ROb.at (lo := w2.heap.size + 1) i1 (by simp))
  have V := hid (V.out.old b1)
  have LV := hid (LV.out.old b1)
  have B := hid (B.out.trans (b1.mono B.out.size))
  obtain ⟨a3, c3, b3, d3, rfl, rfl⟩ := i1.form
  clear i1 b1
  have V := hid (V.out.old (below_new' (o := .cells #[.bool rs, .slice a3 R1.length c3, .slice b3 R2.length d3] 27)))
  have LV := hid (LV.out.old (below_new' (o := .cells #[.bool rs, .slice a3 R1.length c3, .slice b3 R2.length d3] 27)))
  have G := hid (G.out.old (below_new' (o := .cells #[.bool rs, .slice a3 R1.length c3, .slice b3 R2.length d3] 27)))
  have B := hid (B.out.alloc B.out.size (.cells #[.bool rs, .slice a3 R1.length c3, .slice b3 R2.length d3] 27))
  have LG := hid (LocA.new (w := w3) (T := 27) (cs := #[.bool rs, .slice a3 R1.length c3, .slice b3 R2.length d3]))
  have q0 := LG.out.c 0 rfl
  have q1 := LG.out.c 1 rfl
  have q2 := LG.out.c 2 rfl
  have q3 := LV.out.c 0 rfl
  have q4 := LV.out.c 1 rfl
  have q5 := LV.out.c 2 rfl
  go_wp2_with fail
  (with_reducible refine (eqRat_w _ _ _ _ _ R1 R2 _ _ _ _ (by omega) (by omega) _ G.out.w V.out.w).mono ?_)
  clear q0 q1 q2 q3 q4 q5
  rintro e w4 ⟨rfl, b1⟩
  have t4 : w3.heap.size + 1 ≤ w4.heap.size := by have := b1.size; simp at this; omega
  have V := hid (V.out.old b1)
  have LV := hid (LV.out.old b1)
  have G := hid (G.out.old b1)
  have LG := hid (LG.out.old b1)
  have B := hid (B.out.trans (b1.mono B.out.size))
  clear b1
  have q0 := LG.out.c 0 rfl
  have q1 := LG.out.c 1 rfl
  have q2 := LG.out.c 2 rfl
  go_wp2_with fail
  (with_reducible refine (markRat_obj _ _ _ R1 R2 (1) _ _ (by omega) (by omega) (by omega) (by omega) _ G.out).mono ?_)
  clear q0 q1 q2
  rintro e w5 ⟨rfl, o1, b1⟩
  have t5 : w4.heap.size ≤ w5.heap.size := by have := b1.size; omega
  have G := hid o1
  have V := hid (V.out.onlyG b1 (by omega))
  have LV := hid (LV.out.onlyG b1 (by omega))
  have LG := hid (LG.out.onlyG b1 (by omega))
  have B := hid (in_onlyG B.out b1 (by omega))
  clear o1 b1
  have q0 := LG.out.c 0 rfl
  have q1 := LG.out.c 1 rfl
  have q2 := LG.out.c 2 rfl
  go_wp2_with fail
  (with_reducible refine (heldRat_obj _ _ _ R1.length R2.length 1 _ _ (by omega) (by omega) (by omega) (by omega) _ G.out).mono ?_)
  clear q0 q1 q2
  rintro e w6 ⟨rfl, b1⟩
  have t6 : w5.heap.size ≤ w6.heap.size := by have := b1.size; omega
  have V := hid (V.out.old b1)
  have LV := hid (LV.out.old b1)
  have G := hid (G.out.old b1)
  have LG := hid (LG.out.old b1)
  have B := hid (B.out.trans (b1.mono B.out.size))
  clear b1
  go_wp2_with fail
  (with_reducible refine (KI.out _).mono ?_)
  rintro e w7 ⟨v7, u7, rfl, i1, b1⟩
  have t7 : w6.heap.size ≤ w7.heap.size := by have := b1.size; omega
  have H := hid (ROb.at (lo := w6.heap.size) i1 (by simp))
  have V := hid (V.out.old b1)
  have LV := hid (LV.out.old b1)
  have G := hid (G.out.old b1)
  have LG := hid (LG.out.old b1)
  have B := hid (B.out.trans (b1.mono B.out.size))
  obtain ⟨a7, c7, b7, d7, rfl, rfl⟩ := i1.form
  clear i1 b1
  have V := hid (V.out.old (below_new' (o := .cells #[.bool rs, .slice a7 R1.length c7, .slice b7 R2.length d7] 27)))
  have LV := hid (LV.out.old (below_new' (o := .cells #[.bool rs, .slice a7 R1.length c7, .slice b7 R2.length d7] 27)))
  have G := hid (G.out.old (below_new' (o := .cells #[.bool rs, .slice a7 R1.length c7, .slice b7 R2.length d7] 27)))
  have LG := hid (LG.out.old (below_new' (o := .cells #[.bool rs, .slice a7 R1.length c7, .slice b7 R2.length d7] 27)))
  have H := hid (H.out.old (below_new' (o := .cells #[.bool rs, .slice a7 R1.length c7, .slice b7 R2.length d7] 27)))
  have B := hid (B.out.alloc B.out.size (.cells #[.bool rs, .slice a7 R1.length c7, .slice b7 R2.length d7] 27))
  have LH := hid (LocA.new (w := w7) (T := 27) (cs := #[.bool rs, .slice a7 R1.length c7, .slice b7 R2.length d7]))
  have q0 := LH.out.c 0 rfl
  have q1 := LH.out.c 1 rfl
  have q2 := LH.out.c 2 rfl
  have q3 := LV.out.c 0 rfl
  have q4 := LV.out.c 1 rfl
  have q5 := LV.out.c 2 rfl
  go_wp2_with fail
  (with_reducible refine (eqRat_w _ _ _ _ _ R1 R2 _ _ _ _ (by omega) (by omega) _ H.out.w V.out.w).mono ?_)
  clear q0 q1 q2 q3 q4 q5
  rintro e w8 ⟨rfl, b1⟩
  have t8 : w7.heap.size + 1 ≤ w8.heap.size := by have := b1.size; simp at this; omega
  have V := hid (V.out.old b1)
  have LV := hid (LV.out.old b1)
  have G := hid (G.out.old b1)
  have LG := hid (LG.out.old b1)
  have H := hid (H.out.old b1)
  have LH := hid (LH.out.old b1)
  have B := hid (B.out.trans (b1.mono B.out.size))
  clear b1
  have q0 := LG.out.c 0 rfl
  have q1 := LG.out.c 1 rfl
  have q2 := LG.out.c 2 rfl
  go_wp2_with fail
  (with_reducible refine (heldRat_obj _ _ _ R1.length R2.length 1 _ _ (by omega) (by omega) (by omega) (by omega) _ G.out).mono ?_)
  clear q0 q1 q2
  rintro e w9 ⟨rfl, b1⟩
  have t9 : w8.heap.size ≤ w9.heap.size := by have := b1.size; omega
  have G := hid (G.out.old b1)
  have LG := hid (LG.out.old b1)
  have B := hid (B.out.trans (b1.mono B.out.size))
  clear b1
  go_wp2
  go_ret
  exact ⟨rfl, B.out⟩

set_option maxRecDepth 100000 in
set_option maxHeartbeats 12800000 in
theorem law_RatFromInt (n : Int) (n0 : -9223372036854775808 ≤ n) (n1 : n ≤ 9223372036854775807) (w : World) :
    Calls Try.prog 8 #[.int .i64 n] w (RetB (.bool true) w) := by
  have KS := hid (fun (W : World) => (spec_RatFromInt n n0 n1 W).mono fun e w' hh => OwnRS_of hh)
  have KI := hid (fun (W : World) => (impl_RatFromInt n n0 n1 W).mono fun e w' hh => OwnRR_of hh)
  obtain ⟨o, ho⟩ : ∃ o, o = some (n : Rat) := ⟨_, rfl⟩
  rw [← ho] at KS KI
  clear ho
  have hl1 : (gzl (qn o)).length ≤ 60 := cappedLen
  have hl2 : (gzl (qd o)).length ≤ 60 := cappedLen
  obtain ⟨R1, hR1⟩ : ∃ R, R = gzl (qn o) := ⟨_, rfl⟩
  obtain ⟨R2, hR2⟩ : ∃ R, R = gzl (qd o) := ⟨_, rfl⟩
  obtain ⟨rs, hrs⟩ : ∃ r, r = gzs (qn o) := ⟨_, rfl⟩
  rw [← hR1, ← hR2, ← hrs] at KS KI
  rw [← hR1] at hl1
  rw [← hR2] at hl2
  clear hR1 hR2 hrs
  have hk1 : ¬ 1 + (R1.length : Int) + (R2.length : Int) < 0 := by omega
  have B := hid (Below.refl w.heap.size w)
  obtain ⟨w1, hw1⟩ : ∃ w1, w1 = w := ⟨_, rfl⟩
  have t1 : w.heap.size ≤ w1.heap.size := by rw [hw1]; exact Nat.le_refl _
  rw [show Below w.heap.size w w = Below w.heap.size w w1 by rw [hw1]] at B
  go_enter Try.func8, Try.ntmps8
  go_wp2_with fail
  rw [← hw1]
  clear hw1
  (with_reducible refine (KS.out _).mono ?_)
  rintro e w2 ⟨v2, u2, rfl, i1, b1⟩
  have t2 : w1.heap.size ≤ w2.heap.size := by have := b1.size; omega
  have V := hid (ROw.at (lo := w1.heap.size) i1 (by simp))
  have B := hid (B.out.trans (b1.mono B.out.size))
  obtain ⟨a2, c2, b2, d2, rfl, rfl⟩ := i1.form
  clear i1 b1
  have V := hid (V.out.old (below_new' (o := .cells #[.bool rs, .slice a2 R1.length c2, .slice b2 R2.length d2] 27)))
  have B := hid (B.out.alloc B.out.size (.cells #[.bool rs, .slice a2 R1.length c2, .slice b2 R2.length d2] 27))
  have LV := hid (LocA.new (w := w2) (T := 27) (cs := #[.bool rs, .slice a2 R1.length c2, .slice b2 R2.length d2]))
  go_wp2_with fail
  (with_reducible refine (KI.out _).mono ?_)
  rintro e w3 ⟨v3, u3, rfl, i1, b1⟩
  have t3 : w2.heap.size + 1 ≤ w3.heap.size := by have := b1.size; simp at this; omega
  have G := hid (ROb.at (lo := w2.heap.size + 1) i1 (by simp))
  have V := hid (V.out.old b1)
  have LV := hid (LV.out.old b1)
  have B := hid (B.out.trans (b1.mono B.out.size))
  obtain ⟨a3, c3, b3, d3, rfl, rfl⟩ := i1.form
  clear i1 b1
  have V := hid (V.out.old (below_new' (o := .cells #[.bool rs, .slice a3 R1.length c3, .slice b3 R2.length d3] 27)))
  have LV := hid (LV.out.old (below_new' (o := .cells #[.bool rs, .slice a3 R1.length c3, .slice b3 R2.length d3] 27)))
  have G := hid (G.out.old (below_new' (o := .cells #[.bool rs, .slice a3 R1.length c3, .slice b3 R2.length d3] 27)))
  have B := hid (B.out.alloc B.out.size (.cells #[.bool rs, .slice a3 R1.length c3, .slice b3 R2.length d3] 27))
  have LG := hid (LocA.new (w := w3) (T := 27) (cs := #[.bool rs, .slice a3 R1.length c3, .slice b3 R2.length d3]))
  have q0 := LG.out.c 0 rfl
  have q1 := LG.out.c 1 rfl
  have q2 := LG.out.c 2 rfl
  have q3 := LV.out.c 0 rfl
  have q4 := LV.out.c 1 rfl
  have q5 := LV.out.c 2 rfl
  go_wp2_with fail
  (with_reducible refine (eqRat_w _ _ _ _ _ R1 R2 _ _ _ _ (by omega) (by omega) _ G.out.w V.out.w).mono ?_)
  clear q0 q1 q2 q3 q4 q5
  rintro e w4 ⟨rfl, b1⟩
  have t4 : w3.heap.size + 1 ≤ w4.heap.size := by have := b1.size; simp at this; omega
  have V := hid (V.out.old b1)
  have LV := hid (LV.out.old b1)
  have G := hid (G.out.old b1)
  have LG := hid (LG.out.old b1)
  have B := hid (B.out.trans (b1.mono B.out.size))
  clear b1
  have q0 := LG.out.c 0 rfl
  have q1 := LG.out.c 1 rfl
  have q2 := LG.out.c 2 rfl
  go_wp2_with fail
  (with_reducible refine (markRat_obj _ _ _ R1 R2 (1) _ _ (by omega) (by omega) (by omega) (by omega) _ G.out).mono ?_)
  clear q0 q1 q2
  rintro e w5 ⟨rfl, o1, b1⟩
  have t5 : w4.heap.size ≤ w5.heap.size := by have := b1.size; omega
  have G := hid o1
  have V := hid (V.out.onlyG b1 (by omega))
  have LV := hid (LV.out.onlyG b1 (by omega))
  have LG := hid (LG.out.onlyG b1 (by omega))
  have B := hid (in_onlyG B.out b1 (by omega))
  clear o1 b1
  have q0 := LG.out.c 0 rfl
  have q1 := LG.out.c 1 rfl
  have q2 := LG.out.c 2 rfl
  go_wp2_with fail
  (with_reducible refine (heldRat_obj _ _ _ R1.length R2.length 1 _ _ (by omega) (by omega) (by omega) (by omega) _ G.out).mono ?_)
  clear q0 q1 q2
  rintro e w6 ⟨rfl, b1⟩
  have t6 : w5.heap.size ≤ w6.heap.size := by have := b1.size; omega
  have V := hid (V.out.old b1)
  have LV := hid (LV.out.old b1)
  have G := hid (G.out.old b1)
  have LG := hid (LG.out.old b1)
  have B := hid (B.out.trans (b1.mono B.out.size))
  clear b1
  go_wp2_with fail
  (with_reducible refine (KI.out _).mono ?_)
  rintro e w7 ⟨v7, u7, rfl, i1, b1⟩
  have t7 : w6.heap.size ≤ w7.heap.size := by have := b1.size; omega
  have H := hid (ROb.at (lo := w6.heap.size) i1 (by simp))
  have V := hid (V.out.old b1)
  have LV := hid (LV.out.old b1)
  have G := hid (G.out.old b1)
  have LG := hid (LG.out.old b1)
  have B := hid (B.out.trans (b1.mono B.out.size))
  obtain ⟨a7, c7, b7, d7, rfl, rfl⟩ := i1.form
  clear i1 b1
  have V := hid (V.out.old (below_new' (o := .cells #[.bool rs, .slice a7 R1.length c7, .slice b7 R2.length d7] 27)))
  have LV := hid (LV.out.old (below_new' (o := .cells #[.bool rs, .slice a7 R1.length c7, .slice b7 R2.length d7] 27)))
  have G := hid (G.out.old (below_new' (o := .cells #[.bool rs, .slice a7 R1.length c7, .slice b7 R2.length d7] 27)))
  have LG := hid (LG.out.old (below_new' (o := .cells #[.bool rs, .slice a7 R1.length c7, .slice b7 R2.length d7] 27)))
  have H := hid (H.out.old (below_new' (o := .cells #[.bool rs, .slice a7 R1.length c7, .slice b7 R2.length d7] 27)))
  have B := hid (B.out.alloc B.out.size (.cells #[.bool rs, .slice a7 R1.length c7, .slice b7 R2.length d7] 27))
  have LH := hid (LocA.new (w := w7) (T := 27) (cs := #[.bool rs, .slice a7 R1.length c7, .slice b7 R2.length d7]))
  have q0 := LH.out.c 0 rfl
  have q1 := LH.out.c 1 rfl
  have q2 := LH.out.c 2 rfl
  have q3 := LV.out.c 0 rfl
  have q4 := LV.out.c 1 rfl
  have q5 := LV.out.c 2 rfl
  go_wp2_with fail
  (with_reducible refine (eqRat_w _ _ _ _ _ R1 R2 _ _ _ _ (by omega) (by omega) _ H.out.w V.out.w).mono ?_)
  clear q0 q1 q2 q3 q4 q5
  rintro e w8 ⟨rfl, b1⟩
  have t8 : w7.heap.size + 1 ≤ w8.heap.size := by have := b1.size; simp at this; omega
  have V := hid (V.out.old b1)
  have LV := hid (LV.out.old b1)
  have G := hid (G.out.old b1)
  have LG := hid (LG.out.old b1)
  have H := hid (H.out.old b1)
  have LH := hid (LH.out.old b1)
  have B := hid (B.out.trans (b1.mono B.out.size))
  clear b1
  have q0 := LG.out.c 0 rfl
  have q1 := LG.out.c 1 rfl
  have q2 := LG.out.c 2 rfl
  go_wp2_with fail
  (with_reducible refine (heldRat_obj _ _ _ R1.length R2.length 1 _ _ (by omega) (by omega) (by omega) (by omega) _ G.out).mono ?_)
  clear q0 q1 q2
  rintro e w9 ⟨rfl, b1⟩
  have t9 : w8.heap.size ≤ w9.heap.size := by have := b1.size; omega
  have G := hid (G.out.old b1)
  have LG := hid (LG.out.old b1)
  have B := hid (B.out.trans (b1.mono B.out.size))
  clear b1
  go_wp2
  go_ret
  exact ⟨rfl, B.out⟩

end Go.Proofs.Ytdlkiklhffafhaa
