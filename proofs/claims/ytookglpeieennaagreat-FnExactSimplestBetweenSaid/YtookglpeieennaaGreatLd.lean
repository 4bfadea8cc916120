/- The walk of the law FnExactSimplestBetween. -/
import Derived.Test.YtookglpeieennaaGreatRhi
import Derived.Test.YtookglpeieennaaGreatSps
import Derived.Deep.RegionHeld3
import Derived.Deep.DeepCutAuto
namespace Go.Proofs.YtookglpeieennaaGreat
open Go.RowKit
open Go.Lib (hid)
set_option linter.unusedVariables false

set_option maxRecDepth 100000 in
set_option maxHeartbeats 25600000 in
theorem law_SimplestBetween (s : Bool) (a : Option Addr) (n c : Nat) (A : List Int) (b : Option Addr) (m d : Nat) (D : List Int) (t : Bool) (a' : Option Addr) (n' c' : Nat) (A' : List Int) (b' : Option Addr) (m' d' : Nat) (D' : List Int) (hmX : n ≤ maxLen) (hkX : m ≤ maxLen) (hmY : n' ≤ maxLen) (hkY : m' ≤ maxLen) (w : World) (rX : RowI w a n A) (pX : RowI w b m D) (rY : RowI w a' n' A') (pY : RowI w b' m' D') :
    Calls Tryz.prog 8 #[.agg #[.bool s, .slice a n c, .slice b m d], .agg #[.bool t, .slice a' n' c', .slice b' m' d']] w (RetB (.bool true) w) := by
  have hX : A.length ≤ n := by have := rX.1; omega
  have gX : D.length ≤ m := by have := pX.1; omega
  have X := hid (CameR.old ⟨Came.of rX, Came.of pX⟩ (below_new2 (w := w) (o := .cells #[.bool s, .slice a n c, .slice b m d] 43) (o' := .cells #[.bool t, .slice a' n' c', .slice b' m' d'] 43)))
  have hY : A'.length ≤ n' := by have := rY.1; omega
  have gY : D'.length ≤ m' := by have := pY.1; omega
  have Y := hid (CameR.old ⟨Came.of rY, Came.of pY⟩ (below_new2 (w := w) (o := .cells #[.bool s, .slice a n c, .slice b m d] 43) (o' := .cells #[.bool t, .slice a' n' c', .slice b' m' d'] 43)))
  have B := hid (below_new2 (w := w) (o := .cells #[.bool s, .slice a n c, .slice b m d] 43) (o' := .cells #[.bool t, .slice a' n' c', .slice b' m' d'] 43))
  have LX := hid ((LocA.at (T := 43) (w := w) (b := w.heap.size) (cs := #[.bool s, .slice a n c, .slice b m d]) rfl).new1 (o := .cells #[.bool t, .slice a' n' c', .slice b' m' d'] 43))
  have LY := hid (LocA.at (T := 43) (w := w.alloc (.cells #[.bool s, .slice a n c, .slice b m d] 43)) (b := w.heap.size + 1) (cs := #[.bool t, .slice a' n' c', .slice b' m' d']) (by simp))
  have hsz : w.heap.size + 2 ≤ ((w.alloc (.cells #[.bool s, .slice a n c, .slice b m d] 43)).alloc (.cells #[.bool t, .slice a' n' c', .slice b' m' d'] 43)).heap.size := by simp
  clear rX pX
  clear rY pY
  generalize hW : (w.alloc (.cells #[.bool s, .slice a n c, .slice b m d] 43)).alloc (.cells #[.bool t, .slice a' n' c', .slice b' m' d'] 43) = W0 at B hsz X LX Y LY
  have HW := hid hW
  clear hW
  by_cases hAX : 1048576 < (n : Int) + (m : Int)
  · have K := hid (szRat_no s a n c b m d (1048576) hmX hkX hAX (by omega) (by omega))
    go_enter Tryz.func8, Tryz.ntmps8
    go_wp2_with fail
    rw [HW.out]
    (with_reducible refine (K.out _).mono ?_)
    rintro e w1 ⟨rfl, b1⟩
    have B := hid (B.out.trans (b1.mono B.out.size))
    clear b1
    go_wp2
    go_ret
    exact ⟨rfl, B.out⟩
  have KZX := hid (szRat_yes s a n c b m d (1048576) (by omega) (by omega))
  have hgeX : ¬ 1048576 - (n : Int) - (m : Int) < 0 := by omega
  by_cases hAY : 1048576 - (n : Int) - (m : Int) < (n' : Int) + (m' : Int)
  · have K := hid (szRat_no t a' n' c' b' m' d' (1048576 - (n : Int) - (m : Int)) hmY hkY hAY (by omega) (by omega))
    go_enter Tryz.func8, Tryz.ntmps8
    go_wp2_with fail
    rw [HW.out]
    (with_reducible refine (KZX.out _).mono ?_)
    rintro e w1 ⟨rfl, b1⟩
    have B := hid (B.out.trans (b1.mono B.out.size))
    have LY := hid (LY.out.old b1)
    have q0 := LY.out.c 0 (v := .bool t) rfl
    have q1 := LY.out.c 1 (v := .slice a' n' c') rfl
    have q2 := LY.out.c 2 (v := .slice b' m' d') rfl
    clear b1
    go_wp2_with fail
    (with_reducible refine (K.out _).mono ?_)
    rintro e w2 ⟨rfl, b1⟩
    have B := hid (B.out.trans (b1.mono B.out.size))
    clear b1
    go_wp2
    go_ret
    exact ⟨rfl, B.out⟩
  have KZY := hid (szRat_yes t a' n' c' b' m' d' (1048576 - (n : Int) - (m : Int)) (by omega) (by omega))
  have hgeY : ¬ 1048576 - (n : Int) - (m : Int) - (n' : Int) - (m' : Int) < 0 := by omega
  have lX : A.length ≤ 1048576 := by omega
  have kX : D.length ≤ 1048576 := by omega
  have lY : A'.length ≤ 1048576 := by omega
  have kY : D'.length ≤ 1048576 := by omega
  have hsum : (A.length : Int) + (D.length : Int) + (A'.length : Int) + (D'.length : Int) ≤ 1048576 := by omega
  have KX := hid (fun (W : World) (h : CameR W w.heap.size a n A b m D) => toRat_came s a n c b m d _ A D (by omega) (by omega) W h)
  have KY := hid (fun (W : World) (h : CameR W w.heap.size a' n' A' b' m' D') => toRat_came t a' n' c' b' m' d' _ A' D' (by omega) (by omega) W h)
  have KS := hid (fun (W : World) (v0 u0 : Value) (v1 u1 : Value) (h0 : RL W v0 u0 A D) (h1 : RL W v1 u1 A' D') => (spec_SimplestBetween s t v0 u0 v1 u1 A D A' D' W h0 h1).mono fun e w' hh => OwnRS_of hh)
  have KI := hid (fun (W : World) (v0 u0 : Value) (v1 u1 : Value) (h0 : RL W v0 u0 A D) (h1 : RL W v1 u1 A' D') => (impl_SimplestBetween s t v0 u0 v1 u1 A D A' D' W h0 h1).mono fun e w' hh => OwnRR_of hh)
  obtain ⟨o, ho⟩ : ∃ o, o = bq simpF (rval s A D) (rval t A' D') := ⟨_, rfl⟩
  rw [← ho] at KS KI
  clear ho
  have hl1 : (gzl (qn o)).length ≤ 60 := cappedLen
  have hl2 : (gzl (qd o)).length ≤ 60 := cappedLen
  obtain ⟨R1, hR1⟩ : ∃ R, R = gzl (qn o) := ⟨_, rfl⟩
  obtain ⟨R2, hR2⟩ : ∃ R, R = gzl (qd o) := ⟨_, rfl⟩
  obtain ⟨rs, hrs⟩ : ∃ r, r = gzs (qn o) := ⟨_, rfl⟩
  rw [← hR1, ← hR2, ← hrs] at KS KI
  rw [← hR1] at hl1
  rw [← hR2] at hl2
  clear hR1 hR2 hrs
  have hk1 : ¬ 1 + (R1.length : Int) + (R2.length : Int) < 0 := by omega
  clear hX gX hY gY
  go_enter Tryz.func8, Tryz.ntmps8
  go_wp2_with fail
  rw [HW.out]
  (with_reducible refine (KZX.out _).mono ?_)
  rintro e w1 ⟨rfl, b1⟩
  have t1 : w.heap.size + 2 ≤ w1.heap.size := by have := b1.size; omega
  have X := hid (X.out.old b1)
  have LX := hid (LX.out.old b1)
  have Y := hid (Y.out.old b1)
  have LY := hid (LY.out.old b1)
  have B := hid (B.out.trans (b1.mono B.out.size))
  clear b1
  have q0 := LY.out.c 0 (v := .bool t) rfl
  have q1 := LY.out.c 1 (v := .slice a' n' c') rfl
  have q2 := LY.out.c 2 (v := .slice b' m' d') rfl
  go_wp2_with fail
  (with_reducible refine (KZY.out _).mono ?_)
  clear q0 q1 q2
  rintro e w2 ⟨rfl, b1⟩
  have t2 : w1.heap.size ≤ w2.heap.size := by have := b1.size; omega
  have X := hid (X.out.old b1)
  have LX := hid (LX.out.old b1)
  have Y := hid (Y.out.old b1)
  have LY := hid (LY.out.old b1)
  have B := hid (B.out.trans (b1.mono B.out.size))
  clear b1
  have hk0 : ¬ 1 + (A.length : Int) + (D.length : Int) + (A'.length : Int) + (D'.length : Int) < 0 := by omega
  go_upto_region 8 with fail
  go_cut [6] (fun sl wx => LaidRW 27 w2 rs R1 R2 sl wx)
  case first =>
    have XD := hid (X.out.old (Below_drew1 (Below.refl _ _)))
    have LXD := hid (LX.out.old (Below_drew1 (Below.refl _ _)))
    have XE := hid (X.out.old (Below_drew1 (below_new' (o := .cells #[.bool false, .slice none 0 0, .slice none 0 0] 27))))
    have LXE := hid (LX.out.old (Below_drew1 (below_new' (o := .cells #[.bool false, .slice none 0 0, .slice none 0 0] 27))))
    have YD := hid (Y.out.old (Below_drew1 (Below.refl _ _)))
    have LYD := hid (LY.out.old (Below_drew1 (Below.refl _ _)))
    have YE := hid (Y.out.old (Below_drew1 (below_new' (o := .cells #[.bool false, .slice none 0 0, .slice none 0 0] 27))))
    have LYE := hid (LY.out.old (Below_drew1 (below_new' (o := .cells #[.bool false, .slice none 0 0, .slice none 0 0] 27))))
    have CD := hid (show Below w2.heap.size w2 w2.drew from Below_drew1 (Below.refl _ _))
    have CE := hid (show Below w2.heap.size w2 (w2.alloc (.cells #[.bool false, .slice none 0 0, .slice none 0 0] 27)).drew from Below_drew1 below_new')
    have NE := hid (show LocA 27 (w2.alloc (.cells #[.bool false, .slice none 0 0, .slice none 0 0] 27)).drew w2.heap.size #[.bool false, .slice none 0 0, .slice none 0 0] from LocA.new)
    have hNW : w2.heap.size ≤ w2.heap.size := Nat.le_refl _
    have LTX := LX.out.lt
    have LTY := LY.out.lt
    have q0 := LXD.out.c 0 (v := .bool s) rfl
    have q1 := LXD.out.c 1 (v := .slice a n c) rfl
    have q2 := LXD.out.c 2 (v := .slice b m d) rfl
    have q3 := LYD.out.c 0 (v := .bool t) rfl
    have q4 := LYD.out.c 1 (v := .slice a' n' c') rfl
    have q5 := LYD.out.c 2 (v := .slice b' m' d') rfl
    have qE0 := LXE.out.c 0 (v := .bool s) rfl
    have qE1 := LXE.out.c 1 (v := .slice a n c) rfl
    have qE2 := LXE.out.c 2 (v := .slice b m d) rfl
    have qE3 := LYE.out.c 0 (v := .bool t) rfl
    have qE4 := LYE.out.c 1 (v := .slice a' n' c') rfl
    have qE5 := LYE.out.c 2 (v := .slice b' m' d') rfl
    go_region_held3 (fun w' => w'.cell? ⟨w.heap.size, 0, none⟩ = some (.bool s) ∧ w'.cell? ⟨w.heap.size, 1, none⟩ = some (.slice a n c) ∧ w'.cell? ⟨w.heap.size, 2, none⟩ = some (.slice b m d) ∧ w'.cell? ⟨w.heap.size + 1, 0, none⟩ = some (.bool t) ∧ w'.cell? ⟨w.heap.size + 1, 1, none⟩ = some (.slice a' n' c') ∧ w'.cell? ⟨w.heap.size + 1, 2, none⟩ = some (.slice b' m' d')) (first | with_reducible exact ⟨q0, q1, q2, q3, q4, q5⟩ | with_reducible exact ⟨qE0, qE1, qE2, qE3, qE4, qE5⟩ | ((with_reducible refine ⟨(LXC.out.new1).c 0 ?_, (LXC.out.new1).c 1 ?_, (LXC.out.new1).c 2 ?_, (LYC.out.new1).c 0 ?_, (LYC.out.new1).c 1 ?_, (LYC.out.new1).c 2 ?_⟩) <;> rfl) | ((with_reducible refine ⟨(cell_set3 (Nat.ne_of_lt ?_)).trans q0, (cell_set3 (Nat.ne_of_lt ?_)).trans q1, (cell_set3 (Nat.ne_of_lt ?_)).trans q2, (cell_set3 (Nat.ne_of_lt ?_)).trans q3, (cell_set3 (Nat.ne_of_lt ?_)).trans q4, (cell_set3 (Nat.ne_of_lt ?_)).trans q5⟩) <;> omega) | go_keep) (first | (go_at_call 33; (with_reducible refine (KX.out _ XD.out).mono ?_); rintro e wx ⟨vx, ux, rfl, i1, b1⟩; have CC := hid (CD.out.trans (b1.mono CD.out.size)); have XC := hid (XD.out.old b1); have LXC := hid (LXD.out.old b1); have YC := hid (YD.out.old b1); have LYC := hid (LYD.out.old b1); have q0 := LXC.out.c 0 (v := .bool s) rfl; have q1 := LXC.out.c 1 (v := .slice a n c) rfl; have q2 := LXC.out.c 2 (v := .slice b m d) rfl; have q3 := LYC.out.c 0 (v := .bool t) rfl; have q4 := LYC.out.c 1 (v := .slice a' n' c') rfl; have q5 := LYC.out.c 2 (v := .slice b' m' d') rfl; have IX := hid i1; obtain ⟨ax, cx, bbx, ddx, rfl, rfl⟩ := i1.form; clear i1 b1) | (go_at_call 33; (with_reducible refine (KX.out _ XE.out).mono ?_); rintro e wx ⟨vx, ux, rfl, i1, b1⟩; have CC := hid (CE.out.trans (b1.mono CE.out.size)); have NZ := hid (NE.out.old b1); have XC := hid (XE.out.old b1); have LXC := hid (LXE.out.old b1); have YC := hid (YE.out.old b1); have LYC := hid (LYE.out.old b1); have q0 := LXC.out.c 0 (v := .bool s) rfl; have q1 := LXC.out.c 1 (v := .slice a n c) rfl; have q2 := LXC.out.c 2 (v := .slice b m d) rfl; have q3 := LYC.out.c 0 (v := .bool t) rfl; have q4 := LYC.out.c 1 (v := .slice a' n' c') rfl; have q5 := LYC.out.c 2 (v := .slice b' m' d') rfl; have IX := hid i1; obtain ⟨ax, cx, bbx, ddx, rfl, rfl⟩ := i1.form; clear i1 b1) | (go_at_call 33; (with_reducible refine (KX.out _ XC.out).mono ?_); rintro e wx ⟨vx, ux, rfl, i1, b1⟩; (try have NZ := hid (NZ.out.old b1)); have IY := hid (IY.out.old b1); have CC := hid (CC.out.trans (b1.mono CC.out.size)); have XC := hid (XC.out.old b1); have LXC := hid (LXC.out.old b1); have YC := hid (YC.out.old b1); have LYC := hid (LYC.out.old b1); have q0 := LXC.out.c 0 (v := .bool s) rfl; have q1 := LXC.out.c 1 (v := .slice a n c) rfl; have q2 := LXC.out.c 2 (v := .slice b m d) rfl; have q3 := LYC.out.c 0 (v := .bool t) rfl; have q4 := LYC.out.c 1 (v := .slice a' n' c') rfl; have q5 := LYC.out.c 2 (v := .slice b' m' d') rfl; have IX := hid i1; obtain ⟨ax, cx, bbx, ddx, rfl, rfl⟩ := i1.form; clear i1 b1) | (go_at_call 33; (with_reducible refine (KX.out _ (XC.out.old (below_new' (o := .cells #[.bool false, .slice none 0 0, .slice none 0 0] 27)))).mono ?_); rintro e wx ⟨vx, ux, rfl, i1, b1⟩; have NZ := hid ((LocA.new (w := wy) (T := 27) (cs := #[.bool false, .slice none 0 0, .slice none 0 0])).old b1); have hNZ : w2.heap.size ≤ wy.heap.size := CC.out.size; have LXC := hid (LXC.out.new1 (o := .cells #[.bool false, .slice none 0 0, .slice none 0 0] 27)); have XC := hid (XC.out.old (below_new' (o := .cells #[.bool false, .slice none 0 0, .slice none 0 0] 27))); have LYC := hid (LYC.out.new1 (o := .cells #[.bool false, .slice none 0 0, .slice none 0 0] 27)); have YC := hid (YC.out.old (below_new' (o := .cells #[.bool false, .slice none 0 0, .slice none 0 0] 27))); have IY := hid (IY.out.old (below_new' (o := .cells #[.bool false, .slice none 0 0, .slice none 0 0] 27))); have CC := hid (CC.out.alloc CC.out.size (.cells #[.bool false, .slice none 0 0, .slice none 0 0] 27)); have IY := hid (IY.out.old b1); have CC := hid (CC.out.trans (b1.mono CC.out.size)); have XC := hid (XC.out.old b1); have LXC := hid (LXC.out.old b1); have YC := hid (YC.out.old b1); have LYC := hid (LYC.out.old b1); have q0 := LXC.out.c 0 (v := .bool s) rfl; have q1 := LXC.out.c 1 (v := .slice a n c) rfl; have q2 := LXC.out.c 2 (v := .slice b m d) rfl; have q3 := LYC.out.c 0 (v := .bool t) rfl; have q4 := LYC.out.c 1 (v := .slice a' n' c') rfl; have q5 := LYC.out.c 2 (v := .slice b' m' d') rfl; have IX := hid i1; obtain ⟨ax, cx, bbx, ddx, rfl, rfl⟩ := i1.form; clear i1 b1) | (go_at_call 33; (with_reducible refine (KY.out _ YD.out).mono ?_); rintro e wy ⟨vy, uy, rfl, i1, b1⟩; have CC := hid (CD.out.trans (b1.mono CD.out.size)); have YC := hid (YD.out.old b1); have LYC := hid (LYD.out.old b1); have XC := hid (XD.out.old b1); have LXC := hid (LXD.out.old b1); have q0 := LXC.out.c 0 (v := .bool s) rfl; have q1 := LXC.out.c 1 (v := .slice a n c) rfl; have q2 := LXC.out.c 2 (v := .slice b m d) rfl; have q3 := LYC.out.c 0 (v := .bool t) rfl; have q4 := LYC.out.c 1 (v := .slice a' n' c') rfl; have q5 := LYC.out.c 2 (v := .slice b' m' d') rfl; have IY := hid i1; obtain ⟨ay, cy, bby, ddy, rfl, rfl⟩ := i1.form; clear i1 b1) | (go_at_call 33; (with_reducible refine (KY.out _ YE.out).mono ?_); rintro e wy ⟨vy, uy, rfl, i1, b1⟩; have CC := hid (CE.out.trans (b1.mono CE.out.size)); have NZ := hid (NE.out.old b1); have YC := hid (YE.out.old b1); have LYC := hid (LYE.out.old b1); have XC := hid (XE.out.old b1); have LXC := hid (LXE.out.old b1); have q0 := LXC.out.c 0 (v := .bool s) rfl; have q1 := LXC.out.c 1 (v := .slice a n c) rfl; have q2 := LXC.out.c 2 (v := .slice b m d) rfl; have q3 := LYC.out.c 0 (v := .bool t) rfl; have q4 := LYC.out.c 1 (v := .slice a' n' c') rfl; have q5 := LYC.out.c 2 (v := .slice b' m' d') rfl; have IY := hid i1; obtain ⟨ay, cy, bby, ddy, rfl, rfl⟩ := i1.form; clear i1 b1) | (go_at_call 33; (with_reducible refine (KY.out _ YC.out).mono ?_); rintro e wy ⟨vy, uy, rfl, i1, b1⟩; (try have NZ := hid (NZ.out.old b1)); have IX := hid (IX.out.old b1); have CC := hid (CC.out.trans (b1.mono CC.out.size)); have YC := hid (YC.out.old b1); have LYC := hid (LYC.out.old b1); have XC := hid (XC.out.old b1); have LXC := hid (LXC.out.old b1); have q0 := LXC.out.c 0 (v := .bool s) rfl; have q1 := LXC.out.c 1 (v := .slice a n c) rfl; have q2 := LXC.out.c 2 (v := .slice b m d) rfl; have q3 := LYC.out.c 0 (v := .bool t) rfl; have q4 := LYC.out.c 1 (v := .slice a' n' c') rfl; have q5 := LYC.out.c 2 (v := .slice b' m' d') rfl; have IY := hid i1; obtain ⟨ay, cy, bby, ddy, rfl, rfl⟩ := i1.form; clear i1 b1) | (go_at_call 33; (with_reducible refine (KY.out _ (YC.out.old (below_new' (o := .cells #[.bool false, .slice none 0 0, .slice none 0 0] 27)))).mono ?_); rintro e wy ⟨vy, uy, rfl, i1, b1⟩; have NZ := hid ((LocA.new (w := wx) (T := 27) (cs := #[.bool false, .slice none 0 0, .slice none 0 0])).old b1); have hNZ : w2.heap.size ≤ wx.heap.size := CC.out.size; have LXC := hid (LXC.out.new1 (o := .cells #[.bool false, .slice none 0 0, .slice none 0 0] 27)); have XC := hid (XC.out.old (below_new' (o := .cells #[.bool false, .slice none 0 0, .slice none 0 0] 27))); have LYC := hid (LYC.out.new1 (o := .cells #[.bool false, .slice none 0 0, .slice none 0 0] 27)); have YC := hid (YC.out.old (below_new' (o := .cells #[.bool false, .slice none 0 0, .slice none 0 0] 27))); have IX := hid (IX.out.old (below_new' (o := .cells #[.bool false, .slice none 0 0, .slice none 0 0] 27))); have CC := hid (CC.out.alloc CC.out.size (.cells #[.bool false, .slice none 0 0, .slice none 0 0] 27)); have IX := hid (IX.out.old b1); have CC := hid (CC.out.trans (b1.mono CC.out.size)); have YC := hid (YC.out.old b1); have LYC := hid (LYC.out.old b1); have XC := hid (XC.out.old b1); have LXC := hid (LXC.out.old b1); have q0 := LXC.out.c 0 (v := .bool s) rfl; have q1 := LXC.out.c 1 (v := .slice a n c) rfl; have q2 := LXC.out.c 2 (v := .slice b m d) rfl; have q3 := LYC.out.c 0 (v := .bool t) rfl; have q4 := LYC.out.c 1 (v := .slice a' n' c') rfl; have q5 := LYC.out.c 2 (v := .slice b' m' d') rfl; have IY := hid i1; obtain ⟨ay, cy, bby, ddy, rfl, rfl⟩ := i1.form; clear i1 b1) | (go_at_call 39; (with_reducible refine (KS.out _ _ _ _ _ (IX.out.rl (by omega) (by omega)) (IY.out.rl (by omega) (by omega))).mono ?_); rintro e wf ⟨vf, uf, rfl, i1, b1⟩; (try (have hNB := NZ.out.lt; have NZ := hid (NZ.out.old b1); have f0 := NZ.out.f 0; have f1 := NZ.out.f 1; have f2 := NZ.out.f 2; have p0 := NZ.out.c 0 rfl; have p1 := NZ.out.c 1 rfl; have p2 := NZ.out.c 2 rfl)); have hsB := CC.out.size; have CC := hid (CC.out.trans (b1.mono CC.out.size)); have LXC := hid (LXC.out.old b1); have LYC := hid (LYC.out.old b1); have q0 := LXC.out.c 0 (v := .bool s) rfl; have q1 := LXC.out.c 1 (v := .slice a n c) rfl; have q2 := LXC.out.c 2 (v := .slice b m d) rfl; have q3 := LYC.out.c 0 (v := .bool t) rfl; have q4 := LYC.out.c 1 (v := .slice a' n' c') rfl; have q5 := LYC.out.c 2 (v := .slice b' m' d') rfl; have IR := hid i1; obtain ⟨af, cf, bf, df, rfl, rfl⟩ := i1.form; clear i1 b1) | (go_at_call 39; (with_reducible refine (KS.out _ _ _ _ _ ((IX.out.old (below_new' (w := wx) (o := .cells #[.bool false, .slice none 0 0, .slice none 0 0] 27))).rl (by omega) (by omega)) ((IY.out.old (below_new' (w := wx) (o := .cells #[.bool false, .slice none 0 0, .slice none 0 0] 27))).rl (by omega) (by omega))).mono ?_); rintro e wf ⟨vf, uf, rfl, i1, b1⟩; have hNZ : w2.heap.size ≤ wx.heap.size := CC.out.size; have NZ := hid (LocA.new (w := wx) (T := 27) (cs := #[.bool false, .slice none 0 0, .slice none 0 0])); have LXC := hid (LXC.out.new1 (o := .cells #[.bool false, .slice none 0 0, .slice none 0 0] 27)); have LYC := hid (LYC.out.new1 (o := .cells #[.bool false, .slice none 0 0, .slice none 0 0] 27)); have CC := hid (CC.out.alloc CC.out.size (.cells #[.bool false, .slice none 0 0, .slice none 0 0] 27)); have hNB := NZ.out.lt; have NZ := hid (NZ.out.old b1); have f0 := NZ.out.f 0; have f1 := NZ.out.f 1; have f2 := NZ.out.f 2; have p0 := NZ.out.c 0 rfl; have p1 := NZ.out.c 1 rfl; have p2 := NZ.out.c 2 rfl; have hsB := CC.out.size; have CC := hid (CC.out.trans (b1.mono CC.out.size)); have LXC := hid (LXC.out.old b1); have LYC := hid (LYC.out.old b1); have q0 := LXC.out.c 0 (v := .bool s) rfl; have q1 := LXC.out.c 1 (v := .slice a n c) rfl; have q2 := LXC.out.c 2 (v := .slice b m d) rfl; have q3 := LYC.out.c 0 (v := .bool t) rfl; have q4 := LYC.out.c 1 (v := .slice a' n' c') rfl; have q5 := LYC.out.c 2 (v := .slice b' m' d') rfl; have IR := hid i1; obtain ⟨af, cf, bf, df, rfl, rfl⟩ := i1.form; clear i1 b1) | (go_at_call 39; (with_reducible refine (KS.out _ _ _ _ _ ((IX.out.old (below_new' (w := wy) (o := .cells #[.bool false, .slice none 0 0, .slice none 0 0] 27))).rl (by omega) (by omega)) ((IY.out.old (below_new' (w := wy) (o := .cells #[.bool false, .slice none 0 0, .slice none 0 0] 27))).rl (by omega) (by omega))).mono ?_); rintro e wf ⟨vf, uf, rfl, i1, b1⟩; have hNZ : w2.heap.size ≤ wy.heap.size := CC.out.size; have NZ := hid (LocA.new (w := wy) (T := 27) (cs := #[.bool false, .slice none 0 0, .slice none 0 0])); have LXC := hid (LXC.out.new1 (o := .cells #[.bool false, .slice none 0 0, .slice none 0 0] 27)); have LYC := hid (LYC.out.new1 (o := .cells #[.bool false, .slice none 0 0, .slice none 0 0] 27)); have CC := hid (CC.out.alloc CC.out.size (.cells #[.bool false, .slice none 0 0, .slice none 0 0] 27)); have hNB := NZ.out.lt; have NZ := hid (NZ.out.old b1); have f0 := NZ.out.f 0; have f1 := NZ.out.f 1; have f2 := NZ.out.f 2; have p0 := NZ.out.c 0 rfl; have p1 := NZ.out.c 1 rfl; have p2 := NZ.out.c 2 rfl; have hsB := CC.out.size; have CC := hid (CC.out.trans (b1.mono CC.out.size)); have LXC := hid (LXC.out.old b1); have LYC := hid (LYC.out.old b1); have q0 := LXC.out.c 0 (v := .bool s) rfl; have q1 := LXC.out.c 1 (v := .slice a n c) rfl; have q2 := LXC.out.c 2 (v := .slice b m d) rfl; have q3 := LYC.out.c 0 (v := .bool t) rfl; have q4 := LYC.out.c 1 (v := .slice a' n' c') rfl; have q5 := LYC.out.c 2 (v := .slice b' m' d') rfl; have IR := hid i1; obtain ⟨af, cf, bf, df, rfl, rfl⟩ := i1.form; clear i1 b1))
    all_goals
      go_wp2_with fail
      go_meet
      first | with_reducible exact LaidRW_a IR.out hsB CC.out | exact LaidRW_b (by decide) NZ.out (by omega) hNB IR.out CC.out
  case rest =>
    generalize wc = w3 at hcut ⊢
    obtain ⟨g3, a3, c3, b3, d3, l3, h3, rfl, hL, hO, x1, x2, x3, x4, x5, b1⟩ := hcut
    have LV := hid hL
    have V := hid hO
    have t3 : w2.heap.size ≤ w3.heap.size := b1.size
    have X := hid (X.out.old b1)
    have LX := hid (LX.out.old b1)
    have Y := hid (Y.out.old b1)
    have LY := hid (LY.out.old b1)
    have B := hid (B.out.trans (b1.mono B.out.size))
    clear b1 hL hO
    have q0 := LX.out.c 0 (v := .bool s) rfl
    have q1 := LX.out.c 1 (v := .slice a n c) rfl
    have q2 := LX.out.c 2 (v := .slice b m d) rfl
    go_wp2_with fail
    (with_reducible refine (KX.out _ X.out).mono ?_)
    clear q0 q1 q2
    rintro e w4 ⟨v4, u4, rfl, i1, b1⟩
    have t4 : w3.heap.size ≤ w4.heap.size := by have := b1.size; omega
    have O1 := hid (ROb.at (lo := w3.heap.size) i1 (by simp))
    have X := hid (X.out.old b1)
    have LX := hid (LX.out.old b1)
    have Y := hid (Y.out.old b1)
    have LY := hid (LY.out.old b1)
    have V := hid (V.out.old b1)
    have LV := hid (LV.out.old b1)
    have B := hid (B.out.trans (b1.mono B.out.size))
    obtain ⟨a4, c4, b4, d4, rfl, rfl⟩ := i1.form
    clear i1 b1
    have X := hid (X.out.old (below_new' (o := .cells #[.bool s, .slice a4 A.length c4, .slice b4 D.length d4] 27)))
    have LX := hid (LX.out.old (below_new' (o := .cells #[.bool s, .slice a4 A.length c4, .slice b4 D.length d4] 27)))
    have Y := hid (Y.out.old (below_new' (o := .cells #[.bool s, .slice a4 A.length c4, .slice b4 D.length d4] 27)))
    have LY := hid (LY.out.old (below_new' (o := .cells #[.bool s, .slice a4 A.length c4, .slice b4 D.length d4] 27)))
    have V := hid (V.out.old (below_new' (o := .cells #[.bool s, .slice a4 A.length c4, .slice b4 D.length d4] 27)))
    have LV := hid (LV.out.old (below_new' (o := .cells #[.bool s, .slice a4 A.length c4, .slice b4 D.length d4] 27)))
    have O1 := hid (O1.out.old (below_new' (o := .cells #[.bool s, .slice a4 A.length c4, .slice b4 D.length d4] 27)))
    have B := hid (B.out.alloc B.out.size (.cells #[.bool s, .slice a4 A.length c4, .slice b4 D.length d4] 27))
    have LO1 := hid (LocA.new (w := w4) (T := 27) (cs := #[.bool s, .slice a4 A.length c4, .slice b4 D.length d4]))
    have q0 := LY.out.c 0 (v := .bool t) rfl
    have q1 := LY.out.c 1 (v := .slice a' n' c') rfl
    have q2 := LY.out.c 2 (v := .slice b' m' d') rfl
    go_wp2_with fail
    (with_reducible refine (KY.out _ Y.out).mono ?_)
    clear q0 q1 q2
    rintro e w5 ⟨v5, u5, rfl, i1, b1⟩
    have t5 : w4.heap.size + 1 ≤ w5.heap.size := by have := b1.size; simp at this; omega
    have O2 := hid (ROb.at (lo := w4.heap.size + 1) i1 (by simp))
    have X := hid (X.out.old b1)
    have LX := hid (LX.out.old b1)
    have Y := hid (Y.out.old b1)
    have LY := hid (LY.out.old b1)
    have V := hid (V.out.old b1)
    have LV := hid (LV.out.old b1)
    have O1 := hid (O1.out.old b1)
    have LO1 := hid (LO1.out.old b1)
    have B := hid (B.out.trans (b1.mono B.out.size))
    obtain ⟨a5, c5, b5, d5, rfl, rfl⟩ := i1.form
    clear i1 b1
    have X := hid (X.out.old (below_new' (o := .cells #[.bool t, .slice a5 A'.length c5, .slice b5 D'.length d5] 27)))
    have LX := hid (LX.out.old (below_new' (o := .cells #[.bool t, .slice a5 A'.length c5, .slice b5 D'.length d5] 27)))
    have Y := hid (Y.out.old (below_new' (o := .cells #[.bool t, .slice a5 A'.length c5, .slice b5 D'.length d5] 27)))
    have LY := hid (LY.out.old (below_new' (o := .cells #[.bool t, .slice a5 A'.length c5, .slice b5 D'.length d5] 27)))
    have V := hid (V.out.old (below_new' (o := .cells #[.bool t, .slice a5 A'.length c5, .slice b5 D'.length d5] 27)))
    have LV := hid (LV.out.old (below_new' (o := .cells #[.bool t, .slice a5 A'.length c5, .slice b5 D'.length d5] 27)))
    have O1 := hid (O1.out.old (below_new' (o := .cells #[.bool t, .slice a5 A'.length c5, .slice b5 D'.length d5] 27)))
    have LO1 := hid (LO1.out.old (below_new' (o := .cells #[.bool t, .slice a5 A'.length c5, .slice b5 D'.length d5] 27)))
    have O2 := hid (O2.out.old (below_new' (o := .cells #[.bool t, .slice a5 A'.length c5, .slice b5 D'.length d5] 27)))
    have B := hid (B.out.alloc B.out.size (.cells #[.bool t, .slice a5 A'.length c5, .slice b5 D'.length d5] 27))
    have LO2 := hid (LocA.new (w := w5) (T := 27) (cs := #[.bool t, .slice a5 A'.length c5, .slice b5 D'.length d5]))
    have q0 := LO1.out.c 0 (v := .bool s) rfl
    have q1 := LO1.out.c 1 (v := .slice a4 A.length c4) rfl
    have q2 := LO1.out.c 2 (v := .slice b4 D.length d4) rfl
    have q3 := LO2.out.c 0 (v := .bool t) rfl
    have q4 := LO2.out.c 1 (v := .slice a5 A'.length c5) rfl
    have q5 := LO2.out.c 2 (v := .slice b5 D'.length d5) rfl
    go_wp2_with fail
    (with_reducible refine (KI.out _ _ _ _ _ (O1.out.rl (by omega) (by omega)) (O2.out.rl (by omega) (by omega))).mono ?_)
    clear q0 q1 q2 q3 q4 q5
    rintro e w6 ⟨v6, u6, rfl, i1, b1⟩
    have t6 : w5.heap.size + 1 ≤ w6.heap.size := by have := b1.size; simp at this; omega
    have G := hid (ROb.at (lo := w5.heap.size + 1) i1 (by simp))
    have X := hid (X.out.old b1)
    have LX := hid (LX.out.old b1)
    have Y := hid (Y.out.old b1)
    have LY := hid (LY.out.old b1)
    have V := hid (V.out.old b1)
    have LV := hid (LV.out.old b1)
    have O1 := hid (O1.out.old b1)
    have LO1 := hid (LO1.out.old b1)
    have O2 := hid (O2.out.old b1)
    have LO2 := hid (LO2.out.old b1)
    have B := hid (B.out.trans (b1.mono B.out.size))
    obtain ⟨a6, c6, b6, d6, rfl, rfl⟩ := i1.form
    clear i1 b1
    have X := hid (X.out.old (below_new' (o := .cells #[.bool rs, .slice a6 R1.length c6, .slice b6 R2.length d6] 27)))
    have LX := hid (LX.out.old (below_new' (o := .cells #[.bool rs, .slice a6 R1.length c6, .slice b6 R2.length d6] 27)))
    have Y := hid (Y.out.old (below_new' (o := .cells #[.bool rs, .slice a6 R1.length c6, .slice b6 R2.length d6] 27)))
    have LY := hid (LY.out.old (below_new' (o := .cells #[.bool rs, .slice a6 R1.length c6, .slice b6 R2.length d6] 27)))
    have V := hid (V.out.old (below_new' (o := .cells #[.bool rs, .slice a6 R1.length c6, .slice b6 R2.length d6] 27)))
    have LV := hid (LV.out.old (below_new' (o := .cells #[.bool rs, .slice a6 R1.length c6, .slice b6 R2.length d6] 27)))
    have O1 := hid (O1.out.old (below_new' (o := .cells #[.bool rs, .slice a6 R1.length c6, .slice b6 R2.length d6] 27)))
    have LO1 := hid (LO1.out.old (below_new' (o := .cells #[.bool rs, .slice a6 R1.length c6, .slice b6 R2.length d6] 27)))
    have O2 := hid (O2.out.old (below_new' (o := .cells #[.bool rs, .slice a6 R1.length c6, .slice b6 R2.length d6] 27)))
    have LO2 := hid (LO2.out.old (below_new' (o := .cells #[.bool rs, .slice a6 R1.length c6, .slice b6 R2.length d6] 27)))
    have G := hid (G.out.old (below_new' (o := .cells #[.bool rs, .slice a6 R1.length c6, .slice b6 R2.length d6] 27)))
    have B := hid (B.out.alloc B.out.size (.cells #[.bool rs, .slice a6 R1.length c6, .slice b6 R2.length d6] 27))
    have LG := hid (LocA.new (w := w6) (T := 27) (cs := #[.bool rs, .slice a6 R1.length c6, .slice b6 R2.length d6]))
    have q0 := LG.out.c 0 (v := .bool rs) rfl
    have q1 := LG.out.c 1 (v := .slice a6 R1.length c6) rfl
    have q2 := LG.out.c 2 (v := .slice b6 R2.length d6) rfl
    have q3 := LV.out.c 0 (v := .bool rs) rfl
    have q4 := LV.out.c 1 (v := .slice a3 R1.length c3) rfl
    have q5 := LV.out.c 2 (v := .slice b3 R2.length d3) rfl
    go_wp2_with fail
    (with_reducible refine (eqRat_w _ _ _ _ _ R1 R2 _ _ _ _ (by omega) (by omega) _ G.out.w V.out.w).mono ?_)
    clear q0 q1 q2 q3 q4 q5
    rintro e w7 ⟨rfl, b1⟩
    have t7 : w6.heap.size + 1 ≤ w7.heap.size := by have := b1.size; simp at this; omega
    have X := hid (X.out.old b1)
    have LX := hid (LX.out.old b1)
    have Y := hid (Y.out.old b1)
    have LY := hid (LY.out.old b1)
    have V := hid (V.out.old b1)
    have LV := hid (LV.out.old b1)
    have O1 := hid (O1.out.old b1)
    have LO1 := hid (LO1.out.old b1)
    have O2 := hid (O2.out.old b1)
    have LO2 := hid (LO2.out.old b1)
    have G := hid (G.out.old b1)
    have LG := hid (LG.out.old b1)
    have B := hid (B.out.trans (b1.mono B.out.size))
    clear b1
    go_wp2_with fail
    have X := hid (X.out.old (Below_drew1 (Below.refl _ _)))
    have LX := hid (LX.out.old (Below_drew1 (Below.refl _ _)))
    have Y := hid (Y.out.old (Below_drew1 (Below.refl _ _)))
    have LY := hid (LY.out.old (Below_drew1 (Below.refl _ _)))
    have V := hid (V.out.old (Below_drew1 (Below.refl _ _)))
    have LV := hid (LV.out.old (Below_drew1 (Below.refl _ _)))
    have O1 := hid (O1.out.old (Below_drew1 (Below.refl _ _)))
    have LO1 := hid (LO1.out.old (Below_drew1 (Below.refl _ _)))
    have O2 := hid (O2.out.old (Below_drew1 (Below.refl _ _)))
    have LO2 := hid (LO2.out.old (Below_drew1 (Below.refl _ _)))
    have G := hid (G.out.old (Below_drew1 (Below.refl _ _)))
    have LG := hid (LG.out.old (Below_drew1 (Below.refl _ _)))
    have B := hid (Below_drew1 B.out)
    have q0 := LO1.out.c 0 (v := .bool s) rfl
    have q1 := LO1.out.c 1 (v := .slice a4 A.length c4) rfl
    have q2 := LO1.out.c 2 (v := .slice b4 D.length d4) rfl
    have q3 := LX.out.c 0 (v := .bool s) rfl
    have q4 := LX.out.c 1 (v := .slice a n c) rfl
    have q5 := LX.out.c 2 (v := .slice b m d) rfl
    go_region_held3 (fun w' => w'.cell? ⟨w4.heap.size, 0, none⟩ = some (.bool s) ∧ w'.cell? ⟨w4.heap.size, 1, none⟩ = some (.slice a4 A.length c4) ∧ w'.cell? ⟨w4.heap.size, 2, none⟩ = some (.slice b4 D.length d4) ∧ w'.cell? ⟨w.heap.size, 0, none⟩ = some (.bool s) ∧ w'.cell? ⟨w.heap.size, 1, none⟩ = some (.slice a n c) ∧ w'.cell? ⟨w.heap.size, 2, none⟩ = some (.slice b m d)) (first | exact ⟨q0, q1, q2, q3, q4, q5⟩) (first | (go_at_call 33; (with_reducible refine (KX.out _ X.out).mono ?_); rintro e w8 ⟨v8, u8, rfl, i1, b1⟩; have t8 : w7.heap.size ≤ w8.heap.size := (by have := b1.size; first | exact this | omega | (simp at this; omega)); have OC := hid i1; have X := hid (X.out.old b1); have LX := hid (LX.out.old b1); have Y := hid (Y.out.old b1); have LY := hid (LY.out.old b1); have V := hid (V.out.old b1); have LV := hid (LV.out.old b1); have O1 := hid (O1.out.old b1); have LO1 := hid (LO1.out.old b1); have O2 := hid (O2.out.old b1); have LO2 := hid (LO2.out.old b1); have G := hid (G.out.old b1); have LG := hid (LG.out.old b1); have B := hid (B.out.trans (b1.mono B.out.size)); have q0 := LO1.out.c 0 (v := .bool s) rfl; have q1 := LO1.out.c 1 (v := .slice a4 A.length c4) rfl; have q2 := LO1.out.c 2 (v := .slice b4 D.length d4) rfl; have q3 := LX.out.c 0 (v := .bool s) rfl; have q4 := LX.out.c 1 (v := .slice a n c) rfl; have q5 := LX.out.c 2 (v := .slice b m d) rfl; obtain ⟨a8, c8, b8, d8, rfl, rfl⟩ := i1.form; clear i1 b1) | (go_at_call 34; (with_reducible refine (eqRat_w _ _ _ _ _ A D _ _ _ _ (by omega) (by omega) _ O1.out.w OC.out.w).mono ?_); rintro e w9 ⟨rfl, b1⟩; have t9 : w8.heap.size ≤ w9.heap.size := (by have := b1.size; first | exact this | omega | (simp at this; omega)); have X := hid (X.out.old b1); have LX := hid (LX.out.old b1); have Y := hid (Y.out.old b1); have LY := hid (LY.out.old b1); have V := hid (V.out.old b1); have LV := hid (LV.out.old b1); have O1 := hid (O1.out.old b1); have LO1 := hid (LO1.out.old b1); have O2 := hid (O2.out.old b1); have LO2 := hid (LO2.out.old b1); have G := hid (G.out.old b1); have LG := hid (LG.out.old b1); have B := hid (B.out.trans (b1.mono B.out.size)); have q0 := LO1.out.c 0 (v := .bool s) rfl; have q1 := LO1.out.c 1 (v := .slice a4 A.length c4) rfl; have q2 := LO1.out.c 2 (v := .slice b4 D.length d4) rfl; have q3 := LX.out.c 0 (v := .bool s) rfl; have q4 := LX.out.c 1 (v := .slice a n c) rfl; have q5 := LX.out.c 2 (v := .slice b m d) rfl; clear b1))
    clear q0 q1 q2 q3 q4 q5
    go_wp2_with fail
    have X := hid (X.out.old (Below_drew1 (Below.refl _ _)))
    have LX := hid (LX.out.old (Below_drew1 (Below.refl _ _)))
    have Y := hid (Y.out.old (Below_drew1 (Below.refl _ _)))
    have LY := hid (LY.out.old (Below_drew1 (Below.refl _ _)))
    have V := hid (V.out.old (Below_drew1 (Below.refl _ _)))
    have LV := hid (LV.out.old (Below_drew1 (Below.refl _ _)))
    have O1 := hid (O1.out.old (Below_drew1 (Below.refl _ _)))
    have LO1 := hid (LO1.out.old (Below_drew1 (Below.refl _ _)))
    have O2 := hid (O2.out.old (Below_drew1 (Below.refl _ _)))
    have LO2 := hid (LO2.out.old (Below_drew1 (Below.refl _ _)))
    have G := hid (G.out.old (Below_drew1 (Below.refl _ _)))
    have LG := hid (LG.out.old (Below_drew1 (Below.refl _ _)))
    have B := hid (Below_drew1 B.out)
    have q0 := LO2.out.c 0 (v := .bool t) rfl
    have q1 := LO2.out.c 1 (v := .slice a5 A'.length c5) rfl
    have q2 := LO2.out.c 2 (v := .slice b5 D'.length d5) rfl
    have q3 := LY.out.c 0 (v := .bool t) rfl
    have q4 := LY.out.c 1 (v := .slice a' n' c') rfl
    have q5 := LY.out.c 2 (v := .slice b' m' d') rfl
    go_region_held3 (fun w' => w'.cell? ⟨w5.heap.size, 0, none⟩ = some (.bool t) ∧ w'.cell? ⟨w5.heap.size, 1, none⟩ = some (.slice a5 A'.length c5) ∧ w'.cell? ⟨w5.heap.size, 2, none⟩ = some (.slice b5 D'.length d5) ∧ w'.cell? ⟨w.heap.size + 1, 0, none⟩ = some (.bool t) ∧ w'.cell? ⟨w.heap.size + 1, 1, none⟩ = some (.slice a' n' c') ∧ w'.cell? ⟨w.heap.size + 1, 2, none⟩ = some (.slice b' m' d')) (first | exact ⟨q0, q1, q2, q3, q4, q5⟩) (first | (go_at_call 33; (with_reducible refine (KY.out _ Y.out).mono ?_); rintro e w10 ⟨v10, u10, rfl, i1, b1⟩; have t10 : w9.heap.size ≤ w10.heap.size := (by have := b1.size; first | exact this | omega | (simp at this; omega)); have OC := hid i1; have X := hid (X.out.old b1); have LX := hid (LX.out.old b1); have Y := hid (Y.out.old b1); have LY := hid (LY.out.old b1); have V := hid (V.out.old b1); have LV := hid (LV.out.old b1); have O1 := hid (O1.out.old b1); have LO1 := hid (LO1.out.old b1); have O2 := hid (O2.out.old b1); have LO2 := hid (LO2.out.old b1); have G := hid (G.out.old b1); have LG := hid (LG.out.old b1); have B := hid (B.out.trans (b1.mono B.out.size)); have q0 := LO2.out.c 0 (v := .bool t) rfl; have q1 := LO2.out.c 1 (v := .slice a5 A'.length c5) rfl; have q2 := LO2.out.c 2 (v := .slice b5 D'.length d5) rfl; have q3 := LY.out.c 0 (v := .bool t) rfl; have q4 := LY.out.c 1 (v := .slice a' n' c') rfl; have q5 := LY.out.c 2 (v := .slice b' m' d') rfl; obtain ⟨a10, c10, b10, d10, rfl, rfl⟩ := i1.form; clear i1 b1) | (go_at_call 34; (with_reducible refine (eqRat_w _ _ _ _ _ A' D' _ _ _ _ (by omega) (by omega) _ O2.out.w OC.out.w).mono ?_); rintro e w11 ⟨rfl, b1⟩; have t11 : w10.heap.size ≤ w11.heap.size := (by have := b1.size; first | exact this | omega | (simp at this; omega)); have X := hid (X.out.old b1); have LX := hid (LX.out.old b1); have Y := hid (Y.out.old b1); have LY := hid (LY.out.old b1); have V := hid (V.out.old b1); have LV := hid (LV.out.old b1); have O1 := hid (O1.out.old b1); have LO1 := hid (LO1.out.old b1); have O2 := hid (O2.out.old b1); have LO2 := hid (LO2.out.old b1); have G := hid (G.out.old b1); have LG := hid (LG.out.old b1); have B := hid (B.out.trans (b1.mono B.out.size)); have q0 := LO2.out.c 0 (v := .bool t) rfl; have q1 := LO2.out.c 1 (v := .slice a5 A'.length c5) rfl; have q2 := LO2.out.c 2 (v := .slice b5 D'.length d5) rfl; have q3 := LY.out.c 0 (v := .bool t) rfl; have q4 := LY.out.c 1 (v := .slice a' n' c') rfl; have q5 := LY.out.c 2 (v := .slice b' m' d') rfl; clear b1))
    clear q0 q1 q2 q3 q4 q5
    have q0 := LO1.out.c 0 (v := .bool s) rfl
    have q1 := LO1.out.c 1 (v := .slice a4 A.length c4) rfl
    have q2 := LO1.out.c 2 (v := .slice b4 D.length d4) rfl
    go_wp2_with fail
    (with_reducible refine (markRat_obj _ _ _ A D (1) _ _ (by omega) (by omega) (by omega) (by omega) _ O1.out).mono ?_)
    clear q0 q1 q2
    rintro e w12 ⟨rfl, o1, b1⟩
    have t12 : w11.heap.size ≤ w12.heap.size := by have := b1.size; omega
    have O1 := hid o1
    have X := hid (X.out.onlyG b1 (by omega))
    have LX := hid (LX.out.onlyG b1 (by omega))
    have Y := hid (Y.out.onlyG b1 (by omega))
    have LY := hid (LY.out.onlyG b1 (by omega))
    have V := hid (V.out.onlyG b1 (by omega))
    have LV := hid (LV.out.onlyG b1 (by omega))
    have LO1 := hid (LO1.out.onlyG b1 (by omega))
    have O2 := hid (O2.out.onlyG b1 (by omega))
    have LO2 := hid (LO2.out.onlyG b1 (by omega))
    have G := hid (G.out.onlyG b1 (by omega))
    have LG := hid (LG.out.onlyG b1 (by omega))
    have B := hid (in_onlyG B.out b1 (by omega))
    clear o1 b1
    have q0 := LO2.out.c 0 (v := .bool t) rfl
    have q1 := LO2.out.c 1 (v := .slice a5 A'.length c5) rfl
    have q2 := LO2.out.c 2 (v := .slice b5 D'.length d5) rfl
    go_wp2_with fail
    (with_reducible refine (markRat_obj _ _ _ A' D' (1 + (A.length : Int) + (D.length : Int)) _ _ (by omega) (by omega) (by omega) (by omega) _ O2.out).mono ?_)
    clear q0 q1 q2
    rintro e w13 ⟨rfl, o1, b1⟩
    have t13 : w12.heap.size ≤ w13.heap.size := by have := b1.size; omega
    have O2 := hid o1
    have X := hid (X.out.onlyG b1 (by omega))
    have LX := hid (LX.out.onlyG b1 (by omega))
    have Y := hid (Y.out.onlyG b1 (by omega))
    have LY := hid (LY.out.onlyG b1 (by omega))
    have V := hid (V.out.onlyG b1 (by omega))
    have LV := hid (LV.out.onlyG b1 (by omega))
    have LO2 := hid (LO2.out.onlyG b1 (by omega))
    have G := hid (G.out.onlyG b1 (by omega))
    have LG := hid (LG.out.onlyG b1 (by omega))
    have B := hid (in_onlyG B.out b1 (by omega))
    clear o1 b1
    have q0 := LG.out.c 0 (v := .bool rs) rfl
    have q1 := LG.out.c 1 (v := .slice a6 R1.length c6) rfl
    have q2 := LG.out.c 2 (v := .slice b6 R2.length d6) rfl
    have q3 := LV.out.c 0 (v := .bool rs) rfl
    have q4 := LV.out.c 1 (v := .slice a3 R1.length c3) rfl
    have q5 := LV.out.c 2 (v := .slice b3 R2.length d3) rfl
    go_wp2_with fail
    (with_reducible refine (eqRat_w _ _ _ _ _ R1 R2 _ _ _ _ (by omega) (by omega) _ G.out.w V.out.w).mono ?_)
    clear q0 q1 q2 q3 q4 q5
    rintro e w14 ⟨rfl, b1⟩
    have t14 : w13.heap.size ≤ w14.heap.size := by have := b1.size; omega
    have X := hid (X.out.old b1)
    have LX := hid (LX.out.old b1)
    have Y := hid (Y.out.old b1)
    have LY := hid (LY.out.old b1)
    have V := hid (V.out.old b1)
    have LV := hid (LV.out.old b1)
    have G := hid (G.out.old b1)
    have LG := hid (LG.out.old b1)
    have B := hid (B.out.trans (b1.mono B.out.size))
    clear b1
    have q0 := LG.out.c 0 (v := .bool rs) rfl
    have q1 := LG.out.c 1 (v := .slice a6 R1.length c6) rfl
    have q2 := LG.out.c 2 (v := .slice b6 R2.length d6) rfl
    go_wp2_with fail
    (with_reducible refine (markRat_obj _ _ _ R1 R2 (1) _ _ (by omega) (by omega) (by omega) (by omega) _ G.out).mono ?_)
    clear q0 q1 q2
    rintro e w15 ⟨rfl, o1, b1⟩
    have t15 : w14.heap.size ≤ w15.heap.size := by have := b1.size; omega
    have G := hid o1
    have X := hid (X.out.onlyG b1 (by omega))
    have LX := hid (LX.out.onlyG b1 (by omega))
    have Y := hid (Y.out.onlyG b1 (by omega))
    have LY := hid (LY.out.onlyG b1 (by omega))
    have V := hid (V.out.onlyG b1 (by omega))
    have LV := hid (LV.out.onlyG b1 (by omega))
    have LG := hid (LG.out.onlyG b1 (by omega))
    have B := hid (in_onlyG B.out b1 (by omega))
    clear o1 b1
    have q0 := LG.out.c 0 (v := .bool rs) rfl
    have q1 := LG.out.c 1 (v := .slice a6 R1.length c6) rfl
    have q2 := LG.out.c 2 (v := .slice b6 R2.length d6) rfl
    go_wp2_with fail
    (with_reducible refine (heldRat_obj _ _ _ R1.length R2.length 1 _ _ (by omega) (by omega) (by omega) (by omega) _ G.out).mono ?_)
    clear q0 q1 q2
    rintro e w16 ⟨rfl, b1⟩
    have t16 : w15.heap.size ≤ w16.heap.size := by have := b1.size; omega
    have X := hid (X.out.old b1)
    have LX := hid (LX.out.old b1)
    have Y := hid (Y.out.old b1)
    have LY := hid (LY.out.old b1)
    have V := hid (V.out.old b1)
    have LV := hid (LV.out.old b1)
    have G := hid (G.out.old b1)
    have LG := hid (LG.out.old b1)
    have B := hid (B.out.trans (b1.mono B.out.size))
    clear b1
    go_upto_region 31 with fail
    go_cut [13] (fun sl wx => LaidRR 27 w16 rs R1 R2 sl wx)
    case first =>
      have XD := hid (X.out.old (Below_drew1 (Below.refl _ _)))
      have LXD := hid (LX.out.old (Below_drew1 (Below.refl _ _)))
      have XE := hid (X.out.old (Below_drew1 (below_new' (o := .cells #[.bool false, .slice none 0 0, .slice none 0 0] 27))))
      have LXE := hid (LX.out.old (Below_drew1 (below_new' (o := .cells #[.bool false, .slice none 0 0, .slice none 0 0] 27))))
      have YD := hid (Y.out.old (Below_drew1 (Below.refl _ _)))
      have LYD := hid (LY.out.old (Below_drew1 (Below.refl _ _)))
      have YE := hid (Y.out.old (Below_drew1 (below_new' (o := .cells #[.bool false, .slice none 0 0, .slice none 0 0] 27))))
      have LYE := hid (LY.out.old (Below_drew1 (below_new' (o := .cells #[.bool false, .slice none 0 0, .slice none 0 0] 27))))
      have CD := hid (show Below w16.heap.size w16 w16.drew from Below_drew1 (Below.refl _ _))
      have CE := hid (show Below w16.heap.size w16 (w16.alloc (.cells #[.bool false, .slice none 0 0, .slice none 0 0] 27)).drew from Below_drew1 below_new')
      have NE := hid (show LocA 27 (w16.alloc (.cells #[.bool false, .slice none 0 0, .slice none 0 0] 27)).drew w16.heap.size #[.bool false, .slice none 0 0, .slice none 0 0] from LocA.new)
      have hNW : w16.heap.size ≤ w16.heap.size := Nat.le_refl _
      have LTX := LX.out.lt
      have LTY := LY.out.lt
      have q0 := LXD.out.c 0 (v := .bool s) rfl
      have q1 := LXD.out.c 1 (v := .slice a n c) rfl
      have q2 := LXD.out.c 2 (v := .slice b m d) rfl
      have q3 := LYD.out.c 0 (v := .bool t) rfl
      have q4 := LYD.out.c 1 (v := .slice a' n' c') rfl
      have q5 := LYD.out.c 2 (v := .slice b' m' d') rfl
      have qE0 := LXE.out.c 0 (v := .bool s) rfl
      have qE1 := LXE.out.c 1 (v := .slice a n c) rfl
      have qE2 := LXE.out.c 2 (v := .slice b m d) rfl
      have qE3 := LYE.out.c 0 (v := .bool t) rfl
      have qE4 := LYE.out.c 1 (v := .slice a' n' c') rfl
      have qE5 := LYE.out.c 2 (v := .slice b' m' d') rfl
      go_region_held3 (fun w' => w'.cell? ⟨w.heap.size, 0, none⟩ = some (.bool s) ∧ w'.cell? ⟨w.heap.size, 1, none⟩ = some (.slice a n c) ∧ w'.cell? ⟨w.heap.size, 2, none⟩ = some (.slice b m d) ∧ w'.cell? ⟨w.heap.size + 1, 0, none⟩ = some (.bool t) ∧ w'.cell? ⟨w.heap.size + 1, 1, none⟩ = some (.slice a' n' c') ∧ w'.cell? ⟨w.heap.size + 1, 2, none⟩ = some (.slice b' m' d')) (first | with_reducible exact ⟨q0, q1, q2, q3, q4, q5⟩ | with_reducible exact ⟨qE0, qE1, qE2, qE3, qE4, qE5⟩ | ((with_reducible refine ⟨(LXC.out.new1).c 0 ?_, (LXC.out.new1).c 1 ?_, (LXC.out.new1).c 2 ?_, (LYC.out.new1).c 0 ?_, (LYC.out.new1).c 1 ?_, (LYC.out.new1).c 2 ?_⟩) <;> rfl) | ((with_reducible refine ⟨(cell_set3 (Nat.ne_of_lt ?_)).trans q0, (cell_set3 (Nat.ne_of_lt ?_)).trans q1, (cell_set3 (Nat.ne_of_lt ?_)).trans q2, (cell_set3 (Nat.ne_of_lt ?_)).trans q3, (cell_set3 (Nat.ne_of_lt ?_)).trans q4, (cell_set3 (Nat.ne_of_lt ?_)).trans q5⟩) <;> omega) | go_keep) (first | (go_at_call 33; (with_reducible refine (KX.out _ XD.out).mono ?_); rintro e wx ⟨vx, ux, rfl, i1, b1⟩; have CC := hid (CD.out.trans (b1.mono CD.out.size)); have XC := hid (XD.out.old b1); have LXC := hid (LXD.out.old b1); have YC := hid (YD.out.old b1); have LYC := hid (LYD.out.old b1); have q0 := LXC.out.c 0 (v := .bool s) rfl; have q1 := LXC.out.c 1 (v := .slice a n c) rfl; have q2 := LXC.out.c 2 (v := .slice b m d) rfl; have q3 := LYC.out.c 0 (v := .bool t) rfl; have q4 := LYC.out.c 1 (v := .slice a' n' c') rfl; have q5 := LYC.out.c 2 (v := .slice b' m' d') rfl; have IX := hid i1; obtain ⟨ax, cx, bbx, ddx, rfl, rfl⟩ := i1.form; clear i1 b1) | (go_at_call 33; (with_reducible refine (KX.out _ XE.out).mono ?_); rintro e wx ⟨vx, ux, rfl, i1, b1⟩; have CC := hid (CE.out.trans (b1.mono CE.out.size)); have NZ := hid (NE.out.old b1); have XC := hid (XE.out.old b1); have LXC := hid (LXE.out.old b1); have YC := hid (YE.out.old b1); have LYC := hid (LYE.out.old b1); have q0 := LXC.out.c 0 (v := .bool s) rfl; have q1 := LXC.out.c 1 (v := .slice a n c) rfl; have q2 := LXC.out.c 2 (v := .slice b m d) rfl; have q3 := LYC.out.c 0 (v := .bool t) rfl; have q4 := LYC.out.c 1 (v := .slice a' n' c') rfl; have q5 := LYC.out.c 2 (v := .slice b' m' d') rfl; have IX := hid i1; obtain ⟨ax, cx, bbx, ddx, rfl, rfl⟩ := i1.form; clear i1 b1) | (go_at_call 33; (with_reducible refine (KX.out _ XC.out).mono ?_); rintro e wx ⟨vx, ux, rfl, i1, b1⟩; (try have NZ := hid (NZ.out.old b1)); have IY := hid (IY.out.old b1); have CC := hid (CC.out.trans (b1.mono CC.out.size)); have XC := hid (XC.out.old b1); have LXC := hid (LXC.out.old b1); have YC := hid (YC.out.old b1); have LYC := hid (LYC.out.old b1); have q0 := LXC.out.c 0 (v := .bool s) rfl; have q1 := LXC.out.c 1 (v := .slice a n c) rfl; have q2 := LXC.out.c 2 (v := .slice b m d) rfl; have q3 := LYC.out.c 0 (v := .bool t) rfl; have q4 := LYC.out.c 1 (v := .slice a' n' c') rfl; have q5 := LYC.out.c 2 (v := .slice b' m' d') rfl; have IX := hid i1; obtain ⟨ax, cx, bbx, ddx, rfl, rfl⟩ := i1.form; clear i1 b1) | (go_at_call 33; (with_reducible refine (KX.out _ (XC.out.old (below_new' (o := .cells #[.bool false, .slice none 0 0, .slice none 0 0] 27)))).mono ?_); rintro e wx ⟨vx, ux, rfl, i1, b1⟩; have NZ := hid ((LocA.new (w := wy) (T := 27) (cs := #[.bool false, .slice none 0 0, .slice none 0 0])).old b1); have hNZ : w16.heap.size ≤ wy.heap.size := CC.out.size; have LXC := hid (LXC.out.new1 (o := .cells #[.bool false, .slice none 0 0, .slice none 0 0] 27)); have XC := hid (XC.out.old (below_new' (o := .cells #[.bool false, .slice none 0 0, .slice none 0 0] 27))); have LYC := hid (LYC.out.new1 (o := .cells #[.bool false, .slice none 0 0, .slice none 0 0] 27)); have YC := hid (YC.out.old (below_new' (o := .cells #[.bool false, .slice none 0 0, .slice none 0 0] 27))); have IY := hid (IY.out.old (below_new' (o := .cells #[.bool false, .slice none 0 0, .slice none 0 0] 27))); have CC := hid (CC.out.alloc CC.out.size (.cells #[.bool false, .slice none 0 0, .slice none 0 0] 27)); have IY := hid (IY.out.old b1); have CC := hid (CC.out.trans (b1.mono CC.out.size)); have XC := hid (XC.out.old b1); have LXC := hid (LXC.out.old b1); have YC := hid (YC.out.old b1); have LYC := hid (LYC.out.old b1); have q0 := LXC.out.c 0 (v := .bool s) rfl; have q1 := LXC.out.c 1 (v := .slice a n c) rfl; have q2 := LXC.out.c 2 (v := .slice b m d) rfl; have q3 := LYC.out.c 0 (v := .bool t) rfl; have q4 := LYC.out.c 1 (v := .slice a' n' c') rfl; have q5 := LYC.out.c 2 (v := .slice b' m' d') rfl; have IX := hid i1; obtain ⟨ax, cx, bbx, ddx, rfl, rfl⟩ := i1.form; clear i1 b1) | (go_at_call 33; (with_reducible refine (KY.out _ YD.out).mono ?_); rintro e wy ⟨vy, uy, rfl, i1, b1⟩; have CC := hid (CD.out.trans (b1.mono CD.out.size)); have YC := hid (YD.out.old b1); have LYC := hid (LYD.out.old b1); have XC := hid (XD.out.old b1); have LXC := hid (LXD.out.old b1); have q0 := LXC.out.c 0 (v := .bool s) rfl; have q1 := LXC.out.c 1 (v := .slice a n c) rfl; have q2 := LXC.out.c 2 (v := .slice b m d) rfl; have q3 := LYC.out.c 0 (v := .bool t) rfl; have q4 := LYC.out.c 1 (v := .slice a' n' c') rfl; have q5 := LYC.out.c 2 (v := .slice b' m' d') rfl; have IY := hid i1; obtain ⟨ay, cy, bby, ddy, rfl, rfl⟩ := i1.form; clear i1 b1) | (go_at_call 33; (with_reducible refine (KY.out _ YE.out).mono ?_); rintro e wy ⟨vy, uy, rfl, i1, b1⟩; have CC := hid (CE.out.trans (b1.mono CE.out.size)); have NZ := hid (NE.out.old b1); have YC := hid (YE.out.old b1); have LYC := hid (LYE.out.old b1); have XC := hid (XE.out.old b1); have LXC := hid (LXE.out.old b1); have q0 := LXC.out.c 0 (v := .bool s) rfl; have q1 := LXC.out.c 1 (v := .slice a n c) rfl; have q2 := LXC.out.c 2 (v := .slice b m d) rfl; have q3 := LYC.out.c 0 (v := .bool t) rfl; have q4 := LYC.out.c 1 (v := .slice a' n' c') rfl; have q5 := LYC.out.c 2 (v := .slice b' m' d') rfl; have IY := hid i1; obtain ⟨ay, cy, bby, ddy, rfl, rfl⟩ := i1.form; clear i1 b1) | (go_at_call 33; (with_reducible refine (KY.out _ YC.out).mono ?_); rintro e wy ⟨vy, uy, rfl, i1, b1⟩; (try have NZ := hid (NZ.out.old b1)); have IX := hid (IX.out.old b1); have CC := hid (CC.out.trans (b1.mono CC.out.size)); have YC := hid (YC.out.old b1); have LYC := hid (LYC.out.old b1); have XC := hid (XC.out.old b1); have LXC := hid (LXC.out.old b1); have q0 := LXC.out.c 0 (v := .bool s) rfl; have q1 := LXC.out.c 1 (v := .slice a n c) rfl; have q2 := LXC.out.c 2 (v := .slice b m d) rfl; have q3 := LYC.out.c 0 (v := .bool t) rfl; have q4 := LYC.out.c 1 (v := .slice a' n' c') rfl; have q5 := LYC.out.c 2 (v := .slice b' m' d') rfl; have IY := hid i1; obtain ⟨ay, cy, bby, ddy, rfl, rfl⟩ := i1.form; clear i1 b1) | (go_at_call 33; (with_reducible refine (KY.out _ (YC.out.old (below_new' (o := .cells #[.bool false, .slice none 0 0, .slice none 0 0] 27)))).mono ?_); rintro e wy ⟨vy, uy, rfl, i1, b1⟩; have NZ := hid ((LocA.new (w := wx) (T := 27) (cs := #[.bool false, .slice none 0 0, .slice none 0 0])).old b1); have hNZ : w16.heap.size ≤ wx.heap.size := CC.out.size; have LXC := hid (LXC.out.new1 (o := .cells #[.bool false, .slice none 0 0, .slice none 0 0] 27)); have XC := hid (XC.out.old (below_new' (o := .cells #[.bool false, .slice none 0 0, .slice none 0 0] 27))); have LYC := hid (LYC.out.new1 (o := .cells #[.bool false, .slice none 0 0, .slice none 0 0] 27)); have YC := hid (YC.out.old (below_new' (o := .cells #[.bool false, .slice none 0 0, .slice none 0 0] 27))); have IX := hid (IX.out.old (below_new' (o := .cells #[.bool false, .slice none 0 0, .slice none 0 0] 27))); have CC := hid (CC.out.alloc CC.out.size (.cells #[.bool false, .slice none 0 0, .slice none 0 0] 27)); have IX := hid (IX.out.old b1); have CC := hid (CC.out.trans (b1.mono CC.out.size)); have YC := hid (YC.out.old b1); have LYC := hid (LYC.out.old b1); have XC := hid (XC.out.old b1); have LXC := hid (LXC.out.old b1); have q0 := LXC.out.c 0 (v := .bool s) rfl; have q1 := LXC.out.c 1 (v := .slice a n c) rfl; have q2 := LXC.out.c 2 (v := .slice b m d) rfl; have q3 := LYC.out.c 0 (v := .bool t) rfl; have q4 := LYC.out.c 1 (v := .slice a' n' c') rfl; have q5 := LYC.out.c 2 (v := .slice b' m' d') rfl; have IY := hid i1; obtain ⟨ay, cy, bby, ddy, rfl, rfl⟩ := i1.form; clear i1 b1) | (go_at_call 26; (with_reducible refine (KI.out _ _ _ _ _ (IX.out.rl (by omega) (by omega)) (IY.out.rl (by omega) (by omega))).mono ?_); rintro e wf ⟨vf, uf, rfl, i1, b1⟩; (try (have hNB := NZ.out.lt; have NZ := hid (NZ.out.old b1); have f0 := NZ.out.f 0; have f1 := NZ.out.f 1; have f2 := NZ.out.f 2; have p0 := NZ.out.c 0 rfl; have p1 := NZ.out.c 1 rfl; have p2 := NZ.out.c 2 rfl)); have hsB := CC.out.size; have CC := hid (CC.out.trans (b1.mono CC.out.size)); have LXC := hid (LXC.out.old b1); have LYC := hid (LYC.out.old b1); have q0 := LXC.out.c 0 (v := .bool s) rfl; have q1 := LXC.out.c 1 (v := .slice a n c) rfl; have q2 := LXC.out.c 2 (v := .slice b m d) rfl; have q3 := LYC.out.c 0 (v := .bool t) rfl; have q4 := LYC.out.c 1 (v := .slice a' n' c') rfl; have q5 := LYC.out.c 2 (v := .slice b' m' d') rfl; have IR := hid i1; obtain ⟨af, cf, bf, df, rfl, rfl⟩ := i1.form; clear i1 b1) | (go_at_call 26; (with_reducible refine (KI.out _ _ _ _ _ ((IX.out.old (below_new' (w := wx) (o := .cells #[.bool false, .slice none 0 0, .slice none 0 0] 27))).rl (by omega) (by omega)) ((IY.out.old (below_new' (w := wx) (o := .cells #[.bool false, .slice none 0 0, .slice none 0 0] 27))).rl (by omega) (by omega))).mono ?_); rintro e wf ⟨vf, uf, rfl, i1, b1⟩; have hNZ : w16.heap.size ≤ wx.heap.size := CC.out.size; have NZ := hid (LocA.new (w := wx) (T := 27) (cs := #[.bool false, .slice none 0 0, .slice none 0 0])); have LXC := hid (LXC.out.new1 (o := .cells #[.bool false, .slice none 0 0, .slice none 0 0] 27)); have LYC := hid (LYC.out.new1 (o := .cells #[.bool false, .slice none 0 0, .slice none 0 0] 27)); have CC := hid (CC.out.alloc CC.out.size (.cells #[.bool false, .slice none 0 0, .slice none 0 0] 27)); have hNB := NZ.out.lt; have NZ := hid (NZ.out.old b1); have f0 := NZ.out.f 0; have f1 := NZ.out.f 1; have f2 := NZ.out.f 2; have p0 := NZ.out.c 0 rfl; have p1 := NZ.out.c 1 rfl; have p2 := NZ.out.c 2 rfl; have hsB := CC.out.size; have CC := hid (CC.out.trans (b1.mono CC.out.size)); have LXC := hid (LXC.out.old b1); have LYC := hid (LYC.out.old b1); have q0 := LXC.out.c 0 (v := .bool s) rfl; have q1 := LXC.out.c 1 (v := .slice a n c) rfl; have q2 := LXC.out.c 2 (v := .slice b m d) rfl; have q3 := LYC.out.c 0 (v := .bool t) rfl; have q4 := LYC.out.c 1 (v := .slice a' n' c') rfl; have q5 := LYC.out.c 2 (v := .slice b' m' d') rfl; have IR := hid i1; obtain ⟨af, cf, bf, df, rfl, rfl⟩ := i1.form; clear i1 b1) | (go_at_call 26; (with_reducible refine (KI.out _ _ _ _ _ ((IX.out.old (below_new' (w := wy) (o := .cells #[.bool false, .slice none 0 0, .slice none 0 0] 27))).rl (by omega) (by omega)) ((IY.out.old (below_new' (w := wy) (o := .cells #[.bool false, .slice none 0 0, .slice none 0 0] 27))).rl (by omega) (by omega))).mono ?_); rintro e wf ⟨vf, uf, rfl, i1, b1⟩; have hNZ : w16.heap.size ≤ wy.heap.size := CC.out.size; have NZ := hid (LocA.new (w := wy) (T := 27) (cs := #[.bool false, .slice none 0 0, .slice none 0 0])); have LXC := hid (LXC.out.new1 (o := .cells #[.bool false, .slice none 0 0, .slice none 0 0] 27)); have LYC := hid (LYC.out.new1 (o := .cells #[.bool false, .slice none 0 0, .slice none 0 0] 27)); have CC := hid (CC.out.alloc CC.out.size (.cells #[.bool false, .slice none 0 0, .slice none 0 0] 27)); have hNB := NZ.out.lt; have NZ := hid (NZ.out.old b1); have f0 := NZ.out.f 0; have f1 := NZ.out.f 1; have f2 := NZ.out.f 2; have p0 := NZ.out.c 0 rfl; have p1 := NZ.out.c 1 rfl; have p2 := NZ.out.c 2 rfl; have hsB := CC.out.size; have CC := hid (CC.out.trans (b1.mono CC.out.size)); have LXC := hid (LXC.out.old b1); have LYC := hid (LYC.out.old b1); have q0 := LXC.out.c 0 (v := .bool s) rfl; have q1 := LXC.out.c 1 (v := .slice a n c) rfl; have q2 := LXC.out.c 2 (v := .slice b m d) rfl; have q3 := LYC.out.c 0 (v := .bool t) rfl; have q4 := LYC.out.c 1 (v := .slice a' n' c') rfl; have q5 := LYC.out.c 2 (v := .slice b' m' d') rfl; have IR := hid i1; obtain ⟨af, cf, bf, df, rfl, rfl⟩ := i1.form; clear i1 b1))
      all_goals
        go_wp2_with fail
        go_meet
        first | with_reducible exact LaidRR_a IR.out hsB CC.out | exact LaidRR_b (by decide) NZ.out (by omega) hNB IR.out CC.out
    case rest =>
      generalize wc = w17 at hcut ⊢
      obtain ⟨g17, a17, c17, b17, d17, l17, h17, rfl, hL, hO, x1, x2, x3, x4, x5, b1⟩ := hcut
      have LH := hid hL
      have H := hid hO
      have t17 : w16.heap.size ≤ w17.heap.size := b1.size
      have X := hid (X.out.old b1)
      have LX := hid (LX.out.old b1)
      have Y := hid (Y.out.old b1)
      have LY := hid (LY.out.old b1)
      have V := hid (V.out.old b1)
      have LV := hid (LV.out.old b1)
      have G := hid (G.out.old b1)
      have LG := hid (LG.out.old b1)
      have B := hid (B.out.trans (b1.mono B.out.size))
      clear b1 hL hO
      have q0 := LH.out.c 0 (v := .bool rs) rfl
      have q1 := LH.out.c 1 (v := .slice a17 R1.length c17) rfl
      have q2 := LH.out.c 2 (v := .slice b17 R2.length d17) rfl
      have q3 := LV.out.c 0 (v := .bool rs) rfl
      have q4 := LV.out.c 1 (v := .slice a3 R1.length c3) rfl
      have q5 := LV.out.c 2 (v := .slice b3 R2.length d3) rfl
      go_wp2_with fail
      (with_reducible refine (eqRat_w _ _ _ _ _ R1 R2 _ _ _ _ (by omega) (by omega) _ H.out.w V.out.w).mono ?_)
      clear q0 q1 q2 q3 q4 q5
      rintro e w18 ⟨rfl, b1⟩
      have t18 : w17.heap.size ≤ w18.heap.size := by have := b1.size; omega
      have X := hid (X.out.old b1)
      have LX := hid (LX.out.old b1)
      have Y := hid (Y.out.old b1)
      have LY := hid (LY.out.old b1)
      have V := hid (V.out.old b1)
      have LV := hid (LV.out.old b1)
      have G := hid (G.out.old b1)
      have LG := hid (LG.out.old b1)
      have H := hid (H.out.old b1)
      have LH := hid (LH.out.old b1)
      have B := hid (B.out.trans (b1.mono B.out.size))
      clear b1
      have q0 := LG.out.c 0 (v := .bool rs) rfl
      have q1 := LG.out.c 1 (v := .slice a6 R1.length c6) rfl
      have q2 := LG.out.c 2 (v := .slice b6 R2.length d6) rfl
      go_wp2_with fail
      (with_reducible refine (heldRat_obj _ _ _ R1.length R2.length 1 _ _ (by omega) (by omega) (by omega) (by omega) _ G.out).mono ?_)
      clear q0 q1 q2
      rintro e w19 ⟨rfl, b1⟩
      have t19 : w18.heap.size ≤ w19.heap.size := by have := b1.size; omega
      have X := hid (X.out.old b1)
      have LX := hid (LX.out.old b1)
      have Y := hid (Y.out.old b1)
      have LY := hid (LY.out.old b1)
      have G := hid (G.out.old b1)
      have LG := hid (LG.out.old b1)
      have B := hid (B.out.trans (b1.mono B.out.size))
      clear b1
      go_wp2
      go_ret
      exact ⟨rfl, B.out⟩

end Go.Proofs.YtookglpeieennaaGreat
