/- The reference: floors, ceilings, the nearest integer, distances, counts. -/
import Derived.Test.YtookglpeieennaaFla
import Derived.Deep.RegionHeld3
import Derived.Deep.DeepCutAuto
namespace Go.Proofs.Ytookglpeieennaa
open Go.RowKit
open Go.Lib (hid)
set_option linter.unusedVariables false

set_option maxRecDepth 100000 in
set_option maxHeartbeats 12800000 in
theorem l05Floor_o_w {s : Bool} {a : Option Addr} {n c : Nat} {b : Option Addr} {m d : Nat}  {x : Rat} (w : World) (h : RA w s (.slice a n c) (.slice b m d) (some x)) :
    Calls Try.prog 55 #[.agg #[.bool s, .slice a n c, .slice b m d]] w (RatO false (some (flF x)) w) := by
  obtain ⟨Q, hQ⟩ : ∃ Q, Q = RatO false (some (flF x)) w := ⟨_, rfl⟩
  rw [← hQ]
  have HQ := hid hQ
  clear hQ
  have B := hid (show Below w.heap.size w ((w.alloc (.cells #[.bool s, .slice a n c, .slice b m d] 30)).alloc (.cells #[.bool false, .slice none 0 0, .slice none 0 0] 30)) from ((Below.refl _ _).alloc (Nat.le_refl _) _).alloc (by simp) _)
  have LX := hid (show LocA 30 ((w.alloc (.cells #[.bool s, .slice a n c, .slice b m d] 30)).alloc (.cells #[.bool false, .slice none 0 0, .slice none 0 0] 30)) (w.heap.size) #[.bool s, .slice a n c, .slice b m d] from (LocA.at (by simp)).new1)
  have LR := hid (show LocA 30 ((w.alloc (.cells #[.bool s, .slice a n c, .slice b m d] 30)).alloc (.cells #[.bool false, .slice none 0 0, .slice none 0 0] 30)) (w.heap.size + 1) #[.bool false, .slice none 0 0, .slice none 0 0] from LocA.at (by simp))
  have X := hid (h.old B.out)
  clear h
  generalize hW : (w.alloc (.cells #[.bool s, .slice a n c, .slice b m d] 30)).alloc (.cells #[.bool false, .slice none 0 0, .slice none 0 0] 30) = W0 at B X LX LR
  have HW := hid hW
  clear hW
  have hs0 := B.out.size
  have hw0 := LR.out.lt
  go_enter Try.func55, Try.ntmps55
  have hf := hid (X.out.fitO x rfl)
  have q0 := LX.out.c 0 (v := .bool s) rfl
  have q1 := LX.out.c 1 (v := .slice a n c) rfl
  have q2 := LX.out.c 2 (v := .slice b m d) rfl
  go_wp2_with fail
  rw [HW.out]
  (with_reducible refine (sfldiv_x X.out).mono ?_)
  clear q0 q1 q2
  rintro e w2 ⟨a2, n2, c2, b2, m2, d2, rfl, hi, hb⟩
  have J := hid (Ints_base hi B.out.size)
  have LX := hid (LX.out.old hb)
  have LR := hid (LR.out.old hb)
  have X := hid (X.out.old hb)
  have B := hid (B.out.trans (hb.mono B.out.size))
  obtain ⟨gf, hgf⟩ : ∃ z, z = gzs x.floor := ⟨_, rfl⟩
  have HGF := hid hgf
  rw [← hgf]
  clear hi hb hgf
  have BB := hid (show Below w2.heap.size w2 ((w2.alloc (.cells #[.bool gf, .slice a2 n2 c2] 28)).alloc (.cells #[.int .i64 1] 3)) from below_new2)
  have ND := hid (show ∀ k, (Value.slice a2 n2 c2).ownBlock = some k → (Value.slice (some ⟨w2.heap.size + 1, 0, none⟩) 1 1).ownBlock ≠ some k from fun k hk hj => (by
    have h1 := (Ints_lt J.out k hk).2
    have h2 : w2.heap.size + 1 = k := by simpa [Value.ownBlock] using hj
    omega))
  have LX := hid (LX.out.old BB.out)
  have LR := hid (LR.out.old BB.out)
  have X := hid (X.out.old BB.out)
  have J := hid (Ints_old J.out BB.out)
  have hs2 := B.out.size
  have B := hid (B.out.trans (BB.out.mono B.out.size))
  have J2 := hid (show Ints ((w2.alloc (.cells #[.bool gf, .slice a2 n2 c2] 28)).alloc (.cells #[.int .i64 1] 3)) w.heap.size (.slice (some ⟨w2.heap.size + 1, 0, none⟩) 1 1) (rep (1 : Int).toNat) from by rw [show rep (1 : Int).toNat = [1] from rep_one.2 rfl]; have := Ints_lit1 (w := w2.alloc (.cells #[.bool gf, .slice a2 n2 c2] 28)) (B := w.heap.size) 1 (by simp; omega); simpa using this)
  have RF := hid (RO_floor (p := false) hf.out J.out J2.out ND.out)
  rw [← HGF.out] at RF
  have f0 := LR.out.f 0
  have f1 := LR.out.f 1
  have f2 := LR.out.f 2
  have p0 := LR.out.c 0 rfl
  have p1 := LR.out.c 1 rfl
  have p2 := LR.out.c 2 rfl
  have R := hid (q_of HQ.out (RO.out (w := w) (N := w.heap.size + 1) RF.out (Nat.le_refl _) (by omega) LR.out (by decide) B.out))
  go_wp2
  exact bodyPost_ret (v := .agg #[.bool gf, .slice a2 n2 c2, .slice (some ⟨w2.heap.size + 1, 0, none⟩) 1 1]) (by simp [results, Try.results55, go_sem, p0, p1, p2]) rfl R.out
theorem l05Floor_o {w : World} {s : Bool} {v u : Value}  {x : Rat} (h : RA w s v u (some x)) : Calls Try.prog 55 #[.agg #[.bool s, v, u]] w (RatO false (some (flF x)) w) := by
  obtain ⟨a, n, c, b, m, d, rfl, rfl⟩ := h.form
  exact l05Floor_o_w  w h
set_option maxRecDepth 100000 in
set_option maxHeartbeats 3200000 in
theorem l05Ok_x {s : Bool} {a : Option Addr} {n c : Nat} {b : Option Addr} {m d : Nat} {x : Rat} (w : World) (h : RA w s (.slice a n c) (.slice b m d) (some x)) :
    Calls Try.prog 54 #[.agg #[.bool s, .slice a n c, .slice b m d]] w (RetB (.agg #[.bool s, .slice a n c, .slice b m d]) w) := by
  have B := hid (show Below w.heap.size w ((w.alloc (.cells #[.bool s, .slice a n c, .slice b m d] 30)).alloc (.cells #[.bool false, .slice none 0 0, .slice none 0 0] 30)) from ((Below.refl _ _).alloc (Nat.le_refl _) _).alloc (by simp) _)
  have LX := hid (show LocA 30 ((w.alloc (.cells #[.bool s, .slice a n c, .slice b m d] 30)).alloc (.cells #[.bool false, .slice none 0 0, .slice none 0 0] 30)) w.heap.size #[.bool s, .slice a n c, .slice b m d] from (LocA.at (by simp)).new1)
  have LR := hid (show LocA 30 ((w.alloc (.cells #[.bool s, .slice a n c, .slice b m d] 30)).alloc (.cells #[.bool false, .slice none 0 0, .slice none 0 0] 30)) (w.heap.size + 1) #[.bool false, .slice none 0 0, .slice none 0 0] from LocA.at (by simp))
  have X := hid (h.old B.out)
  clear h
  generalize hW : (w.alloc (.cells #[.bool s, .slice a n c, .slice b m d] 30)).alloc (.cells #[.bool false, .slice none 0 0, .slice none 0 0] 30) = W0 at B X LX LR
  have HW := hid hW
  clear hW
  go_enter Try.func54, Try.ntmps54
  go_wp2_with fail
  rw [HW.out]
  (with_reducible refine (sok_some X.out).mono ?_)
  rintro e w1 ⟨rfl, hb⟩
  have LX := hid (LX.out.old hb)
  have LR := hid (LR.out.old hb)
  have B := hid (B.out.trans (hb.mono B.out.size))
  have q0 := LX.out.c 0 rfl
  have q1 := LX.out.c 1 rfl
  have q2 := LX.out.c 2 rfl
  have f0 := LR.out.f 0
  have f1 := LR.out.f 1
  have f2 := LR.out.f 2
  have p0 := LR.out.c 0 rfl
  have p1 := LR.out.c 1 rfl
  have p2 := LR.out.c 2 rfl
  have R := hid (show RetB (.agg #[.bool s, .slice a n c, .slice b m d]) w (.returned (.agg #[.bool s, .slice a n c, .slice b m d])) (((w1.setCell ⟨w.heap.size + 1, 0, none⟩ (.bool s)).setCell ⟨w.heap.size + 1, 1, none⟩ (.slice a n c)).setCell ⟨w.heap.size + 1, 2, none⟩ (.slice b m d)) from ⟨rfl, ((B.out.setCell (by simp) _).setCell (by simp) _).setCell (by simp) _⟩)
  clear hb
  go_wp2
  exact bodyPost_ret (v := .agg #[.bool s, .slice a n c, .slice b m d]) (by simp [results, Try.results54, go_sem, p0, p1, p2]) rfl R.out
set_option maxRecDepth 100000 in
set_option maxHeartbeats 12800000 in
theorem sfloor_o_w {s : Bool} {a : Option Addr} {n c : Nat} {b : Option Addr} {m d : Nat} {o : Option Rat}  (w : World) (h : RA w s (.slice a n c) (.slice b m d) o) :
    Calls Try.prog 17 #[.agg #[.bool s, .slice a n c, .slice b m d]] w (RatO false (floorO o) w) := by
  obtain ⟨Q, hQ⟩ : ∃ Q, Q = RatO false (floorO o) w := ⟨_, rfl⟩
  rw [← hQ]
  have HQ := hid hQ
  clear hQ
  have B := hid (show Below w.heap.size w ((w.alloc (.cells #[.bool s, .slice a n c, .slice b m d] 30)).alloc (.cells #[.bool false, .slice none 0 0, .slice none 0 0] 30)) from ((Below.refl _ _).alloc (Nat.le_refl _) _).alloc (by simp) _)
  have LX := hid (show LocA 30 ((w.alloc (.cells #[.bool s, .slice a n c, .slice b m d] 30)).alloc (.cells #[.bool false, .slice none 0 0, .slice none 0 0] 30)) (w.heap.size) #[.bool s, .slice a n c, .slice b m d] from (LocA.at (by simp)).new1)
  have LR := hid (show LocA 30 ((w.alloc (.cells #[.bool s, .slice a n c, .slice b m d] 30)).alloc (.cells #[.bool false, .slice none 0 0, .slice none 0 0] 30)) (w.heap.size + 1) #[.bool false, .slice none 0 0, .slice none 0 0] from LocA.at (by simp))
  have X := hid (h.old B.out)
  clear h
  generalize hW : (w.alloc (.cells #[.bool s, .slice a n c, .slice b m d] 30)).alloc (.cells #[.bool false, .slice none 0 0, .slice none 0 0] 30) = W0 at B X LX LR
  have HW := hid hW
  clear hW
  have hs0 := B.out.size
  have hw0 := LR.out.lt
  cases o with
  | none =>
    go_enter Try.func17, Try.ntmps17
    have q0 := LX.out.c 0 (v := .bool s) rfl
    have q1 := LX.out.c 1 (v := .slice a n c) rfl
    have q2 := LX.out.c 2 (v := .slice b m d) rfl
    go_wp2_with fail
    rw [HW.out]
    (with_reducible refine (sok_none X.out).mono ?_)
    clear q0 q1 q2
    rintro e w1 ⟨rfl, hb⟩
    have LX := hid (LX.out.old hb)
    have LR := hid (LR.out.old hb)
    have X := hid (X.out.old hb)
    have B := hid (B.out.trans (hb.mono B.out.size))
    clear hb
    have f0 := LR.out.f 0
    have f1 := LR.out.f 1
    have f2 := LR.out.f 2
    have p0 := LR.out.c 0 rfl
    have p1 := LR.out.c 1 rfl
    have p2 := LR.out.c 2 rfl
    have R := hid (q_of HQ.out (RO.out (w := w) (N := w.heap.size + 1) (RO_none (w := _) (lo := w.heap.size)) (Nat.le_refl _) (by omega) LR.out (by decide) B.out))
    go_wp2
    exact bodyPost_ret (v := .agg #[.bool false, .slice none 0 0, .slice none 0 0]) (by simp [results, Try.results17, go_sem, p0, p1, p2]) rfl R.out
  | some x =>
    go_enter Try.func17, Try.ntmps17
    have q0 := LX.out.c 0 (v := .bool s) rfl
    have q1 := LX.out.c 1 (v := .slice a n c) rfl
    have q2 := LX.out.c 2 (v := .slice b m d) rfl
    go_wp2_with fail
    rw [HW.out]
    (with_reducible refine (sok_some X.out).mono ?_)
    clear q0 q1 q2
    rintro e w1 ⟨rfl, hb⟩
    have LX := hid (LX.out.old hb)
    have LR := hid (LR.out.old hb)
    have X := hid (X.out.old hb)
    have B := hid (B.out.trans (hb.mono B.out.size))
    clear hb
    have q0 := LX.out.c 0 (v := .bool s) rfl
    have q1 := LX.out.c 1 (v := .slice a n c) rfl
    have q2 := LX.out.c 2 (v := .slice b m d) rfl
    go_wp2_with fail
    (with_reducible refine (l05Floor_o X.out).mono ?_)
    clear q0 q1 q2
    rintro e w2 ⟨s2, a2, n2, c2, b2, m2, d2, rfl, hr, hb⟩
    have F := hid (hr.base B.out.size)
    have LX := hid (LX.out.old hb)
    have LR := hid (LR.out.old hb)
    have X := hid (X.out.old hb)
    have B := hid (B.out.trans (hb.mono B.out.size))
    clear hr hb
    go_wp2_with fail
    (with_reducible refine (l05Ok_x _ F.out.ra).mono ?_)
    rintro e w3 ⟨rfl, hb⟩
    have LX := hid (LX.out.old hb)
    have LR := hid (LR.out.old hb)
    have X := hid (X.out.old hb)
    have F := hid (F.out.old hb)
    have B := hid (B.out.trans (hb.mono B.out.size))
    clear hb
    have f0 := LR.out.f 0
    have f1 := LR.out.f 1
    have f2 := LR.out.f 2
    have p0 := LR.out.c 0 rfl
    have p1 := LR.out.c 1 rfl
    have p2 := LR.out.c 2 rfl
    have R := hid (q_of HQ.out (RO.out (w := w) (N := w.heap.size + 1) F.out (Nat.le_refl _) (by omega) LR.out (by decide) B.out))
    go_wp2
    exact bodyPost_ret (v := .agg #[.bool s2, .slice a2 n2 c2, .slice b2 m2 d2]) (by simp [results, Try.results17, go_sem, p0, p1, p2]) rfl R.out
theorem sfloor_o {w : World} {s : Bool} {v u : Value} {o : Option Rat}  (h : RA w s v u o) : Calls Try.prog 17 #[.agg #[.bool s, v, u]] w (RatO false (floorO o) w) := by
  obtain ⟨a, n, c, b, m, d, rfl, rfl⟩ := h.form
  exact sfloor_o_w  w h
set_option maxRecDepth 100000 in
set_option maxHeartbeats 12800000 in
theorem sceil_o_w {s : Bool} {a : Option Addr} {n c : Nat} {b : Option Addr} {m d : Nat} {o : Option Rat}  (w : World) (h : RA w s (.slice a n c) (.slice b m d) o) :
    Calls Try.prog 23 #[.agg #[.bool s, .slice a n c, .slice b m d]] w (RatO false (ceilO o) w) := by
  obtain ⟨Q, hQ⟩ : ∃ Q, Q = RatO false (ceilO o) w := ⟨_, rfl⟩
  rw [← hQ]
  have HQ := hid hQ
  clear hQ
  have B := hid (show Below w.heap.size w ((w.alloc (.cells #[.bool s, .slice a n c, .slice b m d] 30)).alloc (.cells #[.bool false, .slice none 0 0, .slice none 0 0] 30)) from ((Below.refl _ _).alloc (Nat.le_refl _) _).alloc (by simp) _)
  have LX := hid (show LocA 30 ((w.alloc (.cells #[.bool s, .slice a n c, .slice b m d] 30)).alloc (.cells #[.bool false, .slice none 0 0, .slice none 0 0] 30)) (w.heap.size) #[.bool s, .slice a n c, .slice b m d] from (LocA.at (by simp)).new1)
  have LR := hid (show LocA 30 ((w.alloc (.cells #[.bool s, .slice a n c, .slice b m d] 30)).alloc (.cells #[.bool false, .slice none 0 0, .slice none 0 0] 30)) (w.heap.size + 1) #[.bool false, .slice none 0 0, .slice none 0 0] from LocA.at (by simp))
  have X := hid (h.old B.out)
  clear h
  generalize hW : (w.alloc (.cells #[.bool s, .slice a n c, .slice b m d] 30)).alloc (.cells #[.bool false, .slice none 0 0, .slice none 0 0] 30) = W0 at B X LX LR
  have HW := hid hW
  clear hW
  have hs0 := B.out.size
  have hw0 := LR.out.lt
  cases o with
  | none =>
    go_enter Try.func23, Try.ntmps23
    have q0 := LX.out.c 0 (v := .bool s) rfl
    have q1 := LX.out.c 1 (v := .slice a n c) rfl
    have q2 := LX.out.c 2 (v := .slice b m d) rfl
    go_wp2_with fail
    rw [HW.out]
    (with_reducible refine (sok_none X.out).mono ?_)
    clear q0 q1 q2
    rintro e w1 ⟨rfl, hb⟩
    have LX := hid (LX.out.old hb)
    have LR := hid (LR.out.old hb)
    have X := hid (X.out.old hb)
    have B := hid (B.out.trans (hb.mono B.out.size))
    clear hb
    have f0 := LR.out.f 0
    have f1 := LR.out.f 1
    have f2 := LR.out.f 2
    have p0 := LR.out.c 0 rfl
    have p1 := LR.out.c 1 rfl
    have p2 := LR.out.c 2 rfl
    have R := hid (q_of HQ.out (RO.out (w := w) (N := w.heap.size + 1) (RO_none (w := _) (lo := w.heap.size)) (Nat.le_refl _) (by omega) LR.out (by decide) B.out))
    go_wp2
    exact bodyPost_ret (v := .agg #[.bool false, .slice none 0 0, .slice none 0 0]) (by simp [results, Try.results23, go_sem, p0, p1, p2]) rfl R.out
  | some x =>
    go_enter Try.func23, Try.ntmps23
    have q0 := LX.out.c 0 (v := .bool s) rfl
    have q1 := LX.out.c 1 (v := .slice a n c) rfl
    have q2 := LX.out.c 2 (v := .slice b m d) rfl
    go_wp2_with fail
    rw [HW.out]
    (with_reducible refine (sok_some X.out).mono ?_)
    clear q0 q1 q2
    rintro e w1 ⟨rfl, hb⟩
    have LX := hid (LX.out.old hb)
    have LR := hid (LR.out.old hb)
    have X := hid (X.out.old hb)
    have B := hid (B.out.trans (hb.mono B.out.size))
    clear hb
    have q0 := LX.out.c 0 (v := .bool s) rfl
    have q1 := LX.out.c 1 (v := .slice a n c) rfl
    have q2 := LX.out.c 2 (v := .slice b m d) rfl
    go_wp2_with fail
    (with_reducible refine (l04Neg_o X.out).mono ?_)
    clear q0 q1 q2
    rintro e w2 ⟨s2, a2, n2, c2, b2, m2, d2, rfl, hr, hb⟩
    have G := hid (hr.base B.out.size)
    have LX := hid (LX.out.old hb)
    have LR := hid (LR.out.old hb)
    have X := hid (X.out.old hb)
    have B := hid (B.out.trans (hb.mono B.out.size))
    clear hr hb
    go_wp2_with fail
    (with_reducible refine (l05Floor_o G.out.ra).mono ?_)
    rintro e w3 ⟨s3, a3, n3, c3, b3, m3, d3, rfl, hr, hb⟩
    have F := hid (hr.base B.out.size)
    have LX := hid (LX.out.old hb)
    have LR := hid (LR.out.old hb)
    have X := hid (X.out.old hb)
    have G := hid (G.out.old hb)
    have B := hid (B.out.trans (hb.mono B.out.size))
    clear hr hb
    go_wp2_with fail
    (with_reducible refine (l04Neg_o F.out.ra).mono ?_)
    rintro e w4 ⟨s4, a4, n4, c4, b4, m4, d4, rfl, hr, hb⟩
    have H := hid (hr.base B.out.size)
    have LX := hid (LX.out.old hb)
    have LR := hid (LR.out.old hb)
    have X := hid (X.out.old hb)
    have G := hid (G.out.old hb)
    have F := hid (F.out.old hb)
    have B := hid (B.out.trans (hb.mono B.out.size))
    clear hr hb
    go_wp2_with fail
    (with_reducible refine (l05Ok_x _ H.out.ra).mono ?_)
    rintro e w5 ⟨rfl, hb⟩
    have LX := hid (LX.out.old hb)
    have LR := hid (LR.out.old hb)
    have X := hid (X.out.old hb)
    have G := hid (G.out.old hb)
    have F := hid (F.out.old hb)
    have H := hid (H.out.old hb)
    have B := hid (B.out.trans (hb.mono B.out.size))
    clear hb
    have f0 := LR.out.f 0
    have f1 := LR.out.f 1
    have f2 := LR.out.f 2
    have p0 := LR.out.c 0 rfl
    have p1 := LR.out.c 1 rfl
    have p2 := LR.out.c 2 rfl
    have R := hid (q_of HQ.out (RO.out (w := w) (N := w.heap.size + 1) (hid (H.out.eqo (show some (-flF (-x)) = ceilO (some x) from by rw [← ce_neg]; rfl))).out (Nat.le_refl _) (by omega) LR.out (by decide) B.out))
    go_wp2
    exact bodyPost_ret (v := .agg #[.bool s4, .slice a4 n4 c4, .slice b4 m4 d4]) (by simp [results, Try.results23, go_sem, p0, p1, p2]) rfl R.out
theorem sceil_o {w : World} {s : Bool} {v u : Value} {o : Option Rat}  (h : RA w s v u o) : Calls Try.prog 23 #[.agg #[.bool s, v, u]] w (RatO false (ceilO o) w) := by
  obtain ⟨a, n, c, b, m, d, rfl, rfl⟩ := h.form
  exact sceil_o_w  w h
theorem max_sgn (x : Rat) : (sgn x.num < 0 → some (-x) = some (maxF x (-x))) ∧ (¬ sgn x.num < 0 → some x = some (maxF x (-x))) := by
  have key : sgn x.num < 0 ↔ cmpF x (-x) = -1 := by
    have h0 : sgn x.num = cmpF x 0 := by
      have := cmpF_sub x 0
      rw [show x - 0 = x by rw [Rat.sub_eq_add_neg, Rat.neg_zero, Rat.add_zero]] at this
      exact this
    rw [h0]
    have e1 : (x < 0) ↔ (x < -x) := by
      constructor
      · intro h
        have h2 : 0 < -x := by have := Rat.neg_lt_neg_iff.2 h; rwa [Rat.neg_zero] at this
        exact Rat.lt_iff_le_and_not_ge.2 ⟨Rat.le_of_lt (rat_lt_trans h h2), fun e => (Rat.lt_iff_le_and_not_ge.1 (rat_lt_trans h h2)).2 e⟩
      · intro h
        by_cases e : x < 0
        · exact e
        · have h1 : 0 ≤ x := Rat.not_lt.1 e
          have h2 : -x ≤ 0 := by have := Rat.neg_le_neg h1; rwa [Rat.neg_zero] at this
          exact absurd (Rat.le_trans h2 h1) ((Rat.lt_iff_le_and_not_ge.1 h).2)
    unfold cmpF
    by_cases h1 : x < 0
    · simp [h1, e1.1 h1]
    · have h2 : ¬ x < -x := fun h => h1 (e1.2 h)
      simp only [h1, h2, if_false]
      constructor
      · intro h
        split at h <;> omega
      · intro h
        split at h <;> omega
  unfold maxF
  exact ⟨fun h => by rw [if_pos (key.1 h)], fun h => by rw [if_neg (fun e => h (key.2 e))]⟩
end Go.Proofs.Ytookglpeieennaa
