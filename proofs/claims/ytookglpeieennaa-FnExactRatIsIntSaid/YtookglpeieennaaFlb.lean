/- The program: rounding by its ways; floors, ceilings, the nearest integer, distances, counts. -/
import Derived.Test.YtookglpeieennaaFla
import Derived.Deep.RegionHeld3
import Derived.Deep.DeepCutAuto
namespace Go.Proofs.Ytookglpeieennaa
open Go.RowKit
open Go.Lib (hid)
set_option linter.unusedVariables false

set_option maxRecDepth 100000 in
set_option maxHeartbeats 12800000 in
theorem round_down_w {s : Bool} {a : Option Addr} {n c : Nat} {b : Option Addr} {m d : Nat} {o : Option Rat}  (w : World) (h : RA w s (.slice a n c) (.slice b m d) o) :
    Calls Try.prog 58 #[.int .i64 0, .agg #[.bool s, .slice a n c, .slice b m d]] w (RatO true (floorO o) w) := by
  obtain ⟨Q, hQ⟩ : ∃ Q, Q = RatO true (floorO o) w := ⟨_, rfl⟩
  rw [← hQ]
  have HQ := hid hQ
  clear hQ
  have B := hid (show Below w.heap.size w ((w.alloc (.cells #[.bool s, .slice a n c, .slice b m d] 30)).alloc (.cells #[.bool false, .slice none 0 0, .slice none 0 0] 30)) from ((Below.refl _ _).alloc (Nat.le_refl _) _).alloc (by simp) _)
  have LX := hid (show LocA 30 ((w.alloc (.cells #[.bool s, .slice a n c, .slice b m d] 30)).alloc (.cells #[.bool false, .slice none 0 0, .slice none 0 0] 30)) (w.heap.size) #[.bool s, .slice a n c, .slice b m d] from (LocA.at (by simp)).new1)
  have LR := hid (show LocA 30 ((w.alloc (.cells #[.bool s, .slice a n c, .slice b m d] 30)).alloc (.cells #[.bool false, .slice none 0 0, .slice none 0 0] 30)) (w.heap.size + 1) #[.bool false, .slice none 0 0, .slice none 0 0] from LocA.at (by simp))
  have X := hid (h.old B.out)
  clear h
  generalize hW : (w.alloc (.cells #[.bool s, .slice a n c, .slice b m d] 30)).alloc (.cells #[.bool false, .slice none 0 0, .slice none 0 0] 30) = W0 at B X LX LR
  have HW := hid hW
  clear hW
  have hs0 := B.out.size
  have hw0 := LR.out.lt
  have hsf : ∀ (fn : Fn) (first cap : Array Value) (a : Addr) (m : Mode) (w : World), (store a (.func fn first cap) m).run Try.prog w = stored Try.prog w a (.func fn first cap) m := fun _ _ _ _ _ _ => run_store _ _ _ _ _ rfl
  have hix : ∀ (w : World), (Instr.index 93 (.agg #[.func (.func 111) #[] #[], .func (.func 111) #[] #[], .func (.func 112) #[] #[], .func (.func 112) #[] #[], .func (.func 113) #[] #[], .func (.func 111) #[] #[]]) (.int .i64 0)).run Try.prog w = .ok (.agg #[.func (.func 111) #[] #[], .func (.func 111) #[] #[]]) w := fun _ => rfl
  go_enter Try.func58, Try.ntmps58
  go_wp2_with fail
  rw [HW.out]
  (with_reducible refine (roundings_any _).mono ?_)
  rintro e w1 ⟨rfl, hb⟩
  have LX := hid (LX.out.old hb)
  have LR := hid (LR.out.old hb)
  have X := hid (X.out.old hb)
  have B := hid (B.out.trans (hb.mono B.out.size))
  clear hb
  have hnM := LR.out.lt
  have LX := hid (LX.out.old (below_new' (o := .cells #[.func (.func 111) #[] #[], .func (.func 111) #[] #[]] 92)))
  have LR := hid (LR.out.old (below_new' (o := .cells #[.func (.func 111) #[] #[], .func (.func 111) #[] #[]] 92)))
  have X := hid (X.out.old (below_new' (o := .cells #[.func (.func 111) #[] #[], .func (.func 111) #[] #[]] 92)))
  have B := hid (B.out.alloc B.out.size (.cells #[.func (.func 111) #[] #[], .func (.func 111) #[] #[]] 92))
  have LM := hid (LocA.new (w := w1) (T := 92) (cs := #[.func (.func 111) #[] #[], .func (.func 111) #[] #[]]))
  go_wp2_with fail
  have LX := hid (LX.out.old (Below_drew1 (Below.refl _ _)))
  have LR := hid (LR.out.old (Below_drew1 (Below.refl _ _)))
  have X := hid (X.out.old (Below_drew1 (Below.refl _ _)))
  have LM := hid (LM.out.old (Below_drew1 (Below.refl _ _)))
  have B := hid (Below_drew1 B.out)
  have q0 := LM.out.c 0 (v := .func (.func 111) #[] #[]) rfl
  have q1 := LM.out.c 1 (v := .func (.func 111) #[] #[]) rfl
  have q2 := LX.out.c 0 (v := .bool s) rfl
  have q3 := LX.out.c 1 (v := .slice a n c) rfl
  have q4 := LX.out.c 2 (v := .slice b m d) rfl
  have hlM := LM.out.lt
  have hlX := LX.out.lt
  go_region_held3 (fun w' => w'.cell? ⟨w1.heap.size, 0, none⟩ = some (.func (.func 111) #[] #[]) ∧ w'.cell? ⟨w1.heap.size, 1, none⟩ = some (.func (.func 111) #[] #[]) ∧ w'.cell? ⟨w.heap.size, 0, none⟩ = some (.bool s) ∧ w'.cell? ⟨w.heap.size, 1, none⟩ = some (.slice a n c) ∧ w'.cell? ⟨w.heap.size, 2, none⟩ = some (.slice b m d)) (first | exact ⟨q0, q1, q2, q3, q4⟩ | exact ⟨(cell_set3 (by omega)).trans q0, (cell_set3 (by omega)).trans q1, (cell_set3 (by omega)).trans q2, (cell_set3 (by omega)).trans q3, (cell_set3 (by omega)).trans q4⟩ | go_keep) (first | (go_at_call 111; (with_reducible refine (unchanged_any (s := s2) (a := a2) (n := n2) _).mono ?_); rintro e wx ⟨rfl, hb⟩; have LX := hid (LX.out.old hb); have LR := hid (LR.out.old hb); have X := hid (X.out.old hb); have LM := hid (LM.out.old hb); have F := hid (F.out.old hb); have B := hid (B.out.trans (hb.mono B.out.size)); clear hb; have q0 := LM.out.c 0 (v := .func (.func 111) #[] #[]) rfl; have q1 := LM.out.c 1 (v := .func (.func 111) #[] #[]) rfl; have q2 := LX.out.c 0 (v := .bool s) rfl; have q3 := LX.out.c 1 (v := .slice a n c) rfl; have q4 := LX.out.c 2 (v := .slice b m d) rfl; have f0 := LR.out.f 0; have f1 := LR.out.f 1; have f2 := LR.out.f 2; have p0 := LR.out.c 0 rfl; have p1 := LR.out.c 1 rfl; have p2 := LR.out.c 2 rfl; have R := hid (q_of HQ.out (RO.out (w := w) (N := w.heap.size + 1) F.out (Nat.le_refl _) (by omega) LR.out (by decide) B.out))) | (go_at_call 111; (with_reducible refine (unchanged_any _).mono ?_); rintro e wx ⟨rfl, hb⟩; have LX := hid (LX.out.old hb); have LR := hid (LR.out.old hb); have X := hid (X.out.old hb); have LM := hid (LM.out.old hb); have B := hid (B.out.trans (hb.mono B.out.size)); clear hb; have q0 := LM.out.c 0 (v := .func (.func 111) #[] #[]) rfl; have q1 := LM.out.c 1 (v := .func (.func 111) #[] #[]) rfl; have q2 := LX.out.c 0 (v := .bool s) rfl; have q3 := LX.out.c 1 (v := .slice a n c) rfl; have q4 := LX.out.c 2 (v := .slice b m d) rfl) | (go_at_call 87; (with_reducible refine (floorOf_o X.out).mono ?_); rintro e w2 ⟨s2, a2, n2, c2, b2, m2, d2, rfl, hr, hb⟩; have F := hid (hr.base B.out.size); have LX := hid (LX.out.old hb); have LR := hid (LR.out.old hb); have X := hid (X.out.old hb); have LM := hid (LM.out.old hb); have B := hid (B.out.trans (hb.mono B.out.size)); clear hr hb; have q0 := LM.out.c 0 (v := .func (.func 111) #[] #[]) rfl; have q1 := LM.out.c 1 (v := .func (.func 111) #[] #[]) rfl; have q2 := LX.out.c 0 (v := .bool s) rfl; have q3 := LX.out.c 1 (v := .slice a n c) rfl; have q4 := LX.out.c 2 (v := .slice b m d) rfl))
  clear q0 q1 q2 q3 q4
  go_wp2
  exact bodyPost_ret (v := .agg #[.bool s2, .slice a2 n2 c2, .slice b2 m2 d2]) (by simp [results, Try.results58, go_sem, p0, p1, p2]) rfl R.out
theorem round_down {w : World} {s : Bool} {v u : Value} {o : Option Rat}  (h : RA w s v u o) : Calls Try.prog 58 #[.int .i64 0, .agg #[.bool s, v, u]] w (RatO true (floorO o) w) := by
  obtain ⟨a, n, c, b, m, d, rfl, rfl⟩ := h.form
  exact round_down_w  w h
set_option maxRecDepth 100000 in
set_option maxHeartbeats 12800000 in
theorem round_up_w {s : Bool} {a : Option Addr} {n c : Nat} {b : Option Addr} {m d : Nat} {o : Option Rat}  (w : World) (h : RA w s (.slice a n c) (.slice b m d) o) :
    Calls Try.prog 58 #[.int .i64 1, .agg #[.bool s, .slice a n c, .slice b m d]] w (RatO true (ceilO o) w) := by
  obtain ⟨Q, hQ⟩ : ∃ Q, Q = RatO true (ceilO o) w := ⟨_, rfl⟩
  rw [← hQ]
  have HQ := hid hQ
  clear hQ
  have B := hid (show Below w.heap.size w ((w.alloc (.cells #[.bool s, .slice a n c, .slice b m d] 30)).alloc (.cells #[.bool false, .slice none 0 0, .slice none 0 0] 30)) from ((Below.refl _ _).alloc (Nat.le_refl _) _).alloc (by simp) _)
  have LX := hid (show LocA 30 ((w.alloc (.cells #[.bool s, .slice a n c, .slice b m d] 30)).alloc (.cells #[.bool false, .slice none 0 0, .slice none 0 0] 30)) (w.heap.size) #[.bool s, .slice a n c, .slice b m d] from (LocA.at (by simp)).new1)
  have LR := hid (show LocA 30 ((w.alloc (.cells #[.bool s, .slice a n c, .slice b m d] 30)).alloc (.cells #[.bool false, .slice none 0 0, .slice none 0 0] 30)) (w.heap.size + 1) #[.bool false, .slice none 0 0, .slice none 0 0] from LocA.at (by simp))
  have X := hid (h.old B.out)
  clear h
  generalize hW : (w.alloc (.cells #[.bool s, .slice a n c, .slice b m d] 30)).alloc (.cells #[.bool false, .slice none 0 0, .slice none 0 0] 30) = W0 at B X LX LR
  have HW := hid hW
  clear hW
  have hs0 := B.out.size
  have hw0 := LR.out.lt
  have hsf : ∀ (fn : Fn) (first cap : Array Value) (a : Addr) (m : Mode) (w : World), (store a (.func fn first cap) m).run Try.prog w = stored Try.prog w a (.func fn first cap) m := fun _ _ _ _ _ _ => run_store _ _ _ _ _ rfl
  have hix : ∀ (w : World), (Instr.index 93 (.agg #[.func (.func 111) #[] #[], .func (.func 111) #[] #[], .func (.func 112) #[] #[], .func (.func 112) #[] #[], .func (.func 113) #[] #[], .func (.func 111) #[] #[]]) (.int .i64 1)).run Try.prog w = .ok (.agg #[.func (.func 112) #[] #[], .func (.func 112) #[] #[]]) w := fun _ => rfl
  go_enter Try.func58, Try.ntmps58
  go_wp2_with fail
  rw [HW.out]
  (with_reducible refine (roundings_any _).mono ?_)
  rintro e w1 ⟨rfl, hb⟩
  have LX := hid (LX.out.old hb)
  have LR := hid (LR.out.old hb)
  have X := hid (X.out.old hb)
  have B := hid (B.out.trans (hb.mono B.out.size))
  clear hb
  have hnM := LR.out.lt
  have LX := hid (LX.out.old (below_new' (o := .cells #[.func (.func 112) #[] #[], .func (.func 112) #[] #[]] 92)))
  have LR := hid (LR.out.old (below_new' (o := .cells #[.func (.func 112) #[] #[], .func (.func 112) #[] #[]] 92)))
  have X := hid (X.out.old (below_new' (o := .cells #[.func (.func 112) #[] #[], .func (.func 112) #[] #[]] 92)))
  have B := hid (B.out.alloc B.out.size (.cells #[.func (.func 112) #[] #[], .func (.func 112) #[] #[]] 92))
  have LM := hid (LocA.new (w := w1) (T := 92) (cs := #[.func (.func 112) #[] #[], .func (.func 112) #[] #[]]))
  go_wp2_with fail
  have LX := hid (LX.out.old (Below_drew1 (Below.refl _ _)))
  have LR := hid (LR.out.old (Below_drew1 (Below.refl _ _)))
  have X := hid (X.out.old (Below_drew1 (Below.refl _ _)))
  have LM := hid (LM.out.old (Below_drew1 (Below.refl _ _)))
  have B := hid (Below_drew1 B.out)
  have q0 := LM.out.c 0 (v := .func (.func 112) #[] #[]) rfl
  have q1 := LM.out.c 1 (v := .func (.func 112) #[] #[]) rfl
  have q2 := LX.out.c 0 (v := .bool s) rfl
  have q3 := LX.out.c 1 (v := .slice a n c) rfl
  have q4 := LX.out.c 2 (v := .slice b m d) rfl
  have hlM := LM.out.lt
  have hlX := LX.out.lt
  go_region_held3 (fun w' => w'.cell? ⟨w1.heap.size, 0, none⟩ = some (.func (.func 112) #[] #[]) ∧ w'.cell? ⟨w1.heap.size, 1, none⟩ = some (.func (.func 112) #[] #[]) ∧ w'.cell? ⟨w.heap.size, 0, none⟩ = some (.bool s) ∧ w'.cell? ⟨w.heap.size, 1, none⟩ = some (.slice a n c) ∧ w'.cell? ⟨w.heap.size, 2, none⟩ = some (.slice b m d)) (first | with_reducible exact ⟨q0, q1, q2, q3, q4⟩ | ((with_reducible refine ⟨(cell_set3 ?_).trans q0, (cell_set3 ?_).trans q1, (cell_set3 ?_).trans q2, (cell_set3 ?_).trans q3, (cell_set3 ?_).trans q4⟩) <;> omega) | go_keep) (first | (go_at_call 112; (with_reducible refine (neg_o X.out).mono ?_); rintro e w2 ⟨s2, a2, n2, c2, b2, m2, d2, rfl, hr, hb⟩; have G := hid (hr.base B.out.size); have LX := hid (LX.out.old hb); have LR := hid (LR.out.old hb); have X := hid (X.out.old hb); have LM := hid (LM.out.old hb); have B := hid (B.out.trans (hb.mono B.out.size)); clear hr hb; have q0 := LM.out.c 0 (v := .func (.func 112) #[] #[]) rfl; have q1 := LM.out.c 1 (v := .func (.func 112) #[] #[]) rfl; have q2 := LX.out.c 0 (v := .bool s) rfl; have q3 := LX.out.c 1 (v := .slice a n c) rfl; have q4 := LX.out.c 2 (v := .slice b m d) rfl) | (go_at_call 87; (with_reducible refine (floorOf_o G.out.ra).mono ?_); rintro e w3 ⟨s3, a3, n3, c3, b3, m3, d3, rfl, hr, hb⟩; have F := hid (hr.base B.out.size); have LX := hid (LX.out.old hb); have LR := hid (LR.out.old hb); have X := hid (X.out.old hb); have LM := hid (LM.out.old hb); have G := hid (G.out.old hb); have B := hid (B.out.trans (hb.mono B.out.size)); clear hr hb; have q0 := LM.out.c 0 (v := .func (.func 112) #[] #[]) rfl; have q1 := LM.out.c 1 (v := .func (.func 112) #[] #[]) rfl; have q2 := LX.out.c 0 (v := .bool s) rfl; have q3 := LX.out.c 1 (v := .slice a n c) rfl; have q4 := LX.out.c 2 (v := .slice b m d) rfl) | (go_at_call 112; (with_reducible refine (neg_o F.out.ra).mono ?_); rintro e w4 ⟨s4, a4, n4, c4, b4, m4, d4, rfl, hr, hb⟩; have H := hid (hr.base B.out.size); have LX := hid (LX.out.old hb); have LR := hid (LR.out.old hb); have X := hid (X.out.old hb); have LM := hid (LM.out.old hb); have G := hid (G.out.old hb); have F := hid (F.out.old hb); have B := hid (B.out.trans (hb.mono B.out.size)); clear hr hb; have q0 := LM.out.c 0 (v := .func (.func 112) #[] #[]) rfl; have q1 := LM.out.c 1 (v := .func (.func 112) #[] #[]) rfl; have q2 := LX.out.c 0 (v := .bool s) rfl; have q3 := LX.out.c 1 (v := .slice a n c) rfl; have q4 := LX.out.c 2 (v := .slice b m d) rfl; have f0 := LR.out.f 0; have f1 := LR.out.f 1; have f2 := LR.out.f 2; have p0 := LR.out.c 0 rfl; have p1 := LR.out.c 1 rfl; have p2 := LR.out.c 2 rfl; have R := hid (q_of HQ.out (RO.out (w := w) (N := w.heap.size + 1) (hid (H.out.eqo (ceil_floor o))).out (Nat.le_refl _) (by omega) LR.out (by decide) B.out))))
  clear q0 q1 q2 q3 q4
  go_wp2
  exact bodyPost_ret (v := .agg #[.bool s4, .slice a4 n4 c4, .slice b4 m4 d4]) (by simp [results, Try.results58, go_sem, p0, p1, p2]) rfl R.out
theorem round_up {w : World} {s : Bool} {v u : Value} {o : Option Rat}  (h : RA w s v u o) : Calls Try.prog 58 #[.int .i64 1, .agg #[.bool s, v, u]] w (RatO true (ceilO o) w) := by
  obtain ⟨a, n, c, b, m, d, rfl, rfl⟩ := h.form
  exact round_up_w  w h
set_option maxRecDepth 100000 in
set_option maxHeartbeats 12800000 in
theorem round_mid_w {s : Bool} {a : Option Addr} {n c : Nat} {b : Option Addr} {m d : Nat} {o : Option Rat}  (w : World) (h : RA w s (.slice a n c) (.slice b m d) o) :
    Calls Try.prog 58 #[.int .i64 2, .agg #[.bool s, .slice a n c, .slice b m d]] w (RatO true (nearO o) w) := by
  obtain ⟨Q, hQ⟩ : ∃ Q, Q = RatO true (nearO o) w := ⟨_, rfl⟩
  rw [← hQ]
  have HQ := hid hQ
  clear hQ
  have B := hid (show Below w.heap.size w ((w.alloc (.cells #[.bool s, .slice a n c, .slice b m d] 30)).alloc (.cells #[.bool false, .slice none 0 0, .slice none 0 0] 30)) from ((Below.refl _ _).alloc (Nat.le_refl _) _).alloc (by simp) _)
  have LX := hid (show LocA 30 ((w.alloc (.cells #[.bool s, .slice a n c, .slice b m d] 30)).alloc (.cells #[.bool false, .slice none 0 0, .slice none 0 0] 30)) (w.heap.size) #[.bool s, .slice a n c, .slice b m d] from (LocA.at (by simp)).new1)
  have LR := hid (show LocA 30 ((w.alloc (.cells #[.bool s, .slice a n c, .slice b m d] 30)).alloc (.cells #[.bool false, .slice none 0 0, .slice none 0 0] 30)) (w.heap.size + 1) #[.bool false, .slice none 0 0, .slice none 0 0] from LocA.at (by simp))
  have X := hid (h.old B.out)
  clear h
  generalize hW : (w.alloc (.cells #[.bool s, .slice a n c, .slice b m d] 30)).alloc (.cells #[.bool false, .slice none 0 0, .slice none 0 0] 30) = W0 at B X LX LR
  have HW := hid hW
  clear hW
  have hs0 := B.out.size
  have hw0 := LR.out.lt
  have hsf : ∀ (fn : Fn) (first cap : Array Value) (a : Addr) (m : Mode) (w : World), (store a (.func fn first cap) m).run Try.prog w = stored Try.prog w a (.func fn first cap) m := fun _ _ _ _ _ _ => run_store _ _ _ _ _ rfl
  have hix : ∀ (w : World), (Instr.index 93 (.agg #[.func (.func 111) #[] #[], .func (.func 111) #[] #[], .func (.func 112) #[] #[], .func (.func 112) #[] #[], .func (.func 113) #[] #[], .func (.func 111) #[] #[]]) (.int .i64 2)).run Try.prog w = .ok (.agg #[.func (.func 113) #[] #[], .func (.func 111) #[] #[]]) w := fun _ => rfl
  go_enter Try.func58, Try.ntmps58
  go_wp2_with fail
  rw [HW.out]
  (with_reducible refine (roundings_any _).mono ?_)
  rintro e w1 ⟨rfl, hb⟩
  have LX := hid (LX.out.old hb)
  have LR := hid (LR.out.old hb)
  have X := hid (X.out.old hb)
  have B := hid (B.out.trans (hb.mono B.out.size))
  clear hb
  have hnM := LR.out.lt
  have LX := hid (LX.out.old (below_new' (o := .cells #[.func (.func 113) #[] #[], .func (.func 111) #[] #[]] 92)))
  have LR := hid (LR.out.old (below_new' (o := .cells #[.func (.func 113) #[] #[], .func (.func 111) #[] #[]] 92)))
  have X := hid (X.out.old (below_new' (o := .cells #[.func (.func 113) #[] #[], .func (.func 111) #[] #[]] 92)))
  have B := hid (B.out.alloc B.out.size (.cells #[.func (.func 113) #[] #[], .func (.func 111) #[] #[]] 92))
  have LM := hid (LocA.new (w := w1) (T := 92) (cs := #[.func (.func 113) #[] #[], .func (.func 111) #[] #[]]))
  go_wp2_with fail
  have LX := hid (LX.out.old (Below_drew1 (Below.refl _ _)))
  have LR := hid (LR.out.old (Below_drew1 (Below.refl _ _)))
  have X := hid (X.out.old (Below_drew1 (Below.refl _ _)))
  have LM := hid (LM.out.old (Below_drew1 (Below.refl _ _)))
  have B := hid (Below_drew1 B.out)
  have q0 := LM.out.c 0 (v := .func (.func 113) #[] #[]) rfl
  have q1 := LM.out.c 1 (v := .func (.func 111) #[] #[]) rfl
  have q2 := LX.out.c 0 (v := .bool s) rfl
  have q3 := LX.out.c 1 (v := .slice a n c) rfl
  have q4 := LX.out.c 2 (v := .slice b m d) rfl
  have hlM := LM.out.lt
  have hlX := LX.out.lt
  go_region_held3 (fun w' => w'.cell? ⟨w1.heap.size, 0, none⟩ = some (.func (.func 113) #[] #[]) ∧ w'.cell? ⟨w1.heap.size, 1, none⟩ = some (.func (.func 111) #[] #[]) ∧ w'.cell? ⟨w.heap.size, 0, none⟩ = some (.bool s) ∧ w'.cell? ⟨w.heap.size, 1, none⟩ = some (.slice a n c) ∧ w'.cell? ⟨w.heap.size, 2, none⟩ = some (.slice b m d)) (first | with_reducible exact ⟨q0, q1, q2, q3, q4⟩ | ((with_reducible refine ⟨(cell_set3 ?_).trans q0, (cell_set3 ?_).trans q1, (cell_set3 ?_).trans q2, (cell_set3 ?_).trans q3, (cell_set3 ?_).trans q4⟩) <;> omega) | go_keep) (first | (go_at_call 113; (with_reducible refine (half_o X.out).mono ?_); rintro e w2 ⟨s2, a2, n2, c2, b2, m2, d2, rfl, hr, hb⟩; have G := hid (hr.base B.out.size); have LX := hid (LX.out.old hb); have LR := hid (LR.out.old hb); have X := hid (X.out.old hb); have LM := hid (LM.out.old hb); have B := hid (B.out.trans (hb.mono B.out.size)); clear hr hb; have q0 := LM.out.c 0 (v := .func (.func 113) #[] #[]) rfl; have q1 := LM.out.c 1 (v := .func (.func 111) #[] #[]) rfl; have q2 := LX.out.c 0 (v := .bool s) rfl; have q3 := LX.out.c 1 (v := .slice a n c) rfl; have q4 := LX.out.c 2 (v := .slice b m d) rfl) | (go_at_call 87; (with_reducible refine (floorOf_o G.out.ra).mono ?_); rintro e w3 ⟨s3, a3, n3, c3, b3, m3, d3, rfl, hr, hb⟩; have F := hid (hr.base B.out.size); have LX := hid (LX.out.old hb); have LR := hid (LR.out.old hb); have X := hid (X.out.old hb); have LM := hid (LM.out.old hb); have G := hid (G.out.old hb); have B := hid (B.out.trans (hb.mono B.out.size)); clear hr hb; have q0 := LM.out.c 0 (v := .func (.func 113) #[] #[]) rfl; have q1 := LM.out.c 1 (v := .func (.func 111) #[] #[]) rfl; have q2 := LX.out.c 0 (v := .bool s) rfl; have q3 := LX.out.c 1 (v := .slice a n c) rfl; have q4 := LX.out.c 2 (v := .slice b m d) rfl) | (go_at_call 111; (with_reducible refine (unchanged_any _).mono ?_); rintro e w4 ⟨rfl, hb⟩; have LX := hid (LX.out.old hb); have LR := hid (LR.out.old hb); have X := hid (X.out.old hb); have LM := hid (LM.out.old hb); have G := hid (G.out.old hb); have F := hid (F.out.old hb); have B := hid (B.out.trans (hb.mono B.out.size)); clear hb; have q0 := LM.out.c 0 (v := .func (.func 113) #[] #[]) rfl; have q1 := LM.out.c 1 (v := .func (.func 111) #[] #[]) rfl; have q2 := LX.out.c 0 (v := .bool s) rfl; have q3 := LX.out.c 1 (v := .slice a n c) rfl; have q4 := LX.out.c 2 (v := .slice b m d) rfl; have f0 := LR.out.f 0; have f1 := LR.out.f 1; have f2 := LR.out.f 2; have p0 := LR.out.c 0 rfl; have p1 := LR.out.c 1 rfl; have p2 := LR.out.c 2 rfl; have R := hid (q_of HQ.out (RO.out (w := w) (N := w.heap.size + 1) F.out (Nat.le_refl _) (by omega) LR.out (by decide) B.out))))
  clear q0 q1 q2 q3 q4
  go_wp2
  exact bodyPost_ret (v := .agg #[.bool s3, .slice a3 n3 c3, .slice b3 m3 d3]) (by simp [results, Try.results58, go_sem, p0, p1, p2]) rfl R.out
theorem round_mid {w : World} {s : Bool} {v u : Value} {o : Option Rat}  (h : RA w s v u o) : Calls Try.prog 58 #[.int .i64 2, .agg #[.bool s, v, u]] w (RatO true (nearO o) w) := by
  obtain ⟨a, n, c, b, m, d, rfl, rfl⟩ := h.form
  exact round_mid_w  w h
set_option maxRecDepth 100000 in
set_option maxHeartbeats 12800000 in
theorem floor_o_w {s : Bool} {a : Option Addr} {n c : Nat} {b : Option Addr} {m d : Nat} {o : Option Rat}  (w : World) (h : RA w s (.slice a n c) (.slice b m d) o) :
    Calls Try.prog 19 #[.agg #[.bool s, .slice a n c, .slice b m d]] w (RatO true (floorO o) w) := by
  obtain ⟨Q, hQ⟩ : ∃ Q, Q = RatO true (floorO o) w := ⟨_, rfl⟩
  rw [← hQ]
  have HQ := hid hQ
  clear hQ
  have B := hid (show Below w.heap.size w ((w.alloc (.cells #[.bool s, .slice a n c, .slice b m d] 30)).alloc (.cells #[.bool false, .slice none 0 0, .slice none 0 0] 30)) from ((Below.refl _ _).alloc (Nat.le_refl _) _).alloc (by simp) _)
  have LX := hid (show LocA 30 ((w.alloc (.cells #[.bool s, .slice a n c, .slice b m d] 30)).alloc (.cells #[.bool false, .slice none 0 0, .slice none 0 0] 30)) (w.heap.size) #[.bool s, .slice a n c, .slice b m d] from (LocA.at (by simp)).new1)
  have LR := hid (show LocA 30 ((w.alloc (.cells #[.bool s, .slice a n c, .slice b m d] 30)).alloc (.cells #[.bool false, .slice none 0 0, .slice none 0 0] 30)) (w.heap.size + 1) #[.bool false, .slice none 0 0, .slice none 0 0] from LocA.at (by simp))
  have X := hid (h.old B.out)
  clear h
  generalize hW : (w.alloc (.cells #[.bool s, .slice a n c, .slice b m d] 30)).alloc (.cells #[.bool false, .slice none 0 0, .slice none 0 0] 30) = W0 at B X LX LR
  have HW := hid hW
  clear hW
  have hs0 := B.out.size
  have hw0 := LR.out.lt
  go_enter Try.func19, Try.ntmps19
  have q0 := LX.out.c 0 (v := .bool s) rfl
  have q1 := LX.out.c 1 (v := .slice a n c) rfl
  have q2 := LX.out.c 2 (v := .slice b m d) rfl
  go_wp2_with fail
  rw [HW.out]
  (with_reducible refine (round_down X.out).mono ?_)
  clear q0 q1 q2
  rintro e w1 ⟨s1, a1, n1, c1, b1, m1, d1, rfl, hr, hb⟩
  have F := hid (hr.base B.out.size)
  have LX := hid (LX.out.old hb)
  have LR := hid (LR.out.old hb)
  have X := hid (X.out.old hb)
  have B := hid (B.out.trans (hb.mono B.out.size))
  clear hr hb
  have f0 := LR.out.f 0
  have f1 := LR.out.f 1
  have f2 := LR.out.f 2
  have p0 := LR.out.c 0 rfl
  have p1 := LR.out.c 1 rfl
  have p2 := LR.out.c 2 rfl
  have R := hid (q_of HQ.out (RO.out (w := w) (N := w.heap.size + 1) F.out (Nat.le_refl _) (by omega) LR.out (by decide) B.out))
  go_wp2
  exact bodyPost_ret (v := .agg #[.bool s1, .slice a1 n1 c1, .slice b1 m1 d1]) (by simp [results, Try.results19, go_sem, p0, p1, p2]) rfl R.out
theorem floor_o {w : World} {s : Bool} {v u : Value} {o : Option Rat}  (h : RA w s v u o) : Calls Try.prog 19 #[.agg #[.bool s, v, u]] w (RatO true (floorO o) w) := by
  obtain ⟨a, n, c, b, m, d, rfl, rfl⟩ := h.form
  exact floor_o_w  w h
set_option maxRecDepth 100000 in
set_option maxHeartbeats 12800000 in
theorem ceil_o_w {s : Bool} {a : Option Addr} {n c : Nat} {b : Option Addr} {m d : Nat} {o : Option Rat}  (w : World) (h : RA w s (.slice a n c) (.slice b m d) o) :
    Calls Try.prog 24 #[.agg #[.bool s, .slice a n c, .slice b m d]] w (RatO true (ceilO o) w) := by
  obtain ⟨Q, hQ⟩ : ∃ Q, Q = RatO true (ceilO o) w := ⟨_, rfl⟩
  rw [← hQ]
  have HQ := hid hQ
  clear hQ
  have B := hid (show Below w.heap.size w ((w.alloc (.cells #[.bool s, .slice a n c, .slice b m d] 30)).alloc (.cells #[.bool false, .slice none 0 0, .slice none 0 0] 30)) from ((Below.refl _ _).alloc (Nat.le_refl _) _).alloc (by simp) _)
  have LX := hid (show LocA 30 ((w.alloc (.cells #[.bool s, .slice a n c, .slice b m d] 30)).alloc (.cells #[.bool false, .slice none 0 0, .slice none 0 0] 30)) (w.heap.size) #[.bool s, .slice a n c, .slice b m d] from (LocA.at (by simp)).new1)
  have LR := hid (show LocA 30 ((w.alloc (.cells #[.bool s, .slice a n c, .slice b m d] 30)).alloc (.cells #[.bool false, .slice none 0 0, .slice none 0 0] 30)) (w.heap.size + 1) #[.bool false, .slice none 0 0, .slice none 0 0] from LocA.at (by simp))
  have X := hid (h.old B.out)
  clear h
  generalize hW : (w.alloc (.cells #[.bool s, .slice a n c, .slice b m d] 30)).alloc (.cells #[.bool false, .slice none 0 0, .slice none 0 0] 30) = W0 at B X LX LR
  have HW := hid hW
  clear hW
  have hs0 := B.out.size
  have hw0 := LR.out.lt
  go_enter Try.func24, Try.ntmps24
  have q0 := LX.out.c 0 (v := .bool s) rfl
  have q1 := LX.out.c 1 (v := .slice a n c) rfl
  have q2 := LX.out.c 2 (v := .slice b m d) rfl
  go_wp2_with fail
  rw [HW.out]
  (with_reducible refine (round_up X.out).mono ?_)
  clear q0 q1 q2
  rintro e w1 ⟨s1, a1, n1, c1, b1, m1, d1, rfl, hr, hb⟩
  have F := hid (hr.base B.out.size)
  have LX := hid (LX.out.old hb)
  have LR := hid (LR.out.old hb)
  have X := hid (X.out.old hb)
  have B := hid (B.out.trans (hb.mono B.out.size))
  clear hr hb
  have f0 := LR.out.f 0
  have f1 := LR.out.f 1
  have f2 := LR.out.f 2
  have p0 := LR.out.c 0 rfl
  have p1 := LR.out.c 1 rfl
  have p2 := LR.out.c 2 rfl
  have R := hid (q_of HQ.out (RO.out (w := w) (N := w.heap.size + 1) F.out (Nat.le_refl _) (by omega) LR.out (by decide) B.out))
  go_wp2
  exact bodyPost_ret (v := .agg #[.bool s1, .slice a1 n1 c1, .slice b1 m1 d1]) (by simp [results, Try.results24, go_sem, p0, p1, p2]) rfl R.out
theorem ceil_o {w : World} {s : Bool} {v u : Value} {o : Option Rat}  (h : RA w s v u o) : Calls Try.prog 24 #[.agg #[.bool s, v, u]] w (RatO true (ceilO o) w) := by
  obtain ⟨a, n, c, b, m, d, rfl, rfl⟩ := h.form
  exact ceil_o_w  w h
end Go.Proofs.Ytookglpeieennaa
