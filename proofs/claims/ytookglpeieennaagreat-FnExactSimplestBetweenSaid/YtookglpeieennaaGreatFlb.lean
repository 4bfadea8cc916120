/- The program: rounding by its ways; floors, ceilings, the nearest integer, distances, counts. -/
import Derived.Test.YtookglpeieennaaGreatFla
import Derived.Deep.RegionHeld3
import Derived.Deep.DeepCutAuto
namespace Go.Proofs.YtookglpeieennaaGreat
open Go.RowKit
open Go.Lib (hid)
set_option linter.unusedVariables false

set_option maxRecDepth 100000 in
set_option maxHeartbeats 12800000 in
theorem round_down_w {s : Bool} {a : Option Addr} {n c : Nat} {b : Option Addr} {m d : Nat} {o : Option Rat}  (w : World) (h : RA w s (.slice a n c) (.slice b m d) o) :
    Calls Tryz.prog 43 #[.int .i64 0, .agg #[.bool s, .slice a n c, .slice b m d]] w (RatO true (floorO o) w) := by
  obtain ⟨Q, hQ⟩ : ∃ Q, Q = RatO true (floorO o) w := ⟨_, rfl⟩
  rw [← hQ]
  have HQ := hid hQ
  clear hQ
  have B := hid (show Below w.heap.size w ((w.alloc (.cells #[.bool s, .slice a n c, .slice b m d] 27)).alloc (.cells #[.bool false, .slice none 0 0, .slice none 0 0] 27)) from ((Below.refl _ _).alloc (Nat.le_refl _) _).alloc (by simp) _)
  have LX := hid (show LocA 27 ((w.alloc (.cells #[.bool s, .slice a n c, .slice b m d] 27)).alloc (.cells #[.bool false, .slice none 0 0, .slice none 0 0] 27)) (w.heap.size) #[.bool s, .slice a n c, .slice b m d] from (LocA.at (by simp)).new1)
  have LR := hid (show LocA 27 ((w.alloc (.cells #[.bool s, .slice a n c, .slice b m d] 27)).alloc (.cells #[.bool false, .slice none 0 0, .slice none 0 0] 27)) (w.heap.size + 1) #[.bool false, .slice none 0 0, .slice none 0 0] from LocA.at (by simp))
  have X := hid (h.old B.out)
  clear h
  generalize hW : (w.alloc (.cells #[.bool s, .slice a n c, .slice b m d] 27)).alloc (.cells #[.bool false, .slice none 0 0, .slice none 0 0] 27) = W0 at B X LX LR
  have HW := hid hW
  clear hW
  have hs0 := B.out.size
  have hw0 := LR.out.lt
  have hsf : ∀ (fn : Fn) (first cap : Array Value) (a : Addr) (m : Mode) (w : World), (store a (.func fn first cap) m).run Tryz.prog w = stored Tryz.prog w a (.func fn first cap) m := fun _ _ _ _ _ _ => run_store _ _ _ _ _ rfl
  have hix : ∀ (w : World), (Instr.index 87 (.agg #[.func (.func 131) #[] #[], .func (.func 131) #[] #[], .func (.func 23) #[] #[], .func (.func 23) #[] #[], .func (.func 132) #[] #[], .func (.func 131) #[] #[]]) (.int .i64 0)).run Tryz.prog w = .ok (.agg #[.func (.func 131) #[] #[], .func (.func 131) #[] #[]]) w := fun _ => rfl
  go_enter Tryz.func43, Tryz.ntmps43
  go_wp2_with fail
  rw [HW.out]
  (with_reducible refine (roundings_any _).mono ?_)
  rintro e w1 ⟨rfl, hb⟩
  have LX := hid (LX.out.old hb)
  have LR := hid (LR.out.old hb)
  have X := hid (X.out.old hb)
  have B := hid (B.out.trans (hb.mono B.out.size))
  clear hb
  have hnM := LR.out.lt
  have LX := hid (LX.out.old (below_new' (o := .cells #[.func (.func 131) #[] #[], .func (.func 131) #[] #[]] 86)))
  have LR := hid (LR.out.old (below_new' (o := .cells #[.func (.func 131) #[] #[], .func (.func 131) #[] #[]] 86)))
  have X := hid (X.out.old (below_new' (o := .cells #[.func (.func 131) #[] #[], .func (.func 131) #[] #[]] 86)))
  have B := hid (B.out.alloc B.out.size (.cells #[.func (.func 131) #[] #[], .func (.func 131) #[] #[]] 86))
  have LM := hid (LocA.new (w := w1) (T := 86) (cs := #[.func (.func 131) #[] #[], .func (.func 131) #[] #[]]))
  go_wp2_with fail
  have LX := hid (LX.out.old (Below_drew1 (Below.refl _ _)))
  have LR := hid (LR.out.old (Below_drew1 (Below.refl _ _)))
  have X := hid (X.out.old (Below_drew1 (Below.refl _ _)))
  have LM := hid (LM.out.old (Below_drew1 (Below.refl _ _)))
  have B := hid (Below_drew1 B.out)
  have q0 := LM.out.c 0 (v := .func (.func 131) #[] #[]) rfl
  have q1 := LM.out.c 1 (v := .func (.func 131) #[] #[]) rfl
  have q2 := LX.out.c 0 (v := .bool s) rfl
  have q3 := LX.out.c 1 (v := .slice a n c) rfl
  have q4 := LX.out.c 2 (v := .slice b m d) rfl
  have hlM := LM.out.lt
  have hlX := LX.out.lt
  go_region_held3 (fun w' => w'.cell? ⟨w1.heap.size, 0, none⟩ = some (.func (.func 131) #[] #[]) ∧ w'.cell? ⟨w1.heap.size, 1, none⟩ = some (.func (.func 131) #[] #[]) ∧ w'.cell? ⟨w.heap.size, 0, none⟩ = some (.bool s) ∧ w'.cell? ⟨w.heap.size, 1, none⟩ = some (.slice a n c) ∧ w'.cell? ⟨w.heap.size, 2, none⟩ = some (.slice b m d)) (first | exact ⟨q0, q1, q2, q3, q4⟩ | exact ⟨(cell_set3 (by omega)).trans q0, (cell_set3 (by omega)).trans q1, (cell_set3 (by omega)).trans q2, (cell_set3 (by omega)).trans q3, (cell_set3 (by omega)).trans q4⟩ | go_keep) (first | (go_at_call 131; (with_reducible refine (unchanged_any (s := s2) (a := a2) (n := n2) _).mono ?_); rintro e wx ⟨rfl, hb⟩; have LX := hid (LX.out.old hb); have LR := hid (LR.out.old hb); have X := hid (X.out.old hb); have LM := hid (LM.out.old hb); have F := hid (F.out.old hb); have B := hid (B.out.trans (hb.mono B.out.size)); clear hb; have q0 := LM.out.c 0 (v := .func (.func 131) #[] #[]) rfl; have q1 := LM.out.c 1 (v := .func (.func 131) #[] #[]) rfl; have q2 := LX.out.c 0 (v := .bool s) rfl; have q3 := LX.out.c 1 (v := .slice a n c) rfl; have q4 := LX.out.c 2 (v := .slice b m d) rfl; have f0 := LR.out.f 0; have f1 := LR.out.f 1; have f2 := LR.out.f 2; have p0 := LR.out.c 0 rfl; have p1 := LR.out.c 1 rfl; have p2 := LR.out.c 2 rfl; have R := hid (q_of HQ.out (RO.out (w := w) (N := w.heap.size + 1) F.out (Nat.le_refl _) (by omega) LR.out (by decide) B.out))) | (go_at_call 131; (with_reducible refine (unchanged_any _).mono ?_); rintro e wx ⟨rfl, hb⟩; have LX := hid (LX.out.old hb); have LR := hid (LR.out.old hb); have X := hid (X.out.old hb); have LM := hid (LM.out.old hb); have B := hid (B.out.trans (hb.mono B.out.size)); clear hb; have q0 := LM.out.c 0 (v := .func (.func 131) #[] #[]) rfl; have q1 := LM.out.c 1 (v := .func (.func 131) #[] #[]) rfl; have q2 := LX.out.c 0 (v := .bool s) rfl; have q3 := LX.out.c 1 (v := .slice a n c) rfl; have q4 := LX.out.c 2 (v := .slice b m d) rfl) | (go_at_call 97; (with_reducible refine (floorOf_o X.out).mono ?_); rintro e w2 ⟨s2, a2, n2, c2, b2, m2, d2, rfl, hr, hb⟩; have F := hid (hr.base B.out.size); have LX := hid (LX.out.old hb); have LR := hid (LR.out.old hb); have X := hid (X.out.old hb); have LM := hid (LM.out.old hb); have B := hid (B.out.trans (hb.mono B.out.size)); clear hr hb; have q0 := LM.out.c 0 (v := .func (.func 131) #[] #[]) rfl; have q1 := LM.out.c 1 (v := .func (.func 131) #[] #[]) rfl; have q2 := LX.out.c 0 (v := .bool s) rfl; have q3 := LX.out.c 1 (v := .slice a n c) rfl; have q4 := LX.out.c 2 (v := .slice b m d) rfl))
  clear q0 q1 q2 q3 q4
  go_wp2
  exact bodyPost_ret (v := .agg #[.bool s2, .slice a2 n2 c2, .slice b2 m2 d2]) (by simp [results, Tryz.results43, go_sem, p0, p1, p2]) rfl R.out
theorem round_down {w : World} {s : Bool} {v u : Value} {o : Option Rat}  (h : RA w s v u o) : Calls Tryz.prog 43 #[.int .i64 0, .agg #[.bool s, v, u]] w (RatO true (floorO o) w) := by
  obtain ⟨a, n, c, b, m, d, rfl, rfl⟩ := h.form
  exact round_down_w  w h
set_option maxRecDepth 100000 in
set_option maxHeartbeats 12800000 in
theorem round_up_w {s : Bool} {a : Option Addr} {n c : Nat} {b : Option Addr} {m d : Nat} {o : Option Rat}  (w : World) (h : RA w s (.slice a n c) (.slice b m d) o) :
    Calls Tryz.prog 43 #[.int .i64 1, .agg #[.bool s, .slice a n c, .slice b m d]] w (RatO true (ceilO o) w) := by
  obtain ⟨Q, hQ⟩ : ∃ Q, Q = RatO true (ceilO o) w := ⟨_, rfl⟩
  rw [← hQ]
  have HQ := hid hQ
  clear hQ
  have B := hid (show Below w.heap.size w ((w.alloc (.cells #[.bool s, .slice a n c, .slice b m d] 27)).alloc (.cells #[.bool false, .slice none 0 0, .slice none 0 0] 27)) from ((Below.refl _ _).alloc (Nat.le_refl _) _).alloc (by simp) _)
  have LX := hid (show LocA 27 ((w.alloc (.cells #[.bool s, .slice a n c, .slice b m d] 27)).alloc (.cells #[.bool false, .slice none 0 0, .slice none 0 0] 27)) (w.heap.size) #[.bool s, .slice a n c, .slice b m d] from (LocA.at (by simp)).new1)
  have LR := hid (show LocA 27 ((w.alloc (.cells #[.bool s, .slice a n c, .slice b m d] 27)).alloc (.cells #[.bool false, .slice none 0 0, .slice none 0 0] 27)) (w.heap.size + 1) #[.bool false, .slice none 0 0, .slice none 0 0] from LocA.at (by simp))
  have X := hid (h.old B.out)
  clear h
  generalize hW : (w.alloc (.cells #[.bool s, .slice a n c, .slice b m d] 27)).alloc (.cells #[.bool false, .slice none 0 0, .slice none 0 0] 27) = W0 at B X LX LR
  have HW := hid hW
  clear hW
  have hs0 := B.out.size
  have hw0 := LR.out.lt
  have hsf : ∀ (fn : Fn) (first cap : Array Value) (a : Addr) (m : Mode) (w : World), (store a (.func fn first cap) m).run Tryz.prog w = stored Tryz.prog w a (.func fn first cap) m := fun _ _ _ _ _ _ => run_store _ _ _ _ _ rfl
  have hix : ∀ (w : World), (Instr.index 87 (.agg #[.func (.func 131) #[] #[], .func (.func 131) #[] #[], .func (.func 23) #[] #[], .func (.func 23) #[] #[], .func (.func 132) #[] #[], .func (.func 131) #[] #[]]) (.int .i64 1)).run Tryz.prog w = .ok (.agg #[.func (.func 23) #[] #[], .func (.func 23) #[] #[]]) w := fun _ => rfl
  go_enter Tryz.func43, Tryz.ntmps43
  go_wp2_with fail
  rw [HW.out]
  (with_reducible refine (roundings_any _).mono ?_)
  rintro e w1 ⟨rfl, hb⟩
  have LX := hid (LX.out.old hb)
  have LR := hid (LR.out.old hb)
  have X := hid (X.out.old hb)
  have B := hid (B.out.trans (hb.mono B.out.size))
  clear hb
  have hnM := LR.out.lt
  have LX := hid (LX.out.old (below_new' (o := .cells #[.func (.func 23) #[] #[], .func (.func 23) #[] #[]] 86)))
  have LR := hid (LR.out.old (below_new' (o := .cells #[.func (.func 23) #[] #[], .func (.func 23) #[] #[]] 86)))
  have X := hid (X.out.old (below_new' (o := .cells #[.func (.func 23) #[] #[], .func (.func 23) #[] #[]] 86)))
  have B := hid (B.out.alloc B.out.size (.cells #[.func (.func 23) #[] #[], .func (.func 23) #[] #[]] 86))
  have LM := hid (LocA.new (w := w1) (T := 86) (cs := #[.func (.func 23) #[] #[], .func (.func 23) #[] #[]]))
  go_wp2_with fail
  have LX := hid (LX.out.old (Below_drew1 (Below.refl _ _)))
  have LR := hid (LR.out.old (Below_drew1 (Below.refl _ _)))
  have X := hid (X.out.old (Below_drew1 (Below.refl _ _)))
  have LM := hid (LM.out.old (Below_drew1 (Below.refl _ _)))
  have B := hid (Below_drew1 B.out)
  have q0 := LM.out.c 0 (v := .func (.func 23) #[] #[]) rfl
  have q1 := LM.out.c 1 (v := .func (.func 23) #[] #[]) rfl
  have q2 := LX.out.c 0 (v := .bool s) rfl
  have q3 := LX.out.c 1 (v := .slice a n c) rfl
  have q4 := LX.out.c 2 (v := .slice b m d) rfl
  have hlM := LM.out.lt
  have hlX := LX.out.lt
  go_region_held3 (fun w' => w'.cell? ⟨w1.heap.size, 0, none⟩ = some (.func (.func 23) #[] #[]) ∧ w'.cell? ⟨w1.heap.size, 1, none⟩ = some (.func (.func 23) #[] #[]) ∧ w'.cell? ⟨w.heap.size, 0, none⟩ = some (.bool s) ∧ w'.cell? ⟨w.heap.size, 1, none⟩ = some (.slice a n c) ∧ w'.cell? ⟨w.heap.size, 2, none⟩ = some (.slice b m d)) (first | with_reducible exact ⟨q0, q1, q2, q3, q4⟩ | ((with_reducible refine ⟨(cell_set3 ?_).trans q0, (cell_set3 ?_).trans q1, (cell_set3 ?_).trans q2, (cell_set3 ?_).trans q3, (cell_set3 ?_).trans q4⟩) <;> omega) | go_keep) (first | (go_at_call 23; (with_reducible refine (neg_o X.out).mono ?_); rintro e w2 ⟨s2, a2, n2, c2, b2, m2, d2, rfl, hr, hb⟩; have G := hid (hr.base B.out.size); have LX := hid (LX.out.old hb); have LR := hid (LR.out.old hb); have X := hid (X.out.old hb); have LM := hid (LM.out.old hb); have B := hid (B.out.trans (hb.mono B.out.size)); clear hr hb; have q0 := LM.out.c 0 (v := .func (.func 23) #[] #[]) rfl; have q1 := LM.out.c 1 (v := .func (.func 23) #[] #[]) rfl; have q2 := LX.out.c 0 (v := .bool s) rfl; have q3 := LX.out.c 1 (v := .slice a n c) rfl; have q4 := LX.out.c 2 (v := .slice b m d) rfl) | (go_at_call 97; (with_reducible refine (floorOf_o G.out.ra).mono ?_); rintro e w3 ⟨s3, a3, n3, c3, b3, m3, d3, rfl, hr, hb⟩; have F := hid (hr.base B.out.size); have LX := hid (LX.out.old hb); have LR := hid (LR.out.old hb); have X := hid (X.out.old hb); have LM := hid (LM.out.old hb); have G := hid (G.out.old hb); have B := hid (B.out.trans (hb.mono B.out.size)); clear hr hb; have q0 := LM.out.c 0 (v := .func (.func 23) #[] #[]) rfl; have q1 := LM.out.c 1 (v := .func (.func 23) #[] #[]) rfl; have q2 := LX.out.c 0 (v := .bool s) rfl; have q3 := LX.out.c 1 (v := .slice a n c) rfl; have q4 := LX.out.c 2 (v := .slice b m d) rfl) | (go_at_call 23; (with_reducible refine (neg_o F.out.ra).mono ?_); rintro e w4 ⟨s4, a4, n4, c4, b4, m4, d4, rfl, hr, hb⟩; have H := hid (hr.base B.out.size); have LX := hid (LX.out.old hb); have LR := hid (LR.out.old hb); have X := hid (X.out.old hb); have LM := hid (LM.out.old hb); have G := hid (G.out.old hb); have F := hid (F.out.old hb); have B := hid (B.out.trans (hb.mono B.out.size)); clear hr hb; have q0 := LM.out.c 0 (v := .func (.func 23) #[] #[]) rfl; have q1 := LM.out.c 1 (v := .func (.func 23) #[] #[]) rfl; have q2 := LX.out.c 0 (v := .bool s) rfl; have q3 := LX.out.c 1 (v := .slice a n c) rfl; have q4 := LX.out.c 2 (v := .slice b m d) rfl; have f0 := LR.out.f 0; have f1 := LR.out.f 1; have f2 := LR.out.f 2; have p0 := LR.out.c 0 rfl; have p1 := LR.out.c 1 rfl; have p2 := LR.out.c 2 rfl; have R := hid (q_of HQ.out (RO.out (w := w) (N := w.heap.size + 1) (hid (H.out.eqo (ceil_floor o))).out (Nat.le_refl _) (by omega) LR.out (by decide) B.out))))
  clear q0 q1 q2 q3 q4
  go_wp2
  exact bodyPost_ret (v := .agg #[.bool s4, .slice a4 n4 c4, .slice b4 m4 d4]) (by simp [results, Tryz.results43, go_sem, p0, p1, p2]) rfl R.out
theorem round_up {w : World} {s : Bool} {v u : Value} {o : Option Rat}  (h : RA w s v u o) : Calls Tryz.prog 43 #[.int .i64 1, .agg #[.bool s, v, u]] w (RatO true (ceilO o) w) := by
  obtain ⟨a, n, c, b, m, d, rfl, rfl⟩ := h.form
  exact round_up_w  w h
set_option maxRecDepth 100000 in
set_option maxHeartbeats 12800000 in
theorem round_mid_w {s : Bool} {a : Option Addr} {n c : Nat} {b : Option Addr} {m d : Nat} {o : Option Rat}  (w : World) (h : RA w s (.slice a n c) (.slice b m d) o) :
    Calls Tryz.prog 43 #[.int .i64 2, .agg #[.bool s, .slice a n c, .slice b m d]] w (RatO true (nearO o) w) := by
  obtain ⟨Q, hQ⟩ : ∃ Q, Q = RatO true (nearO o) w := ⟨_, rfl⟩
  rw [← hQ]
  have HQ := hid hQ
  clear hQ
  have B := hid (show Below w.heap.size w ((w.alloc (.cells #[.bool s, .slice a n c, .slice b m d] 27)).alloc (.cells #[.bool false, .slice none 0 0, .slice none 0 0] 27)) from ((Below.refl _ _).alloc (Nat.le_refl _) _).alloc (by simp) _)
  have LX := hid (show LocA 27 ((w.alloc (.cells #[.bool s, .slice a n c, .slice b m d] 27)).alloc (.cells #[.bool false, .slice none 0 0, .slice none 0 0] 27)) (w.heap.size) #[.bool s, .slice a n c, .slice b m d] from (LocA.at (by simp)).new1)
  have LR := hid (show LocA 27 ((w.alloc (.cells #[.bool s, .slice a n c, .slice b m d] 27)).alloc (.cells #[.bool false, .slice none 0 0, .slice none 0 0] 27)) (w.heap.size + 1) #[.bool false, .slice none 0 0, .slice none 0 0] from LocA.at (by simp))
  have X := hid (h.old B.out)
  clear h
  generalize hW : (w.alloc (.cells #[.bool s, .slice a n c, .slice b m d] 27)).alloc (.cells #[.bool false, .slice none 0 0, .slice none 0 0] 27) = W0 at B X LX LR
  have HW := hid hW
  clear hW
  have hs0 := B.out.size
  have hw0 := LR.out.lt
  have hsf : ∀ (fn : Fn) (first cap : Array Value) (a : Addr) (m : Mode) (w : World), (store a (.func fn first cap) m).run Tryz.prog w = stored Tryz.prog w a (.func fn first cap) m := fun _ _ _ _ _ _ => run_store _ _ _ _ _ rfl
  have hix : ∀ (w : World), (Instr.index 87 (.agg #[.func (.func 131) #[] #[], .func (.func 131) #[] #[], .func (.func 23) #[] #[], .func (.func 23) #[] #[], .func (.func 132) #[] #[], .func (.func 131) #[] #[]]) (.int .i64 2)).run Tryz.prog w = .ok (.agg #[.func (.func 132) #[] #[], .func (.func 131) #[] #[]]) w := fun _ => rfl
  go_enter Tryz.func43, Tryz.ntmps43
  go_wp2_with fail
  rw [HW.out]
  (with_reducible refine (roundings_any _).mono ?_)
  rintro e w1 ⟨rfl, hb⟩
  have LX := hid (LX.out.old hb)
  have LR := hid (LR.out.old hb)
  have X := hid (X.out.old hb)
  have B := hid (B.out.trans (hb.mono B.out.size))
  clear hb
  have hnM := LR.out.lt
  have LX := hid (LX.out.old (below_new' (o := .cells #[.func (.func 132) #[] #[], .func (.func 131) #[] #[]] 86)))
  have LR := hid (LR.out.old (below_new' (o := .cells #[.func (.func 132) #[] #[], .func (.func 131) #[] #[]] 86)))
  have X := hid (X.out.old (below_new' (o := .cells #[.func (.func 132) #[] #[], .func (.func 131) #[] #[]] 86)))
  have B := hid (B.out.alloc B.out.size (.cells #[.func (.func 132) #[] #[], .func (.func 131) #[] #[]] 86))
  have LM := hid (LocA.new (w := w1) (T := 86) (cs := #[.func (.func 132) #[] #[], .func (.func 131) #[] #[]]))
  go_wp2_with fail
  have LX := hid (LX.out.old (Below_drew1 (Below.refl _ _)))
  have LR := hid (LR.out.old (Below_drew1 (Below.refl _ _)))
  have X := hid (X.out.old (Below_drew1 (Below.refl _ _)))
  have LM := hid (LM.out.old (Below_drew1 (Below.refl _ _)))
  have B := hid (Below_drew1 B.out)
  have q0 := LM.out.c 0 (v := .func (.func 132) #[] #[]) rfl
  have q1 := LM.out.c 1 (v := .func (.func 131) #[] #[]) rfl
  have q2 := LX.out.c 0 (v := .bool s) rfl
  have q3 := LX.out.c 1 (v := .slice a n c) rfl
  have q4 := LX.out.c 2 (v := .slice b m d) rfl
  have hlM := LM.out.lt
  have hlX := LX.out.lt
  go_region_held3 (fun w' => w'.cell? ⟨w1.heap.size, 0, none⟩ = some (.func (.func 132) #[] #[]) ∧ w'.cell? ⟨w1.heap.size, 1, none⟩ = some (.func (.func 131) #[] #[]) ∧ w'.cell? ⟨w.heap.size, 0, none⟩ = some (.bool s) ∧ w'.cell? ⟨w.heap.size, 1, none⟩ = some (.slice a n c) ∧ w'.cell? ⟨w.heap.size, 2, none⟩ = some (.slice b m d)) (first | with_reducible exact ⟨q0, q1, q2, q3, q4⟩ | ((with_reducible refine ⟨(cell_set3 ?_).trans q0, (cell_set3 ?_).trans q1, (cell_set3 ?_).trans q2, (cell_set3 ?_).trans q3, (cell_set3 ?_).trans q4⟩) <;> omega) | go_keep) (first | (go_at_call 132; (with_reducible refine (half_o X.out).mono ?_); rintro e w2 ⟨s2, a2, n2, c2, b2, m2, d2, rfl, hr, hb⟩; have G := hid (hr.base B.out.size); have LX := hid (LX.out.old hb); have LR := hid (LR.out.old hb); have X := hid (X.out.old hb); have LM := hid (LM.out.old hb); have B := hid (B.out.trans (hb.mono B.out.size)); clear hr hb; have q0 := LM.out.c 0 (v := .func (.func 132) #[] #[]) rfl; have q1 := LM.out.c 1 (v := .func (.func 131) #[] #[]) rfl; have q2 := LX.out.c 0 (v := .bool s) rfl; have q3 := LX.out.c 1 (v := .slice a n c) rfl; have q4 := LX.out.c 2 (v := .slice b m d) rfl) | (go_at_call 97; (with_reducible refine (floorOf_o G.out.ra).mono ?_); rintro e w3 ⟨s3, a3, n3, c3, b3, m3, d3, rfl, hr, hb⟩; have F := hid (hr.base B.out.size); have LX := hid (LX.out.old hb); have LR := hid (LR.out.old hb); have X := hid (X.out.old hb); have LM := hid (LM.out.old hb); have G := hid (G.out.old hb); have B := hid (B.out.trans (hb.mono B.out.size)); clear hr hb; have q0 := LM.out.c 0 (v := .func (.func 132) #[] #[]) rfl; have q1 := LM.out.c 1 (v := .func (.func 131) #[] #[]) rfl; have q2 := LX.out.c 0 (v := .bool s) rfl; have q3 := LX.out.c 1 (v := .slice a n c) rfl; have q4 := LX.out.c 2 (v := .slice b m d) rfl) | (go_at_call 131; (with_reducible refine (unchanged_any _).mono ?_); rintro e w4 ⟨rfl, hb⟩; have LX := hid (LX.out.old hb); have LR := hid (LR.out.old hb); have X := hid (X.out.old hb); have LM := hid (LM.out.old hb); have G := hid (G.out.old hb); have F := hid (F.out.old hb); have B := hid (B.out.trans (hb.mono B.out.size)); clear hb; have q0 := LM.out.c 0 (v := .func (.func 132) #[] #[]) rfl; have q1 := LM.out.c 1 (v := .func (.func 131) #[] #[]) rfl; have q2 := LX.out.c 0 (v := .bool s) rfl; have q3 := LX.out.c 1 (v := .slice a n c) rfl; have q4 := LX.out.c 2 (v := .slice b m d) rfl; have f0 := LR.out.f 0; have f1 := LR.out.f 1; have f2 := LR.out.f 2; have p0 := LR.out.c 0 rfl; have p1 := LR.out.c 1 rfl; have p2 := LR.out.c 2 rfl; have R := hid (q_of HQ.out (RO.out (w := w) (N := w.heap.size + 1) F.out (Nat.le_refl _) (by omega) LR.out (by decide) B.out))))
  clear q0 q1 q2 q3 q4
  go_wp2
  exact bodyPost_ret (v := .agg #[.bool s3, .slice a3 n3 c3, .slice b3 m3 d3]) (by simp [results, Tryz.results43, go_sem, p0, p1, p2]) rfl R.out
theorem round_mid {w : World} {s : Bool} {v u : Value} {o : Option Rat}  (h : RA w s v u o) : Calls Tryz.prog 43 #[.int .i64 2, .agg #[.bool s, v, u]] w (RatO true (nearO o) w) := by
  obtain ⟨a, n, c, b, m, d, rfl, rfl⟩ := h.form
  exact round_mid_w  w h
set_option maxRecDepth 100000 in
set_option maxHeartbeats 12800000 in
theorem floor_o_w {s : Bool} {a : Option Addr} {n c : Nat} {b : Option Addr} {m d : Nat} {o : Option Rat}  (w : World) (h : RA w s (.slice a n c) (.slice b m d) o) :
    Calls Tryz.prog 11 #[.agg #[.bool s, .slice a n c, .slice b m d]] w (RatO true (floorO o) w) := by
  obtain ⟨Q, hQ⟩ : ∃ Q, Q = RatO true (floorO o) w := ⟨_, rfl⟩
  rw [← hQ]
  have HQ := hid hQ
  clear hQ
  have B := hid (show Below w.heap.size w ((w.alloc (.cells #[.bool s, .slice a n c, .slice b m d] 27)).alloc (.cells #[.bool false, .slice none 0 0, .slice none 0 0] 27)) from ((Below.refl _ _).alloc (Nat.le_refl _) _).alloc (by simp) _)
  have LX := hid (show LocA 27 ((w.alloc (.cells #[.bool s, .slice a n c, .slice b m d] 27)).alloc (.cells #[.bool false, .slice none 0 0, .slice none 0 0] 27)) (w.heap.size) #[.bool s, .slice a n c, .slice b m d] from (LocA.at (by simp)).new1)
  have LR := hid (show LocA 27 ((w.alloc (.cells #[.bool s, .slice a n c, .slice b m d] 27)).alloc (.cells #[.bool false, .slice none 0 0, .slice none 0 0] 27)) (w.heap.size + 1) #[.bool false, .slice none 0 0, .slice none 0 0] from LocA.at (by simp))
  have X := hid (h.old B.out)
  clear h
  generalize hW : (w.alloc (.cells #[.bool s, .slice a n c, .slice b m d] 27)).alloc (.cells #[.bool false, .slice none 0 0, .slice none 0 0] 27) = W0 at B X LX LR
  have HW := hid hW
  clear hW
  have hs0 := B.out.size
  have hw0 := LR.out.lt
  go_enter Tryz.func11, Tryz.ntmps11
  have q0 := LX.out.c 0 (v := .bool s) rfl
  have q1 := LX.out.c 1 (v := .slice a n c) rfl
  have q2 := LX.out.c 2 (v := .slice b m d) rfl
  go_wp2_with fail
  rw [HW.out]
  (with_reducible refine (round_down X.out).mono ?_)
  clear q0 q1 q2
  rintro e w1 ⟨s1, a1, n1, c1, b1, m1, d1, rfl, hr, hb⟩
  have F := hid (hr.base B.out.size)
  have LX := hid (LX.out.old hb)
  have LR := hid (LR.out.old hb)
  have X := hid (X.out.old hb)
  have B := hid (B.out.trans (hb.mono B.out.size))
  clear hr hb
  have f0 := LR.out.f 0
  have f1 := LR.out.f 1
  have f2 := LR.out.f 2
  have p0 := LR.out.c 0 rfl
  have p1 := LR.out.c 1 rfl
  have p2 := LR.out.c 2 rfl
  have R := hid (q_of HQ.out (RO.out (w := w) (N := w.heap.size + 1) F.out (Nat.le_refl _) (by omega) LR.out (by decide) B.out))
  go_wp2
  exact bodyPost_ret (v := .agg #[.bool s1, .slice a1 n1 c1, .slice b1 m1 d1]) (by simp [results, Tryz.results11, go_sem, p0, p1, p2]) rfl R.out
theorem floor_o {w : World} {s : Bool} {v u : Value} {o : Option Rat}  (h : RA w s v u o) : Calls Tryz.prog 11 #[.agg #[.bool s, v, u]] w (RatO true (floorO o) w) := by
  obtain ⟨a, n, c, b, m, d, rfl, rfl⟩ := h.form
  exact floor_o_w  w h
set_option maxRecDepth 100000 in
set_option maxHeartbeats 12800000 in
theorem ceil_o_w {s : Bool} {a : Option Addr} {n c : Nat} {b : Option Addr} {m d : Nat} {o : Option Rat}  (w : World) (h : RA w s (.slice a n c) (.slice b m d) o) :
    Calls Tryz.prog 12 #[.agg #[.bool s, .slice a n c, .slice b m d]] w (RatO true (ceilO o) w) := by
  obtain ⟨Q, hQ⟩ : ∃ Q, Q = RatO true (ceilO o) w := ⟨_, rfl⟩
  rw [← hQ]
  have HQ := hid hQ
  clear hQ
  have B := hid (show Below w.heap.size w ((w.alloc (.cells #[.bool s, .slice a n c, .slice b m d] 27)).alloc (.cells #[.bool false, .slice none 0 0, .slice none 0 0] 27)) from ((Below.refl _ _).alloc (Nat.le_refl _) _).alloc (by simp) _)
  have LX := hid (show LocA 27 ((w.alloc (.cells #[.bool s, .slice a n c, .slice b m d] 27)).alloc (.cells #[.bool false, .slice none 0 0, .slice none 0 0] 27)) (w.heap.size) #[.bool s, .slice a n c, .slice b m d] from (LocA.at (by simp)).new1)
  have LR := hid (show LocA 27 ((w.alloc (.cells #[.bool s, .slice a n c, .slice b m d] 27)).alloc (.cells #[.bool false, .slice none 0 0, .slice none 0 0] 27)) (w.heap.size + 1) #[.bool false, .slice none 0 0, .slice none 0 0] from LocA.at (by simp))
  have X := hid (h.old B.out)
  clear h
  generalize hW : (w.alloc (.cells #[.bool s, .slice a n c, .slice b m d] 27)).alloc (.cells #[.bool false, .slice none 0 0, .slice none 0 0] 27) = W0 at B X LX LR
  have HW := hid hW
  clear hW
  have hs0 := B.out.size
  have hw0 := LR.out.lt
  go_enter Tryz.func12, Tryz.ntmps12
  have q0 := LX.out.c 0 (v := .bool s) rfl
  have q1 := LX.out.c 1 (v := .slice a n c) rfl
  have q2 := LX.out.c 2 (v := .slice b m d) rfl
  go_wp2_with fail
  rw [HW.out]
  (with_reducible refine (round_up X.out).mono ?_)
  clear q0 q1 q2
  rintro e w1 ⟨s1, a1, n1, c1, b1, m1, d1, rfl, hr, hb⟩
  have F := hid (hr.base B.out.size)
  have LX := hid (LX.out.old hb)
  have LR := hid (LR.out.old hb)
  have X := hid (X.out.old hb)
  have B := hid (B.out.trans (hb.mono B.out.size))
  clear hr hb
  have f0 := LR.out.f 0
  have f1 := LR.out.f 1
  have f2 := LR.out.f 2
  have p0 := LR.out.c 0 rfl
  have p1 := LR.out.c 1 rfl
  have p2 := LR.out.c 2 rfl
  have R := hid (q_of HQ.out (RO.out (w := w) (N := w.heap.size + 1) F.out (Nat.le_refl _) (by omega) LR.out (by decide) B.out))
  go_wp2
  exact bodyPost_ret (v := .agg #[.bool s1, .slice a1 n1 c1, .slice b1 m1 d1]) (by simp [results, Tryz.results12, go_sem, p0, p1, p2]) rfl R.out
theorem ceil_o {w : World} {s : Bool} {v u : Value} {o : Option Rat}  (h : RA w s v u o) : Calls Tryz.prog 12 #[.agg #[.bool s, v, u]] w (RatO true (ceilO o) w) := by
  obtain ⟨a, n, c, b, m, d, rfl, rfl⟩ := h.form
  exact ceil_o_w  w h
set_option maxRecDepth 100000 in
set_option maxHeartbeats 12800000 in
theorem near_o_w {s : Bool} {a : Option Addr} {n c : Nat} {b : Option Addr} {m d : Nat} {o : Option Rat}  (w : World) (h : RA w s (.slice a n c) (.slice b m d) o) :
    Calls Tryz.prog 13 #[.agg #[.bool s, .slice a n c, .slice b m d]] w (RatO true (nearO o) w) := by
  obtain ⟨Q, hQ⟩ : ∃ Q, Q = RatO true (nearO o) w := ⟨_, rfl⟩
  rw [← hQ]
  have HQ := hid hQ
  clear hQ
  have B := hid (show Below w.heap.size w ((w.alloc (.cells #[.bool s, .slice a n c, .slice b m d] 27)).alloc (.cells #[.bool false, .slice none 0 0, .slice none 0 0] 27)) from ((Below.refl _ _).alloc (Nat.le_refl _) _).alloc (by simp) _)
  have LX := hid (show LocA 27 ((w.alloc (.cells #[.bool s, .slice a n c, .slice b m d] 27)).alloc (.cells #[.bool false, .slice none 0 0, .slice none 0 0] 27)) (w.heap.size) #[.bool s, .slice a n c, .slice b m d] from (LocA.at (by simp)).new1)
  have LR := hid (show LocA 27 ((w.alloc (.cells #[.bool s, .slice a n c, .slice b m d] 27)).alloc (.cells #[.bool false, .slice none 0 0, .slice none 0 0] 27)) (w.heap.size + 1) #[.bool false, .slice none 0 0, .slice none 0 0] from LocA.at (by simp))
  have X := hid (h.old B.out)
  clear h
  generalize hW : (w.alloc (.cells #[.bool s, .slice a n c, .slice b m d] 27)).alloc (.cells #[.bool false, .slice none 0 0, .slice none 0 0] 27) = W0 at B X LX LR
  have HW := hid hW
  clear hW
  have hs0 := B.out.size
  have hw0 := LR.out.lt
  go_enter Tryz.func13, Tryz.ntmps13
  have q0 := LX.out.c 0 (v := .bool s) rfl
  have q1 := LX.out.c 1 (v := .slice a n c) rfl
  have q2 := LX.out.c 2 (v := .slice b m d) rfl
  go_wp2_with fail
  rw [HW.out]
  (with_reducible refine (round_mid X.out).mono ?_)
  clear q0 q1 q2
  rintro e w1 ⟨s1, a1, n1, c1, b1, m1, d1, rfl, hr, hb⟩
  have F := hid (hr.base B.out.size)
  have LX := hid (LX.out.old hb)
  have LR := hid (LR.out.old hb)
  have X := hid (X.out.old hb)
  have B := hid (B.out.trans (hb.mono B.out.size))
  clear hr hb
  have f0 := LR.out.f 0
  have f1 := LR.out.f 1
  have f2 := LR.out.f 2
  have p0 := LR.out.c 0 rfl
  have p1 := LR.out.c 1 rfl
  have p2 := LR.out.c 2 rfl
  have R := hid (q_of HQ.out (RO.out (w := w) (N := w.heap.size + 1) F.out (Nat.le_refl _) (by omega) LR.out (by decide) B.out))
  go_wp2
  exact bodyPost_ret (v := .agg #[.bool s1, .slice a1 n1 c1, .slice b1 m1 d1]) (by simp [results, Tryz.results13, go_sem, p0, p1, p2]) rfl R.out
theorem near_o {w : World} {s : Bool} {v u : Value} {o : Option Rat}  (h : RA w s v u o) : Calls Tryz.prog 13 #[.agg #[.bool s, v, u]] w (RatO true (nearO o) w) := by
  obtain ⟨a, n, c, b, m, d, rfl, rfl⟩ := h.form
  exact near_o_w  w h
set_option maxRecDepth 100000 in
set_option maxHeartbeats 12800000 in
theorem frac_o_w {s : Bool} {a : Option Addr} {n c : Nat} {b : Option Addr} {m d : Nat} {o : Option Rat}  (w : World) (h : RA w s (.slice a n c) (.slice b m d) o) :
    Calls Tryz.prog 18 #[.agg #[.bool s, .slice a n c, .slice b m d]] w (RatO true (fracO o) w) := by
  obtain ⟨Q, hQ⟩ : ∃ Q, Q = RatO true (fracO o) w := ⟨_, rfl⟩
  rw [← hQ]
  have HQ := hid hQ
  clear hQ
  have B := hid (show Below w.heap.size w ((w.alloc (.cells #[.bool s, .slice a n c, .slice b m d] 27)).alloc (.cells #[.bool false, .slice none 0 0, .slice none 0 0] 27)) from ((Below.refl _ _).alloc (Nat.le_refl _) _).alloc (by simp) _)
  have LX := hid (show LocA 27 ((w.alloc (.cells #[.bool s, .slice a n c, .slice b m d] 27)).alloc (.cells #[.bool false, .slice none 0 0, .slice none 0 0] 27)) (w.heap.size) #[.bool s, .slice a n c, .slice b m d] from (LocA.at (by simp)).new1)
  have LR := hid (show LocA 27 ((w.alloc (.cells #[.bool s, .slice a n c, .slice b m d] 27)).alloc (.cells #[.bool false, .slice none 0 0, .slice none 0 0] 27)) (w.heap.size + 1) #[.bool false, .slice none 0 0, .slice none 0 0] from LocA.at (by simp))
  have X := hid (h.old B.out)
  clear h
  generalize hW : (w.alloc (.cells #[.bool s, .slice a n c, .slice b m d] 27)).alloc (.cells #[.bool false, .slice none 0 0, .slice none 0 0] 27) = W0 at B X LX LR
  have HW := hid hW
  clear hW
  have hs0 := B.out.size
  have hw0 := LR.out.lt
  go_enter Tryz.func18, Tryz.ntmps18
  go_wp2_with fail
  rw [HW.out]
  have LX := hid (LX.out.old (Below_drew1 (Below.refl _ _)))
  have LR := hid (LR.out.old (Below_drew1 (Below.refl _ _)))
  have X := hid (X.out.old (Below_drew1 (Below.refl _ _)))
  have B := hid (Below_drew1 B.out)
  have q0 := LX.out.c 0 (v := .bool s) rfl
  have q1 := LX.out.c 1 (v := .slice a n c) rfl
  have q2 := LX.out.c 2 (v := .slice b m d) rfl
  have hlX := LX.out.lt
  go_region_held3 (fun w' => w'.cell? ⟨w.heap.size, 0, none⟩ = some (.bool s) ∧ w'.cell? ⟨w.heap.size, 1, none⟩ = some (.slice a n c) ∧ w'.cell? ⟨w.heap.size, 2, none⟩ = some (.slice b m d)) (first | with_reducible exact ⟨q0, q1, q2⟩ | ((with_reducible refine ⟨(cell_set3 ?_).trans q0, (cell_set3 ?_).trans q1, (cell_set3 ?_).trans q2⟩) <;> omega) | go_keep) (first | (go_at_call 11; (with_reducible refine (floor_o X.out).mono ?_); rintro e w1 ⟨s1, a1, n1, c1, b1, m1, d1, rfl, hr, hb⟩; have F := hid (hr.base B.out.size); have LX := hid (LX.out.old hb); have LR := hid (LR.out.old hb); have X := hid (X.out.old hb); have B := hid (B.out.trans (hb.mono B.out.size)); clear hr hb; have q0 := LX.out.c 0 (v := .bool s) rfl; have q1 := LX.out.c 1 (v := .slice a n c) rfl; have q2 := LX.out.c 2 (v := .slice b m d) rfl) | (go_at_call 49; (with_reducible refine (sub_o X.out F.out.ra).mono ?_); rintro e w2 ⟨s2, a2, n2, c2, b2, m2, d2, rfl, hr, hb⟩; have R1 := hid (hr.base B.out.size); have LX := hid (LX.out.old hb); have LR := hid (LR.out.old hb); have X := hid (X.out.old hb); have F := hid (F.out.old hb); have B := hid (B.out.trans (hb.mono B.out.size)); clear hr hb; have q0 := LX.out.c 0 (v := .bool s) rfl; have q1 := LX.out.c 1 (v := .slice a n c) rfl; have q2 := LX.out.c 2 (v := .slice b m d) rfl; have f0 := LR.out.f 0; have f1 := LR.out.f 1; have f2 := LR.out.f 2; have p0 := LR.out.c 0 rfl; have p1 := LR.out.c 1 rfl; have p2 := LR.out.c 2 rfl; have R := hid (q_of HQ.out (RO.out (w := w) (N := w.heap.size + 1) R1.out (Nat.le_refl _) (by omega) LR.out (by decide) B.out))))
  clear q0 q1 q2
  go_wp2
  exact bodyPost_ret (v := .agg #[.bool s2, .slice a2 n2 c2, .slice b2 m2 d2]) (by simp [results, Tryz.results18, go_sem, p0, p1, p2]) rfl R.out
theorem frac_o {w : World} {s : Bool} {v u : Value} {o : Option Rat}  (h : RA w s v u o) : Calls Tryz.prog 18 #[.agg #[.bool s, v, u]] w (RatO true (fracO o) w) := by
  obtain ⟨a, n, c, b, m, d, rfl, rfl⟩ := h.form
  exact frac_o_w  w h
set_option maxRecDepth 100000 in
set_option maxHeartbeats 12800000 in
theorem dist_o_w {s : Bool} {a : Option Addr} {n c : Nat} {b : Option Addr} {m d : Nat} {o : Option Rat}  (w : World) (h : RA w s (.slice a n c) (.slice b m d) o) :
    Calls Tryz.prog 17 #[.agg #[.bool s, .slice a n c, .slice b m d]] w (RatO true (distO o) w) := by
  obtain ⟨Q, hQ⟩ : ∃ Q, Q = RatO true (distO o) w := ⟨_, rfl⟩
  rw [← hQ]
  have HQ := hid hQ
  clear hQ
  have B := hid (show Below w.heap.size w ((w.alloc (.cells #[.bool s, .slice a n c, .slice b m d] 27)).alloc (.cells #[.bool false, .slice none 0 0, .slice none 0 0] 27)) from ((Below.refl _ _).alloc (Nat.le_refl _) _).alloc (by simp) _)
  have LX := hid (show LocA 27 ((w.alloc (.cells #[.bool s, .slice a n c, .slice b m d] 27)).alloc (.cells #[.bool false, .slice none 0 0, .slice none 0 0] 27)) (w.heap.size) #[.bool s, .slice a n c, .slice b m d] from (LocA.at (by simp)).new1)
  have LR := hid (show LocA 27 ((w.alloc (.cells #[.bool s, .slice a n c, .slice b m d] 27)).alloc (.cells #[.bool false, .slice none 0 0, .slice none 0 0] 27)) (w.heap.size + 1) #[.bool false, .slice none 0 0, .slice none 0 0] from LocA.at (by simp))
  have X := hid (h.old B.out)
  clear h
  generalize hW : (w.alloc (.cells #[.bool s, .slice a n c, .slice b m d] 27)).alloc (.cells #[.bool false, .slice none 0 0, .slice none 0 0] 27) = W0 at B X LX LR
  have HW := hid hW
  clear hW
  have hs0 := B.out.size
  have hw0 := LR.out.lt
  go_enter Tryz.func17, Tryz.ntmps17
  have hnD := LR.out.lt
  go_upto_region 1 with fail
  rw [HW.out]
  go_cut [3] (fun sl wx => LaidO true W0 (bq subF o (nearO o)) sl wx)
  case first =>
    have LXD := hid (LX.out.old (Below_drew1 (Below.refl _ _)))
    have LXE := hid (LX.out.old (Below_drew1 (below_new' (o := .cells #[.bool false, .slice none 0 0, .slice none 0 0] 27))))
    have LRD := hid (LR.out.old (Below_drew1 (Below.refl _ _)))
    have LRE := hid (LR.out.old (Below_drew1 (below_new' (o := .cells #[.bool false, .slice none 0 0, .slice none 0 0] 27))))
    have XD := hid (X.out.old (Below_drew1 (Below.refl _ _)))
    have XE := hid (X.out.old (Below_drew1 (below_new' (o := .cells #[.bool false, .slice none 0 0, .slice none 0 0] 27))))
    have CD := hid (show Below W0.heap.size W0 W0.drew from Below_drew1 (Below.refl _ _))
    have CE := hid (show Below W0.heap.size W0 (W0.alloc (.cells #[.bool false, .slice none 0 0, .slice none 0 0] 27)).drew from Below_drew1 below_new')
    have NE := hid (show LocA 27 (W0.alloc (.cells #[.bool false, .slice none 0 0, .slice none 0 0] 27)).drew W0.heap.size #[.bool false, .slice none 0 0, .slice none 0 0] from LocA.new)
    have hlX := LX.out.lt
    have q0 := LXD.out.c 0 (v := .bool s) rfl
    have q1 := LXD.out.c 1 (v := .slice a n c) rfl
    have q2 := LXD.out.c 2 (v := .slice b m d) rfl
    have qE0 := LXE.out.c 0 (v := .bool s) rfl
    have qE1 := LXE.out.c 1 (v := .slice a n c) rfl
    have qE2 := LXE.out.c 2 (v := .slice b m d) rfl
    go_region_held3 (fun w' => w'.cell? ⟨w.heap.size, 0, none⟩ = some (.bool s) ∧ w'.cell? ⟨w.heap.size, 1, none⟩ = some (.slice a n c) ∧ w'.cell? ⟨w.heap.size, 2, none⟩ = some (.slice b m d)) (first | with_reducible exact ⟨q0, q1, q2⟩ | with_reducible exact ⟨qE0, qE1, qE2⟩ | ((with_reducible refine ⟨(LXC.out.new1).c 0 ?_, (LXC.out.new1).c 1 ?_, (LXC.out.new1).c 2 ?_⟩) <;> rfl) | ((with_reducible refine ⟨(cell_set3 ?_).trans q0, (cell_set3 ?_).trans q1, (cell_set3 ?_).trans q2⟩) <;> (have := NZ.out.2; omega)) | go_keep) (first | (go_at_call 13; (with_reducible refine (near_o (by first | with_reducible exact XC.out | with_reducible exact (XC.out.old (below_new' (o := .cells #[.bool false, .slice none 0 0, .slice none 0 0] 27))) | with_reducible exact XD.out | with_reducible exact XE.out)).mono ?_); rintro e wq ⟨gs, aa, nn, cc, bb, mm, dd, rfl, hr, hb⟩; have hr := hr.base (show W0.heap.size ≤ _ from by first | with_reducible exact CC.out.size | with_reducible exact Nat.le_trans CC.out.size (by simp) | with_reducible exact CD.out.size | with_reducible exact CE.out.size); (try (first | (have NZ := hid (And.intro (NZ.out.1.old hb) NZ.out.2)) | (have NZ := hid (And.intro (NE.out.old hb) (show W0.heap.size ≤ W0.heap.size from Nat.le_refl _))) | (have NZ := hid (And.intro ((LocA.new (T := 27) (cs := #[.bool false, .slice none 0 0, .slice none 0 0])).old hb) CC.out.size)))); (first | (have CC := hid (CC.out.trans (hb.mono CC.out.size))) | (have CC := hid ((CC.out.alloc CC.out.size (.cells #[.bool false, .slice none 0 0, .slice none 0 0] 27)).trans (hb.mono (Nat.le_trans CC.out.size (by simp))))) | (have CC := hid (CD.out.trans (hb.mono CD.out.size))) | (have CC := hid (CE.out.trans (hb.mono CE.out.size)))); (first | (with_reducible have LXC := hid (LXC.out.old hb)) | (with_reducible have LXC := hid ((LXC.out.old (below_new' (o := .cells #[.bool false, .slice none 0 0, .slice none 0 0] 27))).old hb)) | (with_reducible have LXC := hid (LXD.out.old hb)) | (with_reducible have LXC := hid (LXE.out.old hb))); (first | (with_reducible have LRC := hid (LRC.out.old hb)) | (with_reducible have LRC := hid ((LRC.out.old (below_new' (o := .cells #[.bool false, .slice none 0 0, .slice none 0 0] 27))).old hb)) | (with_reducible have LRC := hid (LRD.out.old hb)) | (with_reducible have LRC := hid (LRE.out.old hb))); (first | (with_reducible have XC := hid (XC.out.old hb)) | (with_reducible have XC := hid ((XC.out.old (below_new' (o := .cells #[.bool false, .slice none 0 0, .slice none 0 0] 27))).old hb)) | (with_reducible have XC := hid (XD.out.old hb)) | (with_reducible have XC := hid (XE.out.old hb))); have NC := hid hr; have q0 := LXC.out.c 0 (v := .bool s) rfl; have q1 := LXC.out.c 1 (v := .slice a n c) rfl; have q2 := LXC.out.c 2 (v := .slice b m d) rfl; clear hr hb) | (go_at_call 49; (with_reducible refine (sub_o (by first | with_reducible exact XC.out | with_reducible exact (XC.out.old (below_new' (o := .cells #[.bool false, .slice none 0 0, .slice none 0 0] 27))) | with_reducible exact XD.out | with_reducible exact XE.out) (by first | with_reducible exact NC.out.ra | with_reducible exact (NC.out.old (below_new' (o := .cells #[.bool false, .slice none 0 0, .slice none 0 0] 27))).ra)).mono ?_); rintro e wq ⟨gs, aa, nn, cc, bb, mm, dd, rfl, hr, hb⟩; have hr := hr.base (show W0.heap.size ≤ _ from by first | with_reducible exact CC.out.size | with_reducible exact Nat.le_trans CC.out.size (by simp) | with_reducible exact CD.out.size | with_reducible exact CE.out.size); (try (first | (have NZ := hid (And.intro (NZ.out.1.old hb) NZ.out.2)) | (have NZ := hid (And.intro (NE.out.old hb) (show W0.heap.size ≤ W0.heap.size from Nat.le_refl _))) | (have NZ := hid (And.intro ((LocA.new (T := 27) (cs := #[.bool false, .slice none 0 0, .slice none 0 0])).old hb) CC.out.size)))); (first | (have CC := hid (CC.out.trans (hb.mono CC.out.size))) | (have CC := hid ((CC.out.alloc CC.out.size (.cells #[.bool false, .slice none 0 0, .slice none 0 0] 27)).trans (hb.mono (Nat.le_trans CC.out.size (by simp))))) | (have CC := hid (CD.out.trans (hb.mono CD.out.size))) | (have CC := hid (CE.out.trans (hb.mono CE.out.size)))); (first | (with_reducible have LXC := hid (LXC.out.old hb)) | (with_reducible have LXC := hid ((LXC.out.old (below_new' (o := .cells #[.bool false, .slice none 0 0, .slice none 0 0] 27))).old hb)) | (with_reducible have LXC := hid (LXD.out.old hb)) | (with_reducible have LXC := hid (LXE.out.old hb))); (first | (with_reducible have LRC := hid (LRC.out.old hb)) | (with_reducible have LRC := hid ((LRC.out.old (below_new' (o := .cells #[.bool false, .slice none 0 0, .slice none 0 0] 27))).old hb)) | (with_reducible have LRC := hid (LRD.out.old hb)) | (with_reducible have LRC := hid (LRE.out.old hb))); (first | (with_reducible have XC := hid (XC.out.old hb)) | (with_reducible have XC := hid ((XC.out.old (below_new' (o := .cells #[.bool false, .slice none 0 0, .slice none 0 0] 27))).old hb)) | (with_reducible have XC := hid (XD.out.old hb)) | (with_reducible have XC := hid (XE.out.old hb))); (first | (with_reducible have NC := hid (NC.out.old hb)) | (with_reducible have NC := hid ((NC.out.old (below_new' (o := .cells #[.bool false, .slice none 0 0, .slice none 0 0] 27))).old hb))); have DC := hid hr; have q0 := LXC.out.c 0 (v := .bool s) rfl; have q1 := LXC.out.c 1 (v := .slice a n c) rfl; have q2 := LXC.out.c 2 (v := .slice b m d) rfl; (try (have f0 := NZ.out.1.f 0; have f1 := NZ.out.1.f 1; have f2 := NZ.out.1.f 2; have p0 := NZ.out.1.c 0 rfl; have p1 := NZ.out.1.c 1 rfl; have p2 := NZ.out.1.c 2 rfl)); clear hr hb))
    all_goals
      go_wp2_with fail
      go_meet
      first | with_reducible exact LaidO_a DC.out CC.out | with_reducible exact LaidO_b NZ.out.1 NZ.out.2 DC.out CC.out
  case rest =>
    generalize wc = w1 at hcut ⊢
    obtain ⟨g1, s1, a1, n1, c1, b1, m1, d1, rfl, hL, hR, hg, hb⟩ := hcut
    have LD := hid hL
    have D := hid (hR.base B.out.size)
    have hgD := hg
    have LX := hid (LX.out.old hb)
    have LR := hid (LR.out.old hb)
    have X := hid (X.out.old hb)
    have B := hid (B.out.trans (hb.mono B.out.size))
    clear hL hR hb hg
    go_wp2_with fail
    have LX := hid (LX.out.old (Below_drew1 (Below.refl _ _)))
    have LR := hid (LR.out.old (Below_drew1 (Below.refl _ _)))
    have X := hid (X.out.old (Below_drew1 (Below.refl _ _)))
    have D := hid (D.out.old (Below_drew1 (Below.refl _ _)))
    have LD := hid (LD.out.old (Below_drew1 (Below.refl _ _)))
    have B := hid (Below_drew1 B.out)
    have q0 := LD.out.c 0 (v := .bool s1) rfl
    have q1 := LD.out.c 1 (v := .slice a1 n1 c1) rfl
    have q2 := LD.out.c 2 (v := .slice b1 m1 d1) rfl
    have hlD := LD.out.lt
    go_region_held3 (fun w' => w'.cell? ⟨g1, 0, none⟩ = some (.bool s1) ∧ w'.cell? ⟨g1, 1, none⟩ = some (.slice a1 n1 c1) ∧ w'.cell? ⟨g1, 2, none⟩ = some (.slice b1 m1 d1)) (first | with_reducible exact ⟨q0, q1, q2⟩ | ((with_reducible refine ⟨(cell_set3 ?_).trans q0, (cell_set3 ?_).trans q1, (cell_set3 ?_).trans q2⟩) <;> omega) | go_keep) (first | (go_at_call 23; (with_reducible refine (neg_o D.out.ra).mono ?_); rintro e w2 ⟨s2, a2, n2, c2, b2, m2, d2, rfl, hr, hb⟩; have G := hid (hr.base B.out.size); have LX := hid (LX.out.old hb); have LR := hid (LR.out.old hb); have X := hid (X.out.old hb); have D := hid (D.out.old hb); have LD := hid (LD.out.old hb); have B := hid (B.out.trans (hb.mono B.out.size)); clear hr hb; have q0 := LD.out.c 0 (v := .bool s1) rfl; have q1 := LD.out.c 1 (v := .slice a1 n1 c1) rfl; have q2 := LD.out.c 2 (v := .slice b1 m1 d1) rfl) | (go_at_call 50; (with_reducible refine (max_o D.out.ra G.out.ra).mono ?_); rintro e w3 ⟨s3, a3, n3, c3, b3, m3, d3, rfl, hr, hb⟩; have R1 := hid (hr.base B.out.size); have LX := hid (LX.out.old hb); have LR := hid (LR.out.old hb); have X := hid (X.out.old hb); have D := hid (D.out.old hb); have LD := hid (LD.out.old hb); have G := hid (G.out.old hb); have B := hid (B.out.trans (hb.mono B.out.size)); clear hr hb; have q0 := LD.out.c 0 (v := .bool s1) rfl; have q1 := LD.out.c 1 (v := .slice a1 n1 c1) rfl; have q2 := LD.out.c 2 (v := .slice b1 m1 d1) rfl; have f0 := LR.out.f 0; have f1 := LR.out.f 1; have f2 := LR.out.f 2; have p0 := LR.out.c 0 rfl; have p1 := LR.out.c 1 rfl; have p2 := LR.out.c 2 rfl; have R := hid (q_of HQ.out (RO.out (w := w) (N := w.heap.size + 1) (hid (R1.out.eqo (abs_max _))).out (Nat.le_refl _) (by omega) LR.out (by decide) B.out))))
    clear q0 q1 q2
    go_wp2
    exact bodyPost_ret (v := .agg #[.bool s3, .slice a3 n3 c3, .slice b3 m3 d3]) (by simp [results, Tryz.results17, go_sem, p0, p1, p2]) rfl R.out
theorem dist_o {w : World} {s : Bool} {v u : Value} {o : Option Rat}  (h : RA w s v u o) : Calls Tryz.prog 17 #[.agg #[.bool s, v, u]] w (RatO true (distO o) w) := by
  obtain ⟨a, n, c, b, m, d, rfl, rfl⟩ := h.form
  exact dist_o_w  w h
set_option maxRecDepth 100000 in
set_option maxHeartbeats 12800000 in
theorem count_o_w {s : Bool} {a : Option Addr} {n c : Nat} {b : Option Addr} {m d : Nat} {t : Bool} {a' : Option Addr} {n' c' : Nat} {b' : Option Addr} {m' d' : Nat} {o : Option Rat} {o' : Option Rat}  (w : World) (h : RA w s (.slice a n c) (.slice b m d) o) (h' : RA w t (.slice a' n' c') (.slice b' m' d') o') :
    Calls Tryz.prog 29 #[.agg #[.bool s, .slice a n c, .slice b m d], .agg #[.bool t, .slice a' n' c', .slice b' m' d']] w (RatO true (countO o o') w) := by
  obtain ⟨Q, hQ⟩ : ∃ Q, Q = RatO true (countO o o') w := ⟨_, rfl⟩
  rw [← hQ]
  have HQ := hid hQ
  clear hQ
  have B := hid (show Below w.heap.size w (((w.alloc (.cells #[.bool s, .slice a n c, .slice b m d] 27)).alloc (.cells #[.bool t, .slice a' n' c', .slice b' m' d'] 27)).alloc (.cells #[.bool false, .slice none 0 0, .slice none 0 0] 27)) from (((Below.refl _ _).alloc (Nat.le_refl _) _).alloc (by simp) _).alloc (by simp; try omega) _)
  have LX := hid (show LocA 27 (((w.alloc (.cells #[.bool s, .slice a n c, .slice b m d] 27)).alloc (.cells #[.bool t, .slice a' n' c', .slice b' m' d'] 27)).alloc (.cells #[.bool false, .slice none 0 0, .slice none 0 0] 27)) (w.heap.size) #[.bool s, .slice a n c, .slice b m d] from (LocA.at (by simp)).new1.new1)
  have LY := hid (show LocA 27 (((w.alloc (.cells #[.bool s, .slice a n c, .slice b m d] 27)).alloc (.cells #[.bool t, .slice a' n' c', .slice b' m' d'] 27)).alloc (.cells #[.bool false, .slice none 0 0, .slice none 0 0] 27)) (w.heap.size + 1) #[.bool t, .slice a' n' c', .slice b' m' d'] from (LocA.at (by simp)).new1)
  have LR := hid (show LocA 27 (((w.alloc (.cells #[.bool s, .slice a n c, .slice b m d] 27)).alloc (.cells #[.bool t, .slice a' n' c', .slice b' m' d'] 27)).alloc (.cells #[.bool false, .slice none 0 0, .slice none 0 0] 27)) (w.heap.size + 1 + 1) #[.bool false, .slice none 0 0, .slice none 0 0] from LocA.at (by simp))
  have X := hid (h.old B.out)
  have Y := hid (h'.old B.out)
  clear h h'
  generalize hW : ((w.alloc (.cells #[.bool s, .slice a n c, .slice b m d] 27)).alloc (.cells #[.bool t, .slice a' n' c', .slice b' m' d'] 27)).alloc (.cells #[.bool false, .slice none 0 0, .slice none 0 0] 27) = W0 at B X LX Y LY LR
  have HW := hid hW
  clear hW
  have hs0 := B.out.size
  have hw0 := LR.out.lt
  go_enter Tryz.func29, Tryz.ntmps29
  have hnD := LR.out.lt
  go_upto_region 1 with fail
  rw [HW.out]
  go_cut [5] (fun sl wx => LaidO true W0 (bq subF (floorO o') (ceilO o)) sl wx)
  case first =>
    have LXD := hid (LX.out.old (Below_drew1 (Below.refl _ _)))
    have LXE := hid (LX.out.old (Below_drew1 (below_new' (o := .cells #[.bool false, .slice none 0 0, .slice none 0 0] 27))))
    have LYD := hid (LY.out.old (Below_drew1 (Below.refl _ _)))
    have LYE := hid (LY.out.old (Below_drew1 (below_new' (o := .cells #[.bool false, .slice none 0 0, .slice none 0 0] 27))))
    have LRD := hid (LR.out.old (Below_drew1 (Below.refl _ _)))
    have LRE := hid (LR.out.old (Below_drew1 (below_new' (o := .cells #[.bool false, .slice none 0 0, .slice none 0 0] 27))))
    have XD := hid (X.out.old (Below_drew1 (Below.refl _ _)))
    have XE := hid (X.out.old (Below_drew1 (below_new' (o := .cells #[.bool false, .slice none 0 0, .slice none 0 0] 27))))
    have YD := hid (Y.out.old (Below_drew1 (Below.refl _ _)))
    have YE := hid (Y.out.old (Below_drew1 (below_new' (o := .cells #[.bool false, .slice none 0 0, .slice none 0 0] 27))))
    have CD := hid (show Below W0.heap.size W0 W0.drew from Below_drew1 (Below.refl _ _))
    have CE := hid (show Below W0.heap.size W0 (W0.alloc (.cells #[.bool false, .slice none 0 0, .slice none 0 0] 27)).drew from Below_drew1 below_new')
    have NE := hid (show LocA 27 (W0.alloc (.cells #[.bool false, .slice none 0 0, .slice none 0 0] 27)).drew W0.heap.size #[.bool false, .slice none 0 0, .slice none 0 0] from LocA.new)
    have hlY := LY.out.lt
    have hlX := LX.out.lt
    have q0 := LYD.out.c 0 (v := .bool t) rfl
    have q1 := LYD.out.c 1 (v := .slice a' n' c') rfl
    have q2 := LYD.out.c 2 (v := .slice b' m' d') rfl
    have q3 := LXD.out.c 0 (v := .bool s) rfl
    have q4 := LXD.out.c 1 (v := .slice a n c) rfl
    have q5 := LXD.out.c 2 (v := .slice b m d) rfl
    have qE0 := LYE.out.c 0 (v := .bool t) rfl
    have qE1 := LYE.out.c 1 (v := .slice a' n' c') rfl
    have qE2 := LYE.out.c 2 (v := .slice b' m' d') rfl
    have qE3 := LXE.out.c 0 (v := .bool s) rfl
    have qE4 := LXE.out.c 1 (v := .slice a n c) rfl
    have qE5 := LXE.out.c 2 (v := .slice b m d) rfl
    go_region_held3 (fun w' => w'.cell? ⟨w.heap.size + 1, 0, none⟩ = some (.bool t) ∧ w'.cell? ⟨w.heap.size + 1, 1, none⟩ = some (.slice a' n' c') ∧ w'.cell? ⟨w.heap.size + 1, 2, none⟩ = some (.slice b' m' d') ∧ w'.cell? ⟨w.heap.size, 0, none⟩ = some (.bool s) ∧ w'.cell? ⟨w.heap.size, 1, none⟩ = some (.slice a n c) ∧ w'.cell? ⟨w.heap.size, 2, none⟩ = some (.slice b m d)) (first | with_reducible exact ⟨q0, q1, q2, q3, q4, q5⟩ | with_reducible exact ⟨qE0, qE1, qE2, qE3, qE4, qE5⟩ | ((with_reducible refine ⟨(LYC.out.new1).c 0 ?_, (LYC.out.new1).c 1 ?_, (LYC.out.new1).c 2 ?_, (LXC.out.new1).c 0 ?_, (LXC.out.new1).c 1 ?_, (LXC.out.new1).c 2 ?_⟩) <;> rfl) | ((with_reducible refine ⟨(cell_set3 ?_).trans q0, (cell_set3 ?_).trans q1, (cell_set3 ?_).trans q2, (cell_set3 ?_).trans q3, (cell_set3 ?_).trans q4, (cell_set3 ?_).trans q5⟩) <;> (have := NZ.out.2; omega)) | go_keep) (first | (go_at_call 11; (with_reducible refine (floor_o (by first | with_reducible exact YC.out | with_reducible exact (YC.out.old (below_new' (o := .cells #[.bool false, .slice none 0 0, .slice none 0 0] 27))) | with_reducible exact YD.out | with_reducible exact YE.out)).mono ?_); rintro e wq ⟨gs, aa, nn, cc, bb, mm, dd, rfl, hr, hb⟩; have hr := hr.base (show W0.heap.size ≤ _ from by first | with_reducible exact CC.out.size | with_reducible exact Nat.le_trans CC.out.size (by simp) | with_reducible exact CD.out.size | with_reducible exact CE.out.size); (try (first | (have NZ := hid (And.intro (NZ.out.1.old hb) NZ.out.2)) | (have NZ := hid (And.intro (NE.out.old hb) (show W0.heap.size ≤ W0.heap.size from Nat.le_refl _))) | (have NZ := hid (And.intro ((LocA.new (T := 27) (cs := #[.bool false, .slice none 0 0, .slice none 0 0])).old hb) CC.out.size)))); (first | (have CC := hid (CC.out.trans (hb.mono CC.out.size))) | (have CC := hid ((CC.out.alloc CC.out.size (.cells #[.bool false, .slice none 0 0, .slice none 0 0] 27)).trans (hb.mono (Nat.le_trans CC.out.size (by simp))))) | (have CC := hid (CD.out.trans (hb.mono CD.out.size))) | (have CC := hid (CE.out.trans (hb.mono CE.out.size)))); (first | (with_reducible have LXC := hid (LXC.out.old hb)) | (with_reducible have LXC := hid ((LXC.out.old (below_new' (o := .cells #[.bool false, .slice none 0 0, .slice none 0 0] 27))).old hb)) | (with_reducible have LXC := hid (LXD.out.old hb)) | (with_reducible have LXC := hid (LXE.out.old hb))); (first | (with_reducible have LYC := hid (LYC.out.old hb)) | (with_reducible have LYC := hid ((LYC.out.old (below_new' (o := .cells #[.bool false, .slice none 0 0, .slice none 0 0] 27))).old hb)) | (with_reducible have LYC := hid (LYD.out.old hb)) | (with_reducible have LYC := hid (LYE.out.old hb))); (first | (with_reducible have LRC := hid (LRC.out.old hb)) | (with_reducible have LRC := hid ((LRC.out.old (below_new' (o := .cells #[.bool false, .slice none 0 0, .slice none 0 0] 27))).old hb)) | (with_reducible have LRC := hid (LRD.out.old hb)) | (with_reducible have LRC := hid (LRE.out.old hb))); (first | (with_reducible have XC := hid (XC.out.old hb)) | (with_reducible have XC := hid ((XC.out.old (below_new' (o := .cells #[.bool false, .slice none 0 0, .slice none 0 0] 27))).old hb)) | (with_reducible have XC := hid (XD.out.old hb)) | (with_reducible have XC := hid (XE.out.old hb))); (first | (with_reducible have YC := hid (YC.out.old hb)) | (with_reducible have YC := hid ((YC.out.old (below_new' (o := .cells #[.bool false, .slice none 0 0, .slice none 0 0] 27))).old hb)) | (with_reducible have YC := hid (YD.out.old hb)) | (with_reducible have YC := hid (YE.out.old hb))); have FC := hid hr; have q0 := LYC.out.c 0 (v := .bool t) rfl; have q1 := LYC.out.c 1 (v := .slice a' n' c') rfl; have q2 := LYC.out.c 2 (v := .slice b' m' d') rfl; have q3 := LXC.out.c 0 (v := .bool s) rfl; have q4 := LXC.out.c 1 (v := .slice a n c) rfl; have q5 := LXC.out.c 2 (v := .slice b m d) rfl; clear hr hb) | (go_at_call 12; (with_reducible refine (ceil_o (by first | with_reducible exact XC.out | with_reducible exact (XC.out.old (below_new' (o := .cells #[.bool false, .slice none 0 0, .slice none 0 0] 27))) | with_reducible exact XD.out | with_reducible exact XE.out)).mono ?_); rintro e wq ⟨gs, aa, nn, cc, bb, mm, dd, rfl, hr, hb⟩; have hr := hr.base (show W0.heap.size ≤ _ from by first | with_reducible exact CC.out.size | with_reducible exact Nat.le_trans CC.out.size (by simp) | with_reducible exact CD.out.size | with_reducible exact CE.out.size); (try (first | (have NZ := hid (And.intro (NZ.out.1.old hb) NZ.out.2)) | (have NZ := hid (And.intro (NE.out.old hb) (show W0.heap.size ≤ W0.heap.size from Nat.le_refl _))) | (have NZ := hid (And.intro ((LocA.new (T := 27) (cs := #[.bool false, .slice none 0 0, .slice none 0 0])).old hb) CC.out.size)))); (first | (have CC := hid (CC.out.trans (hb.mono CC.out.size))) | (have CC := hid ((CC.out.alloc CC.out.size (.cells #[.bool false, .slice none 0 0, .slice none 0 0] 27)).trans (hb.mono (Nat.le_trans CC.out.size (by simp))))) | (have CC := hid (CD.out.trans (hb.mono CD.out.size))) | (have CC := hid (CE.out.trans (hb.mono CE.out.size)))); (first | (with_reducible have LXC := hid (LXC.out.old hb)) | (with_reducible have LXC := hid ((LXC.out.old (below_new' (o := .cells #[.bool false, .slice none 0 0, .slice none 0 0] 27))).old hb)) | (with_reducible have LXC := hid (LXD.out.old hb)) | (with_reducible have LXC := hid (LXE.out.old hb))); (first | (with_reducible have LYC := hid (LYC.out.old hb)) | (with_reducible have LYC := hid ((LYC.out.old (below_new' (o := .cells #[.bool false, .slice none 0 0, .slice none 0 0] 27))).old hb)) | (with_reducible have LYC := hid (LYD.out.old hb)) | (with_reducible have LYC := hid (LYE.out.old hb))); (first | (with_reducible have LRC := hid (LRC.out.old hb)) | (with_reducible have LRC := hid ((LRC.out.old (below_new' (o := .cells #[.bool false, .slice none 0 0, .slice none 0 0] 27))).old hb)) | (with_reducible have LRC := hid (LRD.out.old hb)) | (with_reducible have LRC := hid (LRE.out.old hb))); (first | (with_reducible have XC := hid (XC.out.old hb)) | (with_reducible have XC := hid ((XC.out.old (below_new' (o := .cells #[.bool false, .slice none 0 0, .slice none 0 0] 27))).old hb)) | (with_reducible have XC := hid (XD.out.old hb)) | (with_reducible have XC := hid (XE.out.old hb))); (first | (with_reducible have YC := hid (YC.out.old hb)) | (with_reducible have YC := hid ((YC.out.old (below_new' (o := .cells #[.bool false, .slice none 0 0, .slice none 0 0] 27))).old hb)) | (with_reducible have YC := hid (YD.out.old hb)) | (with_reducible have YC := hid (YE.out.old hb))); (first | (with_reducible have FC := hid (FC.out.old hb)) | (with_reducible have FC := hid ((FC.out.old (below_new' (o := .cells #[.bool false, .slice none 0 0, .slice none 0 0] 27))).old hb))); have UC := hid hr; have q0 := LYC.out.c 0 (v := .bool t) rfl; have q1 := LYC.out.c 1 (v := .slice a' n' c') rfl; have q2 := LYC.out.c 2 (v := .slice b' m' d') rfl; have q3 := LXC.out.c 0 (v := .bool s) rfl; have q4 := LXC.out.c 1 (v := .slice a n c) rfl; have q5 := LXC.out.c 2 (v := .slice b m d) rfl; clear hr hb) | (go_at_call 49; (with_reducible refine (sub_o (by first | with_reducible exact FC.out.ra | with_reducible exact (FC.out.old (below_new' (o := .cells #[.bool false, .slice none 0 0, .slice none 0 0] 27))).ra) (by first | with_reducible exact UC.out.ra | with_reducible exact (UC.out.old (below_new' (o := .cells #[.bool false, .slice none 0 0, .slice none 0 0] 27))).ra)).mono ?_); rintro e wq ⟨gs, aa, nn, cc, bb, mm, dd, rfl, hr, hb⟩; have hr := hr.base (show W0.heap.size ≤ _ from by first | with_reducible exact CC.out.size | with_reducible exact Nat.le_trans CC.out.size (by simp) | with_reducible exact CD.out.size | with_reducible exact CE.out.size); (try (first | (have NZ := hid (And.intro (NZ.out.1.old hb) NZ.out.2)) | (have NZ := hid (And.intro (NE.out.old hb) (show W0.heap.size ≤ W0.heap.size from Nat.le_refl _))) | (have NZ := hid (And.intro ((LocA.new (T := 27) (cs := #[.bool false, .slice none 0 0, .slice none 0 0])).old hb) CC.out.size)))); (first | (have CC := hid (CC.out.trans (hb.mono CC.out.size))) | (have CC := hid ((CC.out.alloc CC.out.size (.cells #[.bool false, .slice none 0 0, .slice none 0 0] 27)).trans (hb.mono (Nat.le_trans CC.out.size (by simp))))) | (have CC := hid (CD.out.trans (hb.mono CD.out.size))) | (have CC := hid (CE.out.trans (hb.mono CE.out.size)))); (first | (with_reducible have LXC := hid (LXC.out.old hb)) | (with_reducible have LXC := hid ((LXC.out.old (below_new' (o := .cells #[.bool false, .slice none 0 0, .slice none 0 0] 27))).old hb)) | (with_reducible have LXC := hid (LXD.out.old hb)) | (with_reducible have LXC := hid (LXE.out.old hb))); (first | (with_reducible have LYC := hid (LYC.out.old hb)) | (with_reducible have LYC := hid ((LYC.out.old (below_new' (o := .cells #[.bool false, .slice none 0 0, .slice none 0 0] 27))).old hb)) | (with_reducible have LYC := hid (LYD.out.old hb)) | (with_reducible have LYC := hid (LYE.out.old hb))); (first | (with_reducible have LRC := hid (LRC.out.old hb)) | (with_reducible have LRC := hid ((LRC.out.old (below_new' (o := .cells #[.bool false, .slice none 0 0, .slice none 0 0] 27))).old hb)) | (with_reducible have LRC := hid (LRD.out.old hb)) | (with_reducible have LRC := hid (LRE.out.old hb))); (first | (with_reducible have XC := hid (XC.out.old hb)) | (with_reducible have XC := hid ((XC.out.old (below_new' (o := .cells #[.bool false, .slice none 0 0, .slice none 0 0] 27))).old hb)) | (with_reducible have XC := hid (XD.out.old hb)) | (with_reducible have XC := hid (XE.out.old hb))); (first | (with_reducible have YC := hid (YC.out.old hb)) | (with_reducible have YC := hid ((YC.out.old (below_new' (o := .cells #[.bool false, .slice none 0 0, .slice none 0 0] 27))).old hb)) | (with_reducible have YC := hid (YD.out.old hb)) | (with_reducible have YC := hid (YE.out.old hb))); (first | (with_reducible have FC := hid (FC.out.old hb)) | (with_reducible have FC := hid ((FC.out.old (below_new' (o := .cells #[.bool false, .slice none 0 0, .slice none 0 0] 27))).old hb))); (first | (with_reducible have UC := hid (UC.out.old hb)) | (with_reducible have UC := hid ((UC.out.old (below_new' (o := .cells #[.bool false, .slice none 0 0, .slice none 0 0] 27))).old hb))); have DC := hid hr; have q0 := LYC.out.c 0 (v := .bool t) rfl; have q1 := LYC.out.c 1 (v := .slice a' n' c') rfl; have q2 := LYC.out.c 2 (v := .slice b' m' d') rfl; have q3 := LXC.out.c 0 (v := .bool s) rfl; have q4 := LXC.out.c 1 (v := .slice a n c) rfl; have q5 := LXC.out.c 2 (v := .slice b m d) rfl; (try (have f0 := NZ.out.1.f 0; have f1 := NZ.out.1.f 1; have f2 := NZ.out.1.f 2; have p0 := NZ.out.1.c 0 rfl; have p1 := NZ.out.1.c 1 rfl; have p2 := NZ.out.1.c 2 rfl)); clear hr hb))
    all_goals
      go_wp2_with fail
      go_meet
      first | with_reducible exact LaidO_a DC.out CC.out | with_reducible exact LaidO_b NZ.out.1 NZ.out.2 DC.out CC.out
  case rest =>
    generalize wc = w1 at hcut ⊢
    obtain ⟨g1, s1, a1, n1, c1, b1, m1, d1, rfl, hL, hR, hg, hb⟩ := hcut
    have LD := hid hL
    have D := hid (hR.base B.out.size)
    have hgD := hg
    have LX := hid (LX.out.old hb)
    have LY := hid (LY.out.old hb)
    have LR := hid (LR.out.old hb)
    have X := hid (X.out.old hb)
    have Y := hid (Y.out.old hb)
    have B := hid (B.out.trans (hb.mono B.out.size))
    clear hL hR hb hg
    go_wp2_with fail
    have LX := hid (LX.out.old (Below_drew1 (Below.refl _ _)))
    have LY := hid (LY.out.old (Below_drew1 (Below.refl _ _)))
    have LR := hid (LR.out.old (Below_drew1 (Below.refl _ _)))
    have X := hid (X.out.old (Below_drew1 (Below.refl _ _)))
    have Y := hid (Y.out.old (Below_drew1 (Below.refl _ _)))
    have D := hid (D.out.old (Below_drew1 (Below.refl _ _)))
    have LD := hid (LD.out.old (Below_drew1 (Below.refl _ _)))
    have B := hid (Below_drew1 B.out)
    have q0 := LD.out.c 0 (v := .bool s1) rfl
    have q1 := LD.out.c 1 (v := .slice a1 n1 c1) rfl
    have q2 := LD.out.c 2 (v := .slice b1 m1 d1) rfl
    have hlD := LD.out.lt
    go_region_held3 (fun w' => w'.cell? ⟨g1, 0, none⟩ = some (.bool s1) ∧ w'.cell? ⟨g1, 1, none⟩ = some (.slice a1 n1 c1) ∧ w'.cell? ⟨g1, 2, none⟩ = some (.slice b1 m1 d1)) (first | with_reducible exact ⟨q0, q1, q2⟩ | ((with_reducible refine ⟨(cell_set3 ?_).trans q0, (cell_set3 ?_).trans q1, (cell_set3 ?_).trans q2⟩) <;> omega) | go_keep) (first | (go_at_call 14; (with_reducible refine (int_o 1 (by decide) (by decide) _).mono ?_); rintro e w2 ⟨s2, a2, n2, c2, b2, m2, d2, rfl, hr, hb⟩; have I := hid (hr.base B.out.size); have LX := hid (LX.out.old hb); have LY := hid (LY.out.old hb); have LR := hid (LR.out.old hb); have X := hid (X.out.old hb); have Y := hid (Y.out.old hb); have D := hid (D.out.old hb); have LD := hid (LD.out.old hb); have B := hid (B.out.trans (hb.mono B.out.size)); clear hr hb; have q0 := LD.out.c 0 (v := .bool s1) rfl; have q1 := LD.out.c 1 (v := .slice a1 n1 c1) rfl; have q2 := LD.out.c 2 (v := .slice b1 m1 d1) rfl) | (go_at_call 21; (with_reducible refine (add_o D.out.ra I.out.ra).mono ?_); rintro e w3 ⟨s3, a3, n3, c3, b3, m3, d3, rfl, hr, hb⟩; have S := hid (hr.base B.out.size); have LX := hid (LX.out.old hb); have LY := hid (LY.out.old hb); have LR := hid (LR.out.old hb); have X := hid (X.out.old hb); have Y := hid (Y.out.old hb); have D := hid (D.out.old hb); have LD := hid (LD.out.old hb); have I := hid (I.out.old hb); have B := hid (B.out.trans (hb.mono B.out.size)); clear hr hb; have q0 := LD.out.c 0 (v := .bool s1) rfl; have q1 := LD.out.c 1 (v := .slice a1 n1 c1) rfl; have q2 := LD.out.c 2 (v := .slice b1 m1 d1) rfl) | (go_at_call 14; (with_reducible refine (int_o 0 (by decide) (by decide) _).mono ?_); rintro e w4 ⟨s4, a4, n4, c4, b4, m4, d4, rfl, hr, hb⟩; have J := hid (hr.base B.out.size); have LX := hid (LX.out.old hb); have LY := hid (LY.out.old hb); have LR := hid (LR.out.old hb); have X := hid (X.out.old hb); have Y := hid (Y.out.old hb); have D := hid (D.out.old hb); have LD := hid (LD.out.old hb); have I := hid (I.out.old hb); have S := hid (S.out.old hb); have B := hid (B.out.trans (hb.mono B.out.size)); clear hr hb; have q0 := LD.out.c 0 (v := .bool s1) rfl; have q1 := LD.out.c 1 (v := .slice a1 n1 c1) rfl; have q2 := LD.out.c 2 (v := .slice b1 m1 d1) rfl) | (go_at_call 50; (with_reducible refine (max_o S.out.ra J.out.ra).mono ?_); rintro e w5 ⟨s5, a5, n5, c5, b5, m5, d5, rfl, hr, hb⟩; have R1 := hid (hr.base B.out.size); have LX := hid (LX.out.old hb); have LY := hid (LY.out.old hb); have LR := hid (LR.out.old hb); have X := hid (X.out.old hb); have Y := hid (Y.out.old hb); have D := hid (D.out.old hb); have LD := hid (LD.out.old hb); have I := hid (I.out.old hb); have S := hid (S.out.old hb); have J := hid (J.out.old hb); have B := hid (B.out.trans (hb.mono B.out.size)); clear hr hb; have q0 := LD.out.c 0 (v := .bool s1) rfl; have q1 := LD.out.c 1 (v := .slice a1 n1 c1) rfl; have q2 := LD.out.c 2 (v := .slice b1 m1 d1) rfl; have f0 := LR.out.f 0; have f1 := LR.out.f 1; have f2 := LR.out.f 2; have p0 := LR.out.c 0 rfl; have p1 := LR.out.c 1 rfl; have p2 := LR.out.c 2 rfl; have R := hid (q_of HQ.out (RO.out (w := w) (N := w.heap.size + 1 + 1) (hid (R1.out.eqo (pos_max _))).out (Nat.le_refl _) (by omega) LR.out (by decide) B.out))))
    clear q0 q1 q2
    go_wp2
    exact bodyPost_ret (v := .agg #[.bool s5, .slice a5 n5 c5, .slice b5 m5 d5]) (by simp [results, Tryz.results29, go_sem, p0, p1, p2]) rfl R.out
theorem count_o {w : World} {s : Bool} {v u : Value} {t : Bool} {v' u' : Value} {o : Option Rat} {o' : Option Rat}  (h : RA w s v u o) (h' : RA w t v' u' o') : Calls Tryz.prog 29 #[.agg #[.bool s, v, u], .agg #[.bool t, v', u']] w (RatO true (countO o o') w) := by
  obtain ⟨a, n, c, b, m, d, rfl, rfl⟩ := h.form
  obtain ⟨a', n', c', b', m', d', rfl, rfl⟩ := h'.form
  exact count_o_w  w h h'
end Go.Proofs.YtookglpeieennaaGreat
