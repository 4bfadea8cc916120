/- Merged: Fla Flb Fls Flw. -/
import Derived.Test.YtookglpeieennaaGreatRo
import Derived.Test.YtookglpeieennaaGreatFe
import Derived.Test.YtookglpeieennaaGreatFdm
import Derived.Deep.RegionHeld3
import Derived.Deep.DeepCutAuto
import Derived.Test.YtookglpeieennaaGreatSra
/- The program: floors, the ways of rounding. -/
namespace Go.Proofs.YtookglpeieennaaGreat
open Go.RowKit
open Go.Lib (hid)
set_option linter.unusedVariables false

/-- A call gives the floor of x, as an integer, and a rest. -/
def FloP (x : Rat) (w : World) (e : Ending) (w' : World) : Prop := ∃ a n c b m d, e = .returned (.tuple #[.agg #[.bool (gzs x.floor), .slice a n c], .slice b m d]) ∧ Ints w' w.heap.size (.slice a n c) (gzl x.floor) ∧ Below w.heap.size w w'
theorem fdQ_floor {s : Bool} {A D : List Int} {x : Rat} (h : rval s A D = some x) : fdQ s A D = x.floor := by
  have hr : rok s A D = true := by rw [rok_isSome, h]; rfl
  obtain ⟨y, e, n1, d1, -⟩ := rval_yes hr
  rw [h] at e
  cases e
  obtain ⟨k1, k2, k3, -⟩ := rok_iff.1 hr
  rw [Rat.floor_def, n1, d1]
  have hb : fdB s A D = true := by
    unfold fdB
    simp [k1, k2]
    intro e
    subst e
    simp at k3
  unfold fdQ
  rw [if_pos hb]
theorem RetB_mk {v : Value} {w w' : World} (h : Below w.heap.size w w') : RetB v w (.returned v) w' := ⟨rfl, h⟩
theorem fldiv_x {w : World} {s : Bool} {v u : Value} {x : Rat} (h : RA w s v u (some x)) : Calls Tryz.prog 133 #[.agg #[.bool s, v], u] w (FloP x w) := by
  obtain ⟨A, D, r, e⟩ := h
  have hA := r.la
  have hD := r.ld
  obtain ⟨b1, i1⟩ := r.a
  obtain ⟨b2, i2⟩ := r.d
  refine (impl_BigIntFloorDiv s v u A D (by omega) (by omega) b1 b2 w i1 i2).mono ?_
  rintro e2 w' ⟨v', u', rfl, j1, j2, -, hb⟩
  rw [fdQ_floor e] at j1 ⊢
  obtain ⟨a, c, rfl, -⟩ := Ints_form j1
  obtain ⟨b, d, rfl, -⟩ := Ints_form j2
  exact ⟨a, _, c, b, _, d, rfl, j1, hb⟩
theorem sfldiv_x {w : World} {s : Bool} {v u : Value} {x : Rat} (h : RA w s v u (some x)) : Calls Tryz.prog 149 #[.agg #[.bool s, v], u] w (FloP x w) := by
  obtain ⟨A, D, r, e⟩ := h
  have hA := r.la
  have hD := r.ld
  obtain ⟨b1, i1⟩ := r.a
  obtain ⟨b2, i2⟩ := r.d
  refine (spec_BigIntFloorDiv s v u A D (by omega) (by omega) b1 b2 w i1 i2).mono ?_
  rintro e2 w' ⟨v', u', rfl, j1, j2, hb⟩
  rw [fdQ_floor e] at j1 ⊢
  obtain ⟨a, c, rfl, -⟩ := Ints_form j1
  obtain ⟨b, d, rfl, -⟩ := Ints_form j2
  exact ⟨a, _, c, b, _, d, rfl, j1, hb⟩
theorem RO_floor {p : Bool} {x : Rat} {w : World} {lo : Nat} {v u : Value} (hf : fit x) (h1 : Ints w lo v (gzl x.floor)) (h2 : Ints w lo u (rep (1 : Int).toNat)) (nd : ∀ k, v.ownBlock = some k → u.ownBlock ≠ some k) : RO p w lo (gzs x.floor) v u (floorO (some x)) :=
  ⟨rfl, h1, by rw [← gzl_one] at h2; exact h2, fun _ => nd, fitO_some (fit_fl hf)⟩
set_option maxRecDepth 100000 in
set_option maxHeartbeats 12800000 in
theorem floorOf_o_w {s : Bool} {a : Option Addr} {n c : Nat} {b : Option Addr} {m d : Nat} {o : Option Rat}  (w : World) (h : RA w s (.slice a n c) (.slice b m d) o) :
    Calls Tryz.prog 97 #[.agg #[.bool s, .slice a n c, .slice b m d]] w (RatO true (floorO o) w) := by
  obtain ⟨Q, hQ⟩ : ∃ Q, Q = RatO true (floorO o) w := ⟨_, rfl⟩
  rw [← hQ]
  have HQ := hid hQ
  clear hQ
  have B := hid (show Below w.heap.size w ((w.alloc (.cells #[.bool s, .slice a n c, .slice b m d] 27)).alloc (.cells #[.bool false, .slice none 0 0, .slice none 0 0] 27)) from ((Below.refl _ _).alloc (Nat.le_refl _) _).alloc (by simp) _)
  have LX := hid (show LocA 27 ((w.alloc (.cells #[.bool s, .slice a n c, .slice b m d] 27)).alloc (.cells #[.bool false, .slice none 0 0, .slice none 0 0] 27)) (w.heap.size) #[.bool s, .slice a n c, .slice b m d] from (LocA.at (by simp)).new1)
  have LR := hid (show LocA 27 ((w.alloc (.cells #[.bool s, .slice a n c, .slice b m d] 27)).alloc (.cells #[.bool false, .slice none 0 0, .slice none 0 0] 27)) (w.heap.size + 1) #[.bool false, .slice none 0 0, .slice none 0 0] from LocA.at (by simp))
  have X := hid (h.old B.out)
  clear h
  generalize hW : (w.alloc (.cells #[.bool s, .slice a n c, .slice b m d] 27)).alloc (.cells #[.bool false, .slice none 0 0, .slice none 0 0] 27) = W0 at B X LX LR
  have HW := hid hW
  clear hW
  have hs0 := B.out.size
  have hw0 := LR.out.lt
  cases o with
  | none =>
    go_enter Tryz.func97, Tryz.ntmps97
    have q0 := LX.out.c 0 rfl
    have q1 := LX.out.c 1 rfl
    have q2 := LX.out.c 2 rfl
    go_wp2_with fail
    rw [HW.out]
    (with_reducible refine (ok_none X.out).mono ?_)
    clear q0 q1 q2
    rintro e w1 ⟨rfl, hb⟩
    have LX := hid (LX.out.old hb)
    have LR := hid (LR.out.old hb)
    have X := hid (X.out.old hb)
    have B := hid (B.out.trans (hb.mono B.out.size))
    clear hb
    have f0 := LR.out.f 0
    have f1 := LR.out.f 1
    have f2 := LR.out.f 2
    have p0 := LR.out.c 0 rfl
    have p1 := LR.out.c 1 rfl
    have p2 := LR.out.c 2 rfl
    have R := hid (q_of HQ.out (RO.out (w := w) (N := w.heap.size + 1) (RO_none (w := _) (lo := w.heap.size)) (Nat.le_refl _) (by omega) LR.out (by decide) B.out))
    go_wp2
    exact bodyPost_ret (v := .agg #[.bool false, .slice none 0 0, .slice none 0 0]) (by simp [results, Tryz.results97, go_sem, p0, p1, p2]) rfl R.out
  | some x =>
    go_enter Tryz.func97, Tryz.ntmps97
    have q0 := LX.out.c 0 rfl
    have q1 := LX.out.c 1 rfl
    have q2 := LX.out.c 2 rfl
    go_wp2_with fail
    rw [HW.out]
    (with_reducible refine (ok_some X.out).mono ?_)
    clear q0 q1 q2
    rintro e w1 ⟨rfl, hb⟩
    have LX := hid (LX.out.old hb)
    have LR := hid (LR.out.old hb)
    have X := hid (X.out.old hb)
    have B := hid (B.out.trans (hb.mono B.out.size))
    clear hb
    have q0 := LX.out.c 0 rfl
    have q1 := LX.out.c 1 rfl
    have q2 := LX.out.c 2 rfl
    go_wp2_with fail
    (with_reducible refine (fldiv_x X.out).mono ?_)
    clear q0 q1 q2
    rintro e w2 ⟨a2, n2, c2, b2, m2, d2, rfl, hi, hb⟩
    have J := hid (Ints_base hi B.out.size)
    have LX := hid (LX.out.old hb)
    have LR := hid (LR.out.old hb)
    have X := hid (X.out.old hb)
    have B := hid (B.out.trans (hb.mono B.out.size))
    obtain ⟨gf, hgf⟩ : ∃ z, z = gzs x.floor := ⟨_, rfl⟩
    have HGF := hid hgf
    rw [← hgf]
    clear hi hb hgf
    have hf := hid (X.out.fitO x rfl)
    have hnq := LR.out.lt
    have LX := hid (LX.out.old (below_new' (o := .cells #[.bool gf, .slice a2 n2 c2] 25)))
    have LR := hid (LR.out.old (below_new' (o := .cells #[.bool gf, .slice a2 n2 c2] 25)))
    have X := hid (X.out.old (below_new' (o := .cells #[.bool gf, .slice a2 n2 c2] 25)))
    have J := hid (Ints_old J.out (below_new' (o := .cells #[.bool gf, .slice a2 n2 c2] 25)))
    have B := hid (B.out.alloc B.out.size (.cells #[.bool gf, .slice a2 n2 c2] 25))
    have LQ := hid (LocA.new (w := w2) (T := 25) (cs := #[.bool gf, .slice a2 n2 c2]))
    go_wp2_with fail
    have LX := hid (LX.out.old (Below_drew1 (Below.refl _ _)))
    have LR := hid (LR.out.old (Below_drew1 (Below.refl _ _)))
    have X := hid (X.out.old (Below_drew1 (Below.refl _ _)))
    have LQ := hid (LQ.out.old (Below_drew1 (Below.refl _ _)))
    have J := hid (Ints_old J.out (Below_drew1 (Below.refl _ _)))
    have B := hid (Below_drew1 B.out)
    have hlq := LQ.out.lt
    have q0 := LQ.out.c 0 rfl
    have q1 := LQ.out.c 1 rfl
    go_region_held3 (fun w' => w'.cell? ⟨w2.heap.size, 0, none⟩ = some (.bool gf) ∧ w'.cell? ⟨w2.heap.size, 1, none⟩ = some (.slice a2 n2 c2)) (first | exact ⟨q0, q1⟩ | exact ⟨(cell_set3 (by omega)).trans q0, (cell_set3 (by omega)).trans q1⟩ | go_keep) (first | (go_at_call 45; (with_reducible refine (impl_NatOf 1 (by decide) _).mono ?_); rintro e w3 ⟨v3, rfl, hj, hb⟩; have ND := hid (apart_of J.out hj (Nat.le_refl _)); have J := hid (Ints_old J.out hb); have J2 := hid (Ints_base hj B.out.size); have LX := hid (LX.out.old hb); have LR := hid (LR.out.old hb); have X := hid (X.out.old hb); have LQ := hid (LQ.out.old hb); have B := hid (B.out.trans (hb.mono B.out.size)); obtain ⟨b3, d3, rfl, -⟩ := Ints_form hj; have RF := hid (RO_floor (p := true) hf.out J.out J2.out ND.out); rw [← HGF.out] at RF; clear hb hj; have f0 := LR.out.f 0; have f1 := LR.out.f 1; have f2 := LR.out.f 2; have p0 := LR.out.c 0 rfl; have p1 := LR.out.c 1 rfl; have p2 := LR.out.c 2 rfl; have R := hid (q_of HQ.out (RO.out (w := w) (N := w.heap.size + 1) RF.out (Nat.le_refl _) (by omega) LR.out (by decide) B.out)); have q0 := LQ.out.c 0 rfl; have q1 := LQ.out.c 1 rfl))
    clear q0 q1
    go_wp2
    exact bodyPost_ret (v := .agg #[.bool gf, .slice a2 n2 c2, .slice b3 _ d3]) (by simp [results, Tryz.results97, go_sem, p0, p1, p2]) rfl R.out
theorem floorOf_o {w : World} {s : Bool} {v u : Value} {o : Option Rat}  (h : RA w s v u o) : Calls Tryz.prog 97 #[.agg #[.bool s, v, u]] w (RatO true (floorO o) w) := by
  obtain ⟨a, n, c, b, m, d, rfl, rfl⟩ := h.form
  exact floorOf_o_w  w h
set_option maxRecDepth 100000 in
set_option maxHeartbeats 3200000 in
theorem unchanged_any {s : Bool} {a : Option Addr} {n c : Nat} {b : Option Addr} {m d : Nat} (w : World) :
    Calls Tryz.prog 131 #[.agg #[.bool s, .slice a n c, .slice b m d]] w (RetB (.agg #[.bool s, .slice a n c, .slice b m d]) w) := by
  have B := hid (show Below w.heap.size w ((w.alloc (.cells #[.bool s, .slice a n c, .slice b m d] 27)).alloc (.cells #[.bool false, .slice none 0 0, .slice none 0 0] 27)) from ((Below.refl _ _).alloc (Nat.le_refl _) _).alloc (by simp) _)
  have LR := hid (show LocA 27 ((w.alloc (.cells #[.bool s, .slice a n c, .slice b m d] 27)).alloc (.cells #[.bool false, .slice none 0 0, .slice none 0 0] 27)) (w.heap.size + 1) #[.bool false, .slice none 0 0, .slice none 0 0] from LocA.at (by simp))
  have f0 := LR.out.f 0
  have f1 := LR.out.f 1
  have f2 := LR.out.f 2
  have p0 := LR.out.c 0 rfl
  have p1 := LR.out.c 1 rfl
  have p2 := LR.out.c 2 rfl
  go_enter Tryz.func131, Tryz.ntmps131
  go_wp2
  refine bodyPost_ret (v := .agg #[.bool s, .slice a n c, .slice b m d]) (by simp [results, Tryz.results131, go_sem]) rfl ⟨rfl, ?_⟩
  exact ((Below.refl _ _).alloc (Nat.le_refl _) _).alloc (by simp) _
set_option maxRecDepth 100000 in
set_option maxHeartbeats 3200000 in
theorem roundings_any (w : World) : Calls Tryz.prog 96 #[] w (RetB (.agg #[.func (.func 131) #[] #[], .func (.func 131) #[] #[], .func (.func 23) #[] #[], .func (.func 23) #[] #[], .func (.func 132) #[] #[], .func (.func 131) #[] #[]]) w) := by
  have hsf : ∀ (fn : Fn) (first cap : Array Value) (a : Addr) (m : Mode) (w : World), (store a (.func fn first cap) m).run Tryz.prog w = stored Tryz.prog w a (.func fn first cap) m := fun _ _ _ _ _ _ => run_store _ _ _ _ _ rfl
  go_enter Tryz.func96, Tryz.ntmps96
  go_wp2
  exact bodyPost_ret (v := .agg #[.func (.func 131) #[] #[], .func (.func 131) #[] #[], .func (.func 23) #[] #[], .func (.func 23) #[] #[], .func (.func 132) #[] #[], .func (.func 131) #[] #[]]) (by simp [results, Tryz.results96, go_sem]) rfl (RetB_mk ((Below.refl _ _).alloc (Nat.le_refl _) _))
set_option maxRecDepth 100000 in
set_option maxHeartbeats 12800000 in
theorem half_o_w {s : Bool} {a : Option Addr} {n c : Nat} {b : Option Addr} {m d : Nat} {o : Option Rat}  (w : World) (h : RA w s (.slice a n c) (.slice b m d) o) :
    Calls Tryz.prog 132 #[.agg #[.bool s, .slice a n c, .slice b m d]] w (RatO true (bq addF o (mkFr 1 2)) w) := by
  obtain ⟨Q, hQ⟩ : ∃ Q, Q = RatO true (bq addF o (mkFr 1 2)) w := ⟨_, rfl⟩
  rw [← hQ]
  have HQ := hid hQ
  clear hQ
  have B := hid (show Below w.heap.size w ((w.alloc (.cells #[.bool s, .slice a n c, .slice b m d] 27)).alloc (.cells #[.bool false, .slice none 0 0, .slice none 0 0] 27)) from ((Below.refl _ _).alloc (Nat.le_refl _) _).alloc (by simp) _)
  have LX := hid (show LocA 27 ((w.alloc (.cells #[.bool s, .slice a n c, .slice b m d] 27)).alloc (.cells #[.bool false, .slice none 0 0, .slice none 0 0] 27)) (w.heap.size) #[.bool s, .slice a n c, .slice b m d] from (LocA.at (by simp)).new1)
  have LR := hid (show LocA 27 ((w.alloc (.cells #[.bool s, .slice a n c, .slice b m d] 27)).alloc (.cells #[.bool false, .slice none 0 0, .slice none 0 0] 27)) (w.heap.size + 1) #[.bool false, .slice none 0 0, .slice none 0 0] from LocA.at (by simp))
  have X := hid (h.old B.out)
  clear h
  generalize hW : (w.alloc (.cells #[.bool s, .slice a n c, .slice b m d] 27)).alloc (.cells #[.bool false, .slice none 0 0, .slice none 0 0] 27) = W0 at B X LX LR
  have HW := hid hW
  clear hW
  have hs0 := B.out.size
  have hw0 := LR.out.lt
  go_enter Tryz.func132, Tryz.ntmps132
  go_wp2_with fail
  rw [HW.out]
  have LX := hid (LX.out.old (Below_drew1 (Below.refl _ _)))
  have LR := hid (LR.out.old (Below_drew1 (Below.refl _ _)))
  have X := hid (X.out.old (Below_drew1 (Below.refl _ _)))
  have B := hid (Below_drew1 B.out)
  have q0 := LX.out.c 0 rfl
  have q1 := LX.out.c 1 rfl
  have q2 := LX.out.c 2 rfl
  have hlX := LX.out.lt
  go_region_held3 (fun w' => w'.cell? ⟨w.heap.size, 0, none⟩ = some (.bool s) ∧ w'.cell? ⟨w.heap.size, 1, none⟩ = some (.slice a n c) ∧ w'.cell? ⟨w.heap.size, 2, none⟩ = some (.slice b m d)) (first | exact ⟨q0, q1, q2⟩ | exact ⟨(cell_set3 (by omega)).trans q0, (cell_set3 (by omega)).trans q1, (cell_set3 (by omega)).trans q2⟩ | go_keep) (first | (go_at_call 22; (with_reducible refine (of_o 1 2 (by decide) (by decide) (by decide) (by decide) _).mono ?_); rintro e w1 ⟨s1, a1, n1, c1, b1, m1, d1, rfl, hr, hb⟩; have H := hid (hr.base B.out.size); have LX := hid (LX.out.old hb); have LR := hid (LR.out.old hb); have X := hid (X.out.old hb); have B := hid (B.out.trans (hb.mono B.out.size)); clear hr hb; have q0 := LX.out.c 0 rfl; have q1 := LX.out.c 1 rfl; have q2 := LX.out.c 2 rfl) | (go_at_call 21; (with_reducible refine (add_o X.out H.out.ra).mono ?_); rintro e w2 ⟨s2, a2, n2, c2, b2, m2, d2, rfl, hr, hb⟩; have S := hid (hr.base B.out.size); have LX := hid (LX.out.old hb); have LR := hid (LR.out.old hb); have X := hid (X.out.old hb); have H := hid (H.out.old hb); have B := hid (B.out.trans (hb.mono B.out.size)); clear hr hb; have q0 := LX.out.c 0 rfl; have q1 := LX.out.c 1 rfl; have q2 := LX.out.c 2 rfl; have f0 := LR.out.f 0; have f1 := LR.out.f 1; have f2 := LR.out.f 2; have p0 := LR.out.c 0 rfl; have p1 := LR.out.c 1 rfl; have p2 := LR.out.c 2 rfl; have R := hid (q_of HQ.out (RO.out (w := w) (N := w.heap.size + 1) S.out (Nat.le_refl _) (by omega) LR.out (by decide) B.out))))
  clear q0 q1 q2
  go_wp2
  exact bodyPost_ret (v := .agg #[.bool s2, .slice a2 n2 c2, .slice b2 m2 d2]) (by simp [results, Tryz.results132, go_sem, p0, p1, p2]) rfl R.out
theorem half_o {w : World} {s : Bool} {v u : Value} {o : Option Rat}  (h : RA w s v u o) : Calls Tryz.prog 132 #[.agg #[.bool s, v, u]] w (RatO true (bq addF o (mkFr 1 2)) w) := by
  obtain ⟨a, n, c, b, m, d, rfl, rfl⟩ := h.form
  exact half_o_w  w h
end Go.Proofs.YtookglpeieennaaGreat

/- The program: rounding by its ways; floors, ceilings, the nearest integer, distances, counts. -/
namespace Go.Proofs.YtookglpeieennaaGreat
open Go.RowKit
open Go.Lib (hid)
set_option linter.unusedVariables false

set_option maxRecDepth 100000 in
set_option maxHeartbeats 12800000 in
theorem round_down_w {s : Bool} {a : Option Addr} {n c : Nat} {b : Option Addr} {m d : Nat} {o : Option Rat}  (w : World) (h : RA w s (.slice a n c) (.slice b m d) o) :
    Calls Tryz.prog 43 #[.int .i64 0, .agg #[.bool s, .slice a n c, .slice b m d]] w (RatO true (floorO o) w) := by
  obtain ⟨Q, hQ⟩ : ∃ Q, Q = RatO true (floorO o) w := ⟨_, rfl⟩
  rw [← hQ]
  have HQ := hid hQ
  clear hQ
  have B := hid (show Below w.heap.size w ((w.alloc (.cells #[.bool s, .slice a n c, .slice b m d] 27)).alloc (.cells #[.bool false, .slice none 0 0, .slice none 0 0] 27)) from ((Below.refl _ _).alloc (Nat.le_refl _) _).alloc (by simp) _)
  have LX := hid (show LocA 27 ((w.alloc (.cells #[.bool s, .slice a n c, .slice b m d] 27)).alloc (.cells #[.bool false, .slice none 0 0, .slice none 0 0] 27)) (w.heap.size) #[.bool s, .slice a n c, .slice b m d] from (LocA.at (by simp)).new1)
  have LR := hid (show LocA 27 ((w.alloc (.cells #[.bool s, .slice a n c, .slice b m d] 27)).alloc (.cells #[.bool false, .slice none 0 0, .slice none 0 0] 27)) (w.heap.size + 1) #[.bool false, .slice none 0 0, .slice none 0 0] from LocA.at (by simp))
  have X := hid (h.old B.out)
  clear h
  generalize hW : (w.alloc (.cells #[.bool s, .slice a n c, .slice b m d] 27)).alloc (.cells #[.bool false, .slice none 0 0, .slice none 0 0] 27) = W0 at B X LX LR
  have HW := hid hW
  clear hW
  have hs0 := B.out.size
  have hw0 := LR.out.lt
  have hsf : ∀ (fn : Fn) (first cap : Array Value) (a : Addr) (m : Mode) (w : World), (store a (.func fn first cap) m).run Tryz.prog w = stored Tryz.prog w a (.func fn first cap) m := fun _ _ _ _ _ _ => run_store _ _ _ _ _ rfl
  have hix : ∀ (w : World), (Instr.index 87 (.agg #[.func (.func 131) #[] #[], .func (.func 131) #[] #[], .func (.func 23) #[] #[], .func (.func 23) #[] #[], .func (.func 132) #[] #[], .func (.func 131) #[] #[]]) (.int .i64 0)).run Tryz.prog w = .ok (.agg #[.func (.func 131) #[] #[], .func (.func 131) #[] #[]]) w := fun _ => rfl
  go_enter Tryz.func43, Tryz.ntmps43
  go_wp2_with fail
  rw [HW.out]
  (with_reducible refine (roundings_any _).mono ?_)
  rintro e w1 ⟨rfl, hb⟩
  have LX := hid (LX.out.old hb)
  have LR := hid (LR.out.old hb)
  have X := hid (X.out.old hb)
  have B := hid (B.out.trans (hb.mono B.out.size))
  clear hb
  have hnM := LR.out.lt
  have LX := hid (LX.out.old (below_new' (o := .cells #[.func (.func 131) #[] #[], .func (.func 131) #[] #[]] 86)))
  have LR := hid (LR.out.old (below_new' (o := .cells #[.func (.func 131) #[] #[], .func (.func 131) #[] #[]] 86)))
  have X := hid (X.out.old (below_new' (o := .cells #[.func (.func 131) #[] #[], .func (.func 131) #[] #[]] 86)))
  have B := hid (B.out.alloc B.out.size (.cells #[.func (.func 131) #[] #[], .func (.func 131) #[] #[]] 86))
  have LM := hid (LocA.new (w := w1) (T := 86) (cs := #[.func (.func 131) #[] #[], .func (.func 131) #[] #[]]))
  go_wp2_with fail
  have LX := hid (LX.out.old (Below_drew1 (Below.refl _ _)))
  have LR := hid (LR.out.old (Below_drew1 (Below.refl _ _)))
  have X := hid (X.out.old (Below_drew1 (Below.refl _ _)))
  have LM := hid (LM.out.old (Below_drew1 (Below.refl _ _)))
  have B := hid (Below_drew1 B.out)
  have q0 := LM.out.c 0 (v := .func (.func 131) #[] #[]) rfl
  have q1 := LM.out.c 1 (v := .func (.func 131) #[] #[]) rfl
  have q2 := LX.out.c 0 (v := .bool s) rfl
  have q3 := LX.out.c 1 (v := .slice a n c) rfl
  have q4 := LX.out.c 2 (v := .slice b m d) rfl
  have hlM := LM.out.lt
  have hlX := LX.out.lt
  go_region_held3 (fun w' => w'.cell? ⟨w1.heap.size, 0, none⟩ = some (.func (.func 131) #[] #[]) ∧ w'.cell? ⟨w1.heap.size, 1, none⟩ = some (.func (.func 131) #[] #[]) ∧ w'.cell? ⟨w.heap.size, 0, none⟩ = some (.bool s) ∧ w'.cell? ⟨w.heap.size, 1, none⟩ = some (.slice a n c) ∧ w'.cell? ⟨w.heap.size, 2, none⟩ = some (.slice b m d)) (first | exact ⟨q0, q1, q2, q3, q4⟩ | exact ⟨(cell_set3 (by omega)).trans q0, (cell_set3 (by omega)).trans q1, (cell_set3 (by omega)).trans q2, (cell_set3 (by omega)).trans q3, (cell_set3 (by omega)).trans q4⟩ | go_keep) (first | (go_at_call 131; (with_reducible refine (unchanged_any (s := s2) (a := a2) (n := n2) _).mono ?_); rintro e wx ⟨rfl, hb⟩; have LX := hid (LX.out.old hb); have LR := hid (LR.out.old hb); have X := hid (X.out.old hb); have LM := hid (LM.out.old hb); have F := hid (F.out.old hb); have B := hid (B.out.trans (hb.mono B.out.size)); clear hb; have q0 := LM.out.c 0 (v := .func (.func 131) #[] #[]) rfl; have q1 := LM.out.c 1 (v := .func (.func 131) #[] #[]) rfl; have q2 := LX.out.c 0 (v := .bool s) rfl; have q3 := LX.out.c 1 (v := .slice a n c) rfl; have q4 := LX.out.c 2 (v := .slice b m d) rfl; have f0 := LR.out.f 0; have f1 := LR.out.f 1; have f2 := LR.out.f 2; have p0 := LR.out.c 0 rfl; have p1 := LR.out.c 1 rfl; have p2 := LR.out.c 2 rfl; have R := hid (q_of HQ.out (RO.out (w := w) (N := w.heap.size + 1) F.out (Nat.le_refl _) (by omega) LR.out (by decide) B.out))) | (go_at_call 131; (with_reducible refine (unchanged_any _).mono ?_); rintro e wx ⟨rfl, hb⟩; have LX := hid (LX.out.old hb); have LR := hid (LR.out.old hb); have X := hid (X.out.old hb); have LM := hid (LM.out.old hb); have B := hid (B.out.trans (hb.mono B.out.size)); clear hb; have q0 := LM.out.c 0 (v := .func (.func 131) #[] #[]) rfl; have q1 := LM.out.c 1 (v := .func (.func 131) #[] #[]) rfl; have q2 := LX.out.c 0 (v := .bool s) rfl; have q3 := LX.out.c 1 (v := .slice a n c) rfl; have q4 := LX.out.c 2 (v := .slice b m d) rfl) | (go_at_call 97; (with_reducible refine (floorOf_o X.out).mono ?_); rintro e w2 ⟨s2, a2, n2, c2, b2, m2, d2, rfl, hr, hb⟩; have F := hid (hr.base B.out.size); have LX := hid (LX.out.old hb); have LR := hid (LR.out.old hb); have X := hid (X.out.old hb); have LM := hid (LM.out.old hb); have B := hid (B.out.trans (hb.mono B.out.size)); clear hr hb; have q0 := LM.out.c 0 (v := .func (.func 131) #[] #[]) rfl; have q1 := LM.out.c 1 (v := .func (.func 131) #[] #[]) rfl; have q2 := LX.out.c 0 (v := .bool s) rfl; have q3 := LX.out.c 1 (v := .slice a n c) rfl; have q4 := LX.out.c 2 (v := .slice b m d) rfl))
  clear q0 q1 q2 q3 q4
  go_wp2
  exact bodyPost_ret (v := .agg #[.bool s2, .slice a2 n2 c2, .slice b2 m2 d2]) (by simp [results, Tryz.results43, go_sem, p0, p1, p2]) rfl R.out
theorem round_down {w : World} {s : Bool} {v u : Value} {o : Option Rat}  (h : RA w s v u o) : Calls Tryz.prog 43 #[.int .i64 0, .agg #[.bool s, v, u]] w (RatO true (floorO o) w) := by
  obtain ⟨a, n, c, b, m, d, rfl, rfl⟩ := h.form
  exact round_down_w  w h
set_option maxRecDepth 100000 in
set_option maxHeartbeats 12800000 in
theorem round_up_w {s : Bool} {a : Option Addr} {n c : Nat} {b : Option Addr} {m d : Nat} {o : Option Rat}  (w : World) (h : RA w s (.slice a n c) (.slice b m d) o) :
    Calls Tryz.prog 43 #[.int .i64 1, .agg #[.bool s, .slice a n c, .slice b m d]] w (RatO true (ceilO o) w) := by
  obtain ⟨Q, hQ⟩ : ∃ Q, Q = RatO true (ceilO o) w := ⟨_, rfl⟩
  rw [← hQ]
  have HQ := hid hQ
  clear hQ
  have B := hid (show Below w.heap.size w ((w.alloc (.cells #[.bool s, .slice a n c, .slice b m d] 27)).alloc (.cells #[.bool false, .slice none 0 0, .slice none 0 0] 27)) from ((Below.refl _ _).alloc (Nat.le_refl _) _).alloc (by simp) _)
  have LX := hid (show LocA 27 ((w.alloc (.cells #[.bool s, .slice a n c, .slice b m d] 27)).alloc (.cells #[.bool false, .slice none 0 0, .slice none 0 0] 27)) (w.heap.size) #[.bool s, .slice a n c, .slice b m d] from (LocA.at (by simp)).new1)
  have LR := hid (show LocA 27 ((w.alloc (.cells #[.bool s, .slice a n c, .slice b m d] 27)).alloc (.cells #[.bool false, .slice none 0 0, .slice none 0 0] 27)) (w.heap.size + 1) #[.bool false, .slice none 0 0, .slice none 0 0] from LocA.at (by simp))
  have X := hid (h.old B.out)
  clear h
  generalize hW : (w.alloc (.cells #[.bool s, .slice a n c, .slice b m d] 27)).alloc (.cells #[.bool false, .slice none 0 0, .slice none 0 0] 27) = W0 at B X LX LR
  have HW := hid hW
  clear hW
  have hs0 := B.out.size
  have hw0 := LR.out.lt
  have hsf : ∀ (fn : Fn) (first cap : Array Value) (a : Addr) (m : Mode) (w : World), (store a (.func fn first cap) m).run Tryz.prog w = stored Tryz.prog w a (.func fn first cap) m := fun _ _ _ _ _ _ => run_store _ _ _ _ _ rfl
  have hix : ∀ (w : World), (Instr.index 87 (.agg #[.func (.func 131) #[] #[], .func (.func 131) #[] #[], .func (.func 23) #[] #[], .func (.func 23) #[] #[], .func (.func 132) #[] #[], .func (.func 131) #[] #[]]) (.int .i64 1)).run Tryz.prog w = .ok (.agg #[.func (.func 23) #[] #[], .func (.func 23) #[] #[]]) w := fun _ => rfl
  go_enter Tryz.func43, Tryz.ntmps43
  go_wp2_with fail
  rw [HW.out]
  (with_reducible refine (roundings_any _).mono ?_)
  rintro e w1 ⟨rfl, hb⟩
  have LX := hid (LX.out.old hb)
  have LR := hid (LR.out.old hb)
  have X := hid (X.out.old hb)
  have B := hid (B.out.trans (hb.mono B.out.size))
  clear hb
  have hnM := LR.out.lt
  have LX := hid (LX.out.old (below_new' (o := .cells #[.func (.func 23) #[] #[], .func (.func 23) #[] #[]] 86)))
  have LR := hid (LR.out.old (below_new' (o := .cells #[.func (.func 23) #[] #[], .func (.func 23) #[] #[]] 86)))
  have X := hid (X.out.old (below_new' (o := .cells #[.func (.func 23) #[] #[], .func (.func 23) #[] #[]] 86)))
  have B := hid (B.out.alloc B.out.size (.cells #[.func (.func 23) #[] #[], .func (.func 23) #[] #[]] 86))
  have LM := hid (LocA.new (w := w1) (T := 86) (cs := #[.func (.func 23) #[] #[], .func (.func 23) #[] #[]]))
  go_wp2_with fail
  have LX := hid (LX.out.old (Below_drew1 (Below.refl _ _)))
  have LR := hid (LR.out.old (Below_drew1 (Below.refl _ _)))
  have X := hid (X.out.old (Below_drew1 (Below.refl _ _)))
  have LM := hid (LM.out.old (Below_drew1 (Below.refl _ _)))
  have B := hid (Below_drew1 B.out)
  have q0 := LM.out.c 0 (v := .func (.func 23) #[] #[]) rfl
  have q1 := LM.out.c 1 (v := .func (.func 23) #[] #[]) rfl
  have q2 := LX.out.c 0 (v := .bool s) rfl
  have q3 := LX.out.c 1 (v := .slice a n c) rfl
  have q4 := LX.out.c 2 (v := .slice b m d) rfl
  have hlM := LM.out.lt
  have hlX := LX.out.lt
  go_region_held3 (fun w' => w'.cell? ⟨w1.heap.size, 0, none⟩ = some (.func (.func 23) #[] #[]) ∧ w'.cell? ⟨w1.heap.size, 1, none⟩ = some (.func (.func 23) #[] #[]) ∧ w'.cell? ⟨w.heap.size, 0, none⟩ = some (.bool s) ∧ w'.cell? ⟨w.heap.size, 1, none⟩ = some (.slice a n c) ∧ w'.cell? ⟨w.heap.size, 2, none⟩ = some (.slice b m d)) (first | with_reducible exact ⟨q0, q1, q2, q3, q4⟩ | ((with_reducible refine ⟨(cell_set3 ?_).trans q0, (cell_set3 ?_).trans q1, (cell_set3 ?_).trans q2, (cell_set3 ?_).trans q3, (cell_set3 ?_).trans q4⟩) <;> omega) | go_keep) (first | (go_at_call 23; (with_reducible refine (neg_o X.out).mono ?_); rintro e w2 ⟨s2, a2, n2, c2, b2, m2, d2, rfl, hr, hb⟩; have G := hid (hr.base B.out.size); have LX := hid (LX.out.old hb); have LR := hid (LR.out.old hb); have X := hid (X.out.old hb); have LM := hid (LM.out.old hb); have B := hid (B.out.trans (hb.mono B.out.size)); clear hr hb; have q0 := LM.out.c 0 (v := .func (.func 23) #[] #[]) rfl; have q1 := LM.out.c 1 (v := .func (.func 23) #[] #[]) rfl; have q2 := LX.out.c 0 (v := .bool s) rfl; have q3 := LX.out.c 1 (v := .slice a n c) rfl; have q4 := LX.out.c 2 (v := .slice b m d) rfl) | (go_at_call 97; (with_reducible refine (floorOf_o G.out.ra).mono ?_); rintro e w3 ⟨s3, a3, n3, c3, b3, m3, d3, rfl, hr, hb⟩; have F := hid (hr.base B.out.size); have LX := hid (LX.out.old hb); have LR := hid (LR.out.old hb); have X := hid (X.out.old hb); have LM := hid (LM.out.old hb); have G := hid (G.out.old hb); have B := hid (B.out.trans (hb.mono B.out.size)); clear hr hb; have q0 := LM.out.c 0 (v := .func (.func 23) #[] #[]) rfl; have q1 := LM.out.c 1 (v := .func (.func 23) #[] #[]) rfl; have q2 := LX.out.c 0 (v := .bool s) rfl; have q3 := LX.out.c 1 (v := .slice a n c) rfl; have q4 := LX.out.c 2 (v := .slice b m d) rfl) | (go_at_call 23; (with_reducible refine (neg_o F.out.ra).mono ?_); rintro e w4 ⟨s4, a4, n4, c4, b4, m4, d4, rfl, hr, hb⟩; have H := hid (hr.base B.out.size); have LX := hid (LX.out.old hb); have LR := hid (LR.out.old hb); have X := hid (X.out.old hb); have LM := hid (LM.out.old hb); have G := hid (G.out.old hb); have F := hid (F.out.old hb); have B := hid (B.out.trans (hb.mono B.out.size)); clear hr hb; have q0 := LM.out.c 0 (v := .func (.func 23) #[] #[]) rfl; have q1 := LM.out.c 1 (v := .func (.func 23) #[] #[]) rfl; have q2 := LX.out.c 0 (v := .bool s) rfl; have q3 := LX.out.c 1 (v := .slice a n c) rfl; have q4 := LX.out.c 2 (v := .slice b m d) rfl; have f0 := LR.out.f 0; have f1 := LR.out.f 1; have f2 := LR.out.f 2; have p0 := LR.out.c 0 rfl; have p1 := LR.out.c 1 rfl; have p2 := LR.out.c 2 rfl; have R := hid (q_of HQ.out (RO.out (w := w) (N := w.heap.size + 1) (hid (H.out.eqo (ceil_floor o))).out (Nat.le_refl _) (by omega) LR.out (by decide) B.out))))
  clear q0 q1 q2 q3 q4
  go_wp2
  exact bodyPost_ret (v := .agg #[.bool s4, .slice a4 n4 c4, .slice b4 m4 d4]) (by simp [results, Tryz.results43, go_sem, p0, p1, p2]) rfl R.out
theorem round_up {w : World} {s : Bool} {v u : Value} {o : Option Rat}  (h : RA w s v u o) : Calls Tryz.prog 43 #[.int .i64 1, .agg #[.bool s, v, u]] w (RatO true (ceilO o) w) := by
  obtain ⟨a, n, c, b, m, d, rfl, rfl⟩ := h.form
  exact round_up_w  w h
set_option maxRecDepth 100000 in
set_option maxHeartbeats 12800000 in
theorem round_mid_w {s : Bool} {a : Option Addr} {n c : Nat} {b : Option Addr} {m d : Nat} {o : Option Rat}  (w : World) (h : RA w s (.slice a n c) (.slice b m d) o) :
    Calls Tryz.prog 43 #[.int .i64 2, .agg #[.bool s, .slice a n c, .slice b m d]] w (RatO true (nearO o) w) := by
  obtain ⟨Q, hQ⟩ : ∃ Q, Q = RatO true (nearO o) w := ⟨_, rfl⟩
  rw [← hQ]
  have HQ := hid hQ
  clear hQ
  have B := hid (show Below w.heap.size w ((w.alloc (.cells #[.bool s, .slice a n c, .slice b m d] 27)).alloc (.cells #[.bool false, .slice none 0 0, .slice none 0 0] 27)) from ((Below.refl _ _).alloc (Nat.le_refl _) _).alloc (by simp) _)
  have LX := hid (show LocA 27 ((w.alloc (.cells #[.bool s, .slice a n c, .slice b m d] 27)).alloc (.cells #[.bool false, .slice none 0 0, .slice none 0 0] 27)) (w.heap.size) #[.bool s, .slice a n c, .slice b m d] from (LocA.at (by simp)).new1)
  have LR := hid (show LocA 27 ((w.alloc (.cells #[.bool s, .slice a n c, .slice b m d] 27)).alloc (.cells #[.bool false, .slice none 0 0, .slice none 0 0] 27)) (w.heap.size + 1) #[.bool false, .slice none 0 0, .slice none 0 0] from LocA.at (by simp))
  have X := hid (h.old B.out)
  clear h
  generalize hW : (w.alloc (.cells #[.bool s, .slice a n c, .slice b m d] 27)).alloc (.cells #[.bool false, .slice none 0 0, .slice none 0 0] 27) = W0 at B X LX LR
  have HW := hid hW
  clear hW
  have hs0 := B.out.size
  have hw0 := LR.out.lt
  have hsf : ∀ (fn : Fn) (first cap : Array Value) (a : Addr) (m : Mode) (w : World), (store a (.func fn first cap) m).run Tryz.prog w = stored Tryz.prog w a (.func fn first cap) m := fun _ _ _ _ _ _ => run_store _ _ _ _ _ rfl
  have hix : ∀ (w : World), (Instr.index 87 (.agg #[.func (.func 131) #[] #[], .func (.func 131) #[] #[], .func (.func 23) #[] #[], .func (.func 23) #[] #[], .func (.func 132) #[] #[], .func (.func 131) #[] #[]]) (.int .i64 2)).run Tryz.prog w = .ok (.agg #[.func (.func 132) #[] #[], .func (.func 131) #[] #[]]) w := fun _ => rfl
  go_enter Tryz.func43, Tryz.ntmps43
  go_wp2_with fail
  rw [HW.out]
  (with_reducible refine (roundings_any _).mono ?_)
  rintro e w1 ⟨rfl, hb⟩
  have LX := hid (LX.out.old hb)
  have LR := hid (LR.out.old hb)
  have X := hid (X.out.old hb)
  have B := hid (B.out.trans (hb.mono B.out.size))
  clear hb
  have hnM := LR.out.lt
  have LX := hid (LX.out.old (below_new' (o := .cells #[.func (.func 132) #[] #[], .func (.func 131) #[] #[]] 86)))
  have LR := hid (LR.out.old (below_new' (o := .cells #[.func (.func 132) #[] #[], .func (.func 131) #[] #[]] 86)))
  have X := hid (X.out.old (below_new' (o := .cells #[.func (.func 132) #[] #[], .func (.func 131) #[] #[]] 86)))
  have B := hid (B.out.alloc B.out.size (.cells #[.func (.func 132) #[] #[], .func (.func 131) #[] #[]] 86))
  have LM := hid (LocA.new (w := w1) (T := 86) (cs := #[.func (.func 132) #[] #[], .func (.func 131) #[] #[]]))
  go_wp2_with fail
  have LX := hid (LX.out.old (Below_drew1 (Below.refl _ _)))
  have LR := hid (LR.out.old (Below_drew1 (Below.refl _ _)))
  have X := hid (X.out.old (Below_drew1 (Below.refl _ _)))
  have LM := hid (LM.out.old (Below_drew1 (Below.refl _ _)))
  have B := hid (Below_drew1 B.out)
  have q0 := LM.out.c 0 (v := .func (.func 132) #[] #[]) rfl
  have q1 := LM.out.c 1 (v := .func (.func 131) #[] #[]) rfl
  have q2 := LX.out.c 0 (v := .bool s) rfl
  have q3 := LX.out.c 1 (v := .slice a n c) rfl
  have q4 := LX.out.c 2 (v := .slice b m d) rfl
  have hlM := LM.out.lt
  have hlX := LX.out.lt
  go_region_held3 (fun w' => w'.cell? ⟨w1.heap.size, 0, none⟩ = some (.func (.func 132) #[] #[]) ∧ w'.cell? ⟨w1.heap.size, 1, none⟩ = some (.func (.func 131) #[] #[]) ∧ w'.cell? ⟨w.heap.size, 0, none⟩ = some (.bool s) ∧ w'.cell? ⟨w.heap.size, 1, none⟩ = some (.slice a n c) ∧ w'.cell? ⟨w.heap.size, 2, none⟩ = some (.slice b m d)) (first | with_reducible exact ⟨q0, q1, q2, q3, q4⟩ | ((with_reducible refine ⟨(cell_set3 ?_).trans q0, (cell_set3 ?_).trans q1, (cell_set3 ?_).trans q2, (cell_set3 ?_).trans q3, (cell_set3 ?_).trans q4⟩) <;> omega) | go_keep) (first | (go_at_call 132; (with_reducible refine (half_o X.out).mono ?_); rintro e w2 ⟨s2, a2, n2, c2, b2, m2, d2, rfl, hr, hb⟩; have G := hid (hr.base B.out.size); have LX := hid (LX.out.old hb); have LR := hid (LR.out.old hb); have X := hid (X.out.old hb); have LM := hid (LM.out.old hb); have B := hid (B.out.trans (hb.mono B.out.size)); clear hr hb; have q0 := LM.out.c 0 (v := .func (.func 132) #[] #[]) rfl; have q1 := LM.out.c 1 (v := .func (.func 131) #[] #[]) rfl; have q2 := LX.out.c 0 (v := .bool s) rfl; have q3 := LX.out.c 1 (v := .slice a n c) rfl; have q4 := LX.out.c 2 (v := .slice b m d) rfl) | (go_at_call 97; (with_reducible refine (floorOf_o G.out.ra).mono ?_); rintro e w3 ⟨s3, a3, n3, c3, b3, m3, d3, rfl, hr, hb⟩; have F := hid (hr.base B.out.size); have LX := hid (LX.out.old hb); have LR := hid (LR.out.old hb); have X := hid (X.out.old hb); have LM := hid (LM.out.old hb); have G := hid (G.out.old hb); have B := hid (B.out.trans (hb.mono B.out.size)); clear hr hb; have q0 := LM.out.c 0 (v := .func (.func 132) #[] #[]) rfl; have q1 := LM.out.c 1 (v := .func (.func 131) #[] #[]) rfl; have q2 := LX.out.c 0 (v := .bool s) rfl; have q3 := LX.out.c 1 (v := .slice a n c) rfl; have q4 := LX.out.c 2 (v := .slice b m d) rfl) | (go_at_call 131; (with_reducible refine (unchanged_any _).mono ?_); rintro e w4 ⟨rfl, hb⟩; have LX := hid (LX.out.old hb); have LR := hid (LR.out.old hb); have X := hid (X.out.old hb); have LM := hid (LM.out.old hb); have G := hid (G.out.old hb); have F := hid (F.out.old hb); have B := hid (B.out.trans (hb.mono B.out.size)); clear hb; have q0 := LM.out.c 0 (v := .func (.func 132) #[] #[]) rfl; have q1 := LM.out.c 1 (v := .func (.func 131) #[] #[]) rfl; have q2 := LX.out.c 0 (v := .bool s) rfl; have q3 := LX.out.c 1 (v := .slice a n c) rfl; have q4 := LX.out.c 2 (v := .slice b m d) rfl; have f0 := LR.out.f 0; have f1 := LR.out.f 1; have f2 := LR.out.f 2; have p0 := LR.out.c 0 rfl; have p1 := LR.out.c 1 rfl; have p2 := LR.out.c 2 rfl; have R := hid (q_of HQ.out (RO.out (w := w) (N := w.heap.size + 1) F.out (Nat.le_refl _) (by omega) LR.out (by decide) B.out))))
  clear q0 q1 q2 q3 q4
  go_wp2
  exact bodyPost_ret (v := .agg #[.bool s3, .slice a3 n3 c3, .slice b3 m3 d3]) (by simp [results, Tryz.results43, go_sem, p0, p1, p2]) rfl R.out
theorem round_mid {w : World} {s : Bool} {v u : Value} {o : Option Rat}  (h : RA w s v u o) : Calls Tryz.prog 43 #[.int .i64 2, .agg #[.bool s, v, u]] w (RatO true (nearO o) w) := by
  obtain ⟨a, n, c, b, m, d, rfl, rfl⟩ := h.form
  exact round_mid_w  w h
set_option maxRecDepth 100000 in
set_option maxHeartbeats 12800000 in
theorem floor_o_w {s : Bool} {a : Option Addr} {n c : Nat} {b : Option Addr} {m d : Nat} {o : Option Rat}  (w : World) (h : RA w s (.slice a n c) (.slice b m d) o) :
    Calls Tryz.prog 11 #[.agg #[.bool s, .slice a n c, .slice b m d]] w (RatO true (floorO o) w) := by
  obtain ⟨Q, hQ⟩ : ∃ Q, Q = RatO true (floorO o) w := ⟨_, rfl⟩
  rw [← hQ]
  have HQ := hid hQ
  clear hQ
  have B := hid (show Below w.heap.size w ((w.alloc (.cells #[.bool s, .slice a n c, .slice b m d] 27)).alloc (.cells #[.bool false, .slice none 0 0, .slice none 0 0] 27)) from ((Below.refl _ _).alloc (Nat.le_refl _) _).alloc (by simp) _)
  have LX := hid (show LocA 27 ((w.alloc (.cells #[.bool s, .slice a n c, .slice b m d] 27)).alloc (.cells #[.bool false, .slice none 0 0, .slice none 0 0] 27)) (w.heap.size) #[.bool s, .slice a n c, .slice b m d] from (LocA.at (by simp)).new1)
  have LR := hid (show LocA 27 ((w.alloc (.cells #[.bool s, .slice a n c, .slice b m d] 27)).alloc (.cells #[.bool false, .slice none 0 0, .slice none 0 0] 27)) (w.heap.size + 1) #[.bool false, .slice none 0 0, .slice none 0 0] from LocA.at (by simp))
  have X := hid (h.old B.out)
  clear h
  generalize hW : (w.alloc (.cells #[.bool s, .slice a n c, .slice b m d] 27)).alloc (.cells #[.bool false, .slice none 0 0, .slice none 0 0] 27) = W0 at B X LX LR
  have HW := hid hW
  clear hW
  have hs0 := B.out.size
  have hw0 := LR.out.lt
  go_enter Tryz.func11, Tryz.ntmps11
  have q0 := LX.out.c 0 (v := .bool s) rfl
  have q1 := LX.out.c 1 (v := .slice a n c) rfl
  have q2 := LX.out.c 2 (v := .slice b m d) rfl
  go_wp2_with fail
  rw [HW.out]
  (with_reducible refine (round_down X.out).mono ?_)
  clear q0 q1 q2
  rintro e w1 ⟨s1, a1, n1, c1, b1, m1, d1, rfl, hr, hb⟩
  have F := hid (hr.base B.out.size)
  have LX := hid (LX.out.old hb)
  have LR := hid (LR.out.old hb)
  have X := hid (X.out.old hb)
  have B := hid (B.out.trans (hb.mono B.out.size))
  clear hr hb
  have f0 := LR.out.f 0
  have f1 := LR.out.f 1
  have f2 := LR.out.f 2
  have p0 := LR.out.c 0 rfl
  have p1 := LR.out.c 1 rfl
  have p2 := LR.out.c 2 rfl
  have R := hid (q_of HQ.out (RO.out (w := w) (N := w.heap.size + 1) F.out (Nat.le_refl _) (by omega) LR.out (by decide) B.out))
  go_wp2
  exact bodyPost_ret (v := .agg #[.bool s1, .slice a1 n1 c1, .slice b1 m1 d1]) (by simp [results, Tryz.results11, go_sem, p0, p1, p2]) rfl R.out
theorem floor_o {w : World} {s : Bool} {v u : Value} {o : Option Rat}  (h : RA w s v u o) : Calls Tryz.prog 11 #[.agg #[.bool s, v, u]] w (RatO true (floorO o) w) := by
  obtain ⟨a, n, c, b, m, d, rfl, rfl⟩ := h.form
  exact floor_o_w  w h
set_option maxRecDepth 100000 in
set_option maxHeartbeats 12800000 in
theorem ceil_o_w {s : Bool} {a : Option Addr} {n c : Nat} {b : Option Addr} {m d : Nat} {o : Option Rat}  (w : World) (h : RA w s (.slice a n c) (.slice b m d) o) :
    Calls Tryz.prog 12 #[.agg #[.bool s, .slice a n c, .slice b m d]] w (RatO true (ceilO o) w) := by
  obtain ⟨Q, hQ⟩ : ∃ Q, Q = RatO true (ceilO o) w := ⟨_, rfl⟩
  rw [← hQ]
  have HQ := hid hQ
  clear hQ
  have B := hid (show Below w.heap.size w ((w.alloc (.cells #[.bool s, .slice a n c, .slice b m d] 27)).alloc (.cells #[.bool false, .slice none 0 0, .slice none 0 0] 27)) from ((Below.refl _ _).alloc (Nat.le_refl _) _).alloc (by simp) _)
  have LX := hid (show LocA 27 ((w.alloc (.cells #[.bool s, .slice a n c, .slice b m d] 27)).alloc (.cells #[.bool false, .slice none 0 0, .slice none 0 0] 27)) (w.heap.size) #[.bool s, .slice a n c, .slice b m d] from (LocA.at (by simp)).new1)
  have LR := hid (show LocA 27 ((w.alloc (.cells #[.bool s, .slice a n c, .slice b m d] 27)).alloc (.cells #[.bool false, .slice none 0 0, .slice none 0 0] 27)) (w.heap.size + 1) #[.bool false, .slice none 0 0, .slice none 0 0] from LocA.at (by simp))
  have X := hid (h.old B.out)
  clear h
  generalize hW : (w.alloc (.cells #[.bool s, .slice a n c, .slice b m d] 27)).alloc (.cells #[.bool false, .slice none 0 0, .slice none 0 0] 27) = W0 at B X LX LR
  have HW := hid hW
  clear hW
  have hs0 := B.out.size
  have hw0 := LR.out.lt
  go_enter Tryz.func12, Tryz.ntmps12
  have q0 := LX.out.c 0 (v := .bool s) rfl
  have q1 := LX.out.c 1 (v := .slice a n c) rfl
  have q2 := LX.out.c 2 (v := .slice b m d) rfl
  go_wp2_with fail
  rw [HW.out]
  (with_reducible refine (round_up X.out).mono ?_)
  clear q0 q1 q2
  rintro e w1 ⟨s1, a1, n1, c1, b1, m1, d1, rfl, hr, hb⟩
  have F := hid (hr.base B.out.size)
  have LX := hid (LX.out.old hb)
  have LR := hid (LR.out.old hb)
  have X := hid (X.out.old hb)
  have B := hid (B.out.trans (hb.mono B.out.size))
  clear hr hb
  have f0 := LR.out.f 0
  have f1 := LR.out.f 1
  have f2 := LR.out.f 2
  have p0 := LR.out.c 0 rfl
  have p1 := LR.out.c 1 rfl
  have p2 := LR.out.c 2 rfl
  have R := hid (q_of HQ.out (RO.out (w := w) (N := w.heap.size + 1) F.out (Nat.le_refl _) (by omega) LR.out (by decide) B.out))
  go_wp2
  exact bodyPost_ret (v := .agg #[.bool s1, .slice a1 n1 c1, .slice b1 m1 d1]) (by simp [results, Tryz.results12, go_sem, p0, p1, p2]) rfl R.out
theorem ceil_o {w : World} {s : Bool} {v u : Value} {o : Option Rat}  (h : RA w s v u o) : Calls Tryz.prog 12 #[.agg #[.bool s, v, u]] w (RatO true (ceilO o) w) := by
  obtain ⟨a, n, c, b, m, d, rfl, rfl⟩ := h.form
  exact ceil_o_w  w h
set_option maxRecDepth 100000 in
set_option maxHeartbeats 12800000 in
theorem near_o_w {s : Bool} {a : Option Addr} {n c : Nat} {b : Option Addr} {m d : Nat} {o : Option Rat}  (w : World) (h : RA w s (.slice a n c) (.slice b m d) o) :
    Calls Tryz.prog 13 #[.agg #[.bool s, .slice a n c, .slice b m d]] w (RatO true (nearO o) w) := by
  obtain ⟨Q, hQ⟩ : ∃ Q, Q = RatO true (nearO o) w := ⟨_, rfl⟩
  rw [← hQ]
  have HQ := hid hQ
  clear hQ
  have B := hid (show Below w.heap.size w ((w.alloc (.cells #[.bool s, .slice a n c, .slice b m d] 27)).alloc (.cells #[.bool false, .slice none 0 0, .slice none 0 0] 27)) from ((Below.refl _ _).alloc (Nat.le_refl _) _).alloc (by simp) _)
  have LX := hid (show LocA 27 ((w.alloc (.cells #[.bool s, .slice a n c, .slice b m d] 27)).alloc (.cells #[.bool false, .slice none 0 0, .slice none 0 0] 27)) (w.heap.size) #[.bool s, .slice a n c, .slice b m d] from (LocA.at (by simp)).new1)
  have LR := hid (show LocA 27 ((w.alloc (.cells #[.bool s, .slice a n c, .slice b m d] 27)).alloc (.cells #[.bool false, .slice none 0 0, .slice none 0 0] 27)) (w.heap.size + 1) #[.bool false, .slice none 0 0, .slice none 0 0] from LocA.at (by simp))
  have X := hid (h.old B.out)
  clear h
  generalize hW : (w.alloc (.cells #[.bool s, .slice a n c, .slice b m d] 27)).alloc (.cells #[.bool false, .slice none 0 0, .slice none 0 0] 27) = W0 at B X LX LR
  have HW := hid hW
  clear hW
  have hs0 := B.out.size
  have hw0 := LR.out.lt
  go_enter Tryz.func13, Tryz.ntmps13
  have q0 := LX.out.c 0 (v := .bool s) rfl
  have q1 := LX.out.c 1 (v := .slice a n c) rfl
  have q2 := LX.out.c 2 (v := .slice b m d) rfl
  go_wp2_with fail
  rw [HW.out]
  (with_reducible refine (round_mid X.out).mono ?_)
  clear q0 q1 q2
  rintro e w1 ⟨s1, a1, n1, c1, b1, m1, d1, rfl, hr, hb⟩
  have F := hid (hr.base B.out.size)
  have LX := hid (LX.out.old hb)
  have LR := hid (LR.out.old hb)
  have X := hid (X.out.old hb)
  have B := hid (B.out.trans (hb.mono B.out.size))
  clear hr hb
  have f0 := LR.out.f 0
  have f1 := LR.out.f 1
  have f2 := LR.out.f 2
  have p0 := LR.out.c 0 rfl
  have p1 := LR.out.c 1 rfl
  have p2 := LR.out.c 2 rfl
  have R := hid (q_of HQ.out (RO.out (w := w) (N := w.heap.size + 1) F.out (Nat.le_refl _) (by omega) LR.out (by decide) B.out))
  go_wp2
  exact bodyPost_ret (v := .agg #[.bool s1, .slice a1 n1 c1, .slice b1 m1 d1]) (by simp [results, Tryz.results13, go_sem, p0, p1, p2]) rfl R.out
theorem near_o {w : World} {s : Bool} {v u : Value} {o : Option Rat}  (h : RA w s v u o) : Calls Tryz.prog 13 #[.agg #[.bool s, v, u]] w (RatO true (nearO o) w) := by
  obtain ⟨a, n, c, b, m, d, rfl, rfl⟩ := h.form
  exact near_o_w  w h
set_option maxRecDepth 100000 in
set_option maxHeartbeats 12800000 in
theorem frac_o_w {s : Bool} {a : Option Addr} {n c : Nat} {b : Option Addr} {m d : Nat} {o : Option Rat}  (w : World) (h : RA w s (.slice a n c) (.slice b m d) o) :
    Calls Tryz.prog 18 #[.agg #[.bool s, .slice a n c, .slice b m d]] w (RatO true (fracO o) w) := by
  obtain ⟨Q, hQ⟩ : ∃ Q, Q = RatO true (fracO o) w := ⟨_, rfl⟩
  rw [← hQ]
  have HQ := hid hQ
  clear hQ
  have B := hid (show Below w.heap.size w ((w.alloc (.cells #[.bool s, .slice a n c, .slice b m d] 27)).alloc (.cells #[.bool false, .slice none 0 0, .slice none 0 0] 27)) from ((Below.refl _ _).alloc (Nat.le_refl _) _).alloc (by simp) _)
  have LX := hid (show LocA 27 ((w.alloc (.cells #[.bool s, .slice a n c, .slice b m d] 27)).alloc (.cells #[.bool false, .slice none 0 0, .slice none 0 0] 27)) (w.heap.size) #[.bool s, .slice a n c, .slice b m d] from (LocA.at (by simp)).new1)
  have LR := hid (show LocA 27 ((w.alloc (.cells #[.bool s, .slice a n c, .slice b m d] 27)).alloc (.cells #[.bool false, .slice none 0 0, .slice none 0 0] 27)) (w.heap.size + 1) #[.bool false, .slice none 0 0, .slice none 0 0] from LocA.at (by simp))
  have X := hid (h.old B.out)
  clear h
  generalize hW : (w.alloc (.cells #[.bool s, .slice a n c, .slice b m d] 27)).alloc (.cells #[.bool false, .slice none 0 0, .slice none 0 0] 27) = W0 at B X LX LR
  have HW := hid hW
  clear hW
  have hs0 := B.out.size
  have hw0 := LR.out.lt
  go_enter Tryz.func18, Tryz.ntmps18
  go_wp2_with fail
  rw [HW.out]
  have LX := hid (LX.out.old (Below_drew1 (Below.refl _ _)))
  have LR := hid (LR.out.old (Below_drew1 (Below.refl _ _)))
  have X := hid (X.out.old (Below_drew1 (Below.refl _ _)))
  have B := hid (Below_drew1 B.out)
  have q0 := LX.out.c 0 (v := .bool s) rfl
  have q1 := LX.out.c 1 (v := .slice a n c) rfl
  have q2 := LX.out.c 2 (v := .slice b m d) rfl
  have hlX := LX.out.lt
  go_region_held3 (fun w' => w'.cell? ⟨w.heap.size, 0, none⟩ = some (.bool s) ∧ w'.cell? ⟨w.heap.size, 1, none⟩ = some (.slice a n c) ∧ w'.cell? ⟨w.heap.size, 2, none⟩ = some (.slice b m d)) (first | with_reducible exact ⟨q0, q1, q2⟩ | ((with_reducible refine ⟨(cell_set3 ?_).trans q0, (cell_set3 ?_).trans q1, (cell_set3 ?_).trans q2⟩) <;> omega) | go_keep) (first | (go_at_call 11; (with_reducible refine (floor_o X.out).mono ?_); rintro e w1 ⟨s1, a1, n1, c1, b1, m1, d1, rfl, hr, hb⟩; have F := hid (hr.base B.out.size); have LX := hid (LX.out.old hb); have LR := hid (LR.out.old hb); have X := hid (X.out.old hb); have B := hid (B.out.trans (hb.mono B.out.size)); clear hr hb; have q0 := LX.out.c 0 (v := .bool s) rfl; have q1 := LX.out.c 1 (v := .slice a n c) rfl; have q2 := LX.out.c 2 (v := .slice b m d) rfl) | (go_at_call 49; (with_reducible refine (sub_o X.out F.out.ra).mono ?_); rintro e w2 ⟨s2, a2, n2, c2, b2, m2, d2, rfl, hr, hb⟩; have R1 := hid (hr.base B.out.size); have LX := hid (LX.out.old hb); have LR := hid (LR.out.old hb); have X := hid (X.out.old hb); have F := hid (F.out.old hb); have B := hid (B.out.trans (hb.mono B.out.size)); clear hr hb; have q0 := LX.out.c 0 (v := .bool s) rfl; have q1 := LX.out.c 1 (v := .slice a n c) rfl; have q2 := LX.out.c 2 (v := .slice b m d) rfl; have f0 := LR.out.f 0; have f1 := LR.out.f 1; have f2 := LR.out.f 2; have p0 := LR.out.c 0 rfl; have p1 := LR.out.c 1 rfl; have p2 := LR.out.c 2 rfl; have R := hid (q_of HQ.out (RO.out (w := w) (N := w.heap.size + 1) R1.out (Nat.le_refl _) (by omega) LR.out (by decide) B.out))))
  clear q0 q1 q2
  go_wp2
  exact bodyPost_ret (v := .agg #[.bool s2, .slice a2 n2 c2, .slice b2 m2 d2]) (by simp [results, Tryz.results18, go_sem, p0, p1, p2]) rfl R.out
theorem frac_o {w : World} {s : Bool} {v u : Value} {o : Option Rat}  (h : RA w s v u o) : Calls Tryz.prog 18 #[.agg #[.bool s, v, u]] w (RatO true (fracO o) w) := by
  obtain ⟨a, n, c, b, m, d, rfl, rfl⟩ := h.form
  exact frac_o_w  w h
set_option maxRecDepth 100000 in
set_option maxHeartbeats 12800000 in
theorem dist_o_w {s : Bool} {a : Option Addr} {n c : Nat} {b : Option Addr} {m d : Nat} {o : Option Rat}  (w : World) (h : RA w s (.slice a n c) (.slice b m d) o) :
    Calls Tryz.prog 17 #[.agg #[.bool s, .slice a n c, .slice b m d]] w (RatO true (distO o) w) := by
  obtain ⟨Q, hQ⟩ : ∃ Q, Q = RatO true (distO o) w := ⟨_, rfl⟩
  rw [← hQ]
  have HQ := hid hQ
  clear hQ
  have B := hid (show Below w.heap.size w ((w.alloc (.cells #[.bool s, .slice a n c, .slice b m d] 27)).alloc (.cells #[.bool false, .slice none 0 0, .slice none 0 0] 27)) from ((Below.refl _ _).alloc (Nat.le_refl _) _).alloc (by simp) _)
  have LX := hid (show LocA 27 ((w.alloc (.cells #[.bool s, .slice a n c, .slice b m d] 27)).alloc (.cells #[.bool false, .slice none 0 0, .slice none 0 0] 27)) (w.heap.size) #[.bool s, .slice a n c, .slice b m d] from (LocA.at (by simp)).new1)
  have LR := hid (show LocA 27 ((w.alloc (.cells #[.bool s, .slice a n c, .slice b m d] 27)).alloc (.cells #[.bool false, .slice none 0 0, .slice none 0 0] 27)) (w.heap.size + 1) #[.bool false, .slice none 0 0, .slice none 0 0] from LocA.at (by simp))
  have X := hid (h.old B.out)
  clear h
  generalize hW : (w.alloc (.cells #[.bool s, .slice a n c, .slice b m d] 27)).alloc (.cells #[.bool false, .slice none 0 0, .slice none 0 0] 27) = W0 at B X LX LR
  have HW := hid hW
  clear hW
  have hs0 := B.out.size
  have hw0 := LR.out.lt
  go_enter Tryz.func17, Tryz.ntmps17
  have hnD := LR.out.lt
  go_upto_region 1 with fail
  rw [HW.out]
  go_cut [3] (fun sl wx => LaidO true W0 (bq subF o (nearO o)) sl wx)
  case first =>
    have LXD := hid (LX.out.old (Below_drew1 (Below.refl _ _)))
    have LXE := hid (LX.out.old (Below_drew1 (below_new' (o := .cells #[.bool false, .slice none 0 0, .slice none 0 0] 27))))
    have LRD := hid (LR.out.old (Below_drew1 (Below.refl _ _)))
    have LRE := hid (LR.out.old (Below_drew1 (below_new' (o := .cells #[.bool false, .slice none 0 0, .slice none 0 0] 27))))
    have XD := hid (X.out.old (Below_drew1 (Below.refl _ _)))
    have XE := hid (X.out.old (Below_drew1 (below_new' (o := .cells #[.bool false, .slice none 0 0, .slice none 0 0] 27))))
    have CD := hid (show Below W0.heap.size W0 W0.drew from Below_drew1 (Below.refl _ _))
    have CE := hid (show Below W0.heap.size W0 (W0.alloc (.cells #[.bool false, .slice none 0 0, .slice none 0 0] 27)).drew from Below_drew1 below_new')
    have NE := hid (show LocA 27 (W0.alloc (.cells #[.bool false, .slice none 0 0, .slice none 0 0] 27)).drew W0.heap.size #[.bool false, .slice none 0 0, .slice none 0 0] from LocA.new)
    have hlX := LX.out.lt
    have q0 := LXD.out.c 0 (v := .bool s) rfl
    have q1 := LXD.out.c 1 (v := .slice a n c) rfl
    have q2 := LXD.out.c 2 (v := .slice b m d) rfl
    have qE0 := LXE.out.c 0 (v := .bool s) rfl
    have qE1 := LXE.out.c 1 (v := .slice a n c) rfl
    have qE2 := LXE.out.c 2 (v := .slice b m d) rfl
    go_region_held3 (fun w' => w'.cell? ⟨w.heap.size, 0, none⟩ = some (.bool s) ∧ w'.cell? ⟨w.heap.size, 1, none⟩ = some (.slice a n c) ∧ w'.cell? ⟨w.heap.size, 2, none⟩ = some (.slice b m d)) (first | with_reducible exact ⟨q0, q1, q2⟩ | with_reducible exact ⟨qE0, qE1, qE2⟩ | ((with_reducible refine ⟨(LXC.out.new1).c 0 ?_, (LXC.out.new1).c 1 ?_, (LXC.out.new1).c 2 ?_⟩) <;> rfl) | ((with_reducible refine ⟨(cell_set3 ?_).trans q0, (cell_set3 ?_).trans q1, (cell_set3 ?_).trans q2⟩) <;> (have := NZ.out.2; omega)) | go_keep) (first | (go_at_call 13; (with_reducible refine (near_o (by first | with_reducible exact XC.out | with_reducible exact (XC.out.old (below_new' (o := .cells #[.bool false, .slice none 0 0, .slice none 0 0] 27))) | with_reducible exact XD.out | with_reducible exact XE.out)).mono ?_); rintro e wq ⟨gs, aa, nn, cc, bb, mm, dd, rfl, hr, hb⟩; have hr := hr.base (show W0.heap.size ≤ _ from by first | with_reducible exact CC.out.size | with_reducible exact Nat.le_trans CC.out.size (by simp) | with_reducible exact CD.out.size | with_reducible exact CE.out.size); (try (first | (have NZ := hid (And.intro (NZ.out.1.old hb) NZ.out.2)) | (have NZ := hid (And.intro (NE.out.old hb) (show W0.heap.size ≤ W0.heap.size from Nat.le_refl _))) | (have NZ := hid (And.intro ((LocA.new (T := 27) (cs := #[.bool false, .slice none 0 0, .slice none 0 0])).old hb) CC.out.size)))); (first | (have CC := hid (CC.out.trans (hb.mono CC.out.size))) | (have CC := hid ((CC.out.alloc CC.out.size (.cells #[.bool false, .slice none 0 0, .slice none 0 0] 27)).trans (hb.mono (Nat.le_trans CC.out.size (by simp))))) | (have CC := hid (CD.out.trans (hb.mono CD.out.size))) | (have CC := hid (CE.out.trans (hb.mono CE.out.size)))); (first | (with_reducible have LXC := hid (LXC.out.old hb)) | (with_reducible have LXC := hid ((LXC.out.old (below_new' (o := .cells #[.bool false, .slice none 0 0, .slice none 0 0] 27))).old hb)) | (with_reducible have LXC := hid (LXD.out.old hb)) | (with_reducible have LXC := hid (LXE.out.old hb))); (first | (with_reducible have LRC := hid (LRC.out.old hb)) | (with_reducible have LRC := hid ((LRC.out.old (below_new' (o := .cells #[.bool false, .slice none 0 0, .slice none 0 0] 27))).old hb)) | (with_reducible have LRC := hid (LRD.out.old hb)) | (with_reducible have LRC := hid (LRE.out.old hb))); (first | (with_reducible have XC := hid (XC.out.old hb)) | (with_reducible have XC := hid ((XC.out.old (below_new' (o := .cells #[.bool false, .slice none 0 0, .slice none 0 0] 27))).old hb)) | (with_reducible have XC := hid (XD.out.old hb)) | (with_reducible have XC := hid (XE.out.old hb))); have NC := hid hr; have q0 := LXC.out.c 0 (v := .bool s) rfl; have q1 := LXC.out.c 1 (v := .slice a n c) rfl; have q2 := LXC.out.c 2 (v := .slice b m d) rfl; clear hr hb) | (go_at_call 49; (with_reducible refine (sub_o (by first | with_reducible exact XC.out | with_reducible exact (XC.out.old (below_new' (o := .cells #[.bool false, .slice none 0 0, .slice none 0 0] 27))) | with_reducible exact XD.out | with_reducible exact XE.out) (by first | with_reducible exact NC.out.ra | with_reducible exact (NC.out.old (below_new' (o := .cells #[.bool false, .slice none 0 0, .slice none 0 0] 27))).ra)).mono ?_); rintro e wq ⟨gs, aa, nn, cc, bb, mm, dd, rfl, hr, hb⟩; have hr := hr.base (show W0.heap.size ≤ _ from by first | with_reducible exact CC.out.size | with_reducible exact Nat.le_trans CC.out.size (by simp) | with_reducible exact CD.out.size | with_reducible exact CE.out.size); (try (first | (have NZ := hid (And.intro (NZ.out.1.old hb) NZ.out.2)) | (have NZ := hid (And.intro (NE.out.old hb) (show W0.heap.size ≤ W0.heap.size from Nat.le_refl _))) | (have NZ := hid (And.intro ((LocA.new (T := 27) (cs := #[.bool false, .slice none 0 0, .slice none 0 0])).old hb) CC.out.size)))); (first | (have CC := hid (CC.out.trans (hb.mono CC.out.size))) | (have CC := hid ((CC.out.alloc CC.out.size (.cells #[.bool false, .slice none 0 0, .slice none 0 0] 27)).trans (hb.mono (Nat.le_trans CC.out.size (by simp))))) | (have CC := hid (CD.out.trans (hb.mono CD.out.size))) | (have CC := hid (CE.out.trans (hb.mono CE.out.size)))); (first | (with_reducible have LXC := hid (LXC.out.old hb)) | (with_reducible have LXC := hid ((LXC.out.old (below_new' (o := .cells #[.bool false, .slice none 0 0, .slice none 0 0] 27))).old hb)) | (with_reducible have LXC := hid (LXD.out.old hb)) | (with_reducible have LXC := hid (LXE.out.old hb))); (first | (with_reducible have LRC := hid (LRC.out.old hb)) | (with_reducible have LRC := hid ((LRC.out.old (below_new' (o := .cells #[.bool false, .slice none 0 0, .slice none 0 0] 27))).old hb)) | (with_reducible have LRC := hid (LRD.out.old hb)) | (with_reducible have LRC := hid (LRE.out.old hb))); (first | (with_reducible have XC := hid (XC.out.old hb)) | (with_reducible have XC := hid ((XC.out.old (below_new' (o := .cells #[.bool false, .slice none 0 0, .slice none 0 0] 27))).old hb)) | (with_reducible have XC := hid (XD.out.old hb)) | (with_reducible have XC := hid (XE.out.old hb))); (first | (with_reducible have NC := hid (NC.out.old hb)) | (with_reducible have NC := hid ((NC.out.old (below_new' (o := .cells #[.bool false, .slice none 0 0, .slice none 0 0] 27))).old hb))); have DC := hid hr; have q0 := LXC.out.c 0 (v := .bool s) rfl; have q1 := LXC.out.c 1 (v := .slice a n c) rfl; have q2 := LXC.out.c 2 (v := .slice b m d) rfl; (try (have f0 := NZ.out.1.f 0; have f1 := NZ.out.1.f 1; have f2 := NZ.out.1.f 2; have p0 := NZ.out.1.c 0 rfl; have p1 := NZ.out.1.c 1 rfl; have p2 := NZ.out.1.c 2 rfl)); clear hr hb))
    all_goals
      go_wp2_with fail
      go_meet
      first | with_reducible exact LaidO_a DC.out CC.out | with_reducible exact LaidO_b NZ.out.1 NZ.out.2 DC.out CC.out
  case rest =>
    generalize wc = w1 at hcut ⊢
    obtain ⟨g1, s1, a1, n1, c1, b1, m1, d1, rfl, hL, hR, hg, hb⟩ := hcut
    have LD := hid hL
    have D := hid (hR.base B.out.size)
    have hgD := hg
    have LX := hid (LX.out.old hb)
    have LR := hid (LR.out.old hb)
    have X := hid (X.out.old hb)
    have B := hid (B.out.trans (hb.mono B.out.size))
    clear hL hR hb hg
    go_wp2_with fail
    have LX := hid (LX.out.old (Below_drew1 (Below.refl _ _)))
    have LR := hid (LR.out.old (Below_drew1 (Below.refl _ _)))
    have X := hid (X.out.old (Below_drew1 (Below.refl _ _)))
    have D := hid (D.out.old (Below_drew1 (Below.refl _ _)))
    have LD := hid (LD.out.old (Below_drew1 (Below.refl _ _)))
    have B := hid (Below_drew1 B.out)
    have q0 := LD.out.c 0 (v := .bool s1) rfl
    have q1 := LD.out.c 1 (v := .slice a1 n1 c1) rfl
    have q2 := LD.out.c 2 (v := .slice b1 m1 d1) rfl
    have hlD := LD.out.lt
    go_region_held3 (fun w' => w'.cell? ⟨g1, 0, none⟩ = some (.bool s1) ∧ w'.cell? ⟨g1, 1, none⟩ = some (.slice a1 n1 c1) ∧ w'.cell? ⟨g1, 2, none⟩ = some (.slice b1 m1 d1)) (first | with_reducible exact ⟨q0, q1, q2⟩ | ((with_reducible refine ⟨(cell_set3 ?_).trans q0, (cell_set3 ?_).trans q1, (cell_set3 ?_).trans q2⟩) <;> omega) | go_keep) (first | (go_at_call 23; (with_reducible refine (neg_o D.out.ra).mono ?_); rintro e w2 ⟨s2, a2, n2, c2, b2, m2, d2, rfl, hr, hb⟩; have G := hid (hr.base B.out.size); have LX := hid (LX.out.old hb); have LR := hid (LR.out.old hb); have X := hid (X.out.old hb); have D := hid (D.out.old hb); have LD := hid (LD.out.old hb); have B := hid (B.out.trans (hb.mono B.out.size)); clear hr hb; have q0 := LD.out.c 0 (v := .bool s1) rfl; have q1 := LD.out.c 1 (v := .slice a1 n1 c1) rfl; have q2 := LD.out.c 2 (v := .slice b1 m1 d1) rfl) | (go_at_call 50; (with_reducible refine (max_o D.out.ra G.out.ra).mono ?_); rintro e w3 ⟨s3, a3, n3, c3, b3, m3, d3, rfl, hr, hb⟩; have R1 := hid (hr.base B.out.size); have LX := hid (LX.out.old hb); have LR := hid (LR.out.old hb); have X := hid (X.out.old hb); have D := hid (D.out.old hb); have LD := hid (LD.out.old hb); have G := hid (G.out.old hb); have B := hid (B.out.trans (hb.mono B.out.size)); clear hr hb; have q0 := LD.out.c 0 (v := .bool s1) rfl; have q1 := LD.out.c 1 (v := .slice a1 n1 c1) rfl; have q2 := LD.out.c 2 (v := .slice b1 m1 d1) rfl; have f0 := LR.out.f 0; have f1 := LR.out.f 1; have f2 := LR.out.f 2; have p0 := LR.out.c 0 rfl; have p1 := LR.out.c 1 rfl; have p2 := LR.out.c 2 rfl; have R := hid (q_of HQ.out (RO.out (w := w) (N := w.heap.size + 1) (hid (R1.out.eqo (abs_max _))).out (Nat.le_refl _) (by omega) LR.out (by decide) B.out))))
    clear q0 q1 q2
    go_wp2
    exact bodyPost_ret (v := .agg #[.bool s3, .slice a3 n3 c3, .slice b3 m3 d3]) (by simp [results, Tryz.results17, go_sem, p0, p1, p2]) rfl R.out
theorem dist_o {w : World} {s : Bool} {v u : Value} {o : Option Rat}  (h : RA w s v u o) : Calls Tryz.prog 17 #[.agg #[.bool s, v, u]] w (RatO true (distO o) w) := by
  obtain ⟨a, n, c, b, m, d, rfl, rfl⟩ := h.form
  exact dist_o_w  w h
set_option maxRecDepth 100000 in
set_option maxHeartbeats 12800000 in
theorem count_o_w {s : Bool} {a : Option Addr} {n c : Nat} {b : Option Addr} {m d : Nat} {t : Bool} {a' : Option Addr} {n' c' : Nat} {b' : Option Addr} {m' d' : Nat} {o : Option Rat} {o' : Option Rat}  (w : World) (h : RA w s (.slice a n c) (.slice b m d) o) (h' : RA w t (.slice a' n' c') (.slice b' m' d') o') :
    Calls Tryz.prog 29 #[.agg #[.bool s, .slice a n c, .slice b m d], .agg #[.bool t, .slice a' n' c', .slice b' m' d']] w (RatO true (countO o o') w) := by
  obtain ⟨Q, hQ⟩ : ∃ Q, Q = RatO true (countO o o') w := ⟨_, rfl⟩
  rw [← hQ]
  have HQ := hid hQ
  clear hQ
  have B := hid (show Below w.heap.size w (((w.alloc (.cells #[.bool s, .slice a n c, .slice b m d] 27)).alloc (.cells #[.bool t, .slice a' n' c', .slice b' m' d'] 27)).alloc (.cells #[.bool false, .slice none 0 0, .slice none 0 0] 27)) from (((Below.refl _ _).alloc (Nat.le_refl _) _).alloc (by simp) _).alloc (by simp; try omega) _)
  have LX := hid (show LocA 27 (((w.alloc (.cells #[.bool s, .slice a n c, .slice b m d] 27)).alloc (.cells #[.bool t, .slice a' n' c', .slice b' m' d'] 27)).alloc (.cells #[.bool false, .slice none 0 0, .slice none 0 0] 27)) (w.heap.size) #[.bool s, .slice a n c, .slice b m d] from (LocA.at (by simp)).new1.new1)
  have LY := hid (show LocA 27 (((w.alloc (.cells #[.bool s, .slice a n c, .slice b m d] 27)).alloc (.cells #[.bool t, .slice a' n' c', .slice b' m' d'] 27)).alloc (.cells #[.bool false, .slice none 0 0, .slice none 0 0] 27)) (w.heap.size + 1) #[.bool t, .slice a' n' c', .slice b' m' d'] from (LocA.at (by simp)).new1)
  have LR := hid (show LocA 27 (((w.alloc (.cells #[.bool s, .slice a n c, .slice b m d] 27)).alloc (.cells #[.bool t, .slice a' n' c', .slice b' m' d'] 27)).alloc (.cells #[.bool false, .slice none 0 0, .slice none 0 0] 27)) (w.heap.size + 1 + 1) #[.bool false, .slice none 0 0, .slice none 0 0] from LocA.at (by simp))
  have X := hid (h.old B.out)
  have Y := hid (h'.old B.out)
  clear h h'
  generalize hW : ((w.alloc (.cells #[.bool s, .slice a n c, .slice b m d] 27)).alloc (.cells #[.bool t, .slice a' n' c', .slice b' m' d'] 27)).alloc (.cells #[.bool false, .slice none 0 0, .slice none 0 0] 27) = W0 at B X LX Y LY LR
  have HW := hid hW
  clear hW
  have hs0 := B.out.size
  have hw0 := LR.out.lt
  go_enter Tryz.func29, Tryz.ntmps29
  have hnD := LR.out.lt
  go_upto_region 1 with fail
  rw [HW.out]
  go_cut [5] (fun sl wx => LaidO true W0 (bq subF (floorO o') (ceilO o)) sl wx)
  case first =>
    have LXD := hid (LX.out.old (Below_drew1 (Below.refl _ _)))
    have LXE := hid (LX.out.old (Below_drew1 (below_new' (o := .cells #[.bool false, .slice none 0 0, .slice none 0 0] 27))))
    have LYD := hid (LY.out.old (Below_drew1 (Below.refl _ _)))
    have LYE := hid (LY.out.old (Below_drew1 (below_new' (o := .cells #[.bool false, .slice none 0 0, .slice none 0 0] 27))))
    have LRD := hid (LR.out.old (Below_drew1 (Below.refl _ _)))
    have LRE := hid (LR.out.old (Below_drew1 (below_new' (o := .cells #[.bool false, .slice none 0 0, .slice none 0 0] 27))))
    have XD := hid (X.out.old (Below_drew1 (Below.refl _ _)))
    have XE := hid (X.out.old (Below_drew1 (below_new' (o := .cells #[.bool false, .slice none 0 0, .slice none 0 0] 27))))
    have YD := hid (Y.out.old (Below_drew1 (Below.refl _ _)))
    have YE := hid (Y.out.old (Below_drew1 (below_new' (o := .cells #[.bool false, .slice none 0 0, .slice none 0 0] 27))))
    have CD := hid (show Below W0.heap.size W0 W0.drew from Below_drew1 (Below.refl _ _))
    have CE := hid (show Below W0.heap.size W0 (W0.alloc (.cells #[.bool false, .slice none 0 0, .slice none 0 0] 27)).drew from Below_drew1 below_new')
    have NE := hid (show LocA 27 (W0.alloc (.cells #[.bool false, .slice none 0 0, .slice none 0 0] 27)).drew W0.heap.size #[.bool false, .slice none 0 0, .slice none 0 0] from LocA.new)
    have hlY := LY.out.lt
    have hlX := LX.out.lt
    have q0 := LYD.out.c 0 (v := .bool t) rfl
    have q1 := LYD.out.c 1 (v := .slice a' n' c') rfl
    have q2 := LYD.out.c 2 (v := .slice b' m' d') rfl
    have q3 := LXD.out.c 0 (v := .bool s) rfl
    have q4 := LXD.out.c 1 (v := .slice a n c) rfl
    have q5 := LXD.out.c 2 (v := .slice b m d) rfl
    have qE0 := LYE.out.c 0 (v := .bool t) rfl
    have qE1 := LYE.out.c 1 (v := .slice a' n' c') rfl
    have qE2 := LYE.out.c 2 (v := .slice b' m' d') rfl
    have qE3 := LXE.out.c 0 (v := .bool s) rfl
    have qE4 := LXE.out.c 1 (v := .slice a n c) rfl
    have qE5 := LXE.out.c 2 (v := .slice b m d) rfl
    go_region_held3 (fun w' => w'.cell? ⟨w.heap.size + 1, 0, none⟩ = some (.bool t) ∧ w'.cell? ⟨w.heap.size + 1, 1, none⟩ = some (.slice a' n' c') ∧ w'.cell? ⟨w.heap.size + 1, 2, none⟩ = some (.slice b' m' d') ∧ w'.cell? ⟨w.heap.size, 0, none⟩ = some (.bool s) ∧ w'.cell? ⟨w.heap.size, 1, none⟩ = some (.slice a n c) ∧ w'.cell? ⟨w.heap.size, 2, none⟩ = some (.slice b m d)) (first | with_reducible exact ⟨q0, q1, q2, q3, q4, q5⟩ | with_reducible exact ⟨qE0, qE1, qE2, qE3, qE4, qE5⟩ | ((with_reducible refine ⟨(LYC.out.new1).c 0 ?_, (LYC.out.new1).c 1 ?_, (LYC.out.new1).c 2 ?_, (LXC.out.new1).c 0 ?_, (LXC.out.new1).c 1 ?_, (LXC.out.new1).c 2 ?_⟩) <;> rfl) | ((with_reducible refine ⟨(cell_set3 ?_).trans q0, (cell_set3 ?_).trans q1, (cell_set3 ?_).trans q2, (cell_set3 ?_).trans q3, (cell_set3 ?_).trans q4, (cell_set3 ?_).trans q5⟩) <;> (have := NZ.out.2; omega)) | go_keep) (first | (go_at_call 11; (with_reducible refine (floor_o (by first | with_reducible exact YC.out | with_reducible exact (YC.out.old (below_new' (o := .cells #[.bool false, .slice none 0 0, .slice none 0 0] 27))) | with_reducible exact YD.out | with_reducible exact YE.out)).mono ?_); rintro e wq ⟨gs, aa, nn, cc, bb, mm, dd, rfl, hr, hb⟩; have hr := hr.base (show W0.heap.size ≤ _ from by first | with_reducible exact CC.out.size | with_reducible exact Nat.le_trans CC.out.size (by simp) | with_reducible exact CD.out.size | with_reducible exact CE.out.size); (try (first | (have NZ := hid (And.intro (NZ.out.1.old hb) NZ.out.2)) | (have NZ := hid (And.intro (NE.out.old hb) (show W0.heap.size ≤ W0.heap.size from Nat.le_refl _))) | (have NZ := hid (And.intro ((LocA.new (T := 27) (cs := #[.bool false, .slice none 0 0, .slice none 0 0])).old hb) CC.out.size)))); (first | (have CC := hid (CC.out.trans (hb.mono CC.out.size))) | (have CC := hid ((CC.out.alloc CC.out.size (.cells #[.bool false, .slice none 0 0, .slice none 0 0] 27)).trans (hb.mono (Nat.le_trans CC.out.size (by simp))))) | (have CC := hid (CD.out.trans (hb.mono CD.out.size))) | (have CC := hid (CE.out.trans (hb.mono CE.out.size)))); (first | (with_reducible have LXC := hid (LXC.out.old hb)) | (with_reducible have LXC := hid ((LXC.out.old (below_new' (o := .cells #[.bool false, .slice none 0 0, .slice none 0 0] 27))).old hb)) | (with_reducible have LXC := hid (LXD.out.old hb)) | (with_reducible have LXC := hid (LXE.out.old hb))); (first | (with_reducible have LYC := hid (LYC.out.old hb)) | (with_reducible have LYC := hid ((LYC.out.old (below_new' (o := .cells #[.bool false, .slice none 0 0, .slice none 0 0] 27))).old hb)) | (with_reducible have LYC := hid (LYD.out.old hb)) | (with_reducible have LYC := hid (LYE.out.old hb))); (first | (with_reducible have LRC := hid (LRC.out.old hb)) | (with_reducible have LRC := hid ((LRC.out.old (below_new' (o := .cells #[.bool false, .slice none 0 0, .slice none 0 0] 27))).old hb)) | (with_reducible have LRC := hid (LRD.out.old hb)) | (with_reducible have LRC := hid (LRE.out.old hb))); (first | (with_reducible have XC := hid (XC.out.old hb)) | (with_reducible have XC := hid ((XC.out.old (below_new' (o := .cells #[.bool false, .slice none 0 0, .slice none 0 0] 27))).old hb)) | (with_reducible have XC := hid (XD.out.old hb)) | (with_reducible have XC := hid (XE.out.old hb))); (first | (with_reducible have YC := hid (YC.out.old hb)) | (with_reducible have YC := hid ((YC.out.old (below_new' (o := .cells #[.bool false, .slice none 0 0, .slice none 0 0] 27))).old hb)) | (with_reducible have YC := hid (YD.out.old hb)) | (with_reducible have YC := hid (YE.out.old hb))); have FC := hid hr; have q0 := LYC.out.c 0 (v := .bool t) rfl; have q1 := LYC.out.c 1 (v := .slice a' n' c') rfl; have q2 := LYC.out.c 2 (v := .slice b' m' d') rfl; have q3 := LXC.out.c 0 (v := .bool s) rfl; have q4 := LXC.out.c 1 (v := .slice a n c) rfl; have q5 := LXC.out.c 2 (v := .slice b m d) rfl; clear hr hb) | (go_at_call 12; (with_reducible refine (ceil_o (by first | with_reducible exact XC.out | with_reducible exact (XC.out.old (below_new' (o := .cells #[.bool false, .slice none 0 0, .slice none 0 0] 27))) | with_reducible exact XD.out | with_reducible exact XE.out)).mono ?_); rintro e wq ⟨gs, aa, nn, cc, bb, mm, dd, rfl, hr, hb⟩; have hr := hr.base (show W0.heap.size ≤ _ from by first | with_reducible exact CC.out.size | with_reducible exact Nat.le_trans CC.out.size (by simp) | with_reducible exact CD.out.size | with_reducible exact CE.out.size); (try (first | (have NZ := hid (And.intro (NZ.out.1.old hb) NZ.out.2)) | (have NZ := hid (And.intro (NE.out.old hb) (show W0.heap.size ≤ W0.heap.size from Nat.le_refl _))) | (have NZ := hid (And.intro ((LocA.new (T := 27) (cs := #[.bool false, .slice none 0 0, .slice none 0 0])).old hb) CC.out.size)))); (first | (have CC := hid (CC.out.trans (hb.mono CC.out.size))) | (have CC := hid ((CC.out.alloc CC.out.size (.cells #[.bool false, .slice none 0 0, .slice none 0 0] 27)).trans (hb.mono (Nat.le_trans CC.out.size (by simp))))) | (have CC := hid (CD.out.trans (hb.mono CD.out.size))) | (have CC := hid (CE.out.trans (hb.mono CE.out.size)))); (first | (with_reducible have LXC := hid (LXC.out.old hb)) | (with_reducible have LXC := hid ((LXC.out.old (below_new' (o := .cells #[.bool false, .slice none 0 0, .slice none 0 0] 27))).old hb)) | (with_reducible have LXC := hid (LXD.out.old hb)) | (with_reducible have LXC := hid (LXE.out.old hb))); (first | (with_reducible have LYC := hid (LYC.out.old hb)) | (with_reducible have LYC := hid ((LYC.out.old (below_new' (o := .cells #[.bool false, .slice none 0 0, .slice none 0 0] 27))).old hb)) | (with_reducible have LYC := hid (LYD.out.old hb)) | (with_reducible have LYC := hid (LYE.out.old hb))); (first | (with_reducible have LRC := hid (LRC.out.old hb)) | (with_reducible have LRC := hid ((LRC.out.old (below_new' (o := .cells #[.bool false, .slice none 0 0, .slice none 0 0] 27))).old hb)) | (with_reducible have LRC := hid (LRD.out.old hb)) | (with_reducible have LRC := hid (LRE.out.old hb))); (first | (with_reducible have XC := hid (XC.out.old hb)) | (with_reducible have XC := hid ((XC.out.old (below_new' (o := .cells #[.bool false, .slice none 0 0, .slice none 0 0] 27))).old hb)) | (with_reducible have XC := hid (XD.out.old hb)) | (with_reducible have XC := hid (XE.out.old hb))); (first | (with_reducible have YC := hid (YC.out.old hb)) | (with_reducible have YC := hid ((YC.out.old (below_new' (o := .cells #[.bool false, .slice none 0 0, .slice none 0 0] 27))).old hb)) | (with_reducible have YC := hid (YD.out.old hb)) | (with_reducible have YC := hid (YE.out.old hb))); (first | (with_reducible have FC := hid (FC.out.old hb)) | (with_reducible have FC := hid ((FC.out.old (below_new' (o := .cells #[.bool false, .slice none 0 0, .slice none 0 0] 27))).old hb))); have UC := hid hr; have q0 := LYC.out.c 0 (v := .bool t) rfl; have q1 := LYC.out.c 1 (v := .slice a' n' c') rfl; have q2 := LYC.out.c 2 (v := .slice b' m' d') rfl; have q3 := LXC.out.c 0 (v := .bool s) rfl; have q4 := LXC.out.c 1 (v := .slice a n c) rfl; have q5 := LXC.out.c 2 (v := .slice b m d) rfl; clear hr hb) | (go_at_call 49; (with_reducible refine (sub_o (by first | with_reducible exact FC.out.ra | with_reducible exact (FC.out.old (below_new' (o := .cells #[.bool false, .slice none 0 0, .slice none 0 0] 27))).ra) (by first | with_reducible exact UC.out.ra | with_reducible exact (UC.out.old (below_new' (o := .cells #[.bool false, .slice none 0 0, .slice none 0 0] 27))).ra)).mono ?_); rintro e wq ⟨gs, aa, nn, cc, bb, mm, dd, rfl, hr, hb⟩; have hr := hr.base (show W0.heap.size ≤ _ from by first | with_reducible exact CC.out.size | with_reducible exact Nat.le_trans CC.out.size (by simp) | with_reducible exact CD.out.size | with_reducible exact CE.out.size); (try (first | (have NZ := hid (And.intro (NZ.out.1.old hb) NZ.out.2)) | (have NZ := hid (And.intro (NE.out.old hb) (show W0.heap.size ≤ W0.heap.size from Nat.le_refl _))) | (have NZ := hid (And.intro ((LocA.new (T := 27) (cs := #[.bool false, .slice none 0 0, .slice none 0 0])).old hb) CC.out.size)))); (first | (have CC := hid (CC.out.trans (hb.mono CC.out.size))) | (have CC := hid ((CC.out.alloc CC.out.size (.cells #[.bool false, .slice none 0 0, .slice none 0 0] 27)).trans (hb.mono (Nat.le_trans CC.out.size (by simp))))) | (have CC := hid (CD.out.trans (hb.mono CD.out.size))) | (have CC := hid (CE.out.trans (hb.mono CE.out.size)))); (first | (with_reducible have LXC := hid (LXC.out.old hb)) | (with_reducible have LXC := hid ((LXC.out.old (below_new' (o := .cells #[.bool false, .slice none 0 0, .slice none 0 0] 27))).old hb)) | (with_reducible have LXC := hid (LXD.out.old hb)) | (with_reducible have LXC := hid (LXE.out.old hb))); (first | (with_reducible have LYC := hid (LYC.out.old hb)) | (with_reducible have LYC := hid ((LYC.out.old (below_new' (o := .cells #[.bool false, .slice none 0 0, .slice none 0 0] 27))).old hb)) | (with_reducible have LYC := hid (LYD.out.old hb)) | (with_reducible have LYC := hid (LYE.out.old hb))); (first | (with_reducible have LRC := hid (LRC.out.old hb)) | (with_reducible have LRC := hid ((LRC.out.old (below_new' (o := .cells #[.bool false, .slice none 0 0, .slice none 0 0] 27))).old hb)) | (with_reducible have LRC := hid (LRD.out.old hb)) | (with_reducible have LRC := hid (LRE.out.old hb))); (first | (with_reducible have XC := hid (XC.out.old hb)) | (with_reducible have XC := hid ((XC.out.old (below_new' (o := .cells #[.bool false, .slice none 0 0, .slice none 0 0] 27))).old hb)) | (with_reducible have XC := hid (XD.out.old hb)) | (with_reducible have XC := hid (XE.out.old hb))); (first | (with_reducible have YC := hid (YC.out.old hb)) | (with_reducible have YC := hid ((YC.out.old (below_new' (o := .cells #[.bool false, .slice none 0 0, .slice none 0 0] 27))).old hb)) | (with_reducible have YC := hid (YD.out.old hb)) | (with_reducible have YC := hid (YE.out.old hb))); (first | (with_reducible have FC := hid (FC.out.old hb)) | (with_reducible have FC := hid ((FC.out.old (below_new' (o := .cells #[.bool false, .slice none 0 0, .slice none 0 0] 27))).old hb))); (first | (with_reducible have UC := hid (UC.out.old hb)) | (with_reducible have UC := hid ((UC.out.old (below_new' (o := .cells #[.bool false, .slice none 0 0, .slice none 0 0] 27))).old hb))); have DC := hid hr; have q0 := LYC.out.c 0 (v := .bool t) rfl; have q1 := LYC.out.c 1 (v := .slice a' n' c') rfl; have q2 := LYC.out.c 2 (v := .slice b' m' d') rfl; have q3 := LXC.out.c 0 (v := .bool s) rfl; have q4 := LXC.out.c 1 (v := .slice a n c) rfl; have q5 := LXC.out.c 2 (v := .slice b m d) rfl; (try (have f0 := NZ.out.1.f 0; have f1 := NZ.out.1.f 1; have f2 := NZ.out.1.f 2; have p0 := NZ.out.1.c 0 rfl; have p1 := NZ.out.1.c 1 rfl; have p2 := NZ.out.1.c 2 rfl)); clear hr hb))
    all_goals
      go_wp2_with fail
      go_meet
      first | with_reducible exact LaidO_a DC.out CC.out | with_reducible exact LaidO_b NZ.out.1 NZ.out.2 DC.out CC.out
  case rest =>
    generalize wc = w1 at hcut ⊢
    obtain ⟨g1, s1, a1, n1, c1, b1, m1, d1, rfl, hL, hR, hg, hb⟩ := hcut
    have LD := hid hL
    have D := hid (hR.base B.out.size)
    have hgD := hg
    have LX := hid (LX.out.old hb)
    have LY := hid (LY.out.old hb)
    have LR := hid (LR.out.old hb)
    have X := hid (X.out.old hb)
    have Y := hid (Y.out.old hb)
    have B := hid (B.out.trans (hb.mono B.out.size))
    clear hL hR hb hg
    go_wp2_with fail
    have LX := hid (LX.out.old (Below_drew1 (Below.refl _ _)))
    have LY := hid (LY.out.old (Below_drew1 (Below.refl _ _)))
    have LR := hid (LR.out.old (Below_drew1 (Below.refl _ _)))
    have X := hid (X.out.old (Below_drew1 (Below.refl _ _)))
    have Y := hid (Y.out.old (Below_drew1 (Below.refl _ _)))
    have D := hid (D.out.old (Below_drew1 (Below.refl _ _)))
    have LD := hid (LD.out.old (Below_drew1 (Below.refl _ _)))
    have B := hid (Below_drew1 B.out)
    have q0 := LD.out.c 0 (v := .bool s1) rfl
    have q1 := LD.out.c 1 (v := .slice a1 n1 c1) rfl
    have q2 := LD.out.c 2 (v := .slice b1 m1 d1) rfl
    have hlD := LD.out.lt
    go_region_held3 (fun w' => w'.cell? ⟨g1, 0, none⟩ = some (.bool s1) ∧ w'.cell? ⟨g1, 1, none⟩ = some (.slice a1 n1 c1) ∧ w'.cell? ⟨g1, 2, none⟩ = some (.slice b1 m1 d1)) (first | with_reducible exact ⟨q0, q1, q2⟩ | ((with_reducible refine ⟨(cell_set3 ?_).trans q0, (cell_set3 ?_).trans q1, (cell_set3 ?_).trans q2⟩) <;> omega) | go_keep) (first | (go_at_call 14; (with_reducible refine (int_o 1 (by decide) (by decide) _).mono ?_); rintro e w2 ⟨s2, a2, n2, c2, b2, m2, d2, rfl, hr, hb⟩; have I := hid (hr.base B.out.size); have LX := hid (LX.out.old hb); have LY := hid (LY.out.old hb); have LR := hid (LR.out.old hb); have X := hid (X.out.old hb); have Y := hid (Y.out.old hb); have D := hid (D.out.old hb); have LD := hid (LD.out.old hb); have B := hid (B.out.trans (hb.mono B.out.size)); clear hr hb; have q0 := LD.out.c 0 (v := .bool s1) rfl; have q1 := LD.out.c 1 (v := .slice a1 n1 c1) rfl; have q2 := LD.out.c 2 (v := .slice b1 m1 d1) rfl) | (go_at_call 21; (with_reducible refine (add_o D.out.ra I.out.ra).mono ?_); rintro e w3 ⟨s3, a3, n3, c3, b3, m3, d3, rfl, hr, hb⟩; have S := hid (hr.base B.out.size); have LX := hid (LX.out.old hb); have LY := hid (LY.out.old hb); have LR := hid (LR.out.old hb); have X := hid (X.out.old hb); have Y := hid (Y.out.old hb); have D := hid (D.out.old hb); have LD := hid (LD.out.old hb); have I := hid (I.out.old hb); have B := hid (B.out.trans (hb.mono B.out.size)); clear hr hb; have q0 := LD.out.c 0 (v := .bool s1) rfl; have q1 := LD.out.c 1 (v := .slice a1 n1 c1) rfl; have q2 := LD.out.c 2 (v := .slice b1 m1 d1) rfl) | (go_at_call 14; (with_reducible refine (int_o 0 (by decide) (by decide) _).mono ?_); rintro e w4 ⟨s4, a4, n4, c4, b4, m4, d4, rfl, hr, hb⟩; have J := hid (hr.base B.out.size); have LX := hid (LX.out.old hb); have LY := hid (LY.out.old hb); have LR := hid (LR.out.old hb); have X := hid (X.out.old hb); have Y := hid (Y.out.old hb); have D := hid (D.out.old hb); have LD := hid (LD.out.old hb); have I := hid (I.out.old hb); have S := hid (S.out.old hb); have B := hid (B.out.trans (hb.mono B.out.size)); clear hr hb; have q0 := LD.out.c 0 (v := .bool s1) rfl; have q1 := LD.out.c 1 (v := .slice a1 n1 c1) rfl; have q2 := LD.out.c 2 (v := .slice b1 m1 d1) rfl) | (go_at_call 50; (with_reducible refine (max_o S.out.ra J.out.ra).mono ?_); rintro e w5 ⟨s5, a5, n5, c5, b5, m5, d5, rfl, hr, hb⟩; have R1 := hid (hr.base B.out.size); have LX := hid (LX.out.old hb); have LY := hid (LY.out.old hb); have LR := hid (LR.out.old hb); have X := hid (X.out.old hb); have Y := hid (Y.out.old hb); have D := hid (D.out.old hb); have LD := hid (LD.out.old hb); have I := hid (I.out.old hb); have S := hid (S.out.old hb); have J := hid (J.out.old hb); have B := hid (B.out.trans (hb.mono B.out.size)); clear hr hb; have q0 := LD.out.c 0 (v := .bool s1) rfl; have q1 := LD.out.c 1 (v := .slice a1 n1 c1) rfl; have q2 := LD.out.c 2 (v := .slice b1 m1 d1) rfl; have f0 := LR.out.f 0; have f1 := LR.out.f 1; have f2 := LR.out.f 2; have p0 := LR.out.c 0 rfl; have p1 := LR.out.c 1 rfl; have p2 := LR.out.c 2 rfl; have R := hid (q_of HQ.out (RO.out (w := w) (N := w.heap.size + 1 + 1) (hid (R1.out.eqo (pos_max _))).out (Nat.le_refl _) (by omega) LR.out (by decide) B.out))))
    clear q0 q1 q2
    go_wp2
    exact bodyPost_ret (v := .agg #[.bool s5, .slice a5 n5 c5, .slice b5 m5 d5]) (by simp [results, Tryz.results29, go_sem, p0, p1, p2]) rfl R.out
theorem count_o {w : World} {s : Bool} {v u : Value} {t : Bool} {v' u' : Value} {o : Option Rat} {o' : Option Rat}  (h : RA w s v u o) (h' : RA w t v' u' o') : Calls Tryz.prog 29 #[.agg #[.bool s, v, u], .agg #[.bool t, v', u']] w (RatO true (countO o o') w) := by
  obtain ⟨a, n, c, b, m, d, rfl, rfl⟩ := h.form
  obtain ⟨a', n', c', b', m', d', rfl, rfl⟩ := h'.form
  exact count_o_w  w h h'
end Go.Proofs.YtookglpeieennaaGreat

/- The reference: floors, ceilings, the nearest integer, distances, counts. -/
namespace Go.Proofs.YtookglpeieennaaGreat
open Go.RowKit
open Go.Lib (hid)
set_option linter.unusedVariables false

set_option maxRecDepth 100000 in
set_option maxHeartbeats 12800000 in
theorem l05Floor_o_w {s : Bool} {a : Option Addr} {n c : Nat} {b : Option Addr} {m d : Nat}  {x : Rat} (w : World) (h : RA w s (.slice a n c) (.slice b m d) (some x)) :
    Calls Tryz.prog 117 #[.agg #[.bool s, .slice a n c, .slice b m d]] w (RatO false (some (flF x)) w) := by
  obtain ⟨Q, hQ⟩ : ∃ Q, Q = RatO false (some (flF x)) w := ⟨_, rfl⟩
  rw [← hQ]
  have HQ := hid hQ
  clear hQ
  have B := hid (show Below w.heap.size w ((w.alloc (.cells #[.bool s, .slice a n c, .slice b m d] 27)).alloc (.cells #[.bool false, .slice none 0 0, .slice none 0 0] 27)) from ((Below.refl _ _).alloc (Nat.le_refl _) _).alloc (by simp) _)
  have LX := hid (show LocA 27 ((w.alloc (.cells #[.bool s, .slice a n c, .slice b m d] 27)).alloc (.cells #[.bool false, .slice none 0 0, .slice none 0 0] 27)) (w.heap.size) #[.bool s, .slice a n c, .slice b m d] from (LocA.at (by simp)).new1)
  have LR := hid (show LocA 27 ((w.alloc (.cells #[.bool s, .slice a n c, .slice b m d] 27)).alloc (.cells #[.bool false, .slice none 0 0, .slice none 0 0] 27)) (w.heap.size + 1) #[.bool false, .slice none 0 0, .slice none 0 0] from LocA.at (by simp))
  have X := hid (h.old B.out)
  clear h
  generalize hW : (w.alloc (.cells #[.bool s, .slice a n c, .slice b m d] 27)).alloc (.cells #[.bool false, .slice none 0 0, .slice none 0 0] 27) = W0 at B X LX LR
  have HW := hid hW
  clear hW
  have hs0 := B.out.size
  have hw0 := LR.out.lt
  go_enter Tryz.func117, Tryz.ntmps117
  have hf := hid (X.out.fitO x rfl)
  have q0 := LX.out.c 0 (v := .bool s) rfl
  have q1 := LX.out.c 1 (v := .slice a n c) rfl
  have q2 := LX.out.c 2 (v := .slice b m d) rfl
  go_wp2_with fail
  rw [HW.out]
  (with_reducible refine (sfldiv_x X.out).mono ?_)
  clear q0 q1 q2
  rintro e w2 ⟨a2, n2, c2, b2, m2, d2, rfl, hi, hb⟩
  have J := hid (Ints_base hi B.out.size)
  have LX := hid (LX.out.old hb)
  have LR := hid (LR.out.old hb)
  have X := hid (X.out.old hb)
  have B := hid (B.out.trans (hb.mono B.out.size))
  obtain ⟨gf, hgf⟩ : ∃ z, z = gzs x.floor := ⟨_, rfl⟩
  have HGF := hid hgf
  rw [← hgf]
  clear hi hb hgf
  have BB := hid (show Below w2.heap.size w2 ((w2.alloc (.cells #[.bool gf, .slice a2 n2 c2] 25)).alloc (.cells #[.int .i64 1] 3)) from below_new2)
  have ND := hid (show ∀ k, (Value.slice a2 n2 c2).ownBlock = some k → (Value.slice (some ⟨w2.heap.size + 1, 0, none⟩) 1 1).ownBlock ≠ some k from fun k hk hj => (by
    have h1 := (Ints_lt J.out k hk).2
    have h2 : w2.heap.size + 1 = k := by simpa [Value.ownBlock] using hj
    omega))
  have LX := hid (LX.out.old BB.out)
  have LR := hid (LR.out.old BB.out)
  have X := hid (X.out.old BB.out)
  have J := hid (Ints_old J.out BB.out)
  have hs2 := B.out.size
  have B := hid (B.out.trans (BB.out.mono B.out.size))
  have J2 := hid (show Ints ((w2.alloc (.cells #[.bool gf, .slice a2 n2 c2] 25)).alloc (.cells #[.int .i64 1] 3)) w.heap.size (.slice (some ⟨w2.heap.size + 1, 0, none⟩) 1 1) (rep (1 : Int).toNat) from by rw [show rep (1 : Int).toNat = [1] from rep_one.2 rfl]; have := Ints_lit1 (w := w2.alloc (.cells #[.bool gf, .slice a2 n2 c2] 25)) (B := w.heap.size) 1 (by simp; omega); simpa using this)
  have RF := hid (RO_floor (p := false) hf.out J.out J2.out ND.out)
  rw [← HGF.out] at RF
  have f0 := LR.out.f 0
  have f1 := LR.out.f 1
  have f2 := LR.out.f 2
  have p0 := LR.out.c 0 rfl
  have p1 := LR.out.c 1 rfl
  have p2 := LR.out.c 2 rfl
  have R := hid (q_of HQ.out (RO.out (w := w) (N := w.heap.size + 1) RF.out (Nat.le_refl _) (by omega) LR.out (by decide) B.out))
  go_wp2
  exact bodyPost_ret (v := .agg #[.bool gf, .slice a2 n2 c2, .slice (some ⟨w2.heap.size + 1, 0, none⟩) 1 1]) (by simp [results, Tryz.results117, go_sem, p0, p1, p2]) rfl R.out
theorem l05Floor_o {w : World} {s : Bool} {v u : Value}  {x : Rat} (h : RA w s v u (some x)) : Calls Tryz.prog 117 #[.agg #[.bool s, v, u]] w (RatO false (some (flF x)) w) := by
  obtain ⟨a, n, c, b, m, d, rfl, rfl⟩ := h.form
  exact l05Floor_o_w  w h
set_option maxRecDepth 100000 in
set_option maxHeartbeats 3200000 in
theorem l05Ok_x {s : Bool} {a : Option Addr} {n c : Nat} {b : Option Addr} {m d : Nat} {x : Rat} (w : World) (h : RA w s (.slice a n c) (.slice b m d) (some x)) :
    Calls Tryz.prog 116 #[.agg #[.bool s, .slice a n c, .slice b m d]] w (RetB (.agg #[.bool s, .slice a n c, .slice b m d]) w) := by
  have B := hid (show Below w.heap.size w ((w.alloc (.cells #[.bool s, .slice a n c, .slice b m d] 27)).alloc (.cells #[.bool false, .slice none 0 0, .slice none 0 0] 27)) from ((Below.refl _ _).alloc (Nat.le_refl _) _).alloc (by simp) _)
  have LX := hid (show LocA 27 ((w.alloc (.cells #[.bool s, .slice a n c, .slice b m d] 27)).alloc (.cells #[.bool false, .slice none 0 0, .slice none 0 0] 27)) w.heap.size #[.bool s, .slice a n c, .slice b m d] from (LocA.at (by simp)).new1)
  have LR := hid (show LocA 27 ((w.alloc (.cells #[.bool s, .slice a n c, .slice b m d] 27)).alloc (.cells #[.bool false, .slice none 0 0, .slice none 0 0] 27)) (w.heap.size + 1) #[.bool false, .slice none 0 0, .slice none 0 0] from LocA.at (by simp))
  have X := hid (h.old B.out)
  clear h
  generalize hW : (w.alloc (.cells #[.bool s, .slice a n c, .slice b m d] 27)).alloc (.cells #[.bool false, .slice none 0 0, .slice none 0 0] 27) = W0 at B X LX LR
  have HW := hid hW
  clear hW
  go_enter Tryz.func116, Tryz.ntmps116
  go_wp2_with fail
  rw [HW.out]
  (with_reducible refine (sok_some X.out).mono ?_)
  rintro e w1 ⟨rfl, hb⟩
  have LX := hid (LX.out.old hb)
  have LR := hid (LR.out.old hb)
  have B := hid (B.out.trans (hb.mono B.out.size))
  have q0 := LX.out.c 0 rfl
  have q1 := LX.out.c 1 rfl
  have q2 := LX.out.c 2 rfl
  have f0 := LR.out.f 0
  have f1 := LR.out.f 1
  have f2 := LR.out.f 2
  have p0 := LR.out.c 0 rfl
  have p1 := LR.out.c 1 rfl
  have p2 := LR.out.c 2 rfl
  have R := hid (show RetB (.agg #[.bool s, .slice a n c, .slice b m d]) w (.returned (.agg #[.bool s, .slice a n c, .slice b m d])) (((w1.setCell ⟨w.heap.size + 1, 0, none⟩ (.bool s)).setCell ⟨w.heap.size + 1, 1, none⟩ (.slice a n c)).setCell ⟨w.heap.size + 1, 2, none⟩ (.slice b m d)) from ⟨rfl, ((B.out.setCell (by simp) _).setCell (by simp) _).setCell (by simp) _⟩)
  clear hb
  go_wp2
  exact bodyPost_ret (v := .agg #[.bool s, .slice a n c, .slice b m d]) (by simp [results, Tryz.results116, go_sem, p0, p1, p2]) rfl R.out
set_option maxRecDepth 100000 in
set_option maxHeartbeats 12800000 in
theorem sfloor_o_w {s : Bool} {a : Option Addr} {n c : Nat} {b : Option Addr} {m d : Nat} {o : Option Rat}  (w : World) (h : RA w s (.slice a n c) (.slice b m d) o) :
    Calls Tryz.prog 72 #[.agg #[.bool s, .slice a n c, .slice b m d]] w (RatO false (floorO o) w) := by
  obtain ⟨Q, hQ⟩ : ∃ Q, Q = RatO false (floorO o) w := ⟨_, rfl⟩
  rw [← hQ]
  have HQ := hid hQ
  clear hQ
  have B := hid (show Below w.heap.size w ((w.alloc (.cells #[.bool s, .slice a n c, .slice b m d] 27)).alloc (.cells #[.bool false, .slice none 0 0, .slice none 0 0] 27)) from ((Below.refl _ _).alloc (Nat.le_refl _) _).alloc (by simp) _)
  have LX := hid (show LocA 27 ((w.alloc (.cells #[.bool s, .slice a n c, .slice b m d] 27)).alloc (.cells #[.bool false, .slice none 0 0, .slice none 0 0] 27)) (w.heap.size) #[.bool s, .slice a n c, .slice b m d] from (LocA.at (by simp)).new1)
  have LR := hid (show LocA 27 ((w.alloc (.cells #[.bool s, .slice a n c, .slice b m d] 27)).alloc (.cells #[.bool false, .slice none 0 0, .slice none 0 0] 27)) (w.heap.size + 1) #[.bool false, .slice none 0 0, .slice none 0 0] from LocA.at (by simp))
  have X := hid (h.old B.out)
  clear h
  generalize hW : (w.alloc (.cells #[.bool s, .slice a n c, .slice b m d] 27)).alloc (.cells #[.bool false, .slice none 0 0, .slice none 0 0] 27) = W0 at B X LX LR
  have HW := hid hW
  clear hW
  have hs0 := B.out.size
  have hw0 := LR.out.lt
  cases o with
  | none =>
    go_enter Tryz.func72, Tryz.ntmps72
    have q0 := LX.out.c 0 (v := .bool s) rfl
    have q1 := LX.out.c 1 (v := .slice a n c) rfl
    have q2 := LX.out.c 2 (v := .slice b m d) rfl
    go_wp2_with fail
    rw [HW.out]
    (with_reducible refine (sok_none X.out).mono ?_)
    clear q0 q1 q2
    rintro e w1 ⟨rfl, hb⟩
    have LX := hid (LX.out.old hb)
    have LR := hid (LR.out.old hb)
    have X := hid (X.out.old hb)
    have B := hid (B.out.trans (hb.mono B.out.size))
    clear hb
    have f0 := LR.out.f 0
    have f1 := LR.out.f 1
    have f2 := LR.out.f 2
    have p0 := LR.out.c 0 rfl
    have p1 := LR.out.c 1 rfl
    have p2 := LR.out.c 2 rfl
    have R := hid (q_of HQ.out (RO.out (w := w) (N := w.heap.size + 1) (RO_none (w := _) (lo := w.heap.size)) (Nat.le_refl _) (by omega) LR.out (by decide) B.out))
    go_wp2
    exact bodyPost_ret (v := .agg #[.bool false, .slice none 0 0, .slice none 0 0]) (by simp [results, Tryz.results72, go_sem, p0, p1, p2]) rfl R.out
  | some x =>
    go_enter Tryz.func72, Tryz.ntmps72
    have q0 := LX.out.c 0 (v := .bool s) rfl
    have q1 := LX.out.c 1 (v := .slice a n c) rfl
    have q2 := LX.out.c 2 (v := .slice b m d) rfl
    go_wp2_with fail
    rw [HW.out]
    (with_reducible refine (sok_some X.out).mono ?_)
    clear q0 q1 q2
    rintro e w1 ⟨rfl, hb⟩
    have LX := hid (LX.out.old hb)
    have LR := hid (LR.out.old hb)
    have X := hid (X.out.old hb)
    have B := hid (B.out.trans (hb.mono B.out.size))
    clear hb
    have q0 := LX.out.c 0 (v := .bool s) rfl
    have q1 := LX.out.c 1 (v := .slice a n c) rfl
    have q2 := LX.out.c 2 (v := .slice b m d) rfl
    go_wp2_with fail
    (with_reducible refine (l05Floor_o X.out).mono ?_)
    clear q0 q1 q2
    rintro e w2 ⟨s2, a2, n2, c2, b2, m2, d2, rfl, hr, hb⟩
    have F := hid (hr.base B.out.size)
    have LX := hid (LX.out.old hb)
    have LR := hid (LR.out.old hb)
    have X := hid (X.out.old hb)
    have B := hid (B.out.trans (hb.mono B.out.size))
    clear hr hb
    go_wp2_with fail
    (with_reducible refine (l05Ok_x _ F.out.ra).mono ?_)
    rintro e w3 ⟨rfl, hb⟩
    have LX := hid (LX.out.old hb)
    have LR := hid (LR.out.old hb)
    have X := hid (X.out.old hb)
    have F := hid (F.out.old hb)
    have B := hid (B.out.trans (hb.mono B.out.size))
    clear hb
    have f0 := LR.out.f 0
    have f1 := LR.out.f 1
    have f2 := LR.out.f 2
    have p0 := LR.out.c 0 rfl
    have p1 := LR.out.c 1 rfl
    have p2 := LR.out.c 2 rfl
    have R := hid (q_of HQ.out (RO.out (w := w) (N := w.heap.size + 1) F.out (Nat.le_refl _) (by omega) LR.out (by decide) B.out))
    go_wp2
    exact bodyPost_ret (v := .agg #[.bool s2, .slice a2 n2 c2, .slice b2 m2 d2]) (by simp [results, Tryz.results72, go_sem, p0, p1, p2]) rfl R.out
theorem sfloor_o {w : World} {s : Bool} {v u : Value} {o : Option Rat}  (h : RA w s v u o) : Calls Tryz.prog 72 #[.agg #[.bool s, v, u]] w (RatO false (floorO o) w) := by
  obtain ⟨a, n, c, b, m, d, rfl, rfl⟩ := h.form
  exact sfloor_o_w  w h
set_option maxRecDepth 100000 in
set_option maxHeartbeats 12800000 in
theorem sceil_o_w {s : Bool} {a : Option Addr} {n c : Nat} {b : Option Addr} {m d : Nat} {o : Option Rat}  (w : World) (h : RA w s (.slice a n c) (.slice b m d) o) :
    Calls Tryz.prog 90 #[.agg #[.bool s, .slice a n c, .slice b m d]] w (RatO false (ceilO o) w) := by
  obtain ⟨Q, hQ⟩ : ∃ Q, Q = RatO false (ceilO o) w := ⟨_, rfl⟩
  rw [← hQ]
  have HQ := hid hQ
  clear hQ
  have B := hid (show Below w.heap.size w ((w.alloc (.cells #[.bool s, .slice a n c, .slice b m d] 27)).alloc (.cells #[.bool false, .slice none 0 0, .slice none 0 0] 27)) from ((Below.refl _ _).alloc (Nat.le_refl _) _).alloc (by simp) _)
  have LX := hid (show LocA 27 ((w.alloc (.cells #[.bool s, .slice a n c, .slice b m d] 27)).alloc (.cells #[.bool false, .slice none 0 0, .slice none 0 0] 27)) (w.heap.size) #[.bool s, .slice a n c, .slice b m d] from (LocA.at (by simp)).new1)
  have LR := hid (show LocA 27 ((w.alloc (.cells #[.bool s, .slice a n c, .slice b m d] 27)).alloc (.cells #[.bool false, .slice none 0 0, .slice none 0 0] 27)) (w.heap.size + 1) #[.bool false, .slice none 0 0, .slice none 0 0] from LocA.at (by simp))
  have X := hid (h.old B.out)
  clear h
  generalize hW : (w.alloc (.cells #[.bool s, .slice a n c, .slice b m d] 27)).alloc (.cells #[.bool false, .slice none 0 0, .slice none 0 0] 27) = W0 at B X LX LR
  have HW := hid hW
  clear hW
  have hs0 := B.out.size
  have hw0 := LR.out.lt
  cases o with
  | none =>
    go_enter Tryz.func90, Tryz.ntmps90
    have q0 := LX.out.c 0 (v := .bool s) rfl
    have q1 := LX.out.c 1 (v := .slice a n c) rfl
    have q2 := LX.out.c 2 (v := .slice b m d) rfl
    go_wp2_with fail
    rw [HW.out]
    (with_reducible refine (sok_none X.out).mono ?_)
    clear q0 q1 q2
    rintro e w1 ⟨rfl, hb⟩
    have LX := hid (LX.out.old hb)
    have LR := hid (LR.out.old hb)
    have X := hid (X.out.old hb)
    have B := hid (B.out.trans (hb.mono B.out.size))
    clear hb
    have f0 := LR.out.f 0
    have f1 := LR.out.f 1
    have f2 := LR.out.f 2
    have p0 := LR.out.c 0 rfl
    have p1 := LR.out.c 1 rfl
    have p2 := LR.out.c 2 rfl
    have R := hid (q_of HQ.out (RO.out (w := w) (N := w.heap.size + 1) (RO_none (w := _) (lo := w.heap.size)) (Nat.le_refl _) (by omega) LR.out (by decide) B.out))
    go_wp2
    exact bodyPost_ret (v := .agg #[.bool false, .slice none 0 0, .slice none 0 0]) (by simp [results, Tryz.results90, go_sem, p0, p1, p2]) rfl R.out
  | some x =>
    go_enter Tryz.func90, Tryz.ntmps90
    have q0 := LX.out.c 0 (v := .bool s) rfl
    have q1 := LX.out.c 1 (v := .slice a n c) rfl
    have q2 := LX.out.c 2 (v := .slice b m d) rfl
    go_wp2_with fail
    rw [HW.out]
    (with_reducible refine (sok_some X.out).mono ?_)
    clear q0 q1 q2
    rintro e w1 ⟨rfl, hb⟩
    have LX := hid (LX.out.old hb)
    have LR := hid (LR.out.old hb)
    have X := hid (X.out.old hb)
    have B := hid (B.out.trans (hb.mono B.out.size))
    clear hb
    have q0 := LX.out.c 0 (v := .bool s) rfl
    have q1 := LX.out.c 1 (v := .slice a n c) rfl
    have q2 := LX.out.c 2 (v := .slice b m d) rfl
    go_wp2_with fail
    (with_reducible refine (l04Neg_o X.out).mono ?_)
    clear q0 q1 q2
    rintro e w2 ⟨s2, a2, n2, c2, b2, m2, d2, rfl, hr, hb⟩
    have G := hid (hr.base B.out.size)
    have LX := hid (LX.out.old hb)
    have LR := hid (LR.out.old hb)
    have X := hid (X.out.old hb)
    have B := hid (B.out.trans (hb.mono B.out.size))
    clear hr hb
    go_wp2_with fail
    (with_reducible refine (l05Floor_o G.out.ra).mono ?_)
    rintro e w3 ⟨s3, a3, n3, c3, b3, m3, d3, rfl, hr, hb⟩
    have F := hid (hr.base B.out.size)
    have LX := hid (LX.out.old hb)
    have LR := hid (LR.out.old hb)
    have X := hid (X.out.old hb)
    have G := hid (G.out.old hb)
    have B := hid (B.out.trans (hb.mono B.out.size))
    clear hr hb
    go_wp2_with fail
    (with_reducible refine (l04Neg_o F.out.ra).mono ?_)
    rintro e w4 ⟨s4, a4, n4, c4, b4, m4, d4, rfl, hr, hb⟩
    have H := hid (hr.base B.out.size)
    have LX := hid (LX.out.old hb)
    have LR := hid (LR.out.old hb)
    have X := hid (X.out.old hb)
    have G := hid (G.out.old hb)
    have F := hid (F.out.old hb)
    have B := hid (B.out.trans (hb.mono B.out.size))
    clear hr hb
    go_wp2_with fail
    (with_reducible refine (l05Ok_x _ H.out.ra).mono ?_)
    rintro e w5 ⟨rfl, hb⟩
    have LX := hid (LX.out.old hb)
    have LR := hid (LR.out.old hb)
    have X := hid (X.out.old hb)
    have G := hid (G.out.old hb)
    have F := hid (F.out.old hb)
    have H := hid (H.out.old hb)
    have B := hid (B.out.trans (hb.mono B.out.size))
    clear hb
    have f0 := LR.out.f 0
    have f1 := LR.out.f 1
    have f2 := LR.out.f 2
    have p0 := LR.out.c 0 rfl
    have p1 := LR.out.c 1 rfl
    have p2 := LR.out.c 2 rfl
    have R := hid (q_of HQ.out (RO.out (w := w) (N := w.heap.size + 1) (hid (H.out.eqo (show some (-flF (-x)) = ceilO (some x) from by rw [← ce_neg]; rfl))).out (Nat.le_refl _) (by omega) LR.out (by decide) B.out))
    go_wp2
    exact bodyPost_ret (v := .agg #[.bool s4, .slice a4 n4 c4, .slice b4 m4 d4]) (by simp [results, Tryz.results90, go_sem, p0, p1, p2]) rfl R.out
theorem sceil_o {w : World} {s : Bool} {v u : Value} {o : Option Rat}  (h : RA w s v u o) : Calls Tryz.prog 90 #[.agg #[.bool s, v, u]] w (RatO false (ceilO o) w) := by
  obtain ⟨a, n, c, b, m, d, rfl, rfl⟩ := h.form
  exact sceil_o_w  w h
set_option maxRecDepth 100000 in
set_option maxHeartbeats 12800000 in
theorem sfrac_o_w {s : Bool} {a : Option Addr} {n c : Nat} {b : Option Addr} {m d : Nat} {o : Option Rat}  (w : World) (h : RA w s (.slice a n c) (.slice b m d) o) :
    Calls Tryz.prog 32 #[.agg #[.bool s, .slice a n c, .slice b m d]] w (RatO false (fracO o) w) := by
  obtain ⟨Q, hQ⟩ : ∃ Q, Q = RatO false (fracO o) w := ⟨_, rfl⟩
  rw [← hQ]
  have HQ := hid hQ
  clear hQ
  have B := hid (show Below w.heap.size w ((w.alloc (.cells #[.bool s, .slice a n c, .slice b m d] 27)).alloc (.cells #[.bool false, .slice none 0 0, .slice none 0 0] 27)) from ((Below.refl _ _).alloc (Nat.le_refl _) _).alloc (by simp) _)
  have LX := hid (show LocA 27 ((w.alloc (.cells #[.bool s, .slice a n c, .slice b m d] 27)).alloc (.cells #[.bool false, .slice none 0 0, .slice none 0 0] 27)) (w.heap.size) #[.bool s, .slice a n c, .slice b m d] from (LocA.at (by simp)).new1)
  have LR := hid (show LocA 27 ((w.alloc (.cells #[.bool s, .slice a n c, .slice b m d] 27)).alloc (.cells #[.bool false, .slice none 0 0, .slice none 0 0] 27)) (w.heap.size + 1) #[.bool false, .slice none 0 0, .slice none 0 0] from LocA.at (by simp))
  have X := hid (h.old B.out)
  clear h
  generalize hW : (w.alloc (.cells #[.bool s, .slice a n c, .slice b m d] 27)).alloc (.cells #[.bool false, .slice none 0 0, .slice none 0 0] 27) = W0 at B X LX LR
  have HW := hid hW
  clear hW
  have hs0 := B.out.size
  have hw0 := LR.out.lt
  go_enter Tryz.func32, Tryz.ntmps32
  go_wp2_with fail
  rw [HW.out]
  have LX := hid (LX.out.old (Below_drew1 (Below.refl _ _)))
  have LR := hid (LR.out.old (Below_drew1 (Below.refl _ _)))
  have X := hid (X.out.old (Below_drew1 (Below.refl _ _)))
  have B := hid (Below_drew1 B.out)
  have q0 := LX.out.c 0 (v := .bool s) rfl
  have q1 := LX.out.c 1 (v := .slice a n c) rfl
  have q2 := LX.out.c 2 (v := .slice b m d) rfl
  have hlX := LX.out.lt
  go_region_held3 (fun w' => w'.cell? ⟨w.heap.size, 0, none⟩ = some (.bool s) ∧ w'.cell? ⟨w.heap.size, 1, none⟩ = some (.slice a n c) ∧ w'.cell? ⟨w.heap.size, 2, none⟩ = some (.slice b m d)) (first | with_reducible exact ⟨q0, q1, q2⟩ | ((with_reducible refine ⟨(cell_set3 ?_).trans q0, (cell_set3 ?_).trans q1, (cell_set3 ?_).trans q2⟩) <;> omega) | go_keep) (first | (go_at_call 72; (with_reducible refine (sfloor_o X.out).mono ?_); rintro e w1 ⟨s1, a1, n1, c1, b1, m1, d1, rfl, hr, hb⟩; have F := hid (hr.base B.out.size); have LX := hid (LX.out.old hb); have LR := hid (LR.out.old hb); have X := hid (X.out.old hb); have B := hid (B.out.trans (hb.mono B.out.size)); clear hr hb; have q0 := LX.out.c 0 (v := .bool s) rfl; have q1 := LX.out.c 1 (v := .slice a n c) rfl; have q2 := LX.out.c 2 (v := .slice b m d) rfl) | (go_at_call 71; (with_reducible refine (ssub_o X.out F.out.ra).mono ?_); rintro e w2 ⟨s2, a2, n2, c2, b2, m2, d2, rfl, hr, hb⟩; have R1 := hid (hr.base B.out.size); have LX := hid (LX.out.old hb); have LR := hid (LR.out.old hb); have X := hid (X.out.old hb); have F := hid (F.out.old hb); have B := hid (B.out.trans (hb.mono B.out.size)); clear hr hb; have q0 := LX.out.c 0 (v := .bool s) rfl; have q1 := LX.out.c 1 (v := .slice a n c) rfl; have q2 := LX.out.c 2 (v := .slice b m d) rfl; have f0 := LR.out.f 0; have f1 := LR.out.f 1; have f2 := LR.out.f 2; have p0 := LR.out.c 0 rfl; have p1 := LR.out.c 1 rfl; have p2 := LR.out.c 2 rfl; have R := hid (q_of HQ.out (RO.out (w := w) (N := w.heap.size + 1) R1.out (Nat.le_refl _) (by omega) LR.out (by decide) B.out))))
  clear q0 q1 q2
  go_wp2
  exact bodyPost_ret (v := .agg #[.bool s2, .slice a2 n2 c2, .slice b2 m2 d2]) (by simp [results, Tryz.results32, go_sem, p0, p1, p2]) rfl R.out
theorem sfrac_o {w : World} {s : Bool} {v u : Value} {o : Option Rat}  (h : RA w s v u o) : Calls Tryz.prog 32 #[.agg #[.bool s, v, u]] w (RatO false (fracO o) w) := by
  obtain ⟨a, n, c, b, m, d, rfl, rfl⟩ := h.form
  exact sfrac_o_w  w h
set_option maxRecDepth 100000 in
set_option maxHeartbeats 12800000 in
theorem snear_o_w {s : Bool} {a : Option Addr} {n c : Nat} {b : Option Addr} {m d : Nat} {o : Option Rat}  (w : World) (h : RA w s (.slice a n c) (.slice b m d) o) :
    Calls Tryz.prog 37 #[.agg #[.bool s, .slice a n c, .slice b m d]] w (RatO false (nearO o) w) := by
  obtain ⟨Q, hQ⟩ : ∃ Q, Q = RatO false (nearO o) w := ⟨_, rfl⟩
  rw [← hQ]
  have HQ := hid hQ
  clear hQ
  have B := hid (show Below w.heap.size w ((w.alloc (.cells #[.bool s, .slice a n c, .slice b m d] 27)).alloc (.cells #[.bool false, .slice none 0 0, .slice none 0 0] 27)) from ((Below.refl _ _).alloc (Nat.le_refl _) _).alloc (by simp) _)
  have LX := hid (show LocA 27 ((w.alloc (.cells #[.bool s, .slice a n c, .slice b m d] 27)).alloc (.cells #[.bool false, .slice none 0 0, .slice none 0 0] 27)) (w.heap.size) #[.bool s, .slice a n c, .slice b m d] from (LocA.at (by simp)).new1)
  have LR := hid (show LocA 27 ((w.alloc (.cells #[.bool s, .slice a n c, .slice b m d] 27)).alloc (.cells #[.bool false, .slice none 0 0, .slice none 0 0] 27)) (w.heap.size + 1) #[.bool false, .slice none 0 0, .slice none 0 0] from LocA.at (by simp))
  have X := hid (h.old B.out)
  clear h
  generalize hW : (w.alloc (.cells #[.bool s, .slice a n c, .slice b m d] 27)).alloc (.cells #[.bool false, .slice none 0 0, .slice none 0 0] 27) = W0 at B X LX LR
  have HW := hid hW
  clear hW
  have hs0 := B.out.size
  have hw0 := LR.out.lt
  go_enter Tryz.func37, Tryz.ntmps37
  go_wp2_with fail
  rw [HW.out]
  have LX := hid (LX.out.old (Below_drew1 (Below.refl _ _)))
  have LR := hid (LR.out.old (Below_drew1 (Below.refl _ _)))
  have X := hid (X.out.old (Below_drew1 (Below.refl _ _)))
  have B := hid (Below_drew1 B.out)
  have q0 := LX.out.c 0 (v := .bool s) rfl
  have q1 := LX.out.c 1 (v := .slice a n c) rfl
  have q2 := LX.out.c 2 (v := .slice b m d) rfl
  have hlX := LX.out.lt
  go_region_held3 (fun w' => w'.cell? ⟨w.heap.size, 0, none⟩ = some (.bool s) ∧ w'.cell? ⟨w.heap.size, 1, none⟩ = some (.slice a n c) ∧ w'.cell? ⟨w.heap.size, 2, none⟩ = some (.slice b m d)) (first | with_reducible exact ⟨q0, q1, q2⟩ | ((with_reducible refine ⟨(cell_set3 ?_).trans q0, (cell_set3 ?_).trans q1, (cell_set3 ?_).trans q2⟩) <;> omega) | go_keep) (first | (go_at_call 82; (with_reducible refine (sof_o 1 2 (by decide) (by decide) (by decide) (by decide) _).mono ?_); rintro e w1 ⟨s1, a1, n1, c1, b1, m1, d1, rfl, hr, hb⟩; have H := hid (hr.base B.out.size); have LX := hid (LX.out.old hb); have LR := hid (LR.out.old hb); have X := hid (X.out.old hb); have B := hid (B.out.trans (hb.mono B.out.size)); clear hr hb; have q0 := LX.out.c 0 (v := .bool s) rfl; have q1 := LX.out.c 1 (v := .slice a n c) rfl; have q2 := LX.out.c 2 (v := .slice b m d) rfl) | (go_at_call 81; (with_reducible refine (sadd_o X.out H.out.ra).mono ?_); rintro e w2 ⟨s2, a2, n2, c2, b2, m2, d2, rfl, hr, hb⟩; have S := hid (hr.base B.out.size); have LX := hid (LX.out.old hb); have LR := hid (LR.out.old hb); have X := hid (X.out.old hb); have H := hid (H.out.old hb); have B := hid (B.out.trans (hb.mono B.out.size)); clear hr hb; have q0 := LX.out.c 0 (v := .bool s) rfl; have q1 := LX.out.c 1 (v := .slice a n c) rfl; have q2 := LX.out.c 2 (v := .slice b m d) rfl) | (go_at_call 72; (with_reducible refine (sfloor_o S.out.ra).mono ?_); rintro e w3 ⟨s3, a3, n3, c3, b3, m3, d3, rfl, hr, hb⟩; have F := hid (hr.base B.out.size); have LX := hid (LX.out.old hb); have LR := hid (LR.out.old hb); have X := hid (X.out.old hb); have H := hid (H.out.old hb); have S := hid (S.out.old hb); have B := hid (B.out.trans (hb.mono B.out.size)); clear hr hb; have q0 := LX.out.c 0 (v := .bool s) rfl; have q1 := LX.out.c 1 (v := .slice a n c) rfl; have q2 := LX.out.c 2 (v := .slice b m d) rfl; have f0 := LR.out.f 0; have f1 := LR.out.f 1; have f2 := LR.out.f 2; have p0 := LR.out.c 0 rfl; have p1 := LR.out.c 1 rfl; have p2 := LR.out.c 2 rfl; have R := hid (q_of HQ.out (RO.out (w := w) (N := w.heap.size + 1) F.out (Nat.le_refl _) (by omega) LR.out (by decide) B.out))))
  clear q0 q1 q2
  go_wp2
  exact bodyPost_ret (v := .agg #[.bool s3, .slice a3 n3 c3, .slice b3 m3 d3]) (by simp [results, Tryz.results37, go_sem, p0, p1, p2]) rfl R.out
theorem snear_o {w : World} {s : Bool} {v u : Value} {o : Option Rat}  (h : RA w s v u o) : Calls Tryz.prog 37 #[.agg #[.bool s, v, u]] w (RatO false (nearO o) w) := by
  obtain ⟨a, n, c, b, m, d, rfl, rfl⟩ := h.form
  exact snear_o_w  w h
theorem max_sgn (x : Rat) : (sgn x.num < 0 → some (-x) = some (maxF x (-x))) ∧ (¬ sgn x.num < 0 → some x = some (maxF x (-x))) := by
  have key : sgn x.num < 0 ↔ cmpF x (-x) = -1 := by
    have h0 : sgn x.num = cmpF x 0 := by
      have := cmpF_sub x 0
      rw [show x - 0 = x by rw [Rat.sub_eq_add_neg, Rat.neg_zero, Rat.add_zero]] at this
      exact this
    rw [h0]
    have e1 : (x < 0) ↔ (x < -x) := by
      constructor
      · intro h
        have h2 : 0 < -x := by have := Rat.neg_lt_neg_iff.2 h; rwa [Rat.neg_zero] at this
        exact Rat.lt_iff_le_and_not_ge.2 ⟨Rat.le_of_lt (rat_lt_trans h h2), fun e => (Rat.lt_iff_le_and_not_ge.1 (rat_lt_trans h h2)).2 e⟩
      · intro h
        by_cases e : x < 0
        · exact e
        · have h1 : 0 ≤ x := Rat.not_lt.1 e
          have h2 : -x ≤ 0 := by have := Rat.neg_le_neg h1; rwa [Rat.neg_zero] at this
          exact absurd (Rat.le_trans h2 h1) ((Rat.lt_iff_le_and_not_ge.1 h).2)
    unfold cmpF
    by_cases h1 : x < 0
    · simp [h1, e1.1 h1]
    · have h2 : ¬ x < -x := fun h => h1 (e1.2 h)
      simp only [h1, h2, if_false]
      constructor
      · intro h
        split at h <;> omega
      · intro h
        split at h <;> omega
  unfold maxF
  exact ⟨fun h => by rw [if_pos (key.1 h)], fun h => by rw [if_neg (fun e => h (key.2 e))]⟩
set_option maxRecDepth 100000 in
set_option maxHeartbeats 12800000 in
theorem l05Abs_o_w {s : Bool} {a : Option Addr} {n c : Nat} {b : Option Addr} {m d : Nat}  {x : Rat} (w : World) (h : RA w s (.slice a n c) (.slice b m d) (some x)) :
    Calls Tryz.prog 84 #[.agg #[.bool s, .slice a n c, .slice b m d]] w (RatO false (some (maxF x (-x))) w) := by
  obtain ⟨Q, hQ⟩ : ∃ Q, Q = RatO false (some (maxF x (-x))) w := ⟨_, rfl⟩
  rw [← hQ]
  have HQ := hid hQ
  clear hQ
  have B := hid (show Below w.heap.size w ((w.alloc (.cells #[.bool s, .slice a n c, .slice b m d] 27)).alloc (.cells #[.bool false, .slice none 0 0, .slice none 0 0] 27)) from ((Below.refl _ _).alloc (Nat.le_refl _) _).alloc (by simp) _)
  have LX := hid (show LocA 27 ((w.alloc (.cells #[.bool s, .slice a n c, .slice b m d] 27)).alloc (.cells #[.bool false, .slice none 0 0, .slice none 0 0] 27)) (w.heap.size) #[.bool s, .slice a n c, .slice b m d] from (LocA.at (by simp)).new1)
  have LR := hid (show LocA 27 ((w.alloc (.cells #[.bool s, .slice a n c, .slice b m d] 27)).alloc (.cells #[.bool false, .slice none 0 0, .slice none 0 0] 27)) (w.heap.size + 1) #[.bool false, .slice none 0 0, .slice none 0 0] from LocA.at (by simp))
  have X := hid (h.old B.out)
  clear h
  generalize hW : (w.alloc (.cells #[.bool s, .slice a n c, .slice b m d] 27)).alloc (.cells #[.bool false, .slice none 0 0, .slice none 0 0] 27) = W0 at B X LX LR
  have HW := hid hW
  clear hW
  have hs0 := B.out.size
  have hw0 := LR.out.lt
  have KS := hid (fun (W : World) (h : RA W s (.slice a n c) (.slice b m d) (some x)) => (show Calls Tryz.prog 86 #[.agg #[.bool s, .slice a n c, .slice b m d]] W (RetB (.int .i64 (sgn x.num)) W) from ssign_o h))
  have HS := hid (max_sgn x)
  obtain ⟨z, hz⟩ : ∃ z, z = sgn x.num := ⟨_, rfl⟩
  rw [← hz] at KS HS
  clear hz
  by_cases hlt : z < 0
  · have hn := hid hlt
    go_enter Tryz.func84, Tryz.ntmps84
    have q0 := LX.out.c 0 (v := .bool s) rfl
    have q1 := LX.out.c 1 (v := .slice a n c) rfl
    have q2 := LX.out.c 2 (v := .slice b m d) rfl
    go_wp2_with fail
    rw [HW.out]
    (with_reducible refine (KS.out _ X.out).mono ?_)
    clear q0 q1 q2
    rintro e w1 ⟨rfl, hb⟩
    have LX := hid (LX.out.old hb)
    have LR := hid (LR.out.old hb)
    have X := hid (X.out.old hb)
    have B := hid (B.out.trans (hb.mono B.out.size))
    clear hb
    have q0 := LX.out.c 0 (v := .bool s) rfl
    have q1 := LX.out.c 1 (v := .slice a n c) rfl
    have q2 := LX.out.c 2 (v := .slice b m d) rfl
    go_wp2_with fail
    (with_reducible refine (sneg_o X.out).mono ?_)
    clear q0 q1 q2
    rintro e w2 ⟨s2, a2, n2, c2, b2, m2, d2, rfl, hr, hb⟩
    have R1 := hid (hr.base B.out.size)
    have LX := hid (LX.out.old hb)
    have LR := hid (LR.out.old hb)
    have X := hid (X.out.old hb)
    have B := hid (B.out.trans (hb.mono B.out.size))
    clear hr hb
    have f0 := LR.out.f 0
    have f1 := LR.out.f 1
    have f2 := LR.out.f 2
    have p0 := LR.out.c 0 rfl
    have p1 := LR.out.c 1 rfl
    have p2 := LR.out.c 2 rfl
    have R := hid (q_of HQ.out (RO.out (w := w) (N := w.heap.size + 1) (hid (R1.out.eqo (HS.out.1 (by have := hn.out; omega)))).out (Nat.le_refl _) (by omega) LR.out (by decide) B.out))
    go_wp2
    exact bodyPost_ret (v := .agg #[.bool s2, .slice a2 n2 c2, .slice b2 m2 d2]) (by simp [results, Tryz.results84, go_sem, p0, p1, p2]) rfl R.out
  · have hn := hid hlt
    go_enter Tryz.func84, Tryz.ntmps84
    have q0 := LX.out.c 0 (v := .bool s) rfl
    have q1 := LX.out.c 1 (v := .slice a n c) rfl
    have q2 := LX.out.c 2 (v := .slice b m d) rfl
    go_wp2_with fail
    rw [HW.out]
    (with_reducible refine (KS.out _ X.out).mono ?_)
    clear q0 q1 q2
    rintro e w1 ⟨rfl, hb⟩
    have LX := hid (LX.out.old hb)
    have LR := hid (LR.out.old hb)
    have X := hid (X.out.old hb)
    have B := hid (B.out.trans (hb.mono B.out.size))
    clear hb
    have q0 := LX.out.c 0 (v := .bool s) rfl
    have q1 := LX.out.c 1 (v := .slice a n c) rfl
    have q2 := LX.out.c 2 (v := .slice b m d) rfl
    go_wp2_with fail
    (with_reducible refine (l04Copy_o X.out).mono ?_)
    clear q0 q1 q2
    rintro e w2 ⟨s2, a2, n2, c2, b2, m2, d2, rfl, hr, hb⟩
    have R1 := hid (hr.base B.out.size)
    have LX := hid (LX.out.old hb)
    have LR := hid (LR.out.old hb)
    have X := hid (X.out.old hb)
    have B := hid (B.out.trans (hb.mono B.out.size))
    clear hr hb
    have f0 := LR.out.f 0
    have f1 := LR.out.f 1
    have f2 := LR.out.f 2
    have p0 := LR.out.c 0 rfl
    have p1 := LR.out.c 1 rfl
    have p2 := LR.out.c 2 rfl
    have R := hid (q_of HQ.out (RO.out (w := w) (N := w.heap.size + 1) (hid (R1.out.eqo (HS.out.2 (by have := hn.out; omega)))).out (Nat.le_refl _) (by omega) LR.out (by decide) B.out))
    go_wp2
    exact bodyPost_ret (v := .agg #[.bool s2, .slice a2 n2 c2, .slice b2 m2 d2]) (by simp [results, Tryz.results84, go_sem, p0, p1, p2]) rfl R.out
theorem l05Abs_o {w : World} {s : Bool} {v u : Value}  {x : Rat} (h : RA w s v u (some x)) : Calls Tryz.prog 84 #[.agg #[.bool s, v, u]] w (RatO false (some (maxF x (-x))) w) := by
  obtain ⟨a, n, c, b, m, d, rfl, rfl⟩ := h.form
  exact l05Abs_o_w  w h
set_option maxRecDepth 100000 in
set_option maxHeartbeats 12800000 in
theorem sdist_o_w {s : Bool} {a : Option Addr} {n c : Nat} {b : Option Addr} {m d : Nat} {o : Option Rat}  (w : World) (h : RA w s (.slice a n c) (.slice b m d) o) :
    Calls Tryz.prog 38 #[.agg #[.bool s, .slice a n c, .slice b m d]] w (RatO false (distO o) w) := by
  obtain ⟨Q, hQ⟩ : ∃ Q, Q = RatO false (distO o) w := ⟨_, rfl⟩
  rw [← hQ]
  have HQ := hid hQ
  clear hQ
  have B := hid (show Below w.heap.size w ((w.alloc (.cells #[.bool s, .slice a n c, .slice b m d] 27)).alloc (.cells #[.bool false, .slice none 0 0, .slice none 0 0] 27)) from ((Below.refl _ _).alloc (Nat.le_refl _) _).alloc (by simp) _)
  have LX := hid (show LocA 27 ((w.alloc (.cells #[.bool s, .slice a n c, .slice b m d] 27)).alloc (.cells #[.bool false, .slice none 0 0, .slice none 0 0] 27)) (w.heap.size) #[.bool s, .slice a n c, .slice b m d] from (LocA.at (by simp)).new1)
  have LR := hid (show LocA 27 ((w.alloc (.cells #[.bool s, .slice a n c, .slice b m d] 27)).alloc (.cells #[.bool false, .slice none 0 0, .slice none 0 0] 27)) (w.heap.size + 1) #[.bool false, .slice none 0 0, .slice none 0 0] from LocA.at (by simp))
  have X := hid (h.old B.out)
  clear h
  generalize hW : (w.alloc (.cells #[.bool s, .slice a n c, .slice b m d] 27)).alloc (.cells #[.bool false, .slice none 0 0, .slice none 0 0] 27) = W0 at B X LX LR
  have HW := hid hW
  clear hW
  have hs0 := B.out.size
  have hw0 := LR.out.lt
  go_enter Tryz.func38, Tryz.ntmps38
  have hnD := LR.out.lt
  go_upto_region 1 with fail
  rw [HW.out]
  go_cut [3] (fun sl wx => LaidO false W0 (bq subF o (nearO o)) sl wx)
  case first =>
    have LXD := hid (LX.out.old (Below_drew1 (Below.refl _ _)))
    have LXE := hid (LX.out.old (Below_drew1 (below_new' (o := .cells #[.bool false, .slice none 0 0, .slice none 0 0] 27))))
    have LRD := hid (LR.out.old (Below_drew1 (Below.refl _ _)))
    have LRE := hid (LR.out.old (Below_drew1 (below_new' (o := .cells #[.bool false, .slice none 0 0, .slice none 0 0] 27))))
    have XD := hid (X.out.old (Below_drew1 (Below.refl _ _)))
    have XE := hid (X.out.old (Below_drew1 (below_new' (o := .cells #[.bool false, .slice none 0 0, .slice none 0 0] 27))))
    have CD := hid (show Below W0.heap.size W0 W0.drew from Below_drew1 (Below.refl _ _))
    have CE := hid (show Below W0.heap.size W0 (W0.alloc (.cells #[.bool false, .slice none 0 0, .slice none 0 0] 27)).drew from Below_drew1 below_new')
    have NE := hid (show LocA 27 (W0.alloc (.cells #[.bool false, .slice none 0 0, .slice none 0 0] 27)).drew W0.heap.size #[.bool false, .slice none 0 0, .slice none 0 0] from LocA.new)
    have hlX := LX.out.lt
    have q0 := LXD.out.c 0 (v := .bool s) rfl
    have q1 := LXD.out.c 1 (v := .slice a n c) rfl
    have q2 := LXD.out.c 2 (v := .slice b m d) rfl
    have qE0 := LXE.out.c 0 (v := .bool s) rfl
    have qE1 := LXE.out.c 1 (v := .slice a n c) rfl
    have qE2 := LXE.out.c 2 (v := .slice b m d) rfl
    go_region_held3 (fun w' => w'.cell? ⟨w.heap.size, 0, none⟩ = some (.bool s) ∧ w'.cell? ⟨w.heap.size, 1, none⟩ = some (.slice a n c) ∧ w'.cell? ⟨w.heap.size, 2, none⟩ = some (.slice b m d)) (first | with_reducible exact ⟨q0, q1, q2⟩ | with_reducible exact ⟨qE0, qE1, qE2⟩ | ((with_reducible refine ⟨(LXC.out.new1).c 0 ?_, (LXC.out.new1).c 1 ?_, (LXC.out.new1).c 2 ?_⟩) <;> rfl) | ((with_reducible refine ⟨(cell_set3 ?_).trans q0, (cell_set3 ?_).trans q1, (cell_set3 ?_).trans q2⟩) <;> (have := NZ.out.2; omega)) | go_keep) (first | (go_at_call 37; (with_reducible refine (snear_o (by first | with_reducible exact XC.out | with_reducible exact (XC.out.old (below_new' (o := .cells #[.bool false, .slice none 0 0, .slice none 0 0] 27))) | with_reducible exact XD.out | with_reducible exact XE.out)).mono ?_); rintro e wq ⟨gs, aa, nn, cc, bb, mm, dd, rfl, hr, hb⟩; have hr := hr.base (show W0.heap.size ≤ _ from by first | with_reducible exact CC.out.size | with_reducible exact Nat.le_trans CC.out.size (by simp) | with_reducible exact CD.out.size | with_reducible exact CE.out.size); (try (first | (have NZ := hid (And.intro (NZ.out.1.old hb) NZ.out.2)) | (have NZ := hid (And.intro (NE.out.old hb) (show W0.heap.size ≤ W0.heap.size from Nat.le_refl _))) | (have NZ := hid (And.intro ((LocA.new (T := 27) (cs := #[.bool false, .slice none 0 0, .slice none 0 0])).old hb) CC.out.size)))); (first | (have CC := hid (CC.out.trans (hb.mono CC.out.size))) | (have CC := hid ((CC.out.alloc CC.out.size (.cells #[.bool false, .slice none 0 0, .slice none 0 0] 27)).trans (hb.mono (Nat.le_trans CC.out.size (by simp))))) | (have CC := hid (CD.out.trans (hb.mono CD.out.size))) | (have CC := hid (CE.out.trans (hb.mono CE.out.size)))); (first | (with_reducible have LXC := hid (LXC.out.old hb)) | (with_reducible have LXC := hid ((LXC.out.old (below_new' (o := .cells #[.bool false, .slice none 0 0, .slice none 0 0] 27))).old hb)) | (with_reducible have LXC := hid (LXD.out.old hb)) | (with_reducible have LXC := hid (LXE.out.old hb))); (first | (with_reducible have LRC := hid (LRC.out.old hb)) | (with_reducible have LRC := hid ((LRC.out.old (below_new' (o := .cells #[.bool false, .slice none 0 0, .slice none 0 0] 27))).old hb)) | (with_reducible have LRC := hid (LRD.out.old hb)) | (with_reducible have LRC := hid (LRE.out.old hb))); (first | (with_reducible have XC := hid (XC.out.old hb)) | (with_reducible have XC := hid ((XC.out.old (below_new' (o := .cells #[.bool false, .slice none 0 0, .slice none 0 0] 27))).old hb)) | (with_reducible have XC := hid (XD.out.old hb)) | (with_reducible have XC := hid (XE.out.old hb))); have NC := hid hr; have q0 := LXC.out.c 0 (v := .bool s) rfl; have q1 := LXC.out.c 1 (v := .slice a n c) rfl; have q2 := LXC.out.c 2 (v := .slice b m d) rfl; clear hr hb) | (go_at_call 71; (with_reducible refine (ssub_o (by first | with_reducible exact XC.out | with_reducible exact (XC.out.old (below_new' (o := .cells #[.bool false, .slice none 0 0, .slice none 0 0] 27))) | with_reducible exact XD.out | with_reducible exact XE.out) (by first | with_reducible exact NC.out.ra | with_reducible exact (NC.out.old (below_new' (o := .cells #[.bool false, .slice none 0 0, .slice none 0 0] 27))).ra)).mono ?_); rintro e wq ⟨gs, aa, nn, cc, bb, mm, dd, rfl, hr, hb⟩; have hr := hr.base (show W0.heap.size ≤ _ from by first | with_reducible exact CC.out.size | with_reducible exact Nat.le_trans CC.out.size (by simp) | with_reducible exact CD.out.size | with_reducible exact CE.out.size); (try (first | (have NZ := hid (And.intro (NZ.out.1.old hb) NZ.out.2)) | (have NZ := hid (And.intro (NE.out.old hb) (show W0.heap.size ≤ W0.heap.size from Nat.le_refl _))) | (have NZ := hid (And.intro ((LocA.new (T := 27) (cs := #[.bool false, .slice none 0 0, .slice none 0 0])).old hb) CC.out.size)))); (first | (have CC := hid (CC.out.trans (hb.mono CC.out.size))) | (have CC := hid ((CC.out.alloc CC.out.size (.cells #[.bool false, .slice none 0 0, .slice none 0 0] 27)).trans (hb.mono (Nat.le_trans CC.out.size (by simp))))) | (have CC := hid (CD.out.trans (hb.mono CD.out.size))) | (have CC := hid (CE.out.trans (hb.mono CE.out.size)))); (first | (with_reducible have LXC := hid (LXC.out.old hb)) | (with_reducible have LXC := hid ((LXC.out.old (below_new' (o := .cells #[.bool false, .slice none 0 0, .slice none 0 0] 27))).old hb)) | (with_reducible have LXC := hid (LXD.out.old hb)) | (with_reducible have LXC := hid (LXE.out.old hb))); (first | (with_reducible have LRC := hid (LRC.out.old hb)) | (with_reducible have LRC := hid ((LRC.out.old (below_new' (o := .cells #[.bool false, .slice none 0 0, .slice none 0 0] 27))).old hb)) | (with_reducible have LRC := hid (LRD.out.old hb)) | (with_reducible have LRC := hid (LRE.out.old hb))); (first | (with_reducible have XC := hid (XC.out.old hb)) | (with_reducible have XC := hid ((XC.out.old (below_new' (o := .cells #[.bool false, .slice none 0 0, .slice none 0 0] 27))).old hb)) | (with_reducible have XC := hid (XD.out.old hb)) | (with_reducible have XC := hid (XE.out.old hb))); (first | (with_reducible have NC := hid (NC.out.old hb)) | (with_reducible have NC := hid ((NC.out.old (below_new' (o := .cells #[.bool false, .slice none 0 0, .slice none 0 0] 27))).old hb))); have DC := hid hr; have q0 := LXC.out.c 0 (v := .bool s) rfl; have q1 := LXC.out.c 1 (v := .slice a n c) rfl; have q2 := LXC.out.c 2 (v := .slice b m d) rfl; (try (have f0 := NZ.out.1.f 0; have f1 := NZ.out.1.f 1; have f2 := NZ.out.1.f 2; have p0 := NZ.out.1.c 0 rfl; have p1 := NZ.out.1.c 1 rfl; have p2 := NZ.out.1.c 2 rfl)); clear hr hb))
    all_goals
      go_wp2_with fail
      go_meet
      first | with_reducible exact LaidO_a DC.out CC.out | with_reducible exact LaidO_b NZ.out.1 NZ.out.2 DC.out CC.out
  case rest =>
    generalize wc = w1 at hcut ⊢
    obtain ⟨g1, s1, a1, n1, c1, b1, m1, d1, rfl, hL, hR, hg, hb⟩ := hcut
    have LD := hid hL
    have D := hid (hR.base B.out.size)
    have hgD := hg
    have LX := hid (LX.out.old hb)
    have LR := hid (LR.out.old hb)
    have X := hid (X.out.old hb)
    have B := hid (B.out.trans (hb.mono B.out.size))
    clear hL hR hb hg
    have HQ := hid (show Q = RatO false (absO (bq subF o (nearO o))) w from HQ.out)
    obtain ⟨dd, hdd⟩ : ∃ z, z = bq subF o (nearO o) := ⟨_, rfl⟩
    rw [← hdd] at D HQ
    clear hdd
    cases dd with
    | none =>
      have q0 := LD.out.c 0 (v := .bool s1) rfl
      have q1 := LD.out.c 1 (v := .slice a1 n1 c1) rfl
      have q2 := LD.out.c 2 (v := .slice b1 m1 d1) rfl
      go_wp2_with fail
      (with_reducible refine (sok_none D.out.ra).mono ?_)
      clear q0 q1 q2
      rintro e w2 ⟨rfl, hb⟩
      have LX := hid (LX.out.old hb)
      have LR := hid (LR.out.old hb)
      have X := hid (X.out.old hb)
      have D := hid (D.out.old hb)
      have LD := hid (LD.out.old hb)
      have B := hid (B.out.trans (hb.mono B.out.size))
      clear hb
      have f0 := LR.out.f 0
      have f1 := LR.out.f 1
      have f2 := LR.out.f 2
      have p0 := LR.out.c 0 rfl
      have p1 := LR.out.c 1 rfl
      have p2 := LR.out.c 2 rfl
      have R := hid (q_of HQ.out (RO.out (w := w) (N := w.heap.size + 1) (RO_none (w := _) (lo := w.heap.size)) (Nat.le_refl _) (by omega) LR.out (by decide) B.out))
      go_wp2
      exact bodyPost_ret (v := .agg #[.bool false, .slice none 0 0, .slice none 0 0]) (by simp [results, Tryz.results38, go_sem, p0, p1, p2]) rfl R.out
    | some x =>
      have q0 := LD.out.c 0 (v := .bool s1) rfl
      have q1 := LD.out.c 1 (v := .slice a1 n1 c1) rfl
      have q2 := LD.out.c 2 (v := .slice b1 m1 d1) rfl
      go_wp2_with fail
      (with_reducible refine (sok_some D.out.ra).mono ?_)
      clear q0 q1 q2
      rintro e w2 ⟨rfl, hb⟩
      have LX := hid (LX.out.old hb)
      have LR := hid (LR.out.old hb)
      have X := hid (X.out.old hb)
      have D := hid (D.out.old hb)
      have LD := hid (LD.out.old hb)
      have B := hid (B.out.trans (hb.mono B.out.size))
      clear hb
      have q0 := LD.out.c 0 (v := .bool s1) rfl
      have q1 := LD.out.c 1 (v := .slice a1 n1 c1) rfl
      have q2 := LD.out.c 2 (v := .slice b1 m1 d1) rfl
      go_wp2_with fail
      (with_reducible refine (l05Abs_o D.out.ra).mono ?_)
      clear q0 q1 q2
      rintro e w3 ⟨s3, a3, n3, c3, b3, m3, d3, rfl, hr, hb⟩
      have R1 := hid (hr.base B.out.size)
      have LX := hid (LX.out.old hb)
      have LR := hid (LR.out.old hb)
      have X := hid (X.out.old hb)
      have D := hid (D.out.old hb)
      have LD := hid (LD.out.old hb)
      have B := hid (B.out.trans (hb.mono B.out.size))
      clear hr hb
      have f0 := LR.out.f 0
      have f1 := LR.out.f 1
      have f2 := LR.out.f 2
      have p0 := LR.out.c 0 rfl
      have p1 := LR.out.c 1 rfl
      have p2 := LR.out.c 2 rfl
      have R := hid (q_of HQ.out (RO.out (w := w) (N := w.heap.size + 1) R1.out (Nat.le_refl _) (by omega) LR.out (by decide) B.out))
      go_wp2
      exact bodyPost_ret (v := .agg #[.bool s3, .slice a3 n3 c3, .slice b3 m3 d3]) (by simp [results, Tryz.results38, go_sem, p0, p1, p2]) rfl R.out
theorem sdist_o {w : World} {s : Bool} {v u : Value} {o : Option Rat}  (h : RA w s v u o) : Calls Tryz.prog 38 #[.agg #[.bool s, v, u]] w (RatO false (distO o) w) := by
  obtain ⟨a, n, c, b, m, d, rfl, rfl⟩ := h.form
  exact sdist_o_w  w h
set_option maxRecDepth 100000 in
set_option maxHeartbeats 12800000 in
theorem scount_o_w {s : Bool} {a : Option Addr} {n c : Nat} {b : Option Addr} {m d : Nat} {t : Bool} {a' : Option Addr} {n' c' : Nat} {b' : Option Addr} {m' d' : Nat} {o : Option Rat} {o' : Option Rat}  (w : World) (h : RA w s (.slice a n c) (.slice b m d) o) (h' : RA w t (.slice a' n' c') (.slice b' m' d') o') :
    Calls Tryz.prog 40 #[.agg #[.bool s, .slice a n c, .slice b m d], .agg #[.bool t, .slice a' n' c', .slice b' m' d']] w (RatO false (countO o o') w) := by
  obtain ⟨Q, hQ⟩ : ∃ Q, Q = RatO false (countO o o') w := ⟨_, rfl⟩
  rw [← hQ]
  have HQ := hid hQ
  clear hQ
  have B := hid (show Below w.heap.size w (((w.alloc (.cells #[.bool s, .slice a n c, .slice b m d] 27)).alloc (.cells #[.bool t, .slice a' n' c', .slice b' m' d'] 27)).alloc (.cells #[.bool false, .slice none 0 0, .slice none 0 0] 27)) from (((Below.refl _ _).alloc (Nat.le_refl _) _).alloc (by simp) _).alloc (by simp; try omega) _)
  have LX := hid (show LocA 27 (((w.alloc (.cells #[.bool s, .slice a n c, .slice b m d] 27)).alloc (.cells #[.bool t, .slice a' n' c', .slice b' m' d'] 27)).alloc (.cells #[.bool false, .slice none 0 0, .slice none 0 0] 27)) (w.heap.size) #[.bool s, .slice a n c, .slice b m d] from (LocA.at (by simp)).new1.new1)
  have LY := hid (show LocA 27 (((w.alloc (.cells #[.bool s, .slice a n c, .slice b m d] 27)).alloc (.cells #[.bool t, .slice a' n' c', .slice b' m' d'] 27)).alloc (.cells #[.bool false, .slice none 0 0, .slice none 0 0] 27)) (w.heap.size + 1) #[.bool t, .slice a' n' c', .slice b' m' d'] from (LocA.at (by simp)).new1)
  have LR := hid (show LocA 27 (((w.alloc (.cells #[.bool s, .slice a n c, .slice b m d] 27)).alloc (.cells #[.bool t, .slice a' n' c', .slice b' m' d'] 27)).alloc (.cells #[.bool false, .slice none 0 0, .slice none 0 0] 27)) (w.heap.size + 1 + 1) #[.bool false, .slice none 0 0, .slice none 0 0] from LocA.at (by simp))
  have X := hid (h.old B.out)
  have Y := hid (h'.old B.out)
  clear h h'
  generalize hW : ((w.alloc (.cells #[.bool s, .slice a n c, .slice b m d] 27)).alloc (.cells #[.bool t, .slice a' n' c', .slice b' m' d'] 27)).alloc (.cells #[.bool false, .slice none 0 0, .slice none 0 0] 27) = W0 at B X LX Y LY LR
  have HW := hid hW
  clear hW
  have hs0 := B.out.size
  have hw0 := LR.out.lt
  go_enter Tryz.func40, Tryz.ntmps40
  have hnS := LR.out.lt
  go_upto_region 1 with fail
  rw [HW.out]
  go_cut [5] (fun sl wx => LaidO false W0 (bq addF (bq subF (floorO o') (ceilO o)) (some ((1 : Int) : Rat))) sl wx)
  case first =>
    have LXD := hid (LX.out.old (Below_drew1 (Below.refl _ _)))
    have LXE := hid (LX.out.old (Below_drew1 (below_new' (o := .cells #[.bool false, .slice none 0 0, .slice none 0 0] 27))))
    have LYD := hid (LY.out.old (Below_drew1 (Below.refl _ _)))
    have LYE := hid (LY.out.old (Below_drew1 (below_new' (o := .cells #[.bool false, .slice none 0 0, .slice none 0 0] 27))))
    have LRD := hid (LR.out.old (Below_drew1 (Below.refl _ _)))
    have LRE := hid (LR.out.old (Below_drew1 (below_new' (o := .cells #[.bool false, .slice none 0 0, .slice none 0 0] 27))))
    have XD := hid (X.out.old (Below_drew1 (Below.refl _ _)))
    have XE := hid (X.out.old (Below_drew1 (below_new' (o := .cells #[.bool false, .slice none 0 0, .slice none 0 0] 27))))
    have YD := hid (Y.out.old (Below_drew1 (Below.refl _ _)))
    have YE := hid (Y.out.old (Below_drew1 (below_new' (o := .cells #[.bool false, .slice none 0 0, .slice none 0 0] 27))))
    have CD := hid (show Below W0.heap.size W0 W0.drew from Below_drew1 (Below.refl _ _))
    have CE := hid (show Below W0.heap.size W0 (W0.alloc (.cells #[.bool false, .slice none 0 0, .slice none 0 0] 27)).drew from Below_drew1 below_new')
    have NE := hid (show LocA 27 (W0.alloc (.cells #[.bool false, .slice none 0 0, .slice none 0 0] 27)).drew W0.heap.size #[.bool false, .slice none 0 0, .slice none 0 0] from LocA.new)
    have hlY := LY.out.lt
    have hlX := LX.out.lt
    have q0 := LYD.out.c 0 (v := .bool t) rfl
    have q1 := LYD.out.c 1 (v := .slice a' n' c') rfl
    have q2 := LYD.out.c 2 (v := .slice b' m' d') rfl
    have q3 := LXD.out.c 0 (v := .bool s) rfl
    have q4 := LXD.out.c 1 (v := .slice a n c) rfl
    have q5 := LXD.out.c 2 (v := .slice b m d) rfl
    have qE0 := LYE.out.c 0 (v := .bool t) rfl
    have qE1 := LYE.out.c 1 (v := .slice a' n' c') rfl
    have qE2 := LYE.out.c 2 (v := .slice b' m' d') rfl
    have qE3 := LXE.out.c 0 (v := .bool s) rfl
    have qE4 := LXE.out.c 1 (v := .slice a n c) rfl
    have qE5 := LXE.out.c 2 (v := .slice b m d) rfl
    go_region_held3 (fun w' => w'.cell? ⟨w.heap.size + 1, 0, none⟩ = some (.bool t) ∧ w'.cell? ⟨w.heap.size + 1, 1, none⟩ = some (.slice a' n' c') ∧ w'.cell? ⟨w.heap.size + 1, 2, none⟩ = some (.slice b' m' d') ∧ w'.cell? ⟨w.heap.size, 0, none⟩ = some (.bool s) ∧ w'.cell? ⟨w.heap.size, 1, none⟩ = some (.slice a n c) ∧ w'.cell? ⟨w.heap.size, 2, none⟩ = some (.slice b m d)) (first | with_reducible exact ⟨q0, q1, q2, q3, q4, q5⟩ | with_reducible exact ⟨qE0, qE1, qE2, qE3, qE4, qE5⟩ | ((with_reducible refine ⟨(LYC.out.new1).c 0 ?_, (LYC.out.new1).c 1 ?_, (LYC.out.new1).c 2 ?_, (LXC.out.new1).c 0 ?_, (LXC.out.new1).c 1 ?_, (LXC.out.new1).c 2 ?_⟩) <;> rfl) | ((with_reducible refine ⟨(cell_set3 ?_).trans q0, (cell_set3 ?_).trans q1, (cell_set3 ?_).trans q2, (cell_set3 ?_).trans q3, (cell_set3 ?_).trans q4, (cell_set3 ?_).trans q5⟩) <;> (have := NZ.out.2; omega)) | go_keep) (first | (go_at_call 72; (with_reducible refine (sfloor_o (by first | with_reducible exact YC.out | with_reducible exact (YC.out.old (below_new' (o := .cells #[.bool false, .slice none 0 0, .slice none 0 0] 27))) | with_reducible exact YD.out | with_reducible exact YE.out)).mono ?_); rintro e wq ⟨gs, aa, nn, cc, bb, mm, dd, rfl, hr, hb⟩; have hr := hr.base (show W0.heap.size ≤ _ from by first | with_reducible exact CC.out.size | with_reducible exact Nat.le_trans CC.out.size (by simp) | with_reducible exact CD.out.size | with_reducible exact CE.out.size); (try (first | (have NZ := hid (And.intro (NZ.out.1.old hb) NZ.out.2)) | (have NZ := hid (And.intro (NE.out.old hb) (show W0.heap.size ≤ W0.heap.size from Nat.le_refl _))) | (have NZ := hid (And.intro ((LocA.new (T := 27) (cs := #[.bool false, .slice none 0 0, .slice none 0 0])).old hb) CC.out.size)))); (first | (have CC := hid (CC.out.trans (hb.mono CC.out.size))) | (have CC := hid ((CC.out.alloc CC.out.size (.cells #[.bool false, .slice none 0 0, .slice none 0 0] 27)).trans (hb.mono (Nat.le_trans CC.out.size (by simp))))) | (have CC := hid (CD.out.trans (hb.mono CD.out.size))) | (have CC := hid (CE.out.trans (hb.mono CE.out.size)))); (first | (with_reducible have LXC := hid (LXC.out.old hb)) | (with_reducible have LXC := hid ((LXC.out.old (below_new' (o := .cells #[.bool false, .slice none 0 0, .slice none 0 0] 27))).old hb)) | (with_reducible have LXC := hid (LXD.out.old hb)) | (with_reducible have LXC := hid (LXE.out.old hb))); (first | (with_reducible have LYC := hid (LYC.out.old hb)) | (with_reducible have LYC := hid ((LYC.out.old (below_new' (o := .cells #[.bool false, .slice none 0 0, .slice none 0 0] 27))).old hb)) | (with_reducible have LYC := hid (LYD.out.old hb)) | (with_reducible have LYC := hid (LYE.out.old hb))); (first | (with_reducible have LRC := hid (LRC.out.old hb)) | (with_reducible have LRC := hid ((LRC.out.old (below_new' (o := .cells #[.bool false, .slice none 0 0, .slice none 0 0] 27))).old hb)) | (with_reducible have LRC := hid (LRD.out.old hb)) | (with_reducible have LRC := hid (LRE.out.old hb))); (first | (with_reducible have XC := hid (XC.out.old hb)) | (with_reducible have XC := hid ((XC.out.old (below_new' (o := .cells #[.bool false, .slice none 0 0, .slice none 0 0] 27))).old hb)) | (with_reducible have XC := hid (XD.out.old hb)) | (with_reducible have XC := hid (XE.out.old hb))); (first | (with_reducible have YC := hid (YC.out.old hb)) | (with_reducible have YC := hid ((YC.out.old (below_new' (o := .cells #[.bool false, .slice none 0 0, .slice none 0 0] 27))).old hb)) | (with_reducible have YC := hid (YD.out.old hb)) | (with_reducible have YC := hid (YE.out.old hb))); have FC := hid hr; have q0 := LYC.out.c 0 (v := .bool t) rfl; have q1 := LYC.out.c 1 (v := .slice a' n' c') rfl; have q2 := LYC.out.c 2 (v := .slice b' m' d') rfl; have q3 := LXC.out.c 0 (v := .bool s) rfl; have q4 := LXC.out.c 1 (v := .slice a n c) rfl; have q5 := LXC.out.c 2 (v := .slice b m d) rfl; clear hr hb) | (go_at_call 90; (with_reducible refine (sceil_o (by first | with_reducible exact XC.out | with_reducible exact (XC.out.old (below_new' (o := .cells #[.bool false, .slice none 0 0, .slice none 0 0] 27))) | with_reducible exact XD.out | with_reducible exact XE.out)).mono ?_); rintro e wq ⟨gs, aa, nn, cc, bb, mm, dd, rfl, hr, hb⟩; have hr := hr.base (show W0.heap.size ≤ _ from by first | with_reducible exact CC.out.size | with_reducible exact Nat.le_trans CC.out.size (by simp) | with_reducible exact CD.out.size | with_reducible exact CE.out.size); (try (first | (have NZ := hid (And.intro (NZ.out.1.old hb) NZ.out.2)) | (have NZ := hid (And.intro (NE.out.old hb) (show W0.heap.size ≤ W0.heap.size from Nat.le_refl _))) | (have NZ := hid (And.intro ((LocA.new (T := 27) (cs := #[.bool false, .slice none 0 0, .slice none 0 0])).old hb) CC.out.size)))); (first | (have CC := hid (CC.out.trans (hb.mono CC.out.size))) | (have CC := hid ((CC.out.alloc CC.out.size (.cells #[.bool false, .slice none 0 0, .slice none 0 0] 27)).trans (hb.mono (Nat.le_trans CC.out.size (by simp))))) | (have CC := hid (CD.out.trans (hb.mono CD.out.size))) | (have CC := hid (CE.out.trans (hb.mono CE.out.size)))); (first | (with_reducible have LXC := hid (LXC.out.old hb)) | (with_reducible have LXC := hid ((LXC.out.old (below_new' (o := .cells #[.bool false, .slice none 0 0, .slice none 0 0] 27))).old hb)) | (with_reducible have LXC := hid (LXD.out.old hb)) | (with_reducible have LXC := hid (LXE.out.old hb))); (first | (with_reducible have LYC := hid (LYC.out.old hb)) | (with_reducible have LYC := hid ((LYC.out.old (below_new' (o := .cells #[.bool false, .slice none 0 0, .slice none 0 0] 27))).old hb)) | (with_reducible have LYC := hid (LYD.out.old hb)) | (with_reducible have LYC := hid (LYE.out.old hb))); (first | (with_reducible have LRC := hid (LRC.out.old hb)) | (with_reducible have LRC := hid ((LRC.out.old (below_new' (o := .cells #[.bool false, .slice none 0 0, .slice none 0 0] 27))).old hb)) | (with_reducible have LRC := hid (LRD.out.old hb)) | (with_reducible have LRC := hid (LRE.out.old hb))); (first | (with_reducible have XC := hid (XC.out.old hb)) | (with_reducible have XC := hid ((XC.out.old (below_new' (o := .cells #[.bool false, .slice none 0 0, .slice none 0 0] 27))).old hb)) | (with_reducible have XC := hid (XD.out.old hb)) | (with_reducible have XC := hid (XE.out.old hb))); (first | (with_reducible have YC := hid (YC.out.old hb)) | (with_reducible have YC := hid ((YC.out.old (below_new' (o := .cells #[.bool false, .slice none 0 0, .slice none 0 0] 27))).old hb)) | (with_reducible have YC := hid (YD.out.old hb)) | (with_reducible have YC := hid (YE.out.old hb))); (first | (with_reducible have FC := hid (FC.out.old hb)) | (with_reducible have FC := hid ((FC.out.old (below_new' (o := .cells #[.bool false, .slice none 0 0, .slice none 0 0] 27))).old hb))); have UC := hid hr; have q0 := LYC.out.c 0 (v := .bool t) rfl; have q1 := LYC.out.c 1 (v := .slice a' n' c') rfl; have q2 := LYC.out.c 2 (v := .slice b' m' d') rfl; have q3 := LXC.out.c 0 (v := .bool s) rfl; have q4 := LXC.out.c 1 (v := .slice a n c) rfl; have q5 := LXC.out.c 2 (v := .slice b m d) rfl; clear hr hb) | (go_at_call 71; (with_reducible refine (ssub_o (by first | with_reducible exact FC.out.ra | with_reducible exact (FC.out.old (below_new' (o := .cells #[.bool false, .slice none 0 0, .slice none 0 0] 27))).ra) (by first | with_reducible exact UC.out.ra | with_reducible exact (UC.out.old (below_new' (o := .cells #[.bool false, .slice none 0 0, .slice none 0 0] 27))).ra)).mono ?_); rintro e wq ⟨gs, aa, nn, cc, bb, mm, dd, rfl, hr, hb⟩; have hr := hr.base (show W0.heap.size ≤ _ from by first | with_reducible exact CC.out.size | with_reducible exact Nat.le_trans CC.out.size (by simp) | with_reducible exact CD.out.size | with_reducible exact CE.out.size); (try (first | (have NZ := hid (And.intro (NZ.out.1.old hb) NZ.out.2)) | (have NZ := hid (And.intro (NE.out.old hb) (show W0.heap.size ≤ W0.heap.size from Nat.le_refl _))) | (have NZ := hid (And.intro ((LocA.new (T := 27) (cs := #[.bool false, .slice none 0 0, .slice none 0 0])).old hb) CC.out.size)))); (first | (have CC := hid (CC.out.trans (hb.mono CC.out.size))) | (have CC := hid ((CC.out.alloc CC.out.size (.cells #[.bool false, .slice none 0 0, .slice none 0 0] 27)).trans (hb.mono (Nat.le_trans CC.out.size (by simp))))) | (have CC := hid (CD.out.trans (hb.mono CD.out.size))) | (have CC := hid (CE.out.trans (hb.mono CE.out.size)))); (first | (with_reducible have LXC := hid (LXC.out.old hb)) | (with_reducible have LXC := hid ((LXC.out.old (below_new' (o := .cells #[.bool false, .slice none 0 0, .slice none 0 0] 27))).old hb)) | (with_reducible have LXC := hid (LXD.out.old hb)) | (with_reducible have LXC := hid (LXE.out.old hb))); (first | (with_reducible have LYC := hid (LYC.out.old hb)) | (with_reducible have LYC := hid ((LYC.out.old (below_new' (o := .cells #[.bool false, .slice none 0 0, .slice none 0 0] 27))).old hb)) | (with_reducible have LYC := hid (LYD.out.old hb)) | (with_reducible have LYC := hid (LYE.out.old hb))); (first | (with_reducible have LRC := hid (LRC.out.old hb)) | (with_reducible have LRC := hid ((LRC.out.old (below_new' (o := .cells #[.bool false, .slice none 0 0, .slice none 0 0] 27))).old hb)) | (with_reducible have LRC := hid (LRD.out.old hb)) | (with_reducible have LRC := hid (LRE.out.old hb))); (first | (with_reducible have XC := hid (XC.out.old hb)) | (with_reducible have XC := hid ((XC.out.old (below_new' (o := .cells #[.bool false, .slice none 0 0, .slice none 0 0] 27))).old hb)) | (with_reducible have XC := hid (XD.out.old hb)) | (with_reducible have XC := hid (XE.out.old hb))); (first | (with_reducible have YC := hid (YC.out.old hb)) | (with_reducible have YC := hid ((YC.out.old (below_new' (o := .cells #[.bool false, .slice none 0 0, .slice none 0 0] 27))).old hb)) | (with_reducible have YC := hid (YD.out.old hb)) | (with_reducible have YC := hid (YE.out.old hb))); (first | (with_reducible have FC := hid (FC.out.old hb)) | (with_reducible have FC := hid ((FC.out.old (below_new' (o := .cells #[.bool false, .slice none 0 0, .slice none 0 0] 27))).old hb))); (first | (with_reducible have UC := hid (UC.out.old hb)) | (with_reducible have UC := hid ((UC.out.old (below_new' (o := .cells #[.bool false, .slice none 0 0, .slice none 0 0] 27))).old hb))); have DC := hid hr; have q0 := LYC.out.c 0 (v := .bool t) rfl; have q1 := LYC.out.c 1 (v := .slice a' n' c') rfl; have q2 := LYC.out.c 2 (v := .slice b' m' d') rfl; have q3 := LXC.out.c 0 (v := .bool s) rfl; have q4 := LXC.out.c 1 (v := .slice a n c) rfl; have q5 := LXC.out.c 2 (v := .slice b m d) rfl; clear hr hb) | (go_at_call 87; (with_reducible refine (sint_o 1 (by decide) (by decide) _).mono ?_); rintro e wq ⟨gs, aa, nn, cc, bb, mm, dd, rfl, hr, hb⟩; have hr := hr.base (show W0.heap.size ≤ _ from by first | with_reducible exact CC.out.size | with_reducible exact Nat.le_trans CC.out.size (by simp) | with_reducible exact CD.out.size | with_reducible exact CE.out.size); (try (first | (have NZ := hid (And.intro (NZ.out.1.old hb) NZ.out.2)) | (have NZ := hid (And.intro (NE.out.old hb) (show W0.heap.size ≤ W0.heap.size from Nat.le_refl _))) | (have NZ := hid (And.intro ((LocA.new (T := 27) (cs := #[.bool false, .slice none 0 0, .slice none 0 0])).old hb) CC.out.size)))); (first | (have CC := hid (CC.out.trans (hb.mono CC.out.size))) | (have CC := hid ((CC.out.alloc CC.out.size (.cells #[.bool false, .slice none 0 0, .slice none 0 0] 27)).trans (hb.mono (Nat.le_trans CC.out.size (by simp))))) | (have CC := hid (CD.out.trans (hb.mono CD.out.size))) | (have CC := hid (CE.out.trans (hb.mono CE.out.size)))); (first | (with_reducible have LXC := hid (LXC.out.old hb)) | (with_reducible have LXC := hid ((LXC.out.old (below_new' (o := .cells #[.bool false, .slice none 0 0, .slice none 0 0] 27))).old hb)) | (with_reducible have LXC := hid (LXD.out.old hb)) | (with_reducible have LXC := hid (LXE.out.old hb))); (first | (with_reducible have LYC := hid (LYC.out.old hb)) | (with_reducible have LYC := hid ((LYC.out.old (below_new' (o := .cells #[.bool false, .slice none 0 0, .slice none 0 0] 27))).old hb)) | (with_reducible have LYC := hid (LYD.out.old hb)) | (with_reducible have LYC := hid (LYE.out.old hb))); (first | (with_reducible have LRC := hid (LRC.out.old hb)) | (with_reducible have LRC := hid ((LRC.out.old (below_new' (o := .cells #[.bool false, .slice none 0 0, .slice none 0 0] 27))).old hb)) | (with_reducible have LRC := hid (LRD.out.old hb)) | (with_reducible have LRC := hid (LRE.out.old hb))); (first | (with_reducible have XC := hid (XC.out.old hb)) | (with_reducible have XC := hid ((XC.out.old (below_new' (o := .cells #[.bool false, .slice none 0 0, .slice none 0 0] 27))).old hb)) | (with_reducible have XC := hid (XD.out.old hb)) | (with_reducible have XC := hid (XE.out.old hb))); (first | (with_reducible have YC := hid (YC.out.old hb)) | (with_reducible have YC := hid ((YC.out.old (below_new' (o := .cells #[.bool false, .slice none 0 0, .slice none 0 0] 27))).old hb)) | (with_reducible have YC := hid (YD.out.old hb)) | (with_reducible have YC := hid (YE.out.old hb))); (first | (with_reducible have FC := hid (FC.out.old hb)) | (with_reducible have FC := hid ((FC.out.old (below_new' (o := .cells #[.bool false, .slice none 0 0, .slice none 0 0] 27))).old hb))); (first | (with_reducible have UC := hid (UC.out.old hb)) | (with_reducible have UC := hid ((UC.out.old (below_new' (o := .cells #[.bool false, .slice none 0 0, .slice none 0 0] 27))).old hb))); (first | (with_reducible have DC := hid (DC.out.old hb)) | (with_reducible have DC := hid ((DC.out.old (below_new' (o := .cells #[.bool false, .slice none 0 0, .slice none 0 0] 27))).old hb))); have IC := hid hr; have q0 := LYC.out.c 0 (v := .bool t) rfl; have q1 := LYC.out.c 1 (v := .slice a' n' c') rfl; have q2 := LYC.out.c 2 (v := .slice b' m' d') rfl; have q3 := LXC.out.c 0 (v := .bool s) rfl; have q4 := LXC.out.c 1 (v := .slice a n c) rfl; have q5 := LXC.out.c 2 (v := .slice b m d) rfl; clear hr hb) | (go_at_call 81; (with_reducible refine (sadd_o (by first | with_reducible exact DC.out.ra | with_reducible exact (DC.out.old (below_new' (o := .cells #[.bool false, .slice none 0 0, .slice none 0 0] 27))).ra) (by first | with_reducible exact IC.out.ra | with_reducible exact (IC.out.old (below_new' (o := .cells #[.bool false, .slice none 0 0, .slice none 0 0] 27))).ra)).mono ?_); rintro e wq ⟨gs, aa, nn, cc, bb, mm, dd, rfl, hr, hb⟩; have hr := hr.base (show W0.heap.size ≤ _ from by first | with_reducible exact CC.out.size | with_reducible exact Nat.le_trans CC.out.size (by simp) | with_reducible exact CD.out.size | with_reducible exact CE.out.size); (try (first | (have NZ := hid (And.intro (NZ.out.1.old hb) NZ.out.2)) | (have NZ := hid (And.intro (NE.out.old hb) (show W0.heap.size ≤ W0.heap.size from Nat.le_refl _))) | (have NZ := hid (And.intro ((LocA.new (T := 27) (cs := #[.bool false, .slice none 0 0, .slice none 0 0])).old hb) CC.out.size)))); (first | (have CC := hid (CC.out.trans (hb.mono CC.out.size))) | (have CC := hid ((CC.out.alloc CC.out.size (.cells #[.bool false, .slice none 0 0, .slice none 0 0] 27)).trans (hb.mono (Nat.le_trans CC.out.size (by simp))))) | (have CC := hid (CD.out.trans (hb.mono CD.out.size))) | (have CC := hid (CE.out.trans (hb.mono CE.out.size)))); (first | (with_reducible have LXC := hid (LXC.out.old hb)) | (with_reducible have LXC := hid ((LXC.out.old (below_new' (o := .cells #[.bool false, .slice none 0 0, .slice none 0 0] 27))).old hb)) | (with_reducible have LXC := hid (LXD.out.old hb)) | (with_reducible have LXC := hid (LXE.out.old hb))); (first | (with_reducible have LYC := hid (LYC.out.old hb)) | (with_reducible have LYC := hid ((LYC.out.old (below_new' (o := .cells #[.bool false, .slice none 0 0, .slice none 0 0] 27))).old hb)) | (with_reducible have LYC := hid (LYD.out.old hb)) | (with_reducible have LYC := hid (LYE.out.old hb))); (first | (with_reducible have LRC := hid (LRC.out.old hb)) | (with_reducible have LRC := hid ((LRC.out.old (below_new' (o := .cells #[.bool false, .slice none 0 0, .slice none 0 0] 27))).old hb)) | (with_reducible have LRC := hid (LRD.out.old hb)) | (with_reducible have LRC := hid (LRE.out.old hb))); (first | (with_reducible have XC := hid (XC.out.old hb)) | (with_reducible have XC := hid ((XC.out.old (below_new' (o := .cells #[.bool false, .slice none 0 0, .slice none 0 0] 27))).old hb)) | (with_reducible have XC := hid (XD.out.old hb)) | (with_reducible have XC := hid (XE.out.old hb))); (first | (with_reducible have YC := hid (YC.out.old hb)) | (with_reducible have YC := hid ((YC.out.old (below_new' (o := .cells #[.bool false, .slice none 0 0, .slice none 0 0] 27))).old hb)) | (with_reducible have YC := hid (YD.out.old hb)) | (with_reducible have YC := hid (YE.out.old hb))); (first | (with_reducible have FC := hid (FC.out.old hb)) | (with_reducible have FC := hid ((FC.out.old (below_new' (o := .cells #[.bool false, .slice none 0 0, .slice none 0 0] 27))).old hb))); (first | (with_reducible have UC := hid (UC.out.old hb)) | (with_reducible have UC := hid ((UC.out.old (below_new' (o := .cells #[.bool false, .slice none 0 0, .slice none 0 0] 27))).old hb))); (first | (with_reducible have DC := hid (DC.out.old hb)) | (with_reducible have DC := hid ((DC.out.old (below_new' (o := .cells #[.bool false, .slice none 0 0, .slice none 0 0] 27))).old hb))); (first | (with_reducible have IC := hid (IC.out.old hb)) | (with_reducible have IC := hid ((IC.out.old (below_new' (o := .cells #[.bool false, .slice none 0 0, .slice none 0 0] 27))).old hb))); have SC := hid hr; have q0 := LYC.out.c 0 (v := .bool t) rfl; have q1 := LYC.out.c 1 (v := .slice a' n' c') rfl; have q2 := LYC.out.c 2 (v := .slice b' m' d') rfl; have q3 := LXC.out.c 0 (v := .bool s) rfl; have q4 := LXC.out.c 1 (v := .slice a n c) rfl; have q5 := LXC.out.c 2 (v := .slice b m d) rfl; (try (have f0 := NZ.out.1.f 0; have f1 := NZ.out.1.f 1; have f2 := NZ.out.1.f 2; have p0 := NZ.out.1.c 0 rfl; have p1 := NZ.out.1.c 1 rfl; have p2 := NZ.out.1.c 2 rfl)); clear hr hb))
    all_goals
      go_wp2_with fail
      go_meet
      first | with_reducible exact LaidO_a SC.out CC.out | with_reducible exact LaidO_b NZ.out.1 NZ.out.2 SC.out CC.out
  case rest =>
    generalize wc = w1 at hcut ⊢
    obtain ⟨g1, s1, a1, n1, c1, b1, m1, d1, rfl, hL, hR, hg, hb⟩ := hcut
    have LS := hid hL
    have S := hid (hR.base B.out.size)
    have hgS := hg
    have LX := hid (LX.out.old hb)
    have LY := hid (LY.out.old hb)
    have LR := hid (LR.out.old hb)
    have X := hid (X.out.old hb)
    have Y := hid (Y.out.old hb)
    have B := hid (B.out.trans (hb.mono B.out.size))
    clear hL hR hb hg
    have HQ := hid (show Q = RatO false (posO (bq addF (bq subF (floorO o') (ceilO o)) (some ((1 : Int) : Rat)))) w from HQ.out)
    obtain ⟨dd, hdd⟩ : ∃ z, z = bq addF (bq subF (floorO o') (ceilO o)) (some ((1 : Int) : Rat)) := ⟨_, rfl⟩
    rw [← hdd] at S HQ
    clear hdd
    have HS := hid (pos_sgn dd)
    obtain ⟨z, hz⟩ : ∃ z, z = sgnO dd := ⟨_, rfl⟩
    have HZ := hid hz
    rw [← hz] at HS
    clear hz
    have q0 := LS.out.c 0 (v := .bool s1) rfl
    have q1 := LS.out.c 1 (v := .slice a1 n1 c1) rfl
    have q2 := LS.out.c 2 (v := .slice b1 m1 d1) rfl
    go_wp2_with fail
    (with_reducible refine (ssign_o S.out.ra).mono ?_)
    clear q0 q1 q2
    rintro e w2 ⟨rfl, hb⟩
    have LX := hid (LX.out.old hb)
    have LY := hid (LY.out.old hb)
    have LR := hid (LR.out.old hb)
    have X := hid (X.out.old hb)
    have Y := hid (Y.out.old hb)
    have S := hid (S.out.old hb)
    have LS := hid (LS.out.old hb)
    have B := hid (B.out.trans (hb.mono B.out.size))
    clear hb
    rw [← HZ.out]
    by_cases hlt : z < 0
    · have hn := hid hlt
      go_wp2_with fail
      (with_reducible refine (sint_o 0 (by decide) (by decide) _).mono ?_)
      rintro e w3 ⟨s3, a3, n3, c3, b3, m3, d3, rfl, hr, hb⟩
      have R1 := hid (hr.base B.out.size)
      have LX := hid (LX.out.old hb)
      have LY := hid (LY.out.old hb)
      have LR := hid (LR.out.old hb)
      have X := hid (X.out.old hb)
      have Y := hid (Y.out.old hb)
      have S := hid (S.out.old hb)
      have LS := hid (LS.out.old hb)
      have B := hid (B.out.trans (hb.mono B.out.size))
      clear hr hb
      have f0 := LR.out.f 0
      have f1 := LR.out.f 1
      have f2 := LR.out.f 2
      have p0 := LR.out.c 0 rfl
      have p1 := LR.out.c 1 rfl
      have p2 := LR.out.c 2 rfl
      have R := hid (q_of HQ.out (RO.out (w := w) (N := w.heap.size + 1 + 1) (hid (R1.out.eqo (HS.out.1 (by have := hn.out; omega)))).out (Nat.le_refl _) (by omega) LR.out (by decide) B.out))
      go_wp2
      exact bodyPost_ret (v := .agg #[.bool s3, .slice a3 n3 c3, .slice b3 m3 d3]) (by simp [results, Tryz.results40, go_sem, p0, p1, p2]) rfl R.out
    · have hn := hid hlt
      have q0 := LS.out.c 0 (v := .bool s1) rfl
      have q1 := LS.out.c 1 (v := .slice a1 n1 c1) rfl
      have q2 := LS.out.c 2 (v := .slice b1 m1 d1) rfl
      have f0 := LR.out.f 0
      have f1 := LR.out.f 1
      have f2 := LR.out.f 2
      have p0 := LR.out.c 0 rfl
      have p1 := LR.out.c 1 rfl
      have p2 := LR.out.c 2 rfl
      have R := hid (q_of HQ.out (RO.out (w := w) (N := w.heap.size + 1 + 1) (hid (S.out.eqo (HS.out.2 (by have := hn.out; omega)))).out (Nat.le_refl _) (by omega) LR.out (by decide) B.out))
      go_wp2
      exact bodyPost_ret (v := .agg #[.bool s1, .slice a1 n1 c1, .slice b1 m1 d1]) (by simp [results, Tryz.results40, go_sem, p0, p1, p2]) rfl R.out
theorem scount_o {w : World} {s : Bool} {v u : Value} {t : Bool} {v' u' : Value} {o : Option Rat} {o' : Option Rat}  (h : RA w s v u o) (h' : RA w t v' u' o') : Calls Tryz.prog 40 #[.agg #[.bool s, v, u], .agg #[.bool t, v', u']] w (RatO false (countO o o') w) := by
  obtain ⟨a, n, c, b, m, d, rfl, rfl⟩ := h.form
  obtain ⟨a', n', c', b', m', d', rfl, rfl⟩ := h'.form
  exact scount_o_w  w h h'
end Go.Proofs.YtookglpeieennaaGreat

/- The functions on fractions of chapter 6, in the laws' words. -/
namespace Go.Proofs.YtookglpeieennaaGreat
open Go.RowKit
open Go.Lib (hid)
set_option linter.unusedVariables false

theorem impl_RatFloor (s : Bool) (v u : Value) (A D : List Int) (w : World) (h : RL w v u A D) : Calls Tryz.prog 11 #[.agg #[.bool s, v, u]] w (OwnR (floorO (rval s A D)) w) := (floor_o (RA.of h)).mono fun e w' hh => hh.own
theorem spec_RatFloor (s : Bool) (v u : Value) (A D : List Int) (w : World) (h : RL w v u A D) : Calls Tryz.prog 72 #[.agg #[.bool s, v, u]] w (OwnS (floorO (rval s A D)) w) := (sfloor_o (RA.of h)).mono fun e w' hh => hh.ownS
theorem impl_RatCeil (s : Bool) (v u : Value) (A D : List Int) (w : World) (h : RL w v u A D) : Calls Tryz.prog 12 #[.agg #[.bool s, v, u]] w (OwnR (ceilO (rval s A D)) w) := (ceil_o (RA.of h)).mono fun e w' hh => hh.own
theorem spec_RatCeil (s : Bool) (v u : Value) (A D : List Int) (w : World) (h : RL w v u A D) : Calls Tryz.prog 90 #[.agg #[.bool s, v, u]] w (OwnS (ceilO (rval s A D)) w) := (sceil_o (RA.of h)).mono fun e w' hh => hh.ownS
theorem impl_RatFrac (s : Bool) (v u : Value) (A D : List Int) (w : World) (h : RL w v u A D) : Calls Tryz.prog 18 #[.agg #[.bool s, v, u]] w (OwnR (fracO (rval s A D)) w) := (frac_o (RA.of h)).mono fun e w' hh => hh.own
theorem spec_RatFrac (s : Bool) (v u : Value) (A D : List Int) (w : World) (h : RL w v u A D) : Calls Tryz.prog 32 #[.agg #[.bool s, v, u]] w (OwnS (fracO (rval s A D)) w) := (sfrac_o (RA.of h)).mono fun e w' hh => hh.ownS
theorem impl_RatNearest (s : Bool) (v u : Value) (A D : List Int) (w : World) (h : RL w v u A D) : Calls Tryz.prog 13 #[.agg #[.bool s, v, u]] w (OwnR (nearO (rval s A D)) w) := (near_o (RA.of h)).mono fun e w' hh => hh.own
theorem spec_RatNearest (s : Bool) (v u : Value) (A D : List Int) (w : World) (h : RL w v u A D) : Calls Tryz.prog 37 #[.agg #[.bool s, v, u]] w (OwnS (nearO (rval s A D)) w) := (snear_o (RA.of h)).mono fun e w' hh => hh.ownS
theorem impl_RatDistance (s : Bool) (v u : Value) (A D : List Int) (w : World) (h : RL w v u A D) : Calls Tryz.prog 17 #[.agg #[.bool s, v, u]] w (OwnR (distO (rval s A D)) w) := (dist_o (RA.of h)).mono fun e w' hh => hh.own
theorem spec_RatDistance (s : Bool) (v u : Value) (A D : List Int) (w : World) (h : RL w v u A D) : Calls Tryz.prog 38 #[.agg #[.bool s, v, u]] w (OwnS (distO (rval s A D)) w) := (sdist_o (RA.of h)).mono fun e w' hh => hh.ownS
theorem impl_CountInts (s t : Bool) (v u v' u' : Value) (A D A' D' : List Int) (w : World) (h : RL w v u A D) (h' : RL w v' u' A' D') : Calls Tryz.prog 29 #[.agg #[.bool s, v, u], .agg #[.bool t, v', u']] w (OwnR (countO (rval s A D) (rval t A' D')) w) := (count_o (RA.of h) (RA.of h')).mono fun e w' hh => hh.own
theorem spec_CountInts (s t : Bool) (v u v' u' : Value) (A D A' D' : List Int) (w : World) (h : RL w v u A D) (h' : RL w v' u' A' D') : Calls Tryz.prog 40 #[.agg #[.bool s, v, u], .agg #[.bool t, v', u']] w (OwnS (countO (rval s A D) (rval t A' D')) w) := (scount_o (RA.of h) (RA.of h')).mono fun e w' hh => hh.ownS
set_option maxRecDepth 100000 in
set_option maxHeartbeats 3200000 in
theorem impl_RatIsInt (s : Bool) (v u : Value) (A D : List Int) (w : World) (h : RL w v u A D) :
    Calls Tryz.prog 15 #[.agg #[.bool s, v, u]] w (RetB (.bool (rok s A D && decide (D = [1]))) w) := by
  have hD : D.length ≤ 1073741824 := by have := h.ld; omega
  have KO := hid (fun (W : World) (h : RL W v u A D) => impl_RatOk s v u A D W h)
  have K1 := hid (fun (W : World) (b : Nat) (h : Ints W b u D) => isOne_own u D hD b W h)
  obtain ⟨p, hp⟩ : ∃ p, p = rok s A D := ⟨_, rfl⟩
  obtain ⟨q, hq⟩ : ∃ q, q = decide (D = [1]) := ⟨_, rfl⟩
  rw [← hp] at KO ⊢
  rw [← hq] at K1 ⊢
  clear hp hq
  obtain ⟨a, c, b, d, rfl, rfl⟩ := h.form
  have B := hid (below_new' (w := w) (o := .cells #[.bool s, .slice a A.length c, .slice b D.length d] 27))
  have LX := hid (LocA.at (T := 27) (w := w) (b := w.heap.size) (cs := #[.bool s, .slice a A.length c, .slice b D.length d]) rfl)
  have H := hid (h.old B.out)
  clear h
  generalize hW : w.alloc (.cells #[.bool s, .slice a A.length c, .slice b D.length d] 27) = W0 at B LX H
  have HW := hid hW
  clear hW
  cases p with
  | false =>
    go_enter Tryz.func15, Tryz.ntmps15
    go_wp2_with fail
    rw [HW.out]
    (with_reducible refine (KO.out _ H.out).mono ?_)
    rintro e w1 ⟨rfl, hb⟩
    have B := hid (B.out.trans (hb.mono B.out.size))
    clear hb
    go_wp2
    go_ret
    exact ⟨rfl, B.out⟩
  | true =>
    go_enter Tryz.func15, Tryz.ntmps15
    go_wp2_with fail
    rw [HW.out]
    (with_reducible refine (KO.out _ H.out).mono ?_)
    rintro e w1 ⟨rfl, hb⟩
    have LX := hid (LX.out.old hb)
    have H := hid (H.out.old hb)
    have B := hid (B.out.trans (hb.mono B.out.size))
    obtain ⟨bx, ix⟩ := H.out.d
    have q0 := LX.out.c 2 (v := .slice b D.length d) rfl
    clear hb
    go_wp2_with fail
    (with_reducible refine (K1.out _ _ ix).mono ?_)
    rintro e w2 ⟨rfl, rfl⟩
    clear q0 ix
    go_wp2
    go_ret
    exact ⟨ret_bo (by simp), B.out⟩
end Go.Proofs.YtookglpeieennaaGreat
