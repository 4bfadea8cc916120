/- The program: floors, the ways of rounding. -/
import Derived.Test.YtookglpeieennaaGreatRo
import Derived.Test.YtookglpeieennaaGreatFe
import Derived.Test.YtookglpeieennaaGreatFdm
import Derived.Deep.RegionHeld3
import Derived.Deep.DeepCutAuto
namespace Go.Proofs.YtookglpeieennaaGreat
open Go.RowKit
open Go.Lib (hid)
set_option linter.unusedVariables false

/-- A call gives the floor of x, as an integer, and a rest. -/
def FloP (x : Rat) (w : World) (e : Ending) (w' : World) : Prop := ∃ a n c b m d, e = .returned (.tuple #[.agg #[.bool (gzs x.floor), .slice a n c], .slice b m d]) ∧ Ints w' w.heap.size (.slice a n c) (gzl x.floor) ∧ Below w.heap.size w w'
theorem fdQ_floor {s : Bool} {A D : List Int} {x : Rat} (h : rval s A D = some x) : fdQ s A D = x.floor := by
  have hr : rok s A D = true := by rw [rok_isSome, h]; rfl
  obtain ⟨y, e, n1, d1, -⟩ := rval_yes hr
  rw [h] at e
  cases e
  obtain ⟨k1, k2, k3, -⟩ := rok_iff.1 hr
  rw [Rat.floor_def, n1, d1]
  have hb : fdB s A D = true := by
    unfold fdB
    simp [k1, k2]
    intro e
    subst e
    simp at k3
  unfold fdQ
  rw [if_pos hb]
theorem RetB_mk {v : Value} {w w' : World} (h : Below w.heap.size w w') : RetB v w (.returned v) w' := ⟨rfl, h⟩
theorem fldiv_x {w : World} {s : Bool} {v u : Value} {x : Rat} (h : RA w s v u (some x)) : Calls Tryz.prog 133 #[.agg #[.bool s, v], u] w (FloP x w) := by
  obtain ⟨A, D, r, e⟩ := h
  have hA := r.la
  have hD := r.ld
  obtain ⟨b1, i1⟩ := r.a
  obtain ⟨b2, i2⟩ := r.d
  refine (impl_BigIntFloorDiv s v u A D (by omega) (by omega) b1 b2 w i1 i2).mono ?_
  rintro e2 w' ⟨v', u', rfl, j1, j2, -, hb⟩
  rw [fdQ_floor e] at j1 ⊢
  obtain ⟨a, c, rfl, -⟩ := Ints_form j1
  obtain ⟨b, d, rfl, -⟩ := Ints_form j2
  exact ⟨a, _, c, b, _, d, rfl, j1, hb⟩
theorem sfldiv_x {w : World} {s : Bool} {v u : Value} {x : Rat} (h : RA w s v u (some x)) : Calls Tryz.prog 149 #[.agg #[.bool s, v], u] w (FloP x w) := by
  obtain ⟨A, D, r, e⟩ := h
  have hA := r.la
  have hD := r.ld
  obtain ⟨b1, i1⟩ := r.a
  obtain ⟨b2, i2⟩ := r.d
  refine (spec_BigIntFloorDiv s v u A D (by omega) (by omega) b1 b2 w i1 i2).mono ?_
  rintro e2 w' ⟨v', u', rfl, j1, j2, hb⟩
  rw [fdQ_floor e] at j1 ⊢
  obtain ⟨a, c, rfl, -⟩ := Ints_form j1
  obtain ⟨b, d, rfl, -⟩ := Ints_form j2
  exact ⟨a, _, c, b, _, d, rfl, j1, hb⟩
theorem RO_floor {p : Bool} {x : Rat} {w : World} {lo : Nat} {v u : Value} (hf : fit x) (h1 : Ints w lo v (gzl x.floor)) (h2 : Ints w lo u (rep (1 : Int).toNat)) (nd : ∀ k, v.ownBlock = some k → u.ownBlock ≠ some k) : RO p w lo (gzs x.floor) v u (floorO (some x)) :=
  ⟨rfl, h1, by rw [← gzl_one] at h2; exact h2, fun _ => nd, fitO_some (fit_fl hf)⟩
set_option maxRecDepth 100000 in
set_option maxHeartbeats 12800000 in
theorem floorOf_o_w {s : Bool} {a : Option Addr} {n c : Nat} {b : Option Addr} {m d : Nat} {o : Option Rat}  (w : World) (h : RA w s (.slice a n c) (.slice b m d) o) :
    Calls Tryz.prog 97 #[.agg #[.bool s, .slice a n c, .slice b m d]] w (RatO true (floorO o) w) := by
  obtain ⟨Q, hQ⟩ : ∃ Q, Q = RatO true (floorO o) w := ⟨_, rfl⟩
  rw [← hQ]
  have HQ := hid hQ
  clear hQ
  have B := hid (show Below w.heap.size w ((w.alloc (.cells #[.bool s, .slice a n c, .slice b m d] 27)).alloc (.cells #[.bool false, .slice none 0 0, .slice none 0 0] 27)) from ((Below.refl _ _).alloc (Nat.le_refl _) _).alloc (by simp) _)
  have LX := hid (show LocA 27 ((w.alloc (.cells #[.bool s, .slice a n c, .slice b m d] 27)).alloc (.cells #[.bool false, .slice none 0 0, .slice none 0 0] 27)) (w.heap.size) #[.bool s, .slice a n c, .slice b m d] from (LocA.at (by simp)).new1)
  have LR := hid (show LocA 27 ((w.alloc (.cells #[.bool s, .slice a n c, .slice b m d] 27)).alloc (.cells #[.bool false, .slice none 0 0, .slice none 0 0] 27)) (w.heap.size + 1) #[.bool false, .slice none 0 0, .slice none 0 0] from LocA.at (by simp))
  have X := hid (h.old B.out)
  clear h
  generalize hW : (w.alloc (.cells #[.bool s, .slice a n c, .slice b m d] 27)).alloc (.cells #[.bool false, .slice none 0 0, .slice none 0 0] 27) = W0 at B X LX LR
  have HW := hid hW
  clear hW
  have hs0 := B.out.size
  have hw0 := LR.out.lt
  cases o with
  | none =>
    go_enter Tryz.func97, Tryz.ntmps97
    have q0 := LX.out.c 0 rfl
    have q1 := LX.out.c 1 rfl
    have q2 := LX.out.c 2 rfl
    go_wp2_with fail
    rw [HW.out]
    (with_reducible refine (ok_none X.out).mono ?_)
    clear q0 q1 q2
    rintro e w1 ⟨rfl, hb⟩
    have LX := hid (LX.out.old hb)
    have LR := hid (LR.out.old hb)
    have X := hid (X.out.old hb)
    have B := hid (B.out.trans (hb.mono B.out.size))
    clear hb
    have f0 := LR.out.f 0
    have f1 := LR.out.f 1
    have f2 := LR.out.f 2
    have p0 := LR.out.c 0 rfl
    have p1 := LR.out.c 1 rfl
    have p2 := LR.out.c 2 rfl
    have R := hid (q_of HQ.out (RO.out (w := w) (N := w.heap.size + 1) (RO_none (w := _) (lo := w.heap.size)) (Nat.le_refl _) (by omega) LR.out (by decide) B.out))
    go_wp2
    exact bodyPost_ret (v := .agg #[.bool false, .slice none 0 0, .slice none 0 0]) (by simp [results, Tryz.results97, go_sem, p0, p1, p2]) rfl R.out
  | some x =>
    go_enter Tryz.func97, Tryz.ntmps97
    have q0 := LX.out.c 0 rfl
    have q1 := LX.out.c 1 rfl
    have q2 := LX.out.c 2 rfl
    go_wp2_with fail
    rw [HW.out]
    (with_reducible refine (ok_some X.out).mono ?_)
    clear q0 q1 q2
    rintro e w1 ⟨rfl, hb⟩
    have LX := hid (LX.out.old hb)
    have LR := hid (LR.out.old hb)
    have X := hid (X.out.old hb)
    have B := hid (B.out.trans (hb.mono B.out.size))
    clear hb
    have q0 := LX.out.c 0 rfl
    have q1 := LX.out.c 1 rfl
    have q2 := LX.out.c 2 rfl
    go_wp2_with fail
    (with_reducible refine (fldiv_x X.out).mono ?_)
    clear q0 q1 q2
    rintro e w2 ⟨a2, n2, c2, b2, m2, d2, rfl, hi, hb⟩
    have J := hid (Ints_base hi B.out.size)
    have LX := hid (LX.out.old hb)
    have LR := hid (LR.out.old hb)
    have X := hid (X.out.old hb)
    have B := hid (B.out.trans (hb.mono B.out.size))
    obtain ⟨gf, hgf⟩ : ∃ z, z = gzs x.floor := ⟨_, rfl⟩
    have HGF := hid hgf
    rw [← hgf]
    clear hi hb hgf
    have hf := hid (X.out.fitO x rfl)
    have hnq := LR.out.lt
    have LX := hid (LX.out.old (below_new' (o := .cells #[.bool gf, .slice a2 n2 c2] 25)))
    have LR := hid (LR.out.old (below_new' (o := .cells #[.bool gf, .slice a2 n2 c2] 25)))
    have X := hid (X.out.old (below_new' (o := .cells #[.bool gf, .slice a2 n2 c2] 25)))
    have J := hid (Ints_old J.out (below_new' (o := .cells #[.bool gf, .slice a2 n2 c2] 25)))
    have B := hid (B.out.alloc B.out.size (.cells #[.bool gf, .slice a2 n2 c2] 25))
    have LQ := hid (LocA.new (w := w2) (T := 25) (cs := #[.bool gf, .slice a2 n2 c2]))
    go_wp2_with fail
    have LX := hid (LX.out.old (Below_drew1 (Below.refl _ _)))
    have LR := hid (LR.out.old (Below_drew1 (Below.refl _ _)))
    have X := hid (X.out.old (Below_drew1 (Below.refl _ _)))
    have LQ := hid (LQ.out.old (Below_drew1 (Below.refl _ _)))
    have J := hid (Ints_old J.out (Below_drew1 (Below.refl _ _)))
    have B := hid (Below_drew1 B.out)
    have hlq := LQ.out.lt
    have q0 := LQ.out.c 0 rfl
    have q1 := LQ.out.c 1 rfl
    go_region_held3 (fun w' => w'.cell? ⟨w2.heap.size, 0, none⟩ = some (.bool gf) ∧ w'.cell? ⟨w2.heap.size, 1, none⟩ = some (.slice a2 n2 c2)) (first | exact ⟨q0, q1⟩ | exact ⟨(cell_set3 (by omega)).trans q0, (cell_set3 (by omega)).trans q1⟩ | go_keep) (first | (go_at_call 45; (with_reducible refine (impl_NatOf 1 (by decide) _).mono ?_); rintro e w3 ⟨v3, rfl, hj, hb⟩; have ND := hid (apart_of J.out hj (Nat.le_refl _)); have J := hid (Ints_old J.out hb); have J2 := hid (Ints_base hj B.out.size); have LX := hid (LX.out.old hb); have LR := hid (LR.out.old hb); have X := hid (X.out.old hb); have LQ := hid (LQ.out.old hb); have B := hid (B.out.trans (hb.mono B.out.size)); obtain ⟨b3, d3, rfl, -⟩ := Ints_form hj; have RF := hid (RO_floor (p := true) hf.out J.out J2.out ND.out); rw [← HGF.out] at RF; clear hb hj; have f0 := LR.out.f 0; have f1 := LR.out.f 1; have f2 := LR.out.f 2; have p0 := LR.out.c 0 rfl; have p1 := LR.out.c 1 rfl; have p2 := LR.out.c 2 rfl; have R := hid (q_of HQ.out (RO.out (w := w) (N := w.heap.size + 1) RF.out (Nat.le_refl _) (by omega) LR.out (by decide) B.out)); have q0 := LQ.out.c 0 rfl; have q1 := LQ.out.c 1 rfl))
    clear q0 q1
    go_wp2
    exact bodyPost_ret (v := .agg #[.bool gf, .slice a2 n2 c2, .slice b3 _ d3]) (by simp [results, Tryz.results97, go_sem, p0, p1, p2]) rfl R.out
theorem floorOf_o {w : World} {s : Bool} {v u : Value} {o : Option Rat}  (h : RA w s v u o) : Calls Tryz.prog 97 #[.agg #[.bool s, v, u]] w (RatO true (floorO o) w) := by
  obtain ⟨a, n, c, b, m, d, rfl, rfl⟩ := h.form
  exact floorOf_o_w  w h
set_option maxRecDepth 100000 in
set_option maxHeartbeats 3200000 in
theorem unchanged_any {s : Bool} {a : Option Addr} {n c : Nat} {b : Option Addr} {m d : Nat} (w : World) :
    Calls Tryz.prog 131 #[.agg #[.bool s, .slice a n c, .slice b m d]] w (RetB (.agg #[.bool s, .slice a n c, .slice b m d]) w) := by
  have B := hid (show Below w.heap.size w ((w.alloc (.cells #[.bool s, .slice a n c, .slice b m d] 27)).alloc (.cells #[.bool false, .slice none 0 0, .slice none 0 0] 27)) from ((Below.refl _ _).alloc (Nat.le_refl _) _).alloc (by simp) _)
  have LR := hid (show LocA 27 ((w.alloc (.cells #[.bool s, .slice a n c, .slice b m d] 27)).alloc (.cells #[.bool false, .slice none 0 0, .slice none 0 0] 27)) (w.heap.size + 1) #[.bool false, .slice none 0 0, .slice none 0 0] from LocA.at (by simp))
  have f0 := LR.out.f 0
  have f1 := LR.out.f 1
  have f2 := LR.out.f 2
  have p0 := LR.out.c 0 rfl
  have p1 := LR.out.c 1 rfl
  have p2 := LR.out.c 2 rfl
  go_enter Tryz.func131, Tryz.ntmps131
  go_wp2
  refine bodyPost_ret (v := .agg #[.bool s, .slice a n c, .slice b m d]) (by simp [results, Tryz.results131, go_sem]) rfl ⟨rfl, ?_⟩
  exact ((Below.refl _ _).alloc (Nat.le_refl _) _).alloc (by simp) _
set_option maxRecDepth 100000 in
set_option maxHeartbeats 3200000 in
theorem roundings_any (w : World) : Calls Tryz.prog 96 #[] w (RetB (.agg #[.func (.func 131) #[] #[], .func (.func 131) #[] #[], .func (.func 23) #[] #[], .func (.func 23) #[] #[], .func (.func 132) #[] #[], .func (.func 131) #[] #[]]) w) := by
  have hsf : ∀ (fn : Fn) (first cap : Array Value) (a : Addr) (m : Mode) (w : World), (store a (.func fn first cap) m).run Tryz.prog w = stored Tryz.prog w a (.func fn first cap) m := fun _ _ _ _ _ _ => run_store _ _ _ _ _ rfl
  go_enter Tryz.func96, Tryz.ntmps96
  go_wp2
  exact bodyPost_ret (v := .agg #[.func (.func 131) #[] #[], .func (.func 131) #[] #[], .func (.func 23) #[] #[], .func (.func 23) #[] #[], .func (.func 132) #[] #[], .func (.func 131) #[] #[]]) (by simp [results, Tryz.results96, go_sem]) rfl (RetB_mk ((Below.refl _ _).alloc (Nat.le_refl _) _))
set_option maxRecDepth 100000 in
set_option maxHeartbeats 12800000 in
theorem half_o_w {s : Bool} {a : Option Addr} {n c : Nat} {b : Option Addr} {m d : Nat} {o : Option Rat}  (w : World) (h : RA w s (.slice a n c) (.slice b m d) o) :
    Calls Tryz.prog 132 #[.agg #[.bool s, .slice a n c, .slice b m d]] w (RatO true (bq addF o (mkFr 1 2)) w) := by
  obtain ⟨Q, hQ⟩ : ∃ Q, Q = RatO true (bq addF o (mkFr 1 2)) w := ⟨_, rfl⟩
  rw [← hQ]
  have HQ := hid hQ
  clear hQ
  have B := hid (show Below w.heap.size w ((w.alloc (.cells #[.bool s, .slice a n c, .slice b m d] 27)).alloc (.cells #[.bool false, .slice none 0 0, .slice none 0 0] 27)) from ((Below.refl _ _).alloc (Nat.le_refl _) _).alloc (by simp) _)
  have LX := hid (show LocA 27 ((w.alloc (.cells #[.bool s, .slice a n c, .slice b m d] 27)).alloc (.cells #[.bool false, .slice none 0 0, .slice none 0 0] 27)) (w.heap.size) #[.bool s, .slice a n c, .slice b m d] from (LocA.at (by simp)).new1)
  have LR := hid (show LocA 27 ((w.alloc (.cells #[.bool s, .slice a n c, .slice b m d] 27)).alloc (.cells #[.bool false, .slice none 0 0, .slice none 0 0] 27)) (w.heap.size + 1) #[.bool false, .slice none 0 0, .slice none 0 0] from LocA.at (by simp))
  have X := hid (h.old B.out)
  clear h
  generalize hW : (w.alloc (.cells #[.bool s, .slice a n c, .slice b m d] 27)).alloc (.cells #[.bool false, .slice none 0 0, .slice none 0 0] 27) = W0 at B X LX LR
  have HW := hid hW
  clear hW
  have hs0 := B.out.size
  have hw0 := LR.out.lt
  go_enter Tryz.func132, Tryz.ntmps132
  go_wp2_with fail
  rw [HW.out]
  have LX := hid (LX.out.old (Below_drew1 (Below.refl _ _)))
  have LR := hid (LR.out.old (Below_drew1 (Below.refl _ _)))
  have X := hid (X.out.old (Below_drew1 (Below.refl _ _)))
  have B := hid (Below_drew1 B.out)
  have q0 := LX.out.c 0 rfl
  have q1 := LX.out.c 1 rfl
  have q2 := LX.out.c 2 rfl
  have hlX := LX.out.lt
  go_region_held3 (fun w' => w'.cell? ⟨w.heap.size, 0, none⟩ = some (.bool s) ∧ w'.cell? ⟨w.heap.size, 1, none⟩ = some (.slice a n c) ∧ w'.cell? ⟨w.heap.size, 2, none⟩ = some (.slice b m d)) (first | exact ⟨q0, q1, q2⟩ | exact ⟨(cell_set3 (by omega)).trans q0, (cell_set3 (by omega)).trans q1, (cell_set3 (by omega)).trans q2⟩ | go_keep) (first | (go_at_call 22; (with_reducible refine (of_o 1 2 (by decide) (by decide) (by decide) (by decide) _).mono ?_); rintro e w1 ⟨s1, a1, n1, c1, b1, m1, d1, rfl, hr, hb⟩; have H := hid (hr.base B.out.size); have LX := hid (LX.out.old hb); have LR := hid (LR.out.old hb); have X := hid (X.out.old hb); have B := hid (B.out.trans (hb.mono B.out.size)); clear hr hb; have q0 := LX.out.c 0 rfl; have q1 := LX.out.c 1 rfl; have q2 := LX.out.c 2 rfl) | (go_at_call 21; (with_reducible refine (add_o X.out H.out.ra).mono ?_); rintro e w2 ⟨s2, a2, n2, c2, b2, m2, d2, rfl, hr, hb⟩; have S := hid (hr.base B.out.size); have LX := hid (LX.out.old hb); have LR := hid (LR.out.old hb); have X := hid (X.out.old hb); have H := hid (H.out.old hb); have B := hid (B.out.trans (hb.mono B.out.size)); clear hr hb; have q0 := LX.out.c 0 rfl; have q1 := LX.out.c 1 rfl; have q2 := LX.out.c 2 rfl; have f0 := LR.out.f 0; have f1 := LR.out.f 1; have f2 := LR.out.f 2; have p0 := LR.out.c 0 rfl; have p1 := LR.out.c 1 rfl; have p2 := LR.out.c 2 rfl; have R := hid (q_of HQ.out (RO.out (w := w) (N := w.heap.size + 1) S.out (Nat.le_refl _) (by omega) LR.out (by decide) B.out))))
  clear q0 q1 q2
  go_wp2
  exact bodyPost_ret (v := .agg #[.bool s2, .slice a2 n2 c2, .slice b2 m2 d2]) (by simp [results, Tryz.results132, go_sem, p0, p1, p2]) rfl R.out
theorem half_o {w : World} {s : Bool} {v u : Value} {o : Option Rat}  (h : RA w s v u o) : Calls Tryz.prog 132 #[.agg #[.bool s, v, u]] w (RatO true (bq addF o (mkFr 1 2)) w) := by
  obtain ⟨a, n, c, b, m, d, rfl, rfl⟩ := h.form
  exact half_o_w  w h
end Go.Proofs.YtookglpeieennaaGreat
