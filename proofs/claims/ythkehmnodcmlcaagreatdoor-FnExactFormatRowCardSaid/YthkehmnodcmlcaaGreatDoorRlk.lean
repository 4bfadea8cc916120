/- The law FormatRow. -/
import Derived.Test.YthkehmnodcmlcaaGreatDoorRft
import Derived.Test.YthkehmnodcmlcaaGreatDoorTlt
import Derived.Deep.RegionHeld3
import Derived.Deep.DeepCutAuto
namespace Go.Proofs.YthkehmnodcmlcaaGreatDoor
open Go.RowKit
open Go.Lib (hid)
set_option linter.unusedVariables false

/-- Names that came in. -/
structure NmC (w : World) (a : Option Addr) (n : Nat) (N : List ByteArray) : Prop where
  row : RowO w a n N
theorem NmC.old {w w' : World} {a : Option Addr} {n : Nat} {N : List ByteArray} (h : NmC w a n N) (hb : Below w.heap.size w w') : NmC w' a n N := ⟨RowO_below h.row hb⟩
theorem NmS.row {w : World} {g : Nat} {N : List ByteArray} (h : NmS w g N) : Row w (some ⟨g, 0, none⟩) N.length N := ⟨rfl, fun _ => ⟨g, rfl, fun _ hi => h.c _ hi⟩⟩
set_option maxRecDepth 100000 in
set_option maxHeartbeats 25600000 in
theorem law_FormatRow (a : Option Addr) (n c : Nat) (K : List Tq) (x : Int) (s : Bool) (b : Option Addr) (m d : Nat) (A : List Int) (e : Option Addr) (k f : Nat) (D : List Int) (hnK : n ≤ maxLen) (hmK : ∀ f ∈ K, f.A.length ≤ maxLen ∧ f.D.length ≤ maxLen) (hAK : m ≤ maxLen) (hDK : k ≤ maxLen) (aN : Option Addr) (nN cN : Nat) (N : List ByteArray) (hnN : nN ≤ maxLen) (hmN : ∀ x ∈ N, x.size ≤ maxLen) (w : World) (rK : WCame w w.heap.size a n K b m A e k D) (rN : RowO w aN nN N) (hp : Pow10 w) :
    Calls Tryz.prog 3 #[.agg #[.slice a n c, .int .i64 x, .bool s, .slice b m d, .slice e k f], .slice aN nN cN] w (RetB (.bool true) w) := by
  obtain rfl := rK.r.x.1
  obtain rfl := rK.r.y.1
  have BW := below_new' (w := w) (o := .cells #[.slice a n c, .int .i64 x, .bool s, .slice b A.length d, .slice e D.length f] 29)
  have B := hid BW
  have rK := hid (rK.old BW)
  have rN := hid (NmC.old (NmC.mk rN) BW)
  have PP := hid (hp.old BW)
  have LK := hid (LocA.new (w := w) (T := 29) (cs := #[.slice a n c, .int .i64 x, .bool s, .slice b A.length d, .slice e D.length f]))
  have hs0 : (w.alloc (.cells #[.slice a n c, .int .i64 x, .bool s, .slice b A.length d, .slice e D.length f] 29)).heap.size = w.heap.size + 1 := by simp
  clear BW
  generalize hW : w.alloc (.cells #[.slice a n c, .int .i64 x, .bool s, .slice b A.length d, .slice e D.length f] 29) = w0 at B rK rN PP LK hs0
  have HW := hid hW
  clear hW
  by_cases hsK : (szU K : Int) + (A.length : Int) + (D.length : Int) ≤ 1048576
  case neg =>
    go_enter Tryz.func3, Tryz.ntmps3
    have q0 := LK.out.c 0 (v := .slice a n c) rfl
    have q1 := LK.out.c 1 (v := .int .i64 x) rfl
    have q2 := LK.out.c 2 (v := .bool s) rfl
    have q3 := LK.out.c 3 (v := .slice b A.length d) rfl
    have q4 := LK.out.c 4 (v := .slice e D.length f) rfl
    go_wp2_with fail
    rw [HW.out]
    (with_reducible refine (szRow_no _ _ _ x s _ _ _ _ _ _ _ K (1048576) hnK hmK hAK hDK (by omega) (by omega) (by omega) _ rK.out.t).mono ?_)
    clear q0 q1 q2 q3 q4
    rintro e w1 ⟨rfl, b1⟩
    have t1 : w0.heap.size ≤ w1.heap.size := by have := b1.size; omega
    have rK := hid (rK.out.old b1)
    have rN := hid (rN.out.old b1)
    have PP := hid (PP.out.old b1)
    have LK := hid (LK.out.old b1)
    have B := hid (B.out.trans (b1.mono B.out.size))
    clear b1
    go_wp2
    go_ret
    exact ⟨rfl, B.out⟩
  have hztK := szT_szU K
  have hSK : SmT K := SmT.of (by omega)
  have huK : szU K ≤ 1048576 := by omega
  have htK : szT K ≤ 2097152 := by omega
  have haK : A.length ≤ 1048576 := by omega
  have hdK : D.length ≤ 1048576 := by omega
  have hy0 : ¬ 1048576 - (szU K : Int) - (A.length : Int) - (D.length : Int) < 0 := by omega
  go_enter Tryz.func3, Tryz.ntmps3
  have q0 := LK.out.c 0 (v := .slice a n c) rfl
  have q1 := LK.out.c 1 (v := .int .i64 x) rfl
  have q2 := LK.out.c 2 (v := .bool s) rfl
  have q3 := LK.out.c 3 (v := .slice b A.length d) rfl
  have q4 := LK.out.c 4 (v := .slice e D.length f) rfl
  go_wp2_with fail
  rw [HW.out]
  (with_reducible refine (szRow_yes _ _ _ x s _ _ _ _ _ _ _ K (1048576) (by omega) (by omega) _ rK.out.t).mono ?_)
  clear q0 q1 q2 q3 q4
  rintro e w1 ⟨rfl, b1⟩
  have t1 : w0.heap.size ≤ w1.heap.size := by have := b1.size; omega
  have rK := hid (rK.out.old b1)
  have rN := hid (rN.out.old b1)
  have PP := hid (PP.out.old b1)
  have LK := hid (LK.out.old b1)
  have B := hid (B.out.trans (b1.mono B.out.size))
  clear b1
  have KZ := hid (szStringS_z (1048576 - (szU K : Int) - (A.length : Int) - (D.length : Int)) (by omega) (by omega) aN nN cN N w1 rN.out.row hnN hmN)
  go_wp2_with fail
  (with_reducible refine (KZ.out).mono ?_)
  rintro e w2 ⟨r, rfl, hr2, rfl⟩
  clear KZ
  by_cases h2 : r < 0
  · clear hr2
    go_wp2
    go_ret
    exact ⟨rfl, B.out⟩
  obtain ⟨hs, hL⟩ := hr2 (by omega)
  have hNs : ∀ x ∈ N, x.size ≤ 1048576 := fun x hx => by have := sumSz_mem hx; omega
  have HNs := hid hNs
  clear hr2 hNs
  obtain ⟨RR, hRR⟩ : ∃ RR, RR = fmtW K x s A D N := ⟨_, rfl⟩
  have HRR := hid hRR
  clear hRR
  have q0 := LK.out.c 0 (v := .slice a n c) rfl
  have q1 := LK.out.c 1 (v := .int .i64 x) rfl
  have q2 := LK.out.c 2 (v := .bool s) rfl
  have q3 := LK.out.c 3 (v := .slice b A.length d) rfl
  have q4 := LK.out.c 4 (v := .slice e D.length f) rfl
  go_wp2_with fail
  (with_reducible refine (toRow_came _ _ _ x s _ _ _ _ _ _ _ K A D huK haK hdK _ rK.out).mono ?_)
  clear q0 q1 q2 q3 q4
  rintro e w2 ⟨a2, c2, b2, d2, g2, f2, m2, rfl, i1, b1⟩
  have t2 : w1.heap.size ≤ w2.heap.size := by have := b1.size; omega
  have rK := hid (rK.out.old b1)
  have rN := hid (rN.out.old b1)
  have PP := hid (PP.out.old b1)
  have LK := hid (LK.out.old b1)
  have B := hid (B.out.trans (b1.mono B.out.size))
  have T0 := hid i1
  clear i1 b1
  go_wp2_with fail
  (with_reducible refine (toStringS_any aN nN cN N _ rN.out.row hL).mono ?_)
  rintro e w3 ⟨g3, d3, rfl, hg3, hz3, hS3, b1⟩
  have t3 : w2.heap.size ≤ w3.heap.size := by have := b1.size; omega
  have rK := hid (rK.out.old b1)
  have rN := hid (rN.out.old b1)
  have PP := hid (PP.out.old b1)
  have LK := hid (LK.out.old b1)
  have T0 := hid (T0.out.old b1)
  have B := hid (B.out.trans (b1.mono B.out.size))
  have TN := hid (NmS.mk hz3 (fun i hi => Strs_cell hS3 hi))
  clear hg3 hz3 hS3 b1
  have KR := hid (spec_FormatRow (cN := d3) x s hSK haK hdK hL HNs.out w3 T0.out.w TN.out)
  rw [← HRR.out] at KR
  go_wp2_with fail
  (with_reducible refine (KR.out).mono ?_)
  rintro e w4 ⟨rfl, b1⟩
  have t4 : w3.heap.size ≤ w4.heap.size := by have := b1.size; omega
  have rK := hid (rK.out.old b1)
  have rN := hid (rN.out.old b1)
  have PP := hid (PP.out.old b1)
  have LK := hid (LK.out.old b1)
  have T0 := hid (T0.out.old b1)
  have TN := hid (TN.out.old b1)
  have B := hid (B.out.trans (b1.mono B.out.size))
  clear b1
  clear KR
  have q0 := LK.out.c 0 (v := .slice a n c) rfl
  have q1 := LK.out.c 1 (v := .int .i64 x) rfl
  have q2 := LK.out.c 2 (v := .bool s) rfl
  have q3 := LK.out.c 3 (v := .slice b A.length d) rfl
  have q4 := LK.out.c 4 (v := .slice e D.length f) rfl
  go_wp2_with fail
  (with_reducible refine (toRow_came _ _ _ x s _ _ _ _ _ _ _ K A D huK haK hdK _ rK.out).mono ?_)
  clear q0 q1 q2 q3 q4
  rintro e w5 ⟨a5, c5, b5, d5, g5, f5, m5, rfl, i1, b1⟩
  have t5 : w4.heap.size ≤ w5.heap.size := by have := b1.size; omega
  have rK := hid (rK.out.old b1)
  have rN := hid (rN.out.old b1)
  have PP := hid (PP.out.old b1)
  have LK := hid (LK.out.old b1)
  have B := hid (B.out.trans (b1.mono B.out.size))
  have X0 := hid i1
  clear i1 b1
  have rK := hid (rK.out.old (below_new' (o := .cells #[.slice a5 K.length c5, .int .i64 x, .bool s, .slice b5 A.length d5, .slice g5 D.length f5] 39)))
  have rN := hid (rN.out.old (below_new' (o := .cells #[.slice a5 K.length c5, .int .i64 x, .bool s, .slice b5 A.length d5, .slice g5 D.length f5] 39)))
  have PP := hid (PP.out.old (below_new' (o := .cells #[.slice a5 K.length c5, .int .i64 x, .bool s, .slice b5 A.length d5, .slice g5 D.length f5] 39)))
  have LK := hid (LK.out.old (below_new' (o := .cells #[.slice a5 K.length c5, .int .i64 x, .bool s, .slice b5 A.length d5, .slice g5 D.length f5] 39)))
  have X0 := hid (X0.out.old (below_new' (o := .cells #[.slice a5 K.length c5, .int .i64 x, .bool s, .slice b5 A.length d5, .slice g5 D.length f5] 39)))
  have B := hid (B.out.alloc B.out.size (.cells #[.slice a5 K.length c5, .int .i64 x, .bool s, .slice b5 A.length d5, .slice g5 D.length f5] 39))
  have LX0 := hid (LocA.new (w := w5) (T := 39) (cs := #[.slice a5 K.length c5, .int .i64 x, .bool s, .slice b5 A.length d5, .slice g5 D.length f5]))
  have hs5 : (w5.alloc (.cells #[.slice a5 K.length c5, .int .i64 x, .bool s, .slice b5 A.length d5, .slice g5 D.length f5] 39)).heap.size = w5.heap.size + 1 := by simp
  go_wp2_with fail
  (with_reducible refine (toStringS_any aN nN cN N _ rN.out.row hL).mono ?_)
  rintro e w6 ⟨g6, d6, rfl, hg6, hz6, hS6, b1⟩
  have t6 : w5.heap.size + 1 ≤ w6.heap.size := by have := b1.size; simp at this; omega
  have rK := hid (rK.out.old b1)
  have rN := hid (rN.out.old b1)
  have PP := hid (PP.out.old b1)
  have LK := hid (LK.out.old b1)
  have X0 := hid (X0.out.old b1)
  have LX0 := hid (LX0.out.old b1)
  have B := hid (B.out.trans (b1.mono B.out.size))
  have XN := hid (NmS.mk hz6 (fun i hi => Strs_cell hS6 hi))
  clear hg6 hz6 hS6 b1
  have KR := hid (fun (W : World) (g1 : RwW W (.slice a5 K.length c5) (.slice b5 A.length d5) (.slice g5 D.length f5) K A D) (g2 : NmS W g6 N) (hp : Pow10 W) => (by
    have h := impl_FormatRow (cN := d6) x s hSK haK hdK hL HNs.out W g1 g2 hp
    rw [← HRR.out] at h
    exact h : Calls Tryz.prog 11 #[.agg #[.slice a5 K.length c5, .int .i64 x, .bool s, .slice b5 A.length d5, .slice g5 D.length f5], .slice (some ⟨g6, 0, none⟩) N.length d6] W (StrP RR W)))
  have q0 := LX0.out.c 0 (v := .slice a5 K.length c5) rfl
  have q1 := LX0.out.c 1 (v := .int .i64 x) rfl
  have q2 := LX0.out.c 2 (v := .bool s) rfl
  have q3 := LX0.out.c 3 (v := .slice b5 A.length d5) rfl
  have q4 := LX0.out.c 4 (v := .slice g5 D.length f5) rfl
  go_wp2_with fail
  (with_reducible refine (KR.out _ X0.out.w XN.out PP.out).mono ?_)
  clear q0 q1 q2 q3 q4
  rintro e w7 ⟨rfl, b1⟩
  have t7 : w6.heap.size ≤ w7.heap.size := by have := b1.size; omega
  have rK := hid (rK.out.old b1)
  have rN := hid (rN.out.old b1)
  have PP := hid (PP.out.old b1)
  have LK := hid (LK.out.old b1)
  have X0 := hid (X0.out.old b1)
  have LX0 := hid (LX0.out.old b1)
  have XN := hid (XN.out.old b1)
  have B := hid (B.out.trans (b1.mono B.out.size))
  clear b1
  clear KR
  have rK := hid (rK.out.old (Below_drew1 (Below.refl _ _)))
  have rN := hid (rN.out.old (Below_drew1 (Below.refl _ _)))
  have PP := hid (PP.out.old (Below_drew1 (Below.refl _ _)))
  have LK := hid (LK.out.old (Below_drew1 (Below.refl _ _)))
  have X0 := hid (X0.out.old (Below_drew1 (Below.refl _ _)))
  have LX0 := hid (LX0.out.old (Below_drew1 (Below.refl _ _)))
  have XN := hid (XN.out.old (Below_drew1 (Below.refl _ _)))
  have B := hid (Below_drew1 B.out)
  have q0 := LX0.out.c 0 (v := .slice a5 K.length c5) rfl
  have q1 := LX0.out.c 1 (v := .int .i64 x) rfl
  have q2 := LX0.out.c 2 (v := .bool s) rfl
  have q3 := LX0.out.c 3 (v := .slice b5 A.length d5) rfl
  have q4 := LX0.out.c 4 (v := .slice g5 D.length f5) rfl
  have q5 := LK.out.c 0 (v := .slice a n c) rfl
  have q6 := LK.out.c 1 (v := .int .i64 x) rfl
  have q7 := LK.out.c 2 (v := .bool s) rfl
  have q8 := LK.out.c 3 (v := .slice b A.length d) rfl
  have q9 := LK.out.c 4 (v := .slice e D.length f) rfl
  go_wp2_with fail
  go_region_held3 (fun w' => w'.cell? ⟨w5.heap.size, 0, none⟩ = some (.slice a5 K.length c5) ∧ w'.cell? ⟨w5.heap.size, 1, none⟩ = some (.int .i64 x) ∧ w'.cell? ⟨w5.heap.size, 2, none⟩ = some (.bool s) ∧ w'.cell? ⟨w5.heap.size, 3, none⟩ = some (.slice b5 A.length d5) ∧ w'.cell? ⟨w5.heap.size, 4, none⟩ = some (.slice g5 D.length f5) ∧ w'.cell? ⟨w.heap.size, 0, none⟩ = some (.slice a n c) ∧ w'.cell? ⟨w.heap.size, 1, none⟩ = some (.int .i64 x) ∧ w'.cell? ⟨w.heap.size, 2, none⟩ = some (.bool s) ∧ w'.cell? ⟨w.heap.size, 3, none⟩ = some (.slice b A.length d) ∧ w'.cell? ⟨w.heap.size, 4, none⟩ = some (.slice e D.length f)) (first | exact ⟨q0, q1, q2, q3, q4, q5, q6, q7, q8, q9⟩) (first | (go_at_call 9; (with_reducible refine (toRow_came _ _ _ x s _ _ _ _ _ _ _ K A D huK haK hdK _ rK.out).mono ?_); rintro e w8 ⟨a8, c8, b8, d8, g8, f8, m8, rfl, i1, b1⟩; have t8 : w7.heap.size ≤ w8.heap.size := (by have := b1.size; first | exact this | omega | (simp at this; omega)); have rK := hid (rK.out.old b1); have rN := hid (rN.out.old b1); have PP := hid (PP.out.old b1); have LK := hid (LK.out.old b1); have X0 := hid (X0.out.old b1); have LX0 := hid (LX0.out.old b1); have XN := hid (XN.out.old b1); have B := hid (B.out.trans (b1.mono B.out.size)); have q0 := LX0.out.c 0 (v := .slice a5 K.length c5) rfl; have q1 := LX0.out.c 1 (v := .int .i64 x) rfl; have q2 := LX0.out.c 2 (v := .bool s) rfl; have q3 := LX0.out.c 3 (v := .slice b5 A.length d5) rfl; have q4 := LX0.out.c 4 (v := .slice g5 D.length f5) rfl; have q5 := LK.out.c 0 (v := .slice a n c) rfl; have q6 := LK.out.c 1 (v := .int .i64 x) rfl; have q7 := LK.out.c 2 (v := .bool s) rfl; have q8 := LK.out.c 3 (v := .slice b A.length d) rfl; have q9 := LK.out.c 4 (v := .slice e D.length f) rfl; have T0 := hid i1; clear i1 b1) | (go_at_call 12; (with_reducible refine (eqRow_k x s (by omega) (by omega) (by omega) _ X0.out.w T0.out.w).mono ?_); rintro e w9 ⟨rfl, b1⟩; have t9 : w8.heap.size ≤ w9.heap.size := (by have := b1.size; first | exact this | omega | (simp at this; omega)); have rK := hid (rK.out.old b1); have rN := hid (rN.out.old b1); have PP := hid (PP.out.old b1); have LK := hid (LK.out.old b1); have X0 := hid (X0.out.old b1); have LX0 := hid (LX0.out.old b1); have XN := hid (XN.out.old b1); have T0 := hid (T0.out.old b1); have B := hid (B.out.trans (b1.mono B.out.size)); have q0 := LX0.out.c 0 (v := .slice a5 K.length c5) rfl; have q1 := LX0.out.c 1 (v := .int .i64 x) rfl; have q2 := LX0.out.c 2 (v := .bool s) rfl; have q3 := LX0.out.c 3 (v := .slice b5 A.length d5) rfl; have q4 := LX0.out.c 4 (v := .slice g5 D.length f5) rfl; have q5 := LK.out.c 0 (v := .slice a n c) rfl; have q6 := LK.out.c 1 (v := .int .i64 x) rfl; have q7 := LK.out.c 2 (v := .bool s) rfl; have q8 := LK.out.c 3 (v := .slice b A.length d) rfl; have q9 := LK.out.c 4 (v := .slice e D.length f) rfl; clear b1))
  clear q0 q1 q2 q3 q4 q5 q6 q7 q8 q9
  go_wp2_with fail
  (with_reducible refine (toStringS_any aN nN cN N _ rN.out.row hL).mono ?_)
  rintro e w10 ⟨g10, d10, rfl, hg10, hz10, hS10, b1⟩
  have t10 : w9.heap.size ≤ w10.heap.size := by have := b1.size; omega
  have rK := hid (rK.out.old b1)
  have rN := hid (rN.out.old b1)
  have PP := hid (PP.out.old b1)
  have LK := hid (LK.out.old b1)
  have X0 := hid (X0.out.old b1)
  have LX0 := hid (LX0.out.old b1)
  have XN := hid (XN.out.old b1)
  have B := hid (B.out.trans (b1.mono B.out.size))
  have TN := hid (NmS.mk hz10 (fun i hi => Strs_cell hS10 hi))
  clear hg10 hz10 hS10 b1
  have R4 := hid XN.out.row
  have R6 := hid TN.out.row
  go_wp2_with fail
  (with_reducible refine (eqStringS_same _ _ _ _ _ _ N (by omega) _ R4.out R6.out).mono ?_)
  rintro e w99 ⟨rfl, d7, rfl⟩
  go_wp2
  go_ret
  exact ⟨rfl, below_drewN B.out d7⟩
end Go.Proofs.YthkehmnodcmlcaaGreatDoor
