import Derived.Test.YthkehmnodcmlcaaGreatFrb
import Derived.Test.YthkehmnodcmlcaaGreatSdm
import Derived.Deep.RegionHeld3
import Derived.Test.YthkehmnodcmlcaaGreatWsm
set_option maxRecDepth 100000
set_option maxHeartbeats 12800000
set_option linter.unusedVariables false
set_option linter.unusedSimpArgs false
namespace Go.Proofs.YthkehmnodcmlcaaGreat
open Go.RowKit
open Go.Lib (hid)
theorem l04One_row (a : Option Addr) (c : Nat) (A : List Int) (hA : A.length ≤ 1073741824) (w : World) (r : RowI w a A.length A) :
  Calls Tryz.prog 123 #[.slice a A.length c] w fun e w' => e = .returned (.bool (decide (A = [1]))) ∧ w = w' := by
 by_cases hl : A.length = 1
 ·obtain ⟨x, rfl⟩ := List.length_eq_one_iff.1 hl
  obtain ⟨g, o, rfl, hg, hc⟩ := r.2 (by simp)
  have hc0 := hc 0 (by simp)
  simp only [Nat.add_zero, ka5] at hc0
  clear hc hl r
  by_cases hx : x = 1
  ·subst hx
   go_enter Tryz.func123, Tryz.ntmps123
   go_wp2
   go_ret
   exact ⟨ret_bo (by simp), rfl⟩
  ·have hx' : (x == 1) = false := beq_eq_false_iff_ne.2 hx
   have hd := hid (show false = decide ([x] = [1]) by simp [hx])
   go_enter Tryz.func123, Tryz.ntmps123
   go_wp2
   go_ret
   exact ⟨ret_bo hd.out, rfl⟩
 ·have hl' : ((A.length : Int) == 1) = false := beq_eq_false_iff_ne.2 (by omega)
  have hd := hid (show false = decide (A = [1]) from (decide_eq_false fun e => hl (by rw [e]; rfl)).symm)
  clear hl
  go_enter Tryz.func123, Tryz.ntmps123
  go_wp2
  go_ret
  exact ⟨ret_bo hd.out, rfl⟩
theorem l04One_own (v : Value) (A : List Int) (hA : A.length ≤ 1073741824) (b : Nat) (w : World) (h : Ints w b v A) :
  Calls Tryz.prog 123 #[v] w fun e w' => e = .returned (.bool (decide (A = [1]))) ∧ w = w' := by
 obtain ⟨a, c, rfl, -, r, -⟩ := Ints_form h
 exact l04One_row a c A hA w r
def OwnS (o : Option Rat) (w : World) (e : Ending) (w' : World) : Prop := ∃ v u, e = .returned (.agg #[.bool (gzs (qn o)), v, u]) ∧ Ints w' w.heap.size v (gzl (qn o)) ∧ Ints w' w.heap.size u (gzl (qd o)) ∧ Below w.heap.size w w'
theorem OwnS_out {o : Option Rat} {s : Bool} {A D : List Int} {w w4 : World} {v u : Value} {B C N : Nat} {T : TypeId} (hs : s = gzs (qn o)) (hA : A = gzl (qn o)) (hD : D = gzl (qd o)) (hN : w.heap.size ≤ N) {cs : Array Value} (hL : LocA T w4 N cs) (hT : T ≠ 3) (hB : w.heap.size ≤ B) (hC : w.heap.size ≤ C) (h1 : Ints w4 B v A) (h2 : Ints w4 C u D) (hb : Below w.heap.size w w4) :
  OwnS o w (.returned (.agg #[.bool s, v, u])) (((w4.setCell ⟨N, 0, none⟩ (.bool s)).setCell ⟨N, 1, none⟩ v).setCell ⟨N, 2, none⟩ u) := by
 have n1 := hL.ne hT h1
 have n2 := hL.ne hT h2
 rw [hs]
 rw [hA] at h1
 rw [hD] at h2
 exact ⟨v, u, rfl, Ints_base (Ints_set (Ints_set (Ints_set h1 n1) n1) n1) hB, Ints_base (Ints_set (Ints_set (Ints_set h2 n2) n2) n2) hC, ((hb.setCell hN _).setCell hN _).setCell hN _⟩
theorem OwnS_none {o : Option Rat} {w w' : World} (ho : o = none) (hb : Below w.heap.size w w') : OwnS o w (.returned (.agg #[.bool false, .slice none 0 0, .slice none 0 0])) w' := by
 obtain ⟨v, u, h1, h2, h3, -, h4⟩ := OwnR_none ho hb
 exact ⟨v, u, h1, h2, h3, h4⟩
theorem OwnS_zero {o : Option Rat} {w w4 : World} {N : Nat} (ho : o = none) (hN : w.heap.size ≤ N) (hb : Below w.heap.size w w4) :
  OwnS o w (.returned (.agg #[.bool false, .slice none 0 0, .slice none 0 0])) (((w4.setCell ⟨N, 0, none⟩ (.bool false)).setCell ⟨N, 1, none⟩ (.slice none 0 0)).setCell ⟨N, 2, none⟩ (.slice none 0 0)) :=
 OwnS_none ho (((hb.setCell hN _).setCell hN _).setCell hN _)
theorem spec_RatOk (s : Bool) (v u : Value) (A D : List Int) (w : World) (h : RL w v u A D) :
  Calls Tryz.prog 60 #[.agg #[.bool s, v, u]] w (RetB (.bool (rok s A D)) w) := by
 have hA : A.length ≤ 1073741824 := by have := h.la; omega
 have hD : D.length ≤ 1073741824 := by have := h.ld; omega
 obtain ⟨b1, i1⟩ := h.a
 obtain ⟨b2, i2⟩ := h.d
 have K1 := hid (fun (W : World) (h : Ints W b1 v A) => spec_BigIntOk_own s v A hA b1 W h)
 have K2 := hid (fun (W : World) (h : Ints W b2 u D) => spec_NatOk_own u D hD b2 W h)
 have K3 := hid (fun (nA : nok A = true) (nD : nok D = true) (W : World) (h1 : Ints W b1 v A) (h2 : Ints W b2 u D) => l02Gcd_any v u A D (nok_len nA) (nok_len nD) (nok_iff.1 nA).2 (nok_iff.1 nD).2 b1 b2 W h1 h2)
 obtain ⟨z, hz⟩ : ∃ z, z = rok s A D := ⟨_, rfl⟩
 have HZ := hid hz
 rw [← hz]
 clear hz
 obtain ⟨a, c, b, d, rfl, rfl⟩ := h.form
 have B := hid (show Below w.heap.size w (w.alloc (.cells #[.bool s, .slice a A.length c, .slice b D.length d] 37)) from (Below.refl _ _).alloc (Nat.le_refl _) _)
 have LP := hid (show LocA 37 (w.alloc (.cells #[.bool s, .slice a A.length c, .slice b D.length d] 37)) (w.heap.size) #[.bool s, .slice a A.length c, .slice b D.length d] from (LocA.at (by simp)))
 generalize hW : w.alloc (.cells #[.bool s, .slice a A.length c, .slice b D.length d] 37) = W0 at B LP
 have HW := hid hW
 clear hW
 have hs0 := B.out.size
 have I1 := hid (Ints_old i1 B.out)
 have I2 := hid (Ints_old i2 B.out)
 clear h i1 i2
 obtain ⟨p1, hp1⟩ : ∃ p, p = bok s A := ⟨_, rfl⟩
 rw [← hp1] at K1
 obtain ⟨p2, hp2⟩ : ∃ p, p = nok D := ⟨_, rfl⟩
 rw [← hp2] at K2
 have HR := hid (show rok s A D = (p1 && p2 && decide (0 < D.length) && decide (A.length ≤ 24) && decide (D.length ≤ 24) && decide (G (val A) (val D) = 1)) by rw [hp1, hp2]; rfl)
 have NA := hid (show p1 = true → nok A = true from fun h => (bok_iff.1 (hp1.symm.trans h)).1)
 have ND := hid (show p2 = true → nok D = true from fun h => hp2.symm.trans h)
 clear hp1 hp2
 cases p1 with
 |false =>
  have hE := hid (show z = false by rw [HZ.out, HR.out]; rfl)
  go_enter Tryz.func60, Tryz.ntmps60
  have q0 := LP.out.c 0 rfl
  have q1 := LP.out.c 1 rfl
  go_wp2_with fail
  rw [HW.out]
  (with_reducible refine (K1.out _ I1.out).mono ?_)
  clear q0 q1
  rintro e w1 ⟨rfl, b1⟩
  have B := hid (B.out.trans (b1.mono B.out.size))
  clear b1
  go_wp2
  go_ret
  exact ⟨ret_bo hE.out.symm, B.out⟩
 | true =>
 cases p2 with
 |false =>
  have hE := hid (show z = false by rw [HZ.out, HR.out]; rfl)
  go_enter Tryz.func60, Tryz.ntmps60
  have q0 := LP.out.c 0 rfl
  have q1 := LP.out.c 1 rfl
  go_wp2_with fail
  rw [HW.out]
  (with_reducible refine (K1.out _ I1.out).mono ?_)
  clear q0 q1
  rintro e w1 ⟨rfl, b1⟩
  have I2 := hid (Ints_old I2.out b1)
  have LP := hid (LP.out.old b1)
  have B := hid (B.out.trans (b1.mono B.out.size))
  clear b1
  have q0 := LP.out.c 2 rfl
  go_wp2_with fail
  (with_reducible refine (K2.out _ I2.out).mono ?_)
  clear q0
  rintro e w2 ⟨rfl, b1⟩
  have I2 := hid (Ints_old I2.out b1)
  have LP := hid (LP.out.old b1)
  have B := hid (B.out.trans (b1.mono B.out.size))
  clear b1
  go_wp2
  go_ret
  exact ⟨ret_bo hE.out.symm, B.out⟩
 | true =>
 by_cases hd0 : D.length = 0
 ·skip
  have hE := hid (show z = false by rw [HZ.out, HR.out, decide_eq_false (show ¬ 0 < D.length by omega)]; simp)
  have c0 : ((D.length : Int) == 0) = true := by simp [hd0]
  clear hd0
  go_enter Tryz.func60, Tryz.ntmps60
  have q0 := LP.out.c 0 rfl
  have q1 := LP.out.c 1 rfl
  go_wp2_with fail
  rw [HW.out]
  (with_reducible refine (K1.out _ I1.out).mono ?_)
  clear q0 q1
  rintro e w1 ⟨rfl, b1⟩
  have I2 := hid (Ints_old I2.out b1)
  have LP := hid (LP.out.old b1)
  have I1 := hid (Ints_old I1.out b1)
  have B := hid (B.out.trans (b1.mono B.out.size))
  clear b1
  have q0 := LP.out.c 2 rfl
  go_wp2_with fail
  (with_reducible refine (K2.out _ I2.out).mono ?_)
  clear q0
  rintro e w2 ⟨rfl, b1⟩
  have I2 := hid (Ints_old I2.out b1)
  have LP := hid (LP.out.old b1)
  have I1 := hid (Ints_old I1.out b1)
  have B := hid (B.out.trans (b1.mono B.out.size))
  clear b1
  have q0 := LP.out.c 1 rfl
  have q1 := LP.out.c 2 rfl
  go_wp2
  go_ret
  exact ⟨ret_bo hE.out.symm, B.out⟩
 have c0 : ((D.length : Int) == 0) = false := beq_eq_false_iff_ne.2 (by omega)
 have d0 := decide_eq_true (show 0 < D.length by omega)
 clear hd0
 by_cases hd1 : 24 < (D.length : Int)
 ·skip
  have hE := hid (show z = false by rw [HZ.out, HR.out, decide_eq_false (show ¬ D.length ≤ 24 by omega)]; simp)
  go_enter Tryz.func60, Tryz.ntmps60
  have q0 := LP.out.c 0 rfl
  have q1 := LP.out.c 1 rfl
  go_wp2_with fail
  rw [HW.out]
  (with_reducible refine (K1.out _ I1.out).mono ?_)
  clear q0 q1
  rintro e w1 ⟨rfl, b1⟩
  have I2 := hid (Ints_old I2.out b1)
  have LP := hid (LP.out.old b1)
  have I1 := hid (Ints_old I1.out b1)
  have B := hid (B.out.trans (b1.mono B.out.size))
  clear b1
  have q0 := LP.out.c 2 rfl
  go_wp2_with fail
  (with_reducible refine (K2.out _ I2.out).mono ?_)
  clear q0
  rintro e w2 ⟨rfl, b1⟩
  have I2 := hid (Ints_old I2.out b1)
  have LP := hid (LP.out.old b1)
  have I1 := hid (Ints_old I1.out b1)
  have B := hid (B.out.trans (b1.mono B.out.size))
  clear b1
  have q0 := LP.out.c 1 rfl
  have q1 := LP.out.c 2 rfl
  go_wp2
  go_ret
  exact ⟨ret_bo hE.out.symm, B.out⟩
 have d1 := decide_eq_true (show D.length ≤ 24 by omega)
 by_cases hd2 : 24 < (A.length : Int)
 ·skip
  have hE := hid (show z = false by rw [HZ.out, HR.out, decide_eq_false (show ¬ A.length ≤ 24 by omega)]; simp)
  go_enter Tryz.func60, Tryz.ntmps60
  have q0 := LP.out.c 0 rfl
  have q1 := LP.out.c 1 rfl
  go_wp2_with fail
  rw [HW.out]
  (with_reducible refine (K1.out _ I1.out).mono ?_)
  clear q0 q1
  rintro e w1 ⟨rfl, b1⟩
  have I2 := hid (Ints_old I2.out b1)
  have LP := hid (LP.out.old b1)
  have I1 := hid (Ints_old I1.out b1)
  have B := hid (B.out.trans (b1.mono B.out.size))
  clear b1
  have q0 := LP.out.c 2 rfl
  go_wp2_with fail
  (with_reducible refine (K2.out _ I2.out).mono ?_)
  clear q0
  rintro e w2 ⟨rfl, b1⟩
  have I2 := hid (Ints_old I2.out b1)
  have LP := hid (LP.out.old b1)
  have I1 := hid (Ints_old I1.out b1)
  have B := hid (B.out.trans (b1.mono B.out.size))
  clear b1
  have q0 := LP.out.c 1 rfl
  have q1 := LP.out.c 2 rfl
  go_wp2
  go_ret
  exact ⟨ret_bo hE.out.symm, B.out⟩
 have d2 := decide_eq_true (show A.length ≤ 24 by omega)
 have nA := NA.out (by simp)
 have nD := ND.out (by simp)
 have g0 : 0 ≤ G (val A) (val D) := G_nonneg _ _
 have KG := hid (K3.out nA nD)
 obtain ⟨M, hM⟩ : ∃ M, M = rep (G (val A) (val D)).toNat := ⟨_, rfl⟩
 rw [← hM] at KG
 have lM : M.length ≤ 1073741824 := by rw [hM]; have := rep_len (V := G (val A) (val D)) (G_le (val_nonneg (nok_lim nA)) (val_nonneg (nok_lim nD)) (nok_lt nA) (nok_lt nD)); omega
 have hE := hid (show decide (M = [1]) = z by rw [HZ.out, HR.out, d0, d1, d2, hM]; simp only [Bool.true_and]; exact decide_eq_decide.2 (rep_one.trans (by omega)))
 clear hM d0 d1 d2 g0 nA nD NA ND HR HZ K3
 go_enter Tryz.func60, Tryz.ntmps60
 have q0 := LP.out.c 0 rfl
 have q1 := LP.out.c 1 rfl
 go_wp2_with fail
 rw [HW.out]
 (with_reducible refine (K1.out _ I1.out).mono ?_)
 clear q0 q1
 rintro e w1 ⟨rfl, b1⟩
 have I2 := hid (Ints_old I2.out b1)
 have LP := hid (LP.out.old b1)
 have I1 := hid (Ints_old I1.out b1)
 have B := hid (B.out.trans (b1.mono B.out.size))
 clear b1
 have q0 := LP.out.c 2 rfl
 go_wp2_with fail
 (with_reducible refine (K2.out _ I2.out).mono ?_)
 clear q0
 rintro e w2 ⟨rfl, b1⟩
 have I2 := hid (Ints_old I2.out b1)
 have LP := hid (LP.out.old b1)
 have I1 := hid (Ints_old I1.out b1)
 have B := hid (B.out.trans (b1.mono B.out.size))
 clear b1
 have q0 := LP.out.c 1 rfl
 have q1 := LP.out.c 2 rfl
 go_wp2_with fail
 (with_reducible refine (KG.out _ I1.out I2.out).mono ?_)
 clear q0 q1
 rintro e w3 ⟨g, rfl, ig, b1⟩
 have I2 := hid (Ints_old I2.out b1)
 have LP := hid (LP.out.old b1)
 have I1 := hid (Ints_old I1.out b1)
 have B := hid (B.out.trans (b1.mono B.out.size))
 have KO := hid (l04One_own g M lM _ w3 ig)
 rw [hE.out] at KO
 clear ig b1 hE
 go_wp2_with fail
 (with_reducible refine (KO.out).mono ?_)
 rintro e w4 ⟨rfl, rfl⟩
 go_wp2
 go_ret
 exact ⟨rfl, B.out⟩
end Go.Proofs.YthkehmnodcmlcaaGreat
namespace Go.Proofs.YthkehmnodcmlcaaGreat
open Go.RowKit
open Go.Lib (hid)
theorem l04Low_own (s : Bool) (v u : Value) (A B : List Int) (nA : A.length ≤ 60) (nB : B.length ≤ 60) (cA : Can A) (cB : Can B) (b1 b2 : Nat) (w : World) (h1 : Ints w b1 v A) (h2 : Ints w b2 u B) :
  Calls Tryz.prog 159 #[.bool s, v, u] w (OwnS (mkFr (sval s (val A)) (val B)) w) := by
 obtain ⟨o, ho⟩ : ∃ o, o = mkFr (sval s (val A)) (val B) := ⟨_, rfl⟩
 have HO := hid ho
 rw [← ho]
 clear ho
 have a0 := val_nonneg cA.1
 have b0 := val_nonneg cB.1
 have KT1 := hid (fun (W : World) (h : Ints W b1 v A) => l02Trim_own b1 v A (by omega) cA.1 W h)
 have KT2 := hid (fun (W : World) (h : Ints W b2 u B) => l02Trim_own b2 u B (by omega) cB.1 W h)
 rw [rep_val cA] at KT1
 rw [rep_val cB] at KT2
 have I1 := hid h1
 have I2 := hid h2
 obtain ⟨a, c, rfl, -⟩ := Ints_form h1
 obtain ⟨a', c', rfl, -⟩ := Ints_form h2
 clear h1 h2
 have B0 := hid (show Below w.heap.size w (w.alloc (.cells #[.bool false, .slice none 0 0, .slice none 0 0] 37)) from (Below.refl _ _).alloc (Nat.le_refl _) _)
 have LR := hid (show LocA 37 (w.alloc (.cells #[.bool false, .slice none 0 0, .slice none 0 0] 37)) (w.heap.size) #[.bool false, .slice none 0 0, .slice none 0 0] from (LocA.at (by simp)))
 have I1 := hid (Ints_old I1.out B0.out)
 have I2 := hid (Ints_old I2.out B0.out)
 generalize hW : w.alloc (.cells #[.bool false, .slice none 0 0, .slice none 0 0] 37) = W0 at B0 LR I1 I2
 have HW := hid hW
 clear hW
 have hs0 := B0.out.size
 by_cases hb0 : B = []
 ·have hE := hid (show o = none by rw [HO.out, hb0]; rfl)
  have hb1 : ((B.length : Int) == 0) = true := by simp [hb0]
  clear hb0
  go_enter Tryz.func159, Tryz.ntmps159
  go_wp2_with fail
  rw [HW.out]
  (with_reducible refine (KT1.out _ I1.out).mono ?_)
  rintro e w1x ⟨⟨x1, rfl, j1, -⟩, rfl⟩
  have J1 := hid j1
  obtain ⟨a1, c1, rfl, -⟩ := Ints_form j1
  clear j1
  go_wp2_with fail
  (with_reducible refine (KT2.out _ I2.out).mono ?_)
  rintro e w2x ⟨⟨x2, rfl, j2, -⟩, rfl⟩
  have J2 := hid j2
  obtain ⟨a2, c2, rfl, -⟩ := Ints_form j2
  clear j2
  have f0 := LR.out.f 0
  have f1 := LR.out.f 1
  have f2 := LR.out.f 2
  have p0 := LR.out.c 0 rfl
  have p1 := LR.out.c 1 rfl
  have p2 := LR.out.c 2 rfl
  have R := hid (OwnS_zero (N := w.heap.size) hE.out (by omega) B0.out)
  go_wp2
  exact bodyPost_ret (v := .agg #[.bool false, .slice none 0 0, .slice none 0 0]) (by simp [results, Tryz.results159, go_sem, p0, p1, p2]) rfl R.out
 have hb1 : ((B.length : Int) == 0) = false := beq_eq_false_iff_ne.2 (fun h => hb0 (List.length_eq_zero_iff.1 (by omega)))
 have bpos : 0 < val B := by
  rcases Int.lt_or_eq_of_le b0 with h | h
  ·exact h
  ·exact absurd (Can_val cB h.symm) hb0
 have g0 := G_pos (X := val A) bpos
 have hg60 : G (val A) (val B) < pw 60 := G_le a0 b0 ((Can_len cA).1 nA) ((Can_len cB).1 nB)
 obtain ⟨P, hP⟩ : ∃ P, P = rep (val A / G (val A) (val B)).toNat := ⟨_, rfl⟩
 obtain ⟨R, hR⟩ : ∃ R, R = rep (val B / G (val A) (val B)).toNat := ⟨_, rfl⟩
 have x0 : 0 ≤ val A / G (val A) (val B) := Int.ediv_nonneg a0 (by omega)
 have y0 : 0 ≤ val B / G (val A) (val B) := Int.ediv_nonneg b0 (by omega)
 have xl := Int.ediv_le_self (G (val A) (val B)) a0
 have yl := Int.ediv_le_self (G (val A) (val B)) b0
 have la := (Can_len cA).1 nA
 have lb := (Can_len cB).1 nB
 have vP : val P = val A / G (val A) (val B) := by rw [hP]; exact val_rep' x0
 have vR : val R = val B / G (val A) (val B) := by rw [hR]; exact val_rep' y0
 have cP : Can P := by rw [hP]; exact Can_rep _
 have cR : Can R := by rw [hR]; exact Can_rep _
 have nP : P.length ≤ 60 := by rw [hP]; exact rep_len (by omega)
 have nR : R.length ≤ 60 := by rw [hR]; exact rep_len (by omega)
 have d1 := hid (Can_len cP (k := 24))
 have d2 := hid (Can_len cR (k := 24))
 have hNone := hid (show ¬ (P.length ≤ 24 ∧ R.length ≤ 24) → o = none from fun h => by
  rw [HO.out]
  exact mkFr_parts s false a0 b0 (.inr fun h' => h ⟨d1.out.2 (by rw [vP]; exact h'.1), d2.out.2 (by rw [vR]; exact h'.2)⟩))
 have hSome := hid (show P.length ≤ 24 ∧ R.length ≤ 24 → gzs (sval s (val P)) = gzs (qn o) ∧ gzl (sval s (val P)) = gzl (qn o) ∧ R = gzl (qd o) from fun h => by
  obtain ⟨x, e, n1, dd⟩ := mkFr_some s false a0 bpos (by rw [← vP]; exact d1.out.1 h.1) (by rw [← vR]; exact d2.out.1 h.2)
  rw [show (s != false) = s by cases s <;> rfl, ← vP] at n1
  have hx : o = some x := by rw [HO.out]; exact e
  rw [hx]
  refine ⟨by rw [← n1]; rfl, by rw [← n1]; rfl, ?_⟩
  show R = gzl (x.den : Int)
  rw [dd]
  unfold gzl
  rw [show (((val B / G (val A) (val B)).natAbs : Nat) : Int) = val B / G (val A) (val B) by omega, capped_of (by omega)]
  exact hR)
 have hOne := hid (show G (val A) (val B) = 1 → A = P ∧ B = R from fun h => by
  rw [hP, hR, h, Int.ediv_one, Int.ediv_one, rep_val cA, rep_val cB]
  exact ⟨rfl, rfl⟩)
 have KO := hid (fun (W : World) (x : Value) (L : List Int) (hl : L.length ≤ 60) (b : Nat) (h : Ints W b x L) => l04One_own x L (by omega) b W h)
 have KM := hid (fun (W : World) (x : Value) (b : Nat) (h : Ints W b x P) => l03Make_own s b x P (by omega) cP.1 W h)
 obtain ⟨gs, hgs⟩ : ∃ z, z = gzs (sval s (val P)) := ⟨_, rfl⟩
 obtain ⟨gl, hgl⟩ : ∃ z, z = gzl (sval s (val P)) := ⟨_, rfl⟩
 rw [← hgs, ← hgl] at KM hSome
 clear hgs hgl
 by_cases hone : B = [1]
 ·have e1 := hid (hOne.out (by rw [hone]; simp [val, G_one]))
  have KO1 := hid (fun (W : World) (x : Value) (b : Nat) (h : Ints W b x B) => KO.out W x B nB b h)
  rw [decide_eq_true hone] at KO1
  clear hone hb0 hP hR
  go_enter Tryz.func159, Tryz.ntmps159
  go_wp2_with fail
  rw [HW.out]
  (with_reducible refine (KT1.out _ I1.out).mono ?_)
  rintro e w1x ⟨⟨x1, rfl, j1, -⟩, rfl⟩
  have J1 := hid j1
  obtain ⟨a1, c1, rfl, -⟩ := Ints_form j1
  clear j1
  go_wp2_with fail
  (with_reducible refine (KT2.out _ I2.out).mono ?_)
  rintro e w2x ⟨⟨x2, rfl, j2, -⟩, rfl⟩
  have J2 := hid j2
  obtain ⟨a2, c2, rfl, -⟩ := Ints_form j2
  clear j2
  go_wp2_with fail
  (with_reducible refine (KO1.out _ _ _ J2.out).mono ?_)
  rintro e w3x ⟨rfl, rfl⟩
  obtain ⟨e1, e2⟩ := e1.out
  clear bpos g0 hg60 x0 y0 xl yl la lb vP vR
  clear a0 b0 d1 d2 hOne KT1 KT2 KO1 KO cA cB nA nB HO
  subst e1 e2
  by_cases t1 : 24 < (A.length : Int)
  ·have hE := hid (hNone.out (by omega))
   have f0 := LR.out.f 0
   have f1 := LR.out.f 1
   have f2 := LR.out.f 2
   have p0 := LR.out.c 0 rfl
   have p1 := LR.out.c 1 rfl
   have p2 := LR.out.c 2 rfl
   have R := hid (OwnS_zero (N := w.heap.size) hE.out (by omega) B0.out)
   go_wp2
   exact bodyPost_ret (v := .agg #[.bool false, .slice none 0 0, .slice none 0 0]) (by simp [results, Tryz.results159, go_sem, p0, p1, p2]) rfl R.out
  by_cases t2 : 24 < (B.length : Int)
  ·have hE := hid (hNone.out (by omega))
   have f0 := LR.out.f 0
   have f1 := LR.out.f 1
   have f2 := LR.out.f 2
   have p0 := LR.out.c 0 rfl
   have p1 := LR.out.c 1 rfl
   have p2 := LR.out.c 2 rfl
   have R := hid (OwnS_zero (N := w.heap.size) hE.out (by omega) B0.out)
   go_wp2
   exact bodyPost_ret (v := .agg #[.bool false, .slice none 0 0, .slice none 0 0]) (by simp [results, Tryz.results159, go_sem, p0, p1, p2]) rfl R.out
  obtain ⟨m1, m2, m3⟩ := hSome.out ⟨by omega, by omega⟩
  have M1 := hid m1
  have M2 := hid m2
  have M3 := hid m3
  clear m1 m2 m3
  have hs4 := B0.out.size
  go_wp2_with fail
  (with_reducible refine (KM.out _ _ _ J1.out).mono ?_)
  rintro e w1 ⟨r, rfl, i1, b1⟩
  have LR := hid (LR.out.old b1)
  have J1 := hid (Ints_old J1.out b1)
  have J2 := hid (Ints_old J2.out b1)
  have B0 := hid (B0.out.trans (b1.mono B0.out.size))
  have Y1 := hid i1
  obtain ⟨a8, c8, rfl, -⟩ := Ints_form i1
  clear i1 b1
  have hs5 := B0.out.size
  go_wp2_with (at_builtin; refine wpList_append_lit rfl _ _ rfl w1 _ _ B rfl rfl J2.out (by omega) ?_)
  intro v9 w9 i9 b9
  have LR := hid (LR.out.old b9)
  have Y1 := hid (Ints_old Y1.out b9)
  have B0 := hid (B0.out.trans (b9.mono hs5))
  have f0 := LR.out.f 0
  have f1 := LR.out.f 1
  have f2 := LR.out.f 2
  have p0 := LR.out.c 0 rfl
  have p1 := LR.out.c 1 rfl
  have p2 := LR.out.c 2 rfl
  have RR := hid (OwnS_out (o := o) (s := gs) (N := w.heap.size) (w := w) M1.out M2.out M3.out (Nat.le_refl _) LR.out (by decide) hs4 hs5 Y1.out i9 B0.out)
  obtain ⟨a9, c9, rfl, -⟩ := Ints_form i9
  clear i9 b9
  go_wp2
  exact bodyPost_ret (v := .agg #[.bool gs, .slice a8 _ c8, .slice a9 _ c9]) (by simp [results, Tryz.results159, go_sem, p0, p1, p2]) rfl RR.out
 have KO1 := hid (fun (W : World) (x : Value) (b : Nat) (h : Ints W b x B) => KO.out W x B nB b h)
 rw [decide_eq_false hone] at KO1
 have KG := hid (fun (W : World) (x y : Value) (b1 b2 : Nat) (h1 : Ints W b1 x A) (h2 : Ints W b2 y B) => l02Gcd_any x y A B nA nB cA cB b1 b2 W h1 h2)
 obtain ⟨M, hM⟩ : ∃ M, M = rep (G (val A) (val B)).toNat := ⟨_, rfl⟩
 have nM : M.length ≤ 60 := by rw [hM]; exact rep_len hg60
 have cM : Can M := by rw [hM]; exact Can_rep _
 have vM : val M = G (val A) (val B) := by rw [hM]; exact val_rep' (by omega)
 have mOne : M = [1] ↔ G (val A) (val B) = 1 := by rw [hM]; exact rep_one.trans (by omega)
 rw [← hM] at KG
 have KO2 := hid (fun (W : World) (x : Value) (b : Nat) (h : Ints W b x M) => KO.out W x M nM b h)
 by_cases hm : M = [1]
 ·rw [decide_eq_true hm] at KO2
  have e1 := hid (hOne.out (mOne.1 hm))
  clear hm hone hb0 hP hR hM mOne
  go_enter Tryz.func159, Tryz.ntmps159
  go_wp2_with fail
  rw [HW.out]
  (with_reducible refine (KT1.out _ I1.out).mono ?_)
  rintro e w1x ⟨⟨x1, rfl, j1, -⟩, rfl⟩
  have J1 := hid j1
  obtain ⟨a1, c1, rfl, -⟩ := Ints_form j1
  clear j1
  go_wp2_with fail
  (with_reducible refine (KT2.out _ I2.out).mono ?_)
  rintro e w2x ⟨⟨x2, rfl, j2, -⟩, rfl⟩
  have J2 := hid j2
  obtain ⟨a2, c2, rfl, -⟩ := Ints_form j2
  clear j2
  go_wp2_with fail
  (with_reducible refine (KO1.out _ _ _ J2.out).mono ?_)
  rintro e w3x ⟨rfl, rfl⟩
  go_wp2_with fail
  (with_reducible refine (KG.out _ _ _ _ _ J1.out J2.out).mono ?_)
  rintro e w1 ⟨x3, rfl, i1, b1⟩
  have LR := hid (LR.out.old b1)
  have J1 := hid (Ints_old J1.out b1)
  have J2 := hid (Ints_old J2.out b1)
  have B0 := hid (B0.out.trans (b1.mono B0.out.size))
  have G1 := hid i1
  obtain ⟨a3, c3, rfl, -⟩ := Ints_form i1
  clear i1 b1
  go_wp2_with fail
  (with_reducible refine (KO2.out _ _ _ G1.out).mono ?_)
  rintro e w4x ⟨rfl, rfl⟩
  obtain ⟨e1, e2⟩ := e1.out
  clear bpos g0 hg60 x0 y0 xl yl la lb vP vR vM
  clear a0 b0 d1 d2 hOne KT1 KT2 KO1 KO2 KO KG cA cB nA nB HO
  subst e1 e2
  by_cases t1 : 24 < (A.length : Int)
  ·have hE := hid (hNone.out (by omega))
   have f0 := LR.out.f 0
   have f1 := LR.out.f 1
   have f2 := LR.out.f 2
   have p0 := LR.out.c 0 rfl
   have p1 := LR.out.c 1 rfl
   have p2 := LR.out.c 2 rfl
   have R := hid (OwnS_zero (N := w.heap.size) hE.out (by omega) B0.out)
   go_wp2
   exact bodyPost_ret (v := .agg #[.bool false, .slice none 0 0, .slice none 0 0]) (by simp [results, Tryz.results159, go_sem, p0, p1, p2]) rfl R.out
  by_cases t2 : 24 < (B.length : Int)
  ·have hE := hid (hNone.out (by omega))
   have f0 := LR.out.f 0
   have f1 := LR.out.f 1
   have f2 := LR.out.f 2
   have p0 := LR.out.c 0 rfl
   have p1 := LR.out.c 1 rfl
   have p2 := LR.out.c 2 rfl
   have R := hid (OwnS_zero (N := w.heap.size) hE.out (by omega) B0.out)
   go_wp2
   exact bodyPost_ret (v := .agg #[.bool false, .slice none 0 0, .slice none 0 0]) (by simp [results, Tryz.results159, go_sem, p0, p1, p2]) rfl R.out
  obtain ⟨m1, m2, m3⟩ := hSome.out ⟨by omega, by omega⟩
  have M1 := hid m1
  have M2 := hid m2
  have M3 := hid m3
  clear m1 m2 m3
  have hs4 := B0.out.size
  go_wp2_with fail
  (with_reducible refine (KM.out _ _ _ J1.out).mono ?_)
  rintro e w2 ⟨r, rfl, i1, b1⟩
  have LR := hid (LR.out.old b1)
  have J1 := hid (Ints_old J1.out b1)
  have J2 := hid (Ints_old J2.out b1)
  have B0 := hid (B0.out.trans (b1.mono B0.out.size))
  have Y1 := hid i1
  obtain ⟨a8, c8, rfl, -⟩ := Ints_form i1
  clear i1 b1
  have hs5 := B0.out.size
  go_wp2_with (at_builtin; refine wpList_append_lit rfl _ _ rfl w2 _ _ B rfl rfl J2.out (by omega) ?_)
  intro v9 w9 i9 b9
  have LR := hid (LR.out.old b9)
  have Y1 := hid (Ints_old Y1.out b9)
  have B0 := hid (B0.out.trans (b9.mono hs5))
  have f0 := LR.out.f 0
  have f1 := LR.out.f 1
  have f2 := LR.out.f 2
  have p0 := LR.out.c 0 rfl
  have p1 := LR.out.c 1 rfl
  have p2 := LR.out.c 2 rfl
  have RR := hid (OwnS_out (o := o) (s := gs) (N := w.heap.size) (w := w) M1.out M2.out M3.out (Nat.le_refl _) LR.out (by decide) hs4 hs5 Y1.out i9 B0.out)
  obtain ⟨a9, c9, rfl, -⟩ := Ints_form i9
  clear i9 b9
  go_wp2
  exact bodyPost_ret (v := .agg #[.bool gs, .slice a8 _ c8, .slice a9 _ c9]) (by simp [results, Tryz.results159, go_sem, p0, p1, p2]) rfl RR.out
 rw [decide_eq_false hm] at KO2
 have KD1 := hid (fun (W : World) (x y : Option Addr) (k l : Nat) (h1 : RowI W x A.length A) (h2 : RowI W y M.length M) => l02Div_any x y _ _ k l A M nA nM cA.1 cM (by rw [vM]; exact g0) W h1 h2)
 have KD2 := hid (fun (W : World) (x y : Option Addr) (k l : Nat) (h1 : RowI W x B.length B) (h2 : RowI W y M.length M) => l02Div_any x y _ _ k l B M nB nM cB.1 cM (by rw [vM]; exact g0) W h1 h2)
 rw [vM, ← hP] at KD1
 rw [vM, ← hR] at KD2
 clear hm hone hb0 hP hR hM mOne
 go_enter Tryz.func159, Tryz.ntmps159
 go_wp2_with fail
 rw [HW.out]
 (with_reducible refine (KT1.out _ I1.out).mono ?_)
 rintro e w1x ⟨⟨x1, rfl, j1, -⟩, rfl⟩
 have J1 := hid j1
 obtain ⟨a1, c1, rfl, -⟩ := Ints_form j1
 clear j1
 go_wp2_with fail
 (with_reducible refine (KT2.out _ I2.out).mono ?_)
 rintro e w2x ⟨⟨x2, rfl, j2, -⟩, rfl⟩
 have J2 := hid j2
 obtain ⟨a2, c2, rfl, -⟩ := Ints_form j2
 clear j2
 go_wp2_with fail
 (with_reducible refine (KO1.out _ _ _ J2.out).mono ?_)
 rintro e w3x ⟨rfl, rfl⟩
 go_wp2_with fail
 (with_reducible refine (KG.out _ _ _ _ _ J1.out J2.out).mono ?_)
 rintro e w1 ⟨x3, rfl, i1, b1⟩
 have LR := hid (LR.out.old b1)
 have J1 := hid (Ints_old J1.out b1)
 have J2 := hid (Ints_old J2.out b1)
 have B0 := hid (B0.out.trans (b1.mono B0.out.size))
 have G1 := hid i1
 obtain ⟨a3, c3, rfl, -⟩ := Ints_form i1
 clear i1 b1
 go_wp2_with fail
 (with_reducible refine (KO2.out _ _ _ G1.out).mono ?_)
 rintro e w4x ⟨rfl, rfl⟩
 go_wp2_with fail
 (with_reducible refine (KD1.out _ _ _ _ _ (Ints_row J1.out) (Ints_row G1.out)).mono ?_)
 rintro e w2 ⟨x5, y5, rfl, i1, i2, b1⟩
 have LR := hid (LR.out.old b1)
 have J1 := hid (Ints_old J1.out b1)
 have J2 := hid (Ints_old J2.out b1)
 have G1 := hid (Ints_old G1.out b1)
 have B0 := hid (B0.out.trans (b1.mono B0.out.size))
 have D1 := hid i1
 obtain ⟨a5, c5, rfl, -⟩ := Ints_form i1
 obtain ⟨a6, c6, rfl, -⟩ := Ints_form i2
 clear i1 i2 b1
 go_wp2_with fail
 (with_reducible refine (KD2.out _ _ _ _ _ (Ints_row J2.out) (Ints_row G1.out)).mono ?_)
 rintro e w3 ⟨x6, y6, rfl, i1, i2, b1⟩
 have LR := hid (LR.out.old b1)
 have J1 := hid (Ints_old J1.out b1)
 have J2 := hid (Ints_old J2.out b1)
 have G1 := hid (Ints_old G1.out b1)
 have D1 := hid (Ints_old D1.out b1)
 have B0 := hid (B0.out.trans (b1.mono B0.out.size))
 have D2 := hid i1
 obtain ⟨a7, c7, rfl, -⟩ := Ints_form i1
 obtain ⟨a10, c10, rfl, -⟩ := Ints_form i2
 clear i1 i2 b1
 clear bpos g0 hg60 x0 y0 xl yl la lb vP vR vM
 clear a0 b0 d1 d2 hOne KT1 KT2 KO1 KO2 KO KG KD1 KD2 cA cB nA nB HO
 by_cases t1 : 24 < (P.length : Int)
 ·have hE := hid (hNone.out (by omega))
  have f0 := LR.out.f 0
  have f1 := LR.out.f 1
  have f2 := LR.out.f 2
  have p0 := LR.out.c 0 rfl
  have p1 := LR.out.c 1 rfl
  have p2 := LR.out.c 2 rfl
  have R := hid (OwnS_zero (N := w.heap.size) hE.out (by omega) B0.out)
  go_wp2
  exact bodyPost_ret (v := .agg #[.bool false, .slice none 0 0, .slice none 0 0]) (by simp [results, Tryz.results159, go_sem, p0, p1, p2]) rfl R.out
 by_cases t2 : 24 < (R.length : Int)
 ·have hE := hid (hNone.out (by omega))
  have f0 := LR.out.f 0
  have f1 := LR.out.f 1
  have f2 := LR.out.f 2
  have p0 := LR.out.c 0 rfl
  have p1 := LR.out.c 1 rfl
  have p2 := LR.out.c 2 rfl
  have R := hid (OwnS_zero (N := w.heap.size) hE.out (by omega) B0.out)
  go_wp2
  exact bodyPost_ret (v := .agg #[.bool false, .slice none 0 0, .slice none 0 0]) (by simp [results, Tryz.results159, go_sem, p0, p1, p2]) rfl R.out
 obtain ⟨m1, m2, m3⟩ := hSome.out ⟨by omega, by omega⟩
 have M1 := hid m1
 have M2 := hid m2
 have M3 := hid m3
 clear m1 m2 m3
 have hs4 := B0.out.size
 go_wp2_with fail
 (with_reducible refine (KM.out _ _ _ D1.out).mono ?_)
 rintro e w4 ⟨r, rfl, i1, b1⟩
 have LR := hid (LR.out.old b1)
 have D1 := hid (Ints_old D1.out b1)
 have D2 := hid (Ints_old D2.out b1)
 have B0 := hid (B0.out.trans (b1.mono B0.out.size))
 have Y1 := hid i1
 obtain ⟨a8, c8, rfl, -⟩ := Ints_form i1
 clear i1 b1
 have hs5 := B0.out.size
 go_wp2_with (at_builtin; refine wpList_append_lit rfl _ _ rfl w4 _ _ R rfl rfl D2.out (by omega) ?_)
 intro v9 w9 i9 b9
 have LR := hid (LR.out.old b9)
 have Y1 := hid (Ints_old Y1.out b9)
 have B0 := hid (B0.out.trans (b9.mono hs5))
 have f0 := LR.out.f 0
 have f1 := LR.out.f 1
 have f2 := LR.out.f 2
 have p0 := LR.out.c 0 rfl
 have p1 := LR.out.c 1 rfl
 have p2 := LR.out.c 2 rfl
 have RR := hid (OwnS_out (o := o) (s := gs) (N := w.heap.size) (w := w) M1.out M2.out M3.out (Nat.le_refl _) LR.out (by decide) hs4 hs5 Y1.out i9 B0.out)
 obtain ⟨a9, c9, rfl, -⟩ := Ints_form i9
 clear i9 b9
 go_wp2
 exact bodyPost_ret (v := .agg #[.bool gs, .slice a8 _ c8, .slice a9 _ c9]) (by simp [results, Tryz.results159, go_sem, p0, p1, p2]) rfl RR.out
end Go.Proofs.YthkehmnodcmlcaaGreat
namespace Go.Proofs.YthkehmnodcmlcaaGreat
open Go.RowKit
open Go.Lib (hid)
theorem mk_neg (n d : Int) : mkFr n (-d) = mkFr (-n) d := by
 unfold mkFr
 by_cases h : d = 0
 ·subst h; rfl
 ·rw [if_neg h, if_neg (by omega), Rat.divInt_neg']
theorem mk_sign (s t : Bool) (X Y : Int) : mkFr (sval (s != t) X) Y = mkFr (sval s X) (sval t Y) := by
 cases t with
 | false => rw [show (s != false) = s by cases s <;> rfl]; rfl
 |true =>
  show _ = mkFr (sval s X) (-Y)
  rw [mk_neg]
  cases s
  ·rfl
  ·show mkFr X Y = mkFr (- -X) Y
   rw [Int.neg_neg]
theorem spec_RatMake (s t : Bool) (v u : Value) (A E : List Int) (hA : A.length ≤ 1073741824) (hB : E.length ≤ 1073741824) (b1 b2 : Nat) (w : World) (h1 : Ints w b1 v A) (h2 : Ints w b2 u E) :
  Calls Tryz.prog 181 #[.agg #[.bool s, v], .agg #[.bool t, u]] w (OwnS (mk2 s A t E) w) := by
 obtain ⟨o, ho⟩ : ∃ o, o = mk2 s A t E := ⟨_, rfl⟩
 have HO := hid ho
 rw [← ho]
 clear ho
 have KA := hid (fun (W : World) (h : Ints W b1 v A) => spec_BigIntOk_own s v A hA b1 W h)
 have KB := hid (fun (W : World) (h : Ints W b2 u E) => spec_BigIntOk_own t u E hB b2 W h)
 have X1 := hid h1
 have X2 := hid h2
 obtain ⟨a, c, rfl, -⟩ := Ints_form h1
 obtain ⟨a', c', rfl, -⟩ := Ints_form h2
 clear h1 h2
 have B0 := hid (show Below w.heap.size w (((w.alloc (.cells #[.bool s, .slice a A.length c] 35)).alloc (.cells #[.bool t, .slice a' E.length c'] 35)).alloc (.cells #[.bool false, .slice none 0 0, .slice none 0 0] 37)) from (((Below.refl _ _).alloc (Nat.le_refl _) _).alloc (by simp) _).alloc (by simp; try omega) _)
 have I1 := hid (Ints_old X1.out B0.out)
 have I2 := hid (Ints_old X2.out B0.out)
 clear X1 X2
 have L1 := hid (show LocA 35 (((w.alloc (.cells #[.bool s, .slice a A.length c] 35)).alloc (.cells #[.bool t, .slice a' E.length c'] 35)).alloc (.cells #[.bool false, .slice none 0 0, .slice none 0 0] 37)) (w.heap.size) #[.bool s, .slice a A.length c] from (LocA.at (by simp)).new1.new1)
 have L2 := hid (show LocA 35 (((w.alloc (.cells #[.bool s, .slice a A.length c] 35)).alloc (.cells #[.bool t, .slice a' E.length c'] 35)).alloc (.cells #[.bool false, .slice none 0 0, .slice none 0 0] 37)) (w.heap.size + 1) #[.bool t, .slice a' E.length c'] from (LocA.at (by simp)).new1)
 have LR := hid (show LocA 37 (((w.alloc (.cells #[.bool s, .slice a A.length c] 35)).alloc (.cells #[.bool t, .slice a' E.length c'] 35)).alloc (.cells #[.bool false, .slice none 0 0, .slice none 0 0] 37)) (w.heap.size + 1 + 1) #[.bool false, .slice none 0 0, .slice none 0 0] from (LocA.at (by simp)))
 generalize hW : ((w.alloc (.cells #[.bool s, .slice a A.length c] 35)).alloc (.cells #[.bool t, .slice a' E.length c'] 35)).alloc (.cells #[.bool false, .slice none 0 0, .slice none 0 0] 37) = W0 at B0 L1 L2 LR I1 I2
 have HW := hid hW
 clear hW
 have hs0 := B0.out.size
 have B := hid B0.out
 clear B0
 obtain ⟨p1, hp1⟩ : ∃ p, p = bok s A := ⟨_, rfl⟩
 rw [← hp1] at KA
 obtain ⟨p2, hp2⟩ : ∃ p, p = bok t E := ⟨_, rfl⟩
 rw [← hp2] at KB
 cases p1 with
 |false =>
  have hE := hid (HO.out.trans (mk2_no (.inl hp1.symm)))
  clear hp1 hp2
  go_enter Tryz.func181, Tryz.ntmps181
  have q0 := L1.out.c 0 rfl
  have q1 := L1.out.c 1 rfl
  go_wp2_with fail
  rw [HW.out]
  (with_reducible refine (KA.out _ I1.out).mono ?_)
  clear q0 q1
  rintro e w1 ⟨rfl, b1⟩
  have LR := hid (LR.out.old b1)
  have B := hid (B.out.trans (b1.mono B.out.size))
  clear b1
  have f0 := LR.out.f 0
  have f1 := LR.out.f 1
  have f2 := LR.out.f 2
  have p0 := LR.out.c 0 rfl
  have p1 := LR.out.c 1 rfl
  have p2 := LR.out.c 2 rfl
  have R := hid (OwnS_zero (N := w.heap.size + 1 + 1) hE.out (by omega) B.out)
  go_wp2
  exact bodyPost_ret (v := .agg #[.bool false, .slice none 0 0, .slice none 0 0]) (by simp [results, Tryz.results181, go_sem, p0, p1, p2]) rfl R.out
 | true =>
 cases p2 with
 |false =>
  have hE := hid (HO.out.trans (mk2_no (.inr hp2.symm)))
  clear hp1 hp2
  go_enter Tryz.func181, Tryz.ntmps181
  have q0 := L1.out.c 0 rfl
  have q1 := L1.out.c 1 rfl
  go_wp2_with fail
  rw [HW.out]
  (with_reducible refine (KA.out _ I1.out).mono ?_)
  clear q0 q1
  rintro e w1 ⟨rfl, b1⟩
  have LR := hid (LR.out.old b1)
  have L2 := hid (L2.out.old b1)
  have I2 := hid (Ints_old I2.out b1)
  have B := hid (B.out.trans (b1.mono B.out.size))
  clear b1
  have q0 := L2.out.c 0 rfl
  have q1 := L2.out.c 1 rfl
  go_wp2_with fail
  (with_reducible refine (KB.out _ I2.out).mono ?_)
  clear q0 q1
  rintro e w2 ⟨rfl, b1⟩
  have LR := hid (LR.out.old b1)
  have L2 := hid (L2.out.old b1)
  have I2 := hid (Ints_old I2.out b1)
  have B := hid (B.out.trans (b1.mono B.out.size))
  clear b1
  have f0 := LR.out.f 0
  have f1 := LR.out.f 1
  have f2 := LR.out.f 2
  have p0 := LR.out.c 0 rfl
  have p1 := LR.out.c 1 rfl
  have p2 := LR.out.c 2 rfl
  have R := hid (OwnS_zero (N := w.heap.size + 1 + 1) hE.out (by omega) B.out)
  go_wp2
  exact bodyPost_ret (v := .agg #[.bool false, .slice none 0 0, .slice none 0 0]) (by simp [results, Tryz.results181, go_sem, p0, p1, p2]) rfl R.out
 |true =>
  have hE := hid (show o = mkFr (sval (!(s == t)) (val A)) (val E) from (HO.out.trans (mk2_yes hp1.symm hp2.symm)).trans (mk_sign s t (val A) (val E)).symm)
  have nA := (bok_iff.1 hp1.symm).1
  have nB := (bok_iff.1 hp2.symm).1
  have KL := hid (fun (W : World) (h1 : Ints W b1 (.slice a A.length c) A) (h2 : Ints W b2 (.slice a' E.length c') E) => l04Low_own (!(s == t)) _ _ A E (nok_len nA) (nok_len nB) (nok_iff.1 nA).2 (nok_iff.1 nB).2 b1 b2 W h1 h2)
  rw [← hE.out] at KL
  clear hp1 hp2 hE HO nA nB
  obtain ⟨gs, hgs⟩ : ∃ g, g = gzs (qn o) := ⟨_, rfl⟩
  have HGS := hid hgs
  clear hgs
  go_enter Tryz.func181, Tryz.ntmps181
  have q0 := L1.out.c 0 rfl
  have q1 := L1.out.c 1 rfl
  go_wp2_with fail
  rw [HW.out]
  (with_reducible refine (KA.out _ I1.out).mono ?_)
  clear q0 q1
  rintro e w1 ⟨rfl, b1⟩
  have LR := hid (LR.out.old b1)
  have L1 := hid (L1.out.old b1)
  have L2 := hid (L2.out.old b1)
  have I1 := hid (Ints_old I1.out b1)
  have I2 := hid (Ints_old I2.out b1)
  have B := hid (B.out.trans (b1.mono B.out.size))
  clear b1
  have q0 := L2.out.c 0 rfl
  have q1 := L2.out.c 1 rfl
  go_wp2_with fail
  (with_reducible refine (KB.out _ I2.out).mono ?_)
  clear q0 q1
  rintro e w2 ⟨rfl, b1⟩
  have LR := hid (LR.out.old b1)
  have L1 := hid (L1.out.old b1)
  have L2 := hid (L2.out.old b1)
  have I1 := hid (Ints_old I1.out b1)
  have I2 := hid (Ints_old I2.out b1)
  have B := hid (B.out.trans (b1.mono B.out.size))
  clear b1
  have q0 := L1.out.c 0 rfl
  have q1 := L1.out.c 1 rfl
  have q2 := L2.out.c 0 rfl
  have q3 := L2.out.c 1 rfl
  have hs2 := B.out.size
  go_wp2_with fail
  (with_reducible refine (KL.out _ I1.out I2.out).mono ?_)
  clear q0 q1 q2 q3
  rintro e w3 ⟨v1, u1, rfl, j1, j2, b1⟩
  have LR := hid (LR.out.old b1)
  have L1 := hid (L1.out.old b1)
  have L2 := hid (L2.out.old b1)
  have I1 := hid (Ints_old I1.out b1)
  have I2 := hid (Ints_old I2.out b1)
  have B := hid (B.out.trans (b1.mono B.out.size))
  rw [← HGS.out]
  have f0 := LR.out.f 0
  have f1 := LR.out.f 1
  have f2 := LR.out.f 2
  have p0 := LR.out.c 0 rfl
  have p1 := LR.out.c 1 rfl
  have p2 := LR.out.c 2 rfl
  have R := hid (OwnS_out (o := o) (N := w.heap.size + 1 + 1) HGS.out rfl rfl (by omega) LR.out (by decide) hs2 hs2 j1 j2 B.out)
  obtain ⟨e1, d1, rfl, -⟩ := Ints_form j1
  obtain ⟨e2, d2, rfl, -⟩ := Ints_form j2
  clear j1 j2 b1
  go_wp2
  exact bodyPost_ret (v := .agg #[.bool gs, .slice e1 _ d1, .slice e2 _ d2]) (by simp [results, Tryz.results181, go_sem, p0, p1, p2]) rfl R.out
theorem mk_z_spec {w : World} {v u : Value} {X Y : Int} {b1 b2 : Nat} (h1 : Ints w b1 v (gzl X)) (h2 : Ints w b2 u (gzl Y)) (hX : (X.natAbs : Int) < pw 60) (hY : (Y.natAbs : Int) < pw 60) :
  Calls Tryz.prog 181 #[.agg #[.bool (gzs X), v], .agg #[.bool (gzs Y), u]] w (OwnS (mkFr X Y) w) := by
 obtain ⟨k1, e1⟩ := gz_ok hX
 obtain ⟨k2, e2⟩ := gz_ok hY
 have h := spec_RatMake (gzs X) (gzs Y) v u _ _ (big_len k1) (big_len k2) b1 b2 w h1 h2
 rw [mk2_yes k1 k2, e1, e2] at h
 exact h
theorem spec_RatOf (n d : Int) (n0 : -9223372036854775808 ≤ n) (n1 : n ≤ 9223372036854775807) (d0 : -9223372036854775808 ≤ d) (d1 : d ≤ 9223372036854775807) (w : World) :
  Calls Tryz.prog 145 #[.int .i64 n, .int .i64 d] w (OwnS (mkFr n d) w) := by
 have KN := hid (fun (W : World) => spec_BigIntOf n n0 n1 W)
 have KD := hid (fun (W : World) => spec_BigIntOf d d0 d1 W)
 have KM := hid (fun (W : World) (v u : Value) (b1 b2 : Nat) (h1 : Ints W b1 v (gzl n)) (h2 : Ints W b2 u (gzl d)) => mk_z_spec h1 h2 (i64_small n0 n1) (i64_small d0 d1))
 obtain ⟨o, ho⟩ : ∃ o, o = mkFr n d := ⟨_, rfl⟩
 rw [← ho] at KM ⊢
 clear ho
 obtain ⟨sn, hsn⟩ : ∃ z, z = gzs n := ⟨_, rfl⟩
 obtain ⟨sd, hsd⟩ : ∃ z, z = gzs d := ⟨_, rfl⟩
 rw [← hsn, ← hsd] at KM
 rw [← hsn] at KN
 rw [← hsd] at KD
 clear hsn hsd
 obtain ⟨gs, hgs⟩ : ∃ g, g = gzs (qn o) := ⟨_, rfl⟩
 have HGS := hid hgs
 clear hgs
 have B := hid (show Below w.heap.size w (w.alloc (.cells #[.bool false, .slice none 0 0, .slice none 0 0] 37)) from (Below.refl _ _).alloc (Nat.le_refl _) _)
 have LR := hid (show LocA 37 (w.alloc (.cells #[.bool false, .slice none 0 0, .slice none 0 0] 37)) (w.heap.size) #[.bool false, .slice none 0 0, .slice none 0 0] from (LocA.at (by simp)))
 generalize hW : w.alloc (.cells #[.bool false, .slice none 0 0, .slice none 0 0] 37) = W0 at B LR
 have HW := hid hW
 clear hW
 have hs0 := B.out.size
 go_enter Tryz.func145, Tryz.ntmps145
 go_wp2_with fail
 rw [HW.out]
 (with_reducible refine (KN.out _).mono ?_)
 rintro e w1 ⟨r, rfl, i1, b1⟩
 have LR := hid (LR.out.old b1)
 have B := hid (B.out.trans (b1.mono B.out.size))
 have I1 := hid i1
 obtain ⟨a1, c1, rfl, -⟩ := Ints_form i1
 clear i1 b1
 go_wp2_with fail
 (with_reducible refine (KD.out _).mono ?_)
 rintro e w2 ⟨r, rfl, i1, b1⟩
 have LR := hid (LR.out.old b1)
 have I1 := hid (Ints_old I1.out b1)
 have B := hid (B.out.trans (b1.mono B.out.size))
 have I2 := hid i1
 obtain ⟨a2, c2, rfl, -⟩ := Ints_form i1
 clear i1 b1
 have hs2 := B.out.size
 go_wp2_with fail
 (with_reducible refine (KM.out _ _ _ _ _ I1.out I2.out).mono ?_)
 rintro e w3 ⟨v1, u1, rfl, j1, j2, b1⟩
 have LR := hid (LR.out.old b1)
 have I1 := hid (Ints_old I1.out b1)
 have I2 := hid (Ints_old I2.out b1)
 have B := hid (B.out.trans (b1.mono B.out.size))
 rw [← HGS.out]
 have f0 := LR.out.f 0
 have f1 := LR.out.f 1
 have f2 := LR.out.f 2
 have p0 := LR.out.c 0 rfl
 have p1 := LR.out.c 1 rfl
 have p2 := LR.out.c 2 rfl
 have R := hid (OwnS_out (o := o) (N := w.heap.size) HGS.out rfl rfl (by omega) LR.out (by decide) hs2 hs2 j1 j2 B.out)
 obtain ⟨e1, d1, rfl, -⟩ := Ints_form j1
 obtain ⟨e2, d2, rfl, -⟩ := Ints_form j2
 clear j1 j2 b1
 go_wp2
 exact bodyPost_ret (v := .agg #[.bool gs, .slice e1 _ d1, .slice e2 _ d2]) (by simp [results, Tryz.results145, go_sem, p0, p1, p2]) rfl R.out
theorem spec_RatFromInt (n : Int) (n0 : -9223372036854775808 ≤ n) (n1 : n ≤ 9223372036854775807) (w : World) :
  Calls Tryz.prog 89 #[.int .i64 n] w (OwnS (some (n : Rat)) w) := by
 obtain ⟨e1, e2⟩ := int_parts n
 obtain ⟨o, ho⟩ : ∃ o, o = some (n : Rat) := ⟨_, rfl⟩
 rw [← ho] at e1 e2 ⊢
 clear ho
 have HD := hid (show [1] = gzl (qd o) by rw [e2, gzl_one]; exact (rep_one.2 rfl).symm)
 have KN := hid (show ∀ W : World, Calls Tryz.prog 140 #[.int .i64 n] W (OwnG (gzs (qn o)) (gzl (qn o)) W) from by rw [e1]; exact fun W => spec_BigIntOf n n0 n1 W)
 clear e1 e2
 obtain ⟨gs, hgs⟩ : ∃ g, g = gzs (qn o) := ⟨_, rfl⟩
 have HGS := hid hgs
 rw [← hgs] at KN
 clear hgs
 have B := hid (show Below w.heap.size w (w.alloc (.cells #[.bool false, .slice none 0 0, .slice none 0 0] 37)) from (Below.refl _ _).alloc (Nat.le_refl _) _)
 have LR := hid (show LocA 37 (w.alloc (.cells #[.bool false, .slice none 0 0, .slice none 0 0] 37)) (w.heap.size) #[.bool false, .slice none 0 0, .slice none 0 0] from (LocA.at (by simp)))
 generalize hW : w.alloc (.cells #[.bool false, .slice none 0 0, .slice none 0 0] 37) = W0 at B LR
 have HW := hid hW
 clear hW
 have hs0 := B.out.size
 go_enter Tryz.func89, Tryz.ntmps89
 go_wp2_with fail
 rw [HW.out]
 (with_reducible refine (KN.out _).mono ?_)
 rintro e w1 ⟨r, rfl, i1, b1⟩
 have LR := hid (LR.out.old b1)
 have B := hid (B.out.trans (b1.mono B.out.size))
 have I1 := hid i1
 obtain ⟨a1, c1, rfl, -⟩ := Ints_form i1
 clear i1 b1
 have hs2 := B.out.size
 have BL := hid (B.out.alloc hs2 (.cells #[.int .i64 1] 3))
 have LR := hid (LR.out.new1 (o := .cells #[.int .i64 1] 3))
 have j1 := Ints_old I1.out (below_new' (o := .cells #[.int .i64 1] 3))
 have j2 := Ints_lit1 (w := w1) (B := w1.heap.size) 1 (Nat.le_refl _)
 have f0 := LR.out.f 0
 have f1 := LR.out.f 1
 have f2 := LR.out.f 2
 have p0 := LR.out.c 0 rfl
 have p1 := LR.out.c 1 rfl
 have p2 := LR.out.c 2 rfl
 have R := hid (OwnS_out (o := o) (N := w.heap.size) HGS.out rfl HD.out (Nat.le_refl _) LR.out (by decide) hs0 hs2 j1 j2 BL.out)
 clear j1 j2
 go_wp2
 exact bodyPost_ret (v := .agg #[.bool gs, .slice a1 _ c1, .slice (some ⟨w1.heap.size, 0, none⟩) 1 1]) (by simp [results, Tryz.results89, go_sem, p0, p1, p2]) rfl R.out
end Go.Proofs.YthkehmnodcmlcaaGreat
namespace Go.Proofs.YthkehmnodcmlcaaGreat
open Go.RowKit
open Go.Lib (hid)
theorem mul_p {w : World} {v u : Value} {A B : List Int} {b1 b2 : Nat} (h1 : Ints w b1 v A) (h2 : Ints w b2 u B) (nA : nok A = true) (nB : nok B = true) :
  Calls Tryz.prog 160 #[v, u] w (OwnP (rep (val A * val B).toNat) w) := by
 obtain ⟨a, c, rfl, -, r1, -⟩ := Ints_form h1
 obtain ⟨a', c', rfl, -, r2, -⟩ := Ints_form h2
 exact l02Mul_any a a' _ _ c c' A B (by have := nok_len nA; omega) (by have := nok_len nB; omega) (nok_lim nA) (nok_lim nB) w r1 r2
theorem make_z {w : World} {s : Bool} {p : Value} {b : Nat} {V : Int} (h : Ints w b p (rep V.toNat)) (h0 : 0 ≤ V) (hl : V < pw 60) :
  Calls Tryz.prog 170 #[.bool s, p] w (OwnZ (sval s V) w) := by
 have hh := l03Make_own s b p (rep V.toNat) (by have := rep_len hl; omega) (Lim_rep _) w h
 rw [val_rep' h0] at hh
 exact hh
theorem low_p {w : World} {s : Bool} {v u : Value} {b1 b2 : Nat} {X Y : Int} (h1 : Ints w b1 v (rep X.toNat)) (h2 : Ints w b2 u (rep Y.toNat)) (x0 : 0 ≤ X) (y0 : 0 ≤ Y) (xl : X < pw 60) (yl : Y < pw 60) :
  Calls Tryz.prog 159 #[.bool s, v, u] w (OwnS (mkFr (sval s X) Y) w) := by
 have hh := l04Low_own s v u _ _ (rep_len xl) (rep_len yl) (Can_rep _) (Can_rep _) b1 b2 w h1 h2
 rw [val_rep' x0, val_rep' y0] at hh
 exact hh
theorem low_z {w : World} {v u : Value} {b1 b2 : Nat} {X Y : Int} (h1 : Ints w b1 v (gzl X)) (h2 : Ints w b2 u (rep Y.toNat)) (hX : (X.natAbs : Int) < pw 60) (y0 : 0 ≤ Y) (yl : Y < pw 60) :
  Calls Tryz.prog 159 #[.bool (gzs X), v, u] w (OwnS (mkFr X Y) w) := by
 obtain ⟨k1, e1⟩ := gz_ok hX
 have n1 := (bok_iff.1 k1).1
 have hh := l04Low_own (gzs X) v u _ _ (nok_len n1) (rep_len yl) (nok_iff.1 n1).2 (Can_rep _) b1 b2 w h1 h2
 rw [e1, val_rep' y0] at hh
 exact hh
theorem sadd_z {w : World} {v u : Value} {X Y : Int} {b1 b2 : Nat} (h1 : Ints w b1 v (gzl X)) (h2 : Ints w b2 u (gzl Y)) (hX : (X.natAbs : Int) < pw 60) (hY : (Y.natAbs : Int) < pw 60) :
  Calls Tryz.prog 172 #[.agg #[.bool (gzs X), v], .agg #[.bool (gzs Y), u]] w (OwnZ (X + Y) w) := by
 obtain ⟨k1, e1⟩ := gz_ok hX
 obtain ⟨k2, e2⟩ := gz_ok hY
 have h := l03Add_own (gzs X) (gzs Y) v u _ _ (bok_iff.1 k1).1 (bok_iff.1 k2).1 b1 b2 w h1 h2
 rw [e1, e2] at h
 exact h
theorem scmp_z {w : World} {v u : Value} {X Y : Int} {b1 b2 : Nat} (h1 : Ints w b1 v (gzl X)) (h2 : Ints w b2 u (gzl Y)) (hX : (X.natAbs : Int) < pw 60) (hY : (Y.natAbs : Int) < pw 60) :
  Calls Tryz.prog 169 #[.agg #[.bool (gzs X), v], .agg #[.bool (gzs Y), u]] w (RetB (.int .i64 (sgn (X - Y))) w) := by
 obtain ⟨k1, e1⟩ := gz_ok hX
 obtain ⟨k2, e2⟩ := gz_ok hY
 have h := l03Cmp_own (gzs X) (gzs Y) v u _ _ k1 k2 b1 b2 w h1 h2
 rw [cmpB_yes k1 k2, e1, e2] at h
 exact h
theorem rok_lt {s : Bool} {A D : List Int} (h : rok s A D = true) : (0 ≤ val A ∧ val A < pw 24) ∧ (0 ≤ val D ∧ val D < pw 24) := by
 obtain ⟨o1, o2, -, l1, l2, -⟩ := rok_iff.1 h
 have nA := (bok_iff.1 o1).1
 exact ⟨⟨val_nonneg (nok_lim nA), (Can_len (nok_iff.1 nA).2).1 l1⟩, ⟨val_nonneg (nok_lim o2), (Can_len (nok_iff.1 o2).2).1 l2⟩⟩
theorem mul48 {x y : Int} (hx : 0 ≤ x ∧ x < pw 24) (hy : 0 ≤ y ∧ y < pw 24) : 0 ≤ x * y ∧ x * y < pw 60 := by
 have h := mul_bd hx.1 hx.2 hy.1 hy.2
 rw [show pw 24 * pw 24 = pw 48 by decide] at h
 have := pw48
 have := pw_pos 48
 omega
theorem l04Mul_own (s t : Bool) (v u v' u' : Value) (x y : Rat) (w : World) (h : RatX w s v u x) (h' : RatX w t v' u' y) :
  Calls Tryz.prog 132 #[.agg #[.bool s, v, u], .agg #[.bool t, v', u']] w (OwnS (mulF x y) w) := by
 obtain ⟨A, D, r1, k1, n1, d1, f1⟩ := h
 obtain ⟨A', D', r2, k2, n2, d2, f2⟩ := h'
 obtain ⟨a, c, b, d, rfl, rfl⟩ := r1.form
 obtain ⟨a', c', b', d', rfl, rfl⟩ := r2.form
 obtain ⟨b1, i1⟩ := r1.a
 obtain ⟨b2, i2⟩ := r1.d
 obtain ⟨b3, i3⟩ := r2.a
 obtain ⟨b4, i4⟩ := r2.d
 obtain ⟨o1, o2, -, -, -, -⟩ := rok_iff.1 k1
 obtain ⟨o3, o4, -, -, -, -⟩ := rok_iff.1 k2
 have nA := (bok_iff.1 o1).1
 have nA' := (bok_iff.1 o3).1
 clear r1 r2
 obtain ⟨q1, q2⟩ := rok_lt k1
 obtain ⟨q3, q4⟩ := rok_lt k2
 have hE := hid (show mkFr (sval (!(s == t)) (val A * val A')) (val D * val D') = mulF x y by rw [← mkFr_mul, n1, n2, d1, d2, sval_mul]; rfl)
 have KM1 := hid (fun (W : World) (h1 : Ints W b1 (.slice a A.length c) A) (h2 : Ints W b3 (.slice a' A'.length c') A') => mul_p h1 h2 nA nA')
 have KM2 := hid (fun (W : World) (h1 : Ints W b2 (.slice b D.length d) D) (h2 : Ints W b4 (.slice b' D'.length d') D') => mul_p h1 h2 o2 o4)
 have e1 := mul48 q1 q3
 have e2 := mul48 q2 q4
 obtain ⟨X, hX⟩ : ∃ X, X = val A * val A' := ⟨_, rfl⟩
 obtain ⟨Y, hY⟩ : ∃ Y, Y = val D * val D' := ⟨_, rfl⟩
 rw [← hX] at KM1 hE e1
 rw [← hY] at KM2 hE e2
 have KL := hid (fun (W : World) (x y : Value) (b1 b2 : Nat) (h1 : Ints W b1 x (rep X.toNat)) (h2 : Ints W b2 y (rep Y.toNat)) => low_p (s := !(s == t)) h1 h2 e1.1 e2.1 e1.2 e2.2)
 rw [hE.out] at KL
 obtain ⟨o, ho⟩ : ∃ o, o = mulF x y := ⟨_, rfl⟩
 rw [← ho] at KL ⊢
 clear hE ho hX hY e1 e2 q1 q2 q3 q4 k1 k2 n1 n2 d1 d2 f1 f2 o1 o2 o3 o4 nA nA'
 obtain ⟨L1, hL1⟩ : ∃ L, L = rep X.toNat := ⟨_, rfl⟩
 obtain ⟨L2, hL2⟩ : ∃ L, L = rep Y.toNat := ⟨_, rfl⟩
 rw [← hL1] at KM1 KL
 rw [← hL2] at KM2 KL
 clear hL1 hL2
 obtain ⟨gs, hgs⟩ : ∃ g, g = gzs (qn o) := ⟨_, rfl⟩
 have HGS := hid hgs
 clear hgs
 have B := hid (show Below w.heap.size w (((w.alloc (.cells #[.bool s, .slice a A.length c, .slice b D.length d] 37)).alloc (.cells #[.bool t, .slice a' A'.length c', .slice b' D'.length d'] 37)).alloc (.cells #[.bool false, .slice none 0 0, .slice none 0 0] 37)) from (((Below.refl _ _).alloc (Nat.le_refl _) _).alloc (by simp) _).alloc (by simp; try omega) _)
 have LP := hid (show LocA 37 (((w.alloc (.cells #[.bool s, .slice a A.length c, .slice b D.length d] 37)).alloc (.cells #[.bool t, .slice a' A'.length c', .slice b' D'.length d'] 37)).alloc (.cells #[.bool false, .slice none 0 0, .slice none 0 0] 37)) (w.heap.size) #[.bool s, .slice a A.length c, .slice b D.length d] from (LocA.at (by simp)).new1.new1)
 have LQ := hid (show LocA 37 (((w.alloc (.cells #[.bool s, .slice a A.length c, .slice b D.length d] 37)).alloc (.cells #[.bool t, .slice a' A'.length c', .slice b' D'.length d'] 37)).alloc (.cells #[.bool false, .slice none 0 0, .slice none 0 0] 37)) (w.heap.size + 1) #[.bool t, .slice a' A'.length c', .slice b' D'.length d'] from (LocA.at (by simp)).new1)
 have LR := hid (show LocA 37 (((w.alloc (.cells #[.bool s, .slice a A.length c, .slice b D.length d] 37)).alloc (.cells #[.bool t, .slice a' A'.length c', .slice b' D'.length d'] 37)).alloc (.cells #[.bool false, .slice none 0 0, .slice none 0 0] 37)) (w.heap.size + 1 + 1) #[.bool false, .slice none 0 0, .slice none 0 0] from (LocA.at (by simp)))
 have I1 := hid (Ints_old i1 B.out)
 have I2 := hid (Ints_old i2 B.out)
 have I3 := hid (Ints_old i3 B.out)
 have I4 := hid (Ints_old i4 B.out)
 clear i1 i2 i3 i4
 generalize hW : ((w.alloc (.cells #[.bool s, .slice a A.length c, .slice b D.length d] 37)).alloc (.cells #[.bool t, .slice a' A'.length c', .slice b' D'.length d'] 37)).alloc (.cells #[.bool false, .slice none 0 0, .slice none 0 0] 37) = W0 at B LP LQ LR I1 I2 I3 I4
 have HW := hid hW
 clear hW
 have hs0 := B.out.size
 go_enter Tryz.func132, Tryz.ntmps132
 go_wp2_with fail
 rw [HW.out]
 have LP := hid (LP.out.old (Below_drew1 (Below.refl _ _)))
 have LQ := hid (LQ.out.old (Below_drew1 (Below.refl _ _)))
 have LR := hid (LR.out.old (Below_drew1 (Below.refl _ _)))
 have I1 := hid (Ints_old I1.out (Below_drew1 (Below.refl _ _)))
 have I2 := hid (Ints_old I2.out (Below_drew1 (Below.refl _ _)))
 have I3 := hid (Ints_old I3.out (Below_drew1 (Below.refl _ _)))
 have I4 := hid (Ints_old I4.out (Below_drew1 (Below.refl _ _)))
 have B := hid (Below_drew1 B.out)
 have q0 := LP.out.c 0 rfl
 have q1 := LP.out.c 1 rfl
 have q2 := LP.out.c 2 rfl
 have q3 := LQ.out.c 0 rfl
 have q4 := LQ.out.c 1 rfl
 have q5 := LQ.out.c 2 rfl
 go_region_held3 (fun w' => w'.cell? ⟨w.heap.size, 0, none⟩ = some (.bool s) ∧ w'.cell? ⟨w.heap.size, 1, none⟩ = some (.slice a A.length c) ∧ w'.cell? ⟨w.heap.size, 2, none⟩ = some (.slice b D.length d) ∧ w'.cell? ⟨w.heap.size + 1, 0, none⟩ = some (.bool t) ∧ w'.cell? ⟨w.heap.size + 1, 1, none⟩ = some (.slice a' A'.length c') ∧ w'.cell? ⟨w.heap.size + 1, 2, none⟩ = some (.slice b' D'.length d')) (first | exact ⟨q0, q1, q2, q3, q4, q5⟩ | exact ⟨(cell_set3 (by omega)).trans q0, (cell_set3 (by omega)).trans q1, (cell_set3 (by omega)).trans q2, (cell_set3 (by omega)).trans q3, (cell_set3 (by omega)).trans q4, (cell_set3 (by omega)).trans q5⟩ | go_keep) (first | (go_at_call 160; (with_reducible refine (KM1.out _ I1.out I3.out).mono ?_); rintro e w1 ⟨r, rfl, i1, b1⟩; have LP := hid (LP.out.old b1); have LQ := hid (LQ.out.old b1); have LR := hid (LR.out.old b1); have I1 := hid (Ints_old I1.out b1); have I2 := hid (Ints_old I2.out b1); have I3 := hid (Ints_old I3.out b1); have I4 := hid (Ints_old I4.out b1); have B := hid (B.out.trans (b1.mono B.out.size)); have J1 := hid i1; obtain ⟨a1, c1, rfl, -⟩ := Ints_form i1; clear i1 b1; have q0 := LP.out.c 0 rfl; have q1 := LP.out.c 1 rfl; have q2 := LP.out.c 2 rfl; have q3 := LQ.out.c 0 rfl; have q4 := LQ.out.c 1 rfl; have q5 := LQ.out.c 2 rfl) | (go_at_call 160; (with_reducible refine (KM2.out _ I2.out I4.out).mono ?_); rintro e w2 ⟨r, rfl, i1, b1⟩; have LP := hid (LP.out.old b1); have LQ := hid (LQ.out.old b1); have LR := hid (LR.out.old b1); have I1 := hid (Ints_old I1.out b1); have I2 := hid (Ints_old I2.out b1); have I3 := hid (Ints_old I3.out b1); have I4 := hid (Ints_old I4.out b1); have B := hid (B.out.trans (b1.mono B.out.size)); have J1 := hid (Ints_old J1.out b1); have J2 := hid i1; obtain ⟨a2, c2, rfl, -⟩ := Ints_form i1; clear i1 b1; have hs2 := B.out.size; have q0 := LP.out.c 0 rfl; have q1 := LP.out.c 1 rfl; have q2 := LP.out.c 2 rfl; have q3 := LQ.out.c 0 rfl; have q4 := LQ.out.c 1 rfl; have q5 := LQ.out.c 2 rfl) | (go_at_call 159; (with_reducible refine (KL.out _ _ _ _ _ J1.out J2.out).mono ?_); rintro e w3 ⟨v1, u1, rfl, j1, j2, b1⟩; have LP := hid (LP.out.old b1); have LQ := hid (LQ.out.old b1); have LR := hid (LR.out.old b1); have I1 := hid (Ints_old I1.out b1); have I2 := hid (Ints_old I2.out b1); have I3 := hid (Ints_old I3.out b1); have I4 := hid (Ints_old I4.out b1); have B := hid (B.out.trans (b1.mono B.out.size)); clear b1; have q0 := LP.out.c 0 rfl; have q1 := LP.out.c 1 rfl; have q2 := LP.out.c 2 rfl; have q3 := LQ.out.c 0 rfl; have q4 := LQ.out.c 1 rfl; have q5 := LQ.out.c 2 rfl; have f0 := LR.out.f 0; have f1 := LR.out.f 1; have f2 := LR.out.f 2; have p0 := LR.out.c 0 rfl; have p1 := LR.out.c 1 rfl; have p2 := LR.out.c 2 rfl; rw [← HGS.out]; have R := hid (OwnS_out (o := o) (N := w.heap.size + 1 + 1) HGS.out rfl rfl (by omega) LR.out (by decide) hs2 hs2 j1 j2 B.out); obtain ⟨e1, d1, rfl, -⟩ := Ints_form j1; obtain ⟨e2, d2, rfl, -⟩ := Ints_form j2; clear j1 j2))
 clear q0 q1 q2 q3 q4 q5
 go_wp2
 exact bodyPost_ret (v := .agg #[.bool gs, .slice e1 _ d1, .slice e2 _ d2]) (by simp [results, Tryz.results132, go_sem, p0, p1, p2]) rfl R.out
theorem l04Cmp_own (s t : Bool) (v u v' u' : Value) (x y : Rat) (w : World) (h : RatX w s v u x) (h' : RatX w t v' u' y) :
  Calls Tryz.prog 125 #[.agg #[.bool s, v, u], .agg #[.bool t, v', u']] w (RetB (.int .i64 (cmpF x y)) w) := by
 obtain ⟨A, D, r1, k1, n1, d1, f1⟩ := h
 obtain ⟨A', D', r2, k2, n2, d2, f2⟩ := h'
 obtain ⟨a, c, b, d, rfl, rfl⟩ := r1.form
 obtain ⟨a', c', b', d', rfl, rfl⟩ := r2.form
 obtain ⟨b1, i1⟩ := r1.a
 obtain ⟨b2, i2⟩ := r1.d
 obtain ⟨b3, i3⟩ := r2.a
 obtain ⟨b4, i4⟩ := r2.d
 obtain ⟨o1, o2, -, -, -, -⟩ := rok_iff.1 k1
 obtain ⟨o3, o4, -, -, -, -⟩ := rok_iff.1 k2
 have nA := (bok_iff.1 o1).1
 have nA' := (bok_iff.1 o3).1
 clear r1 r2
 obtain ⟨q1, q2⟩ := rok_lt k1
 obtain ⟨q3, q4⟩ := rok_lt k2
 have hE := hid (show sgn (sval s (val A * val D') - sval t (val A' * val D)) = cmpF x y by
  rw [← cmpF_eq, n1, n2, d1, d2]
  congr 1
  cases s <;> cases t <;> simp [sval, Int.neg_mul])
 have KM1 := hid (fun (W : World) (h1 : Ints W b1 (.slice a A.length c) A) (h2 : Ints W b4 (.slice b' D'.length d') D') => mul_p h1 h2 nA o4)
 have KM2 := hid (fun (W : World) (h1 : Ints W b3 (.slice a' A'.length c') A') (h2 : Ints W b2 (.slice b D.length d) D) => mul_p h1 h2 nA' o2)
 have e1 := mul48 q1 q4
 have e2 := mul48 q3 q2
 obtain ⟨X, hX⟩ : ∃ X, X = val A * val D' := ⟨_, rfl⟩
 obtain ⟨Y, hY⟩ : ∃ Y, Y = val A' * val D := ⟨_, rfl⟩
 rw [← hX] at KM1 hE e1
 rw [← hY] at KM2 hE e2
 have KK1 := hid (fun (W : World) (x : Value) (b : Nat) (h : Ints W b x (rep X.toNat)) => make_z (s := s) h e1.1 e1.2)
 have KK2 := hid (fun (W : World) (x : Value) (b : Nat) (h : Ints W b x (rep Y.toNat)) => make_z (s := t) h e2.1 e2.2)
 have KC := hid (fun (W : World) (x y : Value) (b1 b2 : Nat) (h1 : Ints W b1 x (gzl (sval s X))) (h2 : Ints W b2 y (gzl (sval t Y))) => scmp_z h1 h2 (by rw [sval_abs e1.1]; exact e1.2) (by rw [sval_abs e2.1]; exact e2.2))
 rw [hE.out] at KC
 obtain ⟨z, hz⟩ : ∃ z, z = cmpF x y := ⟨_, rfl⟩
 rw [← hz] at KC ⊢
 unfold OwnZ at KK1 KK2
 obtain ⟨sx, hsx⟩ : ∃ z, z = gzs (sval s X) := ⟨_, rfl⟩
 obtain ⟨sy, hsy⟩ : ∃ z, z = gzs (sval t Y) := ⟨_, rfl⟩
 obtain ⟨lx, hlx⟩ : ∃ z, z = gzl (sval s X) := ⟨_, rfl⟩
 obtain ⟨ly, hly⟩ : ∃ z, z = gzl (sval t Y) := ⟨_, rfl⟩
 rw [← hsx, ← hlx] at KK1 KC
 rw [← hsy, ← hly] at KK2 KC
 obtain ⟨L1, hL1⟩ : ∃ L, L = rep X.toNat := ⟨_, rfl⟩
 obtain ⟨L2, hL2⟩ : ∃ L, L = rep Y.toNat := ⟨_, rfl⟩
 rw [← hL1] at KM1 KK1
 rw [← hL2] at KM2 KK2
 clear hE hz hX hY e1 e2 q1 q2 q3 q4 k1 k2 n1 n2 d1 d2 f1 f2 o1 o2 o3 o4 nA nA' hsx hsy hlx hly hL1 hL2
 have B := hid (show Below w.heap.size w ((w.alloc (.cells #[.bool s, .slice a A.length c, .slice b D.length d] 37)).alloc (.cells #[.bool t, .slice a' A'.length c', .slice b' D'.length d'] 37)) from ((Below.refl _ _).alloc (Nat.le_refl _) _).alloc (by simp) _)
 have LP := hid (show LocA 37 ((w.alloc (.cells #[.bool s, .slice a A.length c, .slice b D.length d] 37)).alloc (.cells #[.bool t, .slice a' A'.length c', .slice b' D'.length d'] 37)) (w.heap.size) #[.bool s, .slice a A.length c, .slice b D.length d] from (LocA.at (by simp)).new1)
 have LQ := hid (show LocA 37 ((w.alloc (.cells #[.bool s, .slice a A.length c, .slice b D.length d] 37)).alloc (.cells #[.bool t, .slice a' A'.length c', .slice b' D'.length d'] 37)) (w.heap.size + 1) #[.bool t, .slice a' A'.length c', .slice b' D'.length d'] from (LocA.at (by simp)))
 have I1 := hid (Ints_old i1 B.out)
 have I2 := hid (Ints_old i2 B.out)
 have I3 := hid (Ints_old i3 B.out)
 have I4 := hid (Ints_old i4 B.out)
 clear i1 i2 i3 i4
 generalize hW : (w.alloc (.cells #[.bool s, .slice a A.length c, .slice b D.length d] 37)).alloc (.cells #[.bool t, .slice a' A'.length c', .slice b' D'.length d'] 37) = W0 at B LP LQ I1 I2 I3 I4
 have HW := hid hW
 clear hW
 have hs0 := B.out.size
 go_enter Tryz.func125, Tryz.ntmps125
 go_wp2_with fail
 rw [HW.out]
 have LP := hid (LP.out.old (Below_drew1 (Below.refl _ _)))
 have LQ := hid (LQ.out.old (Below_drew1 (Below.refl _ _)))
 have I1 := hid (Ints_old I1.out (Below_drew1 (Below.refl _ _)))
 have I2 := hid (Ints_old I2.out (Below_drew1 (Below.refl _ _)))
 have I3 := hid (Ints_old I3.out (Below_drew1 (Below.refl _ _)))
 have I4 := hid (Ints_old I4.out (Below_drew1 (Below.refl _ _)))
 have B := hid (Below_drew1 B.out)
 have q0 := LP.out.c 0 rfl
 have q1 := LP.out.c 1 rfl
 have q2 := LP.out.c 2 rfl
 have q3 := LQ.out.c 0 rfl
 have q4 := LQ.out.c 1 rfl
 have q5 := LQ.out.c 2 rfl
 go_region_held3 (fun w' => w'.cell? ⟨w.heap.size, 0, none⟩ = some (.bool s) ∧ w'.cell? ⟨w.heap.size, 1, none⟩ = some (.slice a A.length c) ∧ w'.cell? ⟨w.heap.size, 2, none⟩ = some (.slice b D.length d) ∧ w'.cell? ⟨w.heap.size + 1, 0, none⟩ = some (.bool t) ∧ w'.cell? ⟨w.heap.size + 1, 1, none⟩ = some (.slice a' A'.length c') ∧ w'.cell? ⟨w.heap.size + 1, 2, none⟩ = some (.slice b' D'.length d')) (first | exact ⟨q0, q1, q2, q3, q4, q5⟩ | exact ⟨(cell_set2 (by omega)).trans q0, (cell_set2 (by omega)).trans q1, (cell_set2 (by omega)).trans q2, (cell_set2 (by omega)).trans q3, (cell_set2 (by omega)).trans q4, (cell_set2 (by omega)).trans q5⟩ | go_keep) (first | (go_at_call 160; (with_reducible refine (KM1.out _ I1.out I4.out).mono ?_); rintro e w1 ⟨r, rfl, i1, b1⟩; have LP := hid (LP.out.old b1); have LQ := hid (LQ.out.old b1); have I1 := hid (Ints_old I1.out b1); have I2 := hid (Ints_old I2.out b1); have I3 := hid (Ints_old I3.out b1); have I4 := hid (Ints_old I4.out b1); have B := hid (B.out.trans (b1.mono B.out.size)); have J1 := hid i1; obtain ⟨a1, c1, rfl, -⟩ := Ints_form i1; clear i1 b1; have q0 := LP.out.c 0 rfl; have q1 := LP.out.c 1 rfl; have q2 := LP.out.c 2 rfl; have q3 := LQ.out.c 0 rfl; have q4 := LQ.out.c 1 rfl; have q5 := LQ.out.c 2 rfl) | (go_at_call 170; (with_reducible refine (KK1.out _ _ _ J1.out).mono ?_); rintro e w2 ⟨r, rfl, i1, b1⟩; have LP := hid (LP.out.old b1); have LQ := hid (LQ.out.old b1); have I1 := hid (Ints_old I1.out b1); have I2 := hid (Ints_old I2.out b1); have I3 := hid (Ints_old I3.out b1); have I4 := hid (Ints_old I4.out b1); have B := hid (B.out.trans (b1.mono B.out.size)); have Z1 := hid i1; obtain ⟨a2, c2, rfl, -⟩ := Ints_form i1; clear i1 b1; have q0 := LP.out.c 0 rfl; have q1 := LP.out.c 1 rfl; have q2 := LP.out.c 2 rfl; have q3 := LQ.out.c 0 rfl; have q4 := LQ.out.c 1 rfl; have q5 := LQ.out.c 2 rfl) | (go_at_call 160; (with_reducible refine (KM2.out _ I3.out I2.out).mono ?_); rintro e w3 ⟨r, rfl, i1, b1⟩; have LP := hid (LP.out.old b1); have LQ := hid (LQ.out.old b1); have I1 := hid (Ints_old I1.out b1); have I2 := hid (Ints_old I2.out b1); have I3 := hid (Ints_old I3.out b1); have I4 := hid (Ints_old I4.out b1); have B := hid (B.out.trans (b1.mono B.out.size)); have Z1 := hid (Ints_old Z1.out b1); have J2 := hid i1; obtain ⟨a3, c3, rfl, -⟩ := Ints_form i1; clear i1 b1; have q0 := LP.out.c 0 rfl; have q1 := LP.out.c 1 rfl; have q2 := LP.out.c 2 rfl; have q3 := LQ.out.c 0 rfl; have q4 := LQ.out.c 1 rfl; have q5 := LQ.out.c 2 rfl) | (go_at_call 170; (with_reducible refine (KK2.out _ _ _ J2.out).mono ?_); rintro e w4 ⟨r, rfl, i1, b1⟩; have LP := hid (LP.out.old b1); have LQ := hid (LQ.out.old b1); have I1 := hid (Ints_old I1.out b1); have I2 := hid (Ints_old I2.out b1); have I3 := hid (Ints_old I3.out b1); have I4 := hid (Ints_old I4.out b1); have B := hid (B.out.trans (b1.mono B.out.size)); have Z1 := hid (Ints_old Z1.out b1); have Z2 := hid i1; obtain ⟨a4, c4, rfl, -⟩ := Ints_form i1; clear i1 b1; have q0 := LP.out.c 0 rfl; have q1 := LP.out.c 1 rfl; have q2 := LP.out.c 2 rfl; have q3 := LQ.out.c 0 rfl; have q4 := LQ.out.c 1 rfl; have q5 := LQ.out.c 2 rfl) | (go_at_call 169; (with_reducible refine (KC.out _ _ _ _ _ Z1.out Z2.out).mono ?_); rintro e w5 ⟨rfl, b1⟩; have LP := hid (LP.out.old b1); have LQ := hid (LQ.out.old b1); have I1 := hid (Ints_old I1.out b1); have I2 := hid (Ints_old I2.out b1); have I3 := hid (Ints_old I3.out b1); have I4 := hid (Ints_old I4.out b1); have B := hid (B.out.trans (b1.mono B.out.size)); clear b1; have q0 := LP.out.c 0 rfl; have q1 := LP.out.c 1 rfl; have q2 := LP.out.c 2 rfl; have q3 := LQ.out.c 0 rfl; have q4 := LQ.out.c 1 rfl; have q5 := LQ.out.c 2 rfl))
 clear q0 q1 q2 q3 q4 q5
 go_wp2
 go_ret
 exact ⟨rfl, B.out⟩
end Go.Proofs.YthkehmnodcmlcaaGreat
