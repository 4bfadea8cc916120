import Derived.Test.YteanocjkdehhgaaGreatFrb
import Derived.Test.YteanocjkdehhgaaGreatSdm
import Derived.Deep.RegionHeld3
import Derived.Test.YteanocjkdehhgaaGreatWsm
set_option maxRecDepth 100000
set_option maxHeartbeats 6400000
set_option linter.unusedVariables false
set_option linter.unusedSimpArgs false
namespace Go.Proofs.YteanocjkdehhgaaGreat
open Go.RowKit
open Go.Lib (hid)
theorem l04One_row (a : Option Addr) (c : Nat) (A : List Int) (hA : A.length ≤ 1073741824) (w : World) (r : RowI w a A.length A) :
  Calls Tryz.prog 150 #[.slice a A.length c] w fun e w' => e = .returned (.bool (decide (A = [1]))) ∧ w = w' := by
 by_cases hl : A.length = 1
 ·obtain ⟨x, rfl⟩ := List.length_eq_one_iff.1 hl
  obtain ⟨g, o, rfl, hg, hc⟩ := r.2 (by simp)
  have hc0 := hc 0 (by simp)
  simp only [Nat.add_zero, ka5] at hc0
  clear hc hl r
  by_cases hx : x = 1
  ·subst hx
   go_enter Tryz.func150, Tryz.ntmps150
   go_wp2
   go_ret
   exact ⟨ret_bo (by simp), rfl⟩
  ·have hx' : (x == 1) = false := beq_eq_false_iff_ne.2 hx
   have hd := hid (show false = decide ([x] = [1]) by simp [hx])
   go_enter Tryz.func150, Tryz.ntmps150
   go_wp2
   go_ret
   exact ⟨ret_bo hd.out, rfl⟩
 ·have hl' : ((A.length : Int) == 1) = false := beq_eq_false_iff_ne.2 (by omega)
  have hd := hid (show false = decide (A = [1]) from (decide_eq_false fun e => hl (by rw [e]; rfl)).symm)
  clear hl
  go_enter Tryz.func150, Tryz.ntmps150
  go_wp2
  go_ret
  exact ⟨ret_bo hd.out, rfl⟩
theorem l04One_own (v : Value) (A : List Int) (hA : A.length ≤ 1073741824) (b : Nat) (w : World) (h : Ints w b v A) :
  Calls Tryz.prog 150 #[v] w fun e w' => e = .returned (.bool (decide (A = [1]))) ∧ w = w' := by
 obtain ⟨a, c, rfl, -, r, -⟩ := Ints_form h
 exact l04One_row a c A hA w r
theorem spec_RatOk (s : Bool) (v u : Value) (A D : List Int) (w : World) (h : RL w v u A D) :
  Calls Tryz.prog 78 #[.agg #[.bool s, v, u]] w (RetB (.bool (rok s A D)) w) := by
 have hA : A.length ≤ 1073741824 := by have := h.la; omega
 have hD : D.length ≤ 1073741824 := by have := h.ld; omega
 obtain ⟨b1, i1⟩ := h.a
 obtain ⟨b2, i2⟩ := h.d
 have K1 := hid (fun (W : World) (h : Ints W b1 v A) => spec_BigIntOk_own s v A hA b1 W h)
 have K2 := hid (fun (W : World) (h : Ints W b2 u D) => spec_NatOk_own u D hD b2 W h)
 have K3 := hid (fun (nA : nok A = true) (nD : nok D = true) (W : World) (h1 : Ints W b1 v A) (h2 : Ints W b2 u D) => l02Gcd_any v u A D (nok_len nA) (nok_len nD) (nok_iff.1 nA).2 (nok_iff.1 nD).2 b1 b2 W h1 h2)
 obtain ⟨z, hz⟩ : ∃ z, z = rok s A D := ⟨_, rfl⟩
 have HZ := hid hz
 rw [← hz]
 clear hz
 obtain ⟨a, c, b, d, rfl, rfl⟩ := h.form
 have B := hid (show Below w.heap.size w (w.alloc (.cells #[.bool s, .slice a A.length c, .slice b D.length d] 53)) from (Below.refl _ _).alloc (Nat.le_refl _) _)
 have LP := hid (show LocA 53 (w.alloc (.cells #[.bool s, .slice a A.length c, .slice b D.length d] 53)) (w.heap.size) #[.bool s, .slice a A.length c, .slice b D.length d] from (LocA.at (by simp)))
 generalize hW : w.alloc (.cells #[.bool s, .slice a A.length c, .slice b D.length d] 53) = W0 at B LP
 have HW := hid hW
 clear hW
 have hs0 := B.out.size
 have I1 := hid (Ints_old i1 B.out)
 have I2 := hid (Ints_old i2 B.out)
 clear h i1 i2
 obtain ⟨p1, hp1⟩ : ∃ p, p = bok s A := ⟨_, rfl⟩
 rw [← hp1] at K1
 obtain ⟨p2, hp2⟩ : ∃ p, p = nok D := ⟨_, rfl⟩
 rw [← hp2] at K2
 have HR := hid (show rok s A D = (p1 && p2 && decide (0 < D.length) && decide (A.length ≤ 24) && decide (D.length ≤ 24) && decide (G (val A) (val D) = 1)) by rw [hp1, hp2]; rfl)
 have NA := hid (show p1 = true → nok A = true from fun h => (bok_iff.1 (hp1.symm.trans h)).1)
 have ND := hid (show p2 = true → nok D = true from fun h => hp2.symm.trans h)
 clear hp1 hp2
 cases p1 with
 |false =>
  have hE := hid (show z = false by rw [HZ.out, HR.out]; rfl)
  go_enter Tryz.func78, Tryz.ntmps78
  have q0 := LP.out.c 0 rfl
  have q1 := LP.out.c 1 rfl
  go_wp2_with fail
  rw [HW.out]
  (with_reducible refine (K1.out _ I1.out).mono ?_)
  clear q0 q1
  rintro e w1 ⟨rfl, b1⟩
  have B := hid (B.out.trans (b1.mono B.out.size))
  clear b1
  go_wp2
  go_ret
  exact ⟨ret_bo hE.out.symm, B.out⟩
 | true =>
 cases p2 with
 |false =>
  have hE := hid (show z = false by rw [HZ.out, HR.out]; rfl)
  go_enter Tryz.func78, Tryz.ntmps78
  have q0 := LP.out.c 0 rfl
  have q1 := LP.out.c 1 rfl
  go_wp2_with fail
  rw [HW.out]
  (with_reducible refine (K1.out _ I1.out).mono ?_)
  clear q0 q1
  rintro e w1 ⟨rfl, b1⟩
  have I2 := hid (Ints_old I2.out b1)
  have LP := hid (LP.out.old b1)
  have B := hid (B.out.trans (b1.mono B.out.size))
  clear b1
  have q0 := LP.out.c 2 rfl
  go_wp2_with fail
  (with_reducible refine (K2.out _ I2.out).mono ?_)
  clear q0
  rintro e w2 ⟨rfl, b1⟩
  have I2 := hid (Ints_old I2.out b1)
  have LP := hid (LP.out.old b1)
  have B := hid (B.out.trans (b1.mono B.out.size))
  clear b1
  go_wp2
  go_ret
  exact ⟨ret_bo hE.out.symm, B.out⟩
 | true =>
 by_cases hd0 : D.length = 0
 ·skip
  have hE := hid (show z = false by rw [HZ.out, HR.out, decide_eq_false (show ¬ 0 < D.length by omega)]; simp)
  have c0 : ((D.length : Int) == 0) = true := by simp [hd0]
  clear hd0
  go_enter Tryz.func78, Tryz.ntmps78
  have q0 := LP.out.c 0 rfl
  have q1 := LP.out.c 1 rfl
  go_wp2_with fail
  rw [HW.out]
  (with_reducible refine (K1.out _ I1.out).mono ?_)
  clear q0 q1
  rintro e w1 ⟨rfl, b1⟩
  have I2 := hid (Ints_old I2.out b1)
  have LP := hid (LP.out.old b1)
  have I1 := hid (Ints_old I1.out b1)
  have B := hid (B.out.trans (b1.mono B.out.size))
  clear b1
  have q0 := LP.out.c 2 rfl
  go_wp2_with fail
  (with_reducible refine (K2.out _ I2.out).mono ?_)
  clear q0
  rintro e w2 ⟨rfl, b1⟩
  have I2 := hid (Ints_old I2.out b1)
  have LP := hid (LP.out.old b1)
  have I1 := hid (Ints_old I1.out b1)
  have B := hid (B.out.trans (b1.mono B.out.size))
  clear b1
  have q0 := LP.out.c 1 rfl
  have q1 := LP.out.c 2 rfl
  go_wp2
  go_ret
  exact ⟨ret_bo hE.out.symm, B.out⟩
 have c0 : ((D.length : Int) == 0) = false := beq_eq_false_iff_ne.2 (by omega)
 have d0 := decide_eq_true (show 0 < D.length by omega)
 clear hd0
 by_cases hd1 : 24 < (D.length : Int)
 ·skip
  have hE := hid (show z = false by rw [HZ.out, HR.out, decide_eq_false (show ¬ D.length ≤ 24 by omega)]; simp)
  go_enter Tryz.func78, Tryz.ntmps78
  have q0 := LP.out.c 0 rfl
  have q1 := LP.out.c 1 rfl
  go_wp2_with fail
  rw [HW.out]
  (with_reducible refine (K1.out _ I1.out).mono ?_)
  clear q0 q1
  rintro e w1 ⟨rfl, b1⟩
  have I2 := hid (Ints_old I2.out b1)
  have LP := hid (LP.out.old b1)
  have I1 := hid (Ints_old I1.out b1)
  have B := hid (B.out.trans (b1.mono B.out.size))
  clear b1
  have q0 := LP.out.c 2 rfl
  go_wp2_with fail
  (with_reducible refine (K2.out _ I2.out).mono ?_)
  clear q0
  rintro e w2 ⟨rfl, b1⟩
  have I2 := hid (Ints_old I2.out b1)
  have LP := hid (LP.out.old b1)
  have I1 := hid (Ints_old I1.out b1)
  have B := hid (B.out.trans (b1.mono B.out.size))
  clear b1
  have q0 := LP.out.c 1 rfl
  have q1 := LP.out.c 2 rfl
  go_wp2
  go_ret
  exact ⟨ret_bo hE.out.symm, B.out⟩
 have d1 := decide_eq_true (show D.length ≤ 24 by omega)
 by_cases hd2 : 24 < (A.length : Int)
 ·skip
  have hE := hid (show z = false by rw [HZ.out, HR.out, decide_eq_false (show ¬ A.length ≤ 24 by omega)]; simp)
  go_enter Tryz.func78, Tryz.ntmps78
  have q0 := LP.out.c 0 rfl
  have q1 := LP.out.c 1 rfl
  go_wp2_with fail
  rw [HW.out]
  (with_reducible refine (K1.out _ I1.out).mono ?_)
  clear q0 q1
  rintro e w1 ⟨rfl, b1⟩
  have I2 := hid (Ints_old I2.out b1)
  have LP := hid (LP.out.old b1)
  have I1 := hid (Ints_old I1.out b1)
  have B := hid (B.out.trans (b1.mono B.out.size))
  clear b1
  have q0 := LP.out.c 2 rfl
  go_wp2_with fail
  (with_reducible refine (K2.out _ I2.out).mono ?_)
  clear q0
  rintro e w2 ⟨rfl, b1⟩
  have I2 := hid (Ints_old I2.out b1)
  have LP := hid (LP.out.old b1)
  have I1 := hid (Ints_old I1.out b1)
  have B := hid (B.out.trans (b1.mono B.out.size))
  clear b1
  have q0 := LP.out.c 1 rfl
  have q1 := LP.out.c 2 rfl
  go_wp2
  go_ret
  exact ⟨ret_bo hE.out.symm, B.out⟩
 have d2 := decide_eq_true (show A.length ≤ 24 by omega)
 have nA := NA.out (by simp)
 have nD := ND.out (by simp)
 have g0 : 0 ≤ G (val A) (val D) := G_nonneg _ _
 have KG := hid (K3.out nA nD)
 obtain ⟨M, hM⟩ : ∃ M, M = rep (G (val A) (val D)).toNat := ⟨_, rfl⟩
 rw [← hM] at KG
 have lM : M.length ≤ 1073741824 := by rw [hM]; have := rep_len (V := G (val A) (val D)) (G_le (val_nonneg (nok_lim nA)) (val_nonneg (nok_lim nD)) (nok_lt nA) (nok_lt nD)); omega
 have hE := hid (show decide (M = [1]) = z by rw [HZ.out, HR.out, d0, d1, d2, hM]; simp only [Bool.true_and]; exact decide_eq_decide.2 (rep_one.trans (by omega)))
 clear hM d0 d1 d2 g0 nA nD NA ND HR HZ K3
 go_enter Tryz.func78, Tryz.ntmps78
 have q0 := LP.out.c 0 rfl
 have q1 := LP.out.c 1 rfl
 go_wp2_with fail
 rw [HW.out]
 (with_reducible refine (K1.out _ I1.out).mono ?_)
 clear q0 q1
 rintro e w1 ⟨rfl, b1⟩
 have I2 := hid (Ints_old I2.out b1)
 have LP := hid (LP.out.old b1)
 have I1 := hid (Ints_old I1.out b1)
 have B := hid (B.out.trans (b1.mono B.out.size))
 clear b1
 have q0 := LP.out.c 2 rfl
 go_wp2_with fail
 (with_reducible refine (K2.out _ I2.out).mono ?_)
 clear q0
 rintro e w2 ⟨rfl, b1⟩
 have I2 := hid (Ints_old I2.out b1)
 have LP := hid (LP.out.old b1)
 have I1 := hid (Ints_old I1.out b1)
 have B := hid (B.out.trans (b1.mono B.out.size))
 clear b1
 have q0 := LP.out.c 1 rfl
 have q1 := LP.out.c 2 rfl
 go_wp2_with fail
 (with_reducible refine (KG.out _ I1.out I2.out).mono ?_)
 clear q0 q1
 rintro e w3 ⟨g, rfl, ig, b1⟩
 have I2 := hid (Ints_old I2.out b1)
 have LP := hid (LP.out.old b1)
 have I1 := hid (Ints_old I1.out b1)
 have B := hid (B.out.trans (b1.mono B.out.size))
 have KO := hid (l04One_own g M lM _ w3 ig)
 rw [hE.out] at KO
 clear ig b1 hE
 go_wp2_with fail
 (with_reducible refine (KO.out).mono ?_)
 rintro e w4 ⟨rfl, rfl⟩
 go_wp2
 go_ret
 exact ⟨rfl, B.out⟩
end Go.Proofs.YteanocjkdehhgaaGreat
namespace Go.Proofs.YteanocjkdehhgaaGreat
open Go.RowKit
open Go.Lib (hid)
end Go.Proofs.YteanocjkdehhgaaGreat
namespace Go.Proofs.YteanocjkdehhgaaGreat
open Go.RowKit
open Go.Lib (hid)
end Go.Proofs.YteanocjkdehhgaaGreat
namespace Go.Proofs.YteanocjkdehhgaaGreat
open Go.RowKit
open Go.Lib (hid)
end Go.Proofs.YteanocjkdehhgaaGreat
