/- Merged: Sr Ss St Sv. -/
import Derived.Test.YteanocjkdehhgaaFrb
import Derived.Test.YteanocjkdehhgaaSdm
import Derived.Deep.RegionHeld3
import Derived.Test.YteanocjkdehhgaaWsm
/- The reference: a valid fraction. -/
namespace Go.Proofs.Yteanocjkdehhgaa
open Go.RowKit
open Go.Lib (hid)
set_option linter.unusedVariables false

theorem l04One_row (a : Option Addr) (c : Nat) (A : List Int) (hA : A.length ≤ 1073741824) (w : World) (r : RowI w a A.length A) :
    Calls Try.prog 126 #[.slice a A.length c] w fun e w' => e = .returned (.bool (decide (A = [1]))) ∧ w = w' := by
  by_cases hl : A.length = 1
  · obtain ⟨x, rfl⟩ := List.length_eq_one_iff.1 hl
    obtain ⟨g, o, rfl, hg, hc⟩ := r.2 (by simp)
    have hc0 := hc 0 (by simp)
    simp only [Nat.add_zero, List.getElem_cons_zero] at hc0
    clear hc hl r
    by_cases hx : x = 1
    · subst hx
      go_enter Try.func126, Try.ntmps126
      go_wp2
      go_ret
      exact ⟨ret_bo (by simp), rfl⟩
    · have hx' : (x == 1) = false := beq_eq_false_iff_ne.2 hx
      have hd := hid (show false = decide ([x] = [1]) by simp [hx])
      go_enter Try.func126, Try.ntmps126
      go_wp2
      go_ret
      exact ⟨ret_bo hd.out, rfl⟩
  · have hl' : ((A.length : Int) == 1) = false := beq_eq_false_iff_ne.2 (by omega)
    have hd := hid (show false = decide (A = [1]) from (decide_eq_false fun e => hl (by rw [e]; rfl)).symm)
    clear hl
    go_enter Try.func126, Try.ntmps126
    go_wp2
    go_ret
    exact ⟨ret_bo hd.out, rfl⟩
theorem l04One_own (v : Value) (A : List Int) (hA : A.length ≤ 1073741824) (b : Nat) (w : World) (h : Ints w b v A) :
    Calls Try.prog 126 #[v] w fun e w' => e = .returned (.bool (decide (A = [1]))) ∧ w = w' := by
  obtain ⟨a, c, rfl, -, r, -⟩ := Ints_form h
  exact l04One_row a c A hA w r

/-- A fraction's struct that is the reference's own. -/
def OwnS (o : Option Rat) (w : World) (e : Ending) (w' : World) : Prop := ∃ v u, e = .returned (.agg #[.bool (gzs (qn o)), v, u]) ∧ Ints w' w.heap.size v (gzl (qn o)) ∧ Ints w' w.heap.size u (gzl (qd o)) ∧ Below w.heap.size w w'
theorem OwnS_out {o : Option Rat} {s : Bool} {A D : List Int} {w w4 : World} {v u : Value} {B C N : Nat} {T : TypeId} (hs : s = gzs (qn o)) (hA : A = gzl (qn o)) (hD : D = gzl (qd o)) (hN : w.heap.size ≤ N) {cs : Array Value} (hL : LocA T w4 N cs) (hT : T ≠ 3) (hB : w.heap.size ≤ B) (hC : w.heap.size ≤ C) (h1 : Ints w4 B v A) (h2 : Ints w4 C u D) (hb : Below w.heap.size w w4) :
    OwnS o w (.returned (.agg #[.bool s, v, u])) (((w4.setCell ⟨N, 0, none⟩ (.bool s)).setCell ⟨N, 1, none⟩ v).setCell ⟨N, 2, none⟩ u) := by
  have n1 := hL.ne hT h1
  have n2 := hL.ne hT h2
  rw [hs]
  rw [hA] at h1
  rw [hD] at h2
  exact ⟨v, u, rfl, Ints_base (Ints_set (Ints_set (Ints_set h1 n1) n1) n1) hB, Ints_base (Ints_set (Ints_set (Ints_set h2 n2) n2) n2) hC, ((hb.setCell hN _).setCell hN _).setCell hN _⟩
theorem OwnS_none {o : Option Rat} {w w' : World} (ho : o = none) (hb : Below w.heap.size w w') : OwnS o w (.returned (.agg #[.bool false, .slice none 0 0, .slice none 0 0])) w' := by
  obtain ⟨v, u, h1, h2, h3, -, h4⟩ := OwnR_none ho hb
  exact ⟨v, u, h1, h2, h3, h4⟩
theorem OwnS_zero {o : Option Rat} {w w4 : World} {N : Nat} (ho : o = none) (hN : w.heap.size ≤ N) (hb : Below w.heap.size w w4) :
    OwnS o w (.returned (.agg #[.bool false, .slice none 0 0, .slice none 0 0])) (((w4.setCell ⟨N, 0, none⟩ (.bool false)).setCell ⟨N, 1, none⟩ (.slice none 0 0)).setCell ⟨N, 2, none⟩ (.slice none 0 0)) :=
  OwnS_none ho (((hb.setCell hN _).setCell hN _).setCell hN _)

set_option maxRecDepth 100000 in
set_option maxHeartbeats 6400000 in
theorem spec_RatOk (s : Bool) (v u : Value) (A D : List Int) (w : World) (h : RL w v u A D) :
    Calls Try.prog 112 #[.agg #[.bool s, v, u]] w (RetB (.bool (rok s A D)) w) := by
  have hA : A.length ≤ 1073741824 := by have := h.la; omega
  have hD : D.length ≤ 1073741824 := by have := h.ld; omega
  obtain ⟨b1, i1⟩ := h.a
  obtain ⟨b2, i2⟩ := h.d
  have K1 := hid (fun (W : World) (h : Ints W b1 v A) => spec_BigIntOk_own s v A hA b1 W h)
  have K2 := hid (fun (W : World) (h : Ints W b2 u D) => spec_NatOk_own u D hD b2 W h)
  have K3 := hid (fun (nA : nok A = true) (nD : nok D = true) (W : World) (h1 : Ints W b1 v A) (h2 : Ints W b2 u D) => l02Gcd_any v u A D (nok_len nA) (nok_len nD) (nok_iff.1 nA).2 (nok_iff.1 nD).2 b1 b2 W h1 h2)
  obtain ⟨z, hz⟩ : ∃ z, z = rok s A D := ⟨_, rfl⟩
  have HZ := hid hz
  rw [← hz]
  clear hz
  obtain ⟨a, c, b, d, rfl, rfl⟩ := h.form
  have B := hid (show Below w.heap.size w (w.alloc (.cells #[.bool s, .slice a A.length c, .slice b D.length d] 33)) from (Below.refl _ _).alloc (Nat.le_refl _) _)
  have LP := hid (show LocA 33 (w.alloc (.cells #[.bool s, .slice a A.length c, .slice b D.length d] 33)) (w.heap.size) #[.bool s, .slice a A.length c, .slice b D.length d] from (LocA.at (by simp)))
  generalize hW : w.alloc (.cells #[.bool s, .slice a A.length c, .slice b D.length d] 33) = W0 at B LP 
  have HW := hid hW
  clear hW
  have hs0 := B.out.size
  have I1 := hid (Ints_old i1 B.out)
  have I2 := hid (Ints_old i2 B.out)
  clear h i1 i2
  obtain ⟨p1, hp1⟩ : ∃ p, p = bok s A := ⟨_, rfl⟩
  rw [← hp1] at K1
  obtain ⟨p2, hp2⟩ : ∃ p, p = nok D := ⟨_, rfl⟩
  rw [← hp2] at K2
  have HR := hid (show rok s A D = (p1 && p2 && decide (0 < D.length) && decide (A.length ≤ 24) && decide (D.length ≤ 24) && decide (G (val A) (val D) = 1)) by rw [hp1, hp2]; rfl)
  have NA := hid (show p1 = true → nok A = true from fun h => (bok_iff.1 (hp1.symm.trans h)).1)
  have ND := hid (show p2 = true → nok D = true from fun h => hp2.symm.trans h)
  clear hp1 hp2
  cases p1 with
  | false =>
    have hE := hid (show z = false by rw [HZ.out, HR.out]; rfl)
    go_enter Try.func112, Try.ntmps112
    have q0 := LP.out.c 0 rfl
    have q1 := LP.out.c 1 rfl
    go_wp2_with fail
    rw [HW.out]
    (with_reducible refine (K1.out _ I1.out).mono ?_)
    clear q0 q1
    rintro e w1 ⟨rfl, b1⟩
    have B := hid (B.out.trans (b1.mono B.out.size))
    clear b1
    go_wp2
    go_ret
    exact ⟨ret_bo hE.out.symm, B.out⟩
  | true =>
  cases p2 with
  | false =>
    have hE := hid (show z = false by rw [HZ.out, HR.out]; rfl)
    go_enter Try.func112, Try.ntmps112
    have q0 := LP.out.c 0 rfl
    have q1 := LP.out.c 1 rfl
    go_wp2_with fail
    rw [HW.out]
    (with_reducible refine (K1.out _ I1.out).mono ?_)
    clear q0 q1
    rintro e w1 ⟨rfl, b1⟩
    have I2 := hid (Ints_old I2.out b1)
    have LP := hid (LP.out.old b1)
    have B := hid (B.out.trans (b1.mono B.out.size))
    clear b1
    have q0 := LP.out.c 2 rfl
    go_wp2_with fail
    (with_reducible refine (K2.out _ I2.out).mono ?_)
    clear q0
    rintro e w2 ⟨rfl, b1⟩
    have I2 := hid (Ints_old I2.out b1)
    have LP := hid (LP.out.old b1)
    have B := hid (B.out.trans (b1.mono B.out.size))
    clear b1
    go_wp2
    go_ret
    exact ⟨ret_bo hE.out.symm, B.out⟩
  | true =>
  by_cases hd0 : D.length = 0
  · skip
    have hE := hid (show z = false by rw [HZ.out, HR.out, decide_eq_false (show ¬ 0 < D.length by omega)]; simp)
    have c0 : ((D.length : Int) == 0) = true := by simp [hd0]
    clear hd0
    go_enter Try.func112, Try.ntmps112
    have q0 := LP.out.c 0 rfl
    have q1 := LP.out.c 1 rfl
    go_wp2_with fail
    rw [HW.out]
    (with_reducible refine (K1.out _ I1.out).mono ?_)
    clear q0 q1
    rintro e w1 ⟨rfl, b1⟩
    have I2 := hid (Ints_old I2.out b1)
    have LP := hid (LP.out.old b1)
    have I1 := hid (Ints_old I1.out b1)
    have B := hid (B.out.trans (b1.mono B.out.size))
    clear b1
    have q0 := LP.out.c 2 rfl
    go_wp2_with fail
    (with_reducible refine (K2.out _ I2.out).mono ?_)
    clear q0
    rintro e w2 ⟨rfl, b1⟩
    have I2 := hid (Ints_old I2.out b1)
    have LP := hid (LP.out.old b1)
    have I1 := hid (Ints_old I1.out b1)
    have B := hid (B.out.trans (b1.mono B.out.size))
    clear b1
    have q0 := LP.out.c 1 rfl
    have q1 := LP.out.c 2 rfl
    go_wp2
    go_ret
    exact ⟨ret_bo hE.out.symm, B.out⟩
  have c0 : ((D.length : Int) == 0) = false := beq_eq_false_iff_ne.2 (by omega)
  have d0 := decide_eq_true (show 0 < D.length by omega)
  clear hd0
  by_cases hd1 : 24 < (D.length : Int)
  · skip
    have hE := hid (show z = false by rw [HZ.out, HR.out, decide_eq_false (show ¬ D.length ≤ 24 by omega)]; simp)
    go_enter Try.func112, Try.ntmps112
    have q0 := LP.out.c 0 rfl
    have q1 := LP.out.c 1 rfl
    go_wp2_with fail
    rw [HW.out]
    (with_reducible refine (K1.out _ I1.out).mono ?_)
    clear q0 q1
    rintro e w1 ⟨rfl, b1⟩
    have I2 := hid (Ints_old I2.out b1)
    have LP := hid (LP.out.old b1)
    have I1 := hid (Ints_old I1.out b1)
    have B := hid (B.out.trans (b1.mono B.out.size))
    clear b1
    have q0 := LP.out.c 2 rfl
    go_wp2_with fail
    (with_reducible refine (K2.out _ I2.out).mono ?_)
    clear q0
    rintro e w2 ⟨rfl, b1⟩
    have I2 := hid (Ints_old I2.out b1)
    have LP := hid (LP.out.old b1)
    have I1 := hid (Ints_old I1.out b1)
    have B := hid (B.out.trans (b1.mono B.out.size))
    clear b1
    have q0 := LP.out.c 1 rfl
    have q1 := LP.out.c 2 rfl
    go_wp2
    go_ret
    exact ⟨ret_bo hE.out.symm, B.out⟩
  have d1 := decide_eq_true (show D.length ≤ 24 by omega)
  by_cases hd2 : 24 < (A.length : Int)
  · skip
    have hE := hid (show z = false by rw [HZ.out, HR.out, decide_eq_false (show ¬ A.length ≤ 24 by omega)]; simp)
    go_enter Try.func112, Try.ntmps112
    have q0 := LP.out.c 0 rfl
    have q1 := LP.out.c 1 rfl
    go_wp2_with fail
    rw [HW.out]
    (with_reducible refine (K1.out _ I1.out).mono ?_)
    clear q0 q1
    rintro e w1 ⟨rfl, b1⟩
    have I2 := hid (Ints_old I2.out b1)
    have LP := hid (LP.out.old b1)
    have I1 := hid (Ints_old I1.out b1)
    have B := hid (B.out.trans (b1.mono B.out.size))
    clear b1
    have q0 := LP.out.c 2 rfl
    go_wp2_with fail
    (with_reducible refine (K2.out _ I2.out).mono ?_)
    clear q0
    rintro e w2 ⟨rfl, b1⟩
    have I2 := hid (Ints_old I2.out b1)
    have LP := hid (LP.out.old b1)
    have I1 := hid (Ints_old I1.out b1)
    have B := hid (B.out.trans (b1.mono B.out.size))
    clear b1
    have q0 := LP.out.c 1 rfl
    have q1 := LP.out.c 2 rfl
    go_wp2
    go_ret
    exact ⟨ret_bo hE.out.symm, B.out⟩
  have d2 := decide_eq_true (show A.length ≤ 24 by omega)
  have nA := NA.out (by simp)
  have nD := ND.out (by simp)
  have g0 : 0 ≤ G (val A) (val D) := G_nonneg _ _
  have KG := hid (K3.out nA nD)
  obtain ⟨M, hM⟩ : ∃ M, M = rep (G (val A) (val D)).toNat := ⟨_, rfl⟩
  rw [← hM] at KG
  have lM : M.length ≤ 1073741824 := by rw [hM]; have := rep_len (V := G (val A) (val D)) (G_le (val_nonneg (nok_lim nA)) (val_nonneg (nok_lim nD)) (nok_lt nA) (nok_lt nD)); omega
  have hE := hid (show decide (M = [1]) = z by rw [HZ.out, HR.out, d0, d1, d2, hM]; simp only [Bool.true_and]; exact decide_eq_decide.2 (rep_one.trans (by omega)))
  clear hM d0 d1 d2 g0 nA nD NA ND HR HZ K3
  go_enter Try.func112, Try.ntmps112
  have q0 := LP.out.c 0 rfl
  have q1 := LP.out.c 1 rfl
  go_wp2_with fail
  rw [HW.out]
  (with_reducible refine (K1.out _ I1.out).mono ?_)
  clear q0 q1
  rintro e w1 ⟨rfl, b1⟩
  have I2 := hid (Ints_old I2.out b1)
  have LP := hid (LP.out.old b1)
  have I1 := hid (Ints_old I1.out b1)
  have B := hid (B.out.trans (b1.mono B.out.size))
  clear b1
  have q0 := LP.out.c 2 rfl
  go_wp2_with fail
  (with_reducible refine (K2.out _ I2.out).mono ?_)
  clear q0
  rintro e w2 ⟨rfl, b1⟩
  have I2 := hid (Ints_old I2.out b1)
  have LP := hid (LP.out.old b1)
  have I1 := hid (Ints_old I1.out b1)
  have B := hid (B.out.trans (b1.mono B.out.size))
  clear b1
  have q0 := LP.out.c 1 rfl
  have q1 := LP.out.c 2 rfl
  go_wp2_with fail
  (with_reducible refine (KG.out _ I1.out I2.out).mono ?_)
  clear q0 q1
  rintro e w3 ⟨g, rfl, ig, b1⟩
  have I2 := hid (Ints_old I2.out b1)
  have LP := hid (LP.out.old b1)
  have I1 := hid (Ints_old I1.out b1)
  have B := hid (B.out.trans (b1.mono B.out.size))
  have KO := hid (l04One_own g M lM _ w3 ig)
  rw [hE.out] at KO
  clear ig b1 hE
  go_wp2_with fail
  (with_reducible refine (KO.out).mono ?_)
  rintro e w4 ⟨rfl, rfl⟩
  go_wp2
  go_ret
  exact ⟨rfl, B.out⟩
end Go.Proofs.Yteanocjkdehhgaa

/- The reference: a fraction in lowest terms. -/
namespace Go.Proofs.Yteanocjkdehhgaa
open Go.RowKit
open Go.Lib (hid)
set_option linter.unusedVariables false

end Go.Proofs.Yteanocjkdehhgaa

/- The reference: fractions of integers and of ints. -/
namespace Go.Proofs.Yteanocjkdehhgaa
open Go.RowKit
open Go.Lib (hid)
set_option linter.unusedVariables false

theorem mk_neg (n d : Int) : mkFr n (-d) = mkFr (-n) d := by
  unfold mkFr
  by_cases h : d = 0
  · subst h; rfl
  · rw [if_neg h, if_neg (by omega), Rat.divInt_neg']
theorem mk_sign (s t : Bool) (X Y : Int) : mkFr (sval (s != t) X) Y = mkFr (sval s X) (sval t Y) := by
  cases t with
  | false => rw [show (s != false) = s by cases s <;> rfl]; rfl
  | true =>
    show _ = mkFr (sval s X) (-Y)
    rw [mk_neg]
    cases s
    · rfl
    · show mkFr X Y = mkFr (- -X) Y
      rw [Int.neg_neg]

set_option maxRecDepth 100000 in
set_option maxHeartbeats 3200000 in
theorem spec_RatFromInt (n : Int) (n0 : -9223372036854775808 ≤ n) (n1 : n ≤ 9223372036854775807) (w : World) :
    Calls Try.prog 103 #[.int .i64 n] w (OwnS (some (n : Rat)) w) := by
  obtain ⟨e1, e2⟩ := int_parts n
  obtain ⟨o, ho⟩ : ∃ o, o = some (n : Rat) := ⟨_, rfl⟩
  rw [← ho] at e1 e2 ⊢
  clear ho
  have HD := hid (show [1] = gzl (qd o) by rw [e2, gzl_one]; exact (rep_one.2 rfl).symm)
  have KN := hid (show ∀ W : World, Calls Try.prog 121 #[.int .i64 n] W (OwnG (gzs (qn o)) (gzl (qn o)) W) from by rw [e1]; exact fun W => spec_BigIntOf n n0 n1 W)
  clear e1 e2
  obtain ⟨gs, hgs⟩ : ∃ g, g = gzs (qn o) := ⟨_, rfl⟩
  have HGS := hid hgs
  rw [← hgs] at KN
  clear hgs
  have B := hid (show Below w.heap.size w (w.alloc (.cells #[.bool false, .slice none 0 0, .slice none 0 0] 33)) from (Below.refl _ _).alloc (Nat.le_refl _) _)
  have LR := hid (show LocA 33 (w.alloc (.cells #[.bool false, .slice none 0 0, .slice none 0 0] 33)) (w.heap.size) #[.bool false, .slice none 0 0, .slice none 0 0] from (LocA.at (by simp)))
  generalize hW : w.alloc (.cells #[.bool false, .slice none 0 0, .slice none 0 0] 33) = W0 at B LR 
  have HW := hid hW
  clear hW
  have hs0 := B.out.size
  go_enter Try.func103, Try.ntmps103
  go_wp2_with fail
  rw [HW.out]
  (with_reducible refine (KN.out _).mono ?_)
  rintro e w1 ⟨r, rfl, i1, b1⟩
  have LR := hid (LR.out.old b1)
  have B := hid (B.out.trans (b1.mono B.out.size))
  have I1 := hid i1
  obtain ⟨a1, c1, rfl, -⟩ := Ints_form i1
  clear i1 b1
  have hs2 := B.out.size
  have BL := hid (B.out.alloc hs2 (.cells #[.int .i64 1] 3))
  have LR := hid (LR.out.new1 (o := .cells #[.int .i64 1] 3))
  have j1 := Ints_old I1.out (below_new' (o := .cells #[.int .i64 1] 3))
  have j2 := Ints_lit1 (w := w1) (B := w1.heap.size) 1 (Nat.le_refl _)
  have f0 := LR.out.f 0
  have f1 := LR.out.f 1
  have f2 := LR.out.f 2
  have p0 := LR.out.c 0 rfl
  have p1 := LR.out.c 1 rfl
  have p2 := LR.out.c 2 rfl
  have R := hid (OwnS_out (o := o) (N := w.heap.size) HGS.out rfl HD.out (Nat.le_refl _) LR.out (by decide) hs0 hs2 j1 j2 BL.out)
  clear j1 j2
  go_wp2
  exact bodyPost_ret (v := .agg #[.bool gs, .slice a1 _ c1, .slice (some ⟨w1.heap.size, 0, none⟩) 1 1]) (by simp [results, Try.results103, go_sem, p0, p1, p2]) rfl R.out
end Go.Proofs.Yteanocjkdehhgaa

/- The reference: products, quotients and the order of two valid fractions. -/
namespace Go.Proofs.Yteanocjkdehhgaa
open Go.RowKit
open Go.Lib (hid)
set_option linter.unusedVariables false

theorem mul_p {w : World} {v u : Value} {A B : List Int} {b1 b2 : Nat} (h1 : Ints w b1 v A) (h2 : Ints w b2 u B) (nA : nok A = true) (nB : nok B = true) :
    Calls Try.prog 147 #[v, u] w (OwnP (rep (val A * val B).toNat) w) := by
  obtain ⟨a, c, rfl, -, r1, -⟩ := Ints_form h1
  obtain ⟨a', c', rfl, -, r2, -⟩ := Ints_form h2
  exact l02Mul_any a a' _ _ c c' A B (by have := nok_len nA; omega) (by have := nok_len nB; omega) (nok_lim nA) (nok_lim nB) w r1 r2
theorem make_z {w : World} {s : Bool} {p : Value} {b : Nat} {V : Int} (h : Ints w b p (rep V.toNat)) (h0 : 0 ≤ V) (hl : V < pw 60) :
    Calls Try.prog 131 #[.bool s, p] w (OwnZ (sval s V) w) := by
  have hh := l03Make_own s b p (rep V.toNat) (by have := rep_len hl; omega) (Lim_rep _) w h
  rw [val_rep' h0] at hh
  exact hh
theorem rok_lt {s : Bool} {A D : List Int} (h : rok s A D = true) : (0 ≤ val A ∧ val A < pw 24) ∧ (0 ≤ val D ∧ val D < pw 24) := by
  obtain ⟨o1, o2, -, l1, l2, -⟩ := rok_iff.1 h
  have nA := (bok_iff.1 o1).1
  exact ⟨⟨val_nonneg (nok_lim nA), (Can_len (nok_iff.1 nA).2).1 l1⟩, ⟨val_nonneg (nok_lim o2), (Can_len (nok_iff.1 o2).2).1 l2⟩⟩
theorem mul48 {x y : Int} (hx : 0 ≤ x ∧ x < pw 24) (hy : 0 ≤ y ∧ y < pw 24) : 0 ≤ x * y ∧ x * y < pw 60 := by
  have h := mul_bd hx.1 hx.2 hy.1 hy.2
  rw [show pw 24 * pw 24 = pw 48 by decide] at h
  have := pw48
  have := pw_pos 48
  omega

end Go.Proofs.Yteanocjkdehhgaa
