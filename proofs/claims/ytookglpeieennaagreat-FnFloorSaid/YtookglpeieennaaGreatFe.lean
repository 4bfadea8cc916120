/- The reference's BigIntFloorDiv. -/
import Derived.Test.YtookglpeieennaaGreatFdm
import Derived.Test.YtookglpeieennaaGreatSdd
import Derived.Test.YtookglpeieennaaGreatWsm
namespace Go.Proofs.YtookglpeieennaaGreat
open Go.RowKit
open Go.Lib (hid)
set_option linter.unusedVariables false

def FdS (q : Bool) (Q R : List Int) (w : World) (e : Ending) (w' : World) : Prop := ∃ v u, e = .returned (.tuple #[.agg #[.bool q, v], u]) ∧ Ints w' w.heap.size v Q ∧ Ints w' w.heap.size u R ∧ Below w.heap.size w w'
theorem FdS_mk {q q' : Bool} {Q R Q' R' : List Int} {w w' : World} {v u : Value} (hq : q' = q) (hQ : Q' = Q) (hR : R' = R) (h1 : Ints w' w.heap.size v Q') (h2 : Ints w' w.heap.size u R') (hb : Below w.heap.size w w') :
    FdS q Q R w (.returned (.tuple #[.agg #[.bool q', v], u])) w' := by subst hq; subst hQ; subst hR; exact ⟨v, u, rfl, h1, h2, hb⟩
theorem Can_leq {A B : List Int} (hA : Can A) (hB : Can B) (h : val B ≤ val A) : B.length ≤ A.length := by
  have := (Can_len hA (k := A.length)).1 (Nat.le_refl _)
  exact (Can_len hB).2 (by omega)

set_option maxRecDepth 100000 in
set_option maxHeartbeats 6400000 in
theorem spec_BigIntFloorDiv (s : Bool) (v u : Value) (A M : List Int) (hA : A.length ≤ 1073741824) (hM : M.length ≤ 1073741824) (b1 b2 : Nat) (w : World) (h1 : Ints w b1 v A) (h2 : Ints w b2 u M) :
    Calls Tryz.prog 149 #[.agg #[.bool s, v], u] w (FdS (gzs (fdQ s A M)) (gzl (fdQ s A M)) (fdR s A M) w) := by
  obtain ⟨Z, hZ⟩ : ∃ Z, Z = fdQ s A M := ⟨_, rfl⟩
  obtain ⟨R, hR⟩ : ∃ R, R = fdR s A M := ⟨_, rfl⟩
  have HZ := hid hZ
  have HR := hid hR
  rw [← hZ, ← hR]
  clear hZ hR
  obtain ⟨gs, hgs⟩ : ∃ g, g = gzs Z := ⟨_, rfl⟩
  rw [← hgs]
  have HGS := hid hgs
  clear hgs
  have KA := hid (fun (W : World) (h : Ints W b1 v A) => spec_BigIntOk_own s v A hA b1 W h)
  have B0 := hid (W2_below (w := w) (s := s) (v := v) (T := 25))
  have L1 := hid (W2_1 (w := w) (s := s) (v := v) (T := 25))
  have L0 := hid (W2_2 (w := w) (s := s) (v := v) (T := 25))
  have I1 := hid (Ints_old h1 B0.out)
  have I2 := hid (Ints_old h2 B0.out)
  obtain ⟨a, c, rfl, -⟩ := Ints_form h1
  obtain ⟨a', c', rfl, -⟩ := Ints_form h2
  have KB := hid (fun (W : World) (h : Ints W b2 (.slice a' M.length c') M) => spec_NatOk a' M.length c' M hM W (Ints_rowW h))
  clear h1 h2
  cases e1 : bok s A with
  | false =>
    have hE := hid (fd_no (s := s) (A := A) (M := M) (.inl e1))
    rw [e1] at KA
    clear e1
    go_enter Tryz.func149, Tryz.ntmps149
    go_wp2_with fail
    change Calls _ _ _ (W2 w s (.slice a A.length c) 25) _
    (with_reducible refine (KA.out _ I1.out).mono ?_)
    rintro e w1 ⟨rfl, b1⟩
    have B0 := hid (B0.out.trans (b1.mono B0.out.size))
    have L0 := hid (L0.out.old b1)
    clear b1
    have f0 := L0.out.f0 0
    have f1 := L0.out.f0 1
    have p0 := L0.out.c0
    have p1 := L0.out.c1
    have BB := hid (show Below w.heap.size w ((w1.setCell ⟨w.heap.size + 1, 0, none⟩ (.bool false)).setCell ⟨w.heap.size + 1, 1, none⟩ (.slice none 0 0)) from (B0.out.setCell (by simp) _).setCell (by simp) _)
    have RR := hid (show FdS gs (gzl Z) R w (.returned (.tuple #[.agg #[.bool false, .slice none 0 0], .slice none 0 0])) ((w1.setCell ⟨w.heap.size + 1, 0, none⟩ (.bool false)).setCell ⟨w.heap.size + 1, 1, none⟩ (.slice none 0 0)) from
      FdS_mk (by rw [HGS.out, HZ.out, hE.out.1, gzs_zero]) (by rw [HZ.out, hE.out.1, gzl_zero]) (by rw [HR.out, hE.out.2]) (Ints_nil _ _) (Ints_nil _ _) BB.out)
    go_wp2
    exact bodyPost_ret (v := .tuple #[.agg #[.bool false, .slice none 0 0], .slice none 0 0]) (by simp [results, Tryz.results149, go_sem, p0, p1]) rfl RR.out
  | true =>
    rw [e1] at KA
    cases e2 : nok M with
    | false =>
      have hE := hid (fd_no (s := s) (A := A) (M := M) (.inr (.inl e2)))
      rw [e2] at KB
      clear e1 e2
      go_enter Tryz.func149, Tryz.ntmps149
      go_wp2_with fail
      change Calls _ _ _ (W2 w s (.slice a A.length c) 25) _
      (with_reducible refine (KA.out _ I1.out).mono ?_)
      rintro e w1 ⟨rfl, b1⟩
      have B0 := hid (B0.out.trans (b1.mono B0.out.size))
      have I1 := hid (Ints_old I1.out b1)
      have I2 := hid (Ints_old I2.out b1)
      have L1 := hid (L1.out.old b1)
      have L0 := hid (L0.out.old b1)
      clear b1
      go_wp2_with fail
      (with_reducible refine (KB.out _ I2.out).mono ?_)
      rintro e w2 ⟨rfl, rfl⟩
      have f0 := L0.out.f0 0
      have f1 := L0.out.f0 1
      have p0 := L0.out.c0
      have p1 := L0.out.c1
      have BB := hid (show Below w.heap.size w ((w1.setCell ⟨w.heap.size + 1, 0, none⟩ (.bool false)).setCell ⟨w.heap.size + 1, 1, none⟩ (.slice none 0 0)) from (B0.out.setCell (by simp) _).setCell (by simp) _)
      have RR := hid (show FdS gs (gzl Z) R w (.returned (.tuple #[.agg #[.bool false, .slice none 0 0], .slice none 0 0])) ((w1.setCell ⟨w.heap.size + 1, 0, none⟩ (.bool false)).setCell ⟨w.heap.size + 1, 1, none⟩ (.slice none 0 0)) from
        FdS_mk (by rw [HGS.out, HZ.out, hE.out.1, gzs_zero]) (by rw [HZ.out, hE.out.1, gzl_zero]) (by rw [HR.out, hE.out.2]) (Ints_nil _ _) (Ints_nil _ _) BB.out)
      go_wp2
      exact bodyPost_ret (v := .tuple #[.agg #[.bool false, .slice none 0 0], .slice none 0 0]) (by simp [results, Tryz.results149, go_sem, p0, p1]) rfl RR.out
    | true =>
      rw [e2] at KB
      by_cases h0 : M.length = 0
      · have hE := hid (fd_no (s := s) (A := A) (M := M) (.inr (.inr (List.length_eq_zero_iff.1 h0))))
        have hz : ((M.length : Int) == 0) = true := by rw [h0]; rfl
        clear h0 e1 e2
        go_enter Tryz.func149, Tryz.ntmps149
        go_wp2_with fail
        change Calls _ _ _ (W2 w s (.slice a A.length c) 25) _
        (with_reducible refine (KA.out _ I1.out).mono ?_)
        rintro e w1 ⟨rfl, b1⟩
        have B0 := hid (B0.out.trans (b1.mono B0.out.size))
        have I1 := hid (Ints_old I1.out b1)
        have I2 := hid (Ints_old I2.out b1)
        have L1 := hid (L1.out.old b1)
        have L0 := hid (L0.out.old b1)
        clear b1
        go_wp2_with fail
        (with_reducible refine (KB.out _ I2.out).mono ?_)
        rintro e w2 ⟨rfl, rfl⟩
        have f0 := L0.out.f0 0
        have f1 := L0.out.f0 1
        have p0 := L0.out.c0
        have p1 := L0.out.c1
        have BB := hid (show Below w.heap.size w ((w1.setCell ⟨w.heap.size + 1, 0, none⟩ (.bool false)).setCell ⟨w.heap.size + 1, 1, none⟩ (.slice none 0 0)) from (B0.out.setCell (by simp) _).setCell (by simp) _)
        have RR := hid (show FdS gs (gzl Z) R w (.returned (.tuple #[.agg #[.bool false, .slice none 0 0], .slice none 0 0])) ((w1.setCell ⟨w.heap.size + 1, 0, none⟩ (.bool false)).setCell ⟨w.heap.size + 1, 1, none⟩ (.slice none 0 0)) from
          FdS_mk (by rw [HGS.out, HZ.out, hE.out.1, gzs_zero]) (by rw [HZ.out, hE.out.1, gzl_zero]) (by rw [HR.out, hE.out.2]) (Ints_nil _ _) (Ints_nil _ _) BB.out)
        go_wp2
        exact bodyPost_ret (v := .tuple #[.agg #[.bool false, .slice none 0 0], .slice none 0 0]) (by simp [results, Tryz.results149, go_sem, p0, p1]) rfl RR.out
      · have hz : ((M.length : Int) == 0) = false := beq_eq_false_iff_ne.2 (by omega)
        have hne : M ≠ [] := fun h => h0 (by rw [h]; rfl)
        have hY := hid (fd_yes e1 e2 hne)
        have nA := hid (bok_iff.1 e1).1
        have nM := hid e2
        have hm := hid (val_pos e2 hne)
        have vA := hid (val_nonneg (nok_lim nA.out))
        have hq0 := hid (Int.ediv_nonneg vA.out (Int.le_of_lt hm.out))
        have hr0 := hid (Int.emod_nonneg (val A) (show val M ≠ 0 by have := hm.out; omega))
        have hr1 := hid (Int.emod_lt_of_pos (val A) hm.out)
        have hqA := hid (show val A / val M ≤ val A from Int.ediv_le_self _ vA.out)
        have hqA' := nok_len nA.out
        have hqM' := nok_len nM.out
        have KD := hid (fun (W : World) (h : Ints W b1 (.slice a A.length c) A) (h' : Ints W b2 (.slice a' M.length c') M) => l02Div_any a a' _ _ c c' A M hqA' hqM' (nok_lim nA.out) (nok_iff.1 nM.out).2 hm.out W (Ints_rowW h) (Ints_rowW h'))
        have hlq := rep_len (V := val A / val M) (by have := nok_lt nA.out; have := hqA.out; omega)
        clear h0 e1 e2 hne
        obtain ⟨q, hq⟩ : ∃ q, q = val A / val M := ⟨_, rfl⟩
        obtain ⟨r, hr⟩ : ∃ r, r = val A % val M := ⟨_, rfl⟩
        rw [← hq] at KD hlq hqA hq0
        rw [← hr] at KD hr0 hr1
        have HQ := hid hq
        have HRR := hid hr
        clear hq hr
        have hrl : r ≠ 0 → 0 < (rep r.toNat).length := fun h => List.length_pos_iff.2 (rep_ne (by have := hr0.out; omega))
        have hrz : r = 0 → (rep r.toNat).length = 0 := fun h => by subst h; rw [show (0 : Int).toNat = 0 from rfl, rep_zero]; rfl
        have HRL := hid hrl
        have HRZ := hid hrz
        clear hrl hrz
        cases s
        · have hZ2 := hid (show sval false q = Z by rw [HZ.out, hY.out.1, HQ.out]; rfl)
          have hR2 := hid (show rep r.toNat = R by rw [HR.out, hY.out.2, HRR.out]; rfl)
          have KM := hid (fun (W : World) (D : Nat) (v : Value) (h : Ints W D v (rep q.toNat)) => l03Make_own false D v _ (by omega) (Lim_rep _) W h)
          rw [val_rep' hq0.out, hZ2.out, ← HGS.out] at KM
          go_enter Tryz.func149, Tryz.ntmps149
          go_wp2_with fail
          change Calls _ _ _ (W2 w false (.slice a A.length c) 25) _
          (with_reducible refine (KA.out _ I1.out).mono ?_)
          rintro e w1 ⟨rfl, b1⟩
          have B0 := hid (B0.out.trans (b1.mono B0.out.size))
          have I1 := hid (Ints_old I1.out b1)
          have I2 := hid (Ints_old I2.out b1)
          have L1 := hid (L1.out.old b1)
          have L0 := hid (L0.out.old b1)
          clear b1
          go_wp2_with fail
          (with_reducible refine (KB.out _ I2.out).mono ?_)
          rintro e w2 ⟨rfl, rfl⟩
          have q0 := L1.out.c0
          have q1 := L1.out.c1
          go_wp2_with fail
          (with_reducible refine (KD.out _ I1.out I2.out).mono ?_)
          clear q0 q1
          rintro e w2 ⟨vq, vr, rfl, iq, ir, b1⟩
          have hlt0 := L0.out.lt
          have L1 := hid (L1.out.old b1)
          have L0 := hid (L0.out.old b1)
          have B0 := hid (B0.out.trans (b1.mono B0.out.size))
          have I2 := hid (Ints_old I2.out b1)
          have hs12 : w.heap.size ≤ w1.heap.size := by omega
          have IQ := hid (Ints_base iq hs12)
          have IR := hid (Ints_base ir hs12)
          obtain ⟨aq, cq, rfl, -⟩ := Ints_form iq
          obtain ⟨ar, cr, rfl, -⟩ := Ints_form ir
          clear iq ir b1
          have q0 := L1.out.c0
          go_wp2_with fail
          clear q0
          (with_reducible refine (KM.out _ _ _ IQ.out).mono ?_)
          rintro e w3 ⟨z, rfl, iz, b3⟩
          have L0 := hid (L0.out.old b3)
          have IZ := hid (Ints_base iz B0.out.size)
          have B0 := hid (B0.out.trans (b3.mono B0.out.size))
          have IR := hid (Ints_old IR.out b3)
          obtain ⟨az, cz, rfl, -⟩ := Ints_form iz
          clear iz b3
          have n1 := L0.out.ne (by decide) IZ.out
          have n2 := L0.out.ne (by decide) IR.out
          have RR := hid (show FdS gs (gzl Z) R w (.returned (.tuple #[.agg #[.bool gs, .slice az (gzl Z).length cz], .slice ar (rep r.toNat).length cr])) ((w3.setCell ⟨w.heap.size + 1, 0, none⟩ (.bool gs)).setCell ⟨w.heap.size + 1, 1, none⟩ (.slice az (gzl Z).length cz)) from
            FdS_mk rfl rfl hR2.out (Ints_set (Ints_set IZ.out n1) n1) (Ints_set (Ints_set IR.out n2) n2) ((B0.out.setCell (by simp) _).setCell (by simp) _))
          have f0 := L0.out.f0 0
          have f1 := L0.out.f0 1
          have p0 := L0.out.c0
          have p1 := L0.out.c1
          clear n1 n2
          go_wp2
          exact bodyPost_ret (v := .tuple #[.agg #[.bool gs, .slice az (gzl Z).length cz], .slice ar (rep r.toNat).length cr]) (by simp [results, Tryz.results149, go_sem, p0, p1]) rfl RR.out
        · by_cases hrr : r = 0
          · have hx := hid (fd_exact (V := val A) hm.out (HRR.out.symm.trans hrr))
            have hZ2 := hid (show sval true q = Z by rw [HZ.out, hY.out.1, hx.out.1, HQ.out])
            have hR2 := hid (show rep r.toNat = R by rw [HR.out, hY.out.2, hx.out.2, hrr])
            have hlz : ¬ (0 : Int) < ((rep r.toNat).length : Int) := by have := HRZ.out hrr; omega
            clear hrr
            have KM := hid (fun (W : World) (D : Nat) (v : Value) (h : Ints W D v (rep q.toNat)) => l03Make_own true D v _ (by omega) (Lim_rep _) W h)
            rw [val_rep' hq0.out, hZ2.out, ← HGS.out] at KM
            go_enter Tryz.func149, Tryz.ntmps149
            go_wp2_with fail
            change Calls _ _ _ (W2 w true (.slice a A.length c) 25) _
            (with_reducible refine (KA.out _ I1.out).mono ?_)
            rintro e w1 ⟨rfl, b1⟩
            have B0 := hid (B0.out.trans (b1.mono B0.out.size))
            have I1 := hid (Ints_old I1.out b1)
            have I2 := hid (Ints_old I2.out b1)
            have L1 := hid (L1.out.old b1)
            have L0 := hid (L0.out.old b1)
            clear b1
            go_wp2_with fail
            (with_reducible refine (KB.out _ I2.out).mono ?_)
            rintro e w2 ⟨rfl, rfl⟩
            have q0 := L1.out.c0
            have q1 := L1.out.c1
            go_wp2_with fail
            (with_reducible refine (KD.out _ I1.out I2.out).mono ?_)
            clear q0 q1
            rintro e w2 ⟨vq, vr, rfl, iq, ir, b1⟩
            have hlt0 := L0.out.lt
            have L1 := hid (L1.out.old b1)
            have L0 := hid (L0.out.old b1)
            have B0 := hid (B0.out.trans (b1.mono B0.out.size))
            have I2 := hid (Ints_old I2.out b1)
            have hs12 : w.heap.size ≤ w1.heap.size := by omega
            have IQ := hid (Ints_base iq hs12)
            have IR := hid (Ints_base ir hs12)
            obtain ⟨aq, cq, rfl, -⟩ := Ints_form iq
            obtain ⟨ar, cr, rfl, -⟩ := Ints_form ir
            clear iq ir b1
            have q0 := L1.out.c0
            go_wp2_with fail
            clear q0
            (with_reducible refine (KM.out _ _ _ IQ.out).mono ?_)
            rintro e w3 ⟨z, rfl, iz, b3⟩
            have L0 := hid (L0.out.old b3)
            have IZ := hid (Ints_base iz B0.out.size)
            have B0 := hid (B0.out.trans (b3.mono B0.out.size))
            have IR := hid (Ints_old IR.out b3)
            obtain ⟨az, cz, rfl, -⟩ := Ints_form iz
            clear iz b3
            have n1 := L0.out.ne (by decide) IZ.out
            have n2 := L0.out.ne (by decide) IR.out
            have RR := hid (show FdS gs (gzl Z) R w (.returned (.tuple #[.agg #[.bool gs, .slice az (gzl Z).length cz], .slice ar (rep r.toNat).length cr])) ((w3.setCell ⟨w.heap.size + 1, 0, none⟩ (.bool gs)).setCell ⟨w.heap.size + 1, 1, none⟩ (.slice az (gzl Z).length cz)) from
              FdS_mk rfl rfl hR2.out (Ints_set (Ints_set IZ.out n1) n1) (Ints_set (Ints_set IR.out n2) n2) ((B0.out.setCell (by simp) _).setCell (by simp) _))
            have f0 := L0.out.f0 0
            have f1 := L0.out.f0 1
            have p0 := L0.out.c0
            have p1 := L0.out.c1
            clear n1 n2
            go_wp2
            exact bodyPost_ret (v := .tuple #[.agg #[.bool gs, .slice az (gzl Z).length cz], .slice ar (rep r.toNat).length cr]) (by simp [results, Tryz.results149, go_sem, p0, p1]) rfl RR.out
          · have hx := hid (fd_up (V := val A) hm.out (fun h => hrr (HRR.out.trans h)))
            have hZ2 := hid (show sval true (q + 1) = Z by rw [HZ.out, hY.out.1, hx.out.1, HQ.out])
            have hR2 := hid (show rep (val M - r).toNat = R by rw [HR.out, hY.out.2, hx.out.2, HRR.out])
            have hlz : (0 : Int) < ((rep r.toNat).length : Int) := by have := HRL.out hrr; omega
            clear hrr
            have KQ := hid (fun (W : World) (x y : Option Addr) (d1 d2 : Nat) (h1 : RowI W x (rep q.toNat).length (rep q.toNat)) (h2 : RowI W y 1 [1]) => l02Add_any x y _ _ d1 d2 (rep q.toNat) [1] (by omega) (by decide) (Lim_rep _) (Lim_one (by decide) (by decide)) W h1 h2)
            rw [val_rep' hq0.out, show val [1] = 1 from rfl] at KQ
            have KM := hid (fun (W : World) (D : Nat) (v : Value) (P : List Int) (hP : Lim P) (hv : val P = q + 1) (hl : P.length ≤ 1073741824) (h : Ints W D v P) => l03Make_own true D v P hl hP W h)
            have KS := hid (fun (W : World) (y : Option Addr) (d : Nat) (h1 : RowI W a' M.length M) (h2 : RowI W y (rep r.toNat).length (rep r.toNat)) => l02Sub_any a' y _ _ c' d M (rep r.toNat) (by omega) (Can_leq (nok_iff.1 nM.out).2 (Can_rep _) (by rw [val_rep' hr0.out]; exact Int.le_of_lt hr1.out)) (nok_lim nM.out) (Lim_rep _) (by rw [val_rep' hr0.out]; exact Int.le_of_lt hr1.out) W h1 h2)
            rw [val_rep' hr0.out] at KS
            go_enter Tryz.func149, Tryz.ntmps149
            go_wp2_with fail
            change Calls _ _ _ (W2 w true (.slice a A.length c) 25) _
            (with_reducible refine (KA.out _ I1.out).mono ?_)
            rintro e w1 ⟨rfl, b1⟩
            have B0 := hid (B0.out.trans (b1.mono B0.out.size))
            have I1 := hid (Ints_old I1.out b1)
            have I2 := hid (Ints_old I2.out b1)
            have L1 := hid (L1.out.old b1)
            have L0 := hid (L0.out.old b1)
            clear b1
            go_wp2_with fail
            (with_reducible refine (KB.out _ I2.out).mono ?_)
            rintro e w2 ⟨rfl, rfl⟩
            have q0 := L1.out.c0
            have q1 := L1.out.c1
            go_wp2_with fail
            (with_reducible refine (KD.out _ I1.out I2.out).mono ?_)
            clear q0 q1
            rintro e w2 ⟨vq, vr, rfl, iq, ir, b1⟩
            have hlt0 := L0.out.lt
            have L1 := hid (L1.out.old b1)
            have L0 := hid (L0.out.old b1)
            have B0 := hid (B0.out.trans (b1.mono B0.out.size))
            have I2 := hid (Ints_old I2.out b1)
            have hs12 : w.heap.size ≤ w1.heap.size := by omega
            have IQ := hid (Ints_base iq hs12)
            have IR := hid (Ints_base ir hs12)
            obtain ⟨aq, cq, rfl, -⟩ := Ints_form iq
            obtain ⟨ar, cr, rfl, -⟩ := Ints_form ir
            clear iq ir b1
            have q0 := L1.out.c0
            go_wp2_with fail
            clear q0
            have hsz2 : w.heap.size ≤ w2.heap.size := B0.out.size
            have I1L := hid (Ints_lit1 (w := w2) (B := w2.heap.size) 1 (Nat.le_refl _))
            have IQ := hid (addPre (o := .cells #[.int .i64 1] 3) IQ.out)
            have IR := hid (addPre (o := .cells #[.int .i64 1] 3) IR.out)
            have I2 := hid (addPre (o := .cells #[.int .i64 1] 3) I2.out)
            have L0 := hid (L0.out.new1 (o := .cells #[.int .i64 1] 3))
            have B0 := hid (B0.out.alloc B0.out.size (.cells #[.int .i64 1] 3))
            (with_reducible refine (KQ.out _ _ _ _ _ (Ints_rowW IQ.out) (Ints_rowW I1L.out)).mono ?_)
            rintro e w3 ⟨P, hP, hv, hl, x, rfl, ix, b3⟩
            have KM := hid (fun (W : World) (D : Nat) (v : Value) (h : Ints W D v P) => KM.out W D v P hP hv (by simp only [List.length_cons, List.length_nil] at hl; omega) h)
            rw [hv, hZ2.out, ← HGS.out] at KM
            have L0 := hid (L0.out.old b3)
            have B0 := hid (B0.out.trans (b3.mono B0.out.size))
            have IR := hid (Ints_old IR.out b3)
            have I2 := hid (Ints_old I2.out b3)
            have IX := hid ix
            obtain ⟨ax, cx, rfl, -⟩ := Ints_form ix
            clear ix b3 hP hv hl
            go_wp2_with fail
            (with_reducible refine (KM.out _ _ _ IX.out).mono ?_)
            rintro e w4 ⟨z, rfl, iz, b3⟩
            have L0 := hid (L0.out.old b3)
            have IZ := hid (Ints_base iz B0.out.size)
            have B0 := hid (B0.out.trans (b3.mono B0.out.size))
            have IR := hid (Ints_old IR.out b3)
            have I2 := hid (Ints_old I2.out b3)
            obtain ⟨az, cz, rfl, -⟩ := Ints_form iz
            clear iz b3
            go_wp2_with fail
            (with_reducible refine (KS.out _ _ _ (Ints_rowW I2.out) (Ints_rowW IR.out)).mono ?_)
            rintro e w5 ⟨y, rfl, iy, b3⟩
            have L0 := hid (L0.out.old b3)
            have IR := hid (Ints_base iy B0.out.size)
            have B0 := hid (B0.out.trans (b3.mono B0.out.size))
            have IZ := hid (Ints_old IZ.out b3)
            obtain ⟨ay, cy, rfl, -⟩ := Ints_form iy
            clear iy b3
            have n1 := L0.out.ne (by decide) IZ.out
            have n2 := L0.out.ne (by decide) IR.out
            have RR := hid (show FdS gs (gzl Z) R w (.returned (.tuple #[.agg #[.bool gs, .slice az (gzl Z).length cz], .slice ay (rep (val M - r).toNat).length cy])) ((w5.setCell ⟨w.heap.size + 1, 0, none⟩ (.bool gs)).setCell ⟨w.heap.size + 1, 1, none⟩ (.slice az (gzl Z).length cz)) from
              FdS_mk rfl rfl hR2.out (Ints_set (Ints_set IZ.out n1) n1) (Ints_set (Ints_set IR.out n2) n2) ((B0.out.setCell (by simp) _).setCell (by simp) _))
            have f0 := L0.out.f0 0
            have f1 := L0.out.f0 1
            have p0 := L0.out.c0
            have p1 := L0.out.c1
            clear n1 n2
            go_wp2
            exact bodyPost_ret (v := .tuple #[.agg #[.bool gs, .slice az (gzl Z).length cz], .slice ay (rep (val M - r).toNat).length cy]) (by simp [results, Tryz.results149, go_sem, p0, p1]) rfl RR.out
end Go.Proofs.YtookglpeieennaaGreat
