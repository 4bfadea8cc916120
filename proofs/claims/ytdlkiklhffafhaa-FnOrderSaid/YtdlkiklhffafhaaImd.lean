/- The program's quotient and remainder. -/
import Derived.Test.YtdlkiklhffafhaaTal
import Derived.Test.YtdlkiklhffafhaaToI
import Derived.BigRegion
namespace Go.Proofs.Ytdlkiklhffafhaa
open Go.RowKit
open Go.Lib (hid)
set_option linter.unusedVariables false


def divB (A B : List Int) : Bool := nok A && nok B && decide (B ≠ [])
def divQ (A B : List Int) : List Int := if divB A B then rep (val A / val B).toNat else []
def divR (A B : List Int) : List Int := if divB A B then rep (val A % val B).toNat else []
theorem div_no {A B : List Int} (h : nok A = false ∨ nok B = false ∨ B = []) : divQ A B = [] ∧ divR A B = [] := by
  have : divB A B = false := by
    unfold divB
    rcases h with h | h | h
    · simp [h]
    · simp [h]
    · simp [h]
  simp [divQ, divR, this]
theorem div_yes {A B : List Int} (h : nok A = true) (h' : nok B = true) (h2 : B ≠ []) : divQ A B = rep (val A / val B).toNat ∧ divR A B = rep (val A % val B).toNat := by
  have : divB A B = true := by simp [divB, h, h', h2]
  simp [divQ, divR, this]
/-- Two slices of the call's own, apart from each other. -/
def Own2 (Q R : List Int) (w : World) (e : Ending) (w' : World) : Prop := ∃ v u, e = .returned (.tuple #[v, u]) ∧ Ints w' w.heap.size v Q ∧ Ints w' w.heap.size u R ∧ (∀ k, v.ownBlock = some k → u.ownBlock ≠ some k) ∧ Below w.heap.size w w'
theorem Own2_mk {Q R Q' R' : List Int} {w w' : World} {v u : Value} (hQ : Q' = Q) (hR : R' = R) (h1 : Ints w' w.heap.size v Q') (h2 : Ints w' w.heap.size u R') (hd : ∀ k, v.ownBlock = some k → u.ownBlock ≠ some k) (hb : Below w.heap.size w w') :
    Own2 Q R w (.returned (.tuple #[v, u])) w' := by
  subst hQ; subst hR; exact ⟨v, u, rfl, h1, h2, hd, hb⟩
theorem Own2_nil (w : World) : Own2 [] [] w (.returned (.tuple #[.slice none 0 0, .slice none 0 0])) w :=
  ⟨_, _, rfl, Ints_nil _ _, Ints_nil _ _, (fun k h => by simp [Value.ownBlock] at h), Below.refl _ _⟩
theorem mul_pw (b : Int) (j : Nat) : b * pw (j + 1) = 1000000000 * (b * pw j) := by simp only [pw]; grind
theorem div_done {a b q r : Int} (hb : 0 < b) (h : a = b * q + r) (h0 : 0 ≤ r) (h1 : r < b) : q = a / b ∧ r = a % b := by
  have e : b * q = q * b := Int.mul_comm _ _
  have := dg_end (T := a) (y := b) (q := q) hb (by omega) (by rw [Int.add_mul]; omega)
  exact ⟨this.1, by have := this.2; omega⟩
theorem ResP_short {L : List Int} {w : World} {v : Value} {e : Ending} {w' : World} (h : ResP L w v e w') (hl : L.length ≤ 60) : e = .returned v ∧ w = w' := by
  obtain ⟨⟨u, M, he, hu⟩, hw⟩ := h
  rcases hu with ⟨rfl, _, _⟩ | ⟨_, _, h6⟩
  · exact ⟨he, hw⟩
  · omega

set_option maxRecDepth 100000 in
set_option maxHeartbeats 6400000 in
theorem impl_NatDiv (v u : Value) (A B : List Int) (hA : A.length ≤ 1073741824) (hB : B.length ≤ 1073741824) (b1 b2 : Nat) (w : World) (h1 : Ints w b1 v A) (h2 : Ints w b2 u B) :
    Calls Try.prog 86 #[v, u] w (Own2 (divQ A B) (divR A B) w) := by
  have I1 := hid h1
  obtain ⟨a, c, rfl, r1, p1⟩ := slice_own h1
  obtain ⟨a', c', rfl, r2, p2⟩ := slice_own h2
  have K1 := hid (impl_NatOk _ _ c A hA w r1)
  have K2 := hid (impl_NatOk _ _ c' B hB w r2)
  have R2 := hid r2
  have P2 := hid p2
  clear h1 h2 r1 r2 p1 p2
  obtain ⟨Q, hQ⟩ : ∃ Q, Q = divQ A B := ⟨_, rfl⟩
  obtain ⟨R, hR⟩ : ∃ R, R = divR A B := ⟨_, rfl⟩
  have HQ := hid hQ
  have HR := hid hR
  rw [← hQ, ← hR]
  clear hQ hR
  cases e1 : nok A with
  | false =>
    have hE := hid (div_no (B := B) (.inl e1))
    rw [e1] at K1
    clear e1
    rw [HQ.out, HR.out, hE.out.1, hE.out.2]
    go_enter Try.func86, Try.ntmps86
    go_wp2_with fail
    refine K1.out.mono ?_
    rintro e w1 ⟨rfl, rfl⟩
    go_wp2
    go_ret2
    exact Own2_nil _
  | true =>
    cases e2 : nok B with
    | false =>
      have hE := hid (div_no (A := A) (.inr (.inl e2)))
      rw [e1] at K1
      rw [e2] at K2
      clear e1 e2
      rw [HQ.out, HR.out, hE.out.1, hE.out.2]
      go_enter Try.func86, Try.ntmps86
      go_wp2_with fail
      refine K1.out.mono ?_
      rintro e w1 ⟨rfl, rfl⟩
      go_wp2_with fail
      refine K2.out.mono ?_
      rintro e w1 ⟨rfl, rfl⟩
      go_wp2
      go_ret2
      exact Own2_nil _
    | true =>
      by_cases hn : B = []
      · have hE := hid (div_no (A := A) (.inr (.inr hn)))
        have hb0 : ((B.length : Int) == 0) = true := by rw [hn]; rfl
        rw [e1] at K1
        rw [e2] at K2
        rw [HQ.out, HR.out, hE.out.1, hE.out.2]
        clear e1 e2 hn
        go_enter Try.func86, Try.ntmps86
        go_wp2_with fail
        refine K1.out.mono ?_
        rintro e w1 ⟨rfl, rfl⟩
        go_wp2_with fail
        refine K2.out.mono ?_
        rintro e w1 ⟨rfl, rfl⟩
        go_wp2
        go_ret2
        exact Own2_nil _
      have hE := hid (div_yes e1 e2 hn)
      have hlB : 0 < B.length := List.length_pos_iff.mpr hn
      have hb0 : ((B.length : Int) == 0) = false := beq_eq_false_iff_ne.2 (by omega)
      have CA := hid (nok_iff.1 e1).2
      have CB := hid (nok_iff.1 e2).2
      have n1 := nok_len e1
      have n2 := nok_len e2
      have lA := hid (nok_lt e1)
      have NE := hid hn
      rw [e1] at K1
      rw [e2] at K2
      clear e1 e2 hn
      obtain ⟨i3, hi, hz0, hz1, hz2⟩ := info_parts Try.info3
      obtain ⟨K, hK⟩ : ∃ K : Nat, (K : Int) = max 0 ((A.length : Int) - B.length + 1) := ⟨(max 0 ((A.length : Int) - B.length + 1)).toNat, by omega⟩
      have hKA : K ≤ 61 := by omega
      have hmx : max (0 : Int) ((A.length : Int) - B.length + 1) = (K : Int) := hK.symm
      have hmk := fun W => run_make_row' (P := Try.prog) 23 3 (.int .i64 0) 8 Try.underlying23 Try.info3 rfl .i64 .i64 K (by omega) (by omega) W
      have HKI := hid hK
      clear hi hz0 hz1 hz2 hK
      go_enter Try.func86, Try.ntmps86
      go_wp2_with fail
      refine K1.out.mono ?_
      rintro e w1 ⟨rfl, rfl⟩
      go_wp2_with fail
      refine K2.out.mono ?_
      rintro e w1 ⟨rfl, rfl⟩
      go_wp2_with fail
      refine (newNat_own _ _ A hA _ I1.out).mono ?_
      rintro e w1 ⟨N1, x, rfl, hr1, hb1⟩
      have HR1 := hid hr1
      have HB1 := hid hb1
      clear hr1 hb1
      have QN := hid (IsNat_new (Ints_made (w := w1) (Nat.le_refl _) K (by unfold maxLen; omega)) below_new rfl)
      go_wp2
      clear hmk hmx
      obtain ⟨g2, hg2⟩ : ∃ g2, g2 = w1.heap.size := ⟨_, rfl⟩
      obtain ⟨N2, hN2⟩ : ∃ N2, N2 = (w1.alloc (.cells (madeCells #[.int .i64 0] K) 3)).heap.size := ⟨_, rfl⟩
      have hN2' : N2 = w1.heap.size + 1 := by rw [hN2]; simp
      rw [← hN2] at QN
      rw [← hN2', ← hg2]
      rw [← hg2] at QN
      have hsz3 : ((w1.alloc (.cells (madeCells #[.int .i64 0] K) 3)).alloc (.cells #[.slice (some ⟨g2, 0, none⟩) K K] 77)).heap.size = N2 + 1 := by
        simp; omega
      generalize (w1.alloc (.cells (madeCells #[.int .i64 0] K) 3)).alloc (.cells #[.slice (some ⟨g2, 0, none⟩) K K] 77) = w3 at QN hsz3 ⊢
      have hg2N : N2 = g2 + 1 := by omega
      have hwg : w.heap.size ≤ g2 := by rw [hg2]; exact HB1.out.size
      have HN1 := hid (show N1 < g2 by rw [hg2]; exact HR1.out.lt)
      have HX1 := hid (fun k (hk : x.ownBlock = some k) => show k < g2 by rw [hg2]; exact (Ints_lt HR1.out.ints k hk).2)
      obtain ⟨Sr, hSr⟩ : ∃ Sr : Nat → Prop, Sr = fun k => k = N1 ∨ x.ownBlock = some k ∨ N2 + 1 ≤ k := ⟨_, rfl⟩
      obtain ⟨T, hT⟩ : ∃ T : Nat → Prop, T = fun k => k = g2 ∨ k = N2 := ⟨_, rfl⟩
      have Fsm := hid (show ∀ k, Sr k → w.heap.size ≤ k ∧ ¬ T k by
        intro k hk
        rw [hSr] at hk
        rw [hT]
        rcases hk with rfl | hk | hk
        · exact ⟨HR1.out.mine, by have := HN1.out; omega⟩
        · have := HX1.out k hk
          exact ⟨HR1.out.own k hk, by omega⟩
        · exact ⟨by omega, by omega⟩)
      have FT := hid (show ∀ k, T k → w.heap.size ≤ k ∧ ¬ Sr k by
        intro k hk
        refine ⟨?_, fun hs => (Fsm.out k hs).2 hk⟩
        rw [hT] at hk
        omega)
      have RN := hid ((HR1.out.old (w' := w3) (by rw [← hg2]; exact QN.out.2.mono (by omega))).sub (T := Sr) (by rw [hSr]; exact .inl rfl) (fun k hk => by rw [hSr]; exact .inr (.inl hk)))
      have QI := hid (QN.out.1.sub (T := T) (by rw [hT]; exact .inr rfl) (fun k hk => by rw [hT]; left; simpa [Value.ownBlock] using hk.symm))
      have HB3 := hid (HB1.out.trans (QN.out.2.mono (by omega)))
      have HSR := hid (show ∀ k, w3.heap.size ≤ k → Sr k by intro k hk; rw [hSr]; exact .inr (.inr (by omega)))
      have APB := hid (show Apart Sr a' from fun y hy hs => P2.out y hy ((Fsm.out _ hs).1))
      have ROW := hid (RowI_old R2.out HB3.out)
      clear hSr hT hg2 hN2 hN2' hsz3 HR1 HB1 QN hg2N
      have HBpos := hid (show 0 < val B by
        have a1 := Can_ge CB.out NE.out
        have a2 := pw_pos (B.length - 1)
        omega)
      have START := hid (show val A < val B * pw K by
        by_cases hlt : A.length < B.length
        · have hK0 : K = 0 := by have := HKI.out; omega
          rw [hK0]
          have a1 := val_lt CA.out.1
          have a2 := Can_ge CB.out NE.out
          have a3 := pw_le (m := A.length) (n := B.length - 1) (by omega)
          simp only [pw]
          omega
        · have hK1 : K = (A.length - B.length) + 1 := by have := HKI.out; omega
          rw [hK1]
          exact start_lt CA.out CB.out NE.out (.inl (by omega)))
      have hz0 : ((A.length : Int) - B.length) + 1 = K ∨ K = 0 ∧ (A.length : Int) - B.length < 0 := by have := HKI.out; omega
      have HZ0 := hid hz0
      clear hz0
      go_loopw [8] (fun z wr => ∃ (k : Nat) (y : Int) (P L : List Int) (u : Value), k ≤ K ∧ z = .int .i64 y ∧ Hid (y + 1 = k ∨ k = 0 ∧ y < 0) ∧ -100 ≤ y ∧ y ≤ 100 ∧ IsNat natQ wr Sr N1 u P ∧ Hid (Can P) ∧ P.length ≤ 1000 ∧ Hid (val P < val B * pw k) ∧ IsNat natQ wr T N2 (.slice (some ⟨g2, 0, none⟩) K K) L ∧ Hid (L.length = K) ∧ Hid (Lim L) ∧ Hid (∀ j (hj : j < L.length), j < k → L[j] = 0) ∧ Hid (val A = val B * val L + val P) ∧ Below w.heap.size w wr ∧ w3.heap.size ≤ wr.heap.size) (fun z _ => (intOf z + 1).toNat)
      case atStart => exact ⟨K, (A.length : Int) - B.length, A, List.replicate K 0, x, Nat.le_refl _, rfl, HZ0, by omega, by omega, RN.out, CA, by omega, START, QI.out, hid (by simp), hid (Lim_zeros K), hid (fun j hj _ => by simp), hid (by rw [val_zeros]; simp), HB3.out, Nat.le_refl _⟩
      case round =>
        clear RN QI START HB3 ROW HZ0
        obtain ⟨k, y, P, L, u, hk, rfl, hy, hy0, hy1, hRI, hCP, hPl, hlt, hQI, hLl, hLL, hLz, hsum, hB, hsz⟩ := hrel
        have RN := hid hRI
        have QI := hid hQI
        have HB := hid hB
        have hsr : ∀ j, wr.heap.size ≤ j → Sr j := fun j hj => HSR.out j (Nat.le_trans hsz hj)
        have HSR2 := hid hsr
        have HSZ := hid hsz
        clear hRI hQI hB hsr hsz
        by_cases hy2 : 0 ≤ y
        · obtain ⟨j, rfl⟩ : ∃ j, k = j + 1 := ⟨k - 1, by have := hy.out; omega⟩
          obtain rfl : y = j := by have := hy.out; omega
          have hj0 : j < L.length := by rw [hLl.out]; omega
          have hjK : j < K := by omega
          have KT := hid (takeOut_any Sr N1 u P B a' B.length c' j (by omega) hPl (by omega) hCP.out CB.out NE.out (by rw [← mul_pw]; exact hlt.out) wr.drew (RN.out.drewN 1) HSR2.out (RowI_drewN (RowI_old R2.out HB.out) 1) APB.out)
          have hpk := pw_pos j
          have hDk : 0 < val B * pw j := Int.mul_pos HBpos.out hpk
          have hP0 := val_nonneg hCP.out.1
          have ee := Int.emod_add_ediv_mul (val P) (val B * pw j)
          have t0 := Int.ediv_nonneg hP0 (show 0 ≤ val B * pw j by omega)
          have t1 : val P / (val B * pw j) < 1000000000 := by
            apply Int.ediv_lt_of_lt_mul hDk
            have := hlt.out
            have e := mul_pw (val B) j
            omega
          have m0 := Int.emod_nonneg (val P) (show val B * pw j ≠ 0 by omega)
          have m1 := Int.emod_lt_of_pos (val P) hDk
          obtain ⟨t, ht⟩ : ∃ t, t = val P / (val B * pw j) := ⟨_, rfl⟩
          obtain ⟨V, hV⟩ : ∃ V, V = val P % (val B * pw j) := ⟨_, rfl⟩
          rw [← ht] at t0 t1 ee
          rw [← hV] at m0 m1 ee
          have MB := hid (show 0 ≤ V ∧ V < val B * pw j ∧ V < pw 1000 from ⟨m0, m1, by
            have a1 := (Can_len hCP.out).1 hPl
            have a2 := Int.mul_nonneg t0 (show 0 ≤ val B * pw j by omega)
            omega⟩)
          have NSUM := hid (show val A = val B * val (L.set j t) + V by
            rw [val_set hj0, hLz.out j hj0 (by omega), Int.sub_zero, hsum.out, ← ee]
            grind)
          have NZ := hid (fun i (hi : i < (L.set j t).length) (h : i < j) => show (L.set j t)[i] = 0 by
            rw [List.getElem_set_ne (by omega)]
            exact hLz.out i (by simpa using hi) (by omega))
          have TP := hid (show ∀ e w2, TakeP natQ Sr N1 (val P) (val B * pw j) wr.drew e w2 → e = .returned (.int .i64 t) ∧ (∃ v, IsNat natQ w2 Sr N1 v (rep V.toNat)) ∧ Only Sr wr.drew w2 by
            intro e w2 h
            unfold TakeP at h
            rw [← ht, ← hV] at h
            exact h)
          have KT2 := hid (KT.out.mono TP.out)
          clear ht hV hpk hDk hP0 ee m0 m1 KT TP
          have hcq := QI.out.cell
          have a1 : (0 : Int) ≤ j := by omega
          have a2 : (j : Int) < K := by omega
          go_wp2_with fail
          go_region_with (first | (go_at_call 126; (with_reducible refine KT2.out.mono ?_); rintro e w2 ⟨rfl, ⟨v2, h2⟩, o2⟩; have Q2 := hid ((show IsNat natQ wr.drew T N2 _ L from QI.out.drewN 1).only o2 (FT.out _ QI.out.mine).2 (fun k hk => (FT.out _ (QI.out.own k hk)).2)); have q1 := Q2.out.cell; have q3 := Ints_cell Q2.out.ints hj0; have q4 := Ints_free Q2.out.ints j; have H2 := hid h2; have O2 := hid o2; clear h2 o2))
          all_goals
            go_wp2
            go_roundw
            case rel =>
              have hTg : T g2 := Q2.out.own g2 rfl
              have hgN1 : N1 ≠ g2 := fun e => (FT.out g2 hTg).2 (by rw [← e]; exact H2.out.mine)
              have Rn : IsNat natQ (w2.setCell ⟨g2, j, none⟩ (.int .i64 t)) Sr N1 v2 (rep V.toNat) := H2.out.block (Below.heap_setCell _ _ _ _ hgN1) (fun k hk => Below.heap_setCell _ _ _ _ (fun (e : k = g2) => (FT.out g2 hTg).2 (by rw [← e]; exact H2.out.own k hk)))
              have hB2 : Below w.heap.size w w2 := (show Below w.heap.size w wr.drew from below_drewN HB.out 1).trans (O2.out.below fun k hk hs => by have := (Fsm.out k hs).1; omega)
              have hB3 := hB2.setCell (p := ⟨g2, j, none⟩) (FT.out g2 hTg).1 (.int .i64 t)
              have hvv := val_rep' MB.out.1
              exact ⟨j, (j : Int) - 1, rep V.toNat, L.set j t, v2, by omega, rfl, hid (by omega), by omega, by omega, Rn, hid (Can_rep _), rep_len' MB.out.2.2, hid (by rw [hvv]; exact MB.out.2.1), Q2.out.store j t, hid (by rw [List.length_set]; exact hLl.out), hid (Lim_set hLL.out _ t0 t1), NZ, hid (by rw [hvv]; exact NSUM.out), hB3, Nat.le_trans HSZ.out (by have := O2.out.size; simpa [World.setCell] using this)⟩
            case measure => first | (simp [intOf]; done) | (simp [intOf]; omega)
        · obtain rfl : k = 0 := by have := hy.out; omega
          have hlt0 := hid (show val P < val B by have := hlt.out; simpa [pw] using this)
          have hP0 := val_nonneg hCP.out.1
          have DD := hid (div_done HBpos.out hsum.out hP0 hlt0.out)
          have KTr := hid (trim_any T N2 _ L (by rw [hLl.out]; omega) hLL.out wr QI.out)
          have hA0 := val_nonneg CA.out.1
          have hq60 := hid (show (rep (val L).toNat).length ≤ 60 from rep_len (by
            rw [DD.out.1]
            have a1 : val A / val B ≤ val A := Int.ediv_le_self _ hA0
            have := lA.out
            omega))
          have hr60 := hid (show P.length ≤ 60 by
            rw [← rep_val hCP.out]
            exact rep_len (by
              have a1 : val P ≤ val A := by
                have a2 := hsum.out
                have a3 := Int.mul_nonneg (Int.le_of_lt HBpos.out) (val_nonneg hLL.out)
                omega
              have := lA.out
              omega))
          have PE := hid (show P = rep (val A % val B).toNat by rw [← DD.out.2, rep_val hCP.out])
          have LE := hid (show rep (val L).toNat = rep (val A / val B).toNat by rw [DD.out.1])
          clear hP0 hA0
          go_wp2_with fail
          (with_reducible refine KTr.out.mono ?_)
          rintro e w4 ⟨rfl, ⟨qv, hqv⟩, o4⟩
          have QI := hid hqv
          have RN := hid (RN.out.only o4 (fun hs => (FT.out _ hs).2 RN.out.mine) (fun k hk hs => (FT.out _ hs).2 (RN.out.own k hk)))
          have HB := hid (HB.out.trans (o4.below fun k hk hs => by have := (FT.out k hs).1; omega))
          clear hqv o4 KTr
          have KQ := hid ((result_any T N2 qv _ w4 QI.out).mono fun e w' h => ResP_short h hq60.out)
          have KR := hid ((result_any Sr N1 u P w4 RN.out).mono fun e w' h => ResP_short h hr60.out)
          go_wp2_with fail
          (with_reducible refine KQ.out.mono ?_)
          rintro e w5 ⟨rfl, rfl⟩
          go_wp2_with fail
          (with_reducible refine KR.out.mono ?_)
          rintro e w5 ⟨rfl, rfl⟩
          go_wp2
          go_ret2
          rw [HQ.out, HR.out, hE.out.1, hE.out.2]
          exact Own2_mk LE.out PE.out.symm.symm (Ints_rebase QI.out.ints fun k hk => (FT.out k (QI.out.own k hk)).1) (Ints_rebase RN.out.ints fun k hk => (Fsm.out k (RN.out.own k hk)).1) (fun k hk hk2 => (FT.out k (QI.out.own k hk)).2 (RN.out.own k hk2)) HB.out
end Go.Proofs.Ytdlkiklhffafhaa
