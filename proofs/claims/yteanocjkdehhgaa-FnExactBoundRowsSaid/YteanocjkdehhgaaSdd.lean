/- The reference's quotient and remainder. -/
import Derived.Test.YteanocjkdehhgaaSdb
namespace Go.Proofs.Yteanocjkdehhgaa
open Go.RowKit
open Go.Lib (hid)
set_option linter.unusedVariables false

def DivS (Q R : List Int) (w : World) (e : Ending) (w' : World) : Prop := ∃ v u, e = .returned (.tuple #[v, u]) ∧ Ints w' w.heap.size v Q ∧ Ints w' w.heap.size u R ∧ Below w.heap.size w w'
theorem Ints_lit1 {w : World} {B : Nat} (x : Int) (h : B ≤ w.heap.size) : Ints (w.alloc (.cells #[.int .i64 x] 3)) B (.slice (some ⟨w.heap.size, 0, none⟩) 1 1) [x] :=
  ⟨rfl, .inr ⟨w.heap.size, 1, #[.int .i64 x], rfl, h, heap_alloc_new w _, Nat.le_refl _, by decide, rfl, rfl⟩⟩
theorem Ints_row {w : World} {B n c : Nat} {a : Option Addr} {L : List Int} (h : Ints w B (.slice a n c) L) : RowI w a n L := by
  obtain ⟨a', c', e, -, r, -⟩ := Ints_form h
  injection e with e1 e2 e3
  subst e1 e2
  exact r
theorem div_round {P A S : List Int} {b q : Int} {k : Nat} (hk : k < A.length) (hkP : k < P.length) (h : b * val (P.drop (k + 1)) + val S = val (A.drop (k + 1))) :
    b * val ((P.set k q).drop k) + (A[k] + 1000000000 * val S - b * q) = val (A.drop k) := by
  rw [drop_set_ge hkP, val_drop hk, ← h]
  grind
theorem drop_zero_at {P : List Int} {k : Nat} (hk : k < P.length) (h : P[k] = 0) : val (P.drop k) = 1000000000 * val (P.drop (k + 1)) := by
  rw [val_drop hk, h]; omega

set_option maxRecDepth 100000 in
set_option maxHeartbeats 6400000 in
theorem l02Div_any (a a' : Option Addr) (n n' c c' : Nat) (A B : List Int) (hA : A.length ≤ 60) (hB : B.length ≤ 60) (lA : Lim A) (CB : Can B) (b0 : 0 < val B) (w : World) (h1 : RowI w a n A) (h2 : RowI w a' n' B) :
    Calls Try.prog 135 #[.slice a n c, .slice a' n' c'] w (DivS (rep (val A / val B).toNat) (rep (val A % val B).toNat) w) := by
  obtain ⟨i3, hi, hz0, hz1, hz2⟩ := info_parts Try.info3
  have R1 := hid h1
  have R2 := hid h2
  obtain rfl : n = A.length := h1.1
  obtain rfl : n' = B.length := h2.1
  have L1 := hid lA
  have C2 := hid CB
  have BP := hid b0
  obtain ⟨Q, hQ⟩ : ∃ Q, Q = rep (val A / val B).toNat := ⟨_, rfl⟩
  obtain ⟨M, hM⟩ : ∃ M, M = rep (val A % val B).toNat := ⟨_, rfl⟩
  have HQ := hid hQ
  have HMM := hid hM
  rw [← hQ, ← hM]
  clear hQ hM h1 h2 lA CB b0
  by_cases hl1 : B.length = 1
  · obtain ⟨d, rfl⟩ := List.length_eq_one_iff.1 hl1
    have d1 := (Lim_cons C2.out.1).1.2
    have hv : val [d] = d := by simp [val]
    have d0 : 0 < d := by have := BP.out; rw [hv] at this; exact this
    have KS := hid (l02Small_any a A.length c A d (by omega) L1.out d0 d1 w R1.out)
    rw [hv] at HQ HMM
    rw [← HQ.out] at KS
    obtain ⟨r, hr⟩ : ∃ r, r = val A % d := ⟨_, rfl⟩
    rw [← hr] at KS HMM
    have r1 := Int.emod_lt_of_pos (val A) d0
    rw [← hr] at r1
    have KN := hid (fun W => spec_NatOf r (by omega) W)
    rw [← HMM.out] at KN
    obtain ⟨g2, o2, rfl, -, hc2⟩ := R2.out.2 (by simp)
    have q2 : w.cell? ⟨g2, o2, none⟩ = some (.int .i64 d) := hc2 0 (by simp)
    have hbq : ((([d] : List Int).length : Int) == 1) = true := rfl
    clear hc2 hr hv hl1
    go_enter Try.func135, Try.ntmps135
    go_wp2_with fail
    (with_reducible refine KS.out.mono ?_)
    rintro e w1 ⟨v, rfl, hi, b1⟩
    have HI := hid hi
    have HB := hid b1
    clear hi b1 KS
    go_wp2_with fail
    (with_reducible refine (KN.out _).mono ?_)
    rintro e w2 ⟨u, rfl, hi, b1⟩
    have HU := hid (Ints_base hi HB.out.size)
    have HI := hid (Ints_below HI.out b1 fun k hk => (Ints_lt HI.out k hk).2)
    have HB := hid (HB.out.trans (b1.mono HB.out.size))
    clear hi b1 KN
    go_wp2
    go_ret2
    exact ⟨_, _, rfl, HI.out, HU.out, HB.out⟩
  · have hbq : ((B.length : Int) == 1) = false := beq_eq_false_iff_ne.2 (by omega)
    clear hl1
    have hmk : ∀ W : World, (Instr.makeSlice 22 (.int .i64 (A.length : Int)) (.int .i64 (A.length : Int))).run Try.prog W = .ok (.slice (some ⟨W.heap.size, 0, none⟩) A.length A.length) (W.alloc (.cells (madeCells #[.int .i64 0] A.length) 3)) := by
      intro W
      exact run_make_row' (P := Try.prog) 22 3 (.int .i64 0) 8 Try.underlying22 Try.info3 rfl .i64 .i64 A.length (by omega) (by omega) W
    have HM := hid (Ints_made (w := w) (Nat.le_refl _) A.length (by unfold maxLen; omega))
    have HA := hid (below_new (w := w) (o := .cells (madeCells #[.int .i64 0] A.length) 3))
    go_enter Try.func135, Try.ntmps135
    go_wp2
    clear hmk
    have HR0 := hid (Ints_lit0 (w := w.alloc (.cells (madeCells #[.int .i64 0] A.length) 3)) rfl)
    have hsz : (w.alloc (.cells (madeCells #[.int .i64 0] A.length) 3)).heap.size = w.heap.size + 1 := by simp
    rw [hsz] at HR0
    have HM := hid (Ints_below HM.out ((Below.refl _ _).alloc (Nat.le_refl _) (.cells #[] 3)) fun k hk => (Ints_lt HM.out k hk).2)
    have HA := hid (HA.out.alloc (by rw [hsz]; omega) (.cells #[] 3))
    clear hsz
    generalize (w.alloc (.cells (madeCells #[.int .i64 0] A.length) 3)).alloc (.cells #[] 3) = w0 at HM HA HR0 ⊢
    obtain ⟨g, hg⟩ : ∃ g, g = w.heap.size := ⟨_, rfl⟩
    have HG := hid hg
    rw [← hg] at HM HA HR0
    rw [← hg]
    clear hg
    go_loopw [9, 10] (fun y x wr => ∃ (k : Nat) (P S : List Int), k ≤ A.length ∧ x = .int .i64 ((k : Int) - 1) ∧ Ints wr g (.slice (some ⟨g, 0, none⟩) A.length A.length) P ∧ Hid (Lim P) ∧ Hid (∀ j (hj : j < P.length), j < k → P[j] = 0) ∧ Ints wr (g + 1) y S ∧ Hid (Can S) ∧ Hid (val S < val B) ∧ Hid (val B * val (P.drop k) + val S = val (A.drop k)) ∧ Below g w wr) (fun _ x _ => (intOf x + 1).toNat)
    case atStart => exact ⟨A.length, List.replicate A.length 0, [], Nat.le_refl _, rfl, HM.out, hid (Lim_zeros _), hid (fun j hj _ => by simp), HR0.out, hid Can_nil, hid (by have := BP.out; simpa [val] using this), hid (by rw [val_drop_end (by simp), val_drop_end (Nat.le_refl _)]; simp [val]), HA.out⟩
    case round =>
      clear HM HA HR0
      obtain ⟨k, P, S, hk, rfl, hown, hPL, hPZ, hrest, CS, VS, hPv, hbel⟩ := hrel
      have HO := hid hown
      have HR := hid hrest
      have HBL := hid hbel
      have HPn := hid (Ints_same hown)
      have hgs1 := hid (show g + 1 ≤ wr.heap.size by have := (Ints_lt hown g rfl).2; omega)
      have hgs := hid (show g ≤ wr.heap.size by have := hgs1.out; omega)
      have SL := hid (show S.length ≤ 60 from (Can_len CS.out).2 (by have a1 := (Can_len C2.out).1 hB; have := VS.out; omega))
      clear hown hbel
      cases k with
      | zero =>
        have hPn : P.length ≤ 1073741824 := by rw [HPn.out]; omega
        have hE := hid (show rep (val P).toNat = Q ∧ S = M by
          have h : val B * val P + val S = val A := hPv.out
          have r0 := val_nonneg CS.out.1
          have h1 : val A / val B = val P ∧ val A % val B = val S := by
            rw [← h]
            refine ⟨?_, ?_⟩
            · rw [Int.add_comm, Int.add_mul_ediv_left _ _ (by have := BP.out; omega), Int.ediv_eq_zero_of_lt r0 VS.out]; omega
            · rw [Int.add_comm, Int.add_mul_emod_self_left, Int.emod_eq_of_lt r0 VS.out]
          rw [HQ.out, HMM.out, h1.1, h1.2, rep_val CS.out]
          exact ⟨rfl, rfl⟩)
        clear hPv hrest
        obtain ⟨hE1, hE2⟩ := hE.out
        have KT := hid (l02Trim_own _ _ P hPn hPL.out wr HO.out)
        rw [hE1] at KT
        go_wp2_with fail
        (with_reducible refine KT.out.mono ?_)
        rintro e w2 ⟨⟨u, rfl, hU, -⟩, rfl⟩
        have HU := hid hU
        clear hU hE1
        go_wp2
        go_ret2
        exact ⟨_, _, rfl, by rw [← HG.out]; exact HU.out, by rw [← HG.out, ← hE2]; exact Ints_base HR.out (Nat.le_succ g), by rw [← HG.out]; exact HBL.out⟩
      | succ k =>
        have hkP : k < P.length := by rw [HPn.out]; omega
        have hkA : k < A.length := by omega
        obtain ⟨g1, o1, rfl, -, hc1⟩ := (RowI_old R1.out (by rw [← HG.out]; exact HBL.out)).2 (by omega)
        have q1 := hc1 k hkA
        clear hc1
        have hx := Lim_at L1.out hkA
        have HSM := hid (show val B * val (P.drop k) + (A[k] + 1000000000 * val S) = val (A.drop k) by
          rw [drop_zero_at hkP (hPZ.out k hkP (Nat.lt_succ_self k)), val_drop hkA, ← hPv.out]
          grind)
        have HSQ := hid (fun q => div_round (q := q) hkA hkP hPv.out)
        have HZ := hPZ
        have q3 := Ints_cell HO.out hkP
        rw [hPZ.out k hkP (Nat.lt_succ_self k)] at q3
        have Q3 := hid q3
        obtain ⟨x, hxe⟩ : ∃ x, x = A[k] := ⟨_, rfl⟩
        rw [← hxe] at q1 hx HSM HSQ
        clear hxe hPv hPZ q3
        obtain ⟨x0, x1⟩ := hx
        have e3 : ((k + 1 : Nat) : Int) - 1 = k := by omega
        rw [e3]
        clear e3
        have a1 : (0 : Int) ≤ k := by omega
        have a2 : (k : Int) < A.length := by omega
        have LT := hid (Ints_lit1 (w := wr) x (Nat.le_refl _))
        have sl := SL.out
        rcases Ints_cases hrest with ⟨rfl, rfl⟩ | ⟨gs, cs, rfl, hgs2, hgs3, hcs⟩
        · clear hrest
          have AP := hid (show Ints (wr.alloc (.cells #[.int .i64 x] 3)) wr.heap.size (.slice (some ⟨wr.heap.size, 0, none⟩) 1 1) (x :: []) ∧ Below wr.heap.size wr (wr.alloc (.cells #[.int .i64 x] 3)) from ⟨LT.out, (Below.refl _ _).alloc (Nat.le_refl _) _⟩)
          have HRn := hid (Ints_nil (wr.alloc (.cells #[.int .i64 x] 3)) 0)
          obtain ⟨v', hv'⟩ : ∃ v', v' = Value.slice (some ⟨wr.heap.size, 0, none⟩) 1 1 := ⟨_, rfl⟩
          go_wp2_with fail
          rw [← hv']
          rw [← hv'] at AP
          clear hv' LT HR HRn
          generalize wr.alloc (.cells #[.int .i64 x] 3) = w1 at AP ⊢
          have T1 := hid (val_rep' (V := x + 1000000000 * val ([] : List Int)) (by have := val_nonneg CS.out.1; omega))
          obtain ⟨T, hT⟩ : ∃ T, T = rep (x + 1000000000 * val ([] : List Int)).toNat := ⟨_, rfl⟩
          have CT := hid (show Can T by rw [hT]; exact Can_rep _)
          have KT := hid (l02Trim_own wr.heap.size v' (x :: []) (by simp <;> omega) (Lim_append (Lim_one x0 x1) CS.out.1) w1 AP.out.1)
          rw [show val (x :: []) = x + 1000000000 * val ([] : List Int) from rfl, ← hT] at KT
          rw [← hT] at T1
          have HO := hid (Ints_below HO.out AP.out.2 fun k hk => (Ints_lt HO.out k hk).2)
          have HB := hid (HBL.out.trans (AP.out.2.mono hgs.out))
          clear hT AP
          (with_reducible refine KT.out.mono ?_)
          rintro e w2 ⟨⟨u, rfl, hU, -⟩, rfl⟩
          have TL := hid (show T.length ≤ 61 from (Can_len CT.out).2 (by
            have a1 := (Can_len C2.out).1 hB
            have a2 : pw 61 = pw 60 * 1000000000 := by decide
            have := VS.out
            rw [T1.out, a2]; omega))
          have HU := hid (Ints_base hU (show g + 1 ≤ wr.heap.size from hgs1.out))
          obtain ⟨au, cu, rfl, -, ru, -⟩ := Ints_form hU
          have RU := hid ru
          have KC := hid (l02Cmp_any au a' T.length B.length cu c' T B (by have := TL.out; omega) (by omega) w1 ru (RowI_old R2.out (by rw [← HG.out]; exact HB.out)))
          rw [cmpL_val CT.out C2.out] at KC
          obtain ⟨s, hs⟩ : ∃ s, s = sgn (val T - val B) := ⟨_, rfl⟩
          rw [← hs] at KC
          have hsc := sgn_cases (val T - val B)
          rw [← hs] at hsc
          clear hs hU ru KT
          by_cases hlt : val T < val B
          · have HLT := hid hlt
            have hs0 : s < 0 := by omega
            clear hsc hlt
            go_wp2_with fail
            (with_reducible refine KC.out.mono ?_)
            rintro e w3 ⟨rfl, d, rfl⟩
            go_wp2
            go_roundw
            case rel => exact ⟨k, P, T, by omega, rfl, show Ints _ _ _ _ from HO.out, hPL, hid (fun j hj h => HZ.out j hj (by omega)), HU.out, CT, HLT, hid (by rw [T1.out]; exact HSM.out), below_drewN HB.out d⟩
            case measure => simp [intOf]
          · have hs0 : ¬ s < 0 := by omega
            have HGE := hid (show val B ≤ val T by omega)
            clear hsc hlt
            have KD := hid (fun d => l02Digit_any au a' T.length B.length cu c' T B (by have := TL.out; omega) hB CT.out C2.out BP.out (by have := VS.out; rw [T1.out]; omega) (w1.drewN d) (RowI_drewN RU.out d) (RowI_drewN (RowI_old R2.out (by rw [← HG.out]; exact HB.out)) d))
            have q0 : 0 ≤ val T / val B := Int.ediv_nonneg (val_nonneg CT.out.1) (by have := BP.out; omega)
            have qlt : val T / val B < 1000000000 := Int.ediv_lt_of_lt_mul BP.out (by have := VS.out; rw [T1.out]; omega)
            have HP := hid (Int.mul_ediv_self_le (x := val T) (k := val B) (by have := BP.out; omega))
            have HR2 := hid (show val T - val B * (val T / val B) < val B by
              have a1 := Int.emod_lt_of_pos (val T) BP.out
              have a2 := Int.emod_def (val T) (val B)
              omega)
            obtain ⟨q, hq⟩ : ∃ q, q = val T / val B := ⟨_, rfl⟩
            rw [← hq] at KD q0 qlt HP HR2
            clear hq
            have HST := hid (HSQ.out q)
            have KN := hid (fun W => spec_NatOf q (by omega) W)
            have vq := hid (val_rep' (V := q) q0)
            have lr := hid (rep_short (n := q) (by omega))
            go_wp2_with fail
            (with_reducible refine KC.out.mono ?_)
            rintro e w3 ⟨rfl, d, rfl⟩
            go_wp2_with fail
            (with_reducible refine (KD.out d).mono ?_)
            rintro e w4 ⟨rfl, b4⟩
            have b4' : Below w1.heap.size w1 w4 := (below_drewN (Below.refl w1.heap.size w1) d).trans b4
            have HO := hid (Ints_below HO.out b4' fun k hk => (Ints_lt HO.out k hk).2)
            have HU := hid (Ints_below HU.out b4' fun k hk => (Ints_lt HU.out k hk).2)
            have HB := hid (HB.out.trans (b4'.mono (show g ≤ w1.heap.size by rw [HG.out]; exact HB.out.size)))
            clear b4 b4'
            have Q4 := hid (show w4.cell? ⟨g, k, none⟩ = some (.int .i64 0) by
              have h1 := Ints_cell HO.out hkP
              rw [HZ.out k hkP (Nat.lt_succ_self k)] at h1
              exact h1)
            have f4 := Ints_free HO.out k
            have q4 := Q4.out
            have HO := hid (Ints_store HO.out (i := k) q)
            have HB := hid (HB.out.setCell (p := ⟨g, k, none⟩) (Nat.le_refl _) (.int .i64 q))
            have HU := hid (Ints_only HU.out ((Only.refl (fun j => j = g) w4).setCell (p := ⟨g, k, none⟩) rfl (.int .i64 q)) (fun j hj e => by have := (Ints_lt HU.out j hj).1; omega))
            obtain ⟨w5, hw5⟩ : ∃ w5, w5 = w4.setCell ⟨g, k, none⟩ (.int .i64 q) := ⟨_, rfl⟩
            rw [← hw5] at HO HB HU
            have HW5 := hid hw5
            clear hw5 Q4
            clear Q3 q1
            obtain ⟨p, hp⟩ : ∃ p, p = val B * q := ⟨_, rfl⟩
            have hp0 : 0 ≤ p := by rw [hp]; exact Int.mul_nonneg (val_nonneg C2.out.1) q0
            have HPE := hid hp.symm
            rw [← hp] at HP HR2 HST
            have HPV := hid (val_rep' hp0)
            have HPL := hid (show (rep p.toNat).length ≤ T.length from (Can_len (Can_rep _)).2 (by
              rw [HPV.out]
              have := val_lt CT.out.1
              have := HP.out
              omega))
            clear hp hp0
            go_wp2_with fail
            rw [← HW5.out]
            (with_reducible refine (KN.out w5).mono ?_)
            rintro e w6 ⟨v6, rfl, hi6, b6⟩
            clear HW5 KN q4 f4
            have HO := hid (Ints_below HO.out b6 fun k hk => (Ints_lt HO.out k hk).2)
            have HU := hid (Ints_below HU.out b6 fun k hk => (Ints_lt HU.out k hk).2)
            have HB := hid (HB.out.trans (b6.mono (show g ≤ w5.heap.size by rw [HG.out]; exact HB.out.size)))
            obtain ⟨ai, ci, rfl, -, ri, -⟩ := Ints_form hi6
            have KM := hid (l02Mul_any a' ai B.length (rep q.toNat).length c' ci B (rep q.toNat) (by omega) (by have := lr.out; omega) C2.out.1 (Can_rep _).1 w6 (RowI_old R2.out (by rw [← HG.out]; exact HB.out)) ri)
            rw [vq.out, HPE.out] at KM
            clear hi6 ri b6 HPE
            go_wp2_with fail
            (with_reducible refine KM.out.mono ?_)
            rintro e w7 ⟨v7, rfl, hi7, b7⟩
            have HO := hid (Ints_below HO.out b7 fun k hk => (Ints_lt HO.out k hk).2)
            have HU := hid (Ints_below HU.out b7 fun k hk => (Ints_lt HU.out k hk).2)
            have HB := hid (HB.out.trans (b7.mono (show g ≤ w6.heap.size by rw [HG.out]; exact HB.out.size)))
            obtain ⟨am, cm, rfl, -, rm, -⟩ := Ints_form hi7
            have KS := hid (l02Sub_any au am T.length (rep p.toNat).length cu cm T (rep p.toNat) (by have := TL.out; omega) HPL.out CT.out.1 (Can_rep _).1 (by rw [HPV.out]; exact HP.out) w7 (Ints_row HU.out) rm)
            rw [HPV.out] at KS
            have hg7 := hid (show g + 1 ≤ w7.heap.size from (Ints_lt HO.out g rfl).2)
            clear hi7 rm b7 KM
            go_wp2_with fail
            (with_reducible refine KS.out.mono ?_)
            rintro e w8 ⟨v8, rfl, hi8, b8⟩
            have HO := hid (Ints_below HO.out b8 fun k hk => (Ints_lt HO.out k hk).2)
            have HB := hid (HB.out.trans (b8.mono (show g ≤ w7.heap.size by rw [HG.out]; exact HB.out.size)))
            have HR8 := hid (Ints_base hi8 hg7.out)
            have V8 := hid (val_rep' (V := val T - p) (by have := HP.out; omega))
            clear hi8 b8 KS
            go_wp2
            go_roundw
            case rel => exact ⟨k, _, _, by omega, rfl, HO.out, hid (Lim_set hPL.out _ q0 qlt), hid (fun j hj h => by rw [List.getElem_set_ne (by omega)]; exact HZ.out j (by simpa using hj) (by omega)), HR8.out, hid (Can_rep _), hid (by rw [V8.out]; exact HR2.out), hid (by rw [V8.out, T1.out]; exact HST.out), HB.out⟩
            case measure => simp [intOf]
        · clear hrest
          have HC := hid (fun j (u : Value) (hu : (S.map (Value.int .i64))[j]? = some u) => show (wr.alloc (.cells #[.int .i64 x] 3)).cell? ((⟨gs, 0, none⟩ : Addr).add j) = some u by
            rw [Go.WideShapes.add_plain, Nat.zero_add]
            rw [List.getElem?_map] at hu
            obtain ⟨x, hx, rfl⟩ := Option.map_eq_some_iff.1 hu
            obtain ⟨hj, rfl⟩ := List.getElem?_eq_some_iff.1 hx
            exact Ints_cell (Ints_below HR.out ((Below.refl wr.heap.size wr).alloc (Nat.le_refl _) _) fun k hk => (Ints_lt HR.out k hk).2) hj)
          go_wp2_with (at_builtin; refine wpList_append_own _ rfl _ _ 22 rfl wr.heap.size 3 i3 (.int .i64 0) 1 8 Try.underlying22 hi hz0 hz1 hz2 rfl (by decide) (.slice (some ⟨wr.heap.size, 0, none⟩) 1 1) 1 [.int .i64 x] rfl LT.out ⟨gs, 0, none⟩ S.length cs (S.map (Value.int .i64)) rfl (by simp) ?c1 ?c2 ?c3 ?c4 ?c5 ?_)
          case c1 => exact HC.out
          case c2 => intro u hu; obtain ⟨x, _, rfl⟩ := List.mem_map.1 hu; rfl
          case c3 => unfold maxLen; omega
          case c4 => omega
          case c5 => simp
          intro v' w1 hown' hgrow _
          have AP := hid (show Ints w1 wr.heap.size v' (x :: S) ∧ Below wr.heap.size wr w1 from ⟨by unfold Ints; rw [Nat.add_comm] at hown'; exact hown', ((Below.refl wr.heap.size wr).alloc (Nat.le_refl _) _).grown hgrow (by simp) (fun k hk => by cases hk; exact Nat.le_refl _)⟩)
          clear hown' hgrow LT HR HC
          go_wp2_with fail
          have T1 := hid (val_rep' (V := x + 1000000000 * val S) (by have := val_nonneg CS.out.1; omega))
          obtain ⟨T, hT⟩ : ∃ T, T = rep (x + 1000000000 * val S).toNat := ⟨_, rfl⟩
          have CT := hid (show Can T by rw [hT]; exact Can_rep _)
          have KT := hid (l02Trim_own wr.heap.size v' (x :: S) (by simp <;> omega) (Lim_append (Lim_one x0 x1) CS.out.1) w1 AP.out.1)
          rw [show val (x :: S) = x + 1000000000 * val S from rfl, ← hT] at KT
          rw [← hT] at T1
          have HO := hid (Ints_below HO.out AP.out.2 fun k hk => (Ints_lt HO.out k hk).2)
          have HB := hid (HBL.out.trans (AP.out.2.mono hgs.out))
          clear hT AP
          (with_reducible refine KT.out.mono ?_)
          rintro e w2 ⟨⟨u, rfl, hU, -⟩, rfl⟩
          have TL := hid (show T.length ≤ 61 from (Can_len CT.out).2 (by
            have a1 := (Can_len C2.out).1 hB
            have a2 : pw 61 = pw 60 * 1000000000 := by decide
            have := VS.out
            rw [T1.out, a2]; omega))
          have HU := hid (Ints_base hU (show g + 1 ≤ wr.heap.size from hgs1.out))
          obtain ⟨au, cu, rfl, -, ru, -⟩ := Ints_form hU
          have RU := hid ru
          have KC := hid (l02Cmp_any au a' T.length B.length cu c' T B (by have := TL.out; omega) (by omega) w1 ru (RowI_old R2.out (by rw [← HG.out]; exact HB.out)))
          rw [cmpL_val CT.out C2.out] at KC
          obtain ⟨s, hs⟩ : ∃ s, s = sgn (val T - val B) := ⟨_, rfl⟩
          rw [← hs] at KC
          have hsc := sgn_cases (val T - val B)
          rw [← hs] at hsc
          clear hs hU ru KT
          by_cases hlt : val T < val B
          · have HLT := hid hlt
            have hs0 : s < 0 := by omega
            clear hsc hlt
            go_wp2_with fail
            (with_reducible refine KC.out.mono ?_)
            rintro e w3 ⟨rfl, d, rfl⟩
            go_wp2
            go_roundw
            case rel => exact ⟨k, P, T, by omega, rfl, show Ints _ _ _ _ from HO.out, hPL, hid (fun j hj h => HZ.out j hj (by omega)), HU.out, CT, HLT, hid (by rw [T1.out]; exact HSM.out), below_drewN HB.out d⟩
            case measure => simp [intOf]
          · have hs0 : ¬ s < 0 := by omega
            have HGE := hid (show val B ≤ val T by omega)
            clear hsc hlt
            have KD := hid (fun d => l02Digit_any au a' T.length B.length cu c' T B (by have := TL.out; omega) hB CT.out C2.out BP.out (by have := VS.out; rw [T1.out]; omega) (w1.drewN d) (RowI_drewN RU.out d) (RowI_drewN (RowI_old R2.out (by rw [← HG.out]; exact HB.out)) d))
            have q0 : 0 ≤ val T / val B := Int.ediv_nonneg (val_nonneg CT.out.1) (by have := BP.out; omega)
            have qlt : val T / val B < 1000000000 := Int.ediv_lt_of_lt_mul BP.out (by have := VS.out; rw [T1.out]; omega)
            have HP := hid (Int.mul_ediv_self_le (x := val T) (k := val B) (by have := BP.out; omega))
            have HR2 := hid (show val T - val B * (val T / val B) < val B by
              have a1 := Int.emod_lt_of_pos (val T) BP.out
              have a2 := Int.emod_def (val T) (val B)
              omega)
            obtain ⟨q, hq⟩ : ∃ q, q = val T / val B := ⟨_, rfl⟩
            rw [← hq] at KD q0 qlt HP HR2
            clear hq
            have HST := hid (HSQ.out q)
            have KN := hid (fun W => spec_NatOf q (by omega) W)
            have vq := hid (val_rep' (V := q) q0)
            have lr := hid (rep_short (n := q) (by omega))
            go_wp2_with fail
            (with_reducible refine KC.out.mono ?_)
            rintro e w3 ⟨rfl, d, rfl⟩
            go_wp2_with fail
            (with_reducible refine (KD.out d).mono ?_)
            rintro e w4 ⟨rfl, b4⟩
            have b4' : Below w1.heap.size w1 w4 := (below_drewN (Below.refl w1.heap.size w1) d).trans b4
            have HO := hid (Ints_below HO.out b4' fun k hk => (Ints_lt HO.out k hk).2)
            have HU := hid (Ints_below HU.out b4' fun k hk => (Ints_lt HU.out k hk).2)
            have HB := hid (HB.out.trans (b4'.mono (show g ≤ w1.heap.size by rw [HG.out]; exact HB.out.size)))
            clear b4 b4'
            have Q4 := hid (show w4.cell? ⟨g, k, none⟩ = some (.int .i64 0) by
              have h1 := Ints_cell HO.out hkP
              rw [HZ.out k hkP (Nat.lt_succ_self k)] at h1
              exact h1)
            have f4 := Ints_free HO.out k
            have q4 := Q4.out
            have HO := hid (Ints_store HO.out (i := k) q)
            have HB := hid (HB.out.setCell (p := ⟨g, k, none⟩) (Nat.le_refl _) (.int .i64 q))
            have HU := hid (Ints_only HU.out ((Only.refl (fun j => j = g) w4).setCell (p := ⟨g, k, none⟩) rfl (.int .i64 q)) (fun j hj e => by have := (Ints_lt HU.out j hj).1; omega))
            obtain ⟨w5, hw5⟩ : ∃ w5, w5 = w4.setCell ⟨g, k, none⟩ (.int .i64 q) := ⟨_, rfl⟩
            rw [← hw5] at HO HB HU
            have HW5 := hid hw5
            clear hw5 Q4
            clear Q3 q1
            obtain ⟨p, hp⟩ : ∃ p, p = val B * q := ⟨_, rfl⟩
            have hp0 : 0 ≤ p := by rw [hp]; exact Int.mul_nonneg (val_nonneg C2.out.1) q0
            have HPE := hid hp.symm
            rw [← hp] at HP HR2 HST
            have HPV := hid (val_rep' hp0)
            have HPL := hid (show (rep p.toNat).length ≤ T.length from (Can_len (Can_rep _)).2 (by
              rw [HPV.out]
              have := val_lt CT.out.1
              have := HP.out
              omega))
            clear hp hp0
            go_wp2_with fail
            rw [← HW5.out]
            (with_reducible refine (KN.out w5).mono ?_)
            rintro e w6 ⟨v6, rfl, hi6, b6⟩
            clear HW5 KN q4 f4
            have HO := hid (Ints_below HO.out b6 fun k hk => (Ints_lt HO.out k hk).2)
            have HU := hid (Ints_below HU.out b6 fun k hk => (Ints_lt HU.out k hk).2)
            have HB := hid (HB.out.trans (b6.mono (show g ≤ w5.heap.size by rw [HG.out]; exact HB.out.size)))
            obtain ⟨ai, ci, rfl, -, ri, -⟩ := Ints_form hi6
            have KM := hid (l02Mul_any a' ai B.length (rep q.toNat).length c' ci B (rep q.toNat) (by omega) (by have := lr.out; omega) C2.out.1 (Can_rep _).1 w6 (RowI_old R2.out (by rw [← HG.out]; exact HB.out)) ri)
            rw [vq.out, HPE.out] at KM
            clear hi6 ri b6 HPE
            go_wp2_with fail
            (with_reducible refine KM.out.mono ?_)
            rintro e w7 ⟨v7, rfl, hi7, b7⟩
            have HO := hid (Ints_below HO.out b7 fun k hk => (Ints_lt HO.out k hk).2)
            have HU := hid (Ints_below HU.out b7 fun k hk => (Ints_lt HU.out k hk).2)
            have HB := hid (HB.out.trans (b7.mono (show g ≤ w6.heap.size by rw [HG.out]; exact HB.out.size)))
            obtain ⟨am, cm, rfl, -, rm, -⟩ := Ints_form hi7
            have KS := hid (l02Sub_any au am T.length (rep p.toNat).length cu cm T (rep p.toNat) (by have := TL.out; omega) HPL.out CT.out.1 (Can_rep _).1 (by rw [HPV.out]; exact HP.out) w7 (Ints_row HU.out) rm)
            rw [HPV.out] at KS
            have hg7 := hid (show g + 1 ≤ w7.heap.size from (Ints_lt HO.out g rfl).2)
            clear hi7 rm b7 KM
            go_wp2_with fail
            (with_reducible refine KS.out.mono ?_)
            rintro e w8 ⟨v8, rfl, hi8, b8⟩
            have HO := hid (Ints_below HO.out b8 fun k hk => (Ints_lt HO.out k hk).2)
            have HB := hid (HB.out.trans (b8.mono (show g ≤ w7.heap.size by rw [HG.out]; exact HB.out.size)))
            have HR8 := hid (Ints_base hi8 hg7.out)
            have V8 := hid (val_rep' (V := val T - p) (by have := HP.out; omega))
            clear hi8 b8 KS
            go_wp2
            go_roundw
            case rel => exact ⟨k, _, _, by omega, rfl, HO.out, hid (Lim_set hPL.out _ q0 qlt), hid (fun j hj h => by rw [List.getElem_set_ne (by omega)]; exact HZ.out j (by simpa using hj) (by omega)), HR8.out, hid (Can_rep _), hid (by rw [V8.out]; exact HR2.out), hid (by rw [V8.out, T1.out]; exact HST.out), HB.out⟩
            case measure => simp [intOf]
end Go.Proofs.Yteanocjkdehhgaa
