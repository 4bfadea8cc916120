/- Common denominators (the reference). -/
import Derived.Test.YtmghoedjcokhpaaVk
import Derived.Deep.RegionHeld3
import Derived.Deep.DeepCutAuto
namespace Go.Proofs.Ytmghoedjcokhpaa
open Go.RowKit
open Go.Lib (hid)
set_option linter.unusedVariables false

theorem pw48_60 : pw 24 * pw 24 < pw 60 := pwp
theorem lcm_lt48 {x y : Nat} (hx : (x : Int) < pw 24) (hy : (y : Int) < pw 24) (h0 : 0 < x) (h1 : 0 < y) : ((Nat.lcm x y : Nat) : Int) < pw 60 := lcm_lt24 hx hy h0 h1
set_option maxRecDepth 100000 in
set_option maxHeartbeats 6400000 in
theorem spec_CommonDenominator {p : Bool} {a : Option Addr} {n c : Nat} {K : List Fq} {lo hi : Nat} (hK : Sm K) (w : World) (h : VK p w (.slice a n c) K lo hi) :
    Calls Try.prog 46 #[.slice a n c] w (OwnP (cdenO (vals K)) w) := by
  have HV := hid h
  obtain rfl := h.num
  clear h
  have hkl := hK.2
  obtain ⟨R0, hR0⟩ : ∃ R, R = cdenO (vals K) := ⟨_, rfl⟩
  rw [← hR0]
  have HR0 := hid hR0
  clear hR0
  have I1 := hid (Ints_lit1 (w := w) (B := w.heap.size) 1 (Nat.le_refl _))
  have B1 := hid (show Below w.heap.size w (w.alloc (.cells #[.int .i64 1] 3)) from below_new')
  go_enter Try.func46, Try.ntmps46
  go_wp2
  generalize w.alloc (.cells #[.int .i64 1] 3) = w1 at I1 B1 ⊢
  go_loopw [3, 11] (fun v i wr => ∃ (k m : Nat) (a' : Option Addr) (L' : List Int) (c' : Nat), k ≤ K.length ∧ i = .int .i64 k ∧ v = .slice a' L'.length c' ∧ Hid (L' = rep m) ∧ Hid (m = lcmN ((vals K).take k)) ∧ Hid ((m : Int) < pw 60 ∧ 0 < m) ∧ Hid (∀ j (h : j < K.length), j < k → K[j].o.isSome = true) ∧ Hid (Ints wr w.heap.size (.slice a' L'.length c') L') ∧ Below w.heap.size w wr) (fun _ i _ => K.length - (intOf i).toNat)
  case atStart => exact ⟨0, 1, _, [1], _, Nat.zero_le _, rfl, rfl, hid (rep_one.2 rfl).symm, hid (by simp [lcmN]), hid ⟨by decide, by decide⟩, hid (fun j h hj => absurd hj (by omega)), I1, B1.out⟩
  case round =>
    obtain ⟨k, m, a', L', c', hk, rfl, rfl, hL', hm, hm1, hA, hI, hbel⟩ := hrel
    have hl60 := hid (show L'.length ≤ 60 by rw [hL'.out]; exact nok_len (nok_v hm1.out.1).1)
    have hll : L'.length ≤ 60 := hl60.out
    by_cases hlt : k < K.length
    · have V := hid (HV.out.old hbel)
      obtain ⟨g, a3, n3, c3, b3, m3, d3, rfl, hg, q0, q1, q2, R⟩ := V.out.at hK hlt
      obtain ⟨⟨s, A, D⟩, hf⟩ : ∃ f, K[k]'(hlt) = f := ⟨_, rfl⟩
      simp only [hf] at q0 R
      have HF := hid hf
      clear hf
      have HB := hid (hbel.alloc hbel.size (.cells #[.bool s, .slice a3 n3 c3, .slice b3 m3 d3] 45))
      have hz := hbel.size
      have I2 := hid (Ints_old hI.out (below_new' (o := .cells #[.bool s, .slice a3 n3 c3, .slice b3 m3 d3] 45)))
      have LE := hid (LocA.new (w := wr) (T := 45) (cs := #[.bool s, .slice a3 n3 c3, .slice b3 m3 d3]))
      have a1' : (0 : Int) ≤ k := by omega
      have a2 : (k : Int) < K.length := by omega
      clear hbel
      cases ho : Fq.o ⟨s, A, D⟩ with
      | none =>
        have KO := hid (fun (W : World) (hb : Below wr.heap.size wr W) => sok_none (w := W) (RA.old ⟨A, D, R, ho⟩ hb))
        have HN := hid (cden_no (os := vals K) (k := k) (by rw [vals_len]; exact hlt) (by rw [vals_at hlt, HF.out, ho]))
        clear ho R hll
        go_wp2_with fail
        (with_reducible refine (KO.out _ below_new').mono ?_)
        rintro e w2 ⟨rfl, hb⟩
        have HB := hid (HB.out.trans (hb.mono HB.out.size))
        clear hb q0 q1 q2
        go_wp2
        go_ret
        exact ⟨_, rfl, by rw [HR0.out, HN.out]; exact Ints_nil _ _, HB.out⟩
      | some x =>
        have KO := hid (fun (W : World) (hb : Below wr.heap.size wr W) => sok_some (w := W) (RA.old ⟨A, D, R, ho⟩ hb))
        obtain ⟨-, hD, -, hd24, hd0⟩ := RL_lists R ho
        have HD := hid (show ∀ W, Below wr.heap.size wr W → ∃ b, Ints W b (.slice b3 m3 d3) (rep (ndp (some x)).2) from fun W hb => by
          obtain ⟨b', hb'⟩ := R.d
          exact ⟨b', by rw [← hD]; exact Ints_old hb' hb⟩)
        have HL := hid (show lcmN ((vals K).take (k + 1)) = Nat.lcm m (ndp (some x)).2 by rw [lcmN_take (by rw [vals_len]; exact hlt), vals_at hlt, HF.out, ho, hm.out])
        have HS := hid (show K[k].o.isSome = true by rw [HF.out, ho]; rfl)
        clear ho R hD
        generalize (ndp (some x)).2 = dd at HD HL hd24 hd0
        have hd24' := hid hd24
        have hd0' := hid hd0
        clear hd24 hd0
        by_cases hbig : L'.length ≤ 24
        · have hm24 := hid ((rep_len24 m).1 (by rw [← hL'.out]; exact hbig))
          have h25 : decide ((24 : Int) < (L'.length : Int)) = false := decide_eq_false (by omega)
          have hp := hid pw24_60
          have hgl := hid (Nat.gcd_le_right (n := dd) m hd0'.out)
          have hgp := hid (Nat.gcd_pos_of_pos_left dd hm1.out.2)
          have KG := hid (fun (W : World) (b1 b2 : Nat) (h1 : Ints W b1 (.slice a' L'.length c') (rep m)) (h2 : Ints W b2 (.slice b3 m3 d3) (rep dd)) => sgcd_v (x := m) (y := dd) hm1.out.1 (by have := hp.out; have := hd24'.out; omega) h1 h2)
          have KD := hid (fun (W : World) (v u : Value) (b1 b2 : Nat) (h1 : Ints W b1 v (rep dd)) (h2 : Ints W b2 u (rep (Nat.gcd m dd))) => sdiv_v (x := dd) (y := Nat.gcd m dd) (by have := hp.out; have := hd24'.out; omega) (by have := hp.out; have := hd24'.out; have := hgl.out; omega) hgp.out h1 h2)
          have KM := hid (fun (W : World) (v u : Value) (b1 b2 : Nat) (h1 : Ints W b1 v (rep m)) (h2 : Ints W b2 u (rep (dd / Nat.gcd m dd))) => smul_v (x := m) (y := dd / Nat.gcd m dd) hm1.out.1 (by have := hp.out; have := hd24'.out; have := Nat.div_le_self dd (Nat.gcd m dd); omega) h1 h2)
          have HE := hid (lcm_eq m dd)
          clear hbig hll
          go_wp2_with fail
          (with_reducible refine (KO.out _ below_new').mono ?_)
          rintro e w2 ⟨rfl, hb⟩
          have HB := hid (HB.out.trans (hb.mono HB.out.size))
          have I3 := hid (show Ints w2 w.heap.size (.slice a' L'.length c') (rep m) from by have h := Ints_old I2.out hb; rw [← hL'.out]; exact h)
          have LE := hid (LE.out.old hb)
          have BW := hid ((below_new' (o := .cells #[.bool s, .slice a3 n3 c3, .slice b3 m3 d3] 45)).trans (hb.mono (by simp)))
          have hz2 : wr.heap.size + 1 ≤ w2.heap.size := by have := hb.size; simpa using this
          clear hb q0 q1 q2
          go_wp2_with fail
          have x2 := LE.out.c 2 (v := .slice b3 m3 d3) rfl
          have hN : wr.heap.size < w2.heap.size := by omega
          have I3D := hid (Ints_old I3.out (Below_drew1 (Below.refl _ _)))
          have BD := hid (Below_drew1 BW.out)
          have HBD := hid (Below_drew1 HB.out)
          obtain ⟨bd, hbd⟩ := HD.out w2.drew BD.out
          have KG2 := hid (KG.out w2.drew _ _ I3D.out hbd)
          clear hbd
          go_region_held3 (fun w' => w'.cell? ⟨wr.heap.size, 2, none⟩ = some (.slice b3 m3 d3)) (first | with_reducible exact x2 | go_keep)
            (first
              | (go_at_call 91; (with_reducible refine (KG2.out).mono ?_); rintro e w3 ⟨v3, rfl, i3, hb⟩
                 have x2 := (hb.cell (p := ⟨wr.heap.size, 2, none⟩) hN).trans x2
                 have HB3 := hid (HBD.out.trans (hb.mono HBD.out.size))
                 have BW3 := hid (BD.out.trans (hb.mono BD.out.size))
                 have I4 := hid (Ints_old I3D.out hb)
                 have hz3 := hb.size
                 obtain ⟨bd3, hbd3⟩ := HD.out w3 BW3.out
                 have KD3 := hid (KD.out w3 _ _ _ _ hbd3 i3)
                 clear i3 hb hbd3)
              | (go_at_call 90; (with_reducible refine (KD3.out).mono ?_); rintro e w4 ⟨v4, u4, rfl, i4, -, hb⟩
                 have x2 := (hb.cell (p := ⟨wr.heap.size, 2, none⟩) (Nat.lt_of_lt_of_le hN hz3)).trans x2
                 have HB4 := hid (HB3.out.trans (hb.mono HB3.out.size))
                 have I5 := hid (Ints_old I4.out hb)
                 have Q4 := hid i4
                 clear i4 hb))
          clear x2
          go_wp2_with fail
          (with_reducible refine (KM.out _ _ _ _ _ I5.out Q4.out).mono ?_)
          rintro e w5 ⟨v5, rfl, i5, hb⟩
          have HB5 := hid (HB4.out.trans (hb.mono HB4.out.size))
          have I6 := hid (Ints_base i5 HB4.out.size)
          rw [HE.out, ← HL.out] at I6
          have HM0 := hid (show 0 < lcmN ((vals K).take (k + 1)) by rw [HL.out]; exact Nat.lcm_pos hm1.out.2 hd0'.out)
          have HM6 := hid (show ((lcmN ((vals K).take (k + 1)) : Nat) : Int) < pw 60 by rw [HL.out]; exact lcm_lt24 hm24.out hd24'.out hm1.out.2 hd0'.out)
          obtain ⟨m', hm'⟩ : ∃ m', m' = lcmN ((vals K).take (k + 1)) := ⟨_, rfl⟩
          rw [← hm'] at I6 HM0 HM6
          have HM' := hid hm'
          obtain ⟨L6, hL6⟩ : ∃ L6, L6 = rep m' := ⟨_, rfl⟩
          rw [← hL6] at I6
          have HL6 := hid hL6
          obtain ⟨a6, c6, rfl, -⟩ := Ints_form I6.out
          clear i5 hb hm' hL6
          go_wp2
          go_roundw
          case rel => exact ⟨k + 1, m', _, L6, _, by omega, by go_num, rfl, HL6, HM', hid ⟨HM6.out, HM0.out⟩, hid (fun j h hj => by
            rcases Nat.lt_or_eq_of_le (Nat.le_of_lt_succ hj) with hj' | rfl
            · exact hA.out j h hj'
            · exact HS.out), I6, HB5.out⟩
          case measure => simp [intOf]; omega
        · have HN := hid (cden_long (os := vals K) (k := k) (by rw [← hm.out]; exact fun h => hbig (by rw [hL'.out]; exact (rep_len24 m).2 h)))
          have h25 : decide ((24 : Int) < (L'.length : Int)) = true := decide_eq_true (by omega)
          clear hbig hll
          go_wp2_with fail
          (with_reducible refine (KO.out _ below_new').mono ?_)
          rintro e w2 ⟨rfl, hb⟩
          have HB := hid (HB.out.trans (hb.mono HB.out.size))
          clear hb q0 q1 q2
          go_wp2
          go_ret
          exact ⟨_, rfl, by rw [HR0.out, HN.out]; exact Ints_nil _ _, HB.out⟩
    · obtain rfl : k = K.length := by omega
      have HB := hid hbel
      have HM := hid (show m = lcmN (vals K) by have h1 := hm.out; rwa [List.take_of_length_le (by rw [vals_len]; exact Nat.le_refl _)] at h1)
      clear hbel
      by_cases hbig : L'.length ≤ 24
      · have h25 : decide ((24 : Int) < (L'.length : Int)) = false := decide_eq_false (by omega)
        have HY := hid (show R0 = L' by
          rw [HR0.out, cden_yes (all_of fun j hj _ => hA.out j hj hj) (by rw [← HM.out]; exact (rep_len24 m).1 (by rw [← hL'.out]; exact hbig)), ← HM.out, hL'.out])
        clear hbig hll
        go_wp2
        go_ret
        exact ⟨_, rfl, by rw [HY.out]; exact hI.out, HB.out⟩
      · have h25 : decide ((24 : Int) < (L'.length : Int)) = true := decide_eq_true (by omega)
        have HN := hid (cden_long (os := vals K) (k := K.length) (by rw [← hm.out]; exact fun h => hbig (by rw [hL'.out]; exact (rep_len24 m).2 h)))
        clear hbig hll
        go_wp2
        go_ret
        exact ⟨_, rfl, by rw [HR0.out, HN.out]; exact Ints_nil _ _, HB.out⟩
end Go.Proofs.Ytmghoedjcokhpaa
