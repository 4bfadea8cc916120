import Derived.Test.YtjjainnafihkdaaGreatYd
import Derived.Deep.RegionHeld3
import Derived.Deep.DeepCutAuto
import Derived.Deep.LoopGhost
set_option maxRecDepth 100000
set_option maxHeartbeats 51200000
set_option linter.unusedVariables false
set_option linter.unusedSimpArgs false
namespace Go.Proofs.YtjjainnafihkdaaGreat
open Go.RowKit
open Go.Lib (hid)
theorem finishRow_any {G n cap lo W c d : Nat} {I : World → List Value → List (List Rat) → Nat → Prop} (hI : RI G n cap lo I) {hi : Nat} {R : List (List Rat)} {H : List Value} (B : Bool) (hRW : Rows W R) (hc : c < W) (hW : W ≤ 40) (hn : n ≤ 40) (hd : d < R.length) (h0 : el R[d] c ≠ 0) (hB : B = true ↔ finOk R d c) (w : World) (h : I w H R hi) :
    Calls Tryz.prog 179 #[.slice (some ⟨G, 0, none⟩) n cap, .int .i64 (d : Int), .int .i64 (c : Int)] w (fun e w' => e = .returned (.bool B) ∧ Below lo w w' ∧ (B = true → ∃ H' hi', I w' H' (fin R d c) hi')) := by
  have hRn := hI.len h
  have HI := hid hI
  have HH := hid h
  have HRW := hid hRW
  have HBB := hid (hB.trans (finOk_iff hd))
  have HFC := hid (fin_clrs (c := c) hd)
  have hX := hRW.at hd
  have HSV := hid (scl_val hX.2 (by omega) h0 (by omega))
  have HS1 := hid (el_scl (by omega) h0)
  have HSL := hid ((scl_len c R[d]).trans hX.1)
  obtain ⟨b, cb, e0, hv⟩ := hI.view h d hd
  have hrow := hI.row h
  have hnc := (own_cur hrow).choose_spec.2.2.2
  have q0 := hrow.cells (g := G) rfl d _ e0
  rw [Go.WideShapes.add_plain, Nat.zero_add] at q0
  have hlG := hid (hrow.lt G rfl)
  obtain ⟨X, hXX⟩ : ∃ X, R[d] = X := ⟨_, rfl⟩
  simp only [hXX] at HBB HFC hX h0 HSV HS1 HSL hv q0
  obtain ⟨hxl, hxa⟩ := hX
  rw [hxl] at hv q0
  obtain ⟨gx, ox, sx, a3, n3, c3, b3, m3, d3, rfl, hgx, x0, x1, x2, RX⟩ := hv.elx hxa (by omega) (k := c) (by omega)
  have HV := hid hv
  have HE0 := hid e0
  have RXh := hid RX
  have hgxh := hid hgx
  have hSX := hid (Sm_rv hxa (by omega))
  obtain ⟨KV, hKV⟩ : ∃ KV, KV = vscale (rv X) (bq divF (some ((1 : Int) : Rat)) (some (el X c))) := ⟨_, rfl⟩
  rw [← hKV] at HSV
  have HKV := hid hKV
  obtain ⟨P, hP⟩ : ∃ P, scl c X = P := ⟨_, rfl⟩
  simp only [hP] at HBB HFC HSV HS1 HSL
  have a1 : (0 : Int) ≤ d := by omega
  have a2 : (d : Int) < n := by omega
  have a3' : (0 : Int) ≤ c := by omega
  have a4 : (c : Int) < W := by omega
  have Q0 := hid q0
  have X0 := hid x0
  have X1 := hid x1
  have X2 := hid x2
  clear hI h hRW hB hv hrow e0 hXX hKV hP RX h0 x0 x1 x2 q0
  go_enter Tryz.func179, Tryz.ntmps179
  go_upto_region 1 with fail
  go_cut [7] (fun _ wx => ∃ a7 n7 c7, Hid (wx.cell? ⟨G, d, none⟩ = some (.slice a7 n7 c7)) ∧ Hid (n7 = KV.length) ∧ Hid (Below lo w wx) ∧ Hid (AF P → ∃ H1 hi1, I wx H1 (R.set d P) hi1 ∧ H1[d]? = some (.slice a7 n7 c7)))
  case first =>
    have hbd := hid (Below_drew1 (Below.refl w.heap.size w))
    have q0 : w.drew.cell? ⟨G, d, none⟩ = _ := Q0.out
    have x0 : w.drew.cell? ⟨gx, ox + c * 3, none⟩ = _ := X0.out
    have x1 : w.drew.cell? ⟨gx, ox + c * 3 + 1, none⟩ = _ := X1.out
    have x2 : w.drew.cell? ⟨gx, ox + c * 3 + 2, none⟩ = _ := X2.out
    have KI := hid (int_o 1 (by decide) (by decide) w.drew)
    go_region_law (first
      | (go_simp; go_at_call 65; (with_reducible refine (KI.out).mono ?_); rintro e w3 ⟨s5, a5, n5, c5, b5, m5, d5, rfl, hr, hb⟩
         have HB3 := hid (hbd.out.trans (hb.mono hbd.out.size))
         have q0 := (hb.cell (p := ⟨G, d, none⟩) hlG.out.2).trans q0
         have x0 := (hb.cell (p := ⟨gx, ox + c * 3, none⟩) hgxh.out).trans x0
         have x1 := (hb.cell (p := ⟨gx, ox + c * 3 + 1, none⟩) hgxh.out).trans x1
         have x2 := (hb.cell (p := ⟨gx, ox + c * 3 + 2, none⟩) hgxh.out).trans x2
         have hz3 := hid HB3.out.size
         have KD := hid (div_o (w := w3) hr.ra (RXh.out.old HB3.out))
         clear hr hb)
      | (go_simp; go_at_call 170; (with_reducible refine (KD.out).mono ?_); rintro e w4 ⟨s6, a6, n6, c6, b6, m6, d6, rfl, hr, hb⟩
         have q0 := (hb.cell (p := ⟨G, d, none⟩) (Nat.lt_of_lt_of_le hlG.out.2 hz3.out)).trans q0
         have HB4 := hid (HB3.out.trans (hb.mono HB3.out.size))
         have KVS := hid (impl_VecScale_w (c := cb) hSX.out w4 (HV.out.old HB4.out) hr.ra)
         rw [← HKV.out] at KVS
         clear hr hb)
      | (go_simp; go_at_call 172; (with_reducible refine (KVS.out).mono ?_); rintro e w5 ⟨a7, n7, c7, rfl, hv, hb⟩
         have HB5 := hid (HB4.out.trans (hb.mono HB4.out.size))
         have HI5 := hid (HI.out.old HH.out HB5.out)
         have hrow5 := hid (HI.out.row HI5.out)
         have f0 := World.ownsRow.frozenAt hrow5.out d
         have q9 := hrow5.out.cells (g := G) rfl d _ HE0.out
         rw [Go.WideShapes.add_plain, Nat.zero_add] at q9
         have HR5 := hid ((World.ownsRow.stored hrow5.out d (.slice a7 n7 c7)).1)
         have HC5 := hid (show (w5.setCell ⟨G, d, none⟩ (.slice a7 n7 c7)).cell? ⟨G, d, none⟩ = some (.slice a7 n7 c7) by
           have hl := hrow5.out.1
           have hR' := HI.out.len HI5.out
           have := HR5.out.cells (g := G) rfl d (.slice a7 n7 c7) (by rw [List.getElem?_set_self (by omega)])
           rwa [Go.WideShapes.add_plain, Nat.zero_add] at this)
         have HN5 := hid hv.num
         have HBN := hid ((HB5.out.mono (B' := lo) (by have := hlG.out; omega)).setCell (p := ⟨G, d, none⟩) hlG.out.1 (.slice a7 n7 c7))
         have HX5 := hid (show AF P → ∃ H1 hi1, I (w5.setCell ⟨G, d, none⟩ (.slice a7 n7 c7)) H1 (R.set d P) hi1 ∧ H1[d]? = some (.slice a7 n7 c7) from fun hp => by
           have hv' := hv
           rw [HSV.out.1 hp] at hv'
           have hl := hrow5.out.1
           have hR' := HI.out.len HI5.out
           refine ⟨_, _, HI.out.set HI5.out (by omega) (by rw [HSL.out]; omega) hv' ?_ hb.size (Nat.le_refl _), List.getElem?_set_self (by omega)⟩
           have := HI.out.le HH.out
           have := HB4.out.size
           omega)
         clear hv hb))
    all_goals
      go_wp2
      go_meet
      exact ⟨_, _, _, HC5, HN5, HBN, HX5⟩
  case rest =>
    generalize wc = w1 at hcut ⊢
    obtain ⟨a7, n7, c7, hq, hn7, hb7, hx7⟩ := hcut
    clear Q0 X0 X1 X2
    by_cases hP : AF P
    · obtain ⟨H1, hi1, h1, e1⟩ := hx7.out hP
      have HN := hid (hn7.out.trans (by rw [HSV.out.1 hP, rv_len, HSL.out]))
      obtain rfl : n7 = W := HN.out
      have hW0 : ((n7 : Int) == 0) = false := beq_eq_false_iff_ne.2 (by omega)
      have hR1 : (R.set d P).length = R.length := List.length_set
      have hat1 : ∀ k (hk : k < R.length), k ≠ d → (R.set d P)[k]'(by omega) = R[k] := fun k hk hne => by rw [List.getElem_set, if_neg (by omega)]
      have hatd : (R.set d P)[d]'(by omega) = P := by rw [List.getElem_set, if_pos rfl]
      have HRW1 := hid (show Rows n7 (R.set d P) from ⟨fun Y hY => by
          rcases List.mem_or_eq_of_mem_set hY with hY | rfl
          · exact HRW.out.len Y hY
          · exact HSL.out, fun Y hY => by
          rcases List.mem_or_eq_of_mem_set hY with hY | rfl
          · exact HRW.out.af Y hY
          · exact hP⟩)
      obtain ⟨B1, hB1⟩ := bool_of (∀ k (hk : 0 + k < (R.set d P).length), k < d → clrOk P c (R.set d P)[0 + k])
      have HB1 := hid hB1
      have hone : (1 : Rat) ≠ 0 := by decide
      have KA := hid (fun (U : World) (hb : Below w1.heap.size w1 U) => clearColumn_any (off := 0) (m := d) (p := d) (cR := cap) (aR := some ⟨G, 0, none⟩) HI.out B1 HRW1.out hc hW hn (fun _ => rfl) (by omega) (by omega) (.inr (by omega)) (by rw [hatd, HS1.out]; exact hone) (by rw [hatd]; exact hB1) U (HI.out.old h1 hb) e1)
      simp only [hatd] at KA
      have HH1 := hid h1
      have HE1 := hid e1
      have q0 := hq.out
      have b1' : (d : Int) ≤ cap := by omega
      have b2' : ((d : Int) + 1) ≤ n := by omega
      have b4' : (0 : Int) ≤ (d : Int) + 1 := by omega
      have hwr : IntKind.i64.wrap ((d : Int) + 1) = ((d + 1 : Nat) : Int) := by have := IntWalk.i64_in ((d : Int) + 1) (by omega); rw [this]; rfl
      have hb3 : ((d + 1 : Nat) : Int) ≤ n := by omega
      have hlG1 := hid ((HI.out.row h1).lt G rfl)
      cases B1 with
      | false =>
        have hBf : B = false := by
          cases hb : B with
          | false => rfl
          | true =>
            have h2 := (HBB.out.1 hb).2.1
            have := HB1.out.2 (fun k hk hkd => by
              simp only [Nat.zero_add] at hk ⊢
              rw [hat1 k (by omega) (by omega)]
              exact h2 k (by omega) hkd)
            cases this
        subst hBf
        clear hB1 h1 e1
        go_wp2_with fail
        have q0 : w1.drew.cell? ⟨G, d, none⟩ = _ := q0
        have hbd := hid (Below_drew1 (Below.refl w1.heap.size w1))
        refine wp_region_held_drew (S := (fun w' => w'.cell? ⟨G, d, none⟩ = some (.slice a7 n7 c7))) (by kernel_rfl) (by first | (with_reducible exact q0) | ((try dsimp only); with_reducible exact q0)) (fun hHeld => ?_)
        refine tk (i := 0) (v := ?_) rfl (by kernel_rfl) (fun _ _ _ h => h) (Or.inl ⟨by rfl, ?_⟩) (by assumption) ?_
        rotate_left
        · (intro w hSw; (try dsimp only at hSw); go_simp; try (with_reducible rfl))
        try simp only [Act.put, ka1, ka2, ka3, ka4, ka5]
        refine tk (i := 1) (v := ?_) rfl (by kernel_rfl) (fun _ _ _ h => h) (Or.inl ⟨by rfl, ?_⟩) (by assumption) ?_
        rotate_left
        · (intro w hSw; (try dsimp only at hSw); go_simp; try (with_reducible rfl))
        try simp only [Act.put, ka1, ka2, ka3, ka4, ka5, ka6]
        refine tk (i := 2) (v := ?_) rfl (by kernel_rfl) (fun _ _ _ h => h) (Or.inl ⟨by rfl, ?_⟩) (by assumption) ?_
        rotate_left
        · (intro w hSw; (try dsimp only at hSw); go_simp; try (with_reducible rfl))
        try simp only [Act.put, ka1, ka2, ka3, ka4, ka5, ka6]
        refine tk (i := 3) (v := ?_) rfl (by kernel_rfl) (fun _ _ _ h => h) (Or.inl ⟨by rfl, ?_⟩) (by assumption) ?_
        rotate_left
        · (intro w hSw; (try dsimp only at hSw); go_simp; try (with_reducible rfl))
        try simp only [Act.put, ka1, ka2, ka3, ka4, ka5, ka6]
        refine tk (i := 4) (v := ?_) rfl (by kernel_rfl) (fun _ _ _ h => h) (Or.inl ⟨by rfl, ?_⟩) (by assumption) ?_
        rotate_left
        · (intro w hSw; (try dsimp only at hSw); go_simp; try (with_reducible rfl))
        try simp only [Act.put, ka1, ka2, ka3, ka4, ka5, ka6]
        refine tk (i := 5) (v := ?_) rfl (by kernel_rfl) (fun _ _ _ h => h) (Or.inl ⟨by rfl, ?_⟩) (by assumption) ?_
        rotate_left
        · (intro w hSw; (try dsimp only at hSw); go_simp; try (with_reducible rfl))
        try simp only [Act.put, ka1, ka2, ka3, ka4, ka5, ka6]
        refine tk (i := 6) (v := ?_) rfl (by kernel_rfl) (fun _ _ _ h => h) (Or.inl ⟨by rfl, ?_⟩) (by assumption) ?_
        rotate_left
        · (intro w hSw; (try dsimp only at hSw); go_simp; try (with_reducible rfl))
        try simp only [Act.put, ka1, ka2, ka3, ka4, ka5, ka6]
        refine tk (i := 7) (v := ?_) rfl (by kernel_rfl) (fun _ _ _ h => h) (Or.inl ⟨by rfl, ?_⟩) (by assumption) ?_
        rotate_left
        · (intro w hSw; (try dsimp only at hSw); go_simp; try (with_reducible rfl))
        try simp only [Act.put, ka1, ka2, ka3, ka4, ka5, ka6]
        refine wpAnyH_ready (rs := [8]) (by kernel_rfl) (by simp) ?_
        refine AllReadyH.cons (o := _) rfl (fun K hK => ?_) AllReadyH.nil
        go_simp
        (with_reducible refine (KA.out _ hbd.out).mono ?_)
        rintro e w2 ⟨rfl, hb2, hq2, -⟩
        have HB2 := hid (hb7.out.trans ((Below_drew1 (Below.refl lo w1)).trans hb2))
        have q0 := hq2
        clear hb2 hq2
        go_wp2_with fail
        refine hK.out _ _ ?_ (fun hHeld => ?_)
        · first | (with_reducible exact q0) | ((try dsimp only); with_reducible exact q0)
        refine tk (i := 9) (v := ?_) rfl (by kernel_rfl) (fun _ _ _ h => h) (Or.inl ⟨by rfl, ?_⟩) (by assumption) ?_
        rotate_left
        · (intro w hSw; (try dsimp only at hSw); go_simp; try (with_reducible rfl))
        try simp only [Act.put, ka1, ka2, ka3, ka4, ka5, ka6]
        refine tk (i := 10) (v := undef) rfl (by kernel_rfl) (fun _ _ _ h => h) (Or.inr ⟨by rfl, rfl⟩) (by assumption) ?_
        try simp only [Act.put, ka1, ka2, ka3, ka4, ka5, ka6]
        refine tk (i := 11) (v := undef) rfl (by kernel_rfl) (fun _ _ _ h => h) (Or.inr ⟨by rfl, rfl⟩) (by assumption) ?_
        try simp only [Act.put, ka1, ka2, ka3, ka4, ka5, ka6]
        refine tk (i := 12) (v := undef) rfl (by kernel_rfl) (fun _ _ _ h => h) (Or.inr ⟨by rfl, rfl⟩) (by assumption) ?_
        try simp only [Act.put, ka1, ka2, ka3, ka4, ka5, ka6]
        refine tk (i := 13) (v := undef) rfl (by kernel_rfl) (fun _ _ _ h => h) (Or.inr ⟨by rfl, rfl⟩) (by assumption) ?_
        try simp only [Act.put, ka1, ka2, ka3, ka4, ka5, ka6]
        refine tk (i := 14) (v := undef) rfl (by kernel_rfl) (fun _ _ _ h => h) (Or.inr ⟨by rfl, rfl⟩) (by assumption) ?_
        try simp only [Act.put, ka1, ka2, ka3, ka4, ka5, ka6]
        refine tk (i := 15) (v := undef) rfl (by kernel_rfl) (fun _ _ _ h => h) (Or.inr ⟨by rfl, rfl⟩) (by assumption) ?_
        try simp only [Act.put, ka1, ka2, ka3, ka4, ka5, ka6]
        refine tk (i := 16) (v := undef) rfl (by kernel_rfl) (fun _ _ _ h => h) (Or.inr ⟨by rfl, rfl⟩) (by assumption) ?_
        try simp only [Act.put, ka1, ka2, ka3, ka4, ka5, ka6]
        refine tk (i := 17) (v := undef) rfl (by kernel_rfl) (fun _ _ _ h => h) (Or.inr ⟨by rfl, rfl⟩) (by assumption) ?_
        try simp only [Act.put, ka1, ka2, ka3, ka4, ka5, ka6]
        refine tk (i := 18) (v := undef) rfl (by kernel_rfl) (fun _ _ _ h => h) (Or.inr ⟨by rfl, rfl⟩) (by assumption) ?_
        try simp only [Act.put, ka1, ka2, ka3, ka4, ka5, ka6]
        refine tk (i := 19) (v := undef) rfl (by kernel_rfl) (fun _ _ _ h => h) (Or.inr ⟨by rfl, rfl⟩) (by assumption) ?_
        try simp only [Act.put, ka1, ka2, ka3, ka4, ka5, ka6]
        refine tk (i := 20) (v := ?_) rfl (by kernel_rfl) (fun _ _ _ h => h) (Or.inl ⟨by rfl, ?_⟩) (by assumption) ?_
        rotate_left
        · (intro w hSw; (try dsimp only at hSw); go_simp; try (with_reducible rfl))
        try simp only [Act.put, ka1, ka2, ka3, ka4, ka5, ka6]
        refine tk (i := 21) (v := ?_) rfl (by kernel_rfl) (fun _ _ _ h => h) (Or.inl ⟨by rfl, ?_⟩) (by assumption) ?_
        rotate_left
        · (intro w hSw; (try dsimp only at hSw); go_simp; try (with_reducible rfl))
        try simp only [Act.put, ka1, ka2, ka3, ka4, ka5, ka6]
        refine wpAnyH_done (by kernel_rfl) ?_ _
        clear q0
        go_wp2
        go_ret
        first | exact ⟨rfl, HB2.out, fun h => by cases h⟩ | exact ⟨rfl, HB2.out⟩
      | true =>
        have hall1 := HB1.out.1 rfl
        have hR3l : (clrs (R.set d P) P c 0 d).length = R.length := by rw [clrs_len (by omega), hR1]
        have hat3 : ∀ k (hk : k < R.length), d ≤ k → (clrs (R.set d P) P c 0 d)[k]'(by omega) = (R.set d P)[k]'(by omega) := fun k hk hdk => clrs_at (by omega) (by omega) (.inr (by omega))
        have hR3d : (clrs (R.set d P) P c 0 d)[d]'(by omega) = P := by rw [hat3 d (by omega) (Nat.le_refl _), hatd]
        have HRW3 := hid (show Rows n7 (clrs (R.set d P) P c 0 d) from ⟨fun Y hY => by
            obtain ⟨k, hk, rfl⟩ := List.getElem_of_mem hY
            have hkR : k < (R.set d P).length := by omega
            by_cases hkd : k < d
            · rw [clrs_in (by omega) hkR (Nat.zero_le _) (by omega), clr_len (by rw [HSL.out, (HRW1.out.at hkR).1])]
              exact (HRW1.out.at hkR).1
            · rw [hat3 k (by omega) (by omega)]
              exact (HRW1.out.at hkR).1, fun Y hY => by
            obtain ⟨k, hk, rfl⟩ := List.getElem_of_mem hY
            have hkR : k < (R.set d P).length := by omega
            by_cases hkd : k < d
            · rw [clrs_in (by omega) hkR (Nat.zero_le _) (by omega)]
              have := hall1 k (by omega) hkd
              simp only [Nat.zero_add] at this
              exact clr_af this (HRW1.out.at hkR).2
            · rw [hat3 k (by omega) (by omega)]
              exact (HRW1.out.at hkR).2⟩)
        have HB2' := hid (show B = true ↔ ∀ k (hk : d + 1 + k < (clrs (R.set d P) P c 0 d).length), k < n - (d + 1) → clrOk P c (clrs (R.set d P) P c 0 d)[d + 1 + k] from by
          rw [HBB.out]
          refine ⟨fun h k hk hkm => ?_, fun h => ⟨hP, fun k hk hkd => ?_, fun k hk hkd => ?_⟩⟩
          · rw [hat3 (d + 1 + k) (by omega) (by omega), hat1 (d + 1 + k) (by omega) (by omega)]
            exact h.2.2 (d + 1 + k) (by omega) (by omega)
          · have := hall1 k (by omega) hkd
            simp only [Nat.zero_add] at this
            rwa [hat1 k hk (by omega)] at this
          · have := h (k - (d + 1)) (by omega) (by omega)
            simp only [show d + 1 + (k - (d + 1)) = k by omega] at this
            rwa [hat3 k hk (by omega), hat1 k hk (by omega)] at this)
        have KB := hid (fun (U : World) (H3 : List Value) (hi3 : Nat) (h3 : I U H3 (clrs (R.set d P) P c 0 d) hi3) (e3 : H3[d]? = some (.slice a7 n7 c7)) (aR : Option Addr) (cR mm : Nat) (hmm : mm = n - (d + 1)) (haR : 0 < n - (d + 1) → aR = some ⟨G, d + 1, none⟩) => show Calls Tryz.prog 123 #[.slice aR mm cR, .slice a7 n7 c7, .int .i64 (c : Int)] U (ColR I (clrs (R.set d P) P c 0 d) ((clrs (R.set d P) P c 0 d)[d]'(by rw [hR3l]; exact hd)) c (d + 1) (n - (d + 1)) d G lo (.slice a7 n7 c7) B U) from by
          subst hmm
          exact clearColumn_any (off := d + 1) (m := n - (d + 1)) (p := d) (cR := cR) (aR := aR) HI.out B HRW3.out hc hW hn haR (by omega) (by omega) (.inl (by omega)) (by rw [hR3d, HS1.out]; exact hone) (by rw [hR3d]; exact HB2'.out) U h3 e3)
        simp only [hR3d] at KB
        have HF3 := hid (show clrs (clrs (R.set d P) P c 0 d) P c (d + 1) (n - (d + 1)) = fin R d c by rw [← hRn]; exact HFC.out)
        have hcn := hid hnc
        have hRn3 := hid hRn
        clear hB1 h1 e1 hall1 hR3l hat3 hR3d hat1 hatd hR1
        by_cases hcd : cap = d + 1
        case pos =>
          have HMM := hid (show 0 = n - (d + 1) by have := hcn.out; have := hRn3.out; omega)
          have HAR := hid (show 0 < n - (d + 1) → (some ⟨G, 0, none⟩ : Option Addr) = some ⟨G, d + 1, none⟩ from fun hm => by exfalso; have := hcn.out; have := hRn3.out; omega)
          subst hcd
          have b5' : (d : Int) ≤ (d : Int) + 1 := by omega
          go_wp2_with fail
          have q0 : w1.drew.cell? ⟨G, d, none⟩ = _ := q0
          have hbd := hid (Below_drew1 (Below.refl w1.heap.size w1))
          refine wp_region_held_drew (S := (fun w' => w'.cell? ⟨G, d, none⟩ = some (.slice a7 n7 c7))) (by kernel_rfl) (by first | (with_reducible exact q0) | ((try dsimp only); with_reducible exact q0)) (fun hHeld => ?_)
          refine tk (i := 0) (v := ?_) rfl (by kernel_rfl) (fun _ _ _ h => h) (Or.inl ⟨by rfl, ?_⟩) (by assumption) ?_
          rotate_left
          · (intro w hSw; (try dsimp only at hSw); go_simp; try (with_reducible rfl))
          try simp only [Act.put, ka1, ka2, ka3, ka4, ka5]
          refine tk (i := 1) (v := ?_) rfl (by kernel_rfl) (fun _ _ _ h => h) (Or.inl ⟨by rfl, ?_⟩) (by assumption) ?_
          rotate_left
          · (intro w hSw; (try dsimp only at hSw); go_simp; try (with_reducible rfl))
          try simp only [Act.put, ka1, ka2, ka3, ka4, ka5, ka6]
          refine tk (i := 2) (v := ?_) rfl (by kernel_rfl) (fun _ _ _ h => h) (Or.inl ⟨by rfl, ?_⟩) (by assumption) ?_
          rotate_left
          · (intro w hSw; (try dsimp only at hSw); go_simp; try (with_reducible rfl))
          try simp only [Act.put, ka1, ka2, ka3, ka4, ka5, ka6]
          refine tk (i := 3) (v := ?_) rfl (by kernel_rfl) (fun _ _ _ h => h) (Or.inl ⟨by rfl, ?_⟩) (by assumption) ?_
          rotate_left
          · (intro w hSw; (try dsimp only at hSw); go_simp; try (with_reducible rfl))
          try simp only [Act.put, ka1, ka2, ka3, ka4, ka5, ka6]
          refine tk (i := 4) (v := ?_) rfl (by kernel_rfl) (fun _ _ _ h => h) (Or.inl ⟨by rfl, ?_⟩) (by assumption) ?_
          rotate_left
          · (intro w hSw; (try dsimp only at hSw); go_simp; try (with_reducible rfl))
          try simp only [Act.put, ka1, ka2, ka3, ka4, ka5, ka6]
          refine tk (i := 5) (v := ?_) rfl (by kernel_rfl) (fun _ _ _ h => h) (Or.inl ⟨by rfl, ?_⟩) (by assumption) ?_
          rotate_left
          · (intro w hSw; (try dsimp only at hSw); go_simp; try (with_reducible rfl))
          try simp only [Act.put, ka1, ka2, ka3, ka4, ka5, ka6]
          refine tk (i := 6) (v := ?_) rfl (by kernel_rfl) (fun _ _ _ h => h) (Or.inl ⟨by rfl, ?_⟩) (by assumption) ?_
          rotate_left
          · (intro w hSw; (try dsimp only at hSw); go_simp; try (with_reducible rfl))
          try simp only [Act.put, ka1, ka2, ka3, ka4, ka5, ka6]
          refine tk (i := 7) (v := ?_) rfl (by kernel_rfl) (fun _ _ _ h => h) (Or.inl ⟨by rfl, ?_⟩) (by assumption) ?_
          rotate_left
          · (intro w hSw; (try dsimp only at hSw); go_simp; try (with_reducible rfl))
          try simp only [Act.put, ka1, ka2, ka3, ka4, ka5, ka6]
          refine wpAnyH_ready (rs := [8]) (by kernel_rfl) (by simp) ?_
          refine AllReadyH.cons (o := _) rfl (fun K hK => ?_) AllReadyH.nil
          go_simp
          (with_reducible refine (KA.out _ hbd.out).mono ?_)
          rintro e w2 ⟨rfl, hb2, hq2, hx2⟩
          obtain ⟨H3, hi3, h3, e3⟩ := hx2 rfl
          have HB2 := hid (hb7.out.trans ((Below_drew1 (Below.refl lo w1)).trans hb2))
          have HH3 := hid h3
          have HE3 := hid e3
          have q0 := hq2
          clear hb2 hq2 hx2 h3 e3
          go_wp2_with fail
          refine hK.out _ _ ?_ (fun hHeld => ?_)
          · first | (with_reducible exact q0) | ((try dsimp only); with_reducible exact q0)
          refine tk (i := 9) (v := ?_) rfl (by kernel_rfl) (fun _ _ _ h => h) (Or.inl ⟨by rfl, ?_⟩) (by assumption) ?_
          rotate_left
          · (intro w hSw; (try dsimp only at hSw); go_simp; try (with_reducible rfl))
          try simp only [Act.put, ka1, ka2, ka3, ka4, ka5, ka6]
          refine tk (i := 10) (v := ?_) rfl (by kernel_rfl) (fun _ _ _ h => h) (Or.inl ⟨by rfl, ?_⟩) (by assumption) ?_
          rotate_left
          · (intro w hSw; (try dsimp only at hSw); go_simp; try (with_reducible rfl))
          try simp only [Act.put, ka1, ka2, ka3, ka4, ka5, ka6]
          refine tk (i := 11) (v := ?_) rfl (by kernel_rfl) (fun _ _ _ h => h) (Or.inl ⟨by rfl, ?_⟩) (by assumption) ?_
          rotate_left
          · (intro w hSw; (try dsimp only at hSw); go_simp; try (with_reducible rfl))
          try simp only [Act.put, ka1, ka2, ka3, ka4, ka5, ka6]
          refine tk (i := 12) (v := ?_) rfl (by kernel_rfl) (fun _ _ _ h => h) (Or.inl ⟨by rfl, ?_⟩) (by assumption) ?_
          rotate_left
          · (intro w hSw; (try dsimp only at hSw); go_simp; try (with_reducible rfl))
          try simp only [Act.put, ka1, ka2, ka3, ka4, ka5, ka6]
          refine tk (i := 13) (v := ?_) rfl (by kernel_rfl) (fun _ _ _ h => h) (Or.inl ⟨by rfl, ?_⟩) (by assumption) ?_
          rotate_left
          · (intro w hSw; (try dsimp only at hSw); go_simp; try (with_reducible rfl))
          try simp only [Act.put, ka1, ka2, ka3, ka4, ka5, ka6]
          refine tk (i := 14) (v := ?_) rfl (by kernel_rfl) (fun _ _ _ h => h) (Or.inl ⟨by rfl, ?_⟩) (by assumption) ?_
          rotate_left
          · (intro w hSw; (try dsimp only at hSw); go_simp; try (with_reducible rfl))
          try simp only [Act.put, ka1, ka2, ka3, ka4, ka5, ka6]
          refine tk (i := 15) (v := ?_) rfl (by kernel_rfl) (fun _ _ _ h => h) (Or.inl ⟨by rfl, ?_⟩) (by assumption) ?_
          rotate_left
          · (intro w hSw; (try dsimp only at hSw); go_simp; try (with_reducible rfl))
          try simp only [Act.put, ka1, ka2, ka3, ka4, ka5, ka6]
          refine tk (i := 16) (v := ?_) rfl (by kernel_rfl) (fun _ _ _ h => h) (Or.inl ⟨by rfl, ?_⟩) (by assumption) ?_
          rotate_left
          · (intro w hSw; (try dsimp only at hSw); go_simp; try (with_reducible rfl))
          try simp only [Act.put, ka1, ka2, ka3, ka4, ka5, ka6]
          refine tk (i := 17) (v := ?_) rfl (by kernel_rfl) (fun _ _ _ h => h) (Or.inl ⟨by rfl, ?_⟩) (by assumption) ?_
          rotate_left
          · (intro w hSw; (try dsimp only at hSw); go_simp; try (with_reducible rfl))
          try simp only [Act.put, ka1, ka2, ka3, ka4, ka5, ka6]
          refine tk (i := 18) (v := ?_) rfl (by kernel_rfl) (fun _ _ _ h => h) (Or.inl ⟨by rfl, ?_⟩) (by assumption) ?_
          rotate_left
          · (intro w hSw; (try dsimp only at hSw); go_simp; try (with_reducible rfl))
          try simp only [Act.put, ka1, ka2, ka3, ka4, ka5, ka6]
          refine wpAnyH_ready (rs := [19]) (by kernel_rfl) (by simp) ?_
          refine AllReadyH.cons (o := _) rfl (fun K hK => ?_) AllReadyH.nil
          go_simp
          (with_reducible refine (KB.out _ _ _ HH3.out HE3.out _ _ _ (by first | exact HMM.out | rfl) (by first | exact HAR.out | exact fun _ => rfl)).mono ?_)
          rintro e w3 ⟨rfl, hb3, hq3, hx3⟩
          have HB3 := hid (HB2.out.trans hb3)
          have HX3 := hid hx3
          have q0 := hq3
          clear hb3 hq3 hx3
          go_wp2_with fail
          refine hK.out _ _ ?_ (fun hHeld => ?_)
          · first | (with_reducible exact q0) | ((try dsimp only); with_reducible exact q0)
          refine tk (i := 20) (v := ?_) rfl (by kernel_rfl) (fun _ _ _ h => h) (Or.inl ⟨by rfl, ?_⟩) (by assumption) ?_
          rotate_left
          · (intro w hSw; (try dsimp only at hSw); go_simp; try (with_reducible rfl))
          try simp only [Act.put, ka1, ka2, ka3, ka4, ka5, ka6]
          refine tk (i := 21) (v := ?_) rfl (by kernel_rfl) (fun _ _ _ h => h) (Or.inl ⟨by rfl, ?_⟩) (by assumption) ?_
          rotate_left
          · (intro w hSw; (try dsimp only at hSw); go_simp; try (with_reducible rfl))
          try simp only [Act.put, ka1, ka2, ka3, ka4, ka5, ka6]
          refine wpAnyH_done (by kernel_rfl) ?_ _
          clear q0
          go_wp2
          go_ret
          exact ⟨rfl, HB3.out, fun hb => by
            obtain ⟨H4, hi4, h4, -⟩ := HX3.out hb
            rw [HF3.out] at h4
            exact ⟨H4, hi4, h4⟩⟩
        case neg =>
          have HMM := hid (show n - (d + 1) = n - (d + 1) from rfl)
          have HAR := hid (show 0 < n - (d + 1) → (some ⟨G, d + 1, none⟩ : Option Addr) = some ⟨G, d + 1, none⟩ from fun _ => rfl)
          go_wp2_with fail
          have q0 : w1.drew.cell? ⟨G, d, none⟩ = _ := q0
          have hbd := hid (Below_drew1 (Below.refl w1.heap.size w1))
          refine wp_region_held_drew (S := (fun w' => w'.cell? ⟨G, d, none⟩ = some (.slice a7 n7 c7))) (by kernel_rfl) (by first | (with_reducible exact q0) | ((try dsimp only); with_reducible exact q0)) (fun hHeld => ?_)
          refine tk (i := 0) (v := ?_) rfl (by kernel_rfl) (fun _ _ _ h => h) (Or.inl ⟨by rfl, ?_⟩) (by assumption) ?_
          rotate_left
          · (intro w hSw; (try dsimp only at hSw); go_simp; try (with_reducible rfl))
          try simp only [Act.put, ka1, ka2, ka3, ka4, ka5]
          refine tk (i := 1) (v := ?_) rfl (by kernel_rfl) (fun _ _ _ h => h) (Or.inl ⟨by rfl, ?_⟩) (by assumption) ?_
          rotate_left
          · (intro w hSw; (try dsimp only at hSw); go_simp; try (with_reducible rfl))
          try simp only [Act.put, ka1, ka2, ka3, ka4, ka5, ka6]
          refine tk (i := 2) (v := ?_) rfl (by kernel_rfl) (fun _ _ _ h => h) (Or.inl ⟨by rfl, ?_⟩) (by assumption) ?_
          rotate_left
          · (intro w hSw; (try dsimp only at hSw); go_simp; try (with_reducible rfl))
          try simp only [Act.put, ka1, ka2, ka3, ka4, ka5, ka6]
          refine tk (i := 3) (v := ?_) rfl (by kernel_rfl) (fun _ _ _ h => h) (Or.inl ⟨by rfl, ?_⟩) (by assumption) ?_
          rotate_left
          · (intro w hSw; (try dsimp only at hSw); go_simp; try (with_reducible rfl))
          try simp only [Act.put, ka1, ka2, ka3, ka4, ka5, ka6]
          refine tk (i := 4) (v := ?_) rfl (by kernel_rfl) (fun _ _ _ h => h) (Or.inl ⟨by rfl, ?_⟩) (by assumption) ?_
          rotate_left
          · (intro w hSw; (try dsimp only at hSw); go_simp; try (with_reducible rfl))
          try simp only [Act.put, ka1, ka2, ka3, ka4, ka5, ka6]
          refine tk (i := 5) (v := ?_) rfl (by kernel_rfl) (fun _ _ _ h => h) (Or.inl ⟨by rfl, ?_⟩) (by assumption) ?_
          rotate_left
          · (intro w hSw; (try dsimp only at hSw); go_simp; try (with_reducible rfl))
          try simp only [Act.put, ka1, ka2, ka3, ka4, ka5, ka6]
          refine tk (i := 6) (v := ?_) rfl (by kernel_rfl) (fun _ _ _ h => h) (Or.inl ⟨by rfl, ?_⟩) (by assumption) ?_
          rotate_left
          · (intro w hSw; (try dsimp only at hSw); go_simp; try (with_reducible rfl))
          try simp only [Act.put, ka1, ka2, ka3, ka4, ka5, ka6]
          refine tk (i := 7) (v := ?_) rfl (by kernel_rfl) (fun _ _ _ h => h) (Or.inl ⟨by rfl, ?_⟩) (by assumption) ?_
          rotate_left
          · (intro w hSw; (try dsimp only at hSw); go_simp; try (with_reducible rfl))
          try simp only [Act.put, ka1, ka2, ka3, ka4, ka5, ka6]
          refine wpAnyH_ready (rs := [8]) (by kernel_rfl) (by simp) ?_
          refine AllReadyH.cons (o := _) rfl (fun K hK => ?_) AllReadyH.nil
          go_simp
          (with_reducible refine (KA.out _ hbd.out).mono ?_)
          rintro e w2 ⟨rfl, hb2, hq2, hx2⟩
          obtain ⟨H3, hi3, h3, e3⟩ := hx2 rfl
          have HB2 := hid (hb7.out.trans ((Below_drew1 (Below.refl lo w1)).trans hb2))
          have HH3 := hid h3
          have HE3 := hid e3
          have q0 := hq2
          clear hb2 hq2 hx2 h3 e3
          go_wp2_with fail
          refine hK.out _ _ ?_ (fun hHeld => ?_)
          · first | (with_reducible exact q0) | ((try dsimp only); with_reducible exact q0)
          refine tk (i := 9) (v := ?_) rfl (by kernel_rfl) (fun _ _ _ h => h) (Or.inl ⟨by rfl, ?_⟩) (by assumption) ?_
          rotate_left
          · (intro w hSw; (try dsimp only at hSw); go_simp; try (with_reducible rfl))
          try simp only [Act.put, ka1, ka2, ka3, ka4, ka5, ka6]
          refine tk (i := 10) (v := ?_) rfl (by kernel_rfl) (fun _ _ _ h => h) (Or.inl ⟨by rfl, ?_⟩) (by assumption) ?_
          rotate_left
          · (intro w hSw; (try dsimp only at hSw); go_simp; try (with_reducible rfl))
          try simp only [Act.put, ka1, ka2, ka3, ka4, ka5, ka6]
          refine tk (i := 11) (v := ?_) rfl (by kernel_rfl) (fun _ _ _ h => h) (Or.inl ⟨by rfl, ?_⟩) (by assumption) ?_
          rotate_left
          · (intro w hSw; (try dsimp only at hSw); go_simp; try (with_reducible rfl))
          try simp only [Act.put, ka1, ka2, ka3, ka4, ka5, ka6]
          refine tk (i := 12) (v := ?_) rfl (by kernel_rfl) (fun _ _ _ h => h) (Or.inl ⟨by rfl, ?_⟩) (by assumption) ?_
          rotate_left
          · (intro w hSw; (try dsimp only at hSw); go_simp; try (with_reducible rfl))
          try simp only [Act.put, ka1, ka2, ka3, ka4, ka5, ka6]
          refine tk (i := 13) (v := ?_) rfl (by kernel_rfl) (fun _ _ _ h => h) (Or.inl ⟨by rfl, ?_⟩) (by assumption) ?_
          rotate_left
          · (intro w hSw; (try dsimp only at hSw); go_simp; try (with_reducible rfl))
          try simp only [Act.put, ka1, ka2, ka3, ka4, ka5, ka6]
          refine tk (i := 14) (v := ?_) rfl (by kernel_rfl) (fun _ _ _ h => h) (Or.inl ⟨by rfl, ?_⟩) (by assumption) ?_
          rotate_left
          · (intro w hSw; (try dsimp only at hSw); go_simp; try (with_reducible rfl))
          try simp only [Act.put, ka1, ka2, ka3, ka4, ka5, ka6]
          refine tk (i := 15) (v := ?_) rfl (by kernel_rfl) (fun _ _ _ h => h) (Or.inl ⟨by rfl, ?_⟩) (by assumption) ?_
          rotate_left
          · (intro w hSw; (try dsimp only at hSw); go_simp; try (with_reducible rfl))
          try simp only [Act.put, ka1, ka2, ka3, ka4, ka5, ka6]
          refine tk (i := 16) (v := ?_) rfl (by kernel_rfl) (fun _ _ _ h => h) (Or.inl ⟨by rfl, ?_⟩) (by assumption) ?_
          rotate_left
          · (intro w hSw; (try dsimp only at hSw); go_simp; try (with_reducible rfl))
          try simp only [Act.put, ka1, ka2, ka3, ka4, ka5, ka6]
          refine tk (i := 17) (v := ?_) rfl (by kernel_rfl) (fun _ _ _ h => h) (Or.inl ⟨by rfl, ?_⟩) (by assumption) ?_
          rotate_left
          · (intro w hSw; (try dsimp only at hSw); go_simp; try (with_reducible rfl))
          try simp only [Act.put, ka1, ka2, ka3, ka4, ka5, ka6]
          refine tk (i := 18) (v := ?_) rfl (by kernel_rfl) (fun _ _ _ h => h) (Or.inl ⟨by rfl, ?_⟩) (by assumption) ?_
          rotate_left
          · (intro w hSw; (try dsimp only at hSw); go_simp; try (with_reducible rfl))
          try simp only [Act.put, ka1, ka2, ka3, ka4, ka5, ka6]
          refine wpAnyH_ready (rs := [19]) (by kernel_rfl) (by simp) ?_
          refine AllReadyH.cons (o := _) rfl (fun K hK => ?_) AllReadyH.nil
          go_simp
          (with_reducible refine (KB.out _ _ _ HH3.out HE3.out _ _ _ (by first | exact HMM.out | rfl) (by first | exact HAR.out | exact fun _ => rfl)).mono ?_)
          rintro e w3 ⟨rfl, hb3, hq3, hx3⟩
          have HB3 := hid (HB2.out.trans hb3)
          have HX3 := hid hx3
          have q0 := hq3
          clear hb3 hq3 hx3
          go_wp2_with fail
          refine hK.out _ _ ?_ (fun hHeld => ?_)
          · first | (with_reducible exact q0) | ((try dsimp only); with_reducible exact q0)
          refine tk (i := 20) (v := ?_) rfl (by kernel_rfl) (fun _ _ _ h => h) (Or.inl ⟨by rfl, ?_⟩) (by assumption) ?_
          rotate_left
          · (intro w hSw; (try dsimp only at hSw); go_simp; try (with_reducible rfl))
          try simp only [Act.put, ka1, ka2, ka3, ka4, ka5, ka6]
          refine tk (i := 21) (v := ?_) rfl (by kernel_rfl) (fun _ _ _ h => h) (Or.inl ⟨by rfl, ?_⟩) (by assumption) ?_
          rotate_left
          · (intro w hSw; (try dsimp only at hSw); go_simp; try (with_reducible rfl))
          try simp only [Act.put, ka1, ka2, ka3, ka4, ka5, ka6]
          refine wpAnyH_done (by kernel_rfl) ?_ _
          clear q0
          go_wp2
          go_ret
          exact ⟨rfl, HB3.out, fun hb => by
            obtain ⟨H4, hi4, h4, -⟩ := HX3.out hb
            rw [HF3.out] at h4
            exact ⟨H4, hi4, h4⟩⟩
    · have HN := hid (hn7.out.trans (by rw [HSV.out.2 hP, List.length_nil]))
      obtain rfl : n7 = 0 := HN.out
      have hBf : B = false := by
        cases hb : B with
        | false => rfl
        | true => exact absurd (HBB.out.1 hb).1 hP
      subst hBf
      have q0 := hq.out
      have HB7 := hb7
      clear hP hx7
      go_wp2
      go_ret
      first | exact ⟨rfl, HB7.out, fun h => by cases h⟩ | exact ⟨rfl, HB7.out⟩
end Go.Proofs.YtjjainnafihkdaaGreat
namespace Go.Proofs.YtjjainnafihkdaaGreat
open Go.RowKit
open Go.Lib (hid)
theorem matOk_rvk {W : Nat} {S : List (List Rat)} (h : Rows W S) (hn : S.length ≤ 40) (hW : W ≤ 40) : matOk (S.map rv) = true := by
 have hw : ∀ k (hk : k < (S.map rv).length), ((S.map rv)[k]).length = W ∧ oks (vals (S.map rv)[k]) = true := fun k hk => by
  rw [List.length_map] at hk
  have hx := h.at hk
  rw [List.getElem_map, rv_len]
  exact ⟨hx.1, oks_rv hx.2 (by omega)⟩
 refine matOk_yes (by rw [List.length_map]; exact hn) fun k hk => ⟨?_, (hw k hk).2⟩
 rw [(hw k hk).1, matW_at (by omega), (hw 0 (by omega)).1]
theorem Sm2_rvk {W : Nat} {S : List (List Rat)} (h : Rows W S) (hn : S.length ≤ 40) (hW : W ≤ 40) : Sm2 (S.map rv) := by
 refine ⟨fun K hK => ?_, by rw [List.length_map]; omega⟩
 obtain ⟨X, hX, rfl⟩ := List.mem_map.1 hK
 have hx : AF X := h.af X hX
 have hl := h.len X hX
 refine ⟨fun f hf => ?_, by rw [rv_len]; omega⟩
 obtain ⟨x, hx', rfl⟩ := List.mem_map.1 hf
 have := fqo_n (o := some x) fun y e => by cases e; exact hx x hx'
 simp only [Fq.n] at this
 omega
theorem Ints_keepK {w w' : World} {G m c lo' n lo : Nat} {xs : List Value} {v : Value} {L : List Int} (hr : w.ownsRow lo' 42 1 (.slice (some ⟨G, 0, none⟩) m c) n xs) (hb : ∀ k, k ≠ G → w'.heap[k]? = w.heap[k]?) (ho : Ints w lo v L) : Ints w' lo v L :=
 Ints_block ho fun k hk => hb k fun e => own_ne hr ho (by decide) k (by rw [e]; rfl) hk
def IP (pv : Value) (L : List Int) (G n cap lo : Nat) (w : World) (H : List Value) (R : List (List Rat)) (hi : Nat) : Prop := IX pv.ownBlock G n cap lo w H R hi ∧ Ints w lo pv L
theorem RI_IP (pv : Value) (L : List Int) (G n cap lo : Nat) : RI G n cap lo (IP pv L G n cap lo) where
 row := fun h => (RI_IX _ G n cap lo).row h.1
 len := fun h => (RI_IX _ G n cap lo).len h.1
 le := fun h => (RI_IX _ G n cap lo).le h.1
 view := fun h => (RI_IX _ G n cap lo).view h.1
 old := fun h hb => ⟨(RI_IX _ G n cap lo).old h.1 hb, Ints_old h.2 hb⟩
 set := fun h hk h0 hv hl hlt ht => ⟨(RI_IX _ G n cap lo).set h.1 hk h0 hv hl hlt ht, Ints_keepK ((RI_IX _ G n cap lo).row h.1) (setCell_other _ G _ _) h.2⟩
 mv := fun h hd hi hs ho hr => ⟨(RI_IX _ G n cap lo).mv h.1 hd hi hs ho hr, Ints_keepK ((RI_IX _ G n cap lo).row h.1) ho h.2⟩
theorem nodup_range0 (n : Nat) : ((List.range n).map fun i => ((0 : Nat), i)).Nodup := by
 rw [List.Nodup, List.pairwise_iff_getElem]
 intro i j hi hj hij
 simp only [List.getElem_map, List.getElem_range]
 intro e
 have := congrArg Prod.snd e
 simp at this
 omega
theorem IX_of {w : World} {a : Option Addr} {n c : Nat} {XX : List (List Rat)} {lo hi : Nat} (h : MAK w (.slice a n c) (XX.map rv) lo hi) (h0 : 0 < XX.length) (hh : hi ≤ w.heap.size) :
  ∃ G, a = some ⟨G, 0, none⟩ ∧ n = XX.length ∧ lo ≤ G ∧ ∃ H, IX none G n c lo w H XX hi := by
 rcases h with ⟨-, h⟩ | ⟨g, N, cc, Es, Z, h, hk⟩
 ·rw [List.map_eq_nil_iff] at h
  rw [h] at h0
  simp at h0
 ·have hl : Es.length = XX.length := by have := congrArg List.length hk; rw [List.length_map, List.length_map] at this; exact this
  obtain ⟨G, rfl, hn, h1, h2, h3, -⟩ := h.cell (k := 0) (by omega)
  have hrow := h.row
  rw [← hn] at hrow
  refine ⟨G, rfl, by omega, h1, (List.range n).map fun i => hdr [⟨g, N, N, cc, Es, Z, lo, hi⟩] (0, i), [⟨g, N, N, cc, Es, Z, lo, hi⟩], (List.range n).map fun i => (0, i), ⟨?_, h2, hh, fun a ha => ?_, fun a b hab hb => ?_, nodup_range0 n, fun r hr => ?_, fun a ha E hE => ?_⟩, by rw [List.map_map]; rfl, ?_, fun a ha k hk => (by cases hk), fun k hk => (by cases hk)⟩
  ·have e : rowsV g cc n = ((List.range n).map fun i => ((0 : Nat), i)).map (hdr [⟨g, N, N, cc, Es, Z, lo, hi⟩]) := by
    unfold rowsV
    rw [List.map_map]
    refine List.map_congr_left fun i hi' => ?_
    have hi2 := List.mem_range.1 hi'
    have hs : Es.getD i [] = Es[i]'(by omega) := by simp [show i < Es.length by omega]
    simp only [Function.comp_apply, hdr, ag, Arr.off, Arr.seg, List.getD_cons_zero]
    rw [take_len' h.len (by omega), hs, h.len _ (List.getElem_mem _)]
   rw [← e]
   exact hrow
  ·have : a = 0 := by simpa using ha
   subst this
   exact ⟨h.vo, Nat.le_refl _, Nat.le_refl _⟩
  ·simp at hb; omega
  ·obtain ⟨i, hi', rfl⟩ := List.mem_map.1 hr
   have hi2 := List.mem_range.1 hi'
   exact ⟨by simp, by show i < Es.length; omega⟩
  ·have : a = 0 := by simpa using ha
   subst this
   exact Nat.le_of_eq (h.len E hE)
  ·rw [← hk]
   apply List.ext_getElem
   ·simp; omega
   ·intro i i1 i2
    simp at i1
    simp [sgk, ag, Arr.seg, i1]
def RedG (r : Option (List (List Rat) × List Nat)) (n : Nat) (w : World) (e : Ending) (w' : World) : Prop :=
 match r with
 | none => e = .returned (.tuple #[.slice none 0 0, .slice none 0 0]) ∧ Below w.heap.size w w'
 | some (S, ps) => ∃ G cap pv H hi, e = .returned (.tuple #[.slice (some ⟨G, 0, none⟩) n cap, pv]) ∧ IX pv.ownBlock G n cap w.heap.size w' H S hi ∧ Ints w' w.heap.size pv (natI ps) ∧ Below w.heap.size w w'
theorem reduceRows_any {a : Option Addr} {n c lo hi W : Nat} {XX : List (List Rat)} (hR : Rows W XX) (hn : XX.length ≤ 40) (hW : W ≤ 40) (h0 : 0 < XX.length) (w : World) (h : MW w a n (XX.map rv) lo hi) :
  Calls Tryz.prog 110 #[.slice a n c] w (RedG (redK XX W) XX.length w) := by
 have HV := hid h
 obtain ⟨N, hN⟩ : ∃ N, XX.length = N := ⟨_, rfl⟩
 have hnum := h.num
 rw [List.length_map, hN] at hnum
 subst hnum
 rw [hN] at hn h0 ⊢
 have HN := hid hN
 have HRW := hid hR
 have hSM := Sm2_rvk hR (by rw [hN]; exact hn) hW
 have hOK := matOk_rvk hR (by rw [hN]; exact hn) hW
 have KO := hid (impl_MatOk (c := c) hSM w h)
 rw [hOK] at KO
 have KC := hid (fun (U : World) (hb : Below w.heap.size w U) => copyMat_any (c := c) hSM hOK U (HV.out.old hb))
 have KW := hid (fun (U : World) (hb : Below w.heap.size w U) => impl_matWidth (c := c) hSM U (HV.out.old hb))
 rw [show matW (XX.map rv) = W by rw [matW_at (by rw [List.length_map, hN]; exact h0), List.getElem_map, rv_len]; exact (hR.at _).1] at KW
 obtain ⟨RS, hRS⟩ : ∃ RS, RS = redK XX W := ⟨_, rfl⟩
 rw [← hRS]
 have HRS := hid hRS
 clear h hR hN hRS hSM hOK
 go_enter Tryz.func110, Tryz.ntmps110
 go_wp2
 go_step3
 go_wp2_with fail
 (with_reducible refine (KO.out).mono ?_)
 rintro e w1 ⟨rfl, hb⟩
 have HB1 := hid hb
 clear hb
 go_wp2_with fail
 (with_reducible refine (KC.out _ HB1.out).mono ?_)
 rintro e w2 ⟨a1, n1, cap, rfl, hMG, hb⟩
 obtain ⟨G, rfl, hn1, hG1, H0, hIX⟩ := IX_of hMG (by rw [HN.out]; exact h0) (Nat.le_refl _)
 rw [HN.out] at hn1
 subst hn1
 have HGl := hid (show w.heap.size ≤ G by have := HB1.out.size; omega)
 obtain ⟨cur, hcur⟩ := own_cur ((RI_IX none G n1 cap w1.heap.size).row hIX)
 have hnc := hcur.2.2.2
 have HB2 := hid (HB1.out.trans (hb.mono HB1.out.size))
 have HI2 := hid (show IX none G n1 cap w.heap.size w2 H0 XX w2.heap.size from by
  obtain ⟨As, P, h, e⟩ := hIX
  exact ⟨As, P, ⟨own_base h.row HB1.out.size, h.gh, h.le, fun a ha => ⟨(h.ok a ha).1, Nat.le_trans HB1.out.size (h.ok a ha).2.1, (h.ok a ha).2.2⟩, h.ap, h.nd, h.inb, h.cp⟩, e⟩)
 clear hMG hb hIX hcur hG1
 go_wp2
 go_step3
 go_wp2_with fail
 (with_reducible refine (KW.out _ HB2.out).mono ?_)
 rintro e w3 ⟨rfl, rfl⟩
 go_wp2
 go_loopg [5, 17] W (fun gg pv t wr => ∃ (k d : Nat) (S : List (List Rat)) (ps : List Nat) (H : List Value) (hi : Nat), k + gg = W ∧ t = .int .i64 k ∧ d ≤ n1 ∧ Hid (d = ps.length) ∧ Hid (redK XX k = some (S, ps)) ∧ Hid (IP pv (natI ps) G n1 cap w.heap.size wr H S hi) ∧ Below w.heap.size w wr)
 case atStart => exact ⟨0, 0, XX, [], H0, _, Nat.zero_add _, rfl, Nat.zero_le _, hid rfl, hid rfl, hid ⟨HI2.out, Ints_nil _ _⟩, HB2.out⟩
 case round =>
  obtain ⟨k, d, S, ps, H, hi, hk, rfl, hdn, hps, hS, hI, hbel⟩ := hrel
  obtain ⟨wo, rfl⟩ : ∃ wo, wo = wr := ⟨_, rfl⟩
  obtain ⟨go, rfl⟩ : ∃ go, go = gk := ⟨_, rfl⟩
  have HB := hid hbel
  have hz := hid hbel.size
  clear hbel
  obtain ⟨xp, yp, hpf⟩ := natI_form hI.out.2
  rw [← hps.out] at hpf
  subst hpf
  have hinv := redK_inv HRW.out hS.out
  have HSl := hid (show S.length = n1 by rw [hinv.2.1, HN.out])
  have HSW := hid hinv.1
  clear hinv
  by_cases hlt : k < W
  ·have k0 : (0 : Int) ≤ k := by omega
   have k1 : (k : Int) < W := by omega
   by_cases hd : d < n1
   ·have hdc : ¬ cap = d := by omega
    have d0 : (0 : Int) ≤ d := by omega
    have d1 : (d : Int) ≤ n1 := by omega
    go_wp2
    go_loopg [5, 26] (n1 - d) (fun gg pw t wr => ∃ i : Nat, i + gg = n1 - d ∧ pw = .slice xp d yp ∧ t = .int .i64 i ∧ Hid (∀ j (hj : j < S.length), d ≤ j → j < d + i → el S[j] k = 0) ∧ Below wo.heap.size wo wr)
    case atStart => exact ⟨0, Nat.zero_add _, rfl, rfl, hid (fun j hj h1 h2 => absurd h1 (by omega)), Below.refl _ _⟩
    case round =>
     obtain ⟨i, hi2, rfl, rfl, hQ, hbi⟩ := hrel
     have HBi := hid hbi
     have HIi := hid ((RI_IP _ _ _ _ _ _).old hI.out hbi)
     have HB4 := hid (HB.out.trans (hbi.mono hz.out))
     clear hbi
     by_cases hilt : i < n1 - d
     ·have hqS : d + i < S.length := by have := HSl.out; omega
      obtain ⟨hql, hqa⟩ := HSW.out.at hqS
      obtain ⟨bx, cx, ex, vx⟩ := (RI_IP _ _ _ _ _ _).view HIi.out (d + i) hqS
      rw [hql] at ex vx
      obtain ⟨gx, ox, sx, a3, n3, c3, b3, m3, d3, rfl, hgx, x0, x1, x2, RX⟩ := vx.elx hqa (by omega) (k := k) (by omega)
      have hrow := (RI_IP _ _ _ _ _ _).row HIi.out
      have q0 := hrow.cells (g := G) rfl (d + i) _ ex
      rw [Go.WideShapes.add_plain, Nat.zero_add] at q0
      have KS := hid (sign_o RX)
      have i0 : (0 : Int) ≤ i := by omega
      have i1 : (i : Int) < ((n1 - d : Nat) : Int) := by omega
      by_cases hz0 : el S[d + i] k = 0
      ·rw [sgn_zero hz0] at KS
       have HQ' := hid (show ∀ j (hj : j < S.length), d ≤ j → j < d + (i + 1) → el S[j] k = 0 from fun j hj h1 h2 => by
        rcases Nat.lt_or_eq_of_le (show j ≤ d + i by omega) with h | rfl
        ·exact hQ.out j hj h1 h
        ·exact hz0)
       clear vx ex hrow RX hz0 hql hqa
       go_wp2_with fail
       (with_reducible refine (KS.out).mono ?_)
       rintro e w5 ⟨rfl, hb⟩
       have HBj := hid (HBi.out.trans (hb.mono HBi.out.size))
       clear hb q0 x0 x1 x2
       go_wp2
       go_roundg (gk - 1)
       case measure => omega
       case rel => exact ⟨i + 1, by omega, rfl, by go_num, HQ', HBj.out⟩
      ·obtain ⟨z, hzz⟩ : ∃ z, sgnO (some (el S[d + i] k)) = z := ⟨_, rfl⟩
       have hz2 : (z == 0) = false := beq_eq_false_iff_ne.2 (by rw [← hzz]; exact sgn_nz hz0)
       rw [hzz] at KS
       have hfs : fnd S d k = some (d + i) := fnd_some (by omega) hqS hz0 (fun j hj h1 h2 => hQ.out j hj h1 h2)
       have HYes := hid (fun (ho : finOk (mvf S d (d + i)) d k) => show redK XX (k + 1) = some (fin (mvf S d (d + i)) d k, ps ++ [k]) from by
        have := redK_fin hS.out (i := d + i) (by rw [← hps.out]; exact hfs) (by rw [← hps.out]; exact ho)
        rw [← hps.out] at this; exact this)
       have HNo := hid (fun (ho : ¬ finOk (mvf S d (d + i)) d k) => show RS = none from by
        have := redK_bad hS.out (i := d + i) (by rw [← hps.out]; exact hfs) (by rw [← hps.out]; exact ho)
        have h2 := redK_none this (W - (k + 1))
        rw [show k + 1 + (W - (k + 1)) = W by omega] at h2
        rw [HRS.out, h2])
       have hS1l : (mvf S d (d + i)).length = n1 := by rw [mvf_len (by omega) hqS, HSl.out]
       have hS1W := HSW.out.mvf (show d ≤ d + i by omega) hqS
       have hS1d : (mvf S d (d + i))[d]'(by omega) = S[d + i] := by rw [mvf_get (by omega) hqS (by omega), if_neg (by omega), if_pos rfl]
       obtain ⟨B, hB⟩ := bool_of (finOk (mvf S d (d + i)) d k)
       have KM := hid (fun (U : World) (hb : Below wo.heap.size wo U) => moveToFront_any (cR := cap - d) (m := n1 - d) (off := d) (i := i) (RI_IP (.slice xp d yp) (natI ps) G n1 cap w.heap.size) (by omega) (by omega) hn (by omega) U ((RI_IP _ _ _ _ _ _).old hI.out hb))
       have KF := hid (fun (U : World) (hU : IP (.slice xp d yp) (natI ps) G n1 cap w.heap.size U (mvf H d (d + i)) (mvf S d (d + i)) hi) => finishRow_any (RI_IP (.slice xp d yp) (natI ps) G n1 cap w.heap.size) B hS1W hlt hW hn (by omega) (by rw [hS1d]; exact hz0) hB U hU)
       have HBB := hid hB
       clear hzz hfs hS1l hS1W hS1d hB vx ex hrow RX hz0 hql hqa
       go_wp2_with fail
       (with_reducible refine (KS.out).mono ?_)
       rintro e w5 ⟨rfl, hb⟩
       have HBj := hid (HBi.out.trans (hb.mono HBi.out.size))
       clear hb q0 x0 x1 x2
       go_wp2_with fail
       (with_reducible refine (KM.out _ HBj.out).mono ?_)
       rintro e w6 ⟨vv, rfl, hI6, hb6⟩
       have KF6 := hid (KF.out _ hI6)
       have HB6 := hid ((HB.out.trans (HBj.out.mono hz.out)).trans hb6)
       clear hI6 hb6
       cases B with
       |false =>
        have hno := HNo.out (fun ho => by have := HBB.out.2 ho; cases this)
        have HR0 := hid hno
        clear hno
        go_wp2_with fail
        (with_reducible refine (KF6.out).mono ?_)
        rintro e w7 ⟨rfl, hb7, -⟩
        have R0 := hid (show RedG RS n1 w (.returned (.tuple #[.slice none 0 0, .slice none 0 0])) w7 from by
         rw [HR0.out]
         exact ⟨rfl, HB6.out.trans hb7⟩)
        clear hb7
        go_wp2
        (try simp only [Exit.inBlock, Exit.then])
        (try rw [Exit.noGoto_ret])
        refine bodyPost_ret (results_tmp2 rfl _ _ _) rfl ?_
        exact R0.out
       |true =>
        have HRK := hid (HYes.out (HBB.out.1 rfl))
        go_wp2_with fail
        (with_reducible refine (KF6.out).mono ?_)
        rintro e w7 ⟨rfl, hb7, hx7⟩
        obtain ⟨H7, hi7, hI7⟩ := hx7 (by trivial)
        have HIA := hid ((RI_IP _ _ _ _ _ _).old hI7 (below_new' (o := .cells #[.int .i64 (k : Int)] 3)))
        have HB7 := hid (HB6.out.trans hb7)
        have HBA := hid (HB7.out.alloc HB7.out.size (.cells #[.int .i64 (k : Int)] 3))
        have PB := hid (heap_alloc_new w7 (.cells #[.int .i64 (k : Int)] 3))
        have hpl := hid (show (natI ps).length ≤ 1048576 by rw [natI_len, ← hps.out]; omega)
        clear hb7 hx7 hI7
        go_wp2_with (at_builtin; refine wpList_pushJ rfl _ _ rfl rfl HIA.out.2 rfl PB.out hpl.out HBA.out.size ?_)
        intro gp cp wp hvp hbp hgr hat
        have hgl := (Ints_lt hvp gp rfl).2
        have HIn := hid (show IP (.slice (some ⟨gp, 0, none⟩) ((natI ps).length + 1) cp) (natI (ps ++ [k])) G n1 cap w.heap.size wp H7 (fin (mvf S d (d + i)) d k) wp.heap.size from
         ⟨HIA.out.1.grown rfl HIA.out.2 hgr (hat.elim (fun e => .inl e) (fun e => .inr (by rw [e]; simp [Value.ownBlock]))) (fun j hj => by
          have : j = gp := by simpa [Value.ownBlock] using hj.symm
          omega), by rw [natI_snoc]; exact hvp⟩)
        have HBn := hid (HBA.out.trans hbp)
        have HPn := hid (show d + 1 = (ps ++ [k]).length by rw [List.length_append, List.length_singleton, ← hps.out])
        clear hvp hbp hgr hat hgl
        go_wp2
        go_roundg (go - 1)
        case measure => omega
        case rel => exact ⟨k + 1, d + 1, fin (mvf S d (d + i)) d k, ps ++ [k], H7, _, by omega, by go_num, by omega, HPn, HRK, HIn, HBn.out⟩
     ·have HRK := hid (redK_skip hS.out (by rw [← hps.out]; exact fnd_none fun j hj h1 => hQ.out j hj h1 (by have := HSl.out; omega)))
      have i1 : ¬ (i : Int) < ((n1 - d : Nat) : Int) := by omega
      go_wp2
      go_roundg (go - 1)
      case measure => omega
      case rel => exact ⟨k + 1, d, S, ps, H, hi, by omega, by go_num, hdn, hps, HRK, HIi, HB4.out⟩
   ·have hdd : d = n1 := by omega
    have hnd : n1 - d = 0 := by omega
    have HRK := hid (redK_skip hS.out (by rw [← hps.out]; exact fnd_none fun j hj h1 => absurd hj (by have := HSl.out; omega)))
    have d0 : (0 : Int) ≤ d := by omega
    have d1 : (d : Int) ≤ n1 := by omega
    have i1 : ¬ (0 : Int) < ((n1 - d : Nat) : Int) := by omega
    clear hdd
    by_cases hcd : cap = d
    case pos =>
     subst hcd
     go_wp2
     go_loopg [5, 26] 0 (fun gg pw t wr => pw = .slice xp cap yp ∧ t = .int .i64 0 ∧ wr = wo)
     case atStart => exact ⟨rfl, rfl, rfl⟩
     case round =>
      obtain ⟨rfl, rfl, rfl⟩ := hrel
      go_wp2
      go_roundg (go - 1)
      case measure => omega
      case rel => exact ⟨k + 1, cap, S, ps, H, hi, by omega, by go_num, hdn, hps, HRK, hI, HB.out⟩
    case neg =>
     go_wp2
     go_loopg [5, 26] 0 (fun gg pw t wr => pw = .slice xp d yp ∧ t = .int .i64 0 ∧ wr = wo)
     case atStart => exact ⟨rfl, rfl, rfl⟩
     case round =>
      obtain ⟨rfl, rfl, rfl⟩ := hrel
      go_wp2
      go_roundg (go - 1)
      case measure => omega
      case rel => exact ⟨k + 1, d, S, ps, H, hi, by omega, by go_num, hdn, hps, HRK, hI, HB.out⟩
  ·have hkC : k = W := by omega
   have R0 := hid (show RedG RS n1 w (.returned (.tuple #[.slice (some ⟨G, 0, none⟩) n1 cap, .slice xp d yp])) wo from by
    rw [HRS.out, ← hkC, hS.out]
    exact ⟨_, _, _, _, _, rfl, hI.out.1, hI.out.2, HB.out⟩)
   have k1 : ¬ (k : Int) < W := by omega
   go_wp2
   (try simp only [Exit.inBlock, Exit.then])
   (try rw [Exit.noGoto_ret])
   refine bodyPost_ret (results_tmp2 rfl _ _ _) rfl ?_
   exact R0.out
end Go.Proofs.YtjjainnafihkdaaGreat
