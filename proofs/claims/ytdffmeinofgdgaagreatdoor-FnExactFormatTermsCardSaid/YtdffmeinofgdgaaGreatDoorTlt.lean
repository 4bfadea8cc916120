/- The law FormatTerms. -/
import Derived.Test.YtdffmeinofgdgaaGreatDoorTft
import Derived.Test.YtdffmeinofgdgaaGreatDoorDtx
import Derived.Deep.RegionHeld3
import Derived.Deep.DeepCutAuto
namespace Go.Proofs.YtdffmeinofgdgaaGreatDoor
open Go.RowKit
open Go.Lib (hid)
set_option linter.unusedVariables false

theorem sumSz_mem : ∀ {L : List ByteArray} {x : ByteArray}, x ∈ L → x.size ≤ sumSz L
  | y :: L, x, h => by
    rcases List.mem_cons.1 h with rfl | h
    · simp only [sumSz]; omega
    · have := sumSz_mem h
      simp only [sumSz]; omega
set_option maxRecDepth 100000 in
set_option maxHeartbeats 800000 in
theorem szStringS_z (z : Int) (z0 : 0 ≤ z) (z1 : z ≤ 1048576) (a : Option Addr) (n c : Nat) (L : List ByteArray) (w : World) (hr : RowO w a n L) (hn : n ≤ maxLen) (hz : ∀ x ∈ L, x.size ≤ maxLen) :
    Calls Tryz.prog 7 #[.slice a n c, .int .i64 z] w (SzPost L w) := by
  obtain ⟨rfl, hr⟩ := hr
  have HR := hid hr
  have HZ := hid hz
  clear hr hz
  unfold maxLen at hn
  by_cases h1 : z < L.length
  · go_enter Tryz.func7, Tryz.ntmps7
    go_wp2
    go_ret
    exact ⟨-1, rfl, by omega, rfl⟩
  · go_enter Tryz.func7, Tryz.ntmps7
    go_wp2
    go_loop [1, 5] (fun x i => ∃ (k : Nat) (left : Int), k ≤ L.length ∧ i = .int .i64 k ∧ x = .int .i64 left ∧ 0 ≤ left ∧ left ≤ 1048576 ∧ Hid (left = z - L.length - sumSz (L.take k))) (fun _ i => L.length - (intOf i).toNat)
    case atStart => exact ⟨0, _, Nat.zero_le _, rfl, rfl, by omega, by omega, hid (by simp [sumSz])⟩
    case round =>
      obtain ⟨k, left, hk, rfl, rfl, h2, h3, h4⟩ := hrel
      by_cases hlt : k < L.length
      · obtain ⟨g, o, rfl, hg, hc⟩ := HR.out (by omega)
        have hck := hc k hlt
        have hzk := HZ.out L[k] (List.getElem_mem hlt)
        have HT := hid (sumSz_take hlt)
        unfold maxLen at hzk
        clear hc
        have a1 : (0 : Int) ≤ k := by omega
        have a2 : (k : Int) < L.length := by omega
        by_cases h5 : left - L[k].size < 0
        · go_wp2
          go_ret
          exact ⟨-1, rfl, by omega, rfl⟩
        · go_wp2
          go_round
          case rel => exact ⟨k + 1, _, by omega, by go_num, rfl, by omega, by omega, hid (by have := h4.out; have := HT.out; omega)⟩
          case measure => simp [intOf]; omega
      · obtain rfl : k = L.length := by omega
        go_wp2
        go_ret
        refine ⟨left, rfl, fun _ => ?_, rfl⟩
        have := h4.out
        rw [List.take_length] at this
        omega
set_option maxRecDepth 100000 in
set_option maxHeartbeats 25600000 in
theorem law_FormatTerms (a : Option Addr) (n c : Nat) (K : List Tq) (hnK : n ≤ maxLen) (hmK : ∀ f ∈ K, f.A.length ≤ maxLen ∧ f.D.length ≤ maxLen) (aN : Option Addr) (nN cN : Nat) (N : List ByteArray) (hnN : nN ≤ maxLen) (hmN : ∀ x ∈ N, x.size ≤ maxLen) (w : World) (rK : TCame w w.heap.size a n K) (rN : RowO w aN nN N) (hp : Pow10 w) :
    Calls Tryz.prog 3 #[.slice a n c, .slice aN nN cN] w (RetB (.bool true) w) := by
  have B := hid (Below.refl w.heap.size w)
  have rK := hid rK
  have rN := hid rN
  by_cases hsK : (szU K : Int) ≤ 1048576
  case neg =>
    go_enter Tryz.func3, Tryz.ntmps3
    obtain ⟨w0, hw0⟩ : ∃ w0, w0 = w := ⟨_, rfl⟩
    rw [← hw0] at B rK ⊢
    clear hw0
    go_wp2_with fail
    (with_reducible refine (szTermS_no _ _ _ _ K (1048576) hnK hmK (by omega) (by omega) (by omega) _ rK.out).mono ?_)
    rintro e w1 ⟨rfl, b1⟩
    have B := hid (B.out.trans (b1.mono B.out.size))
    clear b1
    go_wp2
    go_ret
    exact ⟨rfl, B.out⟩
  have hztK := szT_szU K
  have hSK : SmT K := SmT.of (by omega)
  have hslK : szU K ≤ 1048576 := by omega
  have PP := hid hp
  go_enter Tryz.func3, Tryz.ntmps3
  obtain ⟨w0, hw0⟩ : ∃ w0, w0 = w := ⟨_, rfl⟩
  rw [← hw0] at B rK rN PP ⊢
  clear hw0
  go_wp2_with fail
  (with_reducible refine (szTermS_yes _ _ _ _ K (1048576) (by omega) (by omega) _ rK.out).mono ?_)
  rintro e w1 ⟨rfl, b1⟩
  have rK := hid (rK.out.old b1)
  have rN := hid (RowO_below rN.out b1)
  have PP := hid (PP.out.old b1)
  have B := hid (B.out.trans (b1.mono B.out.size))
  clear b1
  have KZ := hid (szStringS_z (1048576 - (szU K : Int)) (by omega) (by omega) aN nN cN N w1 rN.out hnN hmN)
  go_wp2_with fail
  (with_reducible refine (KZ.out).mono ?_)
  rintro e w2 ⟨r, rfl, hr2, rfl⟩
  clear KZ
  by_cases h2 : r < 0
  · clear hr2
    go_wp2
    go_ret
    exact ⟨rfl, B.out⟩
  obtain ⟨hs, hL⟩ := hr2 (by omega)
  have hNs : ∀ x ∈ N, x.size ≤ 1048576 := fun x hx => by have := sumSz_mem hx; omega
  have HNs := hid hNs
  clear hr2 hNs
  obtain ⟨RR, hRR⟩ : ∃ RR, RR = fmtT K N := ⟨_, rfl⟩
  have HRR := hid hRR
  clear hRR
  go_wp2_with fail
  (with_reducible refine (toTermS_came _ _ _ _ K (by omega) _ rK.out).mono ?_)
  rintro e w3 ⟨a3, n3, c3, rfl, i1, b1⟩
  have rK := hid (rK.out.old b1)
  have rN := hid (RowO_below rN.out b1)
  have PP := hid (PP.out.old b1)
  have B := hid (B.out.trans (b1.mono B.out.size))
  have TK := hid i1
  clear i1
  clear b1
  go_wp2_with fail
  (with_reducible refine (toStringS_any aN nN cN N _ rN.out hL).mono ?_)
  rintro e w4 ⟨g4, d4, rfl, hg4, hz4, hS4, b1⟩
  have rK := hid (rK.out.old b1)
  have rN := hid (RowO_below rN.out b1)
  have PP := hid (PP.out.old b1)
  have B := hid (B.out.trans (b1.mono B.out.size))
  have TK := hid (TK.out.old b1)
  have TN := hid hS4
  have hTN := hz4
  clear hS4 hg4 hz4
  clear b1
  have KR := hid (spec_FormatTerms (cN := d4) hSK hL HNs.out w4 TK.out hTN (fun i hi => Strs_cell TN.out hi))
  rw [← HRR.out] at KR
  go_wp2_with fail
  (with_reducible refine (KR.out).mono ?_)
  rintro e w5 ⟨rfl, b1⟩
  have rK := hid (rK.out.old b1)
  have rN := hid (RowO_below rN.out b1)
  have PP := hid (PP.out.old b1)
  have B := hid (B.out.trans (b1.mono B.out.size))
  have TK := hid (TK.out.old b1)
  have TN := hid (Strs_old TN.out b1)
  have hTN := Nat.lt_of_lt_of_le hTN b1.size
  clear b1 KR
  clear TK TN hTN
  go_wp2_with fail
  (with_reducible refine (toTermS_came _ _ _ _ K (by omega) _ rK.out).mono ?_)
  rintro e w6 ⟨a6, n6, c6, rfl, i1, b1⟩
  have rK := hid (rK.out.old b1)
  have rN := hid (RowO_below rN.out b1)
  have PP := hid (PP.out.old b1)
  have B := hid (B.out.trans (b1.mono B.out.size))
  have XK := hid i1
  clear i1
  clear b1
  go_wp2_with fail
  (with_reducible refine (toStringS_any aN nN cN N _ rN.out hL).mono ?_)
  rintro e w7 ⟨g7, d7, rfl, hg7, hz7, hS7, b1⟩
  have rK := hid (rK.out.old b1)
  have rN := hid (RowO_below rN.out b1)
  have PP := hid (PP.out.old b1)
  have B := hid (B.out.trans (b1.mono B.out.size))
  have XK := hid (XK.out.old b1)
  have XN := hid hS7
  have hXN := hz7
  clear hS7 hg7 hz7
  clear b1
  have KR := hid (impl_FormatTerms (cN := d7) hSK hL HNs.out w7 XK.out hXN (fun i hi => Strs_cell XN.out hi) PP.out)
  rw [← HRR.out] at KR
  go_wp2_with fail
  (with_reducible refine (KR.out).mono ?_)
  rintro e w8 ⟨rfl, b1⟩
  have rK := hid (rK.out.old b1)
  have rN := hid (RowO_below rN.out b1)
  have PP := hid (PP.out.old b1)
  have B := hid (B.out.trans (b1.mono B.out.size))
  have XK := hid (XK.out.old b1)
  have XN := hid (Strs_old XN.out b1)
  have hXN := Nat.lt_of_lt_of_le hXN b1.size
  clear b1 KR
  go_wp2_with fail
  (with_reducible refine (toTermS_came _ _ _ _ K (by omega) _ rK.out).mono ?_)
  rintro e w9 ⟨a9, n9, c9, rfl, i1, b1⟩
  have rK := hid (rK.out.old b1)
  have rN := hid (RowO_below rN.out b1)
  have PP := hid (PP.out.old b1)
  have B := hid (B.out.trans (b1.mono B.out.size))
  have XK := hid (XK.out.old b1)
  have XN := hid (Strs_old XN.out b1)
  have hXN := Nat.lt_of_lt_of_le hXN b1.size
  have TK := hid i1
  clear i1
  clear b1
  go_wp2_with fail
  (with_reducible refine (eqTermS_k (by omega) _ XK.out TK.out).mono ?_)
  rintro e w10 ⟨rfl, b1⟩
  have rK := hid (rK.out.old b1)
  have rN := hid (RowO_below rN.out b1)
  have PP := hid (PP.out.old b1)
  have B := hid (B.out.trans (b1.mono B.out.size))
  have XK := hid (XK.out.old b1)
  have XN := hid (Strs_old XN.out b1)
  have hXN := Nat.lt_of_lt_of_le hXN b1.size
  have TK := hid (TK.out.old b1)
  clear b1
  go_wp2_with fail
  (with_reducible refine (toStringS_any aN nN cN N _ rN.out hL).mono ?_)
  rintro e w11 ⟨g11, d11, rfl, hg11, hz11, hS11, b1⟩
  have rK := hid (rK.out.old b1)
  have rN := hid (RowO_below rN.out b1)
  have PP := hid (PP.out.old b1)
  have B := hid (B.out.trans (b1.mono B.out.size))
  have XK := hid (XK.out.old b1)
  have XN := hid (Strs_old XN.out b1)
  have hXN := Nat.lt_of_lt_of_le hXN b1.size
  have TK := hid (TK.out.old b1)
  have TN := hid hS11
  have hTN := hz11
  clear hS11 hg11 hz11
  clear b1
  have R4 := hid (Row_of XN.out)
  have R6 := hid (Row_of TN.out)
  go_wp2_with fail
  (with_reducible refine (eqStringS_same _ _ _ _ _ _ N (by omega) _ R4.out R6.out).mono ?_)
  rintro e w12 ⟨rfl, d7, rfl⟩
  go_wp2
  go_ret
  exact ⟨rfl, below_drewN B.out d7⟩
end Go.Proofs.YtdffmeinofgdgaaGreatDoor
