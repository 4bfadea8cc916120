/- Matrices that are equal (the program and the reference). -/
import Derived.Test.YtdffmeinofgdgaaGreatXr
import Derived.Deep.RegionHeld3
import Derived.Deep.DeepCutAuto
namespace Go.Proofs.YtdffmeinofgdgaaGreat
open Go.RowKit
open Go.Lib (hid)
set_option linter.unusedVariables false

set_option maxRecDepth 100000 in
set_option maxHeartbeats 6400000 in
theorem EqualFuncM {a : Option Addr} {n c : Nat} {b : Option Addr} {m d : Nat} {M O : List (List Fq)} {lo hi lo' hi' : Nat} (hM : Sm2 M) (hO : Sm2 O) (w : World) (h : MW w a n M lo hi) (h' : MW w b m O lo' hi') :
    Calls Tryz.prog 39 #[.slice a n c, .slice b m d, .func (.func 13) #[] #[]] w (RetB (.bool (eqM M O)) w) := by
  have HV := hid h
  have HW := hid h'
  obtain rfl := h.num
  obtain rfl := h'.num
  clear h h'
  have hkl := hM.2
  have hll := hO.2
  by_cases hne : M.length = O.length
  · obtain ⟨B0, hB0⟩ : ∃ B, B = eqM M O := ⟨_, rfl⟩
    rw [← hB0]
    have HB0 := hid hB0
    clear hB0
    have HN := hid hne
    rw [← hne] at HW ⊢
    clear hne
    go_enter Tryz.func39, Tryz.ntmps39
    go_wp2
    go_loopw [17] (fun i wr => ∃ k : Nat, k ≤ M.length ∧ i = .int .i64 k ∧ Hid (∀ j (h : j < M.length) (h' : j < O.length), j < k → eqV M[j] O[j] = true) ∧ Below w.heap.size w wr) (fun i _ => M.length - (intOf i).toNat)
    case atStart => exact ⟨0, Nat.zero_le _, rfl, hid (fun j h h' hj => absurd hj (by omega)), Below.refl _ _⟩
    case round =>
      obtain ⟨k, hk, rfl, hA, hbel⟩ := hrel
      by_cases hlt : k < M.length
      · have hlt2 : k < O.length := by rw [← HN.out]; exact hlt
        obtain ⟨g1, p1, b1, d1, rfl, hg1, q1, V1⟩ := (HV.out.old hbel).at hlt
        obtain ⟨g2, p2, b2, d2, rfl, hg2, q2, V2⟩ := (HW.out.old hbel).at hlt2
        have hS1 := hM.at hlt
        have hS2 := hO.at hlt2
        obtain ⟨K, hKK⟩ : ∃ K, M[k]'(hlt) = K := ⟨_, rfl⟩
        rw [hKK] at q1 V1 hS1
        obtain ⟨L, hLL⟩ : ∃ L, O[k]'(hlt2) = L := ⟨_, rfl⟩
        rw [hLL] at q2 V2 hS2
        have KO := hid (impl_VecEqual_w (c := d1) (d := d2) hS1 hS2 wr V1 V2)
        obtain ⟨ef, hef⟩ : ∃ ef, eqV K L = ef := ⟨_, rfl⟩
        rw [hef] at KO
        have HEF := hid (show eqV (M[k]'(hlt)) (O[k]'(hlt2)) = ef by rw [hKK, hLL, hef])
        have HB := hid hbel
        have a1' : (0 : Int) ≤ k := by omega
        have a2 : (k : Int) < M.length := by omega
        clear hbel hKK hLL V1 V2 hef
        cases ef with
        | false =>
          go_wp2_with fail
          (with_reducible refine (KO.out).mono ?_)
          rintro e w2 ⟨rfl, hb⟩
          have HB := hid (HB.out.trans (hb.mono HB.out.size))
          clear hb q1 q2
          go_wp2
          go_ret
          exact ⟨bool_ret (by rw [HB0.out, eqM_no hlt hlt2 HEF.out]), HB.out⟩
        | true =>
          go_wp2_with fail
          (with_reducible refine (KO.out).mono ?_)
          rintro e w2 ⟨rfl, hb⟩
          have HB := hid (HB.out.trans (hb.mono HB.out.size))
          clear hb q1 q2
          go_wp2
          go_roundw
          case rel => exact ⟨k + 1, by omega, by go_num, hid (fun j h h' hj => by
            rcases Nat.lt_or_eq_of_le (Nat.le_of_lt_succ hj) with hj' | rfl
            · exact hA.out j h h' hj'
            · exact HEF.out), HB.out⟩
          case measure => simp [intOf]; omega
      · have HB := hid hbel
        clear hbel
        go_wp2
        go_ret
        exact ⟨bool_ret (by rw [HB0.out, eqM_yes HN.out (fun j h h' => hA.out j h h' (by omega))]), HB.out⟩
  · rw [eqM_len hne]
    obtain ⟨e1, e2⟩ := ne_facts hne
    go_enter Tryz.func39, Tryz.ntmps39
    go_wp2
    go_ret
    exact ⟨rfl, Below.refl _ _⟩
set_option maxRecDepth 100000 in
set_option maxHeartbeats 6400000 in
theorem impl_MatEqual {a : Option Addr} {n c : Nat} {b : Option Addr} {m d : Nat} {M O : List (List Fq)} {lo hi lo' hi' : Nat} (hM : Sm2 M) (hO : Sm2 O) (w : World) (h : MW w a n M lo hi) (h' : MW w b m O lo' hi') :
    Calls Tryz.prog 11 #[.slice a n c, .slice b m d] w (RetB (.bool (eqM M O)) w) := by
  have KE := hid (EqualFuncM (c := c) (d := d) hM hO w h h')
  clear h h'
  generalize eqM M O = B0 at KE ⊢
  go_enter Tryz.func11, Tryz.ntmps11
  go_wp2_with fail
  (with_reducible refine (KE.out).mono ?_)
  rintro e w2 ⟨rfl, hb⟩
  have HB := hid hb
  clear hb
  go_wp2
  go_ret
  exact ⟨rfl, HB.out⟩
end Go.Proofs.YtdffmeinofgdgaaGreat
