/- What the programs read of numbers in limbs: whether a list is one, how two compare, the int that it is. -/
import Derived.Test.YtccflamengaokabDoorMem
namespace Go.Proofs.YtccflamengaokabDoor
open Go.RowKit
open Go.Lib (hid)
set_option linter.unusedVariables false

theorem ret_boolI {a b : Bool} (h : a = b) : Ending.returned (.bool a) = .returned (.bool b) := by rw [h]
theorem ret_intI {a b : Int} (h : a = b) : Ending.returned (.int .i64 a) = .returned (.int .i64 b) := by rw [h]

set_option maxHeartbeats 800000 in
theorem impl_NatOk (a : Option Addr) (n c : Nat) (L : List Int) (hL : L.length ≤ 1073741824) (w : World) (h1 : RowI w a n L) :
    Calls Tryd.prog 16 #[.slice a n c] w fun e w' => e = .returned (.bool (nok L)) ∧ w = w' := by
  obtain ⟨rfl, H1⟩ := h1
  have G1 := hid H1
  clear H1
  obtain ⟨b, hb⟩ : ∃ b, b = nok L := ⟨_, rfl⟩
  have HB := hid hb
  rw [← hb]
  clear hb
  by_cases hl : 60 < L.length
  · have hF := hid (HB.out.trans (nok_no_len hl))
    have hl' : (60 : Int) < L.length := by omega
    go_enter Tryd.func16, Tryd.ntmps16
    go_wp2
    go_ret
    exact ⟨ret_boolI hF.out.symm, rfl⟩
  have hl' : (L.length : Int) ≤ 60 := by omega
  go_enter Tryd.func16, Tryd.ntmps16
  go_wp2
  go_loop [10] (fun i => ∃ (k : Nat), k ≤ L.length ∧ i = .int .i64 k ∧ Hid (∀ j (hj : j < L.length), j < k → 0 ≤ L[j] ∧ L[j] < 1000000000)) (fun i => L.length - (intOf i).toNat)
  case atStart => exact ⟨0, Nat.zero_le _, rfl, hid fun j _ h => by omega⟩
  case round =>
    obtain ⟨k, hk, rfl, hin⟩ := hrel
    by_cases hlt : k < L.length
    · obtain ⟨g1, o1, rfl, _, hc1⟩ := G1.out (by omega)
      have q1 := hc1 k hlt
      clear hc1
      have a1 : (0 : Int) ≤ k := by omega
      have a2 : (k : Int) < L.length := by omega
      by_cases hr : L[k] < 0 ∨ 1000000000 ≤ L[k]
      · have hF := hid (HB.out.trans (nok_no_at hlt hr))
        rcases hr with hr | hr
        · go_wp2
          go_ret
          exact ⟨ret_boolI hF.out.symm, rfl⟩
        · have hr2 : ¬ L[k] < 0 := by omega
          go_wp2
          go_ret
          exact ⟨ret_boolI hF.out.symm, rfl⟩
      · have hr2 : 0 ≤ L[k] := by omega
        have hr3 : L[k] < 1000000000 := by omega
        go_wp2
        go_round
        case rel => exact ⟨k + 1, by omega, by go_num, hid fun j hj h => if e : j = k then by subst e; exact ⟨hr2, hr3⟩ else hin.out j hj (by omega)⟩
        case measure => simp [intOf]; omega
    · obtain rfl : k = L.length := by omega
      by_cases h0 : L.length = 0
      · have hT := hid (HB.out.trans (nok_yes (by omega) (fun i hi => by omega) (fun n hi => by omega)))
        have h0' : (L.length : Int) = 0 := by omega
        go_wp2
        go_ret
        exact ⟨ret_boolI hT.out.symm, rfl⟩
      · obtain ⟨g1, o1, rfl, _, hc1⟩ := G1.out (by omega)
        obtain ⟨m, hlm, hm⟩ : ∃ m, m < L.length ∧ L.length = m + 1 := ⟨L.length - 1, by omega, by omega⟩
        have q1 := hc1 m hlm
        clear hc1
        have hmm : ((L.length : Int) - 1).toNat = m := by omega
        have HMM := hid hm
        clear hm
        have hm0 : (1 : Int) ≤ L.length := by omega
        by_cases hz : L[m] = 0
        · have hF := hid (HB.out.trans (nok_no_last HMM.out (fun _ => hz)))
          go_wp2
          go_ret
          exact ⟨ret_boolI (by rw [hF.out]; exact beq_eq_false_iff_ne.2 (by omega)), rfl⟩
        · have hz' : ∀ n (hi : n < L.length), L.length = n + 1 → L[n] ≠ 0 := by
            intro n hi e
            obtain rfl : n = m := by have := HMM.out; omega
            exact hz
          have hT := hid (HB.out.trans (nok_yes (by omega) (fun i hi => hin.out i hi hi) hz'))
          clear hz'
          go_wp2
          go_ret
          exact ⟨ret_boolI (by rw [hT.out]; simp [hz]), rfl⟩

theorem l01In_yes (x : Int) (h0 : 0 ≤ x) (h1 : x < 1000000000) (w : World) : Calls Tryd.prog 24 #[.int .i64 x, .int .i64 0, .int .i64 999999999] w fun e w' => e = .returned (.bool true) ∧ w = w' := by
  have h2 : x ≤ 999999999 := by omega
  go_enter Tryd.func24, Tryd.ntmps24
  go_wp2
  go_ret
  exact ⟨rfl, rfl⟩
theorem l01In_no (x : Int) (h : x < 0 ∨ 1000000000 ≤ x) (w : World) : Calls Tryd.prog 24 #[.int .i64 x, .int .i64 0, .int .i64 999999999] w fun e w' => e = .returned (.bool false) ∧ w = w' := by
  rcases h with h | h
  · have h2 : ¬ 0 ≤ x := by omega
    go_enter Tryd.func24, Tryd.ntmps24
    go_wp2
    go_ret
    exact ⟨rfl, rfl⟩
  · have h2 : 0 ≤ x := by omega
    have h3 : ¬ x ≤ 999999999 := by omega
    go_enter Tryd.func24, Tryd.ntmps24
    go_wp2
    go_ret
    exact ⟨rfl, rfl⟩

set_option maxHeartbeats 800000 in
theorem spec_NatOk (a : Option Addr) (n c : Nat) (L : List Int) (hL : L.length ≤ 1073741824) (w : World) (h1 : RowI w a n L) :
    Calls Tryd.prog 13 #[.slice a n c] w fun e w' => e = .returned (.bool (nok L)) ∧ w = w' := by
  obtain ⟨rfl, H1⟩ := h1
  have G1 := hid H1
  clear H1
  obtain ⟨b, hb⟩ : ∃ b, b = nok L := ⟨_, rfl⟩
  have HB := hid hb
  rw [← hb]
  clear hb
  go_enter Tryd.func13, Tryd.ntmps13
  go_wp2
  go_loop [7] (fun i => ∃ (k : Nat), k ≤ L.length ∧ i = .int .i64 k ∧ Hid (∀ j (hj : j < L.length), j < k → 0 ≤ L[j] ∧ L[j] < 1000000000)) (fun i => L.length - (intOf i).toNat)
  case atStart => exact ⟨0, Nat.zero_le _, rfl, hid fun j _ h => by omega⟩
  case round =>
    obtain ⟨k, hk, rfl, hin⟩ := hrel
    by_cases hlt : k < L.length
    · obtain ⟨g1, o1, rfl, _, hc1⟩ := G1.out (by omega)
      have q1 := hc1 k hlt
      clear hc1
      have a1 : (0 : Int) ≤ k := by omega
      have a2 : (k : Int) < L.length := by omega
      by_cases hr : L[k] < 0 ∨ 1000000000 ≤ L[k]
      · have hF := hid (HB.out.trans (nok_no_at hlt hr))
        have K := hid (l01In_no L[k] hr)
        clear hr
        go_wp2_with fail
        refine (K.out _).mono ?_
        rintro e w1 ⟨rfl, rfl⟩
        go_wp2
        go_ret
        exact ⟨ret_boolI hF.out.symm, rfl⟩
      · have hr2 : 0 ≤ L[k] := by omega
        have hr3 : L[k] < 1000000000 := by omega
        have K := hid (l01In_yes L[k] hr2 hr3)
        clear hr
        go_wp2_with fail
        refine (K.out _).mono ?_
        rintro e w1 ⟨rfl, rfl⟩
        go_wp2
        go_round
        case rel => exact ⟨k + 1, by omega, by go_num, hid fun j hj h => if e : j = k then by subst e; exact ⟨hr2, hr3⟩ else hin.out j hj (by omega)⟩
        case measure => simp [intOf]; omega
    · obtain rfl : k = L.length := by omega
      by_cases hl : 60 < L.length
      · have hF := hid (HB.out.trans (nok_no_len hl))
        have hl' : ¬ (L.length : Int) ≤ 60 := by omega
        go_wp2
        go_ret
        exact ⟨ret_boolI hF.out.symm, rfl⟩
      have hl' : (L.length : Int) ≤ 60 := by omega
      by_cases h0 : L.length = 0
      · have hT := hid (HB.out.trans (nok_yes (by omega) (fun i hi => by omega) (fun n hi => by omega)))
        have h0' : (L.length : Int) = 0 := by omega
        go_wp2
        go_ret
        exact ⟨ret_boolI hT.out.symm, rfl⟩
      · obtain ⟨g1, o1, rfl, _, hc1⟩ := G1.out (by omega)
        obtain ⟨m, hlm, hm⟩ : ∃ m, m < L.length ∧ L.length = m + 1 := ⟨L.length - 1, by omega, by omega⟩
        have q1 := hc1 m hlm
        clear hc1
        have hmm : ((L.length : Int) - 1).toNat = m := by omega
        have HMM := hid hm
        clear hm
        have hm0 : (1 : Int) ≤ L.length := by omega
        by_cases hz : L[m] = 0
        · have hF := hid (HB.out.trans (nok_no_last HMM.out (fun _ => hz)))
          go_wp2
          go_ret
          exact ⟨ret_boolI (by rw [hF.out]; exact beq_eq_false_iff_ne.2 (by omega)), rfl⟩
        · have hz' : ∀ n (hi : n < L.length), L.length = n + 1 → L[n] ≠ 0 := by
            intro n hi e
            obtain rfl : n = m := by have := HMM.out; omega
            exact hz
          have hT := hid (HB.out.trans (nok_yes (by omega) (fun i hi => hin.out i hi hi) hz'))
          clear hz'
          go_wp2
          go_ret
          exact ⟨ret_boolI (by rw [hT.out]; simp [hz]), rfl⟩

def cmpInt (x y : Int) : Int := if x < y then -1 else if y < x then 1 else 0

theorem quiet_add_left {P : Program} {f : FuncId} {args : Array Value} {w : World} {a n : Nat} {v : Value}
    (h : Calls P f args (w.drewN (a + n)) fun e w' => e = .returned v ∧ w.drewN (a + n) = w') :
    Calls P f args (w.drewN (a + n)) fun e w'' => e = .returned v ∧ ∃ m, w'' = w.drewN (a + m) :=
  h.mono fun _ _ ⟨he, hm⟩ => ⟨he, n, hm.symm⟩
/-- A call that only reads, and returns r. -/
def Drew (r : Value) (w : World) (e : Ending) (w' : World) : Prop := e = .returned r ∧ ∃ d, w' = w.drewN d



end Go.Proofs.YtccflamengaokabDoor
