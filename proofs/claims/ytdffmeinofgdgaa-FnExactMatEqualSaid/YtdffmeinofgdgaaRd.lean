/- What the programs read of numbers in limbs: whether a list is one, how two compare, the int that it is. -/
import Derived.Test.YtdffmeinofgdgaaMem
namespace Go.Proofs.Ytdffmeinofgdgaa
open Go.RowKit
open Go.Lib (hid)
set_option linter.unusedVariables false

theorem ret_bool {a b : Bool} (h : a = b) : Ending.returned (.bool a) = .returned (.bool b) := by rw [h]
theorem ret_int {a b : Int} (h : a = b) : Ending.returned (.int .i64 a) = .returned (.int .i64 b) := by rw [h]

set_option maxRecDepth 100000 in
set_option maxHeartbeats 800000 in
theorem impl_NatOk (a : Option Addr) (n c : Nat) (L : List Int) (hL : L.length ≤ 1073741824) (w : World) (h1 : RowI w a n L) :
    Calls Try.prog 74 #[.slice a n c] w fun e w' => e = .returned (.bool (nok L)) ∧ w = w' := by
  obtain ⟨rfl, H1⟩ := h1
  have G1 := hid H1
  clear H1
  obtain ⟨b, hb⟩ : ∃ b, b = nok L := ⟨_, rfl⟩
  have HB := hid hb
  rw [← hb]
  clear hb
  by_cases hl : 60 < L.length
  · have hF := hid (HB.out.trans (nok_no_len hl))
    have hl' : (60 : Int) < L.length := by omega
    go_enter Try.func74, Try.ntmps74
    go_wp2
    go_ret
    exact ⟨ret_bool hF.out.symm, rfl⟩
  have hl' : (L.length : Int) ≤ 60 := by omega
  go_enter Try.func74, Try.ntmps74
  go_wp2
  go_loop [10] (fun i => ∃ (k : Nat), k ≤ L.length ∧ i = .int .i64 k ∧ Hid (∀ j (hj : j < L.length), j < k → 0 ≤ L[j] ∧ L[j] < 1000000000)) (fun i => L.length - (intOf i).toNat)
  case atStart => exact ⟨0, Nat.zero_le _, rfl, hid fun j _ h => by omega⟩
  case round =>
    obtain ⟨k, hk, rfl, hin⟩ := hrel
    by_cases hlt : k < L.length
    · obtain ⟨g1, o1, rfl, _, hc1⟩ := G1.out (by omega)
      have q1 := hc1 k hlt
      clear hc1
      have a1 : (0 : Int) ≤ k := by omega
      have a2 : (k : Int) < L.length := by omega
      by_cases hr : L[k] < 0 ∨ 1000000000 ≤ L[k]
      · have hF := hid (HB.out.trans (nok_no_at hlt hr))
        rcases hr with hr | hr
        · go_wp2
          go_ret
          exact ⟨ret_bool hF.out.symm, rfl⟩
        · have hr2 : ¬ L[k] < 0 := by omega
          go_wp2
          go_ret
          exact ⟨ret_bool hF.out.symm, rfl⟩
      · have hr2 : 0 ≤ L[k] := by omega
        have hr3 : L[k] < 1000000000 := by omega
        go_wp2
        go_round
        case rel => exact ⟨k + 1, by omega, by go_num, hid fun j hj h => if e : j = k then by subst e; exact ⟨hr2, hr3⟩ else hin.out j hj (by omega)⟩
        case measure => simp [intOf]; omega
    · obtain rfl : k = L.length := by omega
      by_cases h0 : L.length = 0
      · have hT := hid (HB.out.trans (nok_yes (by omega) (fun i hi => by omega) (fun n hi => by omega)))
        have h0' : (L.length : Int) = 0 := by omega
        go_wp2
        go_ret
        exact ⟨ret_bool hT.out.symm, rfl⟩
      · obtain ⟨g1, o1, rfl, _, hc1⟩ := G1.out (by omega)
        obtain ⟨m, hlm, hm⟩ : ∃ m, m < L.length ∧ L.length = m + 1 := ⟨L.length - 1, by omega, by omega⟩
        have q1 := hc1 m hlm
        clear hc1
        have hmm : ((L.length : Int) - 1).toNat = m := by omega
        have HMM := hid hm
        clear hm
        have hm0 : (1 : Int) ≤ L.length := by omega
        by_cases hz : L[m] = 0
        · have hF := hid (HB.out.trans (nok_no_last HMM.out (fun _ => hz)))
          go_wp2
          go_ret
          exact ⟨ret_bool (by rw [hF.out]; exact beq_eq_false_iff_ne.2 (by omega)), rfl⟩
        · have hz' : ∀ n (hi : n < L.length), L.length = n + 1 → L[n] ≠ 0 := by
            intro n hi e
            obtain rfl : n = m := by have := HMM.out; omega
            exact hz
          have hT := hid (HB.out.trans (nok_yes (by omega) (fun i hi => hin.out i hi hi) hz'))
          clear hz'
          go_wp2
          go_ret
          exact ⟨ret_bool (by rw [hT.out]; simp [hz]), rfl⟩

theorem l01In_yes (x : Int) (h0 : 0 ≤ x) (h1 : x < 1000000000) (w : World) : Calls Try.prog 34 #[.int .i64 x, .int .i64 0, .int .i64 999999999] w fun e w' => e = .returned (.bool true) ∧ w = w' := by
  have h2 : x ≤ 999999999 := by omega
  go_enter Try.func34, Try.ntmps34
  go_wp2
  go_ret
  exact ⟨rfl, rfl⟩
theorem l01In_no (x : Int) (h : x < 0 ∨ 1000000000 ≤ x) (w : World) : Calls Try.prog 34 #[.int .i64 x, .int .i64 0, .int .i64 999999999] w fun e w' => e = .returned (.bool false) ∧ w = w' := by
  rcases h with h | h
  · have h2 : ¬ 0 ≤ x := by omega
    go_enter Try.func34, Try.ntmps34
    go_wp2
    go_ret
    exact ⟨rfl, rfl⟩
  · have h2 : 0 ≤ x := by omega
    have h3 : ¬ x ≤ 999999999 := by omega
    go_enter Try.func34, Try.ntmps34
    go_wp2
    go_ret
    exact ⟨rfl, rfl⟩

set_option maxRecDepth 100000 in
set_option maxHeartbeats 800000 in
theorem spec_NatOk (a : Option Addr) (n c : Nat) (L : List Int) (hL : L.length ≤ 1073741824) (w : World) (h1 : RowI w a n L) :
    Calls Try.prog 69 #[.slice a n c] w fun e w' => e = .returned (.bool (nok L)) ∧ w = w' := by
  obtain ⟨rfl, H1⟩ := h1
  have G1 := hid H1
  clear H1
  obtain ⟨b, hb⟩ : ∃ b, b = nok L := ⟨_, rfl⟩
  have HB := hid hb
  rw [← hb]
  clear hb
  go_enter Try.func69, Try.ntmps69
  go_wp2
  go_loop [7] (fun i => ∃ (k : Nat), k ≤ L.length ∧ i = .int .i64 k ∧ Hid (∀ j (hj : j < L.length), j < k → 0 ≤ L[j] ∧ L[j] < 1000000000)) (fun i => L.length - (intOf i).toNat)
  case atStart => exact ⟨0, Nat.zero_le _, rfl, hid fun j _ h => by omega⟩
  case round =>
    obtain ⟨k, hk, rfl, hin⟩ := hrel
    by_cases hlt : k < L.length
    · obtain ⟨g1, o1, rfl, _, hc1⟩ := G1.out (by omega)
      have q1 := hc1 k hlt
      clear hc1
      have a1 : (0 : Int) ≤ k := by omega
      have a2 : (k : Int) < L.length := by omega
      by_cases hr : L[k] < 0 ∨ 1000000000 ≤ L[k]
      · have hF := hid (HB.out.trans (nok_no_at hlt hr))
        have K := hid (l01In_no L[k] hr)
        clear hr
        go_wp2_with fail
        refine (K.out _).mono ?_
        rintro e w1 ⟨rfl, rfl⟩
        go_wp2
        go_ret
        exact ⟨ret_bool hF.out.symm, rfl⟩
      · have hr2 : 0 ≤ L[k] := by omega
        have hr3 : L[k] < 1000000000 := by omega
        have K := hid (l01In_yes L[k] hr2 hr3)
        clear hr
        go_wp2_with fail
        refine (K.out _).mono ?_
        rintro e w1 ⟨rfl, rfl⟩
        go_wp2
        go_round
        case rel => exact ⟨k + 1, by omega, by go_num, hid fun j hj h => if e : j = k then by subst e; exact ⟨hr2, hr3⟩ else hin.out j hj (by omega)⟩
        case measure => simp [intOf]; omega
    · obtain rfl : k = L.length := by omega
      by_cases hl : 60 < L.length
      · have hF := hid (HB.out.trans (nok_no_len hl))
        have hl' : ¬ (L.length : Int) ≤ 60 := by omega
        go_wp2
        go_ret
        exact ⟨ret_bool hF.out.symm, rfl⟩
      have hl' : (L.length : Int) ≤ 60 := by omega
      by_cases h0 : L.length = 0
      · have hT := hid (HB.out.trans (nok_yes (by omega) (fun i hi => by omega) (fun n hi => by omega)))
        have h0' : (L.length : Int) = 0 := by omega
        go_wp2
        go_ret
        exact ⟨ret_bool hT.out.symm, rfl⟩
      · obtain ⟨g1, o1, rfl, _, hc1⟩ := G1.out (by omega)
        obtain ⟨m, hlm, hm⟩ : ∃ m, m < L.length ∧ L.length = m + 1 := ⟨L.length - 1, by omega, by omega⟩
        have q1 := hc1 m hlm
        clear hc1
        have hmm : ((L.length : Int) - 1).toNat = m := by omega
        have HMM := hid hm
        clear hm
        have hm0 : (1 : Int) ≤ L.length := by omega
        by_cases hz : L[m] = 0
        · have hF := hid (HB.out.trans (nok_no_last HMM.out (fun _ => hz)))
          go_wp2
          go_ret
          exact ⟨ret_bool (by rw [hF.out]; exact beq_eq_false_iff_ne.2 (by omega)), rfl⟩
        · have hz' : ∀ n (hi : n < L.length), L.length = n + 1 → L[n] ≠ 0 := by
            intro n hi e
            obtain rfl : n = m := by have := HMM.out; omega
            exact hz
          have hT := hid (HB.out.trans (nok_yes (by omega) (fun i hi => hin.out i hi hi) hz'))
          clear hz'
          go_wp2
          go_ret
          exact ⟨ret_bool (by rw [hT.out]; simp [hz]), rfl⟩

theorem isNaN_any (x : Int) (w : World) : Calls Try.prog 120 #[.int .i64 x] w fun e w' => e = .returned (.bool false) ∧ w = w' := by
  go_enter Try.func120, Try.ntmps120
  go_wp2
  go_ret
  exact ⟨rfl, rfl⟩
def cmpI (x y : Int) : Int := if x < y then -1 else if y < x then 1 else 0
theorem Compare_any (x y : Int) (w : World) : Calls Try.prog 118 #[.int .i64 x, .int .i64 y] w fun e w' => e = .returned (.int .i64 (cmpI x y)) ∧ w = w' := by
  have K := hid (isNaN_any x)
  have K2 := hid (isNaN_any y)
  obtain ⟨b, hb⟩ : ∃ b, b = cmpI x y := ⟨_, rfl⟩
  have HB := hid hb
  rw [← hb]
  clear hb
  by_cases h1 : x < y
  · have hE := hid (HB.out.trans (by simp [cmpI, h1] : cmpI x y = -1))
    go_enter Try.func118, Try.ntmps118
    go_wp2_with fail
    refine (K.out _).mono ?_
    rintro e w1 ⟨rfl, rfl⟩
    go_wp2_with fail
    refine (K2.out _).mono ?_
    rintro e w1 ⟨rfl, rfl⟩
    go_wp2
    go_ret
    exact ⟨ret_int hE.out.symm, rfl⟩
  · by_cases h2 : y < x
    · have hE := hid (HB.out.trans (by simp [cmpI, h1, h2] : cmpI x y = 1))
      go_enter Try.func118, Try.ntmps118
      go_wp2_with fail
      refine (K.out _).mono ?_
      rintro e w1 ⟨rfl, rfl⟩
      go_wp2_with fail
      refine (K2.out _).mono ?_
      rintro e w1 ⟨rfl, rfl⟩
      go_wp2
      go_ret
      exact ⟨ret_int hE.out.symm, rfl⟩
    · have hE := hid (HB.out.trans (by simp [cmpI, h1, h2] : cmpI x y = 0))
      go_enter Try.func118, Try.ntmps118
      go_wp2_with fail
      refine (K.out _).mono ?_
      rintro e w1 ⟨rfl, rfl⟩
      go_wp2_with fail
      refine (K2.out _).mono ?_
      rintro e w1 ⟨rfl, rfl⟩
      go_wp2
      go_ret
      exact ⟨ret_int hE.out.symm, rfl⟩

theorem quiet_add_left {P : Program} {f : FuncId} {args : Array Value} {w : World} {a n : Nat} {v : Value}
    (h : Calls P f args (w.drewN (a + n)) fun e w' => e = .returned v ∧ w.drewN (a + n) = w') :
    Calls P f args (w.drewN (a + n)) fun e w'' => e = .returned v ∧ ∃ m, w'' = w.drewN (a + m) :=
  h.mono fun _ _ ⟨he, hm⟩ => ⟨he, n, hm.symm⟩
/-- A call that only reads, and returns r. -/
def Drew (r : Value) (w : World) (e : Ending) (w' : World) : Prop := e = .returned r ∧ ∃ d, w' = w.drewN d

set_option maxRecDepth 100000 in
set_option maxHeartbeats 800000 in
theorem compareLimbs_any (a1 a2 : Option Addr) (n1 n2 c1 c2 : Nat) (A B : List Int) (hA : A.length ≤ 1073741824) (hB : B.length ≤ 1073741824) (w : World) (h1 : RowI w a1 n1 A) (h2 : RowI w a2 n2 B) :
    Calls Try.prog 116 #[.slice a1 n1 c1, .slice a2 n2 c2] w (Drew (.int .i64 (cmpL A B)) w) := by
  obtain ⟨rfl, H1⟩ := h1
  obtain ⟨rfl, H2⟩ := h2
  have G1 := hid H1
  have G2 := hid H2
  clear H1 H2
  obtain ⟨b, hb⟩ : ∃ b, b = cmpL A B := ⟨_, rfl⟩
  have HB := hid hb
  rw [← hb]
  clear hb
  have K := hid Compare_any
  by_cases hl : ¬ A.length = B.length
  · have hE := hid (HB.out.trans (show cmpL A B = cmpI A.length B.length by
      unfold cmpI
      rcases Nat.lt_or_ge A.length B.length with h | h
      · rw [cmpL_lt h, if_pos (by omega)]
      · rw [cmpL_gt (by omega), if_neg (by omega), if_pos (by omega)]))
    have hl' : ¬ (A.length : Int) = B.length := by omega
    clear hl
    go_enter Try.func116, Try.ntmps116
    go_wp2_with fail
    refine (K.out _ _ _).mono ?_
    rintro e w1 ⟨rfl, rfl⟩
    go_wp2
    go_ret
    exact ⟨ret_int hE.out.symm, 0, rfl⟩
  have hl : A.length = B.length := by omega
  have hl' : (A.length : Int) = B.length := by omega
  have HE := hid (HB.out.trans (cmpL_same hl))
  have HL := hid hl
  clear hl
  go_enter Try.func116, Try.ntmps116
  go_wp2
  clear hl'
  go_loopw [5] (fun i wr => ∃ (k d : Nat), k ≤ A.length ∧ i = .int .i64 ((k : Int) - 1) ∧ Hid (cmpTo A B k = b) ∧ wr = w.drewN d) (fun i _ => (intOf i + 1).toNat)
  case atStart => exact ⟨A.length, 0, Nat.le_refl _, by rw [HL.out], hid HE.out.symm, rfl⟩
  case round =>
    obtain ⟨k, d, hk, rfl, hc, rfl⟩ := hrel
    cases k with
    | zero =>
      have hE := hid (show b = 0 from hc.out.symm)
      go_wp2
      go_ret
      exact ⟨ret_int hE.out.symm, d, rfl⟩
    | succ k =>
      have hlt : k < A.length := by omega
      have hlt2 : k < B.length := by have := HL.out; omega
      obtain ⟨g1, o1, rfl, -, hc1⟩ := G1.out (by omega)
      obtain ⟨g2, o2, rfl, -, hc2⟩ := G2.out (by omega)
      clear G1 G2
      have q1 := hc1 k hlt
      have q2 := hc2 k hlt2
      clear hc1 hc2
      have e1 : ((k + 1 : Nat) : Int) - 1 = k := by omega
      rw [e1]
      clear e1
      have a1 : (0 : Int) ≤ k := by omega
      have a2 : (k : Int) < A.length := by omega
      have a3 : (k : Int) < B.length := by omega
      by_cases he : A[k] = B[k]
      · have hn := hid ((cmpTo_eq hlt hlt2 he).symm.trans hc.out)
        clear hc
        obtain ⟨x, hx⟩ : ∃ x, x = B[k] := ⟨_, rfl⟩
        rw [he, ← hx] at q1
        rw [← hx] at q2
        clear he hx
        go_wp2
        go_quiet (fail)
        go_wp2
        go_roundw
        case rel => exact ⟨k, d + nq, by omega, rfl, hn, by first | rfl | exact World.drewN_drewN _ _ _⟩
        case measure => simp [intOf]
      · have hE := hid (show b = cmpI A[k] B[k] by
          rw [← hc.out]; unfold cmpI
          by_cases h : A[k] < B[k]
          · rw [cmpTo_lt hlt hlt2 h, if_pos h]
          · rw [cmpTo_gt hlt hlt2 (by omega), if_neg h, if_pos (by omega)])
        clear hc
        obtain ⟨x, hx⟩ : ∃ x, x = A[k] := ⟨_, rfl⟩
        obtain ⟨y, hy⟩ : ∃ y, y = B[k] := ⟨_, rfl⟩
        rw [← hx] at q1 he hE
        rw [← hy] at q2 he hE
        clear hx hy
        go_wp2
        go_quiet (fail)
        go_wp2
        go_quiet ((go_at_call 118; exact quiet_add_left (K.out _ _ _)))
        go_wp2
        go_ret
        exact ⟨ret_int hE.out.symm, _, by rw [World.drewN_drewN, World.drewN_drewN]⟩

set_option maxRecDepth 100000 in
set_option maxHeartbeats 800000 in
theorem l02Cmp_any (a1 a2 : Option Addr) (n1 n2 c1 c2 : Nat) (A B : List Int) (hA : A.length ≤ 1073741824) (hB : B.length ≤ 1073741824) (w : World) (h1 : RowI w a1 n1 A) (h2 : RowI w a2 n2 B) :
    Calls Try.prog 93 #[.slice a1 n1 c1, .slice a2 n2 c2] w (Drew (.int .i64 (cmpL A B)) w) := by
  obtain ⟨rfl, H1⟩ := h1
  obtain ⟨rfl, H2⟩ := h2
  have G1 := hid H1
  have G2 := hid H2
  clear H1 H2
  obtain ⟨b, hb⟩ : ∃ b, b = cmpL A B := ⟨_, rfl⟩
  have HB := hid hb
  rw [← hb]
  clear hb
  by_cases hl : A.length < B.length
  · have hE := hid (HB.out.trans (cmpL_lt hl))
    have hl' : (A.length : Int) < B.length := by omega
    have hl2 : ¬ (A.length : Int) = B.length := by omega
    go_enter Try.func93, Try.ntmps93
    go_wp2
    go_ret
    exact ⟨ret_int hE.out.symm, 0, rfl⟩
  by_cases hl : B.length < A.length
  · have hE := hid (HB.out.trans (cmpL_gt hl))
    have hl' : ¬ (A.length : Int) < B.length := by omega
    have hl2 : ¬ (A.length : Int) = B.length := by omega
    go_enter Try.func93, Try.ntmps93
    go_wp2
    go_ret
    exact ⟨ret_int hE.out.symm, 0, rfl⟩
  have hl : A.length = B.length := by omega
  have hl' : (A.length : Int) = B.length := by omega
  have HE := hid (HB.out.trans (cmpL_same hl))
  have HL := hid hl
  clear hl
  go_enter Try.func93, Try.ntmps93
  go_wp2
  clear hl'
  go_loopw [5] (fun i wr => ∃ (k d : Nat), k ≤ A.length ∧ i = .int .i64 ((k : Int) - 1) ∧ Hid (cmpTo A B k = b) ∧ wr = w.drewN d) (fun i _ => (intOf i + 1).toNat)
  case atStart => exact ⟨A.length, 0, Nat.le_refl _, by rw [HL.out], hid HE.out.symm, rfl⟩
  case round =>
    obtain ⟨k, d, hk, rfl, hc, rfl⟩ := hrel
    cases k with
    | zero =>
      have hE := hid (show b = 0 from hc.out.symm)
      go_wp2
      go_ret
      exact ⟨ret_int hE.out.symm, d, rfl⟩
    | succ k =>
      have hlt : k < A.length := by omega
      have hlt2 : k < B.length := by have := HL.out; omega
      obtain ⟨g1, o1, rfl, -, hc1⟩ := G1.out (by omega)
      obtain ⟨g2, o2, rfl, -, hc2⟩ := G2.out (by omega)
      clear G1 G2
      have q1 := hc1 k hlt
      have q2 := hc2 k hlt2
      clear hc1 hc2
      have e1 : ((k + 1 : Nat) : Int) - 1 = k := by omega
      rw [e1]
      clear e1
      have a1 : (0 : Int) ≤ k := by omega
      have a2 : (k : Int) < A.length := by omega
      have a3 : (k : Int) < B.length := by omega
      have hcc : (A[k] < B[k] → b = -1) ∧ (B[k] < A[k] → b = 1) ∧ (A[k] = B[k] → cmpTo A B k = b) :=
        ⟨fun h => hc.out.symm.trans (cmpTo_lt hlt hlt2 h), fun h => hc.out.symm.trans (cmpTo_gt hlt hlt2 h), fun h => (cmpTo_eq hlt hlt2 h).symm.trans hc.out⟩
      have HC := hid hcc
      clear hcc hc
      obtain ⟨x, hx⟩ : ∃ x, x = A[k] := ⟨_, rfl⟩
      obtain ⟨y, hy⟩ : ∃ y, y = B[k] := ⟨_, rfl⟩
      rw [← hx] at q1 HC
      rw [← hy] at q2 HC
      clear hx hy
      by_cases h1 : x < y
      · have hE := hid (HC.out.1 h1)
        go_wp2
        go_quiet (fail)
        go_wp2
        go_ret
        exact ⟨ret_int hE.out.symm, _, by first | rfl | rw [World.drewN_drewN]⟩
      · by_cases h2 : y < x
        · have hE := hid (HC.out.2.1 h2)
          go_wp2
          go_quiet (fail)
          go_wp2
          go_quiet (fail)
          go_wp2
          go_ret
          exact ⟨ret_int hE.out.symm, _, by rw [World.drewN_drewN, World.drewN_drewN]⟩
        · have hn := hid (HC.out.2.2 (by omega))
          go_wp2
          go_quiet (fail)
          go_wp2
          go_quiet (fail)
          go_wp2
          go_roundw
          case rel => exact ⟨k, _, by omega, rfl, hn, by first | rfl | (rw [World.drewN_drewN]; done) | rw [World.drewN_drewN, World.drewN_drewN]⟩
          case measure => simp [intOf]

set_option maxRecDepth 100000 in
set_option maxHeartbeats 800000 in
theorem limbsToInt_any (a : Option Addr) (n c : Nat) (L : List Int) (hL : L.length ≤ 1073741824) (w : World) (h1 : RowI w a n L) (hl : Lim L) (hv : val L ≤ 9223372036854775807) :
    Calls Try.prog 104 #[.slice a n c] w fun e w' => e = .returned (.int .i64 (val L)) ∧ w = w' := by
  obtain ⟨rfl, H1⟩ := h1
  have G1 := hid H1
  have HLim := hid hl
  have HV := hid hv
  clear H1 hl hv
  go_enter Try.func104, Try.ntmps104
  go_wp2
  go_loop [3, 4] (fun x i => ∃ (k : Nat) (z : Int), k ≤ L.length ∧ i = .int .i64 ((k : Int) - 1) ∧ x = .int .i64 z ∧ Hid (z = val (L.drop k))) (fun _ i => (intOf i + 1).toNat)
  case atStart => exact ⟨L.length, 0, Nat.le_refl _, rfl, rfl, hid (val_drop_end (Nat.le_refl _)).symm⟩
  case round =>
    obtain ⟨k, z, hk, rfl, rfl, hz⟩ := hrel
    cases k with
    | zero =>
      have hE := hid (show z = val L from hz.out)
      go_wp2
      go_ret
      exact ⟨ret_int hE.out, rfl⟩
    | succ k =>
      have hlt : k < L.length := by omega
      obtain ⟨g1, o1, rfl, -, hc1⟩ := G1.out (by omega)
      clear G1
      have q1 := hc1 k hlt
      clear hc1
      have e1 : ((k + 1 : Nat) : Int) - 1 = k := by omega
      rw [e1]
      clear e1
      have a1 : (0 : Int) ≤ k := by omega
      have a2 : (k : Int) < L.length := by omega
      have hd := val_drop hlt
      have hle := val_drop_le HLim.out k
      have h0 := val_nonneg (Lim_drop HLim.out (k + 1))
      have hx := Lim_at HLim.out hlt
      have hv := HV.out
      rw [← hz.out] at hd h0
      obtain ⟨x, hxe⟩ : ∃ x, x = L[k] := ⟨_, rfl⟩
      rw [← hxe] at q1 hd hx
      clear hxe
      have hb : z * 1000000000 + x ≤ 9223372036854775807 := by omega
      have hb2 : z ≤ 9223372036 := by omega
      have HN := hid (show z * 1000000000 + x = val (L.drop k) by omega)
      clear hd hle hz hv
      go_wp2
      go_round
      case rel => exact ⟨k, _, by omega, rfl, rfl, HN⟩
      case measure => simp [intOf]
end Go.Proofs.Ytdffmeinofgdgaa
