/- Vectors: whether a list is one (the program and the reference). -/
import Derived.Test.YteanocjkdehhgaaVbe
import Derived.Deep.RegionHeld3
import Derived.Deep.DeepCutAuto
namespace Go.Proofs.Yteanocjkdehhgaa
open Go.RowKit
open Go.Lib (hid)
set_option linter.unusedVariables false

def vals (K : List Fq) : List (Option Rat) := K.map Fq.o
theorem vals_len (K : List Fq) : (vals K).length = K.length := by simp [vals]
def oks (os : List (Option Rat)) : Bool := decide (os.length ≤ 40) && os.all Option.isSome
/-- A list of fractions, if it is a vector. -/
def vres (os : List (Option Rat)) : List Fq := if oks os = true then os.map fqo else []
theorem oks_no {K : List Fq} {k : Nat} (h : k < K.length) (hn : K[k].o = none) : oks (vals K) = false := by
  cases e : oks (vals K)
  · rfl
  · simp only [oks, vals, Bool.and_eq_true, List.all_eq_true] at e
    have := e.2 _ (List.mem_map_of_mem (List.getElem_mem h))
    rw [hn] at this
    exact absurd this (by decide)
theorem oks_long {K : List Fq} (h : 40 < K.length) : oks (vals K) = false := by
  have : ¬ (vals K).length ≤ 40 := by rw [vals_len]; omega
  simp [oks, this]
theorem oks_yes {K : List Fq} (h : K.length ≤ 40) (ha : ∀ k (h : k < K.length), K[k].o.isSome = true) : oks (vals K) = true := by
  simp only [oks, Bool.and_eq_true, List.all_eq_true, decide_eq_true_eq]
  refine ⟨by rw [vals_len]; exact h, fun x hx => ?_⟩
  obtain ⟨f, hf, rfl⟩ := List.mem_map.1 hx
  obtain ⟨k, hk, rfl⟩ := List.getElem_of_mem hf
  exact ha k hk
theorem bool_ret {a b : Bool} (h : a = b) : Ending.returned (.bool a) = .returned (.bool b) := by rw [h]
set_option maxRecDepth 100000 in
set_option maxHeartbeats 6400000 in
theorem impl_VecOk_w  {a : Option Addr} {n c : Nat} {K : List Fq} {lo hi : Nat} (hK : Sm K) (w : World) (h : VW w a n K lo hi) :
    Calls Try.prog 115 #[.slice a n c] w (RetB (.bool (oks (vals K))) w) := by
  have HV := hid h
  obtain rfl := h.num
  clear h
  have hkl := hK.2
  by_cases hL : 40 < K.length
  · rw [oks_long hL]
    go_enter Try.func115, Try.ntmps115
    go_wp2
    go_ret
    exact ⟨rfl, Below.refl _ _⟩
  obtain ⟨B0, hB0⟩ : ∃ B, B = oks (vals K) := ⟨_, rfl⟩
  rw [← hB0]
  have HB0 := hid hB0
  clear hB0
  go_enter Try.func115, Try.ntmps115
  go_wp2
  go_loopw [10] (fun i wr => ∃ k : Nat, k ≤ K.length ∧ i = .int .i64 k ∧ Hid (∀ j (h : j < K.length), j < k → K[j].o.isSome = true) ∧ Below w.heap.size w wr) (fun i _ => K.length - (intOf i).toNat)
  case atStart => exact ⟨0, Nat.zero_le _, rfl, hid (fun j h hj => absurd hj (by omega)), Below.refl _ _⟩
  case round =>
    obtain ⟨k, hk, rfl, hA, hbel⟩ := hrel
    by_cases hlt : k < K.length
    · have V := hid (HV.out.old hbel)
      obtain ⟨g, p, a3, n3, c3, b3, m3, d3, rfl, hg, q0, q1, q2, R⟩ := V.out.at hK hlt
      obtain ⟨⟨s, A, D⟩, hf⟩ : ∃ f, K[k]'(hlt) = f := ⟨_, rfl⟩
      simp only [hf] at q0 R
      have HF := hid hf
      clear hf
      obtain ⟨o, ho⟩ : ∃ o, Fq.o ⟨s, A, D⟩ = o := ⟨_, rfl⟩
      have HO := hid (show (K[k]'(hlt)).o = o by rw [HF.out, ho])
      have RX := hid (show RA wr s (.slice a3 n3 c3) (.slice b3 m3 d3) o from ⟨A, D, R, ho⟩)
      clear ho R
      have HB := hid (hbel.alloc hbel.size (.cells #[.bool s, .slice a3 n3 c3, .slice b3 m3 d3] 33))
      have a1' : (0 : Int) ≤ k := by omega
      have a2 : (k : Int) < K.length := by omega
      clear hbel
      cases o with
      | none =>
        have KO := hid (fun (W : World) (hb : Below wr.heap.size wr W) => ok_none (w := W) (RX.out.old hb))
        go_wp2_with fail
        (with_reducible refine (KO.out _ below_new').mono ?_)
        rintro e w2 ⟨rfl, hb⟩
        have HB := hid (HB.out.trans (hb.mono HB.out.size))
        clear hb q0 q1 q2
        go_wp2
        go_ret
        exact ⟨bool_ret (by rw [HB0.out, oks_no hlt HO.out]), HB.out⟩
      | some x =>
        have KO := hid (fun (W : World) (hb : Below wr.heap.size wr W) => ok_some (w := W) (RX.out.old hb))
        go_wp2_with fail
        (with_reducible refine (KO.out _ below_new').mono ?_)
        rintro e w2 ⟨rfl, hb⟩
        have HB := hid (HB.out.trans (hb.mono HB.out.size))
        clear hb q0 q1 q2
        go_wp2
        go_roundw
        case rel => exact ⟨k + 1, by omega, by go_num, hid (fun j h hj => by
          rcases Nat.lt_or_eq_of_le (Nat.le_of_lt_succ hj) with hj' | rfl
          · exact hA.out j h hj'
          · rw [HO.out]; rfl), HB.out⟩
        case measure => simp [intOf]; omega
    · have HB := hid hbel
      clear hbel
      go_wp2
      go_ret
      exact ⟨bool_ret (by rw [HB0.out, oks_yes (by omega) (fun j h => hA.out j h (by omega))]), HB.out⟩
theorem impl_VecOk {p : Bool} {a : Option Addr} {n c : Nat} {K : List Fq} {lo hi : Nat} (hK : Sm K) (w : World) (h : VK p w (.slice a n c) K lo hi) :
    Calls Try.prog 115 #[.slice a n c] w (RetB (.bool (oks (vals K))) w) :=
  impl_VecOk_w hK w h.vw
set_option maxRecDepth 100000 in
set_option maxHeartbeats 6400000 in
theorem spec_VecOk {p : Bool} {a : Option Addr} {n c : Nat} {K : List Fq} {lo hi : Nat} (hK : Sm K) (w : World) (h : VK p w (.slice a n c) K lo hi) :
    Calls Try.prog 75 #[.slice a n c] w (RetB (.bool (oks (vals K))) w) := by
  have HV := hid h
  obtain rfl := h.num
  clear h
  have hkl := hK.2
  obtain ⟨B0, hB0⟩ : ∃ B, B = oks (vals K) := ⟨_, rfl⟩
  rw [← hB0]
  have HB0 := hid hB0
  clear hB0
  by_cases hL : 40 < K.length
  · go_enter Try.func75, Try.ntmps75
    go_wp2
    go_loopw [7] (fun i wr => ∃ k : Nat, k ≤ K.length ∧ i = .int .i64 k ∧ Hid (∀ j (h : j < K.length), j < k → K[j].o.isSome = true) ∧ Below w.heap.size w wr) (fun i _ => K.length - (intOf i).toNat)
    case atStart => exact ⟨0, Nat.zero_le _, rfl, hid (fun j h hj => absurd hj (by omega)), Below.refl _ _⟩
    case round =>
      obtain ⟨k, hk, rfl, hA, hbel⟩ := hrel
      by_cases hlt : k < K.length
      · have V := hid (HV.out.old hbel)
        obtain ⟨g, a3, n3, c3, b3, m3, d3, rfl, hg, q0, q1, q2, R⟩ := V.out.at hK hlt
        obtain ⟨⟨s, A, D⟩, hf⟩ : ∃ f, K[k]'(hlt) = f := ⟨_, rfl⟩
        simp only [hf] at q0 R
        have HF := hid hf
        clear hf
        obtain ⟨o, ho⟩ : ∃ o, Fq.o ⟨s, A, D⟩ = o := ⟨_, rfl⟩
        have HO := hid (show (K[k]'(hlt)).o = o by rw [HF.out, ho])
        have RX := hid (show RA wr s (.slice a3 n3 c3) (.slice b3 m3 d3) o from ⟨A, D, R, ho⟩)
        clear ho R
        have HB := hid (hbel.alloc hbel.size (.cells #[.bool s, .slice a3 n3 c3, .slice b3 m3 d3] 33))
        have a1' : (0 : Int) ≤ k := by omega
        have a2 : (k : Int) < K.length := by omega
        clear hbel
        cases o with
        | none =>
          have KO := hid (fun (W : World) (hb : Below wr.heap.size wr W) => sok_none (w := W) (RX.out.old hb))
          go_wp2_with fail
          (with_reducible refine (KO.out _ below_new').mono ?_)
          rintro e w2 ⟨rfl, hb⟩
          have HB := hid (HB.out.trans (hb.mono HB.out.size))
          clear hb q0 q1 q2
          go_wp2
          go_ret
          exact ⟨bool_ret (by rw [HB0.out, oks_no hlt HO.out]), HB.out⟩
        | some x =>
          have KO := hid (fun (W : World) (hb : Below wr.heap.size wr W) => sok_some (w := W) (RX.out.old hb))
          go_wp2_with fail
          (with_reducible refine (KO.out _ below_new').mono ?_)
          rintro e w2 ⟨rfl, hb⟩
          have HB := hid (HB.out.trans (hb.mono HB.out.size))
          clear hb q0 q1 q2
          go_wp2
          go_roundw
          case rel => exact ⟨k + 1, by omega, by go_num, hid (fun j h hj => by
            rcases Nat.lt_or_eq_of_le (Nat.le_of_lt_succ hj) with hj' | rfl
            · exact hA.out j h hj'
            · rw [HO.out]; rfl), HB.out⟩
          case measure => simp [intOf]; omega
      · have HB := hid hbel
        clear hbel
        go_wp2
        go_ret
        exact ⟨bool_ret (by rw [HB0.out, oks_long hL]; first | exact decide_eq_false (by omega) | exact decide_eq_true (by omega)), HB.out⟩
  · go_enter Try.func75, Try.ntmps75
    go_wp2
    go_loopw [7] (fun i wr => ∃ k : Nat, k ≤ K.length ∧ i = .int .i64 k ∧ Hid (∀ j (h : j < K.length), j < k → K[j].o.isSome = true) ∧ Below w.heap.size w wr) (fun i _ => K.length - (intOf i).toNat)
    case atStart => exact ⟨0, Nat.zero_le _, rfl, hid (fun j h hj => absurd hj (by omega)), Below.refl _ _⟩
    case round =>
      obtain ⟨k, hk, rfl, hA, hbel⟩ := hrel
      by_cases hlt : k < K.length
      · have V := hid (HV.out.old hbel)
        obtain ⟨g, a3, n3, c3, b3, m3, d3, rfl, hg, q0, q1, q2, R⟩ := V.out.at hK hlt
        obtain ⟨⟨s, A, D⟩, hf⟩ : ∃ f, K[k]'(hlt) = f := ⟨_, rfl⟩
        simp only [hf] at q0 R
        have HF := hid hf
        clear hf
        obtain ⟨o, ho⟩ : ∃ o, Fq.o ⟨s, A, D⟩ = o := ⟨_, rfl⟩
        have HO := hid (show (K[k]'(hlt)).o = o by rw [HF.out, ho])
        have RX := hid (show RA wr s (.slice a3 n3 c3) (.slice b3 m3 d3) o from ⟨A, D, R, ho⟩)
        clear ho R
        have HB := hid (hbel.alloc hbel.size (.cells #[.bool s, .slice a3 n3 c3, .slice b3 m3 d3] 33))
        have a1' : (0 : Int) ≤ k := by omega
        have a2 : (k : Int) < K.length := by omega
        clear hbel
        cases o with
        | none =>
          have KO := hid (fun (W : World) (hb : Below wr.heap.size wr W) => sok_none (w := W) (RX.out.old hb))
          go_wp2_with fail
          (with_reducible refine (KO.out _ below_new').mono ?_)
          rintro e w2 ⟨rfl, hb⟩
          have HB := hid (HB.out.trans (hb.mono HB.out.size))
          clear hb q0 q1 q2
          go_wp2
          go_ret
          exact ⟨bool_ret (by rw [HB0.out, oks_no hlt HO.out]), HB.out⟩
        | some x =>
          have KO := hid (fun (W : World) (hb : Below wr.heap.size wr W) => sok_some (w := W) (RX.out.old hb))
          go_wp2_with fail
          (with_reducible refine (KO.out _ below_new').mono ?_)
          rintro e w2 ⟨rfl, hb⟩
          have HB := hid (HB.out.trans (hb.mono HB.out.size))
          clear hb q0 q1 q2
          go_wp2
          go_roundw
          case rel => exact ⟨k + 1, by omega, by go_num, hid (fun j h hj => by
            rcases Nat.lt_or_eq_of_le (Nat.le_of_lt_succ hj) with hj' | rfl
            · exact hA.out j h hj'
            · rw [HO.out]; rfl), HB.out⟩
          case measure => simp [intOf]; omega
      · have HB := hid hbel
        clear hbel
        go_wp2
        go_ret
        exact ⟨bool_ret (by rw [HB0.out, oks_yes (by omega) (fun j h => hA.out j h (by omega))]; first | exact decide_eq_false (by omega) | exact decide_eq_true (by omega)), HB.out⟩
end Go.Proofs.Yteanocjkdehhgaa
