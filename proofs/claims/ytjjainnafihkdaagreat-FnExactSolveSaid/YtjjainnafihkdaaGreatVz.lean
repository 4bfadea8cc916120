import Derived.Test.YtjjainnafihkdaaGreatVbe
import Derived.Deep.RegionHeld3
import Derived.Deep.DeepCutAuto
set_option maxRecDepth 100000
set_option maxHeartbeats 6400000
set_option linter.unusedVariables false
namespace Go.Proofs.YtjjainnafihkdaaGreat
open Go.RowKit
open Go.Lib (hid)
def vals (K : List Fq) : List (Option Rat) := K.map Fq.o
theorem vals_len (K : List Fq) : (vals K).length = K.length := by simp [vals]
def oks (os : List (Option Rat)) : Bool := decide (os.length ≤ 40) && os.all Option.isSome
def vres (os : List (Option Rat)) : List Fq := if oks os = true then os.map fqo else []
theorem oks_no {K : List Fq} {k : Nat} (h : k < K.length) (hn : K[k].o = none) : oks (vals K) = false := by
 cases e : oks (vals K)
 ·rfl
 ·simp only [oks, vals, Bool.and_eq_true, List.all_eq_true] at e
  have := e.2 _ (List.mem_map_of_mem (List.getElem_mem h))
  rw [hn] at this
  exact absurd this (by decide)
theorem oks_long {K : List Fq} (h : 40 < K.length) : oks (vals K) = false := by
 have : ¬ (vals K).length ≤ 40 := by rw [vals_len]; omega
 simp [oks, this]
theorem oks_yes {K : List Fq} (h : K.length ≤ 40) (ha : ∀ k (h : k < K.length), K[k].o.isSome = true) : oks (vals K) = true := by
 simp only [oks, Bool.and_eq_true, List.all_eq_true, decide_eq_true_eq]
 refine ⟨by rw [vals_len]; exact h, fun x hx => ?_⟩
 obtain ⟨f, hf, rfl⟩ := List.mem_map.1 hx
 obtain ⟨k, hk, rfl⟩ := List.getElem_of_mem hf
 exact ha k hk
theorem bool_ret {a b : Bool} (h : a = b) : Ending.returned (.bool a) = .returned (.bool b) := by rw [h]
theorem impl_VecOk_w  {a : Option Addr} {n c : Nat} {K : List Fq} {lo hi : Nat} (hK : Sm K) (w : World) (h : VW w a n K lo hi) :
  Calls Tryz.prog 108 #[.slice a n c] w (RetB (.bool (oks (vals K))) w) := by
 have HV := hid h
 obtain rfl := h.num
 clear h
 have hkl := hK.2
 by_cases hL : 40 < K.length
 ·rw [oks_long hL]
  go_enter Tryz.func108, Tryz.ntmps108
  go_wp2
  go_ret
  exact ⟨rfl, Below.refl _ _⟩
 obtain ⟨B0, hB0⟩ : ∃ B, B = oks (vals K) := ⟨_, rfl⟩
 rw [← hB0]
 have HB0 := hid hB0
 clear hB0
 go_enter Tryz.func108, Tryz.ntmps108
 go_wp2
 go_loopw [10] (fun i wr => ∃ k : Nat, k ≤ K.length ∧ i = .int .i64 k ∧ Hid (∀ j (h : j < K.length), j < k → K[j].o.isSome = true) ∧ Below w.heap.size w wr) (fun i _ => K.length - (intOf i).toNat)
 case atStart => exact ⟨0, Nat.zero_le _, rfl, hid (fun j h hj => absurd hj (by omega)), Below.refl _ _⟩
 case round =>
  obtain ⟨k, hk, rfl, hA, hbel⟩ := hrel
  by_cases hlt : k < K.length
  ·have V := hid (HV.out.old hbel)
   obtain ⟨g, p, a3, n3, c3, b3, m3, d3, rfl, hg, q0, q1, q2, R⟩ := V.out.at hK hlt
   obtain ⟨⟨s, A, D⟩, hf⟩ : ∃ f, K[k]'(hlt) = f := ⟨_, rfl⟩
   simp only [hf] at q0 R
   have HF := hid hf
   clear hf
   obtain ⟨o, ho⟩ : ∃ o, Fq.o ⟨s, A, D⟩ = o := ⟨_, rfl⟩
   have HO := hid (show (K[k]'(hlt)).o = o by rw [HF.out, ho])
   have RX := hid (show RA wr s (.slice a3 n3 c3) (.slice b3 m3 d3) o from ⟨A, D, R, ho⟩)
   clear ho R
   have HB := hid (hbel.alloc hbel.size (.cells #[.bool s, .slice a3 n3 c3, .slice b3 m3 d3] 62))
   have a1' : (0 : Int) ≤ k := by omega
   have a2 : (k : Int) < K.length := by omega
   clear hbel
   cases o with
   |none =>
    have KO := hid (fun (W : World) (hb : Below wr.heap.size wr W) => ok_none (w := W) (RX.out.old hb))
    go_wp2_with fail
    (with_reducible refine (KO.out _ below_new').mono ?_)
    rintro e w2 ⟨rfl, hb⟩
    have HB := hid (HB.out.trans (hb.mono HB.out.size))
    clear hb q0 q1 q2
    go_wp2
    go_ret
    exact ⟨bool_ret (by rw [HB0.out, oks_no hlt HO.out]), HB.out⟩
   |some x =>
    have KO := hid (fun (W : World) (hb : Below wr.heap.size wr W) => ok_some (w := W) (RX.out.old hb))
    go_wp2_with fail
    (with_reducible refine (KO.out _ below_new').mono ?_)
    rintro e w2 ⟨rfl, hb⟩
    have HB := hid (HB.out.trans (hb.mono HB.out.size))
    clear hb q0 q1 q2
    go_wp2
    go_roundw
    case rel => exact ⟨k + 1, by omega, by go_num, hid (fun j h hj => by
     rcases Nat.lt_or_eq_of_le (Nat.le_of_lt_succ hj) with hj' | rfl
     ·exact hA.out j h hj'
     ·rw [HO.out]; rfl), HB.out⟩
    case measure => simp [intOf]; omega
  ·have HB := hid hbel
   clear hbel
   go_wp2
   go_ret
   exact ⟨bool_ret (by rw [HB0.out, oks_yes (by omega) (fun j h => hA.out j h (by omega))]), HB.out⟩
theorem impl_VecOk {p : Bool} {a : Option Addr} {n c : Nat} {K : List Fq} {lo hi : Nat} (hK : Sm K) (w : World) (h : VK p w (.slice a n c) K lo hi) :
  Calls Tryz.prog 108 #[.slice a n c] w (RetB (.bool (oks (vals K))) w) :=
 impl_VecOk_w hK w h.vw
end Go.Proofs.YtjjainnafihkdaaGreat

namespace Go.Proofs.YtjjainnafihkdaaGreat
open Go.RowKit
open Go.Lib (hid)
def zeroK (n : Int) : List Fq := if 0 ≤ n ∧ n ≤ 40 then List.replicate n.toNat (fqo (some ((0 : Int) : Rat))) else []
theorem zeroK_yes {N : Nat} (h : N ≤ 40) : zeroK (N : Int) = List.replicate N (fqo (some ((0 : Int) : Rat))) := by
 unfold zeroK; rw [if_pos ⟨by omega, by omega⟩]; rfl
theorem zeroK_no {n : Int} (h : n < 0 ∨ 40 < n) : zeroK n = [] := by
 unfold zeroK; rw [if_neg (by omega)]
def unitK (n i : Int) : List Fq := if 0 ≤ i ∧ i < (zeroK n).length then (zeroK n).set i.toNat (fqo (some ((1 : Int) : Rat))) else []
theorem rep_snoc {α : Type} (k : Nat) (x : α) : List.replicate k x ++ [x] = List.replicate (k + 1) x := List.replicate_succ'.symm
theorem impl_VecZero (n : Int) (n0 : -9223372036854775808 ≤ n) (n1 : n ≤ 9223372036854775807) (w : World) :
  Calls Tryz.prog 69 #[.int .i64 n] w (VecR true (zeroK n) w) := by
 by_cases hno : n < 0 ∨ 40 < n
 ·rw [zeroK_no hno]
  have R := hid (show VecR true [] w (.returned (.slice none 0 0)) w from ⟨_, _, _, rfl, VK_nil _ _ _ _, Below.refl _ _⟩)
  rcases hno with h | h
  ·go_enter Tryz.func69, Tryz.ntmps69
   go_wp2
   go_ret
   exact R.out
  ·have h0 : ¬ n < 0 := by omega
   go_enter Tryz.func69, Tryz.ntmps69
   go_wp2
   go_ret
   exact R.out
 ·obtain ⟨N, rfl⟩ : ∃ N : Nat, n = N := ⟨n.toNat, by omega⟩
  have hN : N ≤ 40 := by omega
  rw [zeroK_yes hN]
  have h0 : ¬ (N : Int) < 0 := by omega
  have h4 : ¬ (40 : Int) < N := by omega
  clear hno n0 n1
  go_enter Tryz.func69, Tryz.ntmps69
  go_wp2
  go_loopw [3, 11] (fun v i wr => ∃ (k : Nat) (a : Option Addr) (c : Nat), k ≤ N ∧ i = .int .i64 k ∧ v = .slice a k c ∧ Hid (VK true wr (.slice a k c) (List.replicate k (fqo (some ((0 : Int) : Rat)))) w.heap.size wr.heap.size) ∧ Below w.heap.size w wr) (fun _ i _ => N - (intOf i).toNat)
  case atStart => exact ⟨0, none, 0, Nat.zero_le _, rfl, rfl, hid (VK_nil _ _ _ _), Below.refl _ _⟩
  case round =>
   obtain ⟨k, a, c, hk, rfl, rfl, hV, hbel⟩ := hrel
   have HB := hid hbel
   clear hbel
   by_cases hlt : k < N
   ·have a1' : (0 : Int) ≤ k := by omega
    have a2 : (k : Int) < N := by omega
    go_wp2_with fail
    (with_reducible refine (int_o 0 (by decide) (by decide) _).mono ?_)
    rintro e w2 ⟨s2, a2', n2, c2, b2, m2, d2, rfl, hr, hb⟩
    have V2 := hid (hV.out.old hb)
    have R2 := hid hr
    have HB2 := hid ((HB.out.trans (hb.mono HB.out.size)).alloc (Nat.le_trans HB.out.size hb.size) (.cells #[.bool s2, .slice a2' n2 c2, .slice b2 m2 d2] 62))
    have hz := HB.out.size
    have hz2 := hb.size
    clear hr hb
    have PV := hid (V2.out.old (below_new' (o := .cells #[.bool s2, .slice a2' n2 c2, .slice b2 m2 d2] 62)))
    have PR := hid (R2.out.old (below_new' (o := .cells #[.bool s2, .slice a2' n2 c2, .slice b2 m2 d2] 62)))
    have PB := hid (heap_alloc_new w2 (.cells #[.bool s2, .slice a2' n2 c2, .slice b2 m2 d2] 62))
    have hlp := hlt
    go_wp2_with (at_builtin; refine wpList_push rfl _ _ rfl rfl PV.out (Nat.le_refl _) (by omega) PR.out rfl PB.out (by simp; omega) (by simp; omega) ?_)
    intro gp cp wp hvp hbp
    have HB3 := hid (HB2.out.trans hbp)
    have HV3 := hid hvp
    clear hvp hbp
    go_wp2
    go_roundw
    case rel => exact ⟨k + 1, some ⟨gp, 0, none⟩, cp, by omega, by go_num, by simp, hid (by simpa [rep_snoc] using HV3.out), HB3.out⟩
    case measure => simp [intOf]; omega
   ·obtain rfl : k = N := by omega
    go_wp2
    go_ret
    exact ⟨_, _, _, rfl, hV.out, HB.out⟩
end Go.Proofs.YtjjainnafihkdaaGreat
