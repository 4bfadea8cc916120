import Derived.Test.YthkehmnodcmlcaaGreatVbe
import Derived.Deep.RegionHeld3
import Derived.Deep.DeepCutAuto
set_option maxRecDepth 100000
set_option maxHeartbeats 6400000
set_option linter.unusedVariables false
set_option linter.unusedSimpArgs false
namespace Go.Proofs.YthkehmnodcmlcaaGreat
open Go.RowKit
open Go.Lib (hid)
def vals (K : List Fq) : List (Option Rat) := K.map Fq.o
theorem vals_len (K : List Fq) : (vals K).length = K.length := by simp [vals]
def oks (os : List (Option Rat)) : Bool := decide (os.length ≤ 40) && os.all Option.isSome
def vres (os : List (Option Rat)) : List Fq := if oks os = true then os.map fqo else []
theorem oks_no {K : List Fq} {k : Nat} (h : k < K.length) (hn : K[k].o = none) : oks (vals K) = false := by
 cases e : oks (vals K)
 ·rfl
 ·simp only [oks, vals, Bool.and_eq_true, List.all_eq_true] at e
  have := e.2 _ (List.mem_map_of_mem (List.getElem_mem h))
  rw [hn] at this
  exact absurd this (by decide)
theorem oks_long {K : List Fq} (h : 40 < K.length) : oks (vals K) = false := by
 have : ¬ (vals K).length ≤ 40 := by rw [vals_len]; omega
 simp [oks, this]
theorem oks_yes {K : List Fq} (h : K.length ≤ 40) (ha : ∀ k (h : k < K.length), K[k].o.isSome = true) : oks (vals K) = true := by
 simp only [oks, Bool.and_eq_true, List.all_eq_true, decide_eq_true_eq]
 refine ⟨by rw [vals_len]; exact h, fun x hx => ?_⟩
 obtain ⟨f, hf, rfl⟩ := List.mem_map.1 hx
 obtain ⟨k, hk, rfl⟩ := List.getElem_of_mem hf
 exact ha k hk
theorem bool_ret {a b : Bool} (h : a = b) : Ending.returned (.bool a) = .returned (.bool b) := by rw [h]
theorem impl_VecOk_w  {a : Option Addr} {n c : Nat} {K : List Fq} {lo hi : Nat} (hK : Sm K) (w : World) (h : VW w a n K lo hi) :
  Calls Tryz.prog 63 #[.slice a n c] w (RetB (.bool (oks (vals K))) w) := by
 have HV := hid h
 obtain rfl := h.num
 clear h
 have hkl := hK.2
 by_cases hL : 40 < K.length
 ·rw [oks_long hL]
  go_enter Tryz.func63, Tryz.ntmps63
  go_wp2
  go_ret
  exact ⟨rfl, Below.refl _ _⟩
 obtain ⟨B0, hB0⟩ : ∃ B, B = oks (vals K) := ⟨_, rfl⟩
 rw [← hB0]
 have HB0 := hid hB0
 clear hB0
 go_enter Tryz.func63, Tryz.ntmps63
 go_wp2
 go_loopw [10] (fun i wr => ∃ k : Nat, k ≤ K.length ∧ i = .int .i64 k ∧ Hid (∀ j (h : j < K.length), j < k → K[j].o.isSome = true) ∧ Below w.heap.size w wr) (fun i _ => K.length - (intOf i).toNat)
 case atStart => exact ⟨0, Nat.zero_le _, rfl, hid (fun j h hj => absurd hj (by omega)), Below.refl _ _⟩
 case round =>
  obtain ⟨k, hk, rfl, hA, hbel⟩ := hrel
  by_cases hlt : k < K.length
  ·have V := hid (HV.out.old hbel)
   obtain ⟨g, p, a3, n3, c3, b3, m3, d3, rfl, hg, q0, q1, q2, R⟩ := V.out.at hK hlt
   obtain ⟨⟨s, A, D⟩, hf⟩ : ∃ f, K[k]'(hlt) = f := ⟨_, rfl⟩
   simp only [hf] at q0 R
   have HF := hid hf
   clear hf
   obtain ⟨o, ho⟩ : ∃ o, Fq.o ⟨s, A, D⟩ = o := ⟨_, rfl⟩
   have HO := hid (show (K[k]'(hlt)).o = o by rw [HF.out, ho])
   have RX := hid (show RA wr s (.slice a3 n3 c3) (.slice b3 m3 d3) o from ⟨A, D, R, ho⟩)
   clear ho R
   have HB := hid (hbel.alloc hbel.size (.cells #[.bool s, .slice a3 n3 c3, .slice b3 m3 d3] 37))
   have a1' : (0 : Int) ≤ k := by omega
   have a2 : (k : Int) < K.length := by omega
   clear hbel
   cases o with
   |none =>
    have KO := hid (fun (W : World) (hb : Below wr.heap.size wr W) => ok_none (w := W) (RX.out.old hb))
    go_wp2_with fail
    (with_reducible refine (KO.out _ below_new').mono ?_)
    rintro e w2 ⟨rfl, hb⟩
    have HB := hid (HB.out.trans (hb.mono HB.out.size))
    clear hb q0 q1 q2
    go_wp2
    go_ret
    exact ⟨bool_ret (by rw [HB0.out, oks_no hlt HO.out]), HB.out⟩
   |some x =>
    have KO := hid (fun (W : World) (hb : Below wr.heap.size wr W) => ok_some (w := W) (RX.out.old hb))
    go_wp2_with fail
    (with_reducible refine (KO.out _ below_new').mono ?_)
    rintro e w2 ⟨rfl, hb⟩
    have HB := hid (HB.out.trans (hb.mono HB.out.size))
    clear hb q0 q1 q2
    go_wp2
    go_roundw
    case rel => exact ⟨k + 1, by omega, by go_num, hid (fun j h hj => by
     rcases Nat.lt_or_eq_of_le (Nat.le_of_lt_succ hj) with hj' | rfl
     ·exact hA.out j h hj'
     ·rw [HO.out]; rfl), HB.out⟩
    case measure => simp [intOf]; omega
  ·have HB := hid hbel
   clear hbel
   go_wp2
   go_ret
   exact ⟨bool_ret (by rw [HB0.out, oks_yes (by omega) (fun j h => hA.out j h (by omega))]), HB.out⟩
theorem impl_VecOk {p : Bool} {a : Option Addr} {n c : Nat} {K : List Fq} {lo hi : Nat} (hK : Sm K) (w : World) (h : VK p w (.slice a n c) K lo hi) :
  Calls Tryz.prog 63 #[.slice a n c] w (RetB (.bool (oks (vals K))) w) :=
 impl_VecOk_w hK w h.vw
theorem spec_VecOk {p : Bool} {a : Option Addr} {n c : Nat} {K : List Fq} {lo hi : Nat} (hK : Sm K) (w : World) (h : VK p w (.slice a n c) K lo hi) :
  Calls Tryz.prog 59 #[.slice a n c] w (RetB (.bool (oks (vals K))) w) := by
 have HV := hid h
 obtain rfl := h.num
 clear h
 have hkl := hK.2
 obtain ⟨B0, hB0⟩ : ∃ B, B = oks (vals K) := ⟨_, rfl⟩
 rw [← hB0]
 have HB0 := hid hB0
 clear hB0
 by_cases hL : 40 < K.length
 ·go_enter Tryz.func59, Tryz.ntmps59
  go_wp2
  go_loopw [7] (fun i wr => ∃ k : Nat, k ≤ K.length ∧ i = .int .i64 k ∧ Hid (∀ j (h : j < K.length), j < k → K[j].o.isSome = true) ∧ Below w.heap.size w wr) (fun i _ => K.length - (intOf i).toNat)
  case atStart => exact ⟨0, Nat.zero_le _, rfl, hid (fun j h hj => absurd hj (by omega)), Below.refl _ _⟩
  case round =>
   obtain ⟨k, hk, rfl, hA, hbel⟩ := hrel
   by_cases hlt : k < K.length
   ·have V := hid (HV.out.old hbel)
    obtain ⟨g, a3, n3, c3, b3, m3, d3, rfl, hg, q0, q1, q2, R⟩ := V.out.at hK hlt
    obtain ⟨⟨s, A, D⟩, hf⟩ : ∃ f, K[k]'(hlt) = f := ⟨_, rfl⟩
    simp only [hf] at q0 R
    have HF := hid hf
    clear hf
    obtain ⟨o, ho⟩ : ∃ o, Fq.o ⟨s, A, D⟩ = o := ⟨_, rfl⟩
    have HO := hid (show (K[k]'(hlt)).o = o by rw [HF.out, ho])
    have RX := hid (show RA wr s (.slice a3 n3 c3) (.slice b3 m3 d3) o from ⟨A, D, R, ho⟩)
    clear ho R
    have HB := hid (hbel.alloc hbel.size (.cells #[.bool s, .slice a3 n3 c3, .slice b3 m3 d3] 37))
    have a1' : (0 : Int) ≤ k := by omega
    have a2 : (k : Int) < K.length := by omega
    clear hbel
    cases o with
    |none =>
     have KO := hid (fun (W : World) (hb : Below wr.heap.size wr W) => sok_none (w := W) (RX.out.old hb))
     go_wp2_with fail
     (with_reducible refine (KO.out _ below_new').mono ?_)
     rintro e w2 ⟨rfl, hb⟩
     have HB := hid (HB.out.trans (hb.mono HB.out.size))
     clear hb q0 q1 q2
     go_wp2
     go_ret
     exact ⟨bool_ret (by rw [HB0.out, oks_no hlt HO.out]), HB.out⟩
    |some x =>
     have KO := hid (fun (W : World) (hb : Below wr.heap.size wr W) => sok_some (w := W) (RX.out.old hb))
     go_wp2_with fail
     (with_reducible refine (KO.out _ below_new').mono ?_)
     rintro e w2 ⟨rfl, hb⟩
     have HB := hid (HB.out.trans (hb.mono HB.out.size))
     clear hb q0 q1 q2
     go_wp2
     go_roundw
     case rel => exact ⟨k + 1, by omega, by go_num, hid (fun j h hj => by
      rcases Nat.lt_or_eq_of_le (Nat.le_of_lt_succ hj) with hj' | rfl
      ·exact hA.out j h hj'
      ·rw [HO.out]; rfl), HB.out⟩
     case measure => simp [intOf]; omega
   ·have HB := hid hbel
    clear hbel
    go_wp2
    go_ret
    exact ⟨bool_ret (by rw [HB0.out, oks_long hL]; first | exact decide_eq_false (by omega) | exact decide_eq_true (by omega)), HB.out⟩
 ·go_enter Tryz.func59, Tryz.ntmps59
  go_wp2
  go_loopw [7] (fun i wr => ∃ k : Nat, k ≤ K.length ∧ i = .int .i64 k ∧ Hid (∀ j (h : j < K.length), j < k → K[j].o.isSome = true) ∧ Below w.heap.size w wr) (fun i _ => K.length - (intOf i).toNat)
  case atStart => exact ⟨0, Nat.zero_le _, rfl, hid (fun j h hj => absurd hj (by omega)), Below.refl _ _⟩
  case round =>
   obtain ⟨k, hk, rfl, hA, hbel⟩ := hrel
   by_cases hlt : k < K.length
   ·have V := hid (HV.out.old hbel)
    obtain ⟨g, a3, n3, c3, b3, m3, d3, rfl, hg, q0, q1, q2, R⟩ := V.out.at hK hlt
    obtain ⟨⟨s, A, D⟩, hf⟩ : ∃ f, K[k]'(hlt) = f := ⟨_, rfl⟩
    simp only [hf] at q0 R
    have HF := hid hf
    clear hf
    obtain ⟨o, ho⟩ : ∃ o, Fq.o ⟨s, A, D⟩ = o := ⟨_, rfl⟩
    have HO := hid (show (K[k]'(hlt)).o = o by rw [HF.out, ho])
    have RX := hid (show RA wr s (.slice a3 n3 c3) (.slice b3 m3 d3) o from ⟨A, D, R, ho⟩)
    clear ho R
    have HB := hid (hbel.alloc hbel.size (.cells #[.bool s, .slice a3 n3 c3, .slice b3 m3 d3] 37))
    have a1' : (0 : Int) ≤ k := by omega
    have a2 : (k : Int) < K.length := by omega
    clear hbel
    cases o with
    |none =>
     have KO := hid (fun (W : World) (hb : Below wr.heap.size wr W) => sok_none (w := W) (RX.out.old hb))
     go_wp2_with fail
     (with_reducible refine (KO.out _ below_new').mono ?_)
     rintro e w2 ⟨rfl, hb⟩
     have HB := hid (HB.out.trans (hb.mono HB.out.size))
     clear hb q0 q1 q2
     go_wp2
     go_ret
     exact ⟨bool_ret (by rw [HB0.out, oks_no hlt HO.out]), HB.out⟩
    |some x =>
     have KO := hid (fun (W : World) (hb : Below wr.heap.size wr W) => sok_some (w := W) (RX.out.old hb))
     go_wp2_with fail
     (with_reducible refine (KO.out _ below_new').mono ?_)
     rintro e w2 ⟨rfl, hb⟩
     have HB := hid (HB.out.trans (hb.mono HB.out.size))
     clear hb q0 q1 q2
     go_wp2
     go_roundw
     case rel => exact ⟨k + 1, by omega, by go_num, hid (fun j h hj => by
      rcases Nat.lt_or_eq_of_le (Nat.le_of_lt_succ hj) with hj' | rfl
      ·exact hA.out j h hj'
      ·rw [HO.out]; rfl), HB.out⟩
     case measure => simp [intOf]; omega
   ·have HB := hid hbel
    clear hbel
    go_wp2
    go_ret
    exact ⟨bool_ret (by rw [HB0.out, oks_yes (by omega) (fun j h => hA.out j h (by omega))]; first | exact decide_eq_false (by omega) | exact decide_eq_true (by omega)), HB.out⟩
end Go.Proofs.YthkehmnodcmlcaaGreat

namespace Go.Proofs.YthkehmnodcmlcaaGreat
open Go.RowKit
open Go.Lib (hid)
end Go.Proofs.YthkehmnodcmlcaaGreat

namespace Go.Proofs.YthkehmnodcmlcaaGreat
open Go.RowKit
open Go.Lib (hid)
theorem l01In_y (x lo hi : Int) (h0 : lo ≤ x) (h1 : x ≤ hi) (w : World) : Calls Tryz.prog 120 #[.int .i64 x, .int .i64 lo, .int .i64 hi] w fun e w' => e = .returned (.bool true) ∧ w = w' := by
 have a1 : decide (lo ≤ x) = true := decide_eq_true h0
 have a2 : decide (x ≤ hi) = true := decide_eq_true h1
 go_enter Tryz.func120, Tryz.ntmps120
 go_wp2
 go_ret
 exact ⟨rfl, rfl⟩
theorem l01In_n (x lo hi : Int) (h : x < lo ∨ hi < x) (w : World) : Calls Tryz.prog 120 #[.int .i64 x, .int .i64 lo, .int .i64 hi] w fun e w' => e = .returned (.bool false) ∧ w = w' := by
 by_cases h1 : lo ≤ x
 ·have h2 : ¬ x ≤ hi := by omega
  go_enter Tryz.func120, Tryz.ntmps120
  go_wp2
  go_ret
  exact ⟨rfl, rfl⟩
 ·go_enter Tryz.func120, Tryz.ntmps120
  go_wp2
  go_ret
  exact ⟨rfl, rfl⟩
theorem VK.free {p : Bool} {w : World} {g n c : Nat} {K : List Fq} {lo hi : Nat} (h : VK p w (.slice (some ⟨g, 0, none⟩) n c) K lo hi) (i : Nat) : w.frozen? ⟨g, i, none⟩ = false := by
 obtain ⟨E, h, -⟩ := h
 exact h.free i
theorem keys_set (E : List El) (i : Nat) (e : El) : keys (E.set i e) = (keys E).set i e.q := by simp [keys, List.map_set]
theorem VK.put {p : Bool} {w : World} {g n c : Nat} {K : List Fq} {lo hi lo' i : Nat} {s : Bool} {x y : Value} {o : Option Rat} (h : VK p w (.slice (some ⟨g, 0, none⟩) n c) K lo hi) (hi' : i < K.length) (hr : RO p w lo' s x y o) (hh : hi ≤ lo') (hl : lo ≤ lo') (hw : hi ≤ w.heap.size) :
  VK p (((w.setCell ⟨g, i * 3, none⟩ (.bool s)).setCell ⟨g, i * 3 + 1, none⟩ x).setCell ⟨g, i * 3 + 2, none⟩ y) (.slice (some ⟨g, 0, none⟩) n c) (K.set i (fqo o)) lo w.heap.size := by
 obtain ⟨E, hE, rfl⟩ := h
 rw [keys_len] at hi'
 have hs := hr.sg
 rw [← fqo_s] at hs
 subst hs
 have h1 := hr.i
 have h2 := hr.j
 rw [← fqo_A] at h1
 rw [← fqo_D] at h2
 have hnd := hr.nd
 clear hr
 generalize fqo o = f at h1 h2 ⊢
 have hro : ROw w x y f.A f.D lo' w.heap.size := ⟨⟨h1, fun k hk => (Ints_lt h1 k hk).2⟩, ⟨h2, fun k hk => (Ints_lt h2 k hk).2⟩⟩
 refine ⟨E.set i ⟨f, x, y⟩, (hE.wide (Nat.le_refl _) hw).put (e := ⟨f, x, y⟩) hi' ⟨hro.a.wide hl (.inr (Nat.le_refl _)), hro.d.wide hl (.inr (Nat.le_refl _))⟩ (fun hp => hnd hp) (fun hp j hj _ => hE.apt (e := ⟨f, x, y⟩) hro hh _ (List.getElem_mem hj)), ?_⟩
 rw [keys_set]
theorem fitO_zero : fitO (some ((0 : Int) : Rat)) := fitO_i64 (by decide) (by decide)
end Go.Proofs.YthkehmnodcmlcaaGreat

namespace Go.Proofs.YthkehmnodcmlcaaGreat
open Go.RowKit
open Go.Lib (hid)
def zw (f : Rat → Rat → Option Rat) (K L : List Fq) : List (Option Rat) := List.zipWith (fun a b => bq f a.o b.o) K L
def vzip (f : Rat → Rat → Option Rat) (K L : List Fq) : List Fq := if K.length = L.length then vres (zw f K L) else []
theorem zw_len {f : Rat → Rat → Option Rat} {K L : List Fq} (h : K.length = L.length) : (zw f K L).length = K.length := by simp [zw, h]
theorem zw_at {f : Rat → Rat → Option Rat} {K L : List Fq} {k : Nat} (h : k < K.length) (h' : k < L.length) (hz : k < (zw f K L).length) : (zw f K L)[k] = bq f K[k].o L[k].o := by simp [zw]
theorem zw_fit {f : Rat → Rat → Option Rat} (hf : ∀ x y, fitO (f x y)) (K L : List Fq) : ∀ o ∈ zw f K L, fitO o := by
 intro o ho
 obtain ⟨k, hk, rfl⟩ := List.getElem_of_mem ho
 simp only [zw, List.getElem_zipWith]
 exact fitO_bq hf _ _
theorem vals_map : ∀ {os : List (Option Rat)}, (∀ o ∈ os, fitO o) → vals (os.map fqo) = os
 | [], _ => rfl
 |o :: os, h => by
  have h1 := fqo_o (h o (List.mem_cons_self ..))
  have h2 := vals_map (os := os) (fun x hx => h x (List.mem_cons_of_mem _ hx))
  unfold vals at h2 ⊢
  rw [List.map_cons, List.map_cons, h1, h2]
theorem ne_facts {a b : Nat} (h : a ≠ b) : ((a : Int) == (b : Int)) = false ∧ ((a : Int) != (b : Int)) = true := by
 have : ¬ (a : Int) = (b : Int) := by omega
 simp [this]
theorem VK.blk {p : Bool} {w : World} {g n c : Nat} {K : List Fq} {lo hi : Nat} (h : VK p w (.slice (some ⟨g, 0, none⟩) n c) K lo hi) : lo ≤ g ∧ g < w.heap.size := by
 obtain ⟨E, hE, -⟩ := h
 exact hE.lt g rfl
theorem take_map {os : List (Option Rat)} {k : Nat} (h : k < os.length) {o : Option Rat} (ho : os[k] = o) : (os.take k).map fqo ++ [fqo o] = (os.take (k + 1)).map fqo := by
 rw [List.take_succ_eq_append_getElem h, List.map_append, ho, List.map_cons, List.map_nil]
end Go.Proofs.YthkehmnodcmlcaaGreat

namespace Go.Proofs.YthkehmnodcmlcaaGreat
open Go.RowKit
open Go.Lib (hid)
def eqF (f g : Fq) : Bool := (f.s == g.s) && decide (f.A = g.A) && decide (f.D = g.D)
end Go.Proofs.YthkehmnodcmlcaaGreat
namespace Go.Proofs.YthkehmnodcmlcaaGreat
open Go.RowKit
open Go.Lib (hid)
def oat (K : List Fq) (k : Nat) : Option Rat := (vals K).getD k none
def am (K : List Fq) : Nat → Nat
 | 0 => 0
 | k + 1 => if cmpO (oat K k) (oat K (am K k)) < 0 then k else am K k
end Go.Proofs.YthkehmnodcmlcaaGreat
