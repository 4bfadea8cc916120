import Derived.Test.YtjjainnafihkdaaGreatVz
import Derived.Deep.RegionHeld3
import Derived.Deep.DeepCutAuto
set_option maxRecDepth 100000
set_option maxHeartbeats 6400000
set_option linter.unusedVariables false
namespace Go.Proofs.YtjjainnafihkdaaGreat
open Go.RowKit
open Go.Lib (hid)
theorem l01In_y (x lo hi : Int) (h0 : lo ≤ x) (h1 : x ≤ hi) (w : World) : Calls Tryz.prog 158 #[.int .i64 x, .int .i64 lo, .int .i64 hi] w fun e w' => e = .returned (.bool true) ∧ w = w' := by
 have a1 : decide (lo ≤ x) = true := decide_eq_true h0
 have a2 : decide (x ≤ hi) = true := decide_eq_true h1
 go_enter Tryz.func158, Tryz.ntmps158
 go_wp2
 go_ret
 exact ⟨rfl, rfl⟩
theorem l01In_n (x lo hi : Int) (h : x < lo ∨ hi < x) (w : World) : Calls Tryz.prog 158 #[.int .i64 x, .int .i64 lo, .int .i64 hi] w fun e w' => e = .returned (.bool false) ∧ w = w' := by
 by_cases h1 : lo ≤ x
 ·have h2 : ¬ x ≤ hi := by omega
  go_enter Tryz.func158, Tryz.ntmps158
  go_wp2
  go_ret
  exact ⟨rfl, rfl⟩
 ·go_enter Tryz.func158, Tryz.ntmps158
  go_wp2
  go_ret
  exact ⟨rfl, rfl⟩
theorem VK.free {p : Bool} {w : World} {g n c : Nat} {K : List Fq} {lo hi : Nat} (h : VK p w (.slice (some ⟨g, 0, none⟩) n c) K lo hi) (i : Nat) : w.frozen? ⟨g, i, none⟩ = false := by
 obtain ⟨E, h, -⟩ := h
 exact h.free i
theorem keys_set (E : List El) (i : Nat) (e : El) : keys (E.set i e) = (keys E).set i e.q := by simp [keys, List.map_set]
theorem VK.put {p : Bool} {w : World} {g n c : Nat} {K : List Fq} {lo hi lo' i : Nat} {s : Bool} {x y : Value} {o : Option Rat} (h : VK p w (.slice (some ⟨g, 0, none⟩) n c) K lo hi) (hi' : i < K.length) (hr : RO p w lo' s x y o) (hh : hi ≤ lo') (hl : lo ≤ lo') (hw : hi ≤ w.heap.size) :
  VK p (((w.setCell ⟨g, i * 3, none⟩ (.bool s)).setCell ⟨g, i * 3 + 1, none⟩ x).setCell ⟨g, i * 3 + 2, none⟩ y) (.slice (some ⟨g, 0, none⟩) n c) (K.set i (fqo o)) lo w.heap.size := by
 obtain ⟨E, hE, rfl⟩ := h
 rw [keys_len] at hi'
 have hs := hr.sg
 rw [← fqo_s] at hs
 subst hs
 have h1 := hr.i
 have h2 := hr.j
 rw [← fqo_A] at h1
 rw [← fqo_D] at h2
 have hnd := hr.nd
 clear hr
 generalize fqo o = f at h1 h2 ⊢
 have hro : ROw w x y f.A f.D lo' w.heap.size := ⟨⟨h1, fun k hk => (Ints_lt h1 k hk).2⟩, ⟨h2, fun k hk => (Ints_lt h2 k hk).2⟩⟩
 refine ⟨E.set i ⟨f, x, y⟩, (hE.wide (Nat.le_refl _) hw).put (e := ⟨f, x, y⟩) hi' ⟨hro.a.wide hl (.inr (Nat.le_refl _)), hro.d.wide hl (.inr (Nat.le_refl _))⟩ (fun hp => hnd hp) (fun hp j hj _ => hE.apt (e := ⟨f, x, y⟩) hro hh _ (List.getElem_mem hj)), ?_⟩
 rw [keys_set]
theorem zeroK_len (n : Int) : (zeroK n).length ≤ 40 := by
 unfold zeroK
 split
 ·next h => simp; omega
 ·simp
theorem fitO_zero : fitO (some ((0 : Int) : Rat)) := fitO_i64 (by decide) (by decide)
theorem szK_rep (k : Nat) (f : Fq) : szK (List.replicate k f) = k * f.n := by
 induction k with
 | zero => simp [szK]
 | succ k ih => rw [List.replicate_succ, szK, ih, Nat.succ_mul]; omega
theorem zeroK_sz (n : Int) : szK (zeroK n) ≤ 1960 := by
 unfold zeroK
 split
 ·next h =>
  rw [szK_rep]
  have h1 : n.toNat ≤ 40 := by omega
  have h2 := fqo_n fitO_zero
  exact Nat.le_trans (Nat.mul_le_mul h1 h2) (by decide)
 ·simp [szK]
theorem spec_VecZero (n : Int) (n0 : -9223372036854775808 ≤ n) (n1 : n ≤ 9223372036854775807) (w : World) :
  Calls Tryz.prog 106 #[.int .i64 n] w (VecR false (zeroK n) w) := by
 have V0 := hid (VK_lit0 false (w := w) (lo := w.heap.size) (Nat.le_refl _))
 have B0 := hid (show Below w.heap.size w (w.alloc (.cells #[] 62)) from below_new')
 have S0 := hid (show (w.alloc (.cells #[] 62)).heap.size = w.heap.size + 1 by simp)
 by_cases hno : n < 0 ∨ 40 < n
 ·rw [zeroK_no hno]
  have R := hid (show VecR false [] w (.returned (.slice none 0 0)) (w.alloc (.cells #[] 62)) from ⟨_, _, _, rfl, VK_nil _ _ _ _, B0.out⟩)
  have KN := hid (fun W => l01In_n n 0 40 hno W)
  go_enter Tryz.func106, Tryz.ntmps106
  go_wp2_with fail
  (with_reducible refine (KN.out _).mono ?_)
  rintro e w' ⟨rfl, rfl⟩
  go_wp2
  go_ret
  exact R.out
 ·obtain ⟨N, rfl⟩ : ∃ N : Nat, n = N := ⟨n.toNat, by omega⟩
  have hN : N ≤ 40 := by omega
  rw [zeroK_yes hN]
  have KY := hid (fun W => l01In_y (N : Int) 0 40 (by omega) (by omega) W)
  clear hno n0 n1
  go_enter Tryz.func106, Tryz.ntmps106
  go_wp2_with fail
  (with_reducible refine (KY.out _).mono ?_)
  rintro e w' ⟨rfl, rfl⟩
  generalize w.alloc (.cells #[] 62) = w1 at V0 B0 S0 ⊢
  go_wp2
  go_loopw [3] (fun v wr => ∃ (k : Nat) (a : Option Addr) (c : Nat), k ≤ N ∧ v = .slice a k c ∧ Hid (VK false wr (.slice a k c) (List.replicate k (fqo (some ((0 : Int) : Rat)))) w.heap.size wr.heap.size) ∧ Below w.heap.size w wr) (fun v _ => match v with | .slice _ k _ => N - k | _ => 0)
  case atStart => exact ⟨0, _, 0, Nat.zero_le _, rfl, hid (V0.out.wide (Nat.le_refl _) (by rw [S0.out]; exact Nat.le_refl _)), B0.out⟩
  case round =>
   obtain ⟨k, a, c, hk, rfl, hV, hbel⟩ := hrel
   have HB := hid hbel
   clear hbel
   by_cases hlt : k < N
   ·have a2 : (k : Int) < N := by omega
    go_wp2_with fail
    (with_reducible refine (sint_o 0 (by decide) (by decide) _).mono ?_)
    rintro e w2 ⟨s2, a2', n2, c2, b2, m2, d2, rfl, hr, hb⟩
    have V2 := hid (hV.out.old hb)
    have R2 := hid hr
    have HB2 := hid ((HB.out.trans (hb.mono HB.out.size)).alloc (Nat.le_trans HB.out.size hb.size) (.cells #[.bool s2, .slice a2' n2 c2, .slice b2 m2 d2] 62))
    have hz := HB.out.size
    have hz2 := hb.size
    clear hr hb
    have PV := hid (V2.out.old (below_new' (o := .cells #[.bool s2, .slice a2' n2 c2, .slice b2 m2 d2] 62)))
    have PR := hid (R2.out.old (below_new' (o := .cells #[.bool s2, .slice a2' n2 c2, .slice b2 m2 d2] 62)))
    have PB := hid (heap_alloc_new w2 (.cells #[.bool s2, .slice a2' n2 c2, .slice b2 m2 d2] 62))
    have hlp := hlt
    go_wp2_with (at_builtin; refine wpList_push rfl _ _ rfl rfl PV.out (Nat.le_refl _) (by omega) PR.out rfl PB.out (by simp; omega) (by simp; omega) ?_)
    intro gp cp wp hvp hbp
    have HB3 := hid (HB2.out.trans hbp)
    have HV3 := hid hvp
    clear hvp hbp
    go_wp2
    go_roundw
    case rel => exact ⟨k + 1, some ⟨gp, 0, none⟩, cp, by omega, by simp, hid (by simpa [rep_snoc] using HV3.out), HB3.out⟩
    case measure => simp; omega
   ·obtain rfl : k = N := by omega
    go_wp2
    go_ret
    exact ⟨_, _, _, rfl, hV.out, HB.out⟩
theorem impl_VecUnit (n i : Int) (n0 : -9223372036854775808 ≤ n) (n1 : n ≤ 9223372036854775807) (i0 : -9223372036854775808 ≤ i) (i1 : i ≤ 9223372036854775807) (w : World) :
  Calls Tryz.prog 102 #[.int .i64 n, .int .i64 i] w (VecR true (unitK n i) w) := by
 have KZ := hid (fun W => impl_VecZero n n0 n1 W)
 have hL := zeroK_len n
 have hSZ := zeroK_sz n
 obtain ⟨Ku, hKu⟩ : ∃ K, K = unitK n i := ⟨_, rfl⟩
 have HKu := hid hKu
 rw [← hKu]
 clear hKu
 unfold unitK at HKu
 generalize zeroK n = K0 at KZ hL hSZ HKu
 obtain ⟨L, hLe⟩ : ∃ L, L = K0.length := ⟨_, rfl⟩
 rw [← hLe] at hL
 have HL := hid hLe
 clear hLe
 by_cases hin : 0 ≤ i ∧ i < (L : Int)
 ·obtain ⟨j, rfl⟩ : ∃ j : Nat, i = j := ⟨i.toNat, by omega⟩
  have hj := hid (show j < K0.length by rw [← HL.out]; omega)
  have hjL : j < L := by omega
  have a1' : (0 : Int) ≤ j := by omega
  have a2 : (j : Int) < L := by omega
  have a3 : ¬ (j : Int) < 0 := by omega
  have a4 : ¬ (L : Int) ≤ (j : Int) := by omega
  clear hin i0 i1
  go_enter Tryz.func102, Tryz.ntmps102
  go_wp2_with fail
  (with_reducible refine (KZ.out _).mono ?_)
  rintro e w1 ⟨a, n', c, rfl, hv, hb⟩
  have hnum := hv.num
  rw [← HL.out] at hnum
  subst hnum
  have HV := hid hv
  have HB := hid hb
  clear hv hb
  go_wp2_with fail
  (with_reducible refine (int_o 1 (by decide) (by decide) _).mono ?_)
  rintro e w2 ⟨s2, a2', n2, c2, b2, m2, d2, rfl, hr, hb⟩
  have HV2 := hid (HV.out.old hb)
  have hz := HB.out.size
  have hz2 := hb.size
  obtain ⟨g, x1, x2, x3, x4, x5, x6, rfl, -, q0, q1, q2, -⟩ := HV2.out.at (Sm.of (by omega)) hj.out
  have f0 := HV2.out.free (j * 3)
  have f1 := HV2.out.free (j * 3 + 1)
  have f2 := HV2.out.free (j * 3 + 2)
  have hg := hid (show w.heap.size ≤ g by obtain ⟨E, hE, -⟩ := HV2.out; exact (hE.lt g rfl).1)
  have HP := hid (HV2.out.put hj.out hr (Nat.le_refl _) (by omega) (by omega))
  have HB2 := hid ((((HB.out.trans (hb.mono HB.out.size)).setCell (p := ⟨g, j * 3, none⟩) hg.out (.bool s2)).setCell (p := ⟨g, j * 3 + 1, none⟩) hg.out (.slice a2' n2 c2)).setCell (p := ⟨g, j * 3 + 2, none⟩) hg.out (.slice b2 m2 d2))
  clear hr hb
  go_wp2
  go_ret
  refine ⟨_, _, _, rfl, ?_, HB2.out⟩
  have h1 := HKu.out
  rw [if_pos ⟨by omega, by rw [← HL.out]; exact a2⟩] at h1
  rw [h1]
  simpa [size_set] using HP.out
 ·have R := hid (show Ku = [] by have h1 := HKu.out; rw [if_neg (by rw [← HL.out]; exact hin)] at h1; exact h1)
  have hlt2 : i < 0 ∨ (L : Int) ≤ i := by omega
  clear hin
  rcases hlt2 with h | h
  ·go_enter Tryz.func102, Tryz.ntmps102
   go_wp2_with fail
   (with_reducible refine (KZ.out _).mono ?_)
   rintro e w1 ⟨a, n', c, rfl, hv, hb⟩
   have hnum := hv.num
   rw [← HL.out] at hnum
   subst hnum
   have HB := hid hb
   clear hv hb
   go_wp2
   go_ret
   refine ⟨_, _, _, rfl, ?_, HB.out⟩
   rw [R.out]; exact VK_nil _ _ _ _
  ·have h0 : ¬ i < 0 := by omega
   go_enter Tryz.func102, Tryz.ntmps102
   go_wp2_with fail
   (with_reducible refine (KZ.out _).mono ?_)
   rintro e w1 ⟨a, n', c, rfl, hv, hb⟩
   have hnum := hv.num
   rw [← HL.out] at hnum
   subst hnum
   have HB := hid hb
   clear hv hb
   go_wp2
   go_ret
   refine ⟨_, _, _, rfl, ?_, HB.out⟩
   rw [R.out]; exact VK_nil _ _ _ _
end Go.Proofs.YtjjainnafihkdaaGreat

namespace Go.Proofs.YtjjainnafihkdaaGreat
open Go.RowKit
open Go.Lib (hid)
def zw (f : Rat → Rat → Option Rat) (K L : List Fq) : List (Option Rat) := List.zipWith (fun a b => bq f a.o b.o) K L
def vzip (f : Rat → Rat → Option Rat) (K L : List Fq) : List Fq := if K.length = L.length then vres (zw f K L) else []
theorem zw_len {f : Rat → Rat → Option Rat} {K L : List Fq} (h : K.length = L.length) : (zw f K L).length = K.length := by simp [zw, h]
theorem zw_at {f : Rat → Rat → Option Rat} {K L : List Fq} {k : Nat} (h : k < K.length) (h' : k < L.length) (hz : k < (zw f K L).length) : (zw f K L)[k] = bq f K[k].o L[k].o := by simp [zw]
theorem zw_fit {f : Rat → Rat → Option Rat} (hf : ∀ x y, fitO (f x y)) (K L : List Fq) : ∀ o ∈ zw f K L, fitO o := by
 intro o ho
 obtain ⟨k, hk, rfl⟩ := List.getElem_of_mem ho
 simp only [zw, List.getElem_zipWith]
 exact fitO_bq hf _ _
theorem vals_map : ∀ {os : List (Option Rat)}, (∀ o ∈ os, fitO o) → vals (os.map fqo) = os
 | [], _ => rfl
 |o :: os, h => by
  have h1 := fqo_o (h o (List.mem_cons_self ..))
  have h2 := vals_map (os := os) (fun x hx => h x (List.mem_cons_of_mem _ hx))
  unfold vals at h2 ⊢
  rw [List.map_cons, List.map_cons, h1, h2]
theorem ne_facts {a b : Nat} (h : a ≠ b) : ((a : Int) == (b : Int)) = false ∧ ((a : Int) != (b : Int)) = true := by
 have : ¬ (a : Int) = (b : Int) := by omega
 simp [this]
theorem VK.blk {p : Bool} {w : World} {g n c : Nat} {K : List Fq} {lo hi : Nat} (h : VK p w (.slice (some ⟨g, 0, none⟩) n c) K lo hi) : lo ≤ g ∧ g < w.heap.size := by
 obtain ⟨E, hE, -⟩ := h
 exact hE.lt g rfl
theorem take_map {os : List (Option Rat)} {k : Nat} (h : k < os.length) {o : Option Rat} (ho : os[k] = o) : (os.take k).map fqo ++ [fqo o] = (os.take (k + 1)).map fqo := by
 rw [List.take_succ_eq_append_getElem h, List.map_append, ho, List.map_cons, List.map_nil]
end Go.Proofs.YtjjainnafihkdaaGreat

namespace Go.Proofs.YtjjainnafihkdaaGreat
open Go.RowKit
open Go.Lib (hid)
end Go.Proofs.YtjjainnafihkdaaGreat
namespace Go.Proofs.YtjjainnafihkdaaGreat
open Go.RowKit
open Go.Lib (hid)
def oat (K : List Fq) (k : Nat) : Option Rat := (vals K).getD k none
def am (K : List Fq) : Nat → Nat
 | 0 => 0
 | k + 1 => if cmpO (oat K k) (oat K (am K k)) < 0 then k else am K k
end Go.Proofs.YtjjainnafihkdaaGreat
