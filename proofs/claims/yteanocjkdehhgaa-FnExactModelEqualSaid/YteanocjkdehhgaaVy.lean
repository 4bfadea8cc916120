/- Vectors of zeros and of one 1. -/
import Derived.Test.YteanocjkdehhgaaVz
import Derived.Deep.RegionHeld3
import Derived.Deep.DeepCutAuto
namespace Go.Proofs.Yteanocjkdehhgaa
open Go.RowKit
open Go.Lib (hid)
set_option linter.unusedVariables false

theorem l01In_y (x lo hi : Int) (h0 : lo ≤ x) (h1 : x ≤ hi) (w : World) : Calls Try.prog 76 #[.int .i64 x, .int .i64 lo, .int .i64 hi] w fun e w' => e = .returned (.bool true) ∧ w = w' := by
  have a1 : decide (lo ≤ x) = true := decide_eq_true h0
  have a2 : decide (x ≤ hi) = true := decide_eq_true h1
  go_enter Try.func76, Try.ntmps76
  go_wp2
  go_ret
  exact ⟨rfl, rfl⟩
theorem l01In_n (x lo hi : Int) (h : x < lo ∨ hi < x) (w : World) : Calls Try.prog 76 #[.int .i64 x, .int .i64 lo, .int .i64 hi] w fun e w' => e = .returned (.bool false) ∧ w = w' := by
  by_cases h1 : lo ≤ x
  · have h2 : ¬ x ≤ hi := by omega
    go_enter Try.func76, Try.ntmps76
    go_wp2
    go_ret
    exact ⟨rfl, rfl⟩
  · go_enter Try.func76, Try.ntmps76
    go_wp2
    go_ret
    exact ⟨rfl, rfl⟩
theorem VK.free {p : Bool} {w : World} {g n c : Nat} {K : List Fq} {lo hi : Nat} (h : VK p w (.slice (some ⟨g, 0, none⟩) n c) K lo hi) (i : Nat) : w.frozen? ⟨g, i, none⟩ = false := by
  obtain ⟨E, h, -⟩ := h
  exact h.free i
theorem keys_set (E : List El) (i : Nat) (e : El) : keys (E.set i e) = (keys E).set i e.q := by simp [keys, List.map_set]
theorem VK.put {p : Bool} {w : World} {g n c : Nat} {K : List Fq} {lo hi lo' i : Nat} {s : Bool} {x y : Value} {o : Option Rat} (h : VK p w (.slice (some ⟨g, 0, none⟩) n c) K lo hi) (hi' : i < K.length) (hr : RO p w lo' s x y o) (hh : hi ≤ lo') (hl : lo ≤ lo') (hw : hi ≤ w.heap.size) :
    VK p (((w.setCell ⟨g, i * 3, none⟩ (.bool s)).setCell ⟨g, i * 3 + 1, none⟩ x).setCell ⟨g, i * 3 + 2, none⟩ y) (.slice (some ⟨g, 0, none⟩) n c) (K.set i (fqo o)) lo w.heap.size := by
  obtain ⟨E, hE, rfl⟩ := h
  rw [keys_len] at hi'
  have hs := hr.sg
  rw [← fqo_s] at hs
  subst hs
  have h1 := hr.i
  have h2 := hr.j
  rw [← fqo_A] at h1
  rw [← fqo_D] at h2
  have hnd := hr.nd
  clear hr
  generalize fqo o = f at h1 h2 ⊢
  have hro : ROw w x y f.A f.D lo' w.heap.size := ⟨⟨h1, fun k hk => (Ints_lt h1 k hk).2⟩, ⟨h2, fun k hk => (Ints_lt h2 k hk).2⟩⟩
  refine ⟨E.set i ⟨f, x, y⟩, (hE.wide (Nat.le_refl _) hw).put (e := ⟨f, x, y⟩) hi' ⟨hro.a.wide hl (.inr (Nat.le_refl _)), hro.d.wide hl (.inr (Nat.le_refl _))⟩ (fun hp => hnd hp) (fun hp j hj _ => hE.apt (e := ⟨f, x, y⟩) hro hh _ (List.getElem_mem hj)), ?_⟩
  rw [keys_set]
theorem zeroK_len (n : Int) : (zeroK n).length ≤ 40 := by
  unfold zeroK
  split
  · next h => simp; omega
  · simp
theorem fitO_zero : fitO (some ((0 : Int) : Rat)) := fitO_i64 (by decide) (by decide)
theorem szK_rep (k : Nat) (f : Fq) : szK (List.replicate k f) = k * f.n := by
  induction k with
  | zero => simp [szK]
  | succ k ih => rw [List.replicate_succ, szK, ih, Nat.succ_mul]; omega
theorem zeroK_sz (n : Int) : szK (zeroK n) ≤ 1960 := by
  unfold zeroK
  split
  · next h =>
    rw [szK_rep]
    have h1 : n.toNat ≤ 40 := by omega
    have h2 := fqo_n fitO_zero
    exact Nat.le_trans (Nat.mul_le_mul h1 h2) (by decide)
  · simp [szK]
end Go.Proofs.Yteanocjkdehhgaa
