/- The laws on vectors: sizes of results. -/
import Derived.Test.YtmghoedjcokhpaaVt
import Derived.Deep.RegionHeld3
import Derived.Deep.DeepCutAuto
namespace Go.Proofs.Ytmghoedjcokhpaa
open Go.RowKit
open Go.Lib (hid)
set_option linter.unusedVariables false

theorem vres_sz {os : List (Option Rat)} (h : ∀ o ∈ os, fitO o) : szK (vres os) ≤ 1960 := by
  unfold vres
  by_cases ho : oks os = true
  · rw [if_pos ho]
    have hl : os.length ≤ 40 := by
      simp only [oks, Bool.and_eq_true, decide_eq_true_eq] at ho
      exact ho.1
    have key : ∀ l : List (Option Rat), (∀ o ∈ l, fitO o) → szK (l.map fqo) ≤ l.length * 49 := by
      intro l
      induction l with
      | nil => intro _; simp [szK]
      | cons x l ih =>
        intro hx
        have h1 := fqo_n (hx x (List.mem_cons_self ..))
        have h2 := ih fun o ho => hx o (List.mem_cons_of_mem _ ho)
        simp only [List.map_cons, szK, List.length_cons]
        omega
    have := key os h
    omega
  · rw [if_neg ho]; simp [szK]
theorem vzip_sz {f : Rat → Rat → Option Rat} (hf : ∀ x y, fitO (f x y)) (K L : List Fq) : szK (vzip f K L) ≤ 1960 := by
  unfold vzip
  split
  · exact vres_sz (zw_fit hf K L)
  · simp [szK]
theorem unitK_sz (n i : Int) : szK (unitK n i) ≤ 1960 := by
  unfold unitK
  split
  · have h1 := zeroK_len n
    have key : ∀ (l : List Fq) (j : Nat) (x : Fq), (∀ f ∈ l, f.n ≤ 49) → x.n ≤ 49 → szK (l.set j x) ≤ l.length * 49 := by
      intro l
      induction l with
      | nil => intro j x _ _; simp [szK]
      | cons y l ih =>
        intro j x hl hx
        have hy := hl y (List.mem_cons_self ..)
        have hl2 : ∀ f ∈ l, f.n ≤ 49 := fun f hf => hl f (List.mem_cons_of_mem _ hf)
        cases j with
        | zero =>
          have := ih l.length x hl2 hx
          rw [List.set_eq_of_length_le (Nat.le_refl _)] at this
          simp only [List.set_cons_zero, szK, List.length_cons]
          omega
        | succ j =>
          have := ih j x hl2 hx
          simp only [List.set_cons_succ, szK, List.length_cons]
          omega
    have h2 := key (zeroK n) i.toNat (fqo (some ((1 : Int) : Rat))) (fun f hf => by
      unfold zeroK at hf
      split at hf
      · rw [(List.mem_replicate.1 hf).2]; exact fqo_n fitO_zero
      · cases hf) (fqo_n (fitO_i64 (by decide) (by decide)))
    omega
  · simp [szK]
end Go.Proofs.Ytmghoedjcokhpaa
