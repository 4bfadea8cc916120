import Derived.Test.YthkehmnodcmlcaaGreatXm
import Derived.Test.YthkehmnodcmlcaaGreatVw
import Derived.Test.YthkehmnodcmlcaaGreatVx
import Derived.Test.YthkehmnodcmlcaaGreatVdt
set_option maxRecDepth 512
set_option maxHeartbeats 200000
set_option linter.unusedVariables false
set_option linter.unusedSimpArgs false
namespace Go.Proofs.YthkehmnodcmlcaaGreat
open Go.RowKit
open Go.Lib (hid)
def matW : List (List Fq) → Nat
 | [] => 0
 | K :: _ => K.length
theorem matW_at {M : List (List Fq)} (h : 0 < M.length) : matW M = M[0].length := by
 cases M with
 | nil => simp at h
 | cons K M => rfl
theorem matW_nil {M : List (List Fq)} (h : M.length = 0) : matW M = 0 := by
 cases M with
 | nil => rfl
 | cons K M => simp at h
def matOk (M : List (List Fq)) : Bool := decide (M.length ≤ 40) && M.all fun K => decide (K.length = matW M) && oks (vals K)
theorem matOk_long {M : List (List Fq)} (h : 40 < M.length) : matOk M = false := by
 have : ¬ M.length ≤ 40 := by omega
 simp [matOk, this]
theorem matOk_len {M : List (List Fq)} {k : Nat} (h : k < M.length) (hn : M[k].length ≠ matW M) : matOk M = false := by
 cases e : matOk M
 ·rfl
 ·simp only [matOk, Bool.and_eq_true, List.all_eq_true, decide_eq_true_eq] at e
  exact absurd (e.2 _ (List.getElem_mem h)).1 hn
theorem matOk_no {M : List (List Fq)} {k : Nat} (h : k < M.length) (hn : oks (vals M[k]) = false) : matOk M = false := by
 cases e : matOk M
 ·rfl
 ·simp only [matOk, Bool.and_eq_true, List.all_eq_true, decide_eq_true_eq] at e
  have := (e.2 _ (List.getElem_mem h)).2
  rw [hn] at this
  cases this
theorem matOk_yes {M : List (List Fq)} (h : M.length ≤ 40) (ha : ∀ k (h : k < M.length), M[k].length = matW M ∧ oks (vals M[k]) = true) : matOk M = true := by
 simp only [matOk, Bool.and_eq_true, List.all_eq_true, decide_eq_true_eq]
 refine ⟨h, fun K hK => ?_⟩
 obtain ⟨k, hk, rfl⟩ := List.getElem_of_mem hK
 exact ha k hk
theorem matOk_n {M : List (List Fq)} (h : matOk M = true) : M.length ≤ 40 := by
 simp only [matOk, Bool.and_eq_true, decide_eq_true_eq] at h
 exact h.1
theorem matOk_row {M : List (List Fq)} (h : matOk M = true) {k : Nat} (hk : k < M.length) : M[k].length = matW M ∧ oks (vals M[k]) = true := by
 simp only [matOk, Bool.and_eq_true, List.all_eq_true, decide_eq_true_eq] at h
 exact h.2 _ (List.getElem_mem hk)
theorem fq_canon {f : Fq} (h : f.o.isSome = true) : f = fqo f.o := by
 obtain ⟨s, A, D⟩ := f
 obtain ⟨x, e⟩ := Option.isSome_iff_exists.1 h
 obtain ⟨h1, h2, h3⟩ := rval_lists (s := s) (A := A) (D := D) e
 rw [e]
 simp only [fqo]
 rw [show qn (some x) = x.num from rfl, show qd (some x) = (x.den : Int) from rfl, h1, h2, h3]
theorem oks_at {K : List Fq} (h : oks (vals K) = true) {k : Nat} (hk : k < K.length) : K[k].o.isSome = true := by
 simp only [oks, vals, Bool.and_eq_true, List.all_eq_true] at h
 exact h.2 _ (List.mem_map_of_mem (List.getElem_mem hk))
theorem szK_each : ∀ {K : List Fq}, (∀ f ∈ K, f.n ≤ 49) → szK K ≤ K.length * 49
 | [], _ => by simp [szK]
 |f :: K, h => by
  have h1 := h f (List.mem_cons_self ..)
  have h2 := szK_each (K := K) fun x hx => h x (List.mem_cons_of_mem _ hx)
  simp only [szK, List.length_cons]
  omega
end Go.Proofs.YthkehmnodcmlcaaGreat

namespace Go.Proofs.YthkehmnodcmlcaaGreat
open Go.RowKit
open Go.Lib (hid)
theorem vres_sz' {os : List (Option Rat)} (h : ∀ o ∈ os, fitO o) : szK (vres os) ≤ 1960 := by
 unfold vres
 by_cases ho : oks os = true
 ·rw [if_pos ho]
  have hl : os.length ≤ 40 := by
   simp only [oks, Bool.and_eq_true, decide_eq_true_eq] at ho
   exact ho.1
  have := szK_each (K := os.map fqo) fun f hf => by
   obtain ⟨o, ho, rfl⟩ := List.mem_map.1 hf
   exact fqo_n (h o ho)
  rw [List.length_map] at this
  omega
 ·rw [if_neg ho]; simp [szK]
section
variable {ops : Array Oper} {o : Oper} {a : Act} {p : Bool} {W : World} {v x y : Value} {Ks : List Fq} {lo hi lo' B : Nat} {sg : Bool} {oo : Option Rat}
end
end Go.Proofs.YthkehmnodcmlcaaGreat
