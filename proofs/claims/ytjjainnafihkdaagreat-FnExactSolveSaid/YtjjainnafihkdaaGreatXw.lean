import Derived.Test.YtjjainnafihkdaaGreatXm
import Derived.Test.YtjjainnafihkdaaGreatVw
import Derived.Test.YtjjainnafihkdaaGreatVs
import Derived.Deep.RegionHeld3
import Derived.Deep.DeepCutAuto
import Derived.Test.YtjjainnafihkdaaGreatVx
set_option maxRecDepth 512
set_option maxHeartbeats 200000
set_option linter.unusedVariables false
namespace Go.Proofs.YtjjainnafihkdaaGreat
open Go.RowKit
open Go.Lib (hid)
def matW : List (List Fq) → Nat
 | [] => 0
 | K :: _ => K.length
theorem matW_at {M : List (List Fq)} (h : 0 < M.length) : matW M = M[0].length := by
 cases M with
 | nil => simp at h
 | cons K M => rfl
theorem matW_nil {M : List (List Fq)} (h : M.length = 0) : matW M = 0 := by
 cases M with
 | nil => rfl
 | cons K M => simp at h
def matOk (M : List (List Fq)) : Bool := decide (M.length ≤ 40) && M.all fun K => decide (K.length = matW M) && oks (vals K)
theorem matOk_long {M : List (List Fq)} (h : 40 < M.length) : matOk M = false := by
 have : ¬ M.length ≤ 40 := by omega
 simp [matOk, this]
theorem matOk_len {M : List (List Fq)} {k : Nat} (h : k < M.length) (hn : M[k].length ≠ matW M) : matOk M = false := by
 cases e : matOk M
 ·rfl
 ·simp only [matOk, Bool.and_eq_true, List.all_eq_true, decide_eq_true_eq] at e
  exact absurd (e.2 _ (List.getElem_mem h)).1 hn
theorem matOk_no {M : List (List Fq)} {k : Nat} (h : k < M.length) (hn : oks (vals M[k]) = false) : matOk M = false := by
 cases e : matOk M
 ·rfl
 ·simp only [matOk, Bool.and_eq_true, List.all_eq_true, decide_eq_true_eq] at e
  have := (e.2 _ (List.getElem_mem h)).2
  rw [hn] at this
  cases this
theorem matOk_yes {M : List (List Fq)} (h : M.length ≤ 40) (ha : ∀ k (h : k < M.length), M[k].length = matW M ∧ oks (vals M[k]) = true) : matOk M = true := by
 simp only [matOk, Bool.and_eq_true, List.all_eq_true, decide_eq_true_eq]
 refine ⟨h, fun K hK => ?_⟩
 obtain ⟨k, hk, rfl⟩ := List.getElem_of_mem hK
 exact ha k hk
theorem matOk_n {M : List (List Fq)} (h : matOk M = true) : M.length ≤ 40 := by
 simp only [matOk, Bool.and_eq_true, decide_eq_true_eq] at h
 exact h.1
theorem matOk_row {M : List (List Fq)} (h : matOk M = true) {k : Nat} (hk : k < M.length) : M[k].length = matW M ∧ oks (vals M[k]) = true := by
 simp only [matOk, Bool.and_eq_true, List.all_eq_true, decide_eq_true_eq] at h
 exact h.2 _ (List.getElem_mem hk)
theorem oks_n {K : List Fq} (h : oks (vals K) = true) : K.length ≤ 40 := by
 simp only [oks, Bool.and_eq_true, decide_eq_true_eq, vals_len] at h
 exact h.1
theorem matOk_w {M : List (List Fq)} (h : matOk M = true) : matW M ≤ 40 := by
 by_cases h0 : 0 < M.length
 ·have := matOk_row h h0
  have := oks_n this.2
  omega
 ·rw [matW_nil (by omega)]; omega
def matZ (r c : Int) : List (List Fq) := if (0 ≤ r ∧ r ≤ 40) ∧ 0 ≤ c ∧ c ≤ 40 then List.replicate r.toNat (zeroK c) else []
theorem matZ_yes {R C : Nat} (h : R ≤ 40) (h' : C ≤ 40) : matZ (R : Int) (C : Int) = List.replicate R (List.replicate C (fqo (some ((0 : Int) : Rat)))) := by
 unfold matZ; rw [if_pos (by omega), zeroK_yes h']; rfl
theorem matZ_no {r c : Int} (h : (r < 0 ∨ 40 < r) ∨ c < 0 ∨ 40 < c) : matZ r c = [] := by
 unfold matZ; rw [if_neg (by omega)]
def matI (n : Int) : List (List Fq) := if 0 ≤ n ∧ n ≤ 40 then (List.range n.toNat).map fun (i : Nat) => unitK n i else []
theorem matI_yes {N : Nat} (h : N ≤ 40) : matI (N : Int) = (List.range N).map fun (i : Nat) => unitK N i := by
 unfold matI; rw [if_pos (by omega)]; rfl
theorem matI_no {n : Int} (h : n < 0 ∨ 40 < n) : matI n = [] := by
 unfold matI; rw [if_neg (by omega)]
def elt (K : List Fq) (k : Nat) : Fq := K.getD k ⟨false, [], []⟩
theorem elt_at {K : List Fq} {k : Nat} (h : k < K.length) : elt K k = K[k] := by simp [elt, h]
def matT (M : List (List Fq)) : List (List Fq) := if matOk M = true then (List.range (matW M)).map fun k => M.map fun K => elt K k else []
def bmF (R C : Nat) (F : Nat → List Fq) : List (List Fq) := if (∀ i, i < R → (F i).length = C) then (List.range R).map F else []
theorem bmF_yes {R C : Nat} {F : Nat → List Fq} (h : ∀ i, i < R → (F i).length = C) : bmF R C F = (List.range R).map F := by unfold bmF; rw [if_pos h]
theorem bmF_no {R C : Nat} {F : Nat → List Fq} {i : Nat} (h : i < R) (hn : (F i).length ≠ C) : bmF R C F = [] := by
 unfold bmF; rw [if_neg fun e => hn (e i h)]
theorem fq_canon {f : Fq} (h : f.o.isSome = true) : f = fqo f.o := by
 obtain ⟨s, A, D⟩ := f
 obtain ⟨x, e⟩ := Option.isSome_iff_exists.1 h
 obtain ⟨h1, h2, h3⟩ := rval_lists (s := s) (A := A) (D := D) e
 rw [e]
 simp only [fqo]
 rw [show qn (some x) = x.num from rfl, show qd (some x) = (x.den : Int) from rfl, h1, h2, h3]
theorem oks_at {K : List Fq} (h : oks (vals K) = true) {k : Nat} (hk : k < K.length) : K[k].o.isSome = true := by
 simp only [oks, vals, Bool.and_eq_true, List.all_eq_true] at h
 exact h.2 _ (List.mem_map_of_mem (List.getElem_mem hk))
theorem szK_each : ∀ {K : List Fq}, (∀ f ∈ K, f.n ≤ 49) → szK K ≤ K.length * 49
 | [], _ => by simp [szK]
 |f :: K, h => by
  have h1 := h f (List.mem_cons_self ..)
  have h2 := szK_each (K := K) fun x hx => h x (List.mem_cons_of_mem _ hx)
  simp only [szK, List.length_cons]
  omega
theorem szM_each {b : Nat} : ∀ {M : List (List Fq)}, (∀ K ∈ M, szK K ≤ b) → szM M ≤ M.length * b
 | [], _ => by simp [szM]
 |K :: M, h => by
  have h1 := h K (List.mem_cons_self ..)
  have h2 := szM_each (b := b) (M := M) fun x hx => h x (List.mem_cons_of_mem _ hx)
  simp only [szM, List.length_cons, Nat.add_mul]
  omega
theorem szM_40 {M : List (List Fq)} (h : M.length ≤ 40) (hs : ∀ K ∈ M, szK K ≤ 1960) : szM M ≤ 78400 := by
 have := szM_each hs
 omega
theorem unit_sz (n i : Int) : szK (unitK n i) ≤ 1960 := by
 unfold unitK
 split
 ·have h1 := zeroK_len n
  have key : ∀ (l : List Fq) (j : Nat) (x : Fq), (∀ f ∈ l, f.n ≤ 49) → x.n ≤ 49 → szK (l.set j x) ≤ l.length * 49 := by
   intro l
   induction l with
   | nil => intro j x _ _; simp [szK]
   |cons y l ih =>
    intro j x hl hx
    have hy := hl y (List.mem_cons_self ..)
    have hl2 : ∀ f ∈ l, f.n ≤ 49 := fun f hf => hl f (List.mem_cons_of_mem _ hf)
    cases j with
    |zero =>
     have := ih l.length x hl2 hx
     rw [List.set_eq_of_length_le (Nat.le_refl _)] at this
     simp only [ka2, szK, List.length_cons]
     omega
    |succ j =>
     have := ih j x hl2 hx
     simp only [ka3, szK, List.length_cons]
     omega
  have h2 := key (zeroK n) i.toNat (fqo (some ((1 : Int) : Rat))) (fun f hf => by
   unfold zeroK at hf
   split at hf
   ·rw [(List.mem_replicate.1 hf).2]; exact fqo_n fitO_zero
   ·cases hf) (fqo_n (fitO_i64 (by decide) (by decide)))
  omega
 ·simp [szK]
theorem matI_sz (n : Int) : (matI n).length ≤ 40 ∧ szM (matI n) ≤ 78400 := by
 by_cases h : 0 ≤ n ∧ n ≤ 40
 ·have hl : (matI n).length ≤ 40 := by unfold matI; rw [if_pos h, List.length_map, List.length_range]; omega
  refine ⟨hl, szM_40 hl fun K hK => ?_⟩
  unfold matI at hK
  rw [if_pos h] at hK
  obtain ⟨i, -, rfl⟩ := List.mem_map.1 hK
  exact unit_sz n i
 ·unfold matI; rw [if_neg h]; simp [szM]
end Go.Proofs.YtjjainnafihkdaaGreat

namespace Go.Proofs.YtjjainnafihkdaaGreat
open Go.RowKit
open Go.Lib (hid)
end Go.Proofs.YtjjainnafihkdaaGreat
namespace Go.Proofs.YtjjainnafihkdaaGreat
open Go.RowKit
open Go.Lib (hid)
end Go.Proofs.YtjjainnafihkdaaGreat

namespace Go.Proofs.YtjjainnafihkdaaGreat
open Go.RowKit
open Go.Lib (hid)
theorem vres_sz' {os : List (Option Rat)} (h : ∀ o ∈ os, fitO o) : szK (vres os) ≤ 1960 := by
 unfold vres
 by_cases ho : oks os = true
 ·rw [if_pos ho]
  have hl : os.length ≤ 40 := by
   simp only [oks, Bool.and_eq_true, decide_eq_true_eq] at ho
   exact ho.1
  have := szK_each (K := os.map fqo) fun f hf => by
   obtain ⟨o, ho, rfl⟩ := List.mem_map.1 hf
   exact fqo_n (h o ho)
  rw [List.length_map] at this
  omega
 ·rw [if_neg ho]; simp [szK]
theorem getD_at {M : List (List Fq)} {k : Nat} (h : k < M.length) : M.getD k [] = M[k] := by simp [h]
section
variable {ops : Array Oper} {o : Oper} {a : Act} {p : Bool} {W : World} {v x y : Value} {Ks : List Fq} {lo hi lo' B : Nat} {sg : Bool} {oo : Option Rat}
end
end Go.Proofs.YtjjainnafihkdaaGreat
