/- Sums and differences of vectors (the reference). -/
import Derived.Test.YteanocjkdehhgaaVy
import Derived.Deep.RegionHeld3
import Derived.Deep.DeepCutAuto
namespace Go.Proofs.Yteanocjkdehhgaa
open Go.RowKit
open Go.Lib (hid)
set_option linter.unusedVariables false

def zw (f : Rat → Rat → Option Rat) (K L : List Fq) : List (Option Rat) := List.zipWith (fun a b => bq f a.o b.o) K L
/-- The elements of two vectors combined, if there is such a vector. -/
def vzip (f : Rat → Rat → Option Rat) (K L : List Fq) : List Fq := if K.length = L.length then vres (zw f K L) else []
theorem zw_len {f : Rat → Rat → Option Rat} {K L : List Fq} (h : K.length = L.length) : (zw f K L).length = K.length := by simp [zw, h]
theorem zw_at {f : Rat → Rat → Option Rat} {K L : List Fq} {k : Nat} (h : k < K.length) (h' : k < L.length) (hz : k < (zw f K L).length) : (zw f K L)[k] = bq f K[k].o L[k].o := by simp [zw]
theorem zw_fit {f : Rat → Rat → Option Rat} (hf : ∀ x y, fitO (f x y)) (K L : List Fq) : ∀ o ∈ zw f K L, fitO o := by
  intro o ho
  obtain ⟨k, hk, rfl⟩ := List.getElem_of_mem ho
  simp only [zw, List.getElem_zipWith]
  exact fitO_bq hf _ _
theorem vals_map : ∀ {os : List (Option Rat)}, (∀ o ∈ os, fitO o) → vals (os.map fqo) = os
  | [], _ => rfl
  | o :: os, h => by
    have h1 := fqo_o (h o (List.mem_cons_self ..))
    have h2 := vals_map (os := os) (fun x hx => h x (List.mem_cons_of_mem _ hx))
    unfold vals at h2 ⊢
    rw [List.map_cons, List.map_cons, h1, h2]
theorem ne_facts {a b : Nat} (h : a ≠ b) : ((a : Int) == (b : Int)) = false ∧ ((a : Int) != (b : Int)) = true := by
  have : ¬ (a : Int) = (b : Int) := by omega
  simp [this]
theorem VK.blk {p : Bool} {w : World} {g n c : Nat} {K : List Fq} {lo hi : Nat} (h : VK p w (.slice (some ⟨g, 0, none⟩) n c) K lo hi) : lo ≤ g ∧ g < w.heap.size := by
  obtain ⟨E, hE, -⟩ := h
  exact hE.lt g rfl
theorem kept2 {p : Bool} {w w2 wp : World} {ob : Go.Obj} {v x : Value} {K : List Fq} {hi g i : Nat} (hv : VK p (w2.alloc ob) v K w.heap.size hi) (hcp : ∀ k, k < (w2.alloc ob).heap.size → some k ≠ v.ownBlock → wp.heap[k]? = (w2.alloc ob).heap[k]?) (hg : g < w.heap.size) (hw : w.heap.size ≤ w2.heap.size)
    (q : w2.cell? ⟨g, i, none⟩ = some x) : wp.cell? ⟨g, i, none⟩ = some x := by
  have h1 : wp.cell? ⟨g, i, none⟩ = (w2.alloc ob).cell? ⟨g, i, none⟩ := World.cell?_of_block (w := w2.alloc ob) (hcp g (by simp; omega) (fun e => by
    obtain ⟨E, hE, -⟩ := hv
    have := (hE.lt g e.symm).1
    omega))
  exact h1.trans (((below_new' (w := w2) (o := ob)).cell (p := ⟨g, i, none⟩) (by show g < w2.heap.size; omega)).trans q)
set_option maxRecDepth 100000 in
theorem take_map {os : List (Option Rat)} {k : Nat} (h : k < os.length) {o : Option Rat} (ho : os[k] = o) : (os.take k).map fqo ++ [fqo o] = (os.take (k + 1)).map fqo := by
  rw [List.take_succ_eq_append_getElem h, List.map_append, ho, List.map_cons, List.map_nil]
end Go.Proofs.Yteanocjkdehhgaa
