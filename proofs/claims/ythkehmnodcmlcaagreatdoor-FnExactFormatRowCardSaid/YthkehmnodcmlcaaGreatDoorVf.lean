/- Vectors: whether a list is one (the program and the reference). -/
import Derived.Test.YthkehmnodcmlcaaGreatDoorVbe
import Derived.Deep.RegionHeld3
import Derived.Deep.DeepCutAuto
namespace Go.Proofs.YthkehmnodcmlcaaGreatDoor
open Go.RowKit
open Go.Lib (hid)
set_option linter.unusedVariables false

def vals (K : List Fq) : List (Option Rat) := K.map Fq.o
theorem vals_len (K : List Fq) : (vals K).length = K.length := by simp [vals]
def oks (os : List (Option Rat)) : Bool := decide (os.length ≤ 40) && os.all Option.isSome
/-- A list of fractions, if it is a vector. -/
def vres (os : List (Option Rat)) : List Fq := if oks os = true then os.map fqo else []
theorem oks_no {K : List Fq} {k : Nat} (h : k < K.length) (hn : K[k].o = none) : oks (vals K) = false := by
  cases e : oks (vals K)
  · rfl
  · simp only [oks, vals, Bool.and_eq_true, List.all_eq_true] at e
    have := e.2 _ (List.mem_map_of_mem (List.getElem_mem h))
    rw [hn] at this
    exact absurd this (by decide)
theorem oks_long {K : List Fq} (h : 40 < K.length) : oks (vals K) = false := by
  have : ¬ (vals K).length ≤ 40 := by rw [vals_len]; omega
  simp [oks, this]
theorem oks_yes {K : List Fq} (h : K.length ≤ 40) (ha : ∀ k (h : k < K.length), K[k].o.isSome = true) : oks (vals K) = true := by
  simp only [oks, Bool.and_eq_true, List.all_eq_true, decide_eq_true_eq]
  refine ⟨by rw [vals_len]; exact h, fun x hx => ?_⟩
  obtain ⟨f, hf, rfl⟩ := List.mem_map.1 hx
  obtain ⟨k, hk, rfl⟩ := List.getElem_of_mem hf
  exact ha k hk
theorem bool_ret {a b : Bool} (h : a = b) : Ending.returned (.bool a) = .returned (.bool b) := by rw [h]
end Go.Proofs.YthkehmnodcmlcaaGreatDoor
