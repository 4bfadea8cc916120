/- Products of matrices and vectors: the mathematics. -/
import Derived.Test.YtamhmpjadnfpdaaGreatXr
import Derived.Test.YtamhmpjadnfpdaaGreatVx
import Derived.Test.YtamhmpjadnfpdaaGreatVs
namespace Go.Proofs.YtamhmpjadnfpdaaGreat
open Go.RowKit
open Go.Lib (hid)
set_option linter.unusedVariables false

theorem vres_sz' {os : List (Option Rat)} (h : ∀ o ∈ os, fitO o) : szK (vres os) ≤ 1960 := by
  unfold vres
  by_cases ho : oks os = true
  · rw [if_pos ho]
    have hl : os.length ≤ 40 := by
      simp only [oks, Bool.and_eq_true, decide_eq_true_eq] at ho
      exact ho.1
    have := szK_each (K := os.map fqo) fun f hf => by
      obtain ⟨o, ho, rfl⟩ := List.mem_map.1 hf
      exact fqo_n (h o ho)
    rw [List.length_map] at this
    omega
  · rw [if_neg ho]; simp [szK]
theorem oks_nil : oks [] = true := rfl
theorem getD_at {M : List (List Fq)} {k : Nat} (h : k < M.length) : M.getD k [] = M[k] := by simp [h]
section
variable {ops : Array Oper} {o : Oper} {a : Act} {p : Bool} {W : World} {v x y : Value} {Ks : List Fq} {lo hi lo' B : Nat} {sg : Bool} {oo : Option Rat}
end
end Go.Proofs.YtamhmpjadnfpdaaGreat
