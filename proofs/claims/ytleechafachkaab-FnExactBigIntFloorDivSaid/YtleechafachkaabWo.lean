/- The program's carry of 1 into a canonical number; BigIntOf. -/
import Derived.Test.YtleechafachkaabWm
namespace Go.Proofs.Ytleechafachkaab
open Go.RowKit
open Go.Lib (hid)
set_option linter.unusedVariables false
variable {Q : Rest}

theorem Can_of_ge {M : List Int} (h : Lim M) (hv : M ≠ [] → pw (M.length - 1) ≤ val M) : Can M := by
  refine ⟨h, fun hne h0 => ?_⟩
  have h1 := hv hne
  have hl : 0 < M.length := List.length_pos_iff.2 hne
  have h2 : val (M.take (M.length - 1)) = val (M.take (M.length - 1 + 1)) := trim_step (by omega) (by rw [List.getLast_eq_getElem] at h0; exact h0)
  rw [show M.length - 1 + 1 = M.length by omega, List.take_length] at h2
  have h3 := val_lt (Lim_take h (M.length - 1))
  rw [List.length_take, Nat.min_eq_left (by omega)] at h3
  omega
theorem rep_of {M : List Int} {V : Int} (h : Lim M) (hv : val M = V) (hg : M ≠ [] → pw (M.length - 1) ≤ V) : M = rep V.toNat := by
  rw [← hv] at hg ⊢
  exact (rep_val (Can_of_ge h hg)).symm
theorem carry_one (S : Nat → Prop) (N : Nat) (v : Value) (m : Int) (m0 : 0 ≤ m) (hl : (rep m.toNat).length ≤ 1073741000) (w : World) (h : IsNat Q w S N v (rep m.toNat)) (hS : ∀ k, w.heap.size ≤ k → S k) :
    Calls Try.prog 25 #[.pointer (some ⟨N, 0, none⟩), .int .i64 0, .int .i64 1] w (MethP Q S N (rep (m + 1).toNat) w) := by
  have hr := val_rep' m0
  refine (carry_any S N v (rep m.toNat) 0 1 (by decide) (by simp) hl (Lim_rep _) (by decide) (by decide) (by simp [pw]; omega) w h hS).mono fun e w' hc => ?_
  obtain ⟨he, ⟨u, M, hI, hL, hM, hn, hp⟩, ho⟩ := hc
  rw [hr] at hM hp
  have hM' : val M = m + 1 := by simpa [pw] using hM
  have hp' : M.length = (rep m.toNat).length + 1 → pw ((rep m.toNat).length) ≤ m + 1 := by simpa [pw] using hp
  have e1 : M = rep (m + 1).toNat := by
    refine rep_of hL hM' fun hne => ?_
    have hlm : 0 < M.length := List.length_pos_iff.2 hne
    by_cases hx : M.length = (rep m.toNat).length + 1
    · rw [hx]; exact hp' hx
    · have hge : (rep m.toNat) ≠ [] := by intro e; rw [e] at hn hx; simp at hn hx; omega
      have h1 := Can_ge (Can_rep m.toNat) hge
      rw [hr] at h1
      have h2 := pw_le (m := M.length - 1) (n := (rep m.toNat).length - 1) (by omega)
      omega
  exact ⟨he, ⟨u, by rw [← e1]; exact hI⟩, ho⟩
theorem i64_small {n : Int} (h0 : -9223372036854775808 ≤ n) (h1 : n ≤ 9223372036854775807) : (n.natAbs : Int) < pw 60 := by
  have := pw_le (m := 3) (n := 60) (by omega)
  have e3 : pw 3 = 1000000000000000000000000000 := by decide
  omega
theorem gz_nonneg {n : Int} (h0 : 0 ≤ n) (h1 : (n.natAbs : Int) < pw 60) : gzs n = false ∧ gzl n = rep n.toNat := by
  constructor
  · unfold gzs; simp; omega
  · unfold gzl; rw [capped_of h1]; congr 1; omega
theorem gz_neg {n m : Int} (hm : n = -m) (h0 : 0 ≤ m) : gzs (sval true m) = gzs n ∧ gzl (sval true m) = gzl n := by
  subst hm; exact ⟨rfl, rfl⟩
end Go.Proofs.Ytleechafachkaab
