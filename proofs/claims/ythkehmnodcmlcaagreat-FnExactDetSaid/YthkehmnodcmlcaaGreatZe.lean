import Derived.Test.YthkehmnodcmlcaaGreatYh
import Derived.Test.YthkehmnodcmlcaaGreatZdp
set_option maxRecDepth 512
set_option maxHeartbeats 200000
set_option linter.unusedVariables false
set_option linter.unusedSimpArgs false
namespace Go.Proofs.YthkehmnodcmlcaaGreat
open Go.RowKit
open Go.Lib (hid)
def dtO (S : List (List Rat)) (d i r : Nat) : List (Option Rat) :=
 if d < r ∧ r < i then spR ((S.getD d []).map Option.some) (capF (el (S.getD r []) d / el (S.getD d []) d)) (S.getD r []) else (S.getD r []).map Option.some
theorem capF_zero : capF 0 = some 0 := capF_yes (by have := fitO_i64 (n := 0) (by decide) (by decide); exact this _ rfl)
theorem spR_zero {P X : List Rat} (hX : AF X) (hl : P.length = X.length) : spR (P.map Option.some) (some 0) X = X.map Option.some := by
 have hlm : (P.map Option.some).length = X.length := by rw [List.length_map, hl]
 apply List.ext_getElem
 ·rw [spR_len hlm, List.length_map]
 ·intro k h1 h2
  have hk : k < X.length := by rw [spR_len hlm] at h1; exact h1
  rw [spR_at hk hlm, List.getElem_map, List.getElem_map, bq_some]
  have e1 : mulF 0 (P[k]'(by omega)) = some 0 := by unfold mulF; rw [Rat.zero_mul]; exact capF_zero
  rw [e1, bq_some]
  unfold subF
  rw [show X[k] - 0 = X[k] by grind]
  exact capF_yes (hX _ (List.getElem_mem hk))
theorem dtO_start (S : List (List Rat)) (d r : Nat) : dtO S d (d + 1) r = (S.getD r []).map Option.some := by
 unfold dtO; rw [if_neg (by omega)]
theorem dtO_len {W : Nat} {S : List (List Rat)} (h : Rows W S) {d i r : Nat} (hd : d < S.length) (hr : r < S.length) : (dtO S d i r).length = W := by
 have e1 := (h.at hd).1
 have e2 := (h.at hr).1
 unfold dtO
 rw [getD_row hd, getD_row hr]
 split
 ·rw [spR_len (by rw [List.length_map, e1, e2]), e2]
 ·rw [List.length_map, e2]
theorem dtO_fit {W : Nat} {S : List (List Rat)} (h : Rows W S) {d i r : Nat} (hr : r < S.length) : ∀ o ∈ dtO S d i r, fitO o := by
 intro o ho
 unfold dtO at ho
 split at ho
 ·exact spR_fit _ _ _ o ho
 ·rw [getD_row hr] at ho; exact af_some (h.at hr).2 o ho
theorem dtO_same {S : List (List Rat)} {d i r : Nat} (hne : r ≠ i) : dtO S d (i + 1) r = dtO S d i r := by
 unfold dtO
 by_cases h : d < r ∧ r < i
 ·rw [if_pos h, if_pos (by omega)]
 ·rw [if_neg h, if_neg (by omega)]
theorem dtO_before {S : List (List Rat)} {d i : Nat} : dtO S d i i = (S.getD i []).map Option.some := by
 unfold dtO; rw [if_neg (by omega)]
theorem dtO_behind {S : List (List Rat)} {d i : Nat} (h : d < i) : dtO S d (i + 1) i = spR ((S.getD d []).map Option.some) (capF (el (S.getD i []) d / el (S.getD d []) d)) (S.getD i []) := by
 unfold dtO; rw [if_pos (by omega)]
theorem dtO_yes {W : Nat} {S : List (List Rat)} (h : Rows W S) {d : Nat} (hd : d < S.length) (hc : d < W) (h0 : el S[d] d ≠ 0) (ho : dOk S d) {r : Nat} (hr : r < S.length) : dtO S d S.length r = ((dfin S d).getD r []).map Option.some := by
 have e1 := (h.at hd).1
 have e2 := (h.at hr).1
 have hf : (dfin S d).getD r [] = (dfin S d)[r]'(by rw [dfin_len]; exact hr) := by simp [dfin_len, hr]
 rw [hf, dfin_at hd hr]
 unfold dtO
 rw [getD_row hd, getD_row hr]
 by_cases hle : r ≤ d
 ·rw [if_neg (by omega), if_pos hle]
 ·rw [if_pos (by omega), if_neg hle]
  by_cases hz : el S[r] d = 0
  ·rw [clr_zero hz, hz, show (0 : Rat) / el S[d] d = 0 by grind, capF_zero]
   exact spR_zero (h.at hr).2 (by omega)
  ·refine (spR_val (c := d) (h.at hr).2 (h.at hd).2 (by omega) hz h0 (by omega)).1 ?_
   have := ho S[r] (List.mem_iff_getElem.2 ⟨r - (d + 1), by rw [List.length_drop]; omega, by rw [List.getElem_drop]; congr 1; omega⟩)
   rw [getD_row hd] at this
   exact this
theorem dtO_no {W : Nat} {S : List (List Rat)} (h : Rows W S) {d : Nat} (hd : d < S.length) (hc : d < W) (h0 : el S[d] d ≠ 0) (ho : ¬ dOk S d) : ∃ r, r < S.length ∧ oks (dtO S d S.length r) = false := by
 have : ∃ r, ∃ hr : r < S.length, d < r ∧ ¬ clrOk S[d] d S[r] := by
  apply Classical.byContradiction
  intro hn
  apply ho
  intro X hX
  obtain ⟨k, hk, rfl⟩ := List.getElem_of_mem hX
  rw [List.length_drop] at hk
  rw [List.getElem_drop, getD_row hd]
  exact Classical.byContradiction fun hx => hn ⟨d + 1 + k, by omega, by omega, hx⟩
 obtain ⟨r, hr, hdr, hn⟩ := this
 have e1 := (h.at hd).1
 have e2 := (h.at hr).1
 have hz : el S[r] d ≠ 0 := fun e => hn (.inl e)
 refine ⟨r, hr, ?_⟩
 unfold dtO
 rw [if_pos ⟨hdr, hr⟩, getD_row hd, getD_row hr]
 exact (spR_val (c := d) (h.at hr).2 (h.at hd).2 (by omega) hz h0 (by omega)).2 hn
theorem prodK_flip (S : List (List Rat)) (sg : Bool) (k m : Nat) : negO (prodK S (sg != decide (m % 2 = 1)) k) = prodK S (sg != decide ((m + 1) % 2 = 1)) k := by
 rw [prodK_neg]
 congr 1
 by_cases h : m % 2 = 1
 ·have h2 : ¬ (m + 1) % 2 = 1 := by omega
  simp only [h, h2, decide_true, decide_false]; cases sg <;> rfl
 ·have h2 : (m + 1) % 2 = 1 := by omega
  simp only [h, h2, decide_true, decide_false]; cases sg <;> rfl
theorem prodK_step {S : List (List Rat)} {k q : Nat} (hkq : k ≤ q) (hq : q < S.length) (s : Bool) : bq mulF (prodK S s k) (some (el S[q] k)) = prodK (dfin (mvf S k q) k) s (k + 1) := by
 have hl := mvf_len hkq hq
 have hk : k < (mvf S k q).length := by omega
 rw [prodK]
 congr 1
 ·refine prodK_same s k fun j hj => ?_
  have hj' : j < (mvf S k q).length := by omega
  have hjS : j < S.length := by omega
  have e : (dfin (mvf S k q) k).getD j [] = (dfin (mvf S k q) k)[j]'(by rw [dfin_len]; exact hj') := by simp [dfin_len, hj']
  rw [e, dfin_at hk hj', if_pos (by omega), mvf_get hkq hq hjS, if_pos hj, getD_row hjS]
 ·have e : (dfin (mvf S k q) k).getD k [] = (dfin (mvf S k q) k)[k]'(by rw [dfin_len]; exact hk) := by simp [dfin_len, hk]
  rw [e, dfin_at hk hk, if_pos (Nat.le_refl _), mvf_get hkq hq (by omega), if_neg (by omega), if_pos rfl]
end Go.Proofs.YthkehmnodcmlcaaGreat
