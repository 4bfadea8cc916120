/- Merged: Vq Vw. -/
import Derived.Test.YtnkcihcmkojdmaaVa
import Derived.Deep.RegionHeld3
import Derived.Deep.DeepCutAuto
import Derived.Test.YtnkcihcmkojdmaaVf
/- Vectors that are equal (the program and the reference). -/
namespace Go.Proofs.Ytnkcihcmkojdmaa
open Go.RowKit
open Go.Lib (hid)
set_option linter.unusedVariables false

def eqF (f g : Fq) : Bool := (f.s == g.s) && decide (f.A = g.A) && decide (f.D = g.D)
def eqV : List Fq → List Fq → Bool
  | [], [] => true
  | f :: K, g :: L => eqF f g && eqV K L
  | _, _ => false
theorem eqV_len : ∀ {K L : List Fq}, K.length ≠ L.length → eqV K L = false
  | [], [], h => absurd rfl h
  | [], _ :: _, _ => rfl
  | _ :: _, [], _ => rfl
  | f :: K, g :: L, h => by
    have := eqV_len (K := K) (L := L) (fun e => h (by simp [e]))
    simp [eqV, this]
theorem eqV_no : ∀ {K L : List Fq} {k : Nat} (h : k < K.length) (h' : k < L.length), eqF K[k] L[k] = false → eqV K L = false
  | f :: K, g :: L, 0, _, _, e => by simp only [List.getElem_cons_zero] at e; simp [eqV, e]
  | f :: K, g :: L, k + 1, h, h', e => by
    have := eqV_no (K := K) (L := L) (k := k) (by simpa using h) (by simpa using h') (by simpa using e)
    simp [eqV, this]
theorem eqV_yes : ∀ {K L : List Fq}, K.length = L.length → (∀ k (h : k < K.length) (h' : k < L.length), eqF K[k] L[k] = true) → eqV K L = true
  | [], [], _, _ => rfl
  | [], _ :: _, h, _ => by simp at h
  | _ :: _, [], h, _ => by simp at h
  | f :: K, g :: L, h, ha => by
    have h0 := ha 0 (by simp) (by simp)
    have h1 := eqV_yes (K := K) (L := L) (by simpa using h) (fun k h2 h3 => ha (k + 1) (Nat.succ_lt_succ h2) (Nat.succ_lt_succ h3))
    simp only [List.getElem_cons_zero] at h0
    simp [eqV, h0, h1]
end Go.Proofs.Ytnkcihcmkojdmaa

/- The index of the least element (the program and the reference). -/
namespace Go.Proofs.Ytnkcihcmkojdmaa
open Go.RowKit
open Go.Lib (hid)
set_option linter.unusedVariables false

def oat (K : List Fq) (k : Nat) : Option Rat := (vals K).getD k none
theorem oat_at {K : List Fq} {k : Nat} (h : k < K.length) : oat K k = K[k].o := by
  simp [oat, vals, h]
/-- The index of the least among the first k. -/
def am (K : List Fq) : Nat → Nat
  | 0 => 0
  | k + 1 => if cmpO (oat K k) (oat K (am K k)) < 0 then k else am K k
theorem am_lt {K : List Fq} (h0 : 0 < K.length) : ∀ k, k ≤ K.length → am K k < K.length
  | 0, _ => h0
  | k + 1, hk => by
    have := am_lt h0 k (by omega)
    simp only [am]
    split <;> omega
/-- The index of the least element. -/
def argV (K : List Fq) : Int := if K.length = 0 ∨ oks (vals K) = false then -1 else (am K K.length : Nat)
theorem oks_some {K : List Fq} (h : oks (vals K) = true) {k : Nat} (hk : k < K.length) : ∃ x, K[k].o = some x := by
  simp only [oks, vals, Bool.and_eq_true, List.all_eq_true] at h
  exact Option.isSome_iff_exists.1 (h.2 _ (List.mem_map_of_mem (List.getElem_mem hk)))
end Go.Proofs.Ytnkcihcmkojdmaa
