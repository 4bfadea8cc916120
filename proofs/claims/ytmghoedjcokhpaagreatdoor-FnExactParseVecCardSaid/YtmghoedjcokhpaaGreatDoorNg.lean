/- ParseBigInt: a sign and a number's digits. -/
import Derived.Test.YtmghoedjcokhpaaGreatDoorPnd
import Derived.Test.YtmghoedjcokhpaaGreatDoorWsm
namespace Go.Proofs.YtmghoedjcokhpaaGreatDoor
open Go.RowKit
open Go.Lib (hid)
set_option linter.unusedVariables false

def isNeg (s : ByteArray) : Bool := decide (s.data.toList.head? = some 45)
def tailOf (s : ByteArray) : ByteArray := if isNeg s then s.extract 1 s.size else s
def pbB (s : ByteArray) : Bool := parseB (tailOf s) && !(isNeg s && (parseR (tailOf s)).isEmpty)
def pbS (s : ByteArray) : Bool := pbB s && isNeg s
def pbR (s : ByteArray) : List Int := if pbB s then parseR (tailOf s) else []
theorem isNeg_yes {s : ByteArray} (h0 : 0 < s.size) (h : s[0].toNat = 45) : isNeg s = true ∧ tailOf s = s.extract 1 s.size := by
  have e : s[0] = 45 := UInt8.toNat_inj.mp (by simpa using h)
  have h1 : isNeg s = true := by unfold isNeg; rw [head_at h0, e]; decide
  exact ⟨h1, by unfold tailOf; rw [h1]; rfl⟩
theorem isNeg_no {s : ByteArray} (h : ∀ h0 : 0 < s.size, s[0].toNat ≠ 45) : isNeg s = false ∧ tailOf s = s := by
  have h1 : isNeg s = false := by
    unfold isNeg
    by_cases h0 : 0 < s.size
    · rw [head_at h0]
      refine decide_eq_false fun e => h h0 ?_
      have : s[0] = 45 := by simpa using e
      rw [this]; rfl
    · have hl : s.data.toList = [] := by
        have := size_len s
        exact List.length_eq_zero_iff.1 (by omega)
      rw [hl]; rfl
  exact ⟨h1, by unfold tailOf; rw [h1]; rfl⟩
theorem rest_ninth (s : ByteArray) (e : Nat) : (rest s e).length * 9 ≤ e + 8 := by
  induction e using Nat.strongRecOn with
  | ind e ih =>
    by_cases h0 : e = 0
    · subst h0; rw [rest_zero]; simp
    · rw [rest_pos s h0, List.length_cons]
      by_cases h9 : e ≤ 9
      · rw [show e - 9 = 0 by omega, rest_zero]; simp; omega
      · have := ih (e - 9) (by omega)
        omega
theorem parse_parts {s : ByteArray} (h : parseB s = true) : digs s = true ∧ s.size ≤ 540 := by
  unfold parseB at h
  simp only [Bool.and_eq_true, decide_eq_true_eq] at h
  exact h.1
theorem nok_parseR {s : ByteArray} : nok (parseR s) = true := by
  cases h : parseB s with
  | false => rw [parse_no h]; decide
  | true =>
    obtain ⟨hd, hs⟩ := parse_parts h
    rw [parseR_yes h]
    have hl := rest_lim hd s.size (Nat.le_refl _)
    have h1 := rest_ninth s s.size
    have h2 := val_lt hl
    have h3 := pw_le (m := (rest s s.size).length) (n := 60) (by omega)
    exact nok_iff.2 ⟨rep_len (by omega), Can_rep _⟩
theorem cut_eq (s : ByteArray) : (⟨(Lib.trimPrefix s.data.toList (ByteArray.mk #[45]).data.toList).toArray⟩ : ByteArray) = tailOf s ∧ Lib.hasPrefix s.data.toList (ByteArray.mk #[45]).data.toList = isNeg s := by
  have hp : Lib.hasPrefix s.data.toList (ByteArray.mk #[45]).data.toList = isNeg s := by
    unfold Lib.hasPrefix isNeg
    show [(45 : UInt8)].isPrefixOf s.data.toList = _
    cases s.data.toList with
    | nil => rfl
    | cons c r =>
      simp only [List.isPrefixOf, Bool.and_true, List.head?_cons, Option.some.injEq]
      by_cases hc : c = 45
      · subst hc; rfl
      · rw [decide_eq_false hc]
        simpa using fun e : (45 : UInt8) = c => hc e.symm
  refine ⟨?_, hp⟩
  unfold Lib.trimPrefix tailOf
  rw [hp]
  cases isNeg s with
  | false => rfl
  | true =>
    apply ByteArray.ext
    apply Array.ext'
    show s.data.toList.drop 1 = _
    rw [if_pos rfl, part_list]
    have hl := size_len s
    rw [List.take_of_length_le (by rw [List.length_drop]; omega)]
def ParseG (g : Bool) (L : List Int) (b : Bool) (w : World) (e : Ending) (w' : World) : Prop := ∃ v, e = .returned (.tuple #[.agg #[.bool g, v], .bool b]) ∧ Ints w' w.heap.size v L ∧ Below w.heap.size w w'
theorem ParseG_mk {g g' b b' : Bool} {L L' : List Int} {w w' : World} {v : Value} {B : Nat} (hg : g' = g) (hL : L' = L) (hb : b' = b) (hB : w.heap.size ≤ B) (hi : Ints w' B v L') (hw : Below w.heap.size w w') :
    ParseG g L b w (.returned (.tuple #[.agg #[.bool g', v], .bool b'])) w' := by subst hg; subst hL; subst hb; exact ⟨v, rfl, Ints_base hi hB, hw⟩
theorem pb_no {s : ByteArray} (h : pbB s = false) : pbS s = false ∧ pbR s = [] := by
  unfold pbS pbR; rw [h]; exact ⟨rfl, rfl⟩
theorem pb_yes {s : ByteArray} (h : pbB s = true) : pbS s = isNeg s ∧ pbR s = parseR (tailOf s) := by
  unfold pbS pbR; rw [h]; exact ⟨rfl, rfl⟩
theorem pbB_one {s : ByteArray} (h : parseB (tailOf s) = false) : pbB s = false := by unfold pbB; rw [h]; rfl
theorem pbB_two {s : ByteArray} (h : parseB (tailOf s) = true) : pbB s = !(isNeg s && (parseR (tailOf s)).isEmpty) := by unfold pbB; rw [h]; rfl
/-- The check of the parsed struct. -/
theorem pb_bok {s : ByteArray} : bok (isNeg s) (parseR (tailOf s)) = !(isNeg s && (parseR (tailOf s)).isEmpty) := by
  unfold bok
  rw [nok_parseR]
  cases isNeg s <;> simp
theorem tailOf_size {s : ByteArray} {n : Nat} (h : s.size ≤ n) : (tailOf s).size ≤ n := by
  unfold tailOf
  split
  · have h1 : (s.extract 1 s.size).data.toList.length = (s.extract 1 s.size).size := size_len _
    rw [part_list] at h1
    have hl := size_len s
    simp only [List.length_take, List.length_drop] at h1
    omega
  · exact h
end Go.Proofs.YtmghoedjcokhpaaGreatDoor
