/- The program's functions on the struct of a sign and limbs: the check. -/
import Derived.Test.YtdffmeinofgdgaaBh
import Derived.Test.YtdffmeinofgdgaaImq
namespace Go.Proofs.Ytdffmeinofgdgaa
open Go.RowKit
open Go.Lib (hid)
set_option linter.unusedVariables false

/-- A valid pair of sign and limbs. -/
def bok (s : Bool) (A : List Int) : Bool := nok A && (!s || !A.isEmpty)
theorem bok_no {s : Bool} {A : List Int} (h : nok A = false) : bok s A = false := by simp [bok, h]
theorem bok_pos {A : List Int} (h : nok A = true) : bok false A = true := by simp [bok, h]
theorem bok_nil (s : Bool) : bok s [] = !s := by cases s <;> decide
theorem bok_ne {s : Bool} {A : List Int} (h : nok A = true) (hA : A ≠ []) : bok s A = true := by cases A <;> simp_all [bok]
theorem bok_iff {s : Bool} {A : List Int} : bok s A = true ↔ nok A = true ∧ (s = true → A ≠ []) := by cases s <;> cases A <;> simp [bok]

set_option maxRecDepth 100000 in
set_option maxHeartbeats 800000 in
theorem impl_BigIntOk (s : Bool) (a : Option Addr) (c : Nat) (A : List Int) (hA : A.length ≤ 1073741824) (w : World) (h1 : RowI w a A.length A) :
    Calls Try.prog 73 #[.agg #[.bool s, .slice a A.length c]] w (RetB (.bool (bok s A)) w) := by
  have K := hid (impl_NatOk a A.length c A hA _ (RowI_old h1 (below_new' (o := .cells #[.bool s, .slice a A.length c] 53))))
  have B := hid (below_new' (w := w) (o := .cells #[.bool s, .slice a A.length c] 53))
  clear h1
  obtain ⟨r, hr⟩ : ∃ r, r = bok s A := ⟨_, rfl⟩
  have HR := hid hr
  rw [← hr]
  clear hr
  cases e1 : nok A with
  | false =>
    have hE := hid (HR.out.trans (bok_no e1))
    rw [e1] at K
    clear e1
    go_enter Try.func73, Try.ntmps73
    go_wp2_with fail
    refine K.out.mono ?_
    rintro e w1 ⟨rfl, rfl⟩
    go_wp2
    go_ret
    exact ⟨ret_bool hE.out.symm, B.out⟩
  | true =>
    rw [e1] at K
    cases s with
    | false =>
      have hE := hid (HR.out.trans (bok_pos e1))
      clear e1
      go_enter Try.func73, Try.ntmps73
      go_wp2_with fail
      refine K.out.mono ?_
      rintro e w1 ⟨rfl, rfl⟩
      go_wp2
      go_ret
      exact ⟨ret_bool hE.out.symm, B.out⟩
    | true =>
      by_cases h0 : 0 < A.length
      · have hE := hid (HR.out.trans (bok_ne e1 (by rintro rfl; simp at h0)))
        have h0' : 0 < (A.length : Int) := by omega
        clear e1
        go_enter Try.func73, Try.ntmps73
        go_wp2_with fail
        refine K.out.mono ?_
        rintro e w1 ⟨rfl, rfl⟩
        go_wp2
        go_ret
        exact ⟨ret_bool hE.out.symm, B.out⟩
      · have hE := hid (HR.out.trans (show bok true A = false by
          have : A = [] := List.length_eq_zero_iff.1 (by omega)
          subst this; rfl))
        have h0' : ¬ 0 < (A.length : Int) := by omega
        clear e1
        go_enter Try.func73, Try.ntmps73
        go_wp2_with fail
        refine K.out.mono ?_
        rintro e w1 ⟨rfl, rfl⟩
        go_wp2
        go_ret
        exact ⟨ret_bool hE.out.symm, B.out⟩

theorem impl_BigIntOk_own (s : Bool) (v : Value) (A : List Int) (hA : A.length ≤ 1073741824) (b : Nat) (w : World) (h1 : Ints w b v A) :
    Calls Try.prog 73 #[.agg #[.bool s, v]] w (RetB (.bool (bok s A)) w) := by
  obtain ⟨a, c, rfl, -, r, -⟩ := Ints_form h1
  exact impl_BigIntOk s a c A hA w r
set_option maxRecDepth 100000 in
set_option maxHeartbeats 800000 in
theorem spec_BigIntOk (s : Bool) (a : Option Addr) (c : Nat) (A : List Int) (hA : A.length ≤ 1073741824) (w : World) (h1 : RowI w a A.length A) :
    Calls Try.prog 68 #[.agg #[.bool s, .slice a A.length c]] w (RetB (.bool (bok s A)) w) := by
  have K := hid (spec_NatOk a A.length c A hA _ (RowI_old h1 (below_new' (o := .cells #[.bool s, .slice a A.length c] 53))))
  have B := hid (below_new' (w := w) (o := .cells #[.bool s, .slice a A.length c] 53))
  clear h1
  obtain ⟨r, hr⟩ : ∃ r, r = bok s A := ⟨_, rfl⟩
  have HR := hid hr
  rw [← hr]
  clear hr
  cases e1 : nok A with
  | false =>
    have hE := hid (HR.out.trans (bok_no e1))
    rw [e1] at K
    clear e1
    go_enter Try.func68, Try.ntmps68
    go_wp2_with fail
    refine K.out.mono ?_
    rintro e w1 ⟨rfl, rfl⟩
    go_wp2
    go_ret
    exact ⟨ret_bool hE.out.symm, B.out⟩
  | true =>
    rw [e1] at K
    cases s with
    | false =>
      have hE := hid (HR.out.trans (bok_pos e1))
      clear e1
      go_enter Try.func68, Try.ntmps68
      go_wp2_with fail
      refine K.out.mono ?_
      rintro e w1 ⟨rfl, rfl⟩
      go_wp2
      go_ret
      exact ⟨ret_bool hE.out.symm, B.out⟩
    | true =>
      by_cases h0 : 0 < A.length
      · have hE := hid (HR.out.trans (bok_ne e1 (by rintro rfl; simp at h0)))
        have h0' : 0 < (A.length : Int) := by omega
        clear e1
        go_enter Try.func68, Try.ntmps68
        go_wp2_with fail
        refine K.out.mono ?_
        rintro e w1 ⟨rfl, rfl⟩
        go_wp2
        go_ret
        exact ⟨ret_bool hE.out.symm, B.out⟩
      · have hE := hid (HR.out.trans (show bok true A = false by
          have : A = [] := List.length_eq_zero_iff.1 (by omega)
          subst this; rfl))
        have h0' : ¬ 0 < (A.length : Int) := by omega
        clear e1
        go_enter Try.func68, Try.ntmps68
        go_wp2_with fail
        refine K.out.mono ?_
        rintro e w1 ⟨rfl, rfl⟩
        go_wp2
        go_ret
        exact ⟨ret_bool hE.out.symm, B.out⟩

theorem spec_BigIntOk_own (s : Bool) (v : Value) (A : List Int) (hA : A.length ≤ 1073741824) (b : Nat) (w : World) (h1 : Ints w b v A) :
    Calls Try.prog 68 #[.agg #[.bool s, v]] w (RetB (.bool (bok s A)) w) := by
  obtain ⟨a, c, rfl, -, r, -⟩ := Ints_form h1
  exact spec_BigIntOk s a c A hA w r
end Go.Proofs.Ytdffmeinofgdgaa
