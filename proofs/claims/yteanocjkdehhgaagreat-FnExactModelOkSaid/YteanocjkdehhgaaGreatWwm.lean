import Derived.Test.YteanocjkdehhgaaGreatBh
import Derived.Test.YteanocjkdehhgaaGreatImm
import Derived.BigRegion
set_option maxRecDepth 100000
set_option maxHeartbeats 800000
set_option linter.unusedVariables false
set_option linter.unusedSimpArgs false
namespace Go.Proofs.YteanocjkdehhgaaGreat
open Go.RowKit
open Go.Lib (hid)
def bok (s : Bool) (A : List Int) : Bool := nok A && (!s || !A.isEmpty)
theorem bok_no {s : Bool} {A : List Int} (h : nok A = false) : bok s A = false := by simp [bok, h]
theorem bok_pos {A : List Int} (h : nok A = true) : bok false A = true := by simp [bok, h]
theorem bok_ne {s : Bool} {A : List Int} (h : nok A = true) (hA : A ≠ []) : bok s A = true := by cases A <;> simp_all [bok]
theorem bok_iff {s : Bool} {A : List Int} : bok s A = true ↔ nok A = true ∧ (s = true → A ≠ []) := by cases s <;> cases A <;> simp [bok]
theorem impl_BigIntOk (s : Bool) (a : Option Addr) (c : Nat) (A : List Int) (hA : A.length ≤ 1073741824) (w : World) (h1 : RowI w a A.length A) :
  Calls Tryz.prog 128 #[.agg #[.bool s, .slice a A.length c]] w (RetB (.bool (bok s A)) w) := by
 have K := hid (impl_NatOk a A.length c A hA _ (RowI_old h1 (below_new' (o := .cells #[.bool s, .slice a A.length c] 51))))
 have B := hid (below_new' (w := w) (o := .cells #[.bool s, .slice a A.length c] 51))
 clear h1
 obtain ⟨r, hr⟩ : ∃ r, r = bok s A := ⟨_, rfl⟩
 have HR := hid hr
 rw [← hr]
 clear hr
 cases e1 : nok A with
 |false =>
  have hE := hid (HR.out.trans (bok_no e1))
  rw [e1] at K
  clear e1
  go_enter Tryz.func128, Tryz.ntmps128
  go_wp2_with fail
  refine K.out.mono ?_
  rintro e w1 ⟨rfl, rfl⟩
  go_wp2
  go_ret
  exact ⟨ret_bool hE.out.symm, B.out⟩
 |true =>
  rw [e1] at K
  cases s with
  |false =>
   have hE := hid (HR.out.trans (bok_pos e1))
   clear e1
   go_enter Tryz.func128, Tryz.ntmps128
   go_wp2_with fail
   refine K.out.mono ?_
   rintro e w1 ⟨rfl, rfl⟩
   go_wp2
   go_ret
   exact ⟨ret_bool hE.out.symm, B.out⟩
  |true =>
   by_cases h0 : 0 < A.length
   ·have hE := hid (HR.out.trans (bok_ne e1 (by rintro rfl; simp at h0)))
    have h0' : 0 < (A.length : Int) := by omega
    clear e1
    go_enter Tryz.func128, Tryz.ntmps128
    go_wp2_with fail
    refine K.out.mono ?_
    rintro e w1 ⟨rfl, rfl⟩
    go_wp2
    go_ret
    exact ⟨ret_bool hE.out.symm, B.out⟩
   ·have hE := hid (HR.out.trans (show bok true A = false by
     have : A = [] := List.length_eq_zero_iff.1 (by omega)
     subst this; rfl))
    have h0' : ¬ 0 < (A.length : Int) := by omega
    clear e1
    go_enter Tryz.func128, Tryz.ntmps128
    go_wp2_with fail
    refine K.out.mono ?_
    rintro e w1 ⟨rfl, rfl⟩
    go_wp2
    go_ret
    exact ⟨ret_bool hE.out.symm, B.out⟩
theorem impl_BigIntOk_own (s : Bool) (v : Value) (A : List Int) (hA : A.length ≤ 1073741824) (b : Nat) (w : World) (h1 : Ints w b v A) :
  Calls Tryz.prog 128 #[.agg #[.bool s, v]] w (RetB (.bool (bok s A)) w) := by
 obtain ⟨a, c, rfl, -, r, -⟩ := Ints_form h1
 exact impl_BigIntOk s a c A hA w r
theorem spec_BigIntOk (s : Bool) (a : Option Addr) (c : Nat) (A : List Int) (hA : A.length ≤ 1073741824) (w : World) (h1 : RowI w a A.length A) :
  Calls Tryz.prog 148 #[.agg #[.bool s, .slice a A.length c]] w (RetB (.bool (bok s A)) w) := by
 have K := hid (spec_NatOk a A.length c A hA _ (RowI_old h1 (below_new' (o := .cells #[.bool s, .slice a A.length c] 51))))
 have B := hid (below_new' (w := w) (o := .cells #[.bool s, .slice a A.length c] 51))
 clear h1
 obtain ⟨r, hr⟩ : ∃ r, r = bok s A := ⟨_, rfl⟩
 have HR := hid hr
 rw [← hr]
 clear hr
 cases e1 : nok A with
 |false =>
  have hE := hid (HR.out.trans (bok_no e1))
  rw [e1] at K
  clear e1
  go_enter Tryz.func148, Tryz.ntmps148
  go_wp2_with fail
  refine K.out.mono ?_
  rintro e w1 ⟨rfl, rfl⟩
  go_wp2
  go_ret
  exact ⟨ret_bool hE.out.symm, B.out⟩
 |true =>
  rw [e1] at K
  cases s with
  |false =>
   have hE := hid (HR.out.trans (bok_pos e1))
   clear e1
   go_enter Tryz.func148, Tryz.ntmps148
   go_wp2_with fail
   refine K.out.mono ?_
   rintro e w1 ⟨rfl, rfl⟩
   go_wp2
   go_ret
   exact ⟨ret_bool hE.out.symm, B.out⟩
  |true =>
   by_cases h0 : 0 < A.length
   ·have hE := hid (HR.out.trans (bok_ne e1 (by rintro rfl; simp at h0)))
    have h0' : 0 < (A.length : Int) := by omega
    clear e1
    go_enter Tryz.func148, Tryz.ntmps148
    go_wp2_with fail
    refine K.out.mono ?_
    rintro e w1 ⟨rfl, rfl⟩
    go_wp2
    go_ret
    exact ⟨ret_bool hE.out.symm, B.out⟩
   ·have hE := hid (HR.out.trans (show bok true A = false by
     have : A = [] := List.length_eq_zero_iff.1 (by omega)
     subst this; rfl))
    have h0' : ¬ 0 < (A.length : Int) := by omega
    clear e1
    go_enter Tryz.func148, Tryz.ntmps148
    go_wp2_with fail
    refine K.out.mono ?_
    rintro e w1 ⟨rfl, rfl⟩
    go_wp2
    go_ret
    exact ⟨ret_bool hE.out.symm, B.out⟩
theorem spec_BigIntOk_own (s : Bool) (v : Value) (A : List Int) (hA : A.length ≤ 1073741824) (b : Nat) (w : World) (h1 : Ints w b v A) :
  Calls Tryz.prog 148 #[.agg #[.bool s, v]] w (RetB (.bool (bok s A)) w) := by
 obtain ⟨a, c, rfl, -, r, -⟩ := Ints_form h1
 exact spec_BigIntOk s a c A hA w r
end Go.Proofs.YteanocjkdehhgaaGreat
namespace Go.Proofs.YteanocjkdehhgaaGreat
open Go.RowKit
open Go.Lib (hid)
def wholeQ (s : Bool) : Rest := ⟨[.bool s], 187, by decide⟩
theorem Below_drew1 {B : Nat} {a w : World} (h : Below B a w) : Below B a w.drew := ⟨h.os, h.tape, h.output, h.size, h.block⟩
theorem IsNat.neg {s : Bool} {w : World} {S : Nat → Prop} {N : Nat} {v : Value} {L : List Int} (h : IsNat (wholeQ s) w S N v L) : w.cell? ⟨N, 1, none⟩ = some (.bool s) := by
 have := h.cell1
 simp [World.cell?, this, Rest.obj, wholeQ]
end Go.Proofs.YteanocjkdehhgaaGreat
namespace Go.Proofs.YteanocjkdehhgaaGreat
open Go.RowKit
open Go.Lib (hid)
variable {Q : Rest}
def sval (s : Bool) (V : Int) : Int := if s then -V else V
def gzs (Z : Int) : Bool := decide (Z < 0 ∧ -Z < pw 60)
def gzl (Z : Int) : List Int := capped (Z.natAbs : Int)
theorem sval_abs {s : Bool} {V : Int} (h : 0 ≤ V) : ((sval s V).natAbs : Int) = V := by unfold sval; split <;> omega
theorem gzl_sval {s : Bool} {V : Int} (h : 0 ≤ V) : gzl (sval s V) = capped V := by unfold gzl; rw [sval_abs h]
theorem gzs_sval {s : Bool} {V : Int} (h0 : 0 < V) (h : V < pw 60) : gzs (sval s V) = s := by
 unfold gzs sval
 cases s
 ·simp; omega
 ·simp; omega
theorem gzs_zero : gzs 0 = false := by simp [gzs]
theorem gzl_zero : gzl 0 = [] := by
 unfold gzl capped
 simp [rep_zero]
end Go.Proofs.YteanocjkdehhgaaGreat
namespace Go.Proofs.YteanocjkdehhgaaGreat
open Go.RowKit
open Go.Lib (hid)
theorem Below_drewN {B d : Nat} {a w : World} (h : Below B a w) : Below B a (w.drewN d) := ⟨h.os, h.tape, h.output, h.size, h.block⟩
theorem Ints_old {w w' : World} {b : Nat} {v : Value} {A : List Int} (h : Ints w b v A) (hb : Below w.heap.size w w') : Ints w' b v A := Ints_below h hb fun k hk => (Ints_lt h k hk).2
end Go.Proofs.YteanocjkdehhgaaGreat
namespace Go.Proofs.YteanocjkdehhgaaGreat
open Go.RowKit
open Go.Lib (hid)
end Go.Proofs.YteanocjkdehhgaaGreat
