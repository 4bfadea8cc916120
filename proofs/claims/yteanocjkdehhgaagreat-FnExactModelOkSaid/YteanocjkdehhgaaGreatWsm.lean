import Derived.Test.YteanocjkdehhgaaGreatWwm
import Derived.Deep.RegionHeld3
import Derived.Test.YteanocjkdehhgaaGreatImm
import Derived.Laws.AppendOwnNone
import Derived.Test.YteanocjkdehhgaaGreatSpm
set_option maxRecDepth 100000
set_option maxHeartbeats 3200000
set_option linter.unusedVariables false
set_option linter.unusedSimpArgs false
namespace Go.Proofs.YteanocjkdehhgaaGreat
open Go.RowKit
open Go.Lib (hid)
def W2 (w : World) (s : Bool) (v : Value) (T : TypeId) : World := (w.alloc (.cells #[.bool s, v] T)).alloc (.cells #[.bool false, .slice none 0 0] T)
end Go.Proofs.YteanocjkdehhgaaGreat
namespace Go.Proofs.YteanocjkdehhgaaGreat
open Go.RowKit
open Go.Lib (hid)
end Go.Proofs.YteanocjkdehhgaaGreat
namespace Go.Proofs.YteanocjkdehhgaaGreat
open Go.RowKit
open Go.Lib (hid)
theorem W22_below {w : World} {s t : Bool} {v u : Value} {T : TypeId} : Below w.heap.size w ((w.alloc (.cells #[.bool s, v] T)).alloc (.cells #[.bool t, u] T)) := ((Below.refl _ _).alloc (Nat.le_refl _) _).alloc (by simp) _
theorem W22_1 {w : World} {s t : Bool} {v u : Value} {T : TypeId} : Loc T ((w.alloc (.cells #[.bool s, v] T)).alloc (.cells #[.bool t, u] T)) w.heap.size s v := (Loc.at rfl).new1
theorem W22_2 {w : World} {s t : Bool} {v u : Value} {T : TypeId} : Loc T ((w.alloc (.cells #[.bool s, v] T)).alloc (.cells #[.bool t, u] T)) (w.heap.size + 1) t u := Loc.at (by simp)
theorem Ints_rowW {w : World} {B n c : Nat} {a : Option Addr} {L : List Int} (h : Ints w B (.slice a n c) L) : RowI w a n L := by
 obtain ⟨x, y, e, -, r, -⟩ := Ints_form h
 cases e
 exact r
def cmpB (s : Bool) (A : List Int) (t : Bool) (B : List Int) : Int := if bok s A && bok t B then sgn (sval s (val A) - sval t (val B)) else 0
theorem cmpB_no {s t : Bool} {A B : List Int} (h : bok s A = false ∨ bok t B = false) : cmpB s A t B = 0 := by
 unfold cmpB; rcases h with h | h <;> simp [h]
theorem cmpB_yes {s t : Bool} {A B : List Int} (h : bok s A = true) (h' : bok t B = true) : cmpB s A t B = sgn (sval s (val A) - sval t (val B)) := by simp [cmpB, h, h']
theorem pos_of {A : List Int} (h : bok true A = true) : 0 < val A := by
 obtain ⟨h1, h2⟩ := bok_iff.1 h
 have h3 := Can_ge (nok_iff.1 h1).2 (h2 rfl)
 have := pw_pos (A.length - 1)
 omega
theorem cmpB_tt {A B : List Int} (h : bok true A = true) (h' : bok true B = true) : cmpB true A true B = cmpL B A := by
 rw [cmpB_yes h h', cmpL_val (nok_iff.1 (bok_iff.1 h').1).2 (nok_iff.1 (bok_iff.1 h).1).2]
 simp only [sval, if_true]
 congr 1
 omega
theorem cmpB_tf {A B : List Int} (h : bok true A = true) (h' : bok false B = true) : cmpB true A false B = -1 := by
 rw [cmpB_yes h h']
 have := pos_of h
 have := val_nonneg (nok_lim (bok_iff.1 h').1)
 simp only [sval, if_true]
 unfold sgn
 rw [if_pos (by simp; omega)]
theorem cmpB_ft {A B : List Int} (h : bok false A = true) (h' : bok true B = true) : cmpB false A true B = 1 := by
 rw [cmpB_yes h h']
 have := pos_of h'
 have := val_nonneg (nok_lim (bok_iff.1 h).1)
 unfold sgn
 rw [if_neg (by simp [sval]; omega), if_pos (by simp [sval]; omega)]
theorem cmpB_ff {A B : List Int} (h : bok false A = true) (h' : bok false B = true) : cmpB false A false B = cmpL A B := by
 rw [cmpB_yes h h', cmpL_val (nok_iff.1 (bok_iff.1 h).1).2 (nok_iff.1 (bok_iff.1 h').1).2]
 rfl
theorem impl_BigIntCmp (s t : Bool) (v u : Value) (A B : List Int) (hA : A.length ≤ 1073741824) (hB : B.length ≤ 1073741824) (b1 b2 : Nat) (w : World) (h1 : Ints w b1 v A) (h2 : Ints w b2 u B) :
  Calls Tryz.prog 126 #[.agg #[.bool s, v], .agg #[.bool t, u]] w (RetB (.int .i64 (cmpB s A t B)) w) := by
 obtain ⟨Z, hZ⟩ : ∃ Z, Z = cmpB s A t B := ⟨_, rfl⟩
 have HZ := hid hZ
 rw [← hZ]
 clear hZ
 have KA := hid (fun (W : World) (h : Ints W b1 v A) => impl_BigIntOk_own s v A hA b1 W h)
 have KB := hid (fun (W : World) (h : Ints W b2 u B) => impl_BigIntOk_own t u B hB b2 W h)
 have B0 := hid (W22_below (w := w) (s := s) (v := v) (t := t) (u := u) (T := 51))
 have L1 := hid (W22_1 (w := w) (s := s) (v := v) (t := t) (u := u) (T := 51))
 have L2 := hid (W22_2 (w := w) (s := s) (v := v) (t := t) (u := u) (T := 51))
 have I1 := hid (Ints_old h1 B0.out)
 have I2 := hid (Ints_old h2 B0.out)
 obtain ⟨a, c, rfl, -⟩ := Ints_form h1
 obtain ⟨a', c', rfl, -⟩ := Ints_form h2
 clear h1 h2
 cases e1 : bok s A with
 |false =>
  have hE := hid (HZ.out.trans (cmpB_no (.inl e1)))
  rw [e1] at KA
  clear e1
  go_enter Tryz.func126, Tryz.ntmps126
  go_wp2_with fail
  refine (KA.out _ I1.out).mono ?_
  rintro e w1 ⟨rfl, b1⟩
  have B0 := hid (B0.out.trans (b1.mono B0.out.size))
  clear b1
  go_wp2
  go_ret
  exact ⟨ret_int hE.out.symm, B0.out⟩
 |true =>
  rw [e1] at KA
  cases e2 : bok t B with
  |false =>
   have hE := hid (HZ.out.trans (cmpB_no (.inr e2)))
   rw [e2] at KB
   clear e1 e2
   go_enter Tryz.func126, Tryz.ntmps126
   go_wp2_with fail
   refine (KA.out _ I1.out).mono ?_
   rintro e w1 ⟨rfl, b1⟩
   have B0 := hid (B0.out.trans (b1.mono B0.out.size))
   have I2 := hid (Ints_old I2.out b1)
   have L2 := hid (L2.out.old b1)
   have q0 := L2.out.c0
   have q1 := L2.out.c1
   clear b1
   go_wp2_with fail
   refine (KB.out _ I2.out).mono ?_
   rintro e w2 ⟨rfl, b1⟩
   have B0 := hid (B0.out.trans (b1.mono B0.out.size))
   clear b1 q0 q1
   go_wp2
   go_ret
   exact ⟨ret_int hE.out.symm, B0.out⟩
  |true =>
   rw [e2] at KB
   cases s <;> cases t
   ·have hE := hid (HZ.out.trans (cmpB_ff e1 e2))
    clear e1 e2
    go_enter Tryz.func126, Tryz.ntmps126
    go_wp2_with fail
    refine (KA.out _ I1.out).mono ?_
    rintro e w1 ⟨rfl, b1⟩
    have B0 := hid (B0.out.trans (b1.mono B0.out.size))
    have I1 := hid (Ints_old I1.out b1)
    have I2 := hid (Ints_old I2.out b1)
    have L1 := hid (L1.out.old b1)
    have L2 := hid (L2.out.old b1)
    have q0 := L2.out.c0
    have q1 := L2.out.c1
    clear b1
    go_wp2_with fail
    refine (KB.out _ I2.out).mono ?_
    rintro e w2 ⟨rfl, b1⟩
    have B0 := hid (B0.out.trans (b1.mono B0.out.size))
    have I1 := hid (Ints_old I1.out b1)
    have I2 := hid (Ints_old I2.out b1)
    have L1 := hid (L1.out.old b1)
    have L2 := hid (L2.out.old b1)
    clear b1 q0 q1
    have q0 := L2.out.c0
    have q1 := L2.out.c1
    have q2 := L1.out.c0
    have q3 := L1.out.c1
    have K3 := hid (compareLimbs_any a a' _ _ c c' A B hA hB w2 (Ints_rowW I1.out) (Ints_rowW I2.out))
    rw [← hE.out] at K3
    go_wp2_with fail
    refine K3.out.mono ?_
    rintro e w3 ⟨rfl, d, rfl⟩
    have B0 := hid (Below_drewN (d := d) B0.out)
    go_wp2
    go_ret
    exact ⟨rfl, B0.out⟩
   ·have hE := hid (HZ.out.trans (cmpB_ft e1 e2))
    clear e1 e2
    go_enter Tryz.func126, Tryz.ntmps126
    go_wp2_with fail
    refine (KA.out _ I1.out).mono ?_
    rintro e w1 ⟨rfl, b1⟩
    have B0 := hid (B0.out.trans (b1.mono B0.out.size))
    have I1 := hid (Ints_old I1.out b1)
    have I2 := hid (Ints_old I2.out b1)
    have L1 := hid (L1.out.old b1)
    have L2 := hid (L2.out.old b1)
    have q0 := L2.out.c0
    have q1 := L2.out.c1
    clear b1
    go_wp2_with fail
    refine (KB.out _ I2.out).mono ?_
    rintro e w2 ⟨rfl, b1⟩
    have B0 := hid (B0.out.trans (b1.mono B0.out.size))
    have I1 := hid (Ints_old I1.out b1)
    have I2 := hid (Ints_old I2.out b1)
    have L1 := hid (L1.out.old b1)
    have L2 := hid (L2.out.old b1)
    clear b1 q0 q1
    have q0 := L2.out.c0
    have q1 := L2.out.c1
    have q2 := L1.out.c0
    have q3 := L1.out.c1
    go_wp2
    go_ret
    exact ⟨ret_int hE.out.symm, B0.out⟩
   ·have hE := hid (HZ.out.trans (cmpB_tf e1 e2))
    clear e1 e2
    go_enter Tryz.func126, Tryz.ntmps126
    go_wp2_with fail
    refine (KA.out _ I1.out).mono ?_
    rintro e w1 ⟨rfl, b1⟩
    have B0 := hid (B0.out.trans (b1.mono B0.out.size))
    have I1 := hid (Ints_old I1.out b1)
    have I2 := hid (Ints_old I2.out b1)
    have L1 := hid (L1.out.old b1)
    have L2 := hid (L2.out.old b1)
    have q0 := L2.out.c0
    have q1 := L2.out.c1
    clear b1
    go_wp2_with fail
    refine (KB.out _ I2.out).mono ?_
    rintro e w2 ⟨rfl, b1⟩
    have B0 := hid (B0.out.trans (b1.mono B0.out.size))
    have I1 := hid (Ints_old I1.out b1)
    have I2 := hid (Ints_old I2.out b1)
    have L1 := hid (L1.out.old b1)
    have L2 := hid (L2.out.old b1)
    clear b1 q0 q1
    have q0 := L2.out.c0
    have q1 := L2.out.c1
    have q2 := L1.out.c0
    have q3 := L1.out.c1
    go_wp2
    go_ret
    exact ⟨ret_int hE.out.symm, B0.out⟩
   ·have hE := hid (HZ.out.trans (cmpB_tt e1 e2))
    clear e1 e2
    go_enter Tryz.func126, Tryz.ntmps126
    go_wp2_with fail
    refine (KA.out _ I1.out).mono ?_
    rintro e w1 ⟨rfl, b1⟩
    have B0 := hid (B0.out.trans (b1.mono B0.out.size))
    have I1 := hid (Ints_old I1.out b1)
    have I2 := hid (Ints_old I2.out b1)
    have L1 := hid (L1.out.old b1)
    have L2 := hid (L2.out.old b1)
    have q0 := L2.out.c0
    have q1 := L2.out.c1
    clear b1
    go_wp2_with fail
    refine (KB.out _ I2.out).mono ?_
    rintro e w2 ⟨rfl, b1⟩
    have B0 := hid (B0.out.trans (b1.mono B0.out.size))
    have I1 := hid (Ints_old I1.out b1)
    have I2 := hid (Ints_old I2.out b1)
    have L1 := hid (L1.out.old b1)
    have L2 := hid (L2.out.old b1)
    clear b1 q0 q1
    have q0 := L2.out.c0
    have q1 := L2.out.c1
    have q2 := L1.out.c0
    have q3 := L1.out.c1
    have K3 := hid (compareLimbs_any a' a _ _ c' c B A hB hA w2 (Ints_rowW I2.out) (Ints_rowW I1.out))
    rw [← hE.out] at K3
    go_wp2_with fail
    refine K3.out.mono ?_
    rintro e w3 ⟨rfl, d, rfl⟩
    have B0 := hid (Below_drewN (d := d) B0.out)
    go_wp2
    go_ret
    exact ⟨rfl, B0.out⟩
end Go.Proofs.YteanocjkdehhgaaGreat
namespace Go.Proofs.YteanocjkdehhgaaGreat
open Go.RowKit
open Go.Lib (hid)
theorem gz_ok {Z : Int} (h : (Z.natAbs : Int) < pw 60) : bok (gzs Z) (gzl Z) = true ∧ sval (gzs Z) (val (gzl Z)) = Z := by
 have e1 : gzl Z = rep (Z.natAbs : Int).toNat := by unfold gzl; rw [capped_of h]
 have hv : val (gzl Z) = (Z.natAbs : Int) := by rw [e1, val_rep' (by omega)]
 have hn : nok (gzl Z) = true := by rw [e1]; exact nok_iff.2 ⟨rep_len h, Can_rep _⟩
 by_cases hz : Z < 0
 ·have hs : gzs Z = true := by unfold gzs; simp; omega
  rw [hs]
  refine ⟨bok_ne hn ?_, by rw [hv]; unfold sval; rw [if_pos rfl]; omega⟩
  intro e
  rw [e] at hv
  simp only [val] at hv
  omega
 ·have hs : gzs Z = false := by unfold gzs; simp; omega
  rw [hs]
  exact ⟨bok_pos hn, by rw [hv]; show ((Z.natAbs : Nat) : Int) = Z; omega⟩
theorem gz_of {s : Bool} {L : List Int} (h : bok s L = true) : gzs (sval s (val L)) = s ∧ gzl (sval s (val L)) = L := by
 obtain ⟨hn, hne⟩ := bok_iff.1 h
 have h0 := val_nonneg (nok_lim hn)
 have hlt := nok_lt hn
 refine ⟨?_, by rw [gzl_sval h0, capped_of hlt, rep_val (nok_iff.1 hn).2]⟩
 cases s with
 | false => unfold gzs sval; simp; omega
 |true =>
  have := pos_of h
  exact gzs_sval this hlt
theorem big_len {s : Bool} {L : List Int} (h : bok s L = true) : L.length ≤ 1073741824 := by have := nok_len (bok_iff.1 h).1; omega
end Go.Proofs.YteanocjkdehhgaaGreat
namespace Go.Proofs.YteanocjkdehhgaaGreat
open Go.RowKit
open Go.Lib (hid)
variable {Q : Rest}
end Go.Proofs.YteanocjkdehhgaaGreat
namespace Go.Proofs.YteanocjkdehhgaaGreat
open Go.RowKit
open Go.Lib (hid)
end Go.Proofs.YteanocjkdehhgaaGreat
namespace Go.Proofs.YteanocjkdehhgaaGreat
open Go.RowKit
open Go.Lib (hid)
end Go.Proofs.YteanocjkdehhgaaGreat
namespace Go.Proofs.YteanocjkdehhgaaGreat
open Go.RowKit
open Go.Lib (hid)
end Go.Proofs.YteanocjkdehhgaaGreat
namespace Go.Proofs.YteanocjkdehhgaaGreat
open Go.RowKit
open Go.Lib (hid)
end Go.Proofs.YteanocjkdehhgaaGreat
namespace Go.Proofs.YteanocjkdehhgaaGreat
open Go.RowKit
open Go.Lib (hid)
end Go.Proofs.YteanocjkdehhgaaGreat
namespace Go.Proofs.YteanocjkdehhgaaGreat
open Go.RowKit
open Go.Lib (hid)
end Go.Proofs.YteanocjkdehhgaaGreat
