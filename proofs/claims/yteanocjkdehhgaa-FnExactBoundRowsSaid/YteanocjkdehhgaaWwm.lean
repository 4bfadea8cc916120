/- Merged: Bi Wh Wi Wj Wk. -/
import Derived.Test.YteanocjkdehhgaaBh
import Derived.Test.YteanocjkdehhgaaImm
import Derived.BigRegion
/- The program's functions on the struct of a sign and limbs: the check. -/
namespace Go.Proofs.Yteanocjkdehhgaa
open Go.RowKit
open Go.Lib (hid)
set_option linter.unusedVariables false

/-- A valid pair of sign and limbs. -/
def bok (s : Bool) (A : List Int) : Bool := nok A && (!s || !A.isEmpty)
theorem bok_no {s : Bool} {A : List Int} (h : nok A = false) : bok s A = false := by simp [bok, h]
theorem bok_pos {A : List Int} (h : nok A = true) : bok false A = true := by simp [bok, h]
theorem bok_nil (s : Bool) : bok s [] = !s := by cases s <;> decide
theorem bok_ne {s : Bool} {A : List Int} (h : nok A = true) (hA : A ≠ []) : bok s A = true := by cases A <;> simp_all [bok]
theorem bok_iff {s : Bool} {A : List Int} : bok s A = true ↔ nok A = true ∧ (s = true → A ≠ []) := by cases s <;> cases A <;> simp [bok]

set_option maxRecDepth 100000 in
set_option maxHeartbeats 800000 in
theorem impl_BigIntOk (s : Bool) (a : Option Addr) (c : Nat) (A : List Int) (hA : A.length ≤ 1073741824) (w : World) (h1 : RowI w a A.length A) :
    Calls Try.prog 136 #[.agg #[.bool s, .slice a A.length c]] w (RetB (.bool (bok s A)) w) := by
  have K := hid (impl_NatOk a A.length c A hA _ (RowI_old h1 (below_new' (o := .cells #[.bool s, .slice a A.length c] 31))))
  have B := hid (below_new' (w := w) (o := .cells #[.bool s, .slice a A.length c] 31))
  clear h1
  obtain ⟨r, hr⟩ : ∃ r, r = bok s A := ⟨_, rfl⟩
  have HR := hid hr
  rw [← hr]
  clear hr
  cases e1 : nok A with
  | false =>
    have hE := hid (HR.out.trans (bok_no e1))
    rw [e1] at K
    clear e1
    go_enter Try.func136, Try.ntmps136
    go_wp2_with fail
    refine K.out.mono ?_
    rintro e w1 ⟨rfl, rfl⟩
    go_wp2
    go_ret
    exact ⟨ret_bool hE.out.symm, B.out⟩
  | true =>
    rw [e1] at K
    cases s with
    | false =>
      have hE := hid (HR.out.trans (bok_pos e1))
      clear e1
      go_enter Try.func136, Try.ntmps136
      go_wp2_with fail
      refine K.out.mono ?_
      rintro e w1 ⟨rfl, rfl⟩
      go_wp2
      go_ret
      exact ⟨ret_bool hE.out.symm, B.out⟩
    | true =>
      by_cases h0 : 0 < A.length
      · have hE := hid (HR.out.trans (bok_ne e1 (by rintro rfl; simp at h0)))
        have h0' : 0 < (A.length : Int) := by omega
        clear e1
        go_enter Try.func136, Try.ntmps136
        go_wp2_with fail
        refine K.out.mono ?_
        rintro e w1 ⟨rfl, rfl⟩
        go_wp2
        go_ret
        exact ⟨ret_bool hE.out.symm, B.out⟩
      · have hE := hid (HR.out.trans (show bok true A = false by
          have : A = [] := List.length_eq_zero_iff.1 (by omega)
          subst this; rfl))
        have h0' : ¬ 0 < (A.length : Int) := by omega
        clear e1
        go_enter Try.func136, Try.ntmps136
        go_wp2_with fail
        refine K.out.mono ?_
        rintro e w1 ⟨rfl, rfl⟩
        go_wp2
        go_ret
        exact ⟨ret_bool hE.out.symm, B.out⟩

theorem impl_BigIntOk_own (s : Bool) (v : Value) (A : List Int) (hA : A.length ≤ 1073741824) (b : Nat) (w : World) (h1 : Ints w b v A) :
    Calls Try.prog 136 #[.agg #[.bool s, v]] w (RetB (.bool (bok s A)) w) := by
  obtain ⟨a, c, rfl, -, r, -⟩ := Ints_form h1
  exact impl_BigIntOk s a c A hA w r
set_option maxRecDepth 100000 in
set_option maxHeartbeats 800000 in
theorem spec_BigIntOk (s : Bool) (a : Option Addr) (c : Nat) (A : List Int) (hA : A.length ≤ 1073741824) (w : World) (h1 : RowI w a A.length A) :
    Calls Try.prog 124 #[.agg #[.bool s, .slice a A.length c]] w (RetB (.bool (bok s A)) w) := by
  have K := hid (spec_NatOk a A.length c A hA _ (RowI_old h1 (below_new' (o := .cells #[.bool s, .slice a A.length c] 31))))
  have B := hid (below_new' (w := w) (o := .cells #[.bool s, .slice a A.length c] 31))
  clear h1
  obtain ⟨r, hr⟩ : ∃ r, r = bok s A := ⟨_, rfl⟩
  have HR := hid hr
  rw [← hr]
  clear hr
  cases e1 : nok A with
  | false =>
    have hE := hid (HR.out.trans (bok_no e1))
    rw [e1] at K
    clear e1
    go_enter Try.func124, Try.ntmps124
    go_wp2_with fail
    refine K.out.mono ?_
    rintro e w1 ⟨rfl, rfl⟩
    go_wp2
    go_ret
    exact ⟨ret_bool hE.out.symm, B.out⟩
  | true =>
    rw [e1] at K
    cases s with
    | false =>
      have hE := hid (HR.out.trans (bok_pos e1))
      clear e1
      go_enter Try.func124, Try.ntmps124
      go_wp2_with fail
      refine K.out.mono ?_
      rintro e w1 ⟨rfl, rfl⟩
      go_wp2
      go_ret
      exact ⟨ret_bool hE.out.symm, B.out⟩
    | true =>
      by_cases h0 : 0 < A.length
      · have hE := hid (HR.out.trans (bok_ne e1 (by rintro rfl; simp at h0)))
        have h0' : 0 < (A.length : Int) := by omega
        clear e1
        go_enter Try.func124, Try.ntmps124
        go_wp2_with fail
        refine K.out.mono ?_
        rintro e w1 ⟨rfl, rfl⟩
        go_wp2
        go_ret
        exact ⟨ret_bool hE.out.symm, B.out⟩
      · have hE := hid (HR.out.trans (show bok true A = false by
          have : A = [] := List.length_eq_zero_iff.1 (by omega)
          subst this; rfl))
        have h0' : ¬ 0 < (A.length : Int) := by omega
        clear e1
        go_enter Try.func124, Try.ntmps124
        go_wp2_with fail
        refine K.out.mono ?_
        rintro e w1 ⟨rfl, rfl⟩
        go_wp2
        go_ret
        exact ⟨ret_bool hE.out.symm, B.out⟩

theorem spec_BigIntOk_own (s : Bool) (v : Value) (A : List Int) (hA : A.length ≤ 1073741824) (b : Nat) (w : World) (h1 : Ints w b v A) :
    Calls Try.prog 124 #[.agg #[.bool s, v]] w (RetB (.bool (bok s A)) w) := by
  obtain ⟨a, c, rfl, -, r, -⟩ := Ints_form h1
  exact spec_BigIntOk s a c A hA w r
end Go.Proofs.Yteanocjkdehhgaa

/- The program's integer that is computed in place: a number with a sign behind it. -/
namespace Go.Proofs.Yteanocjkdehhgaa
open Go.RowKit
open Go.Lib (hid)
set_option linter.unusedVariables false

/-- The program's number with a sign behind it. -/
def wholeQ (s : Bool) : Rest := ⟨[.bool s], 213, by decide⟩
theorem Below_drew1 {B : Nat} {a w : World} (h : Below B a w) : Below B a w.drew := ⟨h.os, h.tape, h.output, h.size, h.block⟩
def NewW (s : Bool) (L : List Int) (w : World) (e : Ending) (w' : World) : Prop := ∃ N v, e = .returned (.pointer (some ⟨N, 0, none⟩)) ∧ IsNat (wholeQ s) w' (fun k => w.heap.size ≤ k) N v L ∧ Below w.heap.size w w'
theorem IsNat.neg {s : Bool} {w : World} {S : Nat → Prop} {N : Nat} {v : Value} {L : List Int} (h : IsNat (wholeQ s) w S N v L) : w.cell? ⟨N, 1, none⟩ = some (.bool s) := by
  have := h.cell1
  simp [World.cell?, this, Rest.obj, wholeQ]
theorem IsNat_whole {w w1 : World} {B : Nat} {s : Bool} {v : Value} {L : List Int} (h : Ints w1 B v L) (hb : Below w.heap.size w w1) (hB : w.heap.size ≤ B) :
    IsNat (wholeQ s) (w1.alloc (.cells #[v, .bool s] 213)) (fun k => w.heap.size ≤ k) w1.heap.size v L ∧ Below w.heap.size w (w1.alloc (.cells #[v, .bool s] 213)) :=
  ⟨⟨heap_alloc_new w1 _, hb.size, Ints_base (Ints_below h ((Below.refl _ _).alloc (Nat.le_refl _) _) fun k hk => (Ints_lt h k hk).2) (Nat.zero_le _), fun k hk => by have := (Ints_lt h k hk).1; omega⟩,
    hb.alloc hb.size _⟩

end Go.Proofs.Yteanocjkdehhgaa

/- The program's integer is given out; the signed sum. -/
namespace Go.Proofs.Yteanocjkdehhgaa
open Go.RowKit
open Go.Lib (hid)
set_option linter.unusedVariables false
variable {Q : Rest}

/-- The value of a sign and a magnitude. -/
def sval (s : Bool) (V : Int) : Int := if s then -V else V
/-- The sign and the limbs of an integer; an integer that is too large becomes 0. -/
def gzs (Z : Int) : Bool := decide (Z < 0 ∧ -Z < pw 60)
def gzl (Z : Int) : List Int := capped (Z.natAbs : Int)
theorem sval_abs {s : Bool} {V : Int} (h : 0 ≤ V) : ((sval s V).natAbs : Int) = V := by unfold sval; split <;> omega
theorem gzl_sval {s : Bool} {V : Int} (h : 0 ≤ V) : gzl (sval s V) = capped V := by unfold gzl; rw [sval_abs h]
theorem gzs_sval {s : Bool} {V : Int} (h0 : 0 < V) (h : V < pw 60) : gzs (sval s V) = s := by
  unfold gzs sval
  cases s
  · simp; omega
  · simp; omega
theorem gzs_zero : gzs 0 = false := by simp [gzs]
theorem gzl_zero : gzl 0 = [] := by
  unfold gzl capped
  simp [rep_zero]
theorem gzs_big {Z : Int} (h : pw 60 ≤ (Z.natAbs : Int)) : gzs Z = false := by unfold gzs; simp; omega
theorem gzl_big {Z : Int} (h : pw 60 ≤ (Z.natAbs : Int)) : gzl Z = [] := by unfold gzl capped; rw [if_neg (by omega)]
/-- A struct is given out whose slice lies from lo on. -/
def GivB (lo : Nat) (s : Bool) (L : List Int) (w : World) (e : Ending) (w' : World) : Prop := ∃ u, e = .returned (.agg #[.bool s, u]) ∧ Ints w' lo u L ∧ Below w.heap.size w w'
theorem GivB_mk {lo : Nat} {s t : Bool} {L M : List Int} {w w' : World} {u : Value} (hs : t = s) (hL : M = L) (h : Ints w' lo u M) (hb : Below w.heap.size w w') : GivB lo s L w (.returned (.agg #[.bool t, u])) w' := by
  subst hs; subst hL; exact ⟨u, rfl, h, hb⟩
set_option maxRecDepth 100000 in
set_option maxHeartbeats 1600000 in
theorem bigInt_own (lo : Nat) (s : Bool) (N : Nat) (v : Value) (V : Int) (h0 : 0 ≤ V) (w : World) (h : IsNat (wholeQ s) w (fun k => lo ≤ k) N v (rep V.toNat)) :
    Calls Try.prog 192 #[.pointer (some ⟨N, 0, none⟩)] w (GivB lo (gzs (sval s V)) (gzl (sval s V)) w) := by
  have H := hid (h.old (below_new' (o := .cells #[.bool false, .slice none 0 0] 31)))
  have hl := Ints_len h.ints
  have K := hid (result_any (Q := wholeQ s) (fun k => lo ≤ k) N v (rep V.toNat) _ H.out)
  have BB := hid (below_new' (w := w) (o := .cells #[.bool false, .slice none 0 0] 31))
  have L0 := hid (Loc.new (w := w) (T := 31) (s := false) (v := .slice none 0 0))
  obtain ⟨ss, hs⟩ : ∃ t, t = gzs (sval s V) := ⟨_, rfl⟩
  obtain ⟨ll, hll⟩ : ∃ t, t = gzl (sval s V) := ⟨_, rfl⟩
  rw [← hs, ← hll]
  have HS := hid hs
  have HL := hid hll
  have hne : V ≠ 0 → 0 < (rep V.toNat).length := fun h => List.length_pos_iff.2 (rep_ne (by omega))
  have hno : V = 0 → rep V.toNat = [] := fun h => by subst h; exact rep_zero
  have hbig : 60 < (rep V.toNat).length ↔ pw 60 ≤ V := by
    have := Can_len (Can_rep V.toNat) (k := 60)
    rw [val_rep' h0] at this
    omega
  have hsl : ∃ a c, v = .slice a (rep V.toNat).length c := by
    obtain ⟨a, c, e, -⟩ := Ints_form h.ints
    exact ⟨a, c, e⟩
  obtain ⟨M, hM⟩ : ∃ M, M = rep V.toNat := ⟨_, rfl⟩
  rw [← hM] at K H hl hne hno hbig hsl
  have HM := hid hM
  have HNO := hid hno
  have HBIG := hid hbig
  have HNE := hid hne
  clear hM hs hll h hno hbig hne
  unfold maxLen at hl
  obtain ⟨a, c, rfl⟩ := hsl
  go_enter Try.func192, Try.ntmps192
  go_wp2_with fail
  generalize w.alloc (.cells #[.bool false, .slice none 0 0] 31) = W at H K BB L0 ⊢
  refine K.out.mono ?_
  rintro e w1 ⟨⟨u, T, rfl, hu⟩, rfl⟩
  have q0 := L0.out.c0
  have q1 := L0.out.c1
  have f0 := L0.out.f0 0
  have f1 := L0.out.f0 1
  have B2 := hid (show Below w.heap.size w ((W.setCell ⟨w.heap.size, 0, none⟩ (.bool false)).setCell ⟨w.heap.size, 1, none⟩ (.slice none 0 0)) from (BB.out.setCell (by simp) _).setCell (by simp) _)
  rcases hu with ⟨rfl, hT, h6⟩ | ⟨rfl, hT, h6⟩
  · obtain rfl : M = T := hT.symm
    by_cases hz : M.length = 0
    · have hz' : ((M.length : Int) == 0) = true := by rw [hz]; rfl
      have R := hid (show GivB lo ss ll w (.returned (.agg #[.bool false, .slice none 0 0])) ((W.setCell ⟨w.heap.size, 0, none⟩ (.bool false)).setCell ⟨w.heap.size, 1, none⟩ (.slice none 0 0)) from by
        have hV : V = 0 := Classical.byContradiction fun h => by have := HNE.out h; omega
        refine GivB_mk ?_ ?_ (Ints_nil _ _) B2.out
        · rw [HS.out, hV]; cases s <;> simp [sval, gzs]
        · rw [HL.out, hV]; cases s <;> simp [sval, gzl_zero])
      clear hz
      go_wp2
      exact bodyPost_ret (v := .agg #[.bool false, .slice none 0 0]) (by simp [results, Try.results192, go_sem, q0, q1]) rfl R.out
    · have hz' : ((M.length : Int) == 0) = false := beq_eq_false_iff_ne.2 (by omega)
      have hn := H.out.neg
      have HZ := hid hz
      have B3 := hid (show Below w.heap.size w ((W.setCell ⟨w.heap.size, 0, none⟩ (.bool s)).setCell ⟨w.heap.size, 1, none⟩ (.slice a M.length c)) from (BB.out.setCell (by simp) _).setCell (by simp) _)
      have n1 := L0.out.ne (by decide) H.out.ints
      have R := hid (show GivB lo ss ll w (.returned (.agg #[.bool s, .slice a M.length c])) ((W.setCell ⟨w.heap.size, 0, none⟩ (.bool s)).setCell ⟨w.heap.size, 1, none⟩ (.slice a M.length c)) from by
        have hV : V ≠ 0 := fun h => HZ.out (by rw [HNO.out h]; rfl)
        have hlt : V < pw 60 := by have := HBIG.out; omega
        refine GivB_mk ?_ ?_ (Ints_set (Ints_set (Ints_rebase H.out.ints H.out.own) n1) n1) B3.out
        · rw [HS.out, gzs_sval (by omega) hlt]
        · rw [HL.out, gzl_sval h0, capped_of hlt, HM.out])
      clear hz n1
      go_wp2
      exact bodyPost_ret (v := .agg #[.bool s, .slice a M.length c]) (by simp [results, Try.results192, go_sem, q0, q1]) rfl R.out
  · obtain rfl : [] = T := hT.symm
    have R := hid (show GivB lo ss ll w (.returned (.agg #[.bool false, .slice none 0 0])) ((W.setCell ⟨w.heap.size, 0, none⟩ (.bool false)).setCell ⟨w.heap.size, 1, none⟩ (.slice none 0 0)) from by
      have hV : pw 60 ≤ ((sval s V).natAbs : Int) := by rw [sval_abs h0]; exact HBIG.out.1 h6
      exact GivB_mk (by rw [HS.out, gzs_big hV]) (by rw [HL.out, gzl_big hV]) (Ints_nil _ _) B2.out)
    go_wp2
    exact bodyPost_ret (v := .agg #[.bool false, .slice none 0 0]) (by simp [results, Try.results192, go_sem, q0, q1]) rfl R.out
end Go.Proofs.Yteanocjkdehhgaa

/- The program's signed sum. -/
namespace Go.Proofs.Yteanocjkdehhgaa
open Go.RowKit
open Go.Lib (hid)
set_option linter.unusedVariables false

/-- The result is laid into the call's own variable and given out. -/
theorem OwnG_out {s : Bool} {L : List Int} {w w4 : World} {r : Value} {lo b : Nat} {T : TypeId} (hlo : w.heap.size ≤ lo) (hb : b = w.heap.size) (hL : Loc T w4 b false (.slice none 0 0)) (hT : T ≠ 3) (hi : Ints w4 lo r L) (hB : Below w.heap.size w w4) :
    OwnG s L w (.returned (.agg #[.bool s, r])) ((w4.setCell ⟨b, 0, none⟩ (.bool s)).setCell ⟨b, 1, none⟩ r) :=
  OwnG_mk hlo rfl (Ints_set (Ints_set hi (hL.ne hT hi)) (hL.ne hT hi)) ((hB.setCell (by simp [hb]) _).setCell (by simp [hb]) _)
theorem sum_same {s : Bool} {x y : Int} : sval s x + sval s y = sval s (x + 1 * y * pw (0 : Int).toNat) := by unfold sval; split <;> simp [pw] <;> omega
theorem sum_other {s t : Bool} {x y : Int} (h : s ≠ t) : sval s x + sval t y = sval s (x + (-1) * y * pw (0 : Int).toNat) := by cases s <;> cases t <;> simp_all [sval, pw] <;> omega

theorem addPre {v : Value} {A : List Int} {w : World} {b : Nat} {o : Go.Obj} (h : Ints w b v A) : Ints (w.alloc o) b v A := Ints_below h below_new' fun k hk => (Ints_lt h k hk).2
theorem Ints_drew {w : World} {b d : Nat} {v : Value} {A : List Int} (h : Ints w b v A) : Ints (w.drewN d) b v A := h
theorem Below_drewN {B d : Nat} {a w : World} (h : Below B a w) : Below B a (w.drewN d) := ⟨h.os, h.tape, h.output, h.size, h.block⟩
theorem Loc_drewN {T : TypeId} {w : World} {b d : Nat} {s : Bool} {v : Value} (h : Loc T w b s v) : Loc T (w.drewN d) b s v := h
theorem Ints_old {w w' : World} {b : Nat} {v : Value} {A : List Int} (h : Ints w b v A) (hb : Below w.heap.size w w') : Ints w' b v A := Ints_below h hb fun k hk => (Ints_lt h k hk).2

end Go.Proofs.Yteanocjkdehhgaa

/- The program's signed sum and difference of two structs. -/
namespace Go.Proofs.Yteanocjkdehhgaa
open Go.RowKit
open Go.Lib (hid)
set_option linter.unusedVariables false

/-- A function of two integers on pairs of sign and limbs; 0 where one is not valid. -/
def bin (f : Int → Int → Int) (s : Bool) (A : List Int) (t : Bool) (B : List Int) : Int := if bok s A && bok t B then f (sval s (val A)) (sval t (val B)) else 0
theorem bin_no {f : Int → Int → Int} {s t : Bool} {A B : List Int} (h : bok s A = false ∨ bok t B = false) : bin f s A t B = 0 := by
  unfold bin; rcases h with h | h <;> simp [h]
theorem bin_yes {f : Int → Int → Int} {s t : Bool} {A B : List Int} (h : bok s A = true) (h' : bok t B = true) : bin f s A t B = f (sval s (val A)) (sval t (val B)) := by simp [bin, h, h']
theorem OwnG_zero {s : Bool} {L : List Int} {Z : Int} {w w4 : World} {b : Nat} {T : TypeId} (hs : s = gzs Z) (hl : L = gzl Z) (hz : Z = 0) (hb : b = w.heap.size + 1 + 1) (hB : Below w.heap.size w w4) :
    OwnG s L w (.returned (.agg #[.bool false, .slice none 0 0])) ((w4.setCell ⟨b, 0, none⟩ (.bool false)).setCell ⟨b, 1, none⟩ (.slice none 0 0)) := by
  rw [hs, hl, hz, gzs_zero, gzl_zero]
  exact OwnG_mk (Nat.le_refl _) rfl (Ints_nil _ _) ((hB.setCell (by simp [hb]; omega) _).setCell (by simp [hb]; omega) _)
theorem OwnG_out2 {s : Bool} {L : List Int} {w w4 : World} {r : Value} {lo b : Nat} {T : TypeId} (hlo : w.heap.size ≤ lo) (hb : b = w.heap.size + 1 + 1) (hL : Loc T w4 b false (.slice none 0 0)) (hT : T ≠ 3) (hi : Ints w4 lo r L) (hB : Below w.heap.size w w4) :
    OwnG s L w (.returned (.agg #[.bool s, r])) ((w4.setCell ⟨b, 0, none⟩ (.bool s)).setCell ⟨b, 1, none⟩ r) :=
  OwnG_mk hlo rfl (Ints_set (Ints_set hi (hL.ne hT hi)) (hL.ne hT hi)) ((hB.setCell (by simp [hb]; omega) _).setCell (by simp [hb]; omega) _)
theorem neg_sval {t : Bool} {y : Int} : sval (!t) y = - sval t y := by cases t <;> simp [sval]

/-- The world in which two structs and a result have been laid. -/
def W3 (w : World) (s : Bool) (v : Value) (t : Bool) (u : Value) (T : TypeId) : World := ((w.alloc (.cells #[.bool s, v] T)).alloc (.cells #[.bool t, u] T)).alloc (.cells #[.bool false, .slice none 0 0] T)
theorem W3_below {w : World} {s t : Bool} {v u : Value} {T : TypeId} : Below w.heap.size w (W3 w s v t u T) := (((Below.refl _ _).alloc (Nat.le_refl _) _).alloc (by simp) _).alloc (by simp; omega) _
theorem W3_1 {w : World} {s t : Bool} {v u : Value} {T : TypeId} : Loc T (W3 w s v t u T) w.heap.size s v := (Loc.at rfl).new1.new1
theorem W3_2 {w : World} {s t : Bool} {v u : Value} {T : TypeId} : Loc T (W3 w s v t u T) (w.heap.size + 1) t u := (Loc.at (by simp)).new1
theorem W3_3 {w : World} {s t : Bool} {v u : Value} {T : TypeId} : Loc T (W3 w s v t u T) (w.heap.size + 1 + 1) false (.slice none 0 0) := Loc.at (by simp)
theorem W3_size {w : World} {s t : Bool} {v u : Value} {T : TypeId} : w.heap.size ≤ (W3 w s v t u T).heap.size := W3_below.size

end Go.Proofs.Yteanocjkdehhgaa
