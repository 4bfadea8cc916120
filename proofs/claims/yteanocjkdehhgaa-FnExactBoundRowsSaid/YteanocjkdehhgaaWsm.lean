/- Merged: Wl Wm Wn Gz Wo Wp Sm Sn So Sp Sq. -/
import Derived.Test.YteanocjkdehhgaaWwm
import Derived.Deep.RegionHeld3
import Derived.Test.YteanocjkdehhgaaImm
import Derived.Laws.AppendOwnNone
import Derived.Test.YteanocjkdehhgaaSpm
/- The program's negation of a struct. -/
namespace Go.Proofs.Yteanocjkdehhgaa
open Go.RowKit
open Go.Lib (hid)
set_option linter.unusedVariables false

def una (f : Int → Int) (s : Bool) (A : List Int) : Int := if bok s A then f (sval s (val A)) else 0
theorem una_no {f : Int → Int} {s : Bool} {A : List Int} (h : bok s A = false) : una f s A = 0 := by simp [una, h]
theorem una_yes {f : Int → Int} {s : Bool} {A : List Int} (h : bok s A = true) : una f s A = f (sval s (val A)) := by simp [una, h]
theorem IsNat.setNeg {s t : Bool} {w : World} {S : Nat → Prop} {N : Nat} {v : Value} {L : List Int} (h : IsNat (wholeQ s) w S N v L) : IsNat (wholeQ t) (w.setCell ⟨N, 1, none⟩ (.bool t)) S N v L := by
  refine ⟨?_, h.mine, Ints_block h.ints fun k hk => Below.heap_setCell _ _ _ _ ?_, h.own⟩
  · have := h.cell1
    simp [World.setCell, Array.getElem?_modify, this, Rest.obj, wholeQ]
  · rintro rfl
    exact h.ne hk
theorem IsNat.freeAt {Q : Rest} {w : World} {S : Nat → Prop} {N : Nat} {v : Value} {L : List Int} (h : IsNat Q w S N v L) (i : Nat) : w.frozen? ⟨N, i, none⟩ = false := by
  have := h.cell1
  simp [World.frozen?, this, Rest.obj]
/-- The world in which a struct and a result have been laid. -/
def W2 (w : World) (s : Bool) (v : Value) (T : TypeId) : World := (w.alloc (.cells #[.bool s, v] T)).alloc (.cells #[.bool false, .slice none 0 0] T)
theorem W2_below {w : World} {s : Bool} {v : Value} {T : TypeId} : Below w.heap.size w (W2 w s v T) := ((Below.refl _ _).alloc (Nat.le_refl _) _).alloc (by simp) _
theorem W2_1 {w : World} {s : Bool} {v : Value} {T : TypeId} : Loc T (W2 w s v T) w.heap.size s v := (Loc.at rfl).new1
theorem W2_2 {w : World} {s : Bool} {v : Value} {T : TypeId} : Loc T (W2 w s v T) (w.heap.size + 1) false (.slice none 0 0) := Loc.at (by simp)
theorem OwnG_zero1 {s : Bool} {L : List Int} {Z : Int} {w w4 : World} {b : Nat} (hs : s = gzs Z) (hl : L = gzl Z) (hz : Z = 0) (hb : w.heap.size ≤ b) (hB : Below w.heap.size w w4) :
    OwnG s L w (.returned (.agg #[.bool false, .slice none 0 0])) ((w4.setCell ⟨b, 0, none⟩ (.bool false)).setCell ⟨b, 1, none⟩ (.slice none 0 0)) := by
  rw [hs, hl, hz, gzs_zero, gzl_zero]
  exact OwnG_mk (Nat.le_refl _) rfl (Ints_nil _ _) ((hB.setCell hb _).setCell hb _)
theorem OwnG_out1 {s : Bool} {L : List Int} {w w4 : World} {r : Value} {lo b : Nat} {T : TypeId} (hlo : w.heap.size ≤ lo) (hb : w.heap.size ≤ b) (hL : Loc T w4 b false (.slice none 0 0)) (hT : T ≠ 3) (hi : Ints w4 lo r L) (hB : Below w.heap.size w w4) :
    OwnG s L w (.returned (.agg #[.bool s, r])) ((w4.setCell ⟨b, 0, none⟩ (.bool s)).setCell ⟨b, 1, none⟩ r) :=
  OwnG_mk hlo rfl (Ints_set (Ints_set hi (hL.ne hT hi)) (hL.ne hT hi)) ((hB.setCell hb _).setCell hb _)

end Go.Proofs.Yteanocjkdehhgaa

/- The program's product of two structs. -/
namespace Go.Proofs.Yteanocjkdehhgaa
open Go.RowKit
open Go.Lib (hid)
set_option linter.unusedVariables false

theorem sval_mul {s t : Bool} {x y : Int} : sval s x * sval t y = sval (s != t) (x * y) := by cases s <;> cases t <;> simp [sval, Int.neg_mul, Int.mul_neg]
/-- The magnitude that a capped product stands for. -/
def capV (V : Int) : Int := if V < pw 60 then V else 0
theorem capV_nonneg {V : Int} (h : 0 ≤ V) : 0 ≤ capV V := by unfold capV; split <;> omega
theorem capV_rep {V : Int} : capped V = rep (capV V).toNat := by unfold capped capV; split <;> simp [rep_zero]
theorem gzs_capV {s : Bool} {V : Int} (h : 0 ≤ V) : gzs (sval s (capV V)) = gzs (sval s V) := by
  unfold capV
  split
  · rfl
  · next hb => rw [gzs_big (Z := sval s V) (by rw [sval_abs h]; omega)]; cases s <;> simp [sval, gzs]
theorem gzl_capV {s : Bool} {V : Int} (h : 0 ≤ V) : gzl (sval s (capV V)) = gzl (sval s V) := by
  unfold capV
  split
  · rfl
  · next hb => rw [gzl_big (Z := sval s V) (by rw [sval_abs h]; omega)]; cases s <;> simp [sval, gzl_zero]
theorem cell_set2 {w : World} {b N i : Nat} {u v : Value} (h : b ≠ N) : ((w.setCell ⟨N, 0, none⟩ u).setCell ⟨N, 1, none⟩ v).cell? ⟨b, i, none⟩ = w.cell? ⟨b, i, none⟩ := World.cell?_of_block (w := w) (a := ⟨b, i, none⟩) ((set_block _ _ _ _ _ h).trans (set_block _ _ _ _ _ h))
theorem cell_of {w : World} {N : Nat} {u v : Value} {T : TypeId} (h : w.heap[N]? = some (.cells #[u, v] T (0, 0))) : w.cell? ⟨N, 0, none⟩ = some u := by simp [World.cell?, h]
theorem cell_of1 {w : World} {N : Nat} {u v : Value} {T : TypeId} (h : w.heap[N]? = some (.cells #[u, v] T (0, 0))) : w.cell? ⟨N, 1, none⟩ = some v := by simp [World.cell?, h]
theorem free_of {w : World} {N : Nat} {u v : Value} {T : TypeId} (h : w.heap[N]? = some (.cells #[u, v] T (0, 0))) (i : Nat) : w.frozen? ⟨N, i, none⟩ = false := by simp [World.frozen?, h]
theorem bigInt_cap (lo : Nat) (s : Bool) (N : Nat) (v : Value) (V : Int) (h0 : 0 ≤ V) (w : World) (h : IsNat (wholeQ s) w (fun k => lo ≤ k) N v (capped V)) :
    Calls Try.prog 192 #[.pointer (some ⟨N, 0, none⟩)] w (GivB lo (gzs (sval s V)) (gzl (sval s V)) w) := by
  rw [← gzs_capV h0, ← gzl_capV h0]
  exact bigInt_own lo s N v _ (capV_nonneg h0) w (by rw [← capV_rep]; exact h)
/-- A whole in a block that the call has laid before. -/
theorem IsNat_laid {w w1 : World} {N B : Nat} {s : Bool} {v : Value} {L : List Int} (h0 : w1.heap[N]? = some (.cells #[.slice none 0 0, .bool false] 213 (0, 0))) (hN : w.heap.size ≤ N) (h : Ints w1 B v L) (hb : Below w.heap.size w w1) (hB : w.heap.size ≤ B) :
    IsNat (wholeQ s) ((w1.setCell ⟨N, 0, none⟩ v).setCell ⟨N, 1, none⟩ (.bool s)) (fun k => w.heap.size ≤ k) N v L ∧ Below w.heap.size w ((w1.setCell ⟨N, 0, none⟩ v).setCell ⟨N, 1, none⟩ (.bool s)) := by
  have hne : v.ownBlock ≠ some N := by
    rcases h.2 with ⟨rfl, _⟩ | ⟨g, cap, cur, rfl, h2, h3, _⟩
    · simp [Value.ownBlock]
    · intro he
      have : g = N := by simpa [Value.ownBlock] using he
      subst this
      rw [h3] at h0
      simp at h0
  refine ⟨⟨?_, hN, Ints_base (Ints_set (Ints_set h hne) hne) (Nat.zero_le _), fun k hk => by have := (Ints_lt h k hk).1; omega⟩, (hb.setCell hN _).setCell hN _⟩
  simp [World.setCell, Array.getElem?_modify, h0, Rest.obj, wholeQ]

end Go.Proofs.Yteanocjkdehhgaa

/- The program's comparison of two structs. -/
namespace Go.Proofs.Yteanocjkdehhgaa
open Go.RowKit
open Go.Lib (hid)
set_option linter.unusedVariables false

theorem W22_below {w : World} {s t : Bool} {v u : Value} {T : TypeId} : Below w.heap.size w ((w.alloc (.cells #[.bool s, v] T)).alloc (.cells #[.bool t, u] T)) := ((Below.refl _ _).alloc (Nat.le_refl _) _).alloc (by simp) _
theorem W22_1 {w : World} {s t : Bool} {v u : Value} {T : TypeId} : Loc T ((w.alloc (.cells #[.bool s, v] T)).alloc (.cells #[.bool t, u] T)) w.heap.size s v := (Loc.at rfl).new1
theorem W22_2 {w : World} {s t : Bool} {v u : Value} {T : TypeId} : Loc T ((w.alloc (.cells #[.bool s, v] T)).alloc (.cells #[.bool t, u] T)) (w.heap.size + 1) t u := Loc.at (by simp)
theorem Ints_rowW {w : World} {B n c : Nat} {a : Option Addr} {L : List Int} (h : Ints w B (.slice a n c) L) : RowI w a n L := by
  obtain ⟨x, y, e, -, r, -⟩ := Ints_form h
  cases e
  exact r
def cmpB (s : Bool) (A : List Int) (t : Bool) (B : List Int) : Int := if bok s A && bok t B then sgn (sval s (val A) - sval t (val B)) else 0
theorem cmpB_no {s t : Bool} {A B : List Int} (h : bok s A = false ∨ bok t B = false) : cmpB s A t B = 0 := by
  unfold cmpB; rcases h with h | h <;> simp [h]
theorem cmpB_yes {s t : Bool} {A B : List Int} (h : bok s A = true) (h' : bok t B = true) : cmpB s A t B = sgn (sval s (val A) - sval t (val B)) := by simp [cmpB, h, h']
theorem pos_of {A : List Int} (h : bok true A = true) : 0 < val A := by
  obtain ⟨h1, h2⟩ := bok_iff.1 h
  have h3 := Can_ge (nok_iff.1 h1).2 (h2 rfl)
  have := pw_pos (A.length - 1)
  omega
theorem cmpB_tt {A B : List Int} (h : bok true A = true) (h' : bok true B = true) : cmpB true A true B = cmpL B A := by
  rw [cmpB_yes h h', cmpL_val (nok_iff.1 (bok_iff.1 h').1).2 (nok_iff.1 (bok_iff.1 h).1).2]
  simp only [sval, if_true]
  congr 1
  omega
theorem cmpB_tf {A B : List Int} (h : bok true A = true) (h' : bok false B = true) : cmpB true A false B = -1 := by
  rw [cmpB_yes h h']
  have := pos_of h
  have := val_nonneg (nok_lim (bok_iff.1 h').1)
  simp only [sval, if_true]
  unfold sgn
  rw [if_pos (by simp; omega)]
theorem cmpB_ft {A B : List Int} (h : bok false A = true) (h' : bok true B = true) : cmpB false A true B = 1 := by
  rw [cmpB_yes h h']
  have := pos_of h'
  have := val_nonneg (nok_lim (bok_iff.1 h).1)
  unfold sgn
  rw [if_neg (by simp [sval]; omega), if_pos (by simp [sval]; omega)]
theorem cmpB_ff {A B : List Int} (h : bok false A = true) (h' : bok false B = true) : cmpB false A false B = cmpL A B := by
  rw [cmpB_yes h h', cmpL_val (nok_iff.1 (bok_iff.1 h).1).2 (nok_iff.1 (bok_iff.1 h').1).2]
  rfl

set_option maxRecDepth 100000 in
set_option maxHeartbeats 3200000 in
theorem impl_BigIntCmp (s t : Bool) (v u : Value) (A B : List Int) (hA : A.length ≤ 1073741824) (hB : B.length ≤ 1073741824) (b1 b2 : Nat) (w : World) (h1 : Ints w b1 v A) (h2 : Ints w b2 u B) :
    Calls Try.prog 129 #[.agg #[.bool s, v], .agg #[.bool t, u]] w (RetB (.int .i64 (cmpB s A t B)) w) := by
  obtain ⟨Z, hZ⟩ : ∃ Z, Z = cmpB s A t B := ⟨_, rfl⟩
  have HZ := hid hZ
  rw [← hZ]
  clear hZ
  have KA := hid (fun (W : World) (h : Ints W b1 v A) => impl_BigIntOk_own s v A hA b1 W h)
  have KB := hid (fun (W : World) (h : Ints W b2 u B) => impl_BigIntOk_own t u B hB b2 W h)
  have B0 := hid (W22_below (w := w) (s := s) (v := v) (t := t) (u := u) (T := 31))
  have L1 := hid (W22_1 (w := w) (s := s) (v := v) (t := t) (u := u) (T := 31))
  have L2 := hid (W22_2 (w := w) (s := s) (v := v) (t := t) (u := u) (T := 31))
  have I1 := hid (Ints_old h1 B0.out)
  have I2 := hid (Ints_old h2 B0.out)
  obtain ⟨a, c, rfl, -⟩ := Ints_form h1
  obtain ⟨a', c', rfl, -⟩ := Ints_form h2
  clear h1 h2
  cases e1 : bok s A with
  | false =>
    have hE := hid (HZ.out.trans (cmpB_no (.inl e1)))
    rw [e1] at KA
    clear e1
    go_enter Try.func129, Try.ntmps129
    go_wp2_with fail
    refine (KA.out _ I1.out).mono ?_
    rintro e w1 ⟨rfl, b1⟩
    have B0 := hid (B0.out.trans (b1.mono B0.out.size))
    clear b1
    go_wp2
    go_ret
    exact ⟨ret_int hE.out.symm, B0.out⟩
  | true =>
    rw [e1] at KA
    cases e2 : bok t B with
    | false =>
      have hE := hid (HZ.out.trans (cmpB_no (.inr e2)))
      rw [e2] at KB
      clear e1 e2
      go_enter Try.func129, Try.ntmps129
      go_wp2_with fail
      refine (KA.out _ I1.out).mono ?_
      rintro e w1 ⟨rfl, b1⟩
      have B0 := hid (B0.out.trans (b1.mono B0.out.size))
      have I2 := hid (Ints_old I2.out b1)
      have L2 := hid (L2.out.old b1)
      have q0 := L2.out.c0
      have q1 := L2.out.c1
      clear b1
      go_wp2_with fail
      refine (KB.out _ I2.out).mono ?_
      rintro e w2 ⟨rfl, b1⟩
      have B0 := hid (B0.out.trans (b1.mono B0.out.size))
      clear b1 q0 q1
      go_wp2
      go_ret
      exact ⟨ret_int hE.out.symm, B0.out⟩
    | true =>
      rw [e2] at KB
      cases s <;> cases t
      · have hE := hid (HZ.out.trans (cmpB_ff e1 e2))
        clear e1 e2
        go_enter Try.func129, Try.ntmps129
        go_wp2_with fail
        refine (KA.out _ I1.out).mono ?_
        rintro e w1 ⟨rfl, b1⟩
        have B0 := hid (B0.out.trans (b1.mono B0.out.size))
        have I1 := hid (Ints_old I1.out b1)
        have I2 := hid (Ints_old I2.out b1)
        have L1 := hid (L1.out.old b1)
        have L2 := hid (L2.out.old b1)
        have q0 := L2.out.c0
        have q1 := L2.out.c1
        clear b1
        go_wp2_with fail
        refine (KB.out _ I2.out).mono ?_
        rintro e w2 ⟨rfl, b1⟩
        have B0 := hid (B0.out.trans (b1.mono B0.out.size))
        have I1 := hid (Ints_old I1.out b1)
        have I2 := hid (Ints_old I2.out b1)
        have L1 := hid (L1.out.old b1)
        have L2 := hid (L2.out.old b1)
        clear b1 q0 q1
        have q0 := L2.out.c0
        have q1 := L2.out.c1
        have q2 := L1.out.c0
        have q3 := L1.out.c1
        have K3 := hid (compareLimbs_any a a' _ _ c c' A B hA hB w2 (Ints_rowW I1.out) (Ints_rowW I2.out))
        rw [← hE.out] at K3
        go_wp2_with fail
        refine K3.out.mono ?_
        rintro e w3 ⟨rfl, d, rfl⟩
        have B0 := hid (Below_drewN (d := d) B0.out)
        go_wp2
        go_ret
        exact ⟨rfl, B0.out⟩
      · have hE := hid (HZ.out.trans (cmpB_ft e1 e2))
        clear e1 e2
        go_enter Try.func129, Try.ntmps129
        go_wp2_with fail
        refine (KA.out _ I1.out).mono ?_
        rintro e w1 ⟨rfl, b1⟩
        have B0 := hid (B0.out.trans (b1.mono B0.out.size))
        have I1 := hid (Ints_old I1.out b1)
        have I2 := hid (Ints_old I2.out b1)
        have L1 := hid (L1.out.old b1)
        have L2 := hid (L2.out.old b1)
        have q0 := L2.out.c0
        have q1 := L2.out.c1
        clear b1
        go_wp2_with fail
        refine (KB.out _ I2.out).mono ?_
        rintro e w2 ⟨rfl, b1⟩
        have B0 := hid (B0.out.trans (b1.mono B0.out.size))
        have I1 := hid (Ints_old I1.out b1)
        have I2 := hid (Ints_old I2.out b1)
        have L1 := hid (L1.out.old b1)
        have L2 := hid (L2.out.old b1)
        clear b1 q0 q1
        have q0 := L2.out.c0
        have q1 := L2.out.c1
        have q2 := L1.out.c0
        have q3 := L1.out.c1
        go_wp2
        go_ret
        exact ⟨ret_int hE.out.symm, B0.out⟩
      · have hE := hid (HZ.out.trans (cmpB_tf e1 e2))
        clear e1 e2
        go_enter Try.func129, Try.ntmps129
        go_wp2_with fail
        refine (KA.out _ I1.out).mono ?_
        rintro e w1 ⟨rfl, b1⟩
        have B0 := hid (B0.out.trans (b1.mono B0.out.size))
        have I1 := hid (Ints_old I1.out b1)
        have I2 := hid (Ints_old I2.out b1)
        have L1 := hid (L1.out.old b1)
        have L2 := hid (L2.out.old b1)
        have q0 := L2.out.c0
        have q1 := L2.out.c1
        clear b1
        go_wp2_with fail
        refine (KB.out _ I2.out).mono ?_
        rintro e w2 ⟨rfl, b1⟩
        have B0 := hid (B0.out.trans (b1.mono B0.out.size))
        have I1 := hid (Ints_old I1.out b1)
        have I2 := hid (Ints_old I2.out b1)
        have L1 := hid (L1.out.old b1)
        have L2 := hid (L2.out.old b1)
        clear b1 q0 q1
        have q0 := L2.out.c0
        have q1 := L2.out.c1
        have q2 := L1.out.c0
        have q3 := L1.out.c1
        go_wp2
        go_ret
        exact ⟨ret_int hE.out.symm, B0.out⟩
      · have hE := hid (HZ.out.trans (cmpB_tt e1 e2))
        clear e1 e2
        go_enter Try.func129, Try.ntmps129
        go_wp2_with fail
        refine (KA.out _ I1.out).mono ?_
        rintro e w1 ⟨rfl, b1⟩
        have B0 := hid (B0.out.trans (b1.mono B0.out.size))
        have I1 := hid (Ints_old I1.out b1)
        have I2 := hid (Ints_old I2.out b1)
        have L1 := hid (L1.out.old b1)
        have L2 := hid (L2.out.old b1)
        have q0 := L2.out.c0
        have q1 := L2.out.c1
        clear b1
        go_wp2_with fail
        refine (KB.out _ I2.out).mono ?_
        rintro e w2 ⟨rfl, b1⟩
        have B0 := hid (B0.out.trans (b1.mono B0.out.size))
        have I1 := hid (Ints_old I1.out b1)
        have I2 := hid (Ints_old I2.out b1)
        have L1 := hid (L1.out.old b1)
        have L2 := hid (L2.out.old b1)
        clear b1 q0 q1
        have q0 := L2.out.c0
        have q1 := L2.out.c1
        have q2 := L1.out.c0
        have q3 := L1.out.c1
        have K3 := hid (compareLimbs_any a' a _ _ c' c B A hB hA w2 (Ints_rowW I2.out) (Ints_rowW I1.out))
        rw [← hE.out] at K3
        go_wp2_with fail
        refine K3.out.mono ?_
        rintro e w3 ⟨rfl, d, rfl⟩
        have B0 := hid (Below_drewN (d := d) B0.out)
        go_wp2
        go_ret
        exact ⟨rfl, B0.out⟩
end Go.Proofs.Yteanocjkdehhgaa

/- The sign and the limbs of an integer, and back. -/
namespace Go.Proofs.Yteanocjkdehhgaa
open Go.RowKit
open Go.Lib (hid)
set_option linter.unusedVariables false

theorem gz_ok {Z : Int} (h : (Z.natAbs : Int) < pw 60) : bok (gzs Z) (gzl Z) = true ∧ sval (gzs Z) (val (gzl Z)) = Z := by
  have e1 : gzl Z = rep (Z.natAbs : Int).toNat := by unfold gzl; rw [capped_of h]
  have hv : val (gzl Z) = (Z.natAbs : Int) := by rw [e1, val_rep' (by omega)]
  have hn : nok (gzl Z) = true := by rw [e1]; exact nok_iff.2 ⟨rep_len h, Can_rep _⟩
  by_cases hz : Z < 0
  · have hs : gzs Z = true := by unfold gzs; simp; omega
    rw [hs]
    refine ⟨bok_ne hn ?_, by rw [hv]; unfold sval; rw [if_pos rfl]; omega⟩
    intro e
    rw [e] at hv
    simp only [val] at hv
    omega
  · have hs : gzs Z = false := by unfold gzs; simp; omega
    rw [hs]
    exact ⟨bok_pos hn, by rw [hv]; show ((Z.natAbs : Nat) : Int) = Z; omega⟩
theorem gz_of {s : Bool} {L : List Int} (h : bok s L = true) : gzs (sval s (val L)) = s ∧ gzl (sval s (val L)) = L := by
  obtain ⟨hn, hne⟩ := bok_iff.1 h
  have h0 := val_nonneg (nok_lim hn)
  have hlt := nok_lt hn
  refine ⟨?_, by rw [gzl_sval h0, capped_of hlt, rep_val (nok_iff.1 hn).2]⟩
  cases s with
  | false => unfold gzs sval; simp; omega
  | true =>
    have := pos_of h
    exact gzs_sval this hlt

theorem big_len {s : Bool} {L : List Int} (h : bok s L = true) : L.length ≤ 1073741824 := by have := nok_len (bok_iff.1 h).1; omega
end Go.Proofs.Yteanocjkdehhgaa

/- The program's carry of 1 into a canonical number; BigIntOf. -/
namespace Go.Proofs.Yteanocjkdehhgaa
open Go.RowKit
open Go.Lib (hid)
set_option linter.unusedVariables false
variable {Q : Rest}

theorem Can_of_ge {M : List Int} (h : Lim M) (hv : M ≠ [] → pw (M.length - 1) ≤ val M) : Can M := by
  refine ⟨h, fun hne h0 => ?_⟩
  have h1 := hv hne
  have hl : 0 < M.length := List.length_pos_iff.2 hne
  have h2 : val (M.take (M.length - 1)) = val (M.take (M.length - 1 + 1)) := trim_step (by omega) (by rw [List.getLast_eq_getElem] at h0; exact h0)
  rw [show M.length - 1 + 1 = M.length by omega, List.take_length] at h2
  have h3 := val_lt (Lim_take h (M.length - 1))
  rw [List.length_take, Nat.min_eq_left (by omega)] at h3
  omega
theorem rep_of {M : List Int} {V : Int} (h : Lim M) (hv : val M = V) (hg : M ≠ [] → pw (M.length - 1) ≤ V) : M = rep V.toNat := by
  rw [← hv] at hg ⊢
  exact (rep_val (Can_of_ge h hg)).symm
theorem carry_one (S : Nat → Prop) (N : Nat) (v : Value) (m : Int) (m0 : 0 ≤ m) (hl : (rep m.toNat).length ≤ 1073741000) (w : World) (h : IsNat Q w S N v (rep m.toNat)) (hS : ∀ k, w.heap.size ≤ k → S k) :
    Calls Try.prog 169 #[.pointer (some ⟨N, 0, none⟩), .int .i64 0, .int .i64 1] w (MethP Q S N (rep (m + 1).toNat) w) := by
  have hr := val_rep' m0
  refine (carry_any S N v (rep m.toNat) 0 1 (by decide) (by simp) hl (Lim_rep _) (by decide) (by decide) (by simp [pw]; omega) w h hS).mono fun e w' hc => ?_
  obtain ⟨he, ⟨u, M, hI, hL, hM, hn, hp⟩, ho⟩ := hc
  rw [hr] at hM hp
  have hM' : val M = m + 1 := by simpa [pw] using hM
  have hp' : M.length = (rep m.toNat).length + 1 → pw ((rep m.toNat).length) ≤ m + 1 := by simpa [pw] using hp
  have e1 : M = rep (m + 1).toNat := by
    refine rep_of hL hM' fun hne => ?_
    have hlm : 0 < M.length := List.length_pos_iff.2 hne
    by_cases hx : M.length = (rep m.toNat).length + 1
    · rw [hx]; exact hp' hx
    · have hge : (rep m.toNat) ≠ [] := by intro e; rw [e] at hn hx; simp at hn hx; omega
      have h1 := Can_ge (Can_rep m.toNat) hge
      rw [hr] at h1
      have h2 := pw_le (m := M.length - 1) (n := (rep m.toNat).length - 1) (by omega)
      omega
  exact ⟨he, ⟨u, by rw [← e1]; exact hI⟩, ho⟩
theorem i64_small {n : Int} (h0 : -9223372036854775808 ≤ n) (h1 : n ≤ 9223372036854775807) : (n.natAbs : Int) < pw 60 := by
  have := pw_le (m := 3) (n := 60) (by omega)
  have e3 : pw 3 = 1000000000000000000000000000 := by decide
  omega
theorem gz_nonneg {n : Int} (h0 : 0 ≤ n) (h1 : (n.natAbs : Int) < pw 60) : gzs n = false ∧ gzl n = rep n.toNat := by
  constructor
  · unfold gzs; simp; omega
  · unfold gzl; rw [capped_of h1]; congr 1; omega
theorem gz_neg {n m : Int} (hm : n = -m) (h0 : 0 ≤ m) : gzs (sval true m) = gzs n ∧ gzl (sval true m) = gzl n := by
  subst hm; exact ⟨rfl, rfl⟩
set_option maxRecDepth 100000 in
set_option maxHeartbeats 3200000 in
theorem impl_BigIntOf (n : Int) (h0 : -9223372036854775808 ≤ n) (h1 : n ≤ 9223372036854775807) (w : World) :
    Calls Try.prog 191 #[.int .i64 n] w (OwnG (gzs n) (gzl n) w) := by
  have hsm := hid (i64_small h0 h1)
  obtain ⟨gs, hgs⟩ : ∃ g, g = gzs n := ⟨_, rfl⟩
  obtain ⟨gl, hgl⟩ : ∃ g, g = gzl n := ⟨_, rfl⟩
  have HGS := hid hgs
  have HGL := hid hgl
  rw [← hgs, ← hgl]
  clear hgs hgl
  have B0 := hid (below_new' (w := w) (o := .cells #[.bool false, .slice none 0 0] 31))
  have L0 := hid (Loc.new (w := w) (T := 31) (s := false) (v := .slice none 0 0))
  by_cases hn : 0 ≤ n
  · have hg := hid (gz_nonneg hn hsm.out)
    have K := hid (fun (W : World) => impl_NatOf n h1 W)
    go_enter Try.func191, Try.ntmps191
    go_wp2_with fail
    generalize w.alloc (.cells #[.bool false, .slice none 0 0] 31) = W at B0 L0 ⊢
    refine (K.out _).mono ?_
    rintro e w1 ⟨r, rfl, ir, b1⟩
    have B1 := hid (B0.out.trans (b1.mono B0.out.size))
    have L1 := hid (L0.out.old b1)
    have R := hid (OwnG_out1 (s := false) (w := w) (b := w.heap.size) B0.out.size (Nat.le_refl _) L1.out (by decide) ir B1.out)
    obtain ⟨ar, cr, rfl, -⟩ := Ints_form ir
    have f0 := L1.out.f0 0
    have f1 := L1.out.f0 1
    have p0 := L1.out.c0
    have p1 := L1.out.c1
    clear ir b1
    go_wp2
    refine bodyPost_ret (v := .agg #[.bool false, .slice ar (rep n.toNat).length cr]) (by simp [results, Try.results191, go_sem, p0, p1]) rfl ?_
    rw [HGS.out, HGL.out, hg.out.1, hg.out.2]
    exact R.out
  · have hn' : n < 0 := by omega
    obtain ⟨m, hm⟩ : ∃ m, m = -(n + 1) := ⟨_, rfl⟩
    have m0 : 0 ≤ m := by omega
    have m1 : m ≤ 9223372036854775807 := by omega
    have K := hid (fun (W : World) => impl_NatOf m m1 W)
    have hg := hid (gz_neg (n := n) (m := m + 1) (by omega) (by omega))
    have hml := hid (show (rep m.toNat).length ≤ 1073741000 by
      have := rep_short m1
      omega)
    have HM := hid hm
    clear hm
    go_enter Try.func191, Try.ntmps191
    go_wp2_with fail
    rw [← HM.out]
    generalize w.alloc (.cells #[.bool false, .slice none 0 0] 31) = W at B0 L0 ⊢
    refine (K.out _).mono ?_
    rintro e w1 ⟨r, rfl, ir, b1⟩
    have B1 := hid (B0.out.trans (b1.mono B0.out.size))
    have L1 := hid (L0.out.old b1)
    have hlt := hid (show w.heap.size < W.heap.size from L0.out.lt)
    have F := IsNat_whole (w := W) (s := true) ir b1 (Nat.le_refl _)
    have F1 := hid F.1
    have BB := hid (B0.out.trans (F.2.mono B0.out.size))
    have L1 := hid (L1.out.new1 (o := .cells #[r, .bool true] 213))
    obtain ⟨ar, cr, rfl, -⟩ := Ints_form ir
    have hsz := hid (show W.heap.size ≤ w1.heap.size from b1.size)
    clear F ir b1
    go_wp2_with fail
    refine (carry_one _ _ _ m m0 hml.out _ F1.out (fun k hk => by simp at hk; have := hsz.out; omega)).mono ?_
    rintro e w2 ⟨rfl, ⟨y, h2⟩, o2⟩
    have H2 := hid h2
    have L1 := hid (L1.out.only o2 (by have := hlt.out; simp; omega))
    have BB := hid (BB.out.trans (o2.below (B := w.heap.size) fun k hk hs => by have := hlt.out; omega))
    clear h2 o2
    go_wp2_with fail
    refine (bigInt_own _ true _ y (m + 1) (by omega) _ H2.out).mono ?_
    rintro e w3 ⟨r, rfl, ir, b1⟩
    rw [hg.out.2, ← HGL.out] at ir
    rw [hg.out.1, ← HGS.out]
    have L1 := hid (L1.out.old b1)
    have BB := hid (BB.out.trans (b1.mono BB.out.size))
    have R := hid (OwnG_out1 (s := gs) (w := w) (b := w.heap.size) (Nat.le_of_lt hlt.out) (Nat.le_refl _) L1.out (by decide) ir BB.out)
    obtain ⟨ar, cr, rfl, -⟩ := Ints_form ir
    have f0 := L1.out.f0 0
    have f1 := L1.out.f0 1
    have p0 := L1.out.c0
    have p1 := L1.out.c1
    clear ir b1
    go_wp2
    exact bodyPost_ret (v := .agg #[.bool gs, .slice ar gl.length cr]) (by simp [results, Try.results191, go_sem, p0, p1]) rfl R.out
end Go.Proofs.Yteanocjkdehhgaa

/- BigIntToInt of the program and of the reference. -/
namespace Go.Proofs.Yteanocjkdehhgaa
open Go.RowKit
open Go.Lib (hid)
set_option linter.unusedVariables false

def btB (s : Bool) (A : List Int) : Bool := bok s A && tiB A
def btV (s : Bool) (A : List Int) : Int := if btB s A then sval s (val A) else 0
theorem bt_no {s : Bool} {A : List Int} (h : bok s A = false ∨ tiB A = false) : btB s A = false ∧ btV s A = 0 := by
  have : btB s A = false := by unfold btB; rcases h with h | h <;> simp [h]
  exact ⟨this, by unfold btV; rw [this]; rfl⟩
theorem bt_yes {s : Bool} {A : List Int} (h : bok s A = true) (h' : tiB A = true) : btB s A = true ∧ btV s A = sval s (tiV A) := by
  have : btB s A = true := by unfold btB; simp [h, h']
  exact ⟨this, by unfold btV tiV; rw [this, h']; rfl⟩
theorem tiV_bd {A : List Int} : 0 ≤ tiV A ∧ tiV A ≤ 9223372036854775807 := by
  unfold tiV
  split
  · next h =>
    unfold tiB at h
    simp only [Bool.and_eq_true, decide_eq_true_eq] at h
    exact ⟨val_nonneg (nok_lim h.1), h.2⟩
  · decide
theorem tiV_no {A : List Int} (h : tiB A = false) : tiV A = 0 := by unfold tiV; rw [h]; rfl
end Go.Proofs.Yteanocjkdehhgaa

/- The reference's making of a struct: l03Make. -/
namespace Go.Proofs.Yteanocjkdehhgaa
open Go.RowKit
open Go.Lib (hid)
set_option linter.unusedVariables false

theorem cappedLen {V : Int} : (capped V).length ≤ 60 := by
  unfold capped
  split
  · exact rep_len (by assumption)
  · simp
theorem gz_make {s : Bool} {V : Int} (h : 0 ≤ V) : gzl (sval s V) = capped V ∧ gzs (sval s V) = (s && decide (0 < (capped V).length)) := by
  refine ⟨gzl_sval h, ?_⟩
  by_cases hz : V = 0
  · subst hz
    have : capped 0 = [] := by unfold capped; simp [rep_zero]
    rw [this]
    cases s <;> simp [sval, gzs]
  · by_cases hb : V < pw 60
    · rw [gzs_sval (by omega) hb, capped_of hb]
      have : 0 < (rep V.toNat).length := List.length_pos_iff.2 (rep_ne (by omega))
      simp [this]
    · rw [gzs_big (by rw [sval_abs h]; omega)]
      have : capped V = [] := by unfold capped; rw [if_neg hb]
      simp [this]
set_option maxRecDepth 100000 in
set_option maxHeartbeats 3200000 in
theorem l03Make_own (s : Bool) (B : Nat) (v : Value) (L : List Int) (hL : L.length ≤ 1073741824) (hl : Lim L) (w : World) (h : Ints w B v L) :
    Calls Try.prog 131 #[.bool s, v] w (OwnG (gzs (sval s (val L))) (gzl (sval s (val L))) w) := by
  obtain ⟨i3, hi, hz0, hz1, hz2⟩ := info_parts Try.info3
  have HG := gz_make (s := s) (val_nonneg hl)
  rw [HG.1, HG.2]
  clear HG
  have K := hid (l02Cap_own B v L hL hl _ (addPre (o := .cells #[.bool false, .slice none 0 0] 31) h))
  have hcl := cappedLen (V := val L)
  obtain ⟨M, hM⟩ : ∃ M, M = capped (val L) := ⟨_, rfl⟩
  rw [← hM] at K hcl ⊢
  clear hM
  have B0 := hid (below_new' (w := w) (o := .cells #[.bool false, .slice none 0 0] 31))
  have L0 := hid (Loc.new (w := w) (T := 31) (s := false) (v := .slice none 0 0))
  obtain ⟨a, c, rfl, -⟩ := Ints_form h
  clear h
  generalize hW : w.alloc (.cells #[.bool false, .slice none 0 0] 31) = W at K B0 L0
  have HW := hid hW
  clear hW
  obtain ⟨gs, hgs⟩ : ∃ g, g = (s && decide (0 < M.length)) := ⟨_, rfl⟩
  rw [← hgs]
  have HGS := hid hgs
  clear hgs
  cases s
  · have hE := hid (show gs = false by rw [HGS.out]; rfl)
    go_enter Try.func131, Try.ntmps131
    go_wp2_with fail
    rw [HW.out]
    refine K.out.mono ?_
    rintro e w1 ⟨⟨u, rfl, hu, -⟩, rfl⟩
    have HU := hid hu
    have HX := hid (Ints_lit0 (w := W) rfl)
    have HB := hid (below_new' (w := W) (o := .cells #[] 3))
    rcases Ints_cases hu with ⟨rfl, hnil⟩ | ⟨g, cc, rfl, -, hg, hcc⟩
    · obtain rfl : [] = M := hnil.symm
      clear hu
      have BB := hid (B0.out.trans (HB.out.mono B0.out.size))
      have LL := hid (L0.out.old HB.out)
      have R := hid (OwnG_out1 (s := false) (w := w) (b := w.heap.size) B0.out.size (Nat.le_refl _) LL.out (by decide) HX.out BB.out)
      have f0 := LL.out.f0 0
      have f1 := LL.out.f0 1
      have p0 := LL.out.c0
      have p1 := LL.out.c1
      go_wp2_with (at_builtin; refine wpList_append_own_none rfl _ _ 22 rfl W.heap.size 3 i3 1 Try.underlying22 hi _ 0 [] rfl HX.out rfl ?_)
      refine bodyPost_ret (v := .agg #[.bool false, .slice (some ⟨W.heap.size, 0, none⟩) 0 0]) (by simp [results, Try.results131, go_sem, p0, p1]) rfl ?_
      rw [hE.out]
      exact R.out
    · have HCb := hid (fun j (x : Value) (hx : (M.map (Value.int .i64))[j]? = some x) => show (W.alloc (.cells #[] 3)).cell? ((⟨g, 0, none⟩ : Addr).add j) = some x by
        rw [Go.WideShapes.add_plain, Nat.zero_add]
        rw [List.getElem?_map] at hx
        obtain ⟨y, hy, rfl⟩ := Option.map_eq_some_iff.1 hx
        obtain ⟨hj, rfl⟩ := List.getElem?_eq_some_iff.1 hy
        exact Ints_cell (addPre HU.out) hj)
      clear hu
      go_wp2_with (at_builtin; refine wpList_append_own _ rfl _ _ 22 rfl W.heap.size 3 i3 (.int .i64 0) 1 8 Try.underlying22 hi hz0 hz1 hz2 rfl (by decide) (.slice (some ⟨W.heap.size, 0, none⟩) 0 0) 0 [] rfl HX.out ⟨g, 0, none⟩ M.length cc (M.map (Value.int .i64)) rfl (by simp) ?c1 ?c2 ?c3 ?c4 ?c5 ?_)
      case c1 => exact HCb.out
      case c2 => intro x hx; obtain ⟨y, _, rfl⟩ := List.mem_map.1 hx; rfl
      case c3 => unfold maxLen; omega
      case c4 => omega
      case c5 => simp
      intro vb wl hown' hgrow _
      have hi2 : Ints wl W.heap.size vb M := by unfold Ints; simpa using hown'
      have hb2 : Below W.heap.size W wl := HB.out.grown hgrow (by simp) (fun k hk => by cases hk; exact Nat.le_refl _)
      have BB := hid (B0.out.trans (hb2.mono B0.out.size))
      have LL := hid (L0.out.old hb2)
      have R := hid (OwnG_out1 (s := false) (w := w) (b := w.heap.size) B0.out.size (Nat.le_refl _) LL.out (by decide) hi2 BB.out)
      obtain ⟨ab, cb, rfl, -⟩ := Ints_form hi2
      have f0 := LL.out.f0 0
      have f1 := LL.out.f0 1
      have p0 := LL.out.c0
      have p1 := LL.out.c1
      clear hown' hgrow hi2 hb2 HCb
      go_wp2
      refine bodyPost_ret (v := .agg #[.bool false, .slice ab M.length cb]) (by simp [results, Try.results131, go_sem, p0, p1]) rfl ?_
      rw [hE.out]
      exact R.out
  · by_cases h0 : 0 < M.length
    · have hE := hid (show gs = true by rw [HGS.out]; simp [h0])
      have h0' : (0 : Int) < M.length := by omega
      go_enter Try.func131, Try.ntmps131
      go_wp2_with fail
      rw [HW.out]
      refine K.out.mono ?_
      rintro e w1 ⟨⟨u, rfl, hu, -⟩, rfl⟩
      have HU := hid hu
      have HX := hid (Ints_lit0 (w := W) rfl)
      have HB := hid (below_new' (w := W) (o := .cells #[] 3))
      rcases Ints_cases hu with ⟨rfl, hnil⟩ | ⟨g, cc, rfl, -, hg, hcc⟩
      · obtain rfl : [] = M := hnil.symm
        clear hu
        exact absurd h0 (by simp)
      · have HCb := hid (fun j (x : Value) (hx : (M.map (Value.int .i64))[j]? = some x) => show (W.alloc (.cells #[] 3)).cell? ((⟨g, 0, none⟩ : Addr).add j) = some x by
          rw [Go.WideShapes.add_plain, Nat.zero_add]
          rw [List.getElem?_map] at hx
          obtain ⟨y, hy, rfl⟩ := Option.map_eq_some_iff.1 hx
          obtain ⟨hj, rfl⟩ := List.getElem?_eq_some_iff.1 hy
          exact Ints_cell (addPre HU.out) hj)
        clear hu
        go_wp2_with (at_builtin; refine wpList_append_own _ rfl _ _ 22 rfl W.heap.size 3 i3 (.int .i64 0) 1 8 Try.underlying22 hi hz0 hz1 hz2 rfl (by decide) (.slice (some ⟨W.heap.size, 0, none⟩) 0 0) 0 [] rfl HX.out ⟨g, 0, none⟩ M.length cc (M.map (Value.int .i64)) rfl (by simp) ?c1 ?c2 ?c3 ?c4 ?c5 ?_)
        case c1 => exact HCb.out
        case c2 => intro x hx; obtain ⟨y, _, rfl⟩ := List.mem_map.1 hx; rfl
        case c3 => unfold maxLen; omega
        case c4 => omega
        case c5 => simp
        intro vb wl hown' hgrow _
        have hi2 : Ints wl W.heap.size vb M := by unfold Ints; simpa using hown'
        have hb2 : Below W.heap.size W wl := HB.out.grown hgrow (by simp) (fun k hk => by cases hk; exact Nat.le_refl _)
        have BB := hid (B0.out.trans (hb2.mono B0.out.size))
        have LL := hid (L0.out.old hb2)
        have R := hid (OwnG_out1 (s := true) (w := w) (b := w.heap.size) B0.out.size (Nat.le_refl _) LL.out (by decide) hi2 BB.out)
        obtain ⟨ab, cb, rfl, -⟩ := Ints_form hi2
        have f0 := LL.out.f0 0
        have f1 := LL.out.f0 1
        have p0 := LL.out.c0
        have p1 := LL.out.c1
        clear hown' hgrow hi2 hb2 HCb
        go_wp2
        refine bodyPost_ret (v := .agg #[.bool true, .slice ab M.length cb]) (by simp [results, Try.results131, go_sem, p0, p1]) rfl ?_
        rw [hE.out]
        exact R.out
    · have hE := hid (show gs = false by rw [HGS.out]; simp [h0])
      have h0' : ¬ (0 : Int) < M.length := by omega
      go_enter Try.func131, Try.ntmps131
      go_wp2_with fail
      rw [HW.out]
      refine K.out.mono ?_
      rintro e w1 ⟨⟨u, rfl, hu, -⟩, rfl⟩
      have HU := hid hu
      have HX := hid (Ints_lit0 (w := W) rfl)
      have HB := hid (below_new' (w := W) (o := .cells #[] 3))
      rcases Ints_cases hu with ⟨rfl, hnil⟩ | ⟨g, cc, rfl, -, hg, hcc⟩
      · obtain rfl : [] = M := hnil.symm
        clear hu
        have BB := hid (B0.out.trans (HB.out.mono B0.out.size))
        have LL := hid (L0.out.old HB.out)
        have R := hid (OwnG_out1 (s := false) (w := w) (b := w.heap.size) B0.out.size (Nat.le_refl _) LL.out (by decide) HX.out BB.out)
        have f0 := LL.out.f0 0
        have f1 := LL.out.f0 1
        have p0 := LL.out.c0
        have p1 := LL.out.c1
        go_wp2_with (at_builtin; refine wpList_append_own_none rfl _ _ 22 rfl W.heap.size 3 i3 1 Try.underlying22 hi _ 0 [] rfl HX.out rfl ?_)
        refine bodyPost_ret (v := .agg #[.bool false, .slice (some ⟨W.heap.size, 0, none⟩) 0 0]) (by simp [results, Try.results131, go_sem, p0, p1]) rfl ?_
        rw [hE.out]
        exact R.out
      · have HCb := hid (fun j (x : Value) (hx : (M.map (Value.int .i64))[j]? = some x) => show (W.alloc (.cells #[] 3)).cell? ((⟨g, 0, none⟩ : Addr).add j) = some x by
          rw [Go.WideShapes.add_plain, Nat.zero_add]
          rw [List.getElem?_map] at hx
          obtain ⟨y, hy, rfl⟩ := Option.map_eq_some_iff.1 hx
          obtain ⟨hj, rfl⟩ := List.getElem?_eq_some_iff.1 hy
          exact Ints_cell (addPre HU.out) hj)
        clear hu
        go_wp2_with (at_builtin; refine wpList_append_own _ rfl _ _ 22 rfl W.heap.size 3 i3 (.int .i64 0) 1 8 Try.underlying22 hi hz0 hz1 hz2 rfl (by decide) (.slice (some ⟨W.heap.size, 0, none⟩) 0 0) 0 [] rfl HX.out ⟨g, 0, none⟩ M.length cc (M.map (Value.int .i64)) rfl (by simp) ?c1 ?c2 ?c3 ?c4 ?c5 ?_)
        case c1 => exact HCb.out
        case c2 => intro x hx; obtain ⟨y, _, rfl⟩ := List.mem_map.1 hx; rfl
        case c3 => unfold maxLen; omega
        case c4 => omega
        case c5 => simp
        intro vb wl hown' hgrow _
        have hi2 : Ints wl W.heap.size vb M := by unfold Ints; simpa using hown'
        have hb2 : Below W.heap.size W wl := HB.out.grown hgrow (by simp) (fun k hk => by cases hk; exact Nat.le_refl _)
        have BB := hid (B0.out.trans (hb2.mono B0.out.size))
        have LL := hid (L0.out.old hb2)
        have R := hid (OwnG_out1 (s := false) (w := w) (b := w.heap.size) B0.out.size (Nat.le_refl _) LL.out (by decide) hi2 BB.out)
        obtain ⟨ab, cb, rfl, -⟩ := Ints_form hi2
        have f0 := LL.out.f0 0
        have f1 := LL.out.f0 1
        have p0 := LL.out.c0
        have p1 := LL.out.c1
        clear hown' hgrow hi2 hb2 HCb
        go_wp2
        refine bodyPost_ret (v := .agg #[.bool false, .slice ab M.length cb]) (by simp [results, Try.results131, go_sem, p0, p1]) rfl ?_
        rw [hE.out]
        exact R.out
end Go.Proofs.Yteanocjkdehhgaa

/- The reference's BigIntOf and BigIntNeg. -/
namespace Go.Proofs.Yteanocjkdehhgaa
open Go.RowKit
open Go.Lib (hid)
set_option linter.unusedVariables false

theorem val_min : val [854775808, 223372036, 9] = 9223372036854775808 := by decide
theorem Lim_min : Lim [854775808, 223372036, 9] := by intro x hx; simp at hx; omega
theorem OwnG_in {s : Bool} {L : List Int} {w w1 w2 : World} {e : Ending} {b : Nat} {T : TypeId} (h : OwnG s L w1 e w2) (hL : Loc T w1 b false (.slice none 0 0)) (hB : Below w.heap.size w w1) :
    ∃ r, e = .returned (.agg #[.bool s, r]) ∧ Ints w2 w1.heap.size r L ∧ Loc T w2 b false (.slice none 0 0) ∧ Below w.heap.size w w2 := by
  obtain ⟨r, he, hi, hb⟩ := h
  exact ⟨r, he, hi, hL.old hb, hB.trans (hb.mono hB.size)⟩
set_option maxRecDepth 100000 in
set_option maxHeartbeats 3200000 in
theorem spec_BigIntOf (n : Int) (h0 : -9223372036854775808 ≤ n) (h1 : n ≤ 9223372036854775807) (w : World) :
    Calls Try.prog 121 #[.int .i64 n] w (OwnG (gzs n) (gzl n) w) := by
  obtain ⟨gs, hgs⟩ : ∃ g, g = gzs n := ⟨_, rfl⟩
  obtain ⟨gl, hgl⟩ : ∃ g, g = gzl n := ⟨_, rfl⟩
  have HGS := hid hgs
  have HGL := hid hgl
  rw [← hgs, ← hgl]
  clear hgs hgl
  have B0 := hid (below_new' (w := w) (o := .cells #[.bool false, .slice none 0 0] 31))
  have L0 := hid (Loc.new (w := w) (T := 31) (s := false) (v := .slice none 0 0))
  by_cases hm : n = -9223372036854775808
  · have hE := hid (gz_neg (n := n) (m := 9223372036854775808) (by omega) (by decide))
    have KM := hid (fun (W : World) (B : Nat) (v : Value) (h : Ints W B v [854775808, 223372036, 9]) => l03Make_own true B v _ (by decide) Lim_min W h)
    rw [val_min, hE.out.1, hE.out.2, ← HGS.out, ← HGL.out] at KM
    have hb : (n == -9223372036854775808) = true := by simpa using hm
    obtain ⟨z, hz⟩ : ∃ z, z = n := ⟨_, rfl⟩
    rw [← hz] at hb ⊢
    clear hm hz
    go_enter Try.func121, Try.ntmps121
    go_wp2_with fail
    have HX := hid (Ints_lit3 (w := w.alloc (.cells #[.bool false, .slice none 0 0] 31)) (x := 854775808) (y := 223372036) (z := 9))
    have B0 := hid (B0.out.trans ((below_new' (w := w.alloc (.cells #[.bool false, .slice none 0 0] 31)) (o := .cells #[.int .i64 854775808, .int .i64 223372036, .int .i64 9] 3)).mono B0.out.size))
    have L0 := hid (L0.out.new1 (o := .cells #[.int .i64 854775808, .int .i64 223372036, .int .i64 9] 3))
    have hsz : (w.alloc (.cells #[.bool false, .slice none 0 0] 31)).heap.size = w.heap.size + 1 := by simp
    rw [hsz] at HX
    clear hsz
    refine (KM.out _ _ _ HX.out).mono ?_
    rintro e w9 hk
    obtain ⟨r, rfl, ir, lr, br⟩ := OwnG_in hk L0.out B0.out
    have R := hid (OwnG_out1 (s := gs) (w := w) (b := w.heap.size) B0.out.size (by omega) lr (by decide) ir br)
    obtain ⟨ar, cr, rfl, -⟩ := Ints_form ir
    have f0 := lr.f0 0
    have f1 := lr.f0 1
    have p0 := lr.c0
    have p1 := lr.c1
    clear hk ir lr br
    go_wp2
    exact bodyPost_ret (v := .agg #[.bool gs, .slice ar gl.length cr]) (by simp [results, Try.results121, go_sem, p0, p1]) rfl R.out
  · by_cases hn : n < 0
    · have hne : (n == -9223372036854775808) = false := by simpa using hm
      obtain ⟨m, hmm⟩ : ∃ m, m = -n := ⟨_, rfl⟩
      have m0 : 0 ≤ m := by omega
      have m1 : m ≤ 9223372036854775807 := by omega
      have h0' : -9223372036854775807 ≤ n := by omega
      have KN := hid (fun (W : World) => spec_NatOf m m1 W)
      have hE := hid (gz_neg (n := n) (m := m) (by omega) m0)
      have hl := rep_short m1
      have KM := hid (fun (W : World) (B : Nat) (v : Value) (h : Ints W B v (rep m.toNat)) => l03Make_own true B v _ (by omega) (Lim_rep _) W h)
      rw [val_rep' m0, hE.out.1, hE.out.2, ← HGS.out, ← HGL.out] at KM
      have HMM := hid hmm
      clear hm hl hmm
      go_enter Try.func121, Try.ntmps121
      go_wp2_with fail
      rw [← HMM.out]
      generalize w.alloc (.cells #[.bool false, .slice none 0 0] 31) = W at B0 L0 ⊢
      (with_reducible refine (KN.out _).mono ?_)
      rintro e w1 ⟨u, rfl, iu, bu⟩
      have L0 := hid (L0.out.old bu)
      have B0 := hid (B0.out.trans (bu.mono B0.out.size))
      have HU := hid iu
      obtain ⟨au, cu, rfl, -⟩ := Ints_form iu
      clear iu bu
      go_wp2_with fail
      refine (KM.out _ _ _ HU.out).mono ?_
      rintro e w9 hk
      obtain ⟨r, rfl, ir, lr, br⟩ := OwnG_in hk L0.out B0.out
      have R := hid (OwnG_out1 (s := gs) (w := w) (b := w.heap.size) B0.out.size (by omega) lr (by decide) ir br)
      obtain ⟨ar, cr, rfl, -⟩ := Ints_form ir
      have f0 := lr.f0 0
      have f1 := lr.f0 1
      have p0 := lr.c0
      have p1 := lr.c1
      clear hk ir lr br
      go_wp2
      exact bodyPost_ret (v := .agg #[.bool gs, .slice ar gl.length cr]) (by simp [results, Try.results121, go_sem, p0, p1]) rfl R.out
    · have hne : (n == -9223372036854775808) = false := by simpa using hm
      have n0 : 0 ≤ n := by omega
      have KN := hid (fun (W : World) => spec_NatOf n h1 W)
      have hl := rep_short h1
      have KM := hid (fun (W : World) (B : Nat) (v : Value) (h : Ints W B v (rep n.toNat)) => l03Make_own false B v _ (by omega) (Lim_rep _) W h)
      rw [val_rep' n0, show sval false n = n from rfl, ← HGS.out, ← HGL.out] at KM
      clear hm hl
      go_enter Try.func121, Try.ntmps121
      go_wp2_with fail
      skip
      generalize w.alloc (.cells #[.bool false, .slice none 0 0] 31) = W at B0 L0 ⊢
      (with_reducible refine (KN.out _).mono ?_)
      rintro e w1 ⟨u, rfl, iu, bu⟩
      have L0 := hid (L0.out.old bu)
      have B0 := hid (B0.out.trans (bu.mono B0.out.size))
      have HU := hid iu
      obtain ⟨au, cu, rfl, -⟩ := Ints_form iu
      clear iu bu
      go_wp2_with fail
      refine (KM.out _ _ _ HU.out).mono ?_
      rintro e w9 hk
      obtain ⟨r, rfl, ir, lr, br⟩ := OwnG_in hk L0.out B0.out
      have R := hid (OwnG_out1 (s := gs) (w := w) (b := w.heap.size) B0.out.size (by omega) lr (by decide) ir br)
      obtain ⟨ar, cr, rfl, -⟩ := Ints_form ir
      have f0 := lr.f0 0
      have f1 := lr.f0 1
      have p0 := lr.c0
      have p1 := lr.c1
      clear hk ir lr br
      go_wp2
      exact bodyPost_ret (v := .agg #[.bool gs, .slice ar gl.length cr]) (by simp [results, Try.results121, go_sem, p0, p1]) rfl R.out

end Go.Proofs.Yteanocjkdehhgaa

/- The reference's signed sum, difference and product. -/
namespace Go.Proofs.Yteanocjkdehhgaa
open Go.RowKit
open Go.Lib (hid)
set_option linter.unusedVariables false

theorem OwnG_below {s : Bool} {L : List Int} {w w' : World} {e : Ending} (h : OwnG s L w e w') : Below w.heap.size w w' := by obtain ⟨r, _, _, hb⟩ := h; exact hb
theorem Can_le {A B : List Int} (hA : Can A) (hB : Can B) (h : val B ≤ val A) : B.length ≤ A.length := by
  have := (Can_len hA (k := A.length)).1 (Nat.le_refl _)
  exact (Can_len hB).2 (by omega)
theorem add_eq {s : Bool} {x y : Int} : sval s x + sval s y = sval s (x + y) := by cases s <;> simp [sval] <;> omega
theorem sub_eq1 {s t : Bool} {x y : Int} (h : s ≠ t) : sval s x + sval t y = sval s (x - y) := by cases s <;> cases t <;> simp_all [sval] <;> omega
theorem sub_eq2 {s t : Bool} {x y : Int} (h : s ≠ t) : sval s x + sval t y = sval t (y - x) := by cases s <;> cases t <;> simp_all [sval] <;> omega

end Go.Proofs.Yteanocjkdehhgaa

/- The reference's sum, difference and product of two structs. -/
namespace Go.Proofs.Yteanocjkdehhgaa
open Go.RowKit
open Go.Lib (hid)
set_option linter.unusedVariables false

theorem gz_back {Z : Int} (h : (Z.natAbs : Int) < pw 60) : nok (gzl Z) = true ∧ sval (gzs Z) (val (gzl Z)) = Z := by
  unfold gzl
  rw [capped_of h]
  refine ⟨nok_iff.2 ⟨rep_len h, Can_rep _⟩, ?_⟩
  rw [val_rep' (by omega)]
  unfold gzs sval
  by_cases hz : Z < 0
  · rw [if_pos (by simp; omega)]; omega
  · rw [if_neg (by simp; omega)]; omega
theorem sval_lt {s : Bool} {A : List Int} (h : nok A = true) : ((sval s (val A)).natAbs : Int) < pw 60 := by
  rw [sval_abs (val_nonneg (nok_lim h))]; exact nok_lt h

end Go.Proofs.Yteanocjkdehhgaa

/- The reference's comparison of two structs. -/
namespace Go.Proofs.Yteanocjkdehhgaa
open Go.RowKit
open Go.Lib (hid)
set_option linter.unusedVariables false

end Go.Proofs.Yteanocjkdehhgaa
