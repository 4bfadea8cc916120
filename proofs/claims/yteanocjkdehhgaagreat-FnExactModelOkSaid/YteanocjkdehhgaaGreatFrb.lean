import Derived.Test.YteanocjkdehhgaaGreatFra
import Derived.Deep.RegionHeld3
set_option maxRecDepth 100000
set_option maxHeartbeats 3200000
set_option linter.unusedVariables false
set_option linter.unusedSimpArgs false
namespace Go.Proofs.YteanocjkdehhgaaGreat
open Go.RowKit
open Go.Lib (hid)
def RatX (w : World) (s : Bool) (v u : Value) (x : Rat) : Prop := ∃ A D, RL w v u A D ∧ rok s A D = true ∧ x.num = sval s (val A) ∧ (x.den : Int) = val D ∧ fit x
theorem RatX.old {w w' : World} {s : Bool} {v u : Value} {x : Rat} (h : RatX w s v u x) (hb : Below w.heap.size w w') : RatX w' s v u x := by
 obtain ⟨A, D, r, k⟩ := h
 exact ⟨A, D, r.old hb, k⟩
theorem RatX.form {w : World} {s : Bool} {v u : Value} {x : Rat} (h : RatX w s v u x) : ∃ (a : Option Addr) (n c : Nat) (b : Option Addr) (m d : Nat), v = .slice a n c ∧ u = .slice b m d := by
 obtain ⟨A, D, r, -⟩ := h
 obtain ⟨a, c, b, d, e1, e2⟩ := r.form
 exact ⟨a, _, c, b, _, d, e1, e2⟩
theorem RatX.of {w : World} {s : Bool} {v u : Value} {A D : List Int} (h : RL w v u A D) (hr : rok s A D = true) : ∃ x, rval s A D = some x ∧ RatX w s v u x := by
 obtain ⟨x, e, h1, h2, h3⟩ := rval_yes hr
 exact ⟨x, e, A, D, h, hr, h1, h2, h3⟩
end Go.Proofs.YteanocjkdehhgaaGreat
namespace Go.Proofs.YteanocjkdehhgaaGreat
open Go.RowKit
open Go.Lib (hid)
end Go.Proofs.YteanocjkdehhgaaGreat
namespace Go.Proofs.YteanocjkdehhgaaGreat
open Go.RowKit
open Go.Lib (hid)
end Go.Proofs.YteanocjkdehhgaaGreat
namespace Go.Proofs.YteanocjkdehhgaaGreat
open Go.RowKit
open Go.Lib (hid)
theorem ret_in {a b : Int} (h : a = b) : Ending.returned (.int .i64 a) = .returned (.int .i64 b) := by rw [h]
end Go.Proofs.YteanocjkdehhgaaGreat
namespace Go.Proofs.YteanocjkdehhgaaGreat
open Go.RowKit
open Go.Lib (hid)
def OwnL (s : Bool) (A D : List Int) (w : World) (e : Ending) (w' : World) : Prop := ∃ v u, e = .returned (.agg #[.bool s, v, u]) ∧ Ints w' w.heap.size v A ∧ Ints w' w.heap.size u D ∧ (∀ k, v.ownBlock = some k → u.ownBlock ≠ some k) ∧ Below w.heap.size w w'
theorem OwnL_out {s : Bool} {A D : List Int} {w w4 : World} {v u : Value} {B C N : Nat} {T : TypeId} (hN : w.heap.size ≤ N) {cs : Array Value} (hL : LocA T w4 N cs) (hT : T ≠ 3) (hB : w.heap.size ≤ B) (hC : w.heap.size ≤ C) (h1 : Ints w4 B v A) (h2 : Ints w4 C u D) (hd : ∀ k, v.ownBlock = some k → u.ownBlock ≠ some k) (hb : Below w.heap.size w w4) :
  OwnL s A D w (.returned (.agg #[.bool s, v, u])) (((w4.setCell ⟨N, 0, none⟩ (.bool s)).setCell ⟨N, 1, none⟩ v).setCell ⟨N, 2, none⟩ u) := by
 have n1 := hL.ne hT h1
 have n2 := hL.ne hT h2
 exact ⟨v, u, rfl, Ints_base (Ints_set (Ints_set (Ints_set h1 n1) n1) n1) hB, Ints_base (Ints_set (Ints_set (Ints_set h2 n2) n2) n2) hC, hd, ((hb.setCell hN _).setCell hN _).setCell hN _⟩
theorem rval_lists {s : Bool} {A D : List Int} {x : Rat} (h : rval s A D = some x) : gzs x.num = s ∧ gzl x.num = A ∧ gzl (x.den : Int) = D := by
 have hr : rok s A D = true := by
  cases e : rok s A D with
  | true => rfl
  | false => rw [rval_no e] at h; cases h
 obtain ⟨y, e, n1, d1, -⟩ := rval_yes hr
 rw [e] at h
 cases h
 obtain ⟨k1, k2, -⟩ := rok_iff.1 hr
 have g1 := gz_of k1
 have g2 := gz_of (bok_pos k2)
 rw [n1, d1]
 exact ⟨g1.1, g1.2, g2.2⟩
end Go.Proofs.YteanocjkdehhgaaGreat
namespace Go.Proofs.YteanocjkdehhgaaGreat
open Go.RowKit
open Go.Lib (hid)
def sgnO : Option Rat → Int | some x => sgn x.num | none => 0
theorem cmp_zero {w : World} {s : Bool} {v : Value} {A : List Int} {b : Nat} (h : Ints w b v A) (k : bok s A = true) :
  Calls Tryz.prog 126 #[.agg #[.bool s, v], .agg #[.bool false, .slice none 0 0]] w (RetB (.int .i64 (sgn (sval s (val A)))) w) := by
 have hh := impl_BigIntCmp s false v (.slice none 0 0) A [] (big_len k) (by simp) b 0 w h (Ints_nil _ _)
 rw [cmpB_yes k (bok_pos (by decide))] at hh
 rw [show sval s (val A) - sval false (val []) = sval s (val A) by simp [sval, val]] at hh
 exact hh
theorem impl_RatSign (s : Bool) (v u : Value) (A D : List Int) (w : World) (h : RL w v u A D) :
  Calls Tryz.prog 53 #[.agg #[.bool s, v, u]] w (RetB (.int .i64 (sgnO (rval s A D))) w) := by
 have KO := hid (fun (W : World) (h : RL W v u A D) => impl_RatOk s v u A D W h)
 obtain ⟨z, hz⟩ : ∃ z, z = sgnO (rval s A D) := ⟨_, rfl⟩
 have HZ := hid hz
 rw [← hz]
 clear hz
 obtain ⟨b1, i1⟩ := h.a
 obtain ⟨a, c, b, d, rfl, rfl⟩ := h.form
 have B := hid (show Below w.heap.size w (w.alloc (.cells #[.bool s, .slice a A.length c, .slice b D.length d] 53)) from (Below.refl _ _).alloc (Nat.le_refl _) _)
 have LP := hid (show LocA 53 (w.alloc (.cells #[.bool s, .slice a A.length c, .slice b D.length d] 53)) (w.heap.size) #[.bool s, .slice a A.length c, .slice b D.length d] from (LocA.at (by simp)))
 have H1 := hid (h.old B.out)
 clear h
 generalize hW : w.alloc (.cells #[.bool s, .slice a A.length c, .slice b D.length d] 53) = W0 at B LP H1
 have HW := hid hW
 clear hW
 have hs0 := B.out.size
 have I1 := hid (Ints_old i1 B.out)
 clear i1
 obtain ⟨p, hp⟩ : ∃ p, p = rok s A D := ⟨_, rfl⟩
 rw [← hp] at KO
 cases p with
 |false =>
  have hE := hid (show z = 0 by rw [HZ.out, rval_no hp.symm]; rfl)
  clear hp
  go_enter Tryz.func53, Tryz.ntmps53
  have q0 := LP.out.c 0 rfl
  have q1 := LP.out.c 1 rfl
  have q2 := LP.out.c 2 rfl
  go_wp2_with fail
  rw [HW.out]
  (with_reducible refine (KO.out _ H1.out).mono ?_)
  clear q0 q1 q2
  rintro e w1 ⟨rfl, b1⟩
  have B := hid (B.out.trans (b1.mono B.out.size))
  clear b1
  go_wp2
  go_ret
  exact ⟨ret_in hE.out.symm, B.out⟩
 |true =>
  obtain ⟨x, ex, n1, -⟩ := rval_yes hp.symm
  have hE := hid (show z = sgn (sval s (val A)) by rw [HZ.out, ex, ← n1]; rfl)
  have kA := (rok_iff.1 hp.symm).1
  clear ex n1 hp
  have KC := hid (fun (W : World) (h : Ints W b1 (.slice a A.length c) A) => cmp_zero h kA)
  rw [← hE.out] at KC
  clear kA
  go_enter Tryz.func53, Tryz.ntmps53
  have q0 := LP.out.c 0 rfl
  have q1 := LP.out.c 1 rfl
  have q2 := LP.out.c 2 rfl
  go_wp2_with fail
  rw [HW.out]
  (with_reducible refine (KO.out _ H1.out).mono ?_)
  clear q0 q1 q2
  rintro e w1 ⟨rfl, b1⟩
  have LP := hid (LP.out.old b1)
  have I1 := hid (Ints_old I1.out b1)
  have B := hid (B.out.trans (b1.mono B.out.size))
  clear b1
  have q0 := LP.out.c 0 rfl
  have q1 := LP.out.c 1 rfl
  go_wp2_with fail
  (with_reducible refine (KC.out _ I1.out).mono ?_)
  clear q0 q1
  rintro e w2 ⟨rfl, b1⟩
  have LP := hid (LP.out.old b1)
  have I1 := hid (Ints_old I1.out b1)
  have B := hid (B.out.trans (b1.mono B.out.size))
  clear b1
  go_wp2
  go_ret
  exact ⟨rfl, B.out⟩
end Go.Proofs.YteanocjkdehhgaaGreat
namespace Go.Proofs.YteanocjkdehhgaaGreat
open Go.RowKit
open Go.Lib (hid)
theorem equal_any (a1 a2 : Option Addr) (n1 n2 c1 c2 : Nat) (A B : List Int) (hA : A.length ≤ 1073741824) (hB : B.length ≤ 1073741824) (w : World) (h1 : RowI w a1 n1 A) (h2 : RowI w a2 n2 B) :
  Calls Tryz.prog 132 #[.slice a1 n1 c1, .slice a2 n2 c2] w (Drew (.bool (decide (A = B))) w) := by
 obtain ⟨rfl, H1⟩ := h1
 obtain ⟨rfl, H2⟩ := h2
 have G1 := hid H1
 have G2 := hid H2
 clear H1 H2
 obtain ⟨b, hb⟩ : ∃ b, b = decide (A = B) := ⟨_, rfl⟩
 have HB := hid hb
 rw [← hb]
 clear hb
 by_cases hl : A.length = B.length
 ·have HL := hid hl
  have hl' : ((A.length : Int) != (B.length : Int)) = false := by simp [hl]
  go_enter Tryz.func132, Tryz.ntmps132
  go_wp2
  clear hl hl'
  go_loopw [13] (fun i wr => ∃ (k d : Nat), k ≤ A.length ∧ i = .int .i64 (k : Int) ∧ Hid (A.take k = B.take k) ∧ wr = w.drewN d) (fun i _ => A.length - (intOf i).toNat)
  case atStart => exact ⟨0, 0, Nat.zero_le _, rfl, hid (by simp), rfl⟩
  case round =>
   obtain ⟨k, d, hk, rfl, hc, rfl⟩ := hrel
   by_cases hlt : k < A.length
   ·have hlt2 : k < B.length := by have := HL.out; omega
    obtain ⟨g1, o1, rfl, -, hc1⟩ := G1.out (by omega)
    obtain ⟨g2, o2, rfl, -, hc2⟩ := G2.out (by omega)
    clear G1 G2
    have q1 := hc1 k hlt
    have q2 := hc2 k hlt2
    clear hc1 hc2
    have a1 : (0 : Int) ≤ k := by omega
    have a2 : (k : Int) < A.length := by omega
    have a3 : (k : Int) < B.length := by omega
    have HC := hid (show (A[k] = B[k] → A.take (k + 1) = B.take (k + 1)) ∧ (A[k] ≠ B[k] → b = false) from
     ⟨fun h => by rw [List.take_succ_eq_append_getElem hlt, List.take_succ_eq_append_getElem hlt2, hc.out, h], fun h => by rw [HB.out]; exact decide_eq_false fun e => h (by subst e; rfl)⟩)
    obtain ⟨x, hx⟩ : ∃ x, x = A[k] := ⟨_, rfl⟩
    obtain ⟨y, hy⟩ : ∃ y, y = B[k] := ⟨_, rfl⟩
    rw [← hx] at q1 HC
    rw [← hy] at q2 HC
    clear hx hy hc
    by_cases hxy : x = y
    ·have hn := hid (HC.out.1 hxy)
     have hb' : (x != y) = false := by simp [hxy]
     clear hxy
     go_wp2
     go_quiet (fail)
     go_wp2
     go_roundw
     case rel => exact ⟨k + 1, d + nq, by omega, rfl, hn, by first | rfl | exact World.drewN_drewN _ _ _⟩
     case measure => simp [intOf]; omega
    ·have hE := hid (HC.out.2 hxy)
     have hb' : (x != y) = true := by simp [hxy]
     clear hxy
     go_wp2
     go_quiet (fail)
     go_wp2
     go_ret
     exact ⟨ret_bo hE.out.symm, _, by first | rfl | rw [World.drewN_drewN]⟩
   ·have hE := hid (show b = true by
     have e := hc.out
     rw [List.take_of_length_le (by omega), List.take_of_length_le (by have := HL.out; omega)] at e
     rw [HB.out]; exact decide_eq_true e)
    have a2 : ¬ (k : Int) < A.length := by omega
    have a3 : ¬ (k : Int) < B.length := by have := HL.out; omega
    go_wp2
    go_ret
    exact ⟨ret_bo hE.out.symm, d, rfl⟩
 ·have hl' : ((A.length : Int) != (B.length : Int)) = true := bne_iff_ne.2 (by omega)
  have hE := hid (show b = false by rw [HB.out]; exact decide_eq_false fun e => hl (by rw [e]))
  clear hl
  go_enter Tryz.func132, Tryz.ntmps132
  go_wp2
  go_ret
  exact ⟨ret_bo hE.out.symm, 0, rfl⟩
theorem equal_any_own (v u : Value) (A B : List Int) (hA : A.length ≤ 1073741824) (hB : B.length ≤ 1073741824) (b1 b2 : Nat) (w : World) (h1 : Ints w b1 v A) (h2 : Ints w b2 u B) :
  Calls Tryz.prog 132 #[v, u] w (RetB (.bool (decide (A = B))) w) := by
 obtain ⟨a, c, rfl, -, r1, -⟩ := Ints_form h1
 obtain ⟨a', c', rfl, -, r2, -⟩ := Ints_form h2
 exact RetB_of_drew (equal_any a a' _ _ c c' A B hA hB w r1 r2)
theorem l04List_any (a1 a2 : Option Addr) (n1 n2 c1 c2 : Nat) (A B : List Int) (hA : A.length ≤ 1073741824) (hB : B.length ≤ 1073741824) (w : World) (h1 : RowI w a1 n1 A) (h2 : RowI w a2 n2 B) :
  Calls Tryz.prog 199 #[.slice a1 n1 c1, .slice a2 n2 c2] w (Drew (.bool (decide (A = B))) w) := by
 obtain ⟨rfl, H1⟩ := h1
 obtain ⟨rfl, H2⟩ := h2
 have G1 := hid H1
 have G2 := hid H2
 clear H1 H2
 obtain ⟨b, hb⟩ : ∃ b, b = decide (A = B) := ⟨_, rfl⟩
 have HB := hid hb
 rw [← hb]
 clear hb
 by_cases hl : A.length = B.length
 ·have HL := hid hl
  have hl' : ((A.length : Int) != (B.length : Int)) = false := by simp [hl]
  go_enter Tryz.func199, Tryz.ntmps199
  go_wp2
  clear hl hl'
  go_loopw [13] (fun i wr => ∃ (k d : Nat), k ≤ A.length ∧ i = .int .i64 (k : Int) ∧ Hid (A.take k = B.take k) ∧ wr = w.drewN d) (fun i _ => A.length - (intOf i).toNat)
  case atStart => exact ⟨0, 0, Nat.zero_le _, rfl, hid (by simp), rfl⟩
  case round =>
   obtain ⟨k, d, hk, rfl, hc, rfl⟩ := hrel
   by_cases hlt : k < A.length
   ·have hlt2 : k < B.length := by have := HL.out; omega
    obtain ⟨g1, o1, rfl, -, hc1⟩ := G1.out (by omega)
    obtain ⟨g2, o2, rfl, -, hc2⟩ := G2.out (by omega)
    clear G1 G2
    have q1 := hc1 k hlt
    have q2 := hc2 k hlt2
    clear hc1 hc2
    have a1 : (0 : Int) ≤ k := by omega
    have a2 : (k : Int) < A.length := by omega
    have a3 : (k : Int) < B.length := by omega
    have HC := hid (show (A[k] = B[k] → A.take (k + 1) = B.take (k + 1)) ∧ (A[k] ≠ B[k] → b = false) from
     ⟨fun h => by rw [List.take_succ_eq_append_getElem hlt, List.take_succ_eq_append_getElem hlt2, hc.out, h], fun h => by rw [HB.out]; exact decide_eq_false fun e => h (by subst e; rfl)⟩)
    obtain ⟨x, hx⟩ : ∃ x, x = A[k] := ⟨_, rfl⟩
    obtain ⟨y, hy⟩ : ∃ y, y = B[k] := ⟨_, rfl⟩
    rw [← hx] at q1 HC
    rw [← hy] at q2 HC
    clear hx hy hc
    by_cases hxy : x = y
    ·have hn := hid (HC.out.1 hxy)
     have hb' : (x != y) = false := by simp [hxy]
     clear hxy
     go_wp2
     go_quiet (fail)
     go_wp2
     go_roundw
     case rel => exact ⟨k + 1, d + nq, by omega, rfl, hn, by first | rfl | exact World.drewN_drewN _ _ _⟩
     case measure => simp [intOf]; omega
    ·have hE := hid (HC.out.2 hxy)
     have hb' : (x != y) = true := by simp [hxy]
     clear hxy
     go_wp2
     go_quiet (fail)
     go_wp2
     go_ret
     exact ⟨ret_bo hE.out.symm, _, by first | rfl | rw [World.drewN_drewN]⟩
   ·have hE := hid (show b = true by
     have e := hc.out
     rw [List.take_of_length_le (by omega), List.take_of_length_le (by have := HL.out; omega)] at e
     rw [HB.out]; exact decide_eq_true e)
    have a2 : ¬ (k : Int) < A.length := by omega
    have a3 : ¬ (k : Int) < B.length := by have := HL.out; omega
    go_wp2
    go_ret
    exact ⟨ret_bo hE.out.symm, d, rfl⟩
 ·have hl' : ((A.length : Int) != (B.length : Int)) = true := bne_iff_ne.2 (by omega)
  have hE := hid (show b = false by rw [HB.out]; exact decide_eq_false fun e => hl (by rw [e]))
  clear hl
  go_enter Tryz.func199, Tryz.ntmps199
  go_wp2
  go_ret
  exact ⟨ret_bo hE.out.symm, 0, rfl⟩
theorem l04List_any_own (v u : Value) (A B : List Int) (hA : A.length ≤ 1073741824) (hB : B.length ≤ 1073741824) (b1 b2 : Nat) (w : World) (h1 : Ints w b1 v A) (h2 : Ints w b2 u B) :
  Calls Tryz.prog 199 #[v, u] w (RetB (.bool (decide (A = B))) w) := by
 obtain ⟨a, c, rfl, -, r1, -⟩ := Ints_form h1
 obtain ⟨a', c', rfl, -, r2, -⟩ := Ints_form h2
 exact RetB_of_drew (l04List_any a a' _ _ c c' A B hA hB w r1 r2)
theorem impl_RatEqual (s t : Bool) (v u v' u' : Value) (A D A' D' : List Int) (w : World) (h : RL w v u A D) (h' : RL w v' u' A' D') :
  Calls Tryz.prog 57 #[.agg #[.bool s, v, u], .agg #[.bool t, v', u']] w (RetB (.bool ((s == t) && decide (A = A') && decide (D = D'))) w) := by
 have hA : A.length ≤ 1073741824 := by have := h.la; omega
 have hD : D.length ≤ 1073741824 := by have := h.ld; omega
 have hA' : A'.length ≤ 1073741824 := by have := h'.la; omega
 have hD' : D'.length ≤ 1073741824 := by have := h'.ld; omega
 obtain ⟨b1, i1⟩ := h.a
 obtain ⟨b2, i2⟩ := h.d
 obtain ⟨b3, i3⟩ := h'.a
 obtain ⟨b4, i4⟩ := h'.d
 have K1 := hid (fun (W : World) (h1 : Ints W b1 v A) (h2 : Ints W b3 v' A') => equal_any_own v v' A A' hA hA' b1 b3 W h1 h2)
 have K2 := hid (fun (W : World) (h1 : Ints W b2 u D) (h2 : Ints W b4 u' D') => equal_any_own u u' D D' hD hD' b2 b4 W h1 h2)
 obtain ⟨a, c, b, d, rfl, rfl⟩ := h.form
 obtain ⟨a', c', b', d', rfl, rfl⟩ := h'.form
 have B := hid (show Below w.heap.size w ((w.alloc (.cells #[.bool s, .slice a A.length c, .slice b D.length d] 53)).alloc (.cells #[.bool t, .slice a' A'.length c', .slice b' D'.length d'] 53)) from ((Below.refl _ _).alloc (Nat.le_refl _) _).alloc (by simp) _)
 have LP := hid (show LocA 53 ((w.alloc (.cells #[.bool s, .slice a A.length c, .slice b D.length d] 53)).alloc (.cells #[.bool t, .slice a' A'.length c', .slice b' D'.length d'] 53)) w.heap.size #[.bool s, .slice a A.length c, .slice b D.length d] from (LocA.at rfl).new1)
 have LQ := hid (show LocA 53 ((w.alloc (.cells #[.bool s, .slice a A.length c, .slice b D.length d] 53)).alloc (.cells #[.bool t, .slice a' A'.length c', .slice b' D'.length d'] 53)) (w.heap.size + 1) #[.bool t, .slice a' A'.length c', .slice b' D'.length d'] from LocA.at (by simp))
 have I1 := hid (Ints_old i1 B.out)
 have I2 := hid (Ints_old i2 B.out)
 have I3 := hid (Ints_old i3 B.out)
 have I4 := hid (Ints_old i4 B.out)
 clear h h' i1 i2 i3 i4
 generalize hW : (w.alloc (.cells #[.bool s, .slice a A.length c, .slice b D.length d] 53)).alloc (.cells #[.bool t, .slice a' A'.length c', .slice b' D'.length d'] 53) = W0 at B LP LQ I1 I2 I3 I4
 have HW := hid hW
 clear hW
 obtain ⟨p1, hp1⟩ : ∃ p, p = decide (A = A') := ⟨_, rfl⟩
 obtain ⟨p2, hp2⟩ : ∃ p, p = decide (D = D') := ⟨_, rfl⟩
 rw [← hp1] at K1 ⊢
 rw [← hp2] at K2 ⊢
 clear hp1 hp2
 cases hst : s == t with
 |false =>
  go_enter Tryz.func57, Tryz.ntmps57
  go_wp2
  go_ret
  exact ⟨ret_bo (by simp), by first | exact B.out | (rw [HW.out]; exact B.out)⟩
 |true =>
  have q0 := LP.out.c 1 rfl
  have q1 := LQ.out.c 1 rfl
  cases p1 with
  |false =>
   go_enter Tryz.func57, Tryz.ntmps57
   go_wp2_with fail
   rw [HW.out]
   (with_reducible refine (K1.out _ I1.out I3.out).mono ?_)
   clear q0 q1
   rintro e w1 ⟨rfl, g1⟩
   have B := hid (B.out.trans (g1.mono B.out.size))
   clear g1
   go_wp2
   go_ret
   exact ⟨ret_bo (by simp), B.out⟩
  |true =>
   go_enter Tryz.func57, Tryz.ntmps57
   go_wp2_with fail
   rw [HW.out]
   (with_reducible refine (K1.out _ I1.out I3.out).mono ?_)
   clear q0 q1
   rintro e w1 ⟨rfl, g1⟩
   have B := hid (B.out.trans (g1.mono B.out.size))
   have LP := hid (LP.out.old g1)
   have LQ := hid (LQ.out.old g1)
   have I2 := hid (Ints_old I2.out g1)
   have I4 := hid (Ints_old I4.out g1)
   have q0 := LP.out.c 2 rfl
   have q1 := LQ.out.c 2 rfl
   clear g1
   go_wp2_with fail
   (with_reducible refine (K2.out _ I2.out I4.out).mono ?_)
   clear q0 q1
   rintro e w2 ⟨rfl, g1⟩
   have B := hid (B.out.trans (g1.mono B.out.size))
   clear g1
   go_wp2
   go_ret
   exact ⟨ret_bo (by simp), B.out⟩
theorem spec_RatEqual (s t : Bool) (v u v' u' : Value) (A D A' D' : List Int) (w : World) (h : RL w v u A D) (h' : RL w v' u' A' D') :
  Calls Tryz.prog 152 #[.agg #[.bool s, v, u], .agg #[.bool t, v', u']] w (RetB (.bool ((s == t) && decide (A = A') && decide (D = D'))) w) := by
 have hA : A.length ≤ 1073741824 := by have := h.la; omega
 have hD : D.length ≤ 1073741824 := by have := h.ld; omega
 have hA' : A'.length ≤ 1073741824 := by have := h'.la; omega
 have hD' : D'.length ≤ 1073741824 := by have := h'.ld; omega
 obtain ⟨b1, i1⟩ := h.a
 obtain ⟨b2, i2⟩ := h.d
 obtain ⟨b3, i3⟩ := h'.a
 obtain ⟨b4, i4⟩ := h'.d
 have K1 := hid (fun (W : World) (h1 : Ints W b1 v A) (h2 : Ints W b3 v' A') => l04List_any_own v v' A A' hA hA' b1 b3 W h1 h2)
 have K2 := hid (fun (W : World) (h1 : Ints W b2 u D) (h2 : Ints W b4 u' D') => l04List_any_own u u' D D' hD hD' b2 b4 W h1 h2)
 obtain ⟨a, c, b, d, rfl, rfl⟩ := h.form
 obtain ⟨a', c', b', d', rfl, rfl⟩ := h'.form
 have B := hid (show Below w.heap.size w ((w.alloc (.cells #[.bool s, .slice a A.length c, .slice b D.length d] 53)).alloc (.cells #[.bool t, .slice a' A'.length c', .slice b' D'.length d'] 53)) from ((Below.refl _ _).alloc (Nat.le_refl _) _).alloc (by simp) _)
 have LP := hid (show LocA 53 ((w.alloc (.cells #[.bool s, .slice a A.length c, .slice b D.length d] 53)).alloc (.cells #[.bool t, .slice a' A'.length c', .slice b' D'.length d'] 53)) w.heap.size #[.bool s, .slice a A.length c, .slice b D.length d] from (LocA.at rfl).new1)
 have LQ := hid (show LocA 53 ((w.alloc (.cells #[.bool s, .slice a A.length c, .slice b D.length d] 53)).alloc (.cells #[.bool t, .slice a' A'.length c', .slice b' D'.length d'] 53)) (w.heap.size + 1) #[.bool t, .slice a' A'.length c', .slice b' D'.length d'] from LocA.at (by simp))
 have I1 := hid (Ints_old i1 B.out)
 have I2 := hid (Ints_old i2 B.out)
 have I3 := hid (Ints_old i3 B.out)
 have I4 := hid (Ints_old i4 B.out)
 clear h h' i1 i2 i3 i4
 generalize hW : (w.alloc (.cells #[.bool s, .slice a A.length c, .slice b D.length d] 53)).alloc (.cells #[.bool t, .slice a' A'.length c', .slice b' D'.length d'] 53) = W0 at B LP LQ I1 I2 I3 I4
 have HW := hid hW
 clear hW
 obtain ⟨p1, hp1⟩ : ∃ p, p = decide (A = A') := ⟨_, rfl⟩
 obtain ⟨p2, hp2⟩ : ∃ p, p = decide (D = D') := ⟨_, rfl⟩
 rw [← hp1] at K1 ⊢
 rw [← hp2] at K2 ⊢
 clear hp1 hp2
 cases hst : s == t with
 |false =>
  go_enter Tryz.func152, Tryz.ntmps152
  go_wp2
  go_ret
  exact ⟨ret_bo (by simp), by first | exact B.out | (rw [HW.out]; exact B.out)⟩
 |true =>
  have q0 := LP.out.c 1 rfl
  have q1 := LQ.out.c 1 rfl
  cases p1 with
  |false =>
   go_enter Tryz.func152, Tryz.ntmps152
   go_wp2_with fail
   rw [HW.out]
   (with_reducible refine (K1.out _ I1.out I3.out).mono ?_)
   clear q0 q1
   rintro e w1 ⟨rfl, g1⟩
   have B := hid (B.out.trans (g1.mono B.out.size))
   clear g1
   go_wp2
   go_ret
   exact ⟨ret_bo (by simp), B.out⟩
  |true =>
   go_enter Tryz.func152, Tryz.ntmps152
   go_wp2_with fail
   rw [HW.out]
   (with_reducible refine (K1.out _ I1.out I3.out).mono ?_)
   clear q0 q1
   rintro e w1 ⟨rfl, g1⟩
   have B := hid (B.out.trans (g1.mono B.out.size))
   have LP := hid (LP.out.old g1)
   have LQ := hid (LQ.out.old g1)
   have I2 := hid (Ints_old I2.out g1)
   have I4 := hid (Ints_old I4.out g1)
   have q0 := LP.out.c 2 rfl
   have q1 := LQ.out.c 2 rfl
   clear g1
   go_wp2_with fail
   (with_reducible refine (K2.out _ I2.out I4.out).mono ?_)
   clear q0 q1
   rintro e w2 ⟨rfl, g1⟩
   have B := hid (B.out.trans (g1.mono B.out.size))
   clear g1
   go_wp2
   go_ret
   exact ⟨ret_bo (by simp), B.out⟩
end Go.Proofs.YteanocjkdehhgaaGreat
