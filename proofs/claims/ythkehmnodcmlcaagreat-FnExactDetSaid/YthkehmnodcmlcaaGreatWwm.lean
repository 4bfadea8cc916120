import Derived.Test.YthkehmnodcmlcaaGreatBh
import Derived.Test.YthkehmnodcmlcaaGreatImm
import Derived.BigRegion
set_option maxRecDepth 100000
set_option maxHeartbeats 3200000
set_option linter.unusedVariables false
set_option linter.unusedSimpArgs false
namespace Go.Proofs.YthkehmnodcmlcaaGreat
open Go.RowKit
open Go.Lib (hid)
def bok (s : Bool) (A : List Int) : Bool := nok A && (!s || !A.isEmpty)
theorem bok_no {s : Bool} {A : List Int} (h : nok A = false) : bok s A = false := by simp [bok, h]
theorem bok_pos {A : List Int} (h : nok A = true) : bok false A = true := by simp [bok, h]
theorem bok_ne {s : Bool} {A : List Int} (h : nok A = true) (hA : A ≠ []) : bok s A = true := by cases A <;> simp_all [bok]
theorem bok_iff {s : Bool} {A : List Int} : bok s A = true ↔ nok A = true ∧ (s = true → A ≠ []) := by cases s <;> cases A <;> simp [bok]
theorem impl_BigIntOk (s : Bool) (a : Option Addr) (c : Nat) (A : List Int) (hA : A.length ≤ 1073741824) (w : World) (h1 : RowI w a A.length A) :
  Calls Tryz.prog 136 #[.agg #[.bool s, .slice a A.length c]] w (RetB (.bool (bok s A)) w) := by
 have K := hid (impl_NatOk a A.length c A hA _ (RowI_old h1 (below_new' (o := .cells #[.bool s, .slice a A.length c] 35))))
 have B := hid (below_new' (w := w) (o := .cells #[.bool s, .slice a A.length c] 35))
 clear h1
 obtain ⟨r, hr⟩ : ∃ r, r = bok s A := ⟨_, rfl⟩
 have HR := hid hr
 rw [← hr]
 clear hr
 cases e1 : nok A with
 |false =>
  have hE := hid (HR.out.trans (bok_no e1))
  rw [e1] at K
  clear e1
  go_enter Tryz.func136, Tryz.ntmps136
  go_wp2_with fail
  refine K.out.mono ?_
  rintro e w1 ⟨rfl, rfl⟩
  go_wp2
  go_ret
  exact ⟨ret_bool hE.out.symm, B.out⟩
 |true =>
  rw [e1] at K
  cases s with
  |false =>
   have hE := hid (HR.out.trans (bok_pos e1))
   clear e1
   go_enter Tryz.func136, Tryz.ntmps136
   go_wp2_with fail
   refine K.out.mono ?_
   rintro e w1 ⟨rfl, rfl⟩
   go_wp2
   go_ret
   exact ⟨ret_bool hE.out.symm, B.out⟩
  |true =>
   by_cases h0 : 0 < A.length
   ·have hE := hid (HR.out.trans (bok_ne e1 (by rintro rfl; simp at h0)))
    have h0' : 0 < (A.length : Int) := by omega
    clear e1
    go_enter Tryz.func136, Tryz.ntmps136
    go_wp2_with fail
    refine K.out.mono ?_
    rintro e w1 ⟨rfl, rfl⟩
    go_wp2
    go_ret
    exact ⟨ret_bool hE.out.symm, B.out⟩
   ·have hE := hid (HR.out.trans (show bok true A = false by
     have : A = [] := List.length_eq_zero_iff.1 (by omega)
     subst this; rfl))
    have h0' : ¬ 0 < (A.length : Int) := by omega
    clear e1
    go_enter Tryz.func136, Tryz.ntmps136
    go_wp2_with fail
    refine K.out.mono ?_
    rintro e w1 ⟨rfl, rfl⟩
    go_wp2
    go_ret
    exact ⟨ret_bool hE.out.symm, B.out⟩
theorem impl_BigIntOk_own (s : Bool) (v : Value) (A : List Int) (hA : A.length ≤ 1073741824) (b : Nat) (w : World) (h1 : Ints w b v A) :
  Calls Tryz.prog 136 #[.agg #[.bool s, v]] w (RetB (.bool (bok s A)) w) := by
 obtain ⟨a, c, rfl, -, r, -⟩ := Ints_form h1
 exact impl_BigIntOk s a c A hA w r
theorem spec_BigIntOk (s : Bool) (a : Option Addr) (c : Nat) (A : List Int) (hA : A.length ≤ 1073741824) (w : World) (h1 : RowI w a A.length A) :
  Calls Tryz.prog 121 #[.agg #[.bool s, .slice a A.length c]] w (RetB (.bool (bok s A)) w) := by
 have K := hid (spec_NatOk a A.length c A hA _ (RowI_old h1 (below_new' (o := .cells #[.bool s, .slice a A.length c] 35))))
 have B := hid (below_new' (w := w) (o := .cells #[.bool s, .slice a A.length c] 35))
 clear h1
 obtain ⟨r, hr⟩ : ∃ r, r = bok s A := ⟨_, rfl⟩
 have HR := hid hr
 rw [← hr]
 clear hr
 cases e1 : nok A with
 |false =>
  have hE := hid (HR.out.trans (bok_no e1))
  rw [e1] at K
  clear e1
  go_enter Tryz.func121, Tryz.ntmps121
  go_wp2_with fail
  refine K.out.mono ?_
  rintro e w1 ⟨rfl, rfl⟩
  go_wp2
  go_ret
  exact ⟨ret_bool hE.out.symm, B.out⟩
 |true =>
  rw [e1] at K
  cases s with
  |false =>
   have hE := hid (HR.out.trans (bok_pos e1))
   clear e1
   go_enter Tryz.func121, Tryz.ntmps121
   go_wp2_with fail
   refine K.out.mono ?_
   rintro e w1 ⟨rfl, rfl⟩
   go_wp2
   go_ret
   exact ⟨ret_bool hE.out.symm, B.out⟩
  |true =>
   by_cases h0 : 0 < A.length
   ·have hE := hid (HR.out.trans (bok_ne e1 (by rintro rfl; simp at h0)))
    have h0' : 0 < (A.length : Int) := by omega
    clear e1
    go_enter Tryz.func121, Tryz.ntmps121
    go_wp2_with fail
    refine K.out.mono ?_
    rintro e w1 ⟨rfl, rfl⟩
    go_wp2
    go_ret
    exact ⟨ret_bool hE.out.symm, B.out⟩
   ·have hE := hid (HR.out.trans (show bok true A = false by
     have : A = [] := List.length_eq_zero_iff.1 (by omega)
     subst this; rfl))
    have h0' : ¬ 0 < (A.length : Int) := by omega
    clear e1
    go_enter Tryz.func121, Tryz.ntmps121
    go_wp2_with fail
    refine K.out.mono ?_
    rintro e w1 ⟨rfl, rfl⟩
    go_wp2
    go_ret
    exact ⟨ret_bool hE.out.symm, B.out⟩
theorem spec_BigIntOk_own (s : Bool) (v : Value) (A : List Int) (hA : A.length ≤ 1073741824) (b : Nat) (w : World) (h1 : Ints w b v A) :
  Calls Tryz.prog 121 #[.agg #[.bool s, v]] w (RetB (.bool (bok s A)) w) := by
 obtain ⟨a, c, rfl, -, r, -⟩ := Ints_form h1
 exact spec_BigIntOk s a c A hA w r
end Go.Proofs.YthkehmnodcmlcaaGreat
namespace Go.Proofs.YthkehmnodcmlcaaGreat
open Go.RowKit
open Go.Lib (hid)
def wholeQ (s : Bool) : Rest := ⟨[.bool s], 143, by decide⟩
theorem Below_drew1 {B : Nat} {a w : World} (h : Below B a w) : Below B a w.drew := ⟨h.os, h.tape, h.output, h.size, h.block⟩
def NewW (s : Bool) (L : List Int) (w : World) (e : Ending) (w' : World) : Prop := ∃ N v, e = .returned (.pointer (some ⟨N, 0, none⟩)) ∧ IsNat (wholeQ s) w' (fun k => w.heap.size ≤ k) N v L ∧ Below w.heap.size w w'
theorem IsNat.neg {s : Bool} {w : World} {S : Nat → Prop} {N : Nat} {v : Value} {L : List Int} (h : IsNat (wholeQ s) w S N v L) : w.cell? ⟨N, 1, none⟩ = some (.bool s) := by
 have := h.cell1
 simp [World.cell?, this, Rest.obj, wholeQ]
theorem IsNat_whole {w w1 : World} {B : Nat} {s : Bool} {v : Value} {L : List Int} (h : Ints w1 B v L) (hb : Below w.heap.size w w1) (hB : w.heap.size ≤ B) :
  IsNat (wholeQ s) (w1.alloc (.cells #[v, .bool s] 143)) (fun k => w.heap.size ≤ k) w1.heap.size v L ∧ Below w.heap.size w (w1.alloc (.cells #[v, .bool s] 143)) :=
 ⟨⟨heap_alloc_new w1 _, hb.size, Ints_base (Ints_below h ((Below.refl _ _).alloc (Nat.le_refl _) _) fun k hk => (Ints_lt h k hk).2) (Nat.zero_le _), fun k hk => by have := (Ints_lt h k hk).1; omega⟩,
  hb.alloc hb.size _⟩
theorem newWhole_own (s : Bool) (B : Nat) (v : Value) (L : List Int) (hL : L.length ≤ 1073741824) (w : World) (h : Ints w B v L) :
  Calls Tryz.prog 191 #[.agg #[.bool s, v]] w (NewW s L w) := by
 have K := hid (fun (W : World) (h : Ints W B v L) => newNat_own B v L hL W h)
 have I := hid (show Ints (w.alloc (.cells #[.bool s, v] 35)) B v L from Ints_below h below_new' fun k hk => (Ints_lt h k hk).2)
 have BB := hid (below_new' (w := w) (o := .cells #[.bool s, v] 35))
 have L0 := hid (Loc.new (w := w) (T := 35) (s := s) (v := v))
 obtain ⟨a, c, rfl, -⟩ := Ints_form h
 clear h
 go_enter Tryz.func191, Tryz.ntmps191
 go_wp2_with fail
 generalize w.alloc (.cells #[.bool s, .slice a L.length c] 35) = W at I BB L0 ⊢
 have q0 : W.drew.cell? ⟨w.heap.size, 0, none⟩ = some (.bool s) := L0.out.c0
 have q1 : W.drew.cell? ⟨w.heap.size, 1, none⟩ = some (.slice a L.length c) := L0.out.c1
 have I2 := hid (show Ints W.drew B (.slice a L.length c) L from I.out)
 have L2 := hid (show Loc 35 W.drew w.heap.size s (.slice a L.length c) from L0.out)
 have B2 := hid (show Below w.heap.size w W.drew from Below_drew1 BB.out)
 go_region_with (first | (go_at_call 201; (with_reducible refine (K.out _ I2.out).mono ?_); rintro e w1 ⟨N, u, rfl, n1, b1⟩; have q3 := (L2.out.old b1).c0; have q4 := (L2.out.old b1).c1; have q5 := n1.cell; have N1 := hid n1; have B1 := hid b1; obtain ⟨a1, c1, rfl, -⟩ := Ints_form n1.ints; clear n1 b1))
 all_goals
  have R := IsNat_whole (s := s) (Ints_rebase N1.out.ints N1.out.own) (B2.out.trans (B1.out.mono B2.out.size)) B2.out.size
  go_wp2
  go_ret
  exact ⟨_, _, rfl, R⟩
end Go.Proofs.YthkehmnodcmlcaaGreat
namespace Go.Proofs.YthkehmnodcmlcaaGreat
open Go.RowKit
open Go.Lib (hid)
variable {Q : Rest}
def sval (s : Bool) (V : Int) : Int := if s then -V else V
def gzs (Z : Int) : Bool := decide (Z < 0 ∧ -Z < pw 60)
def gzl (Z : Int) : List Int := capped (Z.natAbs : Int)
theorem sval_abs {s : Bool} {V : Int} (h : 0 ≤ V) : ((sval s V).natAbs : Int) = V := by unfold sval; split <;> omega
theorem gzl_sval {s : Bool} {V : Int} (h : 0 ≤ V) : gzl (sval s V) = capped V := by unfold gzl; rw [sval_abs h]
theorem gzs_sval {s : Bool} {V : Int} (h0 : 0 < V) (h : V < pw 60) : gzs (sval s V) = s := by
 unfold gzs sval
 cases s
 ·simp; omega
 ·simp; omega
theorem gzs_zero : gzs 0 = false := by simp [gzs]
theorem gzl_zero : gzl 0 = [] := by
 unfold gzl capped
 simp [rep_zero]
theorem gzs_big {Z : Int} (h : pw 60 ≤ (Z.natAbs : Int)) : gzs Z = false := by unfold gzs; simp; omega
theorem gzl_big {Z : Int} (h : pw 60 ≤ (Z.natAbs : Int)) : gzl Z = [] := by unfold gzl capped; rw [if_neg (by omega)]
def GivB (lo : Nat) (s : Bool) (L : List Int) (w : World) (e : Ending) (w' : World) : Prop := ∃ u, e = .returned (.agg #[.bool s, u]) ∧ Ints w' lo u L ∧ Below w.heap.size w w'
theorem GivB_mk {lo : Nat} {s t : Bool} {L M : List Int} {w w' : World} {u : Value} (hs : t = s) (hL : M = L) (h : Ints w' lo u M) (hb : Below w.heap.size w w') : GivB lo s L w (.returned (.agg #[.bool t, u])) w' := by
 subst hs; subst hL; exact ⟨u, rfl, h, hb⟩
theorem bigInt_own (lo : Nat) (s : Bool) (N : Nat) (v : Value) (V : Int) (h0 : 0 ≤ V) (w : World) (h : IsNat (wholeQ s) w (fun k => lo ≤ k) N v (rep V.toNat)) :
  Calls Tryz.prog 149 #[.pointer (some ⟨N, 0, none⟩)] w (GivB lo (gzs (sval s V)) (gzl (sval s V)) w) := by
 have H := hid (h.old (below_new' (o := .cells #[.bool false, .slice none 0 0] 35)))
 have hl := Ints_len h.ints
 have K := hid (result_any (Q := wholeQ s) (fun k => lo ≤ k) N v (rep V.toNat) _ H.out)
 have BB := hid (below_new' (w := w) (o := .cells #[.bool false, .slice none 0 0] 35))
 have L0 := hid (Loc.new (w := w) (T := 35) (s := false) (v := .slice none 0 0))
 obtain ⟨ss, hs⟩ : ∃ t, t = gzs (sval s V) := ⟨_, rfl⟩
 obtain ⟨ll, hll⟩ : ∃ t, t = gzl (sval s V) := ⟨_, rfl⟩
 rw [← hs, ← hll]
 have HS := hid hs
 have HL := hid hll
 have hne : V ≠ 0 → 0 < (rep V.toNat).length := fun h => List.length_pos_iff.2 (rep_ne (by omega))
 have hno : V = 0 → rep V.toNat = [] := fun h => by subst h; exact rep_zero
 have hbig : 60 < (rep V.toNat).length ↔ pw 60 ≤ V := by
  have := Can_len (Can_rep V.toNat) (k := 60)
  rw [val_rep' h0] at this
  omega
 have hsl : ∃ a c, v = .slice a (rep V.toNat).length c := by
  obtain ⟨a, c, e, -⟩ := Ints_form h.ints
  exact ⟨a, c, e⟩
 obtain ⟨M, hM⟩ : ∃ M, M = rep V.toNat := ⟨_, rfl⟩
 rw [← hM] at K H hl hne hno hbig hsl
 have HM := hid hM
 have HNO := hid hno
 have HBIG := hid hbig
 have HNE := hid hne
 clear hM hs hll h hno hbig hne
 unfold maxLen at hl
 obtain ⟨a, c, rfl⟩ := hsl
 go_enter Tryz.func149, Tryz.ntmps149
 go_wp2_with fail
 generalize w.alloc (.cells #[.bool false, .slice none 0 0] 35) = W at H K BB L0 ⊢
 refine K.out.mono ?_
 rintro e w1 ⟨⟨u, T, rfl, hu⟩, rfl⟩
 have q0 := L0.out.c0
 have q1 := L0.out.c1
 have f0 := L0.out.f0 0
 have f1 := L0.out.f0 1
 have B2 := hid (show Below w.heap.size w ((W.setCell ⟨w.heap.size, 0, none⟩ (.bool false)).setCell ⟨w.heap.size, 1, none⟩ (.slice none 0 0)) from (BB.out.setCell (by simp) _).setCell (by simp) _)
 rcases hu with ⟨rfl, hT, h6⟩ | ⟨rfl, hT, h6⟩
 ·obtain rfl : M = T := hT.symm
  by_cases hz : M.length = 0
  ·have hz' : ((M.length : Int) == 0) = true := by rw [hz]; rfl
   have R := hid (show GivB lo ss ll w (.returned (.agg #[.bool false, .slice none 0 0])) ((W.setCell ⟨w.heap.size, 0, none⟩ (.bool false)).setCell ⟨w.heap.size, 1, none⟩ (.slice none 0 0)) from by
    have hV : V = 0 := Classical.byContradiction fun h => by have := HNE.out h; omega
    refine GivB_mk ?_ ?_ (Ints_nil _ _) B2.out
    ·rw [HS.out, hV]; cases s <;> simp [sval, gzs]
    ·rw [HL.out, hV]; cases s <;> simp [sval, gzl_zero])
   clear hz
   go_wp2
   exact bodyPost_ret (v := .agg #[.bool false, .slice none 0 0]) (by simp [results, Tryz.results149, go_sem, q0, q1]) rfl R.out
  ·have hz' : ((M.length : Int) == 0) = false := beq_eq_false_iff_ne.2 (by omega)
   have hn := H.out.neg
   have HZ := hid hz
   have B3 := hid (show Below w.heap.size w ((W.setCell ⟨w.heap.size, 0, none⟩ (.bool s)).setCell ⟨w.heap.size, 1, none⟩ (.slice a M.length c)) from (BB.out.setCell (by simp) _).setCell (by simp) _)
   have n1 := L0.out.ne (by decide) H.out.ints
   have R := hid (show GivB lo ss ll w (.returned (.agg #[.bool s, .slice a M.length c])) ((W.setCell ⟨w.heap.size, 0, none⟩ (.bool s)).setCell ⟨w.heap.size, 1, none⟩ (.slice a M.length c)) from by
    have hV : V ≠ 0 := fun h => HZ.out (by rw [HNO.out h]; rfl)
    have hlt : V < pw 60 := by have := HBIG.out; omega
    refine GivB_mk ?_ ?_ (Ints_set (Ints_set (Ints_rebase H.out.ints H.out.own) n1) n1) B3.out
    ·rw [HS.out, gzs_sval (by omega) hlt]
    ·rw [HL.out, gzl_sval h0, capped_of hlt, HM.out])
   clear hz n1
   go_wp2
   exact bodyPost_ret (v := .agg #[.bool s, .slice a M.length c]) (by simp [results, Tryz.results149, go_sem, q0, q1]) rfl R.out
 ·obtain rfl : [] = T := hT.symm
  have R := hid (show GivB lo ss ll w (.returned (.agg #[.bool false, .slice none 0 0])) ((W.setCell ⟨w.heap.size, 0, none⟩ (.bool false)).setCell ⟨w.heap.size, 1, none⟩ (.slice none 0 0)) from by
   have hV : pw 60 ≤ ((sval s V).natAbs : Int) := by rw [sval_abs h0]; exact HBIG.out.1 h6
   exact GivB_mk (by rw [HS.out, gzs_big hV]) (by rw [HL.out, gzl_big hV]) (Ints_nil _ _) B2.out)
  go_wp2
  exact bodyPost_ret (v := .agg #[.bool false, .slice none 0 0]) (by simp [results, Tryz.results149, go_sem, q0, q1]) rfl R.out
end Go.Proofs.YthkehmnodcmlcaaGreat
namespace Go.Proofs.YthkehmnodcmlcaaGreat
open Go.RowKit
open Go.Lib (hid)
theorem OwnG_out {s : Bool} {L : List Int} {w w4 : World} {r : Value} {lo b : Nat} {T : TypeId} (hlo : w.heap.size ≤ lo) (hb : b = w.heap.size) (hL : Loc T w4 b false (.slice none 0 0)) (hT : T ≠ 3) (hi : Ints w4 lo r L) (hB : Below w.heap.size w w4) :
  OwnG s L w (.returned (.agg #[.bool s, r])) ((w4.setCell ⟨b, 0, none⟩ (.bool s)).setCell ⟨b, 1, none⟩ r) :=
 OwnG_mk hlo rfl (Ints_set (Ints_set hi (hL.ne hT hi)) (hL.ne hT hi)) ((hB.setCell (by simp [hb]) _).setCell (by simp [hb]) _)
theorem sum_same {s : Bool} {x y : Int} : sval s x + sval s y = sval s (x + 1 * y * pw (0 : Int).toNat) := by unfold sval; split <;> simp [pw] <;> omega
theorem sum_other {s t : Bool} {x y : Int} (h : s ≠ t) : sval s x + sval t y = sval s (x + (-1) * y * pw (0 : Int).toNat) := by cases s <;> cases t <;> simp_all [sval, pw] <;> omega
theorem addPre {v : Value} {A : List Int} {w : World} {b : Nat} {o : Go.Obj} (h : Ints w b v A) : Ints (w.alloc o) b v A := Ints_below h below_new' fun k hk => (Ints_lt h k hk).2
theorem Ints_drew {w : World} {b d : Nat} {v : Value} {A : List Int} (h : Ints w b v A) : Ints (w.drewN d) b v A := h
theorem Below_drewN {B d : Nat} {a w : World} (h : Below B a w) : Below B a (w.drewN d) := ⟨h.os, h.tape, h.output, h.size, h.block⟩
theorem Loc_drewN {T : TypeId} {w : World} {b d : Nat} {s : Bool} {v : Value} (h : Loc T w b s v) : Loc T (w.drewN d) b s v := h
theorem Ints_old {w w' : World} {b : Nat} {v : Value} {A : List Int} (h : Ints w b v A) (hb : Below w.heap.size w w') : Ints w' b v A := Ints_below h hb fun k hk => (Ints_lt h k hk).2
theorem addSigned_own (s t : Bool) (v u : Value) (A B : List Int) (nA : nok A = true) (nB : nok B = true) (b1 b2 : Nat) (w : World) (h1 : Ints w b1 v A) (h2 : Ints w b2 u B) :
  Calls Tryz.prog 187 #[v, .bool s, u, .bool t] w (OwnG (gzs (sval s (val A) + sval t (val B))) (gzl (sval s (val A) + sval t (val B))) w) := by
 obtain ⟨Z, hZ⟩ : ∃ Z, Z = sval s (val A) + sval t (val B) := ⟨_, rfl⟩
 have HZ := hid hZ
 rw [← hZ]
 clear hZ
 obtain ⟨gs, hgs⟩ : ∃ g, g = gzs Z := ⟨_, rfl⟩
 rw [← hgs]
 have HGS := hid hgs
 clear hgs
 have C := hid (cmp_nok nA nB)
 have lA := hid (nok_lim nA)
 have lB := hid (nok_lim nB)
 have vA := hid (val_nonneg lA.out)
 have vB := hid (val_nonneg lB.out)
 have n1 := nok_len nA
 have n2 := nok_len nB
 clear nA nB
 obtain ⟨cm, hcm⟩ : ∃ c, c = cmpL A B := ⟨_, rfl⟩
 have I1 := hid (addPre (o := .cells #[.bool false, .slice none 0 0] 35) h1)
 have I2 := hid (addPre (o := .cells #[.bool false, .slice none 0 0] 35) h2)
 have BB := hid (below_new' (w := w) (o := .cells #[.bool false, .slice none 0 0] 35))
 have L0 := hid (Loc.new (w := w) (T := 35) (s := false) (v := .slice none 0 0))
 obtain ⟨a, c, rfl, -⟩ := Ints_form h1
 obtain ⟨a', c', rfl, -⟩ := Ints_form h2
 clear h1 h2
 have K := hid (compareLimbs_any a a' _ _ c c' A B (by omega) (by omega) (w.alloc (.cells #[.bool false, .slice none 0 0] 35)) (by obtain ⟨x, y, e, r, -⟩ := slice_own I1.out; cases e; exact r) (by obtain ⟨x, y, e, r, -⟩ := slice_own I2.out; cases e; exact r))
 rw [← hcm] at K
 have HC := hid hcm
 clear hcm
 have hs0 : w.heap.size ≤ (w.alloc (.cells #[.bool false, .slice none 0 0] 35)).heap.size := by simp
 generalize hW : w.alloc (.cells #[.bool false, .slice none 0 0] 35) = W at K I1 I2 BB L0 hs0
 have HW := hid hW
 clear hW
 by_cases hlt : val A < val B
 ·have hc : cm < 0 := by have := C.out; have := HC.out; omega
  have HL := hid hlt
  clear hlt
  cases s <;> cases t
  ·have hZe := hid (HZ.out.trans ((Int.add_comm _ _).trans sum_same))
   have hV0 := hid (show 0 ≤ val B + 1 * val A * pw (0 : Int).toNat by have := HL.out; have := vA.out; have := vB.out; simp [pw]; omega)
   go_enter Tryz.func187, Tryz.ntmps187
   go_wp2_with fail
   rw [HW.out]
   refine K.out.mono ?_
   rintro e w1 ⟨rfl, d, rfl⟩
   have J1 := hid (Ints_drew (d := d) I1.out)
   have J2 := hid (Ints_drew (d := d) I2.out)
   have LL := hid (Loc_drewN (d := d) L0.out)
   have BD := hid (Below_drewN (d := d) BB.out)
   go_wp2_with fail
   refine (newWhole_own false _ _ B (by omega) _ J2.out).mono ?_
   rintro e w2 ⟨N, x, rfl, h1, b1'⟩
   have J := hid (Ints_old J1.out b1')
   have LL := hid (LL.out.old b1')
   have BD := hid (BD.out.trans (b1'.mono (by simpa using hs0)))
   have H1 := hid h1
   have hsz : w.heap.size ≤ (W.drewN d).heap.size := by simpa using hs0
   obtain ⟨aa, cc, ee, rr, pp⟩ := slice_own J.out
   obtain ⟨rfl, -, rfl⟩ : a = aa ∧ A.length = A.length ∧ c = cc := by simpa using ee
   have RR := hid rr
   have PP := hid (show Apart (fun k => (W.drewN d).heap.size ≤ k) a from by
    obtain ⟨_, _, e5, _, p5⟩ := slice_own J1.out
    cases e5
    exact p5)
   have hws := hid b1'.size
   clear h1 b1' ee rr pp
   go_wp2_with fail
   refine (addMultiple_any (Q := wholeQ false) _ N x B A _ _ _ 1 0 (by decide) (by decide) (by omega) (by omega) lB.out lA.out (by decide) (by decide) hV0.out w2 H1.out (fun k hk => Nat.le_trans hws.out hk) RR.out PP.out).mono ?_
   rintro e w3 ⟨rfl, ⟨y, h2⟩, o2⟩
   have H2 := hid h2
   have LL := hid (LL.out.only o2 (by have := LL.out.lt; have := L0.out.lt; simp; exact L0.out.lt))
   have BD := hid (BD.out.trans (o2.below (B := w.heap.size) fun k hk hs => by have := hsz; omega))
   clear h2 o2
   go_wp2_with fail
   refine (bigInt_own _ false N y _ hV0.out w3 H2.out).mono ?_
   rintro e w4 ⟨r, rfl, ir, b4⟩
   have LL := hid (LL.out.old b4)
   have BD := hid (BD.out.trans (b4.mono BD.out.size))
   rw [← hZe.out] at ir
   rw [← hZe.out, ← HGS.out]
   have R := hid (OwnG_out (s := gs) hsz rfl LL.out (by decide) ir BD.out)
   obtain ⟨ar, cr, rfl, -⟩ := Ints_form ir
   have q0 := LL.out.c0
   have q1 := LL.out.c1
   have f0 := LL.out.f0 0
   have f1 := LL.out.f0 1
   clear ir b4 hsz
   go_wp2
   exact bodyPost_ret (v := .agg #[.bool gs, .slice ar _ cr]) (by simp [results, Tryz.results187, go_sem, q0, q1]) rfl R.out
  ·have hZe := hid (HZ.out.trans ((Int.add_comm _ _).trans (sum_other (by decide))))
   have hV0 := hid (show 0 ≤ val B + (-1) * val A * pw (0 : Int).toNat by have := HL.out; have := vA.out; have := vB.out; simp [pw]; omega)
   go_enter Tryz.func187, Tryz.ntmps187
   go_wp2_with fail
   rw [HW.out]
   refine K.out.mono ?_
   rintro e w1 ⟨rfl, d, rfl⟩
   have J1 := hid (Ints_drew (d := d) I1.out)
   have J2 := hid (Ints_drew (d := d) I2.out)
   have LL := hid (Loc_drewN (d := d) L0.out)
   have BD := hid (Below_drewN (d := d) BB.out)
   go_wp2_with fail
   refine (newWhole_own true _ _ B (by omega) _ J2.out).mono ?_
   rintro e w2 ⟨N, x, rfl, h1, b1'⟩
   have J := hid (Ints_old J1.out b1')
   have LL := hid (LL.out.old b1')
   have BD := hid (BD.out.trans (b1'.mono (by simpa using hs0)))
   have H1 := hid h1
   have hsz : w.heap.size ≤ (W.drewN d).heap.size := by simpa using hs0
   obtain ⟨aa, cc, ee, rr, pp⟩ := slice_own J.out
   obtain ⟨rfl, -, rfl⟩ : a = aa ∧ A.length = A.length ∧ c = cc := by simpa using ee
   have RR := hid rr
   have PP := hid (show Apart (fun k => (W.drewN d).heap.size ≤ k) a from by
    obtain ⟨_, _, e5, _, p5⟩ := slice_own J1.out
    cases e5
    exact p5)
   have hws := hid b1'.size
   clear h1 b1' ee rr pp
   go_wp2_with fail
   refine (addMultiple_any (Q := wholeQ true) _ N x B A _ _ _ (-1) 0 (by decide) (by decide) (by omega) (by omega) lB.out lA.out (by decide) (by decide) hV0.out w2 H1.out (fun k hk => Nat.le_trans hws.out hk) RR.out PP.out).mono ?_
   rintro e w3 ⟨rfl, ⟨y, h2⟩, o2⟩
   have H2 := hid h2
   have LL := hid (LL.out.only o2 (by have := LL.out.lt; have := L0.out.lt; simp; exact L0.out.lt))
   have BD := hid (BD.out.trans (o2.below (B := w.heap.size) fun k hk hs => by have := hsz; omega))
   clear h2 o2
   go_wp2_with fail
   refine (bigInt_own _ true N y _ hV0.out w3 H2.out).mono ?_
   rintro e w4 ⟨r, rfl, ir, b4⟩
   have LL := hid (LL.out.old b4)
   have BD := hid (BD.out.trans (b4.mono BD.out.size))
   rw [← hZe.out] at ir
   rw [← hZe.out, ← HGS.out]
   have R := hid (OwnG_out (s := gs) hsz rfl LL.out (by decide) ir BD.out)
   obtain ⟨ar, cr, rfl, -⟩ := Ints_form ir
   have q0 := LL.out.c0
   have q1 := LL.out.c1
   have f0 := LL.out.f0 0
   have f1 := LL.out.f0 1
   clear ir b4 hsz
   go_wp2
   exact bodyPost_ret (v := .agg #[.bool gs, .slice ar _ cr]) (by simp [results, Tryz.results187, go_sem, q0, q1]) rfl R.out
  ·have hZe := hid (HZ.out.trans ((Int.add_comm _ _).trans (sum_other (by decide))))
   have hV0 := hid (show 0 ≤ val B + (-1) * val A * pw (0 : Int).toNat by have := HL.out; have := vA.out; have := vB.out; simp [pw]; omega)
   go_enter Tryz.func187, Tryz.ntmps187
   go_wp2_with fail
   rw [HW.out]
   refine K.out.mono ?_
   rintro e w1 ⟨rfl, d, rfl⟩
   have J1 := hid (Ints_drew (d := d) I1.out)
   have J2 := hid (Ints_drew (d := d) I2.out)
   have LL := hid (Loc_drewN (d := d) L0.out)
   have BD := hid (Below_drewN (d := d) BB.out)
   go_wp2_with fail
   refine (newWhole_own false _ _ B (by omega) _ J2.out).mono ?_
   rintro e w2 ⟨N, x, rfl, h1, b1'⟩
   have J := hid (Ints_old J1.out b1')
   have LL := hid (LL.out.old b1')
   have BD := hid (BD.out.trans (b1'.mono (by simpa using hs0)))
   have H1 := hid h1
   have hsz : w.heap.size ≤ (W.drewN d).heap.size := by simpa using hs0
   obtain ⟨aa, cc, ee, rr, pp⟩ := slice_own J.out
   obtain ⟨rfl, -, rfl⟩ : a = aa ∧ A.length = A.length ∧ c = cc := by simpa using ee
   have RR := hid rr
   have PP := hid (show Apart (fun k => (W.drewN d).heap.size ≤ k) a from by
    obtain ⟨_, _, e5, _, p5⟩ := slice_own J1.out
    cases e5
    exact p5)
   have hws := hid b1'.size
   clear h1 b1' ee rr pp
   go_wp2_with fail
   refine (addMultiple_any (Q := wholeQ false) _ N x B A _ _ _ (-1) 0 (by decide) (by decide) (by omega) (by omega) lB.out lA.out (by decide) (by decide) hV0.out w2 H1.out (fun k hk => Nat.le_trans hws.out hk) RR.out PP.out).mono ?_
   rintro e w3 ⟨rfl, ⟨y, h2⟩, o2⟩
   have H2 := hid h2
   have LL := hid (LL.out.only o2 (by have := LL.out.lt; have := L0.out.lt; simp; exact L0.out.lt))
   have BD := hid (BD.out.trans (o2.below (B := w.heap.size) fun k hk hs => by have := hsz; omega))
   clear h2 o2
   go_wp2_with fail
   refine (bigInt_own _ false N y _ hV0.out w3 H2.out).mono ?_
   rintro e w4 ⟨r, rfl, ir, b4⟩
   have LL := hid (LL.out.old b4)
   have BD := hid (BD.out.trans (b4.mono BD.out.size))
   rw [← hZe.out] at ir
   rw [← hZe.out, ← HGS.out]
   have R := hid (OwnG_out (s := gs) hsz rfl LL.out (by decide) ir BD.out)
   obtain ⟨ar, cr, rfl, -⟩ := Ints_form ir
   have q0 := LL.out.c0
   have q1 := LL.out.c1
   have f0 := LL.out.f0 0
   have f1 := LL.out.f0 1
   clear ir b4 hsz
   go_wp2
   exact bodyPost_ret (v := .agg #[.bool gs, .slice ar _ cr]) (by simp [results, Tryz.results187, go_sem, q0, q1]) rfl R.out
  ·have hZe := hid (HZ.out.trans ((Int.add_comm _ _).trans sum_same))
   have hV0 := hid (show 0 ≤ val B + 1 * val A * pw (0 : Int).toNat by have := HL.out; have := vA.out; have := vB.out; simp [pw]; omega)
   go_enter Tryz.func187, Tryz.ntmps187
   go_wp2_with fail
   rw [HW.out]
   refine K.out.mono ?_
   rintro e w1 ⟨rfl, d, rfl⟩
   have J1 := hid (Ints_drew (d := d) I1.out)
   have J2 := hid (Ints_drew (d := d) I2.out)
   have LL := hid (Loc_drewN (d := d) L0.out)
   have BD := hid (Below_drewN (d := d) BB.out)
   go_wp2_with fail
   refine (newWhole_own true _ _ B (by omega) _ J2.out).mono ?_
   rintro e w2 ⟨N, x, rfl, h1, b1'⟩
   have J := hid (Ints_old J1.out b1')
   have LL := hid (LL.out.old b1')
   have BD := hid (BD.out.trans (b1'.mono (by simpa using hs0)))
   have H1 := hid h1
   have hsz : w.heap.size ≤ (W.drewN d).heap.size := by simpa using hs0
   obtain ⟨aa, cc, ee, rr, pp⟩ := slice_own J.out
   obtain ⟨rfl, -, rfl⟩ : a = aa ∧ A.length = A.length ∧ c = cc := by simpa using ee
   have RR := hid rr
   have PP := hid (show Apart (fun k => (W.drewN d).heap.size ≤ k) a from by
    obtain ⟨_, _, e5, _, p5⟩ := slice_own J1.out
    cases e5
    exact p5)
   have hws := hid b1'.size
   clear h1 b1' ee rr pp
   go_wp2_with fail
   refine (addMultiple_any (Q := wholeQ true) _ N x B A _ _ _ 1 0 (by decide) (by decide) (by omega) (by omega) lB.out lA.out (by decide) (by decide) hV0.out w2 H1.out (fun k hk => Nat.le_trans hws.out hk) RR.out PP.out).mono ?_
   rintro e w3 ⟨rfl, ⟨y, h2⟩, o2⟩
   have H2 := hid h2
   have LL := hid (LL.out.only o2 (by have := LL.out.lt; have := L0.out.lt; simp; exact L0.out.lt))
   have BD := hid (BD.out.trans (o2.below (B := w.heap.size) fun k hk hs => by have := hsz; omega))
   clear h2 o2
   go_wp2_with fail
   refine (bigInt_own _ true N y _ hV0.out w3 H2.out).mono ?_
   rintro e w4 ⟨r, rfl, ir, b4⟩
   have LL := hid (LL.out.old b4)
   have BD := hid (BD.out.trans (b4.mono BD.out.size))
   rw [← hZe.out] at ir
   rw [← hZe.out, ← HGS.out]
   have R := hid (OwnG_out (s := gs) hsz rfl LL.out (by decide) ir BD.out)
   obtain ⟨ar, cr, rfl, -⟩ := Ints_form ir
   have q0 := LL.out.c0
   have q1 := LL.out.c1
   have f0 := LL.out.f0 0
   have f1 := LL.out.f0 1
   clear ir b4 hsz
   go_wp2
   exact bodyPost_ret (v := .agg #[.bool gs, .slice ar _ cr]) (by simp [results, Tryz.results187, go_sem, q0, q1]) rfl R.out
 ·have hc : ¬ cm < 0 := by have := C.out; have := HC.out; omega
  have HL := hid hlt
  clear hlt
  cases s <;> cases t
  ·have hZe := hid (HZ.out.trans (sum_same))
   have hV0 := hid (show 0 ≤ val A + 1 * val B * pw (0 : Int).toNat by have := HL.out; have := vA.out; have := vB.out; simp [pw]; omega)
   go_enter Tryz.func187, Tryz.ntmps187
   go_wp2_with fail
   rw [HW.out]
   refine K.out.mono ?_
   rintro e w1 ⟨rfl, d, rfl⟩
   have J1 := hid (Ints_drew (d := d) I1.out)
   have J2 := hid (Ints_drew (d := d) I2.out)
   have LL := hid (Loc_drewN (d := d) L0.out)
   have BD := hid (Below_drewN (d := d) BB.out)
   go_wp2_with fail
   refine (newWhole_own false _ _ A (by omega) _ J1.out).mono ?_
   rintro e w2 ⟨N, x, rfl, h1, b1'⟩
   have J := hid (Ints_old J2.out b1')
   have LL := hid (LL.out.old b1')
   have BD := hid (BD.out.trans (b1'.mono (by simpa using hs0)))
   have H1 := hid h1
   have hsz : w.heap.size ≤ (W.drewN d).heap.size := by simpa using hs0
   obtain ⟨aa, cc, ee, rr, pp⟩ := slice_own J.out
   obtain ⟨rfl, -, rfl⟩ : a' = aa ∧ B.length = B.length ∧ c' = cc := by simpa using ee
   have RR := hid rr
   have PP := hid (show Apart (fun k => (W.drewN d).heap.size ≤ k) a' from by
    obtain ⟨_, _, e5, _, p5⟩ := slice_own J2.out
    cases e5
    exact p5)
   have hws := hid b1'.size
   clear h1 b1' ee rr pp
   go_wp2_with fail
   refine (addMultiple_any (Q := wholeQ false) _ N x A B _ _ _ 1 0 (by decide) (by decide) (by omega) (by omega) lA.out lB.out (by decide) (by decide) hV0.out w2 H1.out (fun k hk => Nat.le_trans hws.out hk) RR.out PP.out).mono ?_
   rintro e w3 ⟨rfl, ⟨y, h2⟩, o2⟩
   have H2 := hid h2
   have LL := hid (LL.out.only o2 (by have := LL.out.lt; have := L0.out.lt; simp; exact L0.out.lt))
   have BD := hid (BD.out.trans (o2.below (B := w.heap.size) fun k hk hs => by have := hsz; omega))
   clear h2 o2
   go_wp2_with fail
   refine (bigInt_own _ false N y _ hV0.out w3 H2.out).mono ?_
   rintro e w4 ⟨r, rfl, ir, b4⟩
   have LL := hid (LL.out.old b4)
   have BD := hid (BD.out.trans (b4.mono BD.out.size))
   rw [← hZe.out] at ir
   rw [← hZe.out, ← HGS.out]
   have R := hid (OwnG_out (s := gs) hsz rfl LL.out (by decide) ir BD.out)
   obtain ⟨ar, cr, rfl, -⟩ := Ints_form ir
   have q0 := LL.out.c0
   have q1 := LL.out.c1
   have f0 := LL.out.f0 0
   have f1 := LL.out.f0 1
   clear ir b4 hsz
   go_wp2
   exact bodyPost_ret (v := .agg #[.bool gs, .slice ar _ cr]) (by simp [results, Tryz.results187, go_sem, q0, q1]) rfl R.out
  ·have hZe := hid (HZ.out.trans ((sum_other (by decide))))
   have hV0 := hid (show 0 ≤ val A + (-1) * val B * pw (0 : Int).toNat by have := HL.out; have := vA.out; have := vB.out; simp [pw]; omega)
   go_enter Tryz.func187, Tryz.ntmps187
   go_wp2_with fail
   rw [HW.out]
   refine K.out.mono ?_
   rintro e w1 ⟨rfl, d, rfl⟩
   have J1 := hid (Ints_drew (d := d) I1.out)
   have J2 := hid (Ints_drew (d := d) I2.out)
   have LL := hid (Loc_drewN (d := d) L0.out)
   have BD := hid (Below_drewN (d := d) BB.out)
   go_wp2_with fail
   refine (newWhole_own false _ _ A (by omega) _ J1.out).mono ?_
   rintro e w2 ⟨N, x, rfl, h1, b1'⟩
   have J := hid (Ints_old J2.out b1')
   have LL := hid (LL.out.old b1')
   have BD := hid (BD.out.trans (b1'.mono (by simpa using hs0)))
   have H1 := hid h1
   have hsz : w.heap.size ≤ (W.drewN d).heap.size := by simpa using hs0
   obtain ⟨aa, cc, ee, rr, pp⟩ := slice_own J.out
   obtain ⟨rfl, -, rfl⟩ : a' = aa ∧ B.length = B.length ∧ c' = cc := by simpa using ee
   have RR := hid rr
   have PP := hid (show Apart (fun k => (W.drewN d).heap.size ≤ k) a' from by
    obtain ⟨_, _, e5, _, p5⟩ := slice_own J2.out
    cases e5
    exact p5)
   have hws := hid b1'.size
   clear h1 b1' ee rr pp
   go_wp2_with fail
   refine (addMultiple_any (Q := wholeQ false) _ N x A B _ _ _ (-1) 0 (by decide) (by decide) (by omega) (by omega) lA.out lB.out (by decide) (by decide) hV0.out w2 H1.out (fun k hk => Nat.le_trans hws.out hk) RR.out PP.out).mono ?_
   rintro e w3 ⟨rfl, ⟨y, h2⟩, o2⟩
   have H2 := hid h2
   have LL := hid (LL.out.only o2 (by have := LL.out.lt; have := L0.out.lt; simp; exact L0.out.lt))
   have BD := hid (BD.out.trans (o2.below (B := w.heap.size) fun k hk hs => by have := hsz; omega))
   clear h2 o2
   go_wp2_with fail
   refine (bigInt_own _ false N y _ hV0.out w3 H2.out).mono ?_
   rintro e w4 ⟨r, rfl, ir, b4⟩
   have LL := hid (LL.out.old b4)
   have BD := hid (BD.out.trans (b4.mono BD.out.size))
   rw [← hZe.out] at ir
   rw [← hZe.out, ← HGS.out]
   have R := hid (OwnG_out (s := gs) hsz rfl LL.out (by decide) ir BD.out)
   obtain ⟨ar, cr, rfl, -⟩ := Ints_form ir
   have q0 := LL.out.c0
   have q1 := LL.out.c1
   have f0 := LL.out.f0 0
   have f1 := LL.out.f0 1
   clear ir b4 hsz
   go_wp2
   exact bodyPost_ret (v := .agg #[.bool gs, .slice ar _ cr]) (by simp [results, Tryz.results187, go_sem, q0, q1]) rfl R.out
  ·have hZe := hid (HZ.out.trans ((sum_other (by decide))))
   have hV0 := hid (show 0 ≤ val A + (-1) * val B * pw (0 : Int).toNat by have := HL.out; have := vA.out; have := vB.out; simp [pw]; omega)
   go_enter Tryz.func187, Tryz.ntmps187
   go_wp2_with fail
   rw [HW.out]
   refine K.out.mono ?_
   rintro e w1 ⟨rfl, d, rfl⟩
   have J1 := hid (Ints_drew (d := d) I1.out)
   have J2 := hid (Ints_drew (d := d) I2.out)
   have LL := hid (Loc_drewN (d := d) L0.out)
   have BD := hid (Below_drewN (d := d) BB.out)
   go_wp2_with fail
   refine (newWhole_own true _ _ A (by omega) _ J1.out).mono ?_
   rintro e w2 ⟨N, x, rfl, h1, b1'⟩
   have J := hid (Ints_old J2.out b1')
   have LL := hid (LL.out.old b1')
   have BD := hid (BD.out.trans (b1'.mono (by simpa using hs0)))
   have H1 := hid h1
   have hsz : w.heap.size ≤ (W.drewN d).heap.size := by simpa using hs0
   obtain ⟨aa, cc, ee, rr, pp⟩ := slice_own J.out
   obtain ⟨rfl, -, rfl⟩ : a' = aa ∧ B.length = B.length ∧ c' = cc := by simpa using ee
   have RR := hid rr
   have PP := hid (show Apart (fun k => (W.drewN d).heap.size ≤ k) a' from by
    obtain ⟨_, _, e5, _, p5⟩ := slice_own J2.out
    cases e5
    exact p5)
   have hws := hid b1'.size
   clear h1 b1' ee rr pp
   go_wp2_with fail
   refine (addMultiple_any (Q := wholeQ true) _ N x A B _ _ _ (-1) 0 (by decide) (by decide) (by omega) (by omega) lA.out lB.out (by decide) (by decide) hV0.out w2 H1.out (fun k hk => Nat.le_trans hws.out hk) RR.out PP.out).mono ?_
   rintro e w3 ⟨rfl, ⟨y, h2⟩, o2⟩
   have H2 := hid h2
   have LL := hid (LL.out.only o2 (by have := LL.out.lt; have := L0.out.lt; simp; exact L0.out.lt))
   have BD := hid (BD.out.trans (o2.below (B := w.heap.size) fun k hk hs => by have := hsz; omega))
   clear h2 o2
   go_wp2_with fail
   refine (bigInt_own _ true N y _ hV0.out w3 H2.out).mono ?_
   rintro e w4 ⟨r, rfl, ir, b4⟩
   have LL := hid (LL.out.old b4)
   have BD := hid (BD.out.trans (b4.mono BD.out.size))
   rw [← hZe.out] at ir
   rw [← hZe.out, ← HGS.out]
   have R := hid (OwnG_out (s := gs) hsz rfl LL.out (by decide) ir BD.out)
   obtain ⟨ar, cr, rfl, -⟩ := Ints_form ir
   have q0 := LL.out.c0
   have q1 := LL.out.c1
   have f0 := LL.out.f0 0
   have f1 := LL.out.f0 1
   clear ir b4 hsz
   go_wp2
   exact bodyPost_ret (v := .agg #[.bool gs, .slice ar _ cr]) (by simp [results, Tryz.results187, go_sem, q0, q1]) rfl R.out
  ·have hZe := hid (HZ.out.trans (sum_same))
   have hV0 := hid (show 0 ≤ val A + 1 * val B * pw (0 : Int).toNat by have := HL.out; have := vA.out; have := vB.out; simp [pw]; omega)
   go_enter Tryz.func187, Tryz.ntmps187
   go_wp2_with fail
   rw [HW.out]
   refine K.out.mono ?_
   rintro e w1 ⟨rfl, d, rfl⟩
   have J1 := hid (Ints_drew (d := d) I1.out)
   have J2 := hid (Ints_drew (d := d) I2.out)
   have LL := hid (Loc_drewN (d := d) L0.out)
   have BD := hid (Below_drewN (d := d) BB.out)
   go_wp2_with fail
   refine (newWhole_own true _ _ A (by omega) _ J1.out).mono ?_
   rintro e w2 ⟨N, x, rfl, h1, b1'⟩
   have J := hid (Ints_old J2.out b1')
   have LL := hid (LL.out.old b1')
   have BD := hid (BD.out.trans (b1'.mono (by simpa using hs0)))
   have H1 := hid h1
   have hsz : w.heap.size ≤ (W.drewN d).heap.size := by simpa using hs0
   obtain ⟨aa, cc, ee, rr, pp⟩ := slice_own J.out
   obtain ⟨rfl, -, rfl⟩ : a' = aa ∧ B.length = B.length ∧ c' = cc := by simpa using ee
   have RR := hid rr
   have PP := hid (show Apart (fun k => (W.drewN d).heap.size ≤ k) a' from by
    obtain ⟨_, _, e5, _, p5⟩ := slice_own J2.out
    cases e5
    exact p5)
   have hws := hid b1'.size
   clear h1 b1' ee rr pp
   go_wp2_with fail
   refine (addMultiple_any (Q := wholeQ true) _ N x A B _ _ _ 1 0 (by decide) (by decide) (by omega) (by omega) lA.out lB.out (by decide) (by decide) hV0.out w2 H1.out (fun k hk => Nat.le_trans hws.out hk) RR.out PP.out).mono ?_
   rintro e w3 ⟨rfl, ⟨y, h2⟩, o2⟩
   have H2 := hid h2
   have LL := hid (LL.out.only o2 (by have := LL.out.lt; have := L0.out.lt; simp; exact L0.out.lt))
   have BD := hid (BD.out.trans (o2.below (B := w.heap.size) fun k hk hs => by have := hsz; omega))
   clear h2 o2
   go_wp2_with fail
   refine (bigInt_own _ true N y _ hV0.out w3 H2.out).mono ?_
   rintro e w4 ⟨r, rfl, ir, b4⟩
   have LL := hid (LL.out.old b4)
   have BD := hid (BD.out.trans (b4.mono BD.out.size))
   rw [← hZe.out] at ir
   rw [← hZe.out, ← HGS.out]
   have R := hid (OwnG_out (s := gs) hsz rfl LL.out (by decide) ir BD.out)
   obtain ⟨ar, cr, rfl, -⟩ := Ints_form ir
   have q0 := LL.out.c0
   have q1 := LL.out.c1
   have f0 := LL.out.f0 0
   have f1 := LL.out.f0 1
   clear ir b4 hsz
   go_wp2
   exact bodyPost_ret (v := .agg #[.bool gs, .slice ar _ cr]) (by simp [results, Tryz.results187, go_sem, q0, q1]) rfl R.out
end Go.Proofs.YthkehmnodcmlcaaGreat
namespace Go.Proofs.YthkehmnodcmlcaaGreat
open Go.RowKit
open Go.Lib (hid)
def bin (f : Int → Int → Int) (s : Bool) (A : List Int) (t : Bool) (B : List Int) : Int := if bok s A && bok t B then f (sval s (val A)) (sval t (val B)) else 0
theorem bin_no {f : Int → Int → Int} {s t : Bool} {A B : List Int} (h : bok s A = false ∨ bok t B = false) : bin f s A t B = 0 := by
 unfold bin; rcases h with h | h <;> simp [h]
theorem bin_yes {f : Int → Int → Int} {s t : Bool} {A B : List Int} (h : bok s A = true) (h' : bok t B = true) : bin f s A t B = f (sval s (val A)) (sval t (val B)) := by simp [bin, h, h']
theorem OwnG_zero {s : Bool} {L : List Int} {Z : Int} {w w4 : World} {b : Nat} {T : TypeId} (hs : s = gzs Z) (hl : L = gzl Z) (hz : Z = 0) (hb : b = w.heap.size + 1 + 1) (hB : Below w.heap.size w w4) :
  OwnG s L w (.returned (.agg #[.bool false, .slice none 0 0])) ((w4.setCell ⟨b, 0, none⟩ (.bool false)).setCell ⟨b, 1, none⟩ (.slice none 0 0)) := by
 rw [hs, hl, hz, gzs_zero, gzl_zero]
 exact OwnG_mk (Nat.le_refl _) rfl (Ints_nil _ _) ((hB.setCell (by simp [hb]; omega) _).setCell (by simp [hb]; omega) _)
theorem OwnG_out2 {s : Bool} {L : List Int} {w w4 : World} {r : Value} {lo b : Nat} {T : TypeId} (hlo : w.heap.size ≤ lo) (hb : b = w.heap.size + 1 + 1) (hL : Loc T w4 b false (.slice none 0 0)) (hT : T ≠ 3) (hi : Ints w4 lo r L) (hB : Below w.heap.size w w4) :
  OwnG s L w (.returned (.agg #[.bool s, r])) ((w4.setCell ⟨b, 0, none⟩ (.bool s)).setCell ⟨b, 1, none⟩ r) :=
 OwnG_mk hlo rfl (Ints_set (Ints_set hi (hL.ne hT hi)) (hL.ne hT hi)) ((hB.setCell (by simp [hb]; omega) _).setCell (by simp [hb]; omega) _)
theorem neg_sval {t : Bool} {y : Int} : sval (!t) y = - sval t y := by cases t <;> simp [sval]
def W3 (w : World) (s : Bool) (v : Value) (t : Bool) (u : Value) (T : TypeId) : World := ((w.alloc (.cells #[.bool s, v] T)).alloc (.cells #[.bool t, u] T)).alloc (.cells #[.bool false, .slice none 0 0] T)
theorem W3_below {w : World} {s t : Bool} {v u : Value} {T : TypeId} : Below w.heap.size w (W3 w s v t u T) := (((Below.refl _ _).alloc (Nat.le_refl _) _).alloc (by simp) _).alloc (by simp; omega) _
theorem W3_1 {w : World} {s t : Bool} {v u : Value} {T : TypeId} : Loc T (W3 w s v t u T) w.heap.size s v := (Loc.at rfl).new1.new1
theorem W3_2 {w : World} {s t : Bool} {v u : Value} {T : TypeId} : Loc T (W3 w s v t u T) (w.heap.size + 1) t u := (Loc.at (by simp)).new1
theorem W3_3 {w : World} {s t : Bool} {v u : Value} {T : TypeId} : Loc T (W3 w s v t u T) (w.heap.size + 1 + 1) false (.slice none 0 0) := Loc.at (by simp)
theorem impl_BigIntAdd (s t : Bool) (v u : Value) (A B : List Int) (hA : A.length ≤ 1073741824) (hB : B.length ≤ 1073741824) (b1 b2 : Nat) (w : World) (h1 : Ints w b1 v A) (h2 : Ints w b2 u B) :
  Calls Tryz.prog 153 #[.agg #[.bool s, v], .agg #[.bool t, u]] w (OwnG (gzs (bin (fun x y => x + y) s A t B)) (gzl (bin (fun x y => x + y) s A t B)) w) := by
 obtain ⟨Z, hZ⟩ : ∃ Z, Z = bin (fun x y => x + y) s A t B := ⟨_, rfl⟩
 have HZ := hid hZ
 rw [← hZ]
 clear hZ
 obtain ⟨gs, hgs⟩ : ∃ g, g = gzs Z := ⟨_, rfl⟩
 rw [← hgs]
 have HGS := hid hgs
 clear hgs
 have KA := hid (fun (W : World) (h : Ints W b1 v A) => impl_BigIntOk_own s v A hA b1 W h)
 have KB := hid (fun (W : World) (h : Ints W b2 u B) => impl_BigIntOk_own t u B hB b2 W h)
 have B0 := hid (W3_below (w := w) (s := s) (v := v) (t := t) (u := u) (T := 35))
 have L1 := hid (W3_1 (w := w) (s := s) (v := v) (t := t) (u := u) (T := 35))
 have L2 := hid (W3_2 (w := w) (s := s) (v := v) (t := t) (u := u) (T := 35))
 have L3 := hid (W3_3 (w := w) (s := s) (v := v) (t := t) (u := u) (T := 35))
 have I1 := hid (Ints_old h1 B0.out)
 have I2 := hid (Ints_old h2 B0.out)
 obtain ⟨a, c, rfl, -⟩ := Ints_form h1
 obtain ⟨a', c', rfl, -⟩ := Ints_form h2
 clear h1 h2
 cases e1 : bok s A with
 |false =>
  have hE := hid (HZ.out.trans (bin_no (.inl e1)))
  rw [e1] at KA
  clear e1
  go_enter Tryz.func153, Tryz.ntmps153
  go_wp2_with fail
  change Calls _ _ _ (W3 w s (.slice a A.length c) t (.slice a' B.length c') 35) _
  refine (KA.out _ I1.out).mono ?_
  rintro e w1 ⟨rfl, b1⟩
  have B0 := hid (B0.out.trans (b1.mono B0.out.size))
  have L3 := hid (L3.out.old b1)
  clear b1
  have f0 := L3.out.f0 0
  have f1 := L3.out.f0 1
  have p0 := L3.out.c0
  have p1 := L3.out.c1
  have R := hid (OwnG_zero (T := 35) HGS.out rfl hE.out rfl B0.out)
  clear hE
  go_wp2
  exact bodyPost_ret (v := .agg #[.bool false, .slice none 0 0]) (by simp [results, Tryz.results153, go_sem, p0, p1]) rfl R.out
 |true =>
  rw [e1] at KA
  cases e2 : bok t B with
  |false =>
   have hE := hid (HZ.out.trans (bin_no (.inr e2)))
   rw [e2] at KB
   clear e1 e2
   go_enter Tryz.func153, Tryz.ntmps153
   go_wp2_with fail
   change Calls _ _ _ (W3 w s (.slice a A.length c) t (.slice a' B.length c') 35) _
   refine (KA.out _ I1.out).mono ?_
   rintro e w1 ⟨rfl, b1⟩
   have B0 := hid (B0.out.trans (b1.mono B0.out.size))
   have I2 := hid (Ints_old I2.out b1)
   have L2 := hid (L2.out.old b1)
   have L3 := hid (L3.out.old b1)
   have q0 := L2.out.c0
   have q1 := L2.out.c1
   clear b1
   go_wp2_with fail
   refine (KB.out _ I2.out).mono ?_
   rintro e w2 ⟨rfl, b1⟩
   have B0 := hid (B0.out.trans (b1.mono B0.out.size))
   have L3 := hid (L3.out.old b1)
   clear b1 q0 q1
   have f0 := L3.out.f0 0
   have f1 := L3.out.f0 1
   have p0 := L3.out.c0
   have p1 := L3.out.c1
   have R := hid (OwnG_zero (T := 35) HGS.out rfl hE.out rfl B0.out)
   clear hE
   go_wp2
   exact bodyPost_ret (v := .agg #[.bool false, .slice none 0 0]) (by simp [results, Tryz.results153, go_sem, p0, p1]) rfl R.out
  |true =>
   have hE := hid (HZ.out.trans (bin_yes e1 e2))
   rw [e2] at KB
   have nA := hid (bok_iff.1 e1).1
   have nB := hid (bok_iff.1 e2).1
   clear e1 e2
   go_enter Tryz.func153, Tryz.ntmps153
   go_wp2_with fail
   change Calls _ _ _ (W3 w s (.slice a A.length c) t (.slice a' B.length c') 35) _
   refine (KA.out _ I1.out).mono ?_
   rintro e w1 ⟨rfl, b1⟩
   have B0 := hid (B0.out.trans (b1.mono B0.out.size))
   have I1 := hid (Ints_old I1.out b1)
   have I2 := hid (Ints_old I2.out b1)
   have L1 := hid (L1.out.old b1)
   have L2 := hid (L2.out.old b1)
   have L3 := hid (L3.out.old b1)
   have q0 := L2.out.c0
   have q1 := L2.out.c1
   clear b1
   go_wp2_with fail
   refine (KB.out _ I2.out).mono ?_
   rintro e w2 ⟨rfl, b1⟩
   have B0 := hid (B0.out.trans (b1.mono B0.out.size))
   have I1 := hid (Ints_old I1.out b1)
   have I2 := hid (Ints_old I2.out b1)
   have L1 := hid (L1.out.old b1)
   have L2 := hid (L2.out.old b1)
   have L3 := hid (L3.out.old b1)
   clear b1 q0 q1
   have q0 := L2.out.c0
   have q1 := L2.out.c1
   have q2 := L1.out.c0
   have q3 := L1.out.c1
   go_wp2_with fail
   refine (addSigned_own s (t) _ _ A B nA.out nB.out _ _ w2 I1.out I2.out).mono ?_
   rintro e w3 ⟨r, rfl, ir, b1⟩
   have hE2 := hid (show sval s (val A) + sval (t) (val B) = Z from by rw [hE.out])
   rw [hE2.out] at ir
   rw [hE2.out, ← HGS.out]
   have BB := hid (B0.out.trans (b1.mono B0.out.size))
   have L3 := hid (L3.out.old b1)
   have R := hid (OwnG_out2 (s := gs) B0.out.size rfl L3.out (by decide) ir BB.out)
   obtain ⟨ar, cr, rfl, -⟩ := Ints_form ir
   have f0 := L3.out.f0 0
   have f1 := L3.out.f0 1
   have p0 := L3.out.c0
   have p1 := L3.out.c1
   clear ir b1 q0 q1 q2 q3
   go_wp2
   exact bodyPost_ret (v := .agg #[.bool gs, .slice ar _ cr]) (by simp [results, Tryz.results153, go_sem, p0, p1]) rfl R.out
theorem impl_BigIntSub (s t : Bool) (v u : Value) (A B : List Int) (hA : A.length ≤ 1073741824) (hB : B.length ≤ 1073741824) (b1 b2 : Nat) (w : World) (h1 : Ints w b1 v A) (h2 : Ints w b2 u B) :
  Calls Tryz.prog 173 #[.agg #[.bool s, v], .agg #[.bool t, u]] w (OwnG (gzs (bin (fun x y => x - y) s A t B)) (gzl (bin (fun x y => x - y) s A t B)) w) := by
 obtain ⟨Z, hZ⟩ : ∃ Z, Z = bin (fun x y => x - y) s A t B := ⟨_, rfl⟩
 have HZ := hid hZ
 rw [← hZ]
 clear hZ
 obtain ⟨gs, hgs⟩ : ∃ g, g = gzs Z := ⟨_, rfl⟩
 rw [← hgs]
 have HGS := hid hgs
 clear hgs
 have KA := hid (fun (W : World) (h : Ints W b1 v A) => impl_BigIntOk_own s v A hA b1 W h)
 have KB := hid (fun (W : World) (h : Ints W b2 u B) => impl_BigIntOk_own t u B hB b2 W h)
 have B0 := hid (W3_below (w := w) (s := s) (v := v) (t := t) (u := u) (T := 35))
 have L1 := hid (W3_1 (w := w) (s := s) (v := v) (t := t) (u := u) (T := 35))
 have L2 := hid (W3_2 (w := w) (s := s) (v := v) (t := t) (u := u) (T := 35))
 have L3 := hid (W3_3 (w := w) (s := s) (v := v) (t := t) (u := u) (T := 35))
 have I1 := hid (Ints_old h1 B0.out)
 have I2 := hid (Ints_old h2 B0.out)
 obtain ⟨a, c, rfl, -⟩ := Ints_form h1
 obtain ⟨a', c', rfl, -⟩ := Ints_form h2
 clear h1 h2
 cases e1 : bok s A with
 |false =>
  have hE := hid (HZ.out.trans (bin_no (.inl e1)))
  rw [e1] at KA
  clear e1
  go_enter Tryz.func173, Tryz.ntmps173
  go_wp2_with fail
  change Calls _ _ _ (W3 w s (.slice a A.length c) t (.slice a' B.length c') 35) _
  refine (KA.out _ I1.out).mono ?_
  rintro e w1 ⟨rfl, b1⟩
  have B0 := hid (B0.out.trans (b1.mono B0.out.size))
  have L3 := hid (L3.out.old b1)
  clear b1
  have f0 := L3.out.f0 0
  have f1 := L3.out.f0 1
  have p0 := L3.out.c0
  have p1 := L3.out.c1
  have R := hid (OwnG_zero (T := 35) HGS.out rfl hE.out rfl B0.out)
  clear hE
  go_wp2
  exact bodyPost_ret (v := .agg #[.bool false, .slice none 0 0]) (by simp [results, Tryz.results173, go_sem, p0, p1]) rfl R.out
 |true =>
  rw [e1] at KA
  cases e2 : bok t B with
  |false =>
   have hE := hid (HZ.out.trans (bin_no (.inr e2)))
   rw [e2] at KB
   clear e1 e2
   go_enter Tryz.func173, Tryz.ntmps173
   go_wp2_with fail
   change Calls _ _ _ (W3 w s (.slice a A.length c) t (.slice a' B.length c') 35) _
   refine (KA.out _ I1.out).mono ?_
   rintro e w1 ⟨rfl, b1⟩
   have B0 := hid (B0.out.trans (b1.mono B0.out.size))
   have I2 := hid (Ints_old I2.out b1)
   have L2 := hid (L2.out.old b1)
   have L3 := hid (L3.out.old b1)
   have q0 := L2.out.c0
   have q1 := L2.out.c1
   clear b1
   go_wp2_with fail
   refine (KB.out _ I2.out).mono ?_
   rintro e w2 ⟨rfl, b1⟩
   have B0 := hid (B0.out.trans (b1.mono B0.out.size))
   have L3 := hid (L3.out.old b1)
   clear b1 q0 q1
   have f0 := L3.out.f0 0
   have f1 := L3.out.f0 1
   have p0 := L3.out.c0
   have p1 := L3.out.c1
   have R := hid (OwnG_zero (T := 35) HGS.out rfl hE.out rfl B0.out)
   clear hE
   go_wp2
   exact bodyPost_ret (v := .agg #[.bool false, .slice none 0 0]) (by simp [results, Tryz.results173, go_sem, p0, p1]) rfl R.out
  |true =>
   have hE := hid (HZ.out.trans (bin_yes e1 e2))
   rw [e2] at KB
   have nA := hid (bok_iff.1 e1).1
   have nB := hid (bok_iff.1 e2).1
   clear e1 e2
   go_enter Tryz.func173, Tryz.ntmps173
   go_wp2_with fail
   change Calls _ _ _ (W3 w s (.slice a A.length c) t (.slice a' B.length c') 35) _
   refine (KA.out _ I1.out).mono ?_
   rintro e w1 ⟨rfl, b1⟩
   have B0 := hid (B0.out.trans (b1.mono B0.out.size))
   have I1 := hid (Ints_old I1.out b1)
   have I2 := hid (Ints_old I2.out b1)
   have L1 := hid (L1.out.old b1)
   have L2 := hid (L2.out.old b1)
   have L3 := hid (L3.out.old b1)
   have q0 := L2.out.c0
   have q1 := L2.out.c1
   clear b1
   go_wp2_with fail
   refine (KB.out _ I2.out).mono ?_
   rintro e w2 ⟨rfl, b1⟩
   have B0 := hid (B0.out.trans (b1.mono B0.out.size))
   have I1 := hid (Ints_old I1.out b1)
   have I2 := hid (Ints_old I2.out b1)
   have L1 := hid (L1.out.old b1)
   have L2 := hid (L2.out.old b1)
   have L3 := hid (L3.out.old b1)
   clear b1 q0 q1
   have q0 := L2.out.c0
   have q1 := L2.out.c1
   have q2 := L1.out.c0
   have q3 := L1.out.c1
   go_wp2_with fail
   refine (addSigned_own s (!t) _ _ A B nA.out nB.out _ _ w2 I1.out I2.out).mono ?_
   rintro e w3 ⟨r, rfl, ir, b1⟩
   have hE2 := hid (show sval s (val A) + sval (!t) (val B) = Z from by rw [hE.out, neg_sval, Int.sub_eq_add_neg])
   rw [hE2.out] at ir
   rw [hE2.out, ← HGS.out]
   have BB := hid (B0.out.trans (b1.mono B0.out.size))
   have L3 := hid (L3.out.old b1)
   have R := hid (OwnG_out2 (s := gs) B0.out.size rfl L3.out (by decide) ir BB.out)
   obtain ⟨ar, cr, rfl, -⟩ := Ints_form ir
   have f0 := L3.out.f0 0
   have f1 := L3.out.f0 1
   have p0 := L3.out.c0
   have p1 := L3.out.c1
   clear ir b1 q0 q1 q2 q3
   go_wp2
   exact bodyPost_ret (v := .agg #[.bool gs, .slice ar _ cr]) (by simp [results, Tryz.results173, go_sem, p0, p1]) rfl R.out
end Go.Proofs.YthkehmnodcmlcaaGreat
