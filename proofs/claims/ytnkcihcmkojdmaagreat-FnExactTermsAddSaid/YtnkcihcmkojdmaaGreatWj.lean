/- The program's signed sum. -/
import Derived.Test.YtnkcihcmkojdmaaGreatWi
namespace Go.Proofs.YtnkcihcmkojdmaaGreat
open Go.RowKit
open Go.Lib (hid)
set_option linter.unusedVariables false

/-- The result is laid into the call's own variable and given out. -/
theorem OwnG_out {s : Bool} {L : List Int} {w w4 : World} {r : Value} {lo b : Nat} {T : TypeId} (hlo : w.heap.size ≤ lo) (hb : b = w.heap.size) (hL : Loc T w4 b false (.slice none 0 0)) (hT : T ≠ 3) (hi : Ints w4 lo r L) (hB : Below w.heap.size w w4) :
    OwnG s L w (.returned (.agg #[.bool s, r])) ((w4.setCell ⟨b, 0, none⟩ (.bool s)).setCell ⟨b, 1, none⟩ r) :=
  OwnG_mk hlo rfl (Ints_set (Ints_set hi (hL.ne hT hi)) (hL.ne hT hi)) ((hB.setCell (by simp [hb]) _).setCell (by simp [hb]) _)
theorem sum_same {s : Bool} {x y : Int} : sval s x + sval s y = sval s (x + 1 * y * pw (0 : Int).toNat) := by unfold sval; split <;> simp [pw] <;> omega
theorem sum_other {s t : Bool} {x y : Int} (h : s ≠ t) : sval s x + sval t y = sval s (x + (-1) * y * pw (0 : Int).toNat) := by cases s <;> cases t <;> simp_all [sval, pw] <;> omega

theorem addPre {v : Value} {A : List Int} {w : World} {b : Nat} {o : Go.Obj} (h : Ints w b v A) : Ints (w.alloc o) b v A := Ints_below h below_new' fun k hk => (Ints_lt h k hk).2
theorem Ints_drew {w : World} {b d : Nat} {v : Value} {A : List Int} (h : Ints w b v A) : Ints (w.drewN d) b v A := h
theorem Below_drewN {B d : Nat} {a w : World} (h : Below B a w) : Below B a (w.drewN d) := ⟨h.os, h.tape, h.output, h.size, h.block⟩
theorem Loc_drewN {T : TypeId} {w : World} {b d : Nat} {s : Bool} {v : Value} (h : Loc T w b s v) : Loc T (w.drewN d) b s v := h
theorem Ints_old {w w' : World} {b : Nat} {v : Value} {A : List Int} (h : Ints w b v A) (hb : Below w.heap.size w w') : Ints w' b v A := Ints_below h hb fun k hk => (Ints_lt h k hk).2

set_option maxRecDepth 100000 in
set_option maxHeartbeats 3200000 in
theorem addSigned_own (s t : Bool) (v u : Value) (A B : List Int) (nA : nok A = true) (nB : nok B = true) (b1 b2 : Nat) (w : World) (h1 : Ints w b1 v A) (h2 : Ints w b2 u B) :
    Calls Tryz.prog 125 #[v, .bool s, u, .bool t] w (OwnG (gzs (sval s (val A) + sval t (val B))) (gzl (sval s (val A) + sval t (val B))) w) := by
  obtain ⟨Z, hZ⟩ : ∃ Z, Z = sval s (val A) + sval t (val B) := ⟨_, rfl⟩
  have HZ := hid hZ
  rw [← hZ]
  clear hZ
  obtain ⟨gs, hgs⟩ : ∃ g, g = gzs Z := ⟨_, rfl⟩
  rw [← hgs]
  have HGS := hid hgs
  clear hgs
  have C := hid (cmp_nok nA nB)
  have lA := hid (nok_lim nA)
  have lB := hid (nok_lim nB)
  have vA := hid (val_nonneg lA.out)
  have vB := hid (val_nonneg lB.out)
  have n1 := nok_len nA
  have n2 := nok_len nB
  clear nA nB
  obtain ⟨cm, hcm⟩ : ∃ c, c = cmpL A B := ⟨_, rfl⟩
  have I1 := hid (addPre (o := .cells #[.bool false, .slice none 0 0] 28) h1)
  have I2 := hid (addPre (o := .cells #[.bool false, .slice none 0 0] 28) h2)
  have BB := hid (below_new' (w := w) (o := .cells #[.bool false, .slice none 0 0] 28))
  have L0 := hid (Loc.new (w := w) (T := 28) (s := false) (v := .slice none 0 0))
  obtain ⟨a, c, rfl, -⟩ := Ints_form h1
  obtain ⟨a', c', rfl, -⟩ := Ints_form h2
  clear h1 h2
  have K := hid (compareLimbs_any a a' _ _ c c' A B (by omega) (by omega) (w.alloc (.cells #[.bool false, .slice none 0 0] 28)) (by obtain ⟨x, y, e, r, -⟩ := slice_own I1.out; cases e; exact r) (by obtain ⟨x, y, e, r, -⟩ := slice_own I2.out; cases e; exact r))
  rw [← hcm] at K
  have HC := hid hcm
  clear hcm
  have hs0 : w.heap.size ≤ (w.alloc (.cells #[.bool false, .slice none 0 0] 28)).heap.size := by simp
  generalize hW : w.alloc (.cells #[.bool false, .slice none 0 0] 28) = W at K I1 I2 BB L0 hs0
  have HW := hid hW
  clear hW
  by_cases hlt : val A < val B
  · have hc : cm < 0 := by have := C.out; have := HC.out; omega
    have HL := hid hlt
    clear hlt
    cases s <;> cases t
    · have hZe := hid (HZ.out.trans ((Int.add_comm _ _).trans sum_same))
      have hV0 := hid (show 0 ≤ val B + 1 * val A * pw (0 : Int).toNat by have := HL.out; have := vA.out; have := vB.out; simp [pw]; omega)
      go_enter Tryz.func125, Tryz.ntmps125
      go_wp2_with fail
      rw [HW.out]
      refine K.out.mono ?_
      rintro e w1 ⟨rfl, d, rfl⟩
      have J1 := hid (Ints_drew (d := d) I1.out)
      have J2 := hid (Ints_drew (d := d) I2.out)
      have LL := hid (Loc_drewN (d := d) L0.out)
      have BD := hid (Below_drewN (d := d) BB.out)
      go_wp2_with fail
      refine (newWhole_own false _ _ B (by omega) _ J2.out).mono ?_
      rintro e w2 ⟨N, x, rfl, h1, b1'⟩
      have J := hid (Ints_old J1.out b1')
      have LL := hid (LL.out.old b1')
      have BD := hid (BD.out.trans (b1'.mono (by simpa using hs0)))
      have H1 := hid h1
      have hsz : w.heap.size ≤ (W.drewN d).heap.size := by simpa using hs0
      obtain ⟨aa, cc, ee, rr, pp⟩ := slice_own J.out
      obtain ⟨rfl, -, rfl⟩ : a = aa ∧ A.length = A.length ∧ c = cc := by simpa using ee
      have RR := hid rr
      have PP := hid (show Apart (fun k => (W.drewN d).heap.size ≤ k) a from by
        obtain ⟨_, _, e5, _, p5⟩ := slice_own J1.out
        cases e5
        exact p5)
      have hws := hid b1'.size
      clear h1 b1' ee rr pp
      go_wp2_with fail
      refine (addMultiple_any (Q := wholeQ false) _ N x B A _ _ _ 1 0 (by decide) (by decide) (by omega) (by omega) lB.out lA.out (by decide) (by decide) hV0.out w2 H1.out (fun k hk => Nat.le_trans hws.out hk) RR.out PP.out).mono ?_
      rintro e w3 ⟨rfl, ⟨y, h2⟩, o2⟩
      have H2 := hid h2
      have LL := hid (LL.out.only o2 (by have := LL.out.lt; have := L0.out.lt; simp; exact L0.out.lt))
      have BD := hid (BD.out.trans (o2.below (B := w.heap.size) fun k hk hs => by have := hsz; omega))
      clear h2 o2
      go_wp2_with fail
      refine (bigInt_own _ false N y _ hV0.out w3 H2.out).mono ?_
      rintro e w4 ⟨r, rfl, ir, b4⟩
      have LL := hid (LL.out.old b4)
      have BD := hid (BD.out.trans (b4.mono BD.out.size))
      rw [← hZe.out] at ir
      rw [← hZe.out, ← HGS.out]
      have R := hid (OwnG_out (s := gs) hsz rfl LL.out (by decide) ir BD.out)
      obtain ⟨ar, cr, rfl, -⟩ := Ints_form ir
      have q0 := LL.out.c0
      have q1 := LL.out.c1
      have f0 := LL.out.f0 0
      have f1 := LL.out.f0 1
      clear ir b4 hsz
      go_wp2
      exact bodyPost_ret (v := .agg #[.bool gs, .slice ar _ cr]) (by simp [results, Tryz.results125, go_sem, q0, q1]) rfl R.out
    · have hZe := hid (HZ.out.trans ((Int.add_comm _ _).trans (sum_other (by decide))))
      have hV0 := hid (show 0 ≤ val B + (-1) * val A * pw (0 : Int).toNat by have := HL.out; have := vA.out; have := vB.out; simp [pw]; omega)
      go_enter Tryz.func125, Tryz.ntmps125
      go_wp2_with fail
      rw [HW.out]
      refine K.out.mono ?_
      rintro e w1 ⟨rfl, d, rfl⟩
      have J1 := hid (Ints_drew (d := d) I1.out)
      have J2 := hid (Ints_drew (d := d) I2.out)
      have LL := hid (Loc_drewN (d := d) L0.out)
      have BD := hid (Below_drewN (d := d) BB.out)
      go_wp2_with fail
      refine (newWhole_own true _ _ B (by omega) _ J2.out).mono ?_
      rintro e w2 ⟨N, x, rfl, h1, b1'⟩
      have J := hid (Ints_old J1.out b1')
      have LL := hid (LL.out.old b1')
      have BD := hid (BD.out.trans (b1'.mono (by simpa using hs0)))
      have H1 := hid h1
      have hsz : w.heap.size ≤ (W.drewN d).heap.size := by simpa using hs0
      obtain ⟨aa, cc, ee, rr, pp⟩ := slice_own J.out
      obtain ⟨rfl, -, rfl⟩ : a = aa ∧ A.length = A.length ∧ c = cc := by simpa using ee
      have RR := hid rr
      have PP := hid (show Apart (fun k => (W.drewN d).heap.size ≤ k) a from by
        obtain ⟨_, _, e5, _, p5⟩ := slice_own J1.out
        cases e5
        exact p5)
      have hws := hid b1'.size
      clear h1 b1' ee rr pp
      go_wp2_with fail
      refine (addMultiple_any (Q := wholeQ true) _ N x B A _ _ _ (-1) 0 (by decide) (by decide) (by omega) (by omega) lB.out lA.out (by decide) (by decide) hV0.out w2 H1.out (fun k hk => Nat.le_trans hws.out hk) RR.out PP.out).mono ?_
      rintro e w3 ⟨rfl, ⟨y, h2⟩, o2⟩
      have H2 := hid h2
      have LL := hid (LL.out.only o2 (by have := LL.out.lt; have := L0.out.lt; simp; exact L0.out.lt))
      have BD := hid (BD.out.trans (o2.below (B := w.heap.size) fun k hk hs => by have := hsz; omega))
      clear h2 o2
      go_wp2_with fail
      refine (bigInt_own _ true N y _ hV0.out w3 H2.out).mono ?_
      rintro e w4 ⟨r, rfl, ir, b4⟩
      have LL := hid (LL.out.old b4)
      have BD := hid (BD.out.trans (b4.mono BD.out.size))
      rw [← hZe.out] at ir
      rw [← hZe.out, ← HGS.out]
      have R := hid (OwnG_out (s := gs) hsz rfl LL.out (by decide) ir BD.out)
      obtain ⟨ar, cr, rfl, -⟩ := Ints_form ir
      have q0 := LL.out.c0
      have q1 := LL.out.c1
      have f0 := LL.out.f0 0
      have f1 := LL.out.f0 1
      clear ir b4 hsz
      go_wp2
      exact bodyPost_ret (v := .agg #[.bool gs, .slice ar _ cr]) (by simp [results, Tryz.results125, go_sem, q0, q1]) rfl R.out
    · have hZe := hid (HZ.out.trans ((Int.add_comm _ _).trans (sum_other (by decide))))
      have hV0 := hid (show 0 ≤ val B + (-1) * val A * pw (0 : Int).toNat by have := HL.out; have := vA.out; have := vB.out; simp [pw]; omega)
      go_enter Tryz.func125, Tryz.ntmps125
      go_wp2_with fail
      rw [HW.out]
      refine K.out.mono ?_
      rintro e w1 ⟨rfl, d, rfl⟩
      have J1 := hid (Ints_drew (d := d) I1.out)
      have J2 := hid (Ints_drew (d := d) I2.out)
      have LL := hid (Loc_drewN (d := d) L0.out)
      have BD := hid (Below_drewN (d := d) BB.out)
      go_wp2_with fail
      refine (newWhole_own false _ _ B (by omega) _ J2.out).mono ?_
      rintro e w2 ⟨N, x, rfl, h1, b1'⟩
      have J := hid (Ints_old J1.out b1')
      have LL := hid (LL.out.old b1')
      have BD := hid (BD.out.trans (b1'.mono (by simpa using hs0)))
      have H1 := hid h1
      have hsz : w.heap.size ≤ (W.drewN d).heap.size := by simpa using hs0
      obtain ⟨aa, cc, ee, rr, pp⟩ := slice_own J.out
      obtain ⟨rfl, -, rfl⟩ : a = aa ∧ A.length = A.length ∧ c = cc := by simpa using ee
      have RR := hid rr
      have PP := hid (show Apart (fun k => (W.drewN d).heap.size ≤ k) a from by
        obtain ⟨_, _, e5, _, p5⟩ := slice_own J1.out
        cases e5
        exact p5)
      have hws := hid b1'.size
      clear h1 b1' ee rr pp
      go_wp2_with fail
      refine (addMultiple_any (Q := wholeQ false) _ N x B A _ _ _ (-1) 0 (by decide) (by decide) (by omega) (by omega) lB.out lA.out (by decide) (by decide) hV0.out w2 H1.out (fun k hk => Nat.le_trans hws.out hk) RR.out PP.out).mono ?_
      rintro e w3 ⟨rfl, ⟨y, h2⟩, o2⟩
      have H2 := hid h2
      have LL := hid (LL.out.only o2 (by have := LL.out.lt; have := L0.out.lt; simp; exact L0.out.lt))
      have BD := hid (BD.out.trans (o2.below (B := w.heap.size) fun k hk hs => by have := hsz; omega))
      clear h2 o2
      go_wp2_with fail
      refine (bigInt_own _ false N y _ hV0.out w3 H2.out).mono ?_
      rintro e w4 ⟨r, rfl, ir, b4⟩
      have LL := hid (LL.out.old b4)
      have BD := hid (BD.out.trans (b4.mono BD.out.size))
      rw [← hZe.out] at ir
      rw [← hZe.out, ← HGS.out]
      have R := hid (OwnG_out (s := gs) hsz rfl LL.out (by decide) ir BD.out)
      obtain ⟨ar, cr, rfl, -⟩ := Ints_form ir
      have q0 := LL.out.c0
      have q1 := LL.out.c1
      have f0 := LL.out.f0 0
      have f1 := LL.out.f0 1
      clear ir b4 hsz
      go_wp2
      exact bodyPost_ret (v := .agg #[.bool gs, .slice ar _ cr]) (by simp [results, Tryz.results125, go_sem, q0, q1]) rfl R.out
    · have hZe := hid (HZ.out.trans ((Int.add_comm _ _).trans sum_same))
      have hV0 := hid (show 0 ≤ val B + 1 * val A * pw (0 : Int).toNat by have := HL.out; have := vA.out; have := vB.out; simp [pw]; omega)
      go_enter Tryz.func125, Tryz.ntmps125
      go_wp2_with fail
      rw [HW.out]
      refine K.out.mono ?_
      rintro e w1 ⟨rfl, d, rfl⟩
      have J1 := hid (Ints_drew (d := d) I1.out)
      have J2 := hid (Ints_drew (d := d) I2.out)
      have LL := hid (Loc_drewN (d := d) L0.out)
      have BD := hid (Below_drewN (d := d) BB.out)
      go_wp2_with fail
      refine (newWhole_own true _ _ B (by omega) _ J2.out).mono ?_
      rintro e w2 ⟨N, x, rfl, h1, b1'⟩
      have J := hid (Ints_old J1.out b1')
      have LL := hid (LL.out.old b1')
      have BD := hid (BD.out.trans (b1'.mono (by simpa using hs0)))
      have H1 := hid h1
      have hsz : w.heap.size ≤ (W.drewN d).heap.size := by simpa using hs0
      obtain ⟨aa, cc, ee, rr, pp⟩ := slice_own J.out
      obtain ⟨rfl, -, rfl⟩ : a = aa ∧ A.length = A.length ∧ c = cc := by simpa using ee
      have RR := hid rr
      have PP := hid (show Apart (fun k => (W.drewN d).heap.size ≤ k) a from by
        obtain ⟨_, _, e5, _, p5⟩ := slice_own J1.out
        cases e5
        exact p5)
      have hws := hid b1'.size
      clear h1 b1' ee rr pp
      go_wp2_with fail
      refine (addMultiple_any (Q := wholeQ true) _ N x B A _ _ _ 1 0 (by decide) (by decide) (by omega) (by omega) lB.out lA.out (by decide) (by decide) hV0.out w2 H1.out (fun k hk => Nat.le_trans hws.out hk) RR.out PP.out).mono ?_
      rintro e w3 ⟨rfl, ⟨y, h2⟩, o2⟩
      have H2 := hid h2
      have LL := hid (LL.out.only o2 (by have := LL.out.lt; have := L0.out.lt; simp; exact L0.out.lt))
      have BD := hid (BD.out.trans (o2.below (B := w.heap.size) fun k hk hs => by have := hsz; omega))
      clear h2 o2
      go_wp2_with fail
      refine (bigInt_own _ true N y _ hV0.out w3 H2.out).mono ?_
      rintro e w4 ⟨r, rfl, ir, b4⟩
      have LL := hid (LL.out.old b4)
      have BD := hid (BD.out.trans (b4.mono BD.out.size))
      rw [← hZe.out] at ir
      rw [← hZe.out, ← HGS.out]
      have R := hid (OwnG_out (s := gs) hsz rfl LL.out (by decide) ir BD.out)
      obtain ⟨ar, cr, rfl, -⟩ := Ints_form ir
      have q0 := LL.out.c0
      have q1 := LL.out.c1
      have f0 := LL.out.f0 0
      have f1 := LL.out.f0 1
      clear ir b4 hsz
      go_wp2
      exact bodyPost_ret (v := .agg #[.bool gs, .slice ar _ cr]) (by simp [results, Tryz.results125, go_sem, q0, q1]) rfl R.out
  · have hc : ¬ cm < 0 := by have := C.out; have := HC.out; omega
    have HL := hid hlt
    clear hlt
    cases s <;> cases t
    · have hZe := hid (HZ.out.trans (sum_same))
      have hV0 := hid (show 0 ≤ val A + 1 * val B * pw (0 : Int).toNat by have := HL.out; have := vA.out; have := vB.out; simp [pw]; omega)
      go_enter Tryz.func125, Tryz.ntmps125
      go_wp2_with fail
      rw [HW.out]
      refine K.out.mono ?_
      rintro e w1 ⟨rfl, d, rfl⟩
      have J1 := hid (Ints_drew (d := d) I1.out)
      have J2 := hid (Ints_drew (d := d) I2.out)
      have LL := hid (Loc_drewN (d := d) L0.out)
      have BD := hid (Below_drewN (d := d) BB.out)
      go_wp2_with fail
      refine (newWhole_own false _ _ A (by omega) _ J1.out).mono ?_
      rintro e w2 ⟨N, x, rfl, h1, b1'⟩
      have J := hid (Ints_old J2.out b1')
      have LL := hid (LL.out.old b1')
      have BD := hid (BD.out.trans (b1'.mono (by simpa using hs0)))
      have H1 := hid h1
      have hsz : w.heap.size ≤ (W.drewN d).heap.size := by simpa using hs0
      obtain ⟨aa, cc, ee, rr, pp⟩ := slice_own J.out
      obtain ⟨rfl, -, rfl⟩ : a' = aa ∧ B.length = B.length ∧ c' = cc := by simpa using ee
      have RR := hid rr
      have PP := hid (show Apart (fun k => (W.drewN d).heap.size ≤ k) a' from by
        obtain ⟨_, _, e5, _, p5⟩ := slice_own J2.out
        cases e5
        exact p5)
      have hws := hid b1'.size
      clear h1 b1' ee rr pp
      go_wp2_with fail
      refine (addMultiple_any (Q := wholeQ false) _ N x A B _ _ _ 1 0 (by decide) (by decide) (by omega) (by omega) lA.out lB.out (by decide) (by decide) hV0.out w2 H1.out (fun k hk => Nat.le_trans hws.out hk) RR.out PP.out).mono ?_
      rintro e w3 ⟨rfl, ⟨y, h2⟩, o2⟩
      have H2 := hid h2
      have LL := hid (LL.out.only o2 (by have := LL.out.lt; have := L0.out.lt; simp; exact L0.out.lt))
      have BD := hid (BD.out.trans (o2.below (B := w.heap.size) fun k hk hs => by have := hsz; omega))
      clear h2 o2
      go_wp2_with fail
      refine (bigInt_own _ false N y _ hV0.out w3 H2.out).mono ?_
      rintro e w4 ⟨r, rfl, ir, b4⟩
      have LL := hid (LL.out.old b4)
      have BD := hid (BD.out.trans (b4.mono BD.out.size))
      rw [← hZe.out] at ir
      rw [← hZe.out, ← HGS.out]
      have R := hid (OwnG_out (s := gs) hsz rfl LL.out (by decide) ir BD.out)
      obtain ⟨ar, cr, rfl, -⟩ := Ints_form ir
      have q0 := LL.out.c0
      have q1 := LL.out.c1
      have f0 := LL.out.f0 0
      have f1 := LL.out.f0 1
      clear ir b4 hsz
      go_wp2
      exact bodyPost_ret (v := .agg #[.bool gs, .slice ar _ cr]) (by simp [results, Tryz.results125, go_sem, q0, q1]) rfl R.out
    · have hZe := hid (HZ.out.trans ((sum_other (by decide))))
      have hV0 := hid (show 0 ≤ val A + (-1) * val B * pw (0 : Int).toNat by have := HL.out; have := vA.out; have := vB.out; simp [pw]; omega)
      go_enter Tryz.func125, Tryz.ntmps125
      go_wp2_with fail
      rw [HW.out]
      refine K.out.mono ?_
      rintro e w1 ⟨rfl, d, rfl⟩
      have J1 := hid (Ints_drew (d := d) I1.out)
      have J2 := hid (Ints_drew (d := d) I2.out)
      have LL := hid (Loc_drewN (d := d) L0.out)
      have BD := hid (Below_drewN (d := d) BB.out)
      go_wp2_with fail
      refine (newWhole_own false _ _ A (by omega) _ J1.out).mono ?_
      rintro e w2 ⟨N, x, rfl, h1, b1'⟩
      have J := hid (Ints_old J2.out b1')
      have LL := hid (LL.out.old b1')
      have BD := hid (BD.out.trans (b1'.mono (by simpa using hs0)))
      have H1 := hid h1
      have hsz : w.heap.size ≤ (W.drewN d).heap.size := by simpa using hs0
      obtain ⟨aa, cc, ee, rr, pp⟩ := slice_own J.out
      obtain ⟨rfl, -, rfl⟩ : a' = aa ∧ B.length = B.length ∧ c' = cc := by simpa using ee
      have RR := hid rr
      have PP := hid (show Apart (fun k => (W.drewN d).heap.size ≤ k) a' from by
        obtain ⟨_, _, e5, _, p5⟩ := slice_own J2.out
        cases e5
        exact p5)
      have hws := hid b1'.size
      clear h1 b1' ee rr pp
      go_wp2_with fail
      refine (addMultiple_any (Q := wholeQ false) _ N x A B _ _ _ (-1) 0 (by decide) (by decide) (by omega) (by omega) lA.out lB.out (by decide) (by decide) hV0.out w2 H1.out (fun k hk => Nat.le_trans hws.out hk) RR.out PP.out).mono ?_
      rintro e w3 ⟨rfl, ⟨y, h2⟩, o2⟩
      have H2 := hid h2
      have LL := hid (LL.out.only o2 (by have := LL.out.lt; have := L0.out.lt; simp; exact L0.out.lt))
      have BD := hid (BD.out.trans (o2.below (B := w.heap.size) fun k hk hs => by have := hsz; omega))
      clear h2 o2
      go_wp2_with fail
      refine (bigInt_own _ false N y _ hV0.out w3 H2.out).mono ?_
      rintro e w4 ⟨r, rfl, ir, b4⟩
      have LL := hid (LL.out.old b4)
      have BD := hid (BD.out.trans (b4.mono BD.out.size))
      rw [← hZe.out] at ir
      rw [← hZe.out, ← HGS.out]
      have R := hid (OwnG_out (s := gs) hsz rfl LL.out (by decide) ir BD.out)
      obtain ⟨ar, cr, rfl, -⟩ := Ints_form ir
      have q0 := LL.out.c0
      have q1 := LL.out.c1
      have f0 := LL.out.f0 0
      have f1 := LL.out.f0 1
      clear ir b4 hsz
      go_wp2
      exact bodyPost_ret (v := .agg #[.bool gs, .slice ar _ cr]) (by simp [results, Tryz.results125, go_sem, q0, q1]) rfl R.out
    · have hZe := hid (HZ.out.trans ((sum_other (by decide))))
      have hV0 := hid (show 0 ≤ val A + (-1) * val B * pw (0 : Int).toNat by have := HL.out; have := vA.out; have := vB.out; simp [pw]; omega)
      go_enter Tryz.func125, Tryz.ntmps125
      go_wp2_with fail
      rw [HW.out]
      refine K.out.mono ?_
      rintro e w1 ⟨rfl, d, rfl⟩
      have J1 := hid (Ints_drew (d := d) I1.out)
      have J2 := hid (Ints_drew (d := d) I2.out)
      have LL := hid (Loc_drewN (d := d) L0.out)
      have BD := hid (Below_drewN (d := d) BB.out)
      go_wp2_with fail
      refine (newWhole_own true _ _ A (by omega) _ J1.out).mono ?_
      rintro e w2 ⟨N, x, rfl, h1, b1'⟩
      have J := hid (Ints_old J2.out b1')
      have LL := hid (LL.out.old b1')
      have BD := hid (BD.out.trans (b1'.mono (by simpa using hs0)))
      have H1 := hid h1
      have hsz : w.heap.size ≤ (W.drewN d).heap.size := by simpa using hs0
      obtain ⟨aa, cc, ee, rr, pp⟩ := slice_own J.out
      obtain ⟨rfl, -, rfl⟩ : a' = aa ∧ B.length = B.length ∧ c' = cc := by simpa using ee
      have RR := hid rr
      have PP := hid (show Apart (fun k => (W.drewN d).heap.size ≤ k) a' from by
        obtain ⟨_, _, e5, _, p5⟩ := slice_own J2.out
        cases e5
        exact p5)
      have hws := hid b1'.size
      clear h1 b1' ee rr pp
      go_wp2_with fail
      refine (addMultiple_any (Q := wholeQ true) _ N x A B _ _ _ (-1) 0 (by decide) (by decide) (by omega) (by omega) lA.out lB.out (by decide) (by decide) hV0.out w2 H1.out (fun k hk => Nat.le_trans hws.out hk) RR.out PP.out).mono ?_
      rintro e w3 ⟨rfl, ⟨y, h2⟩, o2⟩
      have H2 := hid h2
      have LL := hid (LL.out.only o2 (by have := LL.out.lt; have := L0.out.lt; simp; exact L0.out.lt))
      have BD := hid (BD.out.trans (o2.below (B := w.heap.size) fun k hk hs => by have := hsz; omega))
      clear h2 o2
      go_wp2_with fail
      refine (bigInt_own _ true N y _ hV0.out w3 H2.out).mono ?_
      rintro e w4 ⟨r, rfl, ir, b4⟩
      have LL := hid (LL.out.old b4)
      have BD := hid (BD.out.trans (b4.mono BD.out.size))
      rw [← hZe.out] at ir
      rw [← hZe.out, ← HGS.out]
      have R := hid (OwnG_out (s := gs) hsz rfl LL.out (by decide) ir BD.out)
      obtain ⟨ar, cr, rfl, -⟩ := Ints_form ir
      have q0 := LL.out.c0
      have q1 := LL.out.c1
      have f0 := LL.out.f0 0
      have f1 := LL.out.f0 1
      clear ir b4 hsz
      go_wp2
      exact bodyPost_ret (v := .agg #[.bool gs, .slice ar _ cr]) (by simp [results, Tryz.results125, go_sem, q0, q1]) rfl R.out
    · have hZe := hid (HZ.out.trans (sum_same))
      have hV0 := hid (show 0 ≤ val A + 1 * val B * pw (0 : Int).toNat by have := HL.out; have := vA.out; have := vB.out; simp [pw]; omega)
      go_enter Tryz.func125, Tryz.ntmps125
      go_wp2_with fail
      rw [HW.out]
      refine K.out.mono ?_
      rintro e w1 ⟨rfl, d, rfl⟩
      have J1 := hid (Ints_drew (d := d) I1.out)
      have J2 := hid (Ints_drew (d := d) I2.out)
      have LL := hid (Loc_drewN (d := d) L0.out)
      have BD := hid (Below_drewN (d := d) BB.out)
      go_wp2_with fail
      refine (newWhole_own true _ _ A (by omega) _ J1.out).mono ?_
      rintro e w2 ⟨N, x, rfl, h1, b1'⟩
      have J := hid (Ints_old J2.out b1')
      have LL := hid (LL.out.old b1')
      have BD := hid (BD.out.trans (b1'.mono (by simpa using hs0)))
      have H1 := hid h1
      have hsz : w.heap.size ≤ (W.drewN d).heap.size := by simpa using hs0
      obtain ⟨aa, cc, ee, rr, pp⟩ := slice_own J.out
      obtain ⟨rfl, -, rfl⟩ : a' = aa ∧ B.length = B.length ∧ c' = cc := by simpa using ee
      have RR := hid rr
      have PP := hid (show Apart (fun k => (W.drewN d).heap.size ≤ k) a' from by
        obtain ⟨_, _, e5, _, p5⟩ := slice_own J2.out
        cases e5
        exact p5)
      have hws := hid b1'.size
      clear h1 b1' ee rr pp
      go_wp2_with fail
      refine (addMultiple_any (Q := wholeQ true) _ N x A B _ _ _ 1 0 (by decide) (by decide) (by omega) (by omega) lA.out lB.out (by decide) (by decide) hV0.out w2 H1.out (fun k hk => Nat.le_trans hws.out hk) RR.out PP.out).mono ?_
      rintro e w3 ⟨rfl, ⟨y, h2⟩, o2⟩
      have H2 := hid h2
      have LL := hid (LL.out.only o2 (by have := LL.out.lt; have := L0.out.lt; simp; exact L0.out.lt))
      have BD := hid (BD.out.trans (o2.below (B := w.heap.size) fun k hk hs => by have := hsz; omega))
      clear h2 o2
      go_wp2_with fail
      refine (bigInt_own _ true N y _ hV0.out w3 H2.out).mono ?_
      rintro e w4 ⟨r, rfl, ir, b4⟩
      have LL := hid (LL.out.old b4)
      have BD := hid (BD.out.trans (b4.mono BD.out.size))
      rw [← hZe.out] at ir
      rw [← hZe.out, ← HGS.out]
      have R := hid (OwnG_out (s := gs) hsz rfl LL.out (by decide) ir BD.out)
      obtain ⟨ar, cr, rfl, -⟩ := Ints_form ir
      have q0 := LL.out.c0
      have q1 := LL.out.c1
      have f0 := LL.out.f0 0
      have f1 := LL.out.f0 1
      clear ir b4 hsz
      go_wp2
      exact bodyPost_ret (v := .agg #[.bool gs, .slice ar _ cr]) (by simp [results, Tryz.results125, go_sem, q0, q1]) rfl R.out
end Go.Proofs.YtnkcihcmkojdmaaGreat
