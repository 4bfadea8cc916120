/- The reference's BigIntOf and BigIntNeg. -/
import Derived.Test.YtleechafachkaaaDoorSm
namespace Go.Proofs.YtleechafachkaaaDoor
open Go.RowKit
open Go.Lib (hid)
set_option linter.unusedVariables false

theorem val_min : val [854775808, 223372036, 9] = 9223372036854775808 := by decide
theorem Lim_min : Lim [854775808, 223372036, 9] := by intro x hx; simp at hx; omega
theorem OwnG_in {s : Bool} {L : List Int} {w w1 w2 : World} {e : Ending} {b : Nat} {T : TypeId} (h : OwnG s L w1 e w2) (hL : Loc T w1 b false (.slice none 0 0)) (hB : Below w.heap.size w w1) :
    ∃ r, e = .returned (.agg #[.bool s, r]) ∧ Ints w2 w1.heap.size r L ∧ Loc T w2 b false (.slice none 0 0) ∧ Below w.heap.size w w2 := by
  obtain ⟨r, he, hi, hb⟩ := h
  exact ⟨r, he, hi, hL.old hb, hB.trans (hb.mono hB.size)⟩
set_option maxRecDepth 100000 in
set_option maxHeartbeats 3200000 in
theorem spec_BigIntOf (n : Int) (h0 : -9223372036854775808 ≤ n) (h1 : n ≤ 9223372036854775807) (w : World) :
    Calls Tryd.prog 56 #[.int .i64 n] w (OwnG (gzs n) (gzl n) w) := by
  obtain ⟨gs, hgs⟩ : ∃ g, g = gzs n := ⟨_, rfl⟩
  obtain ⟨gl, hgl⟩ : ∃ g, g = gzl n := ⟨_, rfl⟩
  have HGS := hid hgs
  have HGL := hid hgl
  rw [← hgs, ← hgl]
  clear hgs hgl
  have B0 := hid (below_new' (w := w) (o := .cells #[.bool false, .slice none 0 0] 25))
  have L0 := hid (Loc.new (w := w) (T := 25) (s := false) (v := .slice none 0 0))
  by_cases hm : n = -9223372036854775808
  · have hE := hid (gz_neg (n := n) (m := 9223372036854775808) (by omega) (by decide))
    have KM := hid (fun (W : World) (B : Nat) (v : Value) (h : Ints W B v [854775808, 223372036, 9]) => l03Make_own true B v _ (by decide) Lim_min W h)
    rw [val_min, hE.out.1, hE.out.2, ← HGS.out, ← HGL.out] at KM
    have hb : (n == -9223372036854775808) = true := by simpa using hm
    obtain ⟨z, hz⟩ : ∃ z, z = n := ⟨_, rfl⟩
    rw [← hz] at hb ⊢
    clear hm hz
    go_enter Tryd.func56, Tryd.ntmps56
    go_wp2_with fail
    have HX := hid (Ints_lit3 (w := w.alloc (.cells #[.bool false, .slice none 0 0] 25)) (x := 854775808) (y := 223372036) (z := 9))
    have B0 := hid (B0.out.trans ((below_new' (w := w.alloc (.cells #[.bool false, .slice none 0 0] 25)) (o := .cells #[.int .i64 854775808, .int .i64 223372036, .int .i64 9] 3)).mono B0.out.size))
    have L0 := hid (L0.out.new1 (o := .cells #[.int .i64 854775808, .int .i64 223372036, .int .i64 9] 3))
    have hsz : (w.alloc (.cells #[.bool false, .slice none 0 0] 25)).heap.size = w.heap.size + 1 := by simp
    rw [hsz] at HX
    clear hsz
    refine (KM.out _ _ _ HX.out).mono ?_
    rintro e w9 hk
    obtain ⟨r, rfl, ir, lr, br⟩ := OwnG_in hk L0.out B0.out
    have R := hid (OwnG_out1 (s := gs) (w := w) (b := w.heap.size) B0.out.size (by omega) lr (by decide) ir br)
    obtain ⟨ar, cr, rfl, -⟩ := Ints_form ir
    have f0 := lr.f0 0
    have f1 := lr.f0 1
    have p0 := lr.c0
    have p1 := lr.c1
    clear hk ir lr br
    go_wp2
    exact bodyPost_ret (v := .agg #[.bool gs, .slice ar gl.length cr]) (by simp [results, Tryd.results56, go_sem, p0, p1]) rfl R.out
  · by_cases hn : n < 0
    · have hne : (n == -9223372036854775808) = false := by simpa using hm
      obtain ⟨m, hmm⟩ : ∃ m, m = -n := ⟨_, rfl⟩
      have m0 : 0 ≤ m := by omega
      have m1 : m ≤ 9223372036854775807 := by omega
      have h0' : -9223372036854775807 ≤ n := by omega
      have KN := hid (fun (W : World) => spec_NatOf m m1 W)
      have hE := hid (gz_neg (n := n) (m := m) (by omega) m0)
      have hl := rep_short m1
      have KM := hid (fun (W : World) (B : Nat) (v : Value) (h : Ints W B v (rep m.toNat)) => l03Make_own true B v _ (by omega) (Lim_rep _) W h)
      rw [val_rep' m0, hE.out.1, hE.out.2, ← HGS.out, ← HGL.out] at KM
      have HMM := hid hmm
      clear hm hl hmm
      go_enter Tryd.func56, Tryd.ntmps56
      go_wp2_with fail
      rw [← HMM.out]
      generalize w.alloc (.cells #[.bool false, .slice none 0 0] 25) = W at B0 L0 ⊢
      (with_reducible refine (KN.out _).mono ?_)
      rintro e w1 ⟨u, rfl, iu, bu⟩
      have L0 := hid (L0.out.old bu)
      have B0 := hid (B0.out.trans (bu.mono B0.out.size))
      have HU := hid iu
      obtain ⟨au, cu, rfl, -⟩ := Ints_form iu
      clear iu bu
      go_wp2_with fail
      refine (KM.out _ _ _ HU.out).mono ?_
      rintro e w9 hk
      obtain ⟨r, rfl, ir, lr, br⟩ := OwnG_in hk L0.out B0.out
      have R := hid (OwnG_out1 (s := gs) (w := w) (b := w.heap.size) B0.out.size (by omega) lr (by decide) ir br)
      obtain ⟨ar, cr, rfl, -⟩ := Ints_form ir
      have f0 := lr.f0 0
      have f1 := lr.f0 1
      have p0 := lr.c0
      have p1 := lr.c1
      clear hk ir lr br
      go_wp2
      exact bodyPost_ret (v := .agg #[.bool gs, .slice ar gl.length cr]) (by simp [results, Tryd.results56, go_sem, p0, p1]) rfl R.out
    · have hne : (n == -9223372036854775808) = false := by simpa using hm
      have n0 : 0 ≤ n := by omega
      have KN := hid (fun (W : World) => spec_NatOf n h1 W)
      have hl := rep_short h1
      have KM := hid (fun (W : World) (B : Nat) (v : Value) (h : Ints W B v (rep n.toNat)) => l03Make_own false B v _ (by omega) (Lim_rep _) W h)
      rw [val_rep' n0, show sval false n = n from rfl, ← HGS.out, ← HGL.out] at KM
      clear hm hl
      go_enter Tryd.func56, Tryd.ntmps56
      go_wp2_with fail
      skip
      generalize w.alloc (.cells #[.bool false, .slice none 0 0] 25) = W at B0 L0 ⊢
      (with_reducible refine (KN.out _).mono ?_)
      rintro e w1 ⟨u, rfl, iu, bu⟩
      have L0 := hid (L0.out.old bu)
      have B0 := hid (B0.out.trans (bu.mono B0.out.size))
      have HU := hid iu
      obtain ⟨au, cu, rfl, -⟩ := Ints_form iu
      clear iu bu
      go_wp2_with fail
      refine (KM.out _ _ _ HU.out).mono ?_
      rintro e w9 hk
      obtain ⟨r, rfl, ir, lr, br⟩ := OwnG_in hk L0.out B0.out
      have R := hid (OwnG_out1 (s := gs) (w := w) (b := w.heap.size) B0.out.size (by omega) lr (by decide) ir br)
      obtain ⟨ar, cr, rfl, -⟩ := Ints_form ir
      have f0 := lr.f0 0
      have f1 := lr.f0 1
      have p0 := lr.c0
      have p1 := lr.c1
      clear hk ir lr br
      go_wp2
      exact bodyPost_ret (v := .agg #[.bool gs, .slice ar gl.length cr]) (by simp [results, Tryd.results56, go_sem, p0, p1]) rfl R.out

end Go.Proofs.YtleechafachkaaaDoor
