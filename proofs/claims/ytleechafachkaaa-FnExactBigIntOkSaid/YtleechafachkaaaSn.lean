/- The reference's BigIntOf and BigIntNeg. -/
import Derived.Test.YtleechafachkaaaSm
namespace Go.Proofs.Ytleechafachkaaa
open Go.RowKit
open Go.Lib (hid)
set_option linter.unusedVariables false

theorem val_min : val [854775808, 223372036, 9] = 9223372036854775808 := by decide
theorem Lim_min : Lim [854775808, 223372036, 9] := by intro x hx; simp at hx; omega
theorem OwnG_in {s : Bool} {L : List Int} {w w1 w2 : World} {e : Ending} {b : Nat} {T : TypeId} (h : OwnG s L w1 e w2) (hL : Loc T w1 b false (.slice none 0 0)) (hB : Below w.heap.size w w1) :
    ∃ r, e = .returned (.agg #[.bool s, r]) ∧ Ints w2 w1.heap.size r L ∧ Loc T w2 b false (.slice none 0 0) ∧ Below w.heap.size w w2 := by
  obtain ⟨r, he, hi, hb⟩ := h
  exact ⟨r, he, hi, hL.old hb, hB.trans (hb.mono hB.size)⟩
set_option maxRecDepth 100000 in
set_option maxHeartbeats 3200000 in
theorem spec_BigIntOf (n : Int) (h0 : -9223372036854775808 ≤ n) (h1 : n ≤ 9223372036854775807) (w : World) :
    Calls Try.prog 16 #[.int .i64 n] w (OwnG (gzs n) (gzl n) w) := by
  obtain ⟨gs, hgs⟩ : ∃ g, g = gzs n := ⟨_, rfl⟩
  obtain ⟨gl, hgl⟩ : ∃ g, g = gzl n := ⟨_, rfl⟩
  have HGS := hid hgs
  have HGL := hid hgl
  rw [← hgs, ← hgl]
  clear hgs hgl
  have B0 := hid (below_new' (w := w) (o := .cells #[.bool false, .slice none 0 0] 27))
  have L0 := hid (Loc.new (w := w) (T := 27) (s := false) (v := .slice none 0 0))
  by_cases hm : n = -9223372036854775808
  · have hE := hid (gz_neg (n := n) (m := 9223372036854775808) (by omega) (by decide))
    have KM := hid (fun (W : World) (B : Nat) (v : Value) (h : Ints W B v [854775808, 223372036, 9]) => l03Make_own true B v _ (by decide) Lim_min W h)
    rw [val_min, hE.out.1, hE.out.2, ← HGS.out, ← HGL.out] at KM
    have hb : (n == -9223372036854775808) = true := by simpa using hm
    obtain ⟨z, hz⟩ : ∃ z, z = n := ⟨_, rfl⟩
    rw [← hz] at hb ⊢
    clear hm hz
    go_enter Try.func16, Try.ntmps16
    go_wp2_with fail
    have HX := hid (Ints_lit3 (w := w.alloc (.cells #[.bool false, .slice none 0 0] 27)) (x := 854775808) (y := 223372036) (z := 9))
    have B0 := hid (B0.out.trans ((below_new' (w := w.alloc (.cells #[.bool false, .slice none 0 0] 27)) (o := .cells #[.int .i64 854775808, .int .i64 223372036, .int .i64 9] 3)).mono B0.out.size))
    have L0 := hid (L0.out.new1 (o := .cells #[.int .i64 854775808, .int .i64 223372036, .int .i64 9] 3))
    have hsz : (w.alloc (.cells #[.bool false, .slice none 0 0] 27)).heap.size = w.heap.size + 1 := by simp
    rw [hsz] at HX
    clear hsz
    refine (KM.out _ _ _ HX.out).mono ?_
    rintro e w9 hk
    obtain ⟨r, rfl, ir, lr, br⟩ := OwnG_in hk L0.out B0.out
    have R := hid (OwnG_out1 (s := gs) (w := w) (b := w.heap.size) B0.out.size (by omega) lr (by decide) ir br)
    obtain ⟨ar, cr, rfl, -⟩ := Ints_form ir
    have f0 := lr.f0 0
    have f1 := lr.f0 1
    have p0 := lr.c0
    have p1 := lr.c1
    clear hk ir lr br
    go_wp2
    exact bodyPost_ret (v := .agg #[.bool gs, .slice ar gl.length cr]) (by simp [results, Try.results16, go_sem, p0, p1]) rfl R.out
  · by_cases hn : n < 0
    · have hne : (n == -9223372036854775808) = false := by simpa using hm
      obtain ⟨m, hmm⟩ : ∃ m, m = -n := ⟨_, rfl⟩
      have m0 : 0 ≤ m := by omega
      have m1 : m ≤ 9223372036854775807 := by omega
      have h0' : -9223372036854775807 ≤ n := by omega
      have KN := hid (fun (W : World) => spec_NatOf m m1 W)
      have hE := hid (gz_neg (n := n) (m := m) (by omega) m0)
      have hl := rep_short m1
      have KM := hid (fun (W : World) (B : Nat) (v : Value) (h : Ints W B v (rep m.toNat)) => l03Make_own true B v _ (by omega) (Lim_rep _) W h)
      rw [val_rep' m0, hE.out.1, hE.out.2, ← HGS.out, ← HGL.out] at KM
      have HMM := hid hmm
      clear hm hl hmm
      go_enter Try.func16, Try.ntmps16
      go_wp2_with fail
      rw [← HMM.out]
      generalize w.alloc (.cells #[.bool false, .slice none 0 0] 27) = W at B0 L0 ⊢
      (with_reducible refine (KN.out _).mono ?_)
      rintro e w1 ⟨u, rfl, iu, bu⟩
      have L0 := hid (L0.out.old bu)
      have B0 := hid (B0.out.trans (bu.mono B0.out.size))
      have HU := hid iu
      obtain ⟨au, cu, rfl, -⟩ := Ints_form iu
      clear iu bu
      go_wp2_with fail
      refine (KM.out _ _ _ HU.out).mono ?_
      rintro e w9 hk
      obtain ⟨r, rfl, ir, lr, br⟩ := OwnG_in hk L0.out B0.out
      have R := hid (OwnG_out1 (s := gs) (w := w) (b := w.heap.size) B0.out.size (by omega) lr (by decide) ir br)
      obtain ⟨ar, cr, rfl, -⟩ := Ints_form ir
      have f0 := lr.f0 0
      have f1 := lr.f0 1
      have p0 := lr.c0
      have p1 := lr.c1
      clear hk ir lr br
      go_wp2
      exact bodyPost_ret (v := .agg #[.bool gs, .slice ar gl.length cr]) (by simp [results, Try.results16, go_sem, p0, p1]) rfl R.out
    · have hne : (n == -9223372036854775808) = false := by simpa using hm
      have n0 : 0 ≤ n := by omega
      have KN := hid (fun (W : World) => spec_NatOf n h1 W)
      have hl := rep_short h1
      have KM := hid (fun (W : World) (B : Nat) (v : Value) (h : Ints W B v (rep n.toNat)) => l03Make_own false B v _ (by omega) (Lim_rep _) W h)
      rw [val_rep' n0, show sval false n = n from rfl, ← HGS.out, ← HGL.out] at KM
      clear hm hl
      go_enter Try.func16, Try.ntmps16
      go_wp2_with fail
      skip
      generalize w.alloc (.cells #[.bool false, .slice none 0 0] 27) = W at B0 L0 ⊢
      (with_reducible refine (KN.out _).mono ?_)
      rintro e w1 ⟨u, rfl, iu, bu⟩
      have L0 := hid (L0.out.old bu)
      have B0 := hid (B0.out.trans (bu.mono B0.out.size))
      have HU := hid iu
      obtain ⟨au, cu, rfl, -⟩ := Ints_form iu
      clear iu bu
      go_wp2_with fail
      refine (KM.out _ _ _ HU.out).mono ?_
      rintro e w9 hk
      obtain ⟨r, rfl, ir, lr, br⟩ := OwnG_in hk L0.out B0.out
      have R := hid (OwnG_out1 (s := gs) (w := w) (b := w.heap.size) B0.out.size (by omega) lr (by decide) ir br)
      obtain ⟨ar, cr, rfl, -⟩ := Ints_form ir
      have f0 := lr.f0 0
      have f1 := lr.f0 1
      have p0 := lr.c0
      have p1 := lr.c1
      clear hk ir lr br
      go_wp2
      exact bodyPost_ret (v := .agg #[.bool gs, .slice ar gl.length cr]) (by simp [results, Try.results16, go_sem, p0, p1]) rfl R.out

set_option maxRecDepth 100000 in
set_option maxHeartbeats 3200000 in
theorem spec_BigIntNeg (s : Bool) (v : Value) (A : List Int) (hA : A.length ≤ 1073741824) (b1 : Nat) (w : World) (h1 : Ints w b1 v A) :
    Calls Try.prog 22 #[.agg #[.bool s, v]] w (OwnG (gzs (una (fun x => -x) s A)) (gzl (una (fun x => -x) s A)) w) := by
  obtain ⟨Z, hZ⟩ : ∃ Z, Z = una (fun x => -x) s A := ⟨_, rfl⟩
  have HZ := hid hZ
  rw [← hZ]
  clear hZ
  obtain ⟨gs, hgs⟩ : ∃ g, g = gzs Z := ⟨_, rfl⟩
  rw [← hgs]
  have HGS := hid hgs
  clear hgs
  have KA := hid (fun (W : World) (h : Ints W b1 v A) => spec_BigIntOk_own s v A hA b1 W h)
  have B0 := hid (W2_below (w := w) (s := s) (v := v) (T := 27))
  have L1 := hid (W2_1 (w := w) (s := s) (v := v) (T := 27))
  have L0 := hid (W2_2 (w := w) (s := s) (v := v) (T := 27))
  have I1 := hid (Ints_old h1 B0.out)
  obtain ⟨a, c, rfl, -⟩ := Ints_form h1
  clear h1
  cases e1 : bok s A with
  | false =>
    have hE := hid (HZ.out.trans (una_no e1))
    rw [e1] at KA
    clear e1
    go_enter Try.func22, Try.ntmps22
    go_wp2_with fail
    change Calls _ _ _ (W2 w s (.slice a A.length c) 27) _
    refine (KA.out _ I1.out).mono ?_
    rintro e w1 ⟨rfl, b1⟩
    have B0 := hid (B0.out.trans (b1.mono B0.out.size))
    have L0 := hid (L0.out.old b1)
    clear b1
    have f0 := L0.out.f0 0
    have f1 := L0.out.f0 1
    have p0 := L0.out.c0
    have p1 := L0.out.c1
    have R := hid (OwnG_zero1 (b := w.heap.size + 1) HGS.out rfl hE.out (by omega) B0.out)
    clear hE
    go_wp2
    exact bodyPost_ret (v := .agg #[.bool false, .slice none 0 0]) (by simp [results, Try.results22, go_sem, p0, p1]) rfl R.out
  | true =>
    have hE := hid (HZ.out.trans (una_yes e1))
    rw [e1] at KA
    have nA := hid (bok_iff.1 e1).1
    clear e1
    have KM := hid (fun (W : World) (B : Nat) (u : Value) (h : Ints W B u A) => l03Make_own (!s) B u _ hA (nok_lim nA.out) W h)
    rw [neg_sval, ← hE.out, ← HGS.out] at KM
    go_enter Try.func22, Try.ntmps22
    go_wp2_with fail
    change Calls _ _ _ (W2 w s (.slice a A.length c) 27) _
    refine (KA.out _ I1.out).mono ?_
    rintro e w1 ⟨rfl, b1⟩
    have B0 := hid (B0.out.trans (b1.mono B0.out.size))
    have I1 := hid (Ints_old I1.out b1)
    have L1 := hid (L1.out.old b1)
    have L0 := hid (L0.out.old b1)
    have q0 := L1.out.c0
    have q1 := L1.out.c1
    clear b1
    go_wp2_with fail
    refine (KM.out _ _ _ I1.out).mono ?_
    rintro e w9 hk
    obtain ⟨r, rfl, ir, lr, br⟩ := OwnG_in hk L0.out B0.out
    have R := hid (OwnG_out1 (s := gs) (w := w) (b := w.heap.size + 1) B0.out.size (by omega) lr (by decide) ir br)
    obtain ⟨ar, cr, rfl, -⟩ := Ints_form ir
    have f0 := lr.f0 0
    have f1 := lr.f0 1
    have p0 := lr.c0
    have p1 := lr.c1
    clear hk ir lr br q0 q1
    go_wp2
    exact bodyPost_ret (v := .agg #[.bool gs, .slice ar (gzl Z).length cr]) (by simp [results, Try.results22, go_sem, p0, p1]) rfl R.out
end Go.Proofs.Ytleechafachkaaa
