/- The program's carry of 1 into a canonical number; BigIntOf. -/
import Derived.Test.YtleechafachkaaaDoorWm
namespace Go.Proofs.YtleechafachkaaaDoor
open Go.RowKit
open Go.Lib (hid)
set_option linter.unusedVariables false
variable {Q : Rest}

theorem Can_of_ge {M : List Int} (h : Lim M) (hv : M ≠ [] → pw (M.length - 1) ≤ val M) : Can M := by
  refine ⟨h, fun hne h0 => ?_⟩
  have h1 := hv hne
  have hl : 0 < M.length := List.length_pos_iff.2 hne
  have h2 : val (M.take (M.length - 1)) = val (M.take (M.length - 1 + 1)) := trim_step (by omega) (by rw [List.getLast_eq_getElem] at h0; exact h0)
  rw [show M.length - 1 + 1 = M.length by omega, List.take_length] at h2
  have h3 := val_lt (Lim_take h (M.length - 1))
  rw [List.length_take, Nat.min_eq_left (by omega)] at h3
  omega
theorem rep_of {M : List Int} {V : Int} (h : Lim M) (hv : val M = V) (hg : M ≠ [] → pw (M.length - 1) ≤ V) : M = rep V.toNat := by
  rw [← hv] at hg ⊢
  exact (rep_val (Can_of_ge h hg)).symm
theorem carry_one (S : Nat → Prop) (N : Nat) (v : Value) (m : Int) (m0 : 0 ≤ m) (hl : (rep m.toNat).length ≤ 1073741000) (w : World) (h : IsNat Q w S N v (rep m.toNat)) (hS : ∀ k, w.heap.size ≤ k → S k) :
    Calls Tryd.prog 38 #[.pointer (some ⟨N, 0, none⟩), .int .i64 0, .int .i64 1] w (MethP Q S N (rep (m + 1).toNat) w) := by
  have hr := val_rep' m0
  refine (carry_any S N v (rep m.toNat) 0 1 (by decide) (by simp) hl (Lim_rep _) (by decide) (by decide) (by simp [pw]; omega) w h hS).mono fun e w' hc => ?_
  obtain ⟨he, ⟨u, M, hI, hL, hM, hn, hp⟩, ho⟩ := hc
  rw [hr] at hM hp
  have hM' : val M = m + 1 := by simpa [pw] using hM
  have hp' : M.length = (rep m.toNat).length + 1 → pw ((rep m.toNat).length) ≤ m + 1 := by simpa [pw] using hp
  have e1 : M = rep (m + 1).toNat := by
    refine rep_of hL hM' fun hne => ?_
    have hlm : 0 < M.length := List.length_pos_iff.2 hne
    by_cases hx : M.length = (rep m.toNat).length + 1
    · rw [hx]; exact hp' hx
    · have hge : (rep m.toNat) ≠ [] := by intro e; rw [e] at hn hx; simp at hn hx; omega
      have h1 := Can_ge (Can_rep m.toNat) hge
      rw [hr] at h1
      have h2 := pw_le (m := M.length - 1) (n := (rep m.toNat).length - 1) (by omega)
      omega
  exact ⟨he, ⟨u, by rw [← e1]; exact hI⟩, ho⟩
theorem i64_small {n : Int} (h0 : -9223372036854775808 ≤ n) (h1 : n ≤ 9223372036854775807) : (n.natAbs : Int) < pw 60 := by
  have := pw_le (m := 3) (n := 60) (by omega)
  have e3 : pw 3 = 1000000000000000000000000000 := by decide
  omega
theorem gz_nonneg {n : Int} (h0 : 0 ≤ n) (h1 : (n.natAbs : Int) < pw 60) : gzs n = false ∧ gzl n = rep n.toNat := by
  constructor
  · unfold gzs; simp; omega
  · unfold gzl; rw [capped_of h1]; congr 1; omega
theorem gz_neg {n m : Int} (hm : n = -m) (h0 : 0 ≤ m) : gzs (sval true m) = gzs n ∧ gzl (sval true m) = gzl n := by
  subst hm; exact ⟨rfl, rfl⟩
set_option maxRecDepth 100000 in
set_option maxHeartbeats 3200000 in
theorem impl_BigIntOf (n : Int) (h0 : -9223372036854775808 ≤ n) (h1 : n ≤ 9223372036854775807) (w : World) :
    Calls Tryd.prog 15 #[.int .i64 n] w (OwnG (gzs n) (gzl n) w) := by
  have hsm := hid (i64_small h0 h1)
  obtain ⟨gs, hgs⟩ : ∃ g, g = gzs n := ⟨_, rfl⟩
  obtain ⟨gl, hgl⟩ : ∃ g, g = gzl n := ⟨_, rfl⟩
  have HGS := hid hgs
  have HGL := hid hgl
  rw [← hgs, ← hgl]
  clear hgs hgl
  have B0 := hid (below_new' (w := w) (o := .cells #[.bool false, .slice none 0 0] 25))
  have L0 := hid (Loc.new (w := w) (T := 25) (s := false) (v := .slice none 0 0))
  by_cases hn : 0 ≤ n
  · have hg := hid (gz_nonneg hn hsm.out)
    have K := hid (fun (W : World) => impl_NatOf n h1 W)
    go_enter Tryd.func15, Tryd.ntmps15
    go_wp2_with fail
    generalize w.alloc (.cells #[.bool false, .slice none 0 0] 25) = W at B0 L0 ⊢
    refine (K.out _).mono ?_
    rintro e w1 ⟨r, rfl, ir, b1⟩
    have B1 := hid (B0.out.trans (b1.mono B0.out.size))
    have L1 := hid (L0.out.old b1)
    have R := hid (OwnG_out1 (s := false) (w := w) (b := w.heap.size) B0.out.size (Nat.le_refl _) L1.out (by decide) ir B1.out)
    obtain ⟨ar, cr, rfl, -⟩ := Ints_form ir
    have f0 := L1.out.f0 0
    have f1 := L1.out.f0 1
    have p0 := L1.out.c0
    have p1 := L1.out.c1
    clear ir b1
    go_wp2
    refine bodyPost_ret (v := .agg #[.bool false, .slice ar (rep n.toNat).length cr]) (by simp [results, Tryd.results15, go_sem, p0, p1]) rfl ?_
    rw [HGS.out, HGL.out, hg.out.1, hg.out.2]
    exact R.out
  · have hn' : n < 0 := by omega
    obtain ⟨m, hm⟩ : ∃ m, m = -(n + 1) := ⟨_, rfl⟩
    have m0 : 0 ≤ m := by omega
    have m1 : m ≤ 9223372036854775807 := by omega
    have K := hid (fun (W : World) => impl_NatOf m m1 W)
    have hg := hid (gz_neg (n := n) (m := m + 1) (by omega) (by omega))
    have hml := hid (show (rep m.toNat).length ≤ 1073741000 by
      have := rep_short m1
      omega)
    have HM := hid hm
    clear hm
    go_enter Tryd.func15, Tryd.ntmps15
    go_wp2_with fail
    rw [← HM.out]
    generalize w.alloc (.cells #[.bool false, .slice none 0 0] 25) = W at B0 L0 ⊢
    refine (K.out _).mono ?_
    rintro e w1 ⟨r, rfl, ir, b1⟩
    have B1 := hid (B0.out.trans (b1.mono B0.out.size))
    have L1 := hid (L0.out.old b1)
    have hlt := hid (show w.heap.size < W.heap.size from L0.out.lt)
    have F := IsNat_whole (w := W) (s := true) ir b1 (Nat.le_refl _)
    have F1 := hid F.1
    have BB := hid (B0.out.trans (F.2.mono B0.out.size))
    have L1 := hid (L1.out.new1 (o := .cells #[r, .bool true] 58))
    obtain ⟨ar, cr, rfl, -⟩ := Ints_form ir
    have hsz := hid (show W.heap.size ≤ w1.heap.size from b1.size)
    clear F ir b1
    go_wp2_with fail
    refine (carry_one _ _ _ m m0 hml.out _ F1.out (fun k hk => by simp at hk; have := hsz.out; omega)).mono ?_
    rintro e w2 ⟨rfl, ⟨y, h2⟩, o2⟩
    have H2 := hid h2
    have L1 := hid (L1.out.only o2 (by have := hlt.out; simp; omega))
    have BB := hid (BB.out.trans (o2.below (B := w.heap.size) fun k hk hs => by have := hlt.out; omega))
    clear h2 o2
    go_wp2_with fail
    refine (bigInt_own _ true _ y (m + 1) (by omega) _ H2.out).mono ?_
    rintro e w3 ⟨r, rfl, ir, b1⟩
    rw [hg.out.2, ← HGL.out] at ir
    rw [hg.out.1, ← HGS.out]
    have L1 := hid (L1.out.old b1)
    have BB := hid (BB.out.trans (b1.mono BB.out.size))
    have R := hid (OwnG_out1 (s := gs) (w := w) (b := w.heap.size) (Nat.le_of_lt hlt.out) (Nat.le_refl _) L1.out (by decide) ir BB.out)
    obtain ⟨ar, cr, rfl, -⟩ := Ints_form ir
    have f0 := L1.out.f0 0
    have f1 := L1.out.f0 1
    have p0 := L1.out.c0
    have p1 := L1.out.c1
    clear ir b1
    go_wp2
    exact bodyPost_ret (v := .agg #[.bool gs, .slice ar gl.length cr]) (by simp [results, Tryd.results15, go_sem, p0, p1]) rfl R.out
end Go.Proofs.YtleechafachkaaaDoor
