import Derived.Test.YthkehmnodcmlcaaGreatSraP
import Derived.Test.YthkehmnodcmlcaaGreatRhiP
import Derived.Deep.RegionHeld3
import Derived.Maps.AppendAt
import Derived.Deep.DeepCutAuto
set_option maxRecDepth 100000
set_option maxHeartbeats 12800000
set_option linter.unusedVariables false
set_option linter.unusedSimpArgs false
namespace Go.Proofs.YthkehmnodcmlcaaGreat
open Go.RowKit
open Go.Lib (hid)
theorem LocA.apart {T : TypeId} {w w' : World} {b G : Nat} {cs : Array Value} (h : LocA T w b cs) (ho : Only (fun k => k = G ∨ w.heap.size ≤ k) w w') (hG : b ≠ G) : LocA T w' b cs :=
 h.only ho fun hs => by have := h.lt; rcases hs with hs | hs <;> omega
end Go.Proofs.YthkehmnodcmlcaaGreat
namespace Go.Proofs.YthkehmnodcmlcaaGreat
open Go.RowKit
open Go.Lib (hid)
end Go.Proofs.YthkehmnodcmlcaaGreat
namespace Go.Proofs.YthkehmnodcmlcaaGreat
open Go.RowKit
open Go.Lib (hid)
end Go.Proofs.YthkehmnodcmlcaaGreat
namespace Go.Proofs.YthkehmnodcmlcaaGreat
open Go.RowKit
open Go.Lib (hid)
theorem spec_RatMul (s t : Bool) (v u v' u' : Value) (A D A' D' : List Int) (w : World) (h : RL w v u A D) (h' : RL w v' u' A' D') :
  Calls Tryz.prog 81 #[.agg #[.bool s, v, u], .agg #[.bool t, v', u']] w (OwnS (bq mulF (rval s A D) (rval t A' D')) w) := by
 obtain ⟨o, ho⟩ : ∃ o, o = bq mulF (rval s A D) (rval t A' D') := ⟨_, rfl⟩
 have HO := hid ho
 rw [← ho]
 clear ho
 have KA := hid (fun (W : World) (h : RL W v u A D) => spec_RatOk s v u A D W h)
 have KB := hid (fun (W : World) (h : RL W v' u' A' D') => spec_RatOk t v' u' A' D' W h)
 obtain ⟨a, c, b, d, rfl, rfl⟩ := h.form
 obtain ⟨a', c', b', d', rfl, rfl⟩ := h'.form
 have B := hid (show Below w.heap.size w (((w.alloc (.cells #[.bool s, .slice a A.length c, .slice b D.length d] 37)).alloc (.cells #[.bool t, .slice a' A'.length c', .slice b' D'.length d'] 37)).alloc (.cells #[.bool false, .slice none 0 0, .slice none 0 0] 37)) from (((Below.refl _ _).alloc (Nat.le_refl _) _).alloc (by simp) _).alloc (by simp; try omega) _)
 have LP := hid (show LocA 37 (((w.alloc (.cells #[.bool s, .slice a A.length c, .slice b D.length d] 37)).alloc (.cells #[.bool t, .slice a' A'.length c', .slice b' D'.length d'] 37)).alloc (.cells #[.bool false, .slice none 0 0, .slice none 0 0] 37)) (w.heap.size) #[.bool s, .slice a A.length c, .slice b D.length d] from (LocA.at (by simp)).new1.new1)
 have LQ := hid (show LocA 37 (((w.alloc (.cells #[.bool s, .slice a A.length c, .slice b D.length d] 37)).alloc (.cells #[.bool t, .slice a' A'.length c', .slice b' D'.length d'] 37)).alloc (.cells #[.bool false, .slice none 0 0, .slice none 0 0] 37)) (w.heap.size + 1) #[.bool t, .slice a' A'.length c', .slice b' D'.length d'] from (LocA.at (by simp)).new1)
 have LR := hid (show LocA 37 (((w.alloc (.cells #[.bool s, .slice a A.length c, .slice b D.length d] 37)).alloc (.cells #[.bool t, .slice a' A'.length c', .slice b' D'.length d'] 37)).alloc (.cells #[.bool false, .slice none 0 0, .slice none 0 0] 37)) (w.heap.size + 1 + 1) #[.bool false, .slice none 0 0, .slice none 0 0] from (LocA.at (by simp)))
 have H1 := hid (h.old B.out)
 have H2 := hid (h'.old B.out)
 clear h h'
 generalize hW : ((w.alloc (.cells #[.bool s, .slice a A.length c, .slice b D.length d] 37)).alloc (.cells #[.bool t, .slice a' A'.length c', .slice b' D'.length d'] 37)).alloc (.cells #[.bool false, .slice none 0 0, .slice none 0 0] 37) = W0 at B LP LQ LR H1 H2
 have HW := hid hW
 clear hW
 have hs0 := B.out.size
 obtain ⟨p1, hp1⟩ : ∃ p, p = rok s A D := ⟨_, rfl⟩
 obtain ⟨p2, hp2⟩ : ∃ p, p = rok t A' D' := ⟨_, rfl⟩
 rw [← hp1] at KA
 rw [← hp2] at KB
 cases p1 with
 |false =>
  have hE := hid (show o = none by rw [HO.out]; exact bq_no (by rw [← hp1]; rfl))
  clear hp1 hp2
  go_enter Tryz.func81, Tryz.ntmps81
  have q0 := LP.out.c 0 rfl
  have q1 := LP.out.c 1 rfl
  have q2 := LP.out.c 2 rfl
  go_wp2_with fail
  rw [HW.out]
  (with_reducible refine (KA.out _ H1.out).mono ?_)
  clear q0 q1 q2
  rintro e w1 ⟨rfl, b1⟩
  have LR := hid (LR.out.old b1)
  have B := hid (B.out.trans (b1.mono B.out.size))
  clear b1
  have f0 := LR.out.f 0
  have f1 := LR.out.f 1
  have f2 := LR.out.f 2
  have p0 := LR.out.c 0 rfl
  have p1 := LR.out.c 1 rfl
  have p2 := LR.out.c 2 rfl
  have R := hid (OwnS_zero (N := w.heap.size + 1 + 1) hE.out (by omega) B.out)
  go_wp2
  exact bodyPost_ret (v := .agg #[.bool false, .slice none 0 0, .slice none 0 0]) (by simp [results, Tryz.results81, go_sem, p0, p1, p2]) rfl R.out
 | true =>
 cases p2 with
 |false =>
  have hE := hid (show o = none by rw [HO.out]; exact bq_no (by rw [← hp1, ← hp2]; rfl))
  clear hp1 hp2
  go_enter Tryz.func81, Tryz.ntmps81
  have q0 := LP.out.c 0 rfl
  have q1 := LP.out.c 1 rfl
  have q2 := LP.out.c 2 rfl
  go_wp2_with fail
  rw [HW.out]
  (with_reducible refine (KA.out _ H1.out).mono ?_)
  clear q0 q1 q2
  rintro e w1 ⟨rfl, b1⟩
  have LR := hid (LR.out.old b1)
  have LQ := hid (LQ.out.old b1)
  have H2 := hid (H2.out.old b1)
  have B := hid (B.out.trans (b1.mono B.out.size))
  clear b1
  have q0 := LQ.out.c 0 rfl
  have q1 := LQ.out.c 1 rfl
  have q2 := LQ.out.c 2 rfl
  go_wp2_with fail
  (with_reducible refine (KB.out _ H2.out).mono ?_)
  clear q0 q1 q2
  rintro e w2 ⟨rfl, b1⟩
  have LR := hid (LR.out.old b1)
  have LQ := hid (LQ.out.old b1)
  have H2 := hid (H2.out.old b1)
  have B := hid (B.out.trans (b1.mono B.out.size))
  clear b1
  have f0 := LR.out.f 0
  have f1 := LR.out.f 1
  have f2 := LR.out.f 2
  have p0 := LR.out.c 0 rfl
  have p1 := LR.out.c 1 rfl
  have p2 := LR.out.c 2 rfl
  have R := hid (OwnS_zero (N := w.heap.size + 1 + 1) hE.out (by omega) B.out)
  go_wp2
  exact bodyPost_ret (v := .agg #[.bool false, .slice none 0 0, .slice none 0 0]) (by simp [results, Tryz.results81, go_sem, p0, p1, p2]) rfl R.out
 | true =>
 obtain ⟨x, ex, rx⟩ := RatX.of H1.out hp1.symm
 obtain ⟨y, ey, ry⟩ := RatX.of H2.out hp2.symm
 have X := hid rx
 have Y := hid ry
 clear rx ry
 have hE := hid (show o = mulF x y by rw [HO.out, ex, ey, bq_some])
 have KL := hid (fun (W : World) (h : RatX W s (.slice a A.length c) (.slice b D.length d) x) (h' : RatX W t (.slice a' A'.length c') (.slice b' D'.length d') y) => l04Mul_own s t _ _ _ _ x y W h h')
 rw [← hE.out] at KL
 clear hp1 hp2 ex ey hE HO
 obtain ⟨gs, hgs⟩ : ∃ g, g = gzs (qn o) := ⟨_, rfl⟩
 have HGS := hid hgs
 clear hgs
 go_enter Tryz.func81, Tryz.ntmps81
 have q0 := LP.out.c 0 rfl
 have q1 := LP.out.c 1 rfl
 have q2 := LP.out.c 2 rfl
 go_wp2_with fail
 rw [HW.out]
 (with_reducible refine (KA.out _ H1.out).mono ?_)
 clear q0 q1 q2
 rintro e w1 ⟨rfl, b1⟩
 have LR := hid (LR.out.old b1)
 have LP := hid (LP.out.old b1)
 have LQ := hid (LQ.out.old b1)
 have H2 := hid (H2.out.old b1)
 have X := hid (X.out.old b1)
 have Y := hid (Y.out.old b1)
 have B := hid (B.out.trans (b1.mono B.out.size))
 clear b1
 have q0 := LQ.out.c 0 rfl
 have q1 := LQ.out.c 1 rfl
 have q2 := LQ.out.c 2 rfl
 go_wp2_with fail
 (with_reducible refine (KB.out _ H2.out).mono ?_)
 clear q0 q1 q2
 rintro e w2 ⟨rfl, b1⟩
 have LR := hid (LR.out.old b1)
 have LP := hid (LP.out.old b1)
 have LQ := hid (LQ.out.old b1)
 have H2 := hid (H2.out.old b1)
 have X := hid (X.out.old b1)
 have Y := hid (Y.out.old b1)
 have B := hid (B.out.trans (b1.mono B.out.size))
 clear b1
 have q0 := LP.out.c 0 rfl
 have q1 := LP.out.c 1 rfl
 have q2 := LP.out.c 2 rfl
 have q3 := LQ.out.c 0 rfl
 have q4 := LQ.out.c 1 rfl
 have q5 := LQ.out.c 2 rfl
 have hs2 := B.out.size
 go_wp2_with fail
 (with_reducible refine (KL.out _ X.out Y.out).mono ?_)
 clear q0 q1 q2 q3 q4 q5
 rintro e w3 ⟨v1, u1, rfl, j1, j2, b1⟩
 have LR := hid (LR.out.old b1)
 have LP := hid (LP.out.old b1)
 have LQ := hid (LQ.out.old b1)
 have H2 := hid (H2.out.old b1)
 have X := hid (X.out.old b1)
 have Y := hid (Y.out.old b1)
 have B := hid (B.out.trans (b1.mono B.out.size))
 rw [← HGS.out]
 have f0 := LR.out.f 0
 have f1 := LR.out.f 1
 have f2 := LR.out.f 2
 have p0 := LR.out.c 0 rfl
 have p1 := LR.out.c 1 rfl
 have p2 := LR.out.c 2 rfl
 have R := hid (OwnS_out (o := o) (N := w.heap.size + 1 + 1) HGS.out rfl rfl (by omega) LR.out (by decide) hs2 hs2 j1 j2 B.out)
 obtain ⟨e1, d1, rfl, -⟩ := Ints_form j1
 obtain ⟨e2, d2, rfl, -⟩ := Ints_form j2
 clear j1 j2 b1
 go_wp2
 exact bodyPost_ret (v := .agg #[.bool gs, .slice e1 _ d1, .slice e2 _ d2]) (by simp [results, Tryz.results81, go_sem, p0, p1, p2]) rfl R.out
theorem spec_RatSign (s : Bool) (v u : Value) (A D : List Int) (w : World) (h : RL w v u A D) :
  Calls Tryz.prog 78 #[.agg #[.bool s, v, u]] w (RetB (.int .i64 (sgnO (rval s A D))) w) := by
 have KO := hid (fun (W : World) (h : RL W v u A D) => spec_RatOk s v u A D W h)
 obtain ⟨z, hz⟩ : ∃ z, z = sgnO (rval s A D) := ⟨_, rfl⟩
 have HZ := hid hz
 rw [← hz]
 clear hz
 have hA : A.length ≤ 1073741824 := by have := h.la; omega
 obtain ⟨a, c, b, d, rfl, rfl⟩ := h.form
 have B := hid (show Below w.heap.size w (w.alloc (.cells #[.bool s, .slice a A.length c, .slice b D.length d] 37)) from (Below.refl _ _).alloc (Nat.le_refl _) _)
 have LP := hid (show LocA 37 (w.alloc (.cells #[.bool s, .slice a A.length c, .slice b D.length d] 37)) (w.heap.size) #[.bool s, .slice a A.length c, .slice b D.length d] from (LocA.at (by simp)))
 have H1 := hid (h.old B.out)
 clear h
 generalize hW : w.alloc (.cells #[.bool s, .slice a A.length c, .slice b D.length d] 37) = W0 at B LP H1
 have HW := hid hW
 clear hW
 have hs0 := B.out.size
 obtain ⟨p, hp⟩ : ∃ p, p = rok s A D := ⟨_, rfl⟩
 rw [← hp] at KO
 cases p with
 |false =>
  have hE := hid (show z = 0 by rw [HZ.out, rval_no hp.symm]; rfl)
  clear hp
  go_enter Tryz.func78, Tryz.ntmps78
  have q0 := LP.out.c 0 rfl
  have q1 := LP.out.c 1 rfl
  have q2 := LP.out.c 2 rfl
  go_wp2_with fail
  rw [HW.out]
  (with_reducible refine (KO.out _ H1.out).mono ?_)
  clear q0 q1 q2
  rintro e w1 ⟨rfl, b1⟩
  have LP := hid (LP.out.old b1)
  have B := hid (B.out.trans (b1.mono B.out.size))
  clear b1
  have q0 := LP.out.c 0 rfl
  have q1 := LP.out.c 1 rfl
  go_wp2
  go_ret
  exact ⟨ret_in hE.out.symm, B.out⟩
 | true =>
 obtain ⟨x, ex, n1, -⟩ := rval_yes hp.symm
 have hE0 := hid (show z = sgn (sval s (val A)) by rw [HZ.out, ex, ← n1]; rfl)
 have kA := (rok_iff.1 hp.symm).1
 have nA := (bok_iff.1 kA).1
 have v0 := val_nonneg (nok_lim nA)
 by_cases h0 : A.length = 0
 ·have hE := hid (show z = 0 by
   rw [hE0.out, List.length_eq_zero_iff.1 h0]
   cases s <;> rfl)
  have h1 : ((A.length : Int) == 0) = true := by simp [h0]
  clear h0 ex n1 kA nA v0 hp
  go_enter Tryz.func78, Tryz.ntmps78
  have q0 := LP.out.c 0 rfl
  have q1 := LP.out.c 1 rfl
  have q2 := LP.out.c 2 rfl
  go_wp2_with fail
  rw [HW.out]
  (with_reducible refine (KO.out _ H1.out).mono ?_)
  clear q0 q1 q2
  rintro e w1 ⟨rfl, b1⟩
  have LP := hid (LP.out.old b1)
  have B := hid (B.out.trans (b1.mono B.out.size))
  clear b1
  have q0 := LP.out.c 0 rfl
  have q1 := LP.out.c 1 rfl
  go_wp2
  go_ret
  exact ⟨ret_in hE.out.symm, B.out⟩
 have h1 : ((A.length : Int) == 0) = false := beq_eq_false_iff_ne.2 (by omega)
 have vp : 0 < val A := vpos nA (fun e => h0 (by rw [e]; rfl))
 cases s with
 |true =>
  have hE := hid (show z = -1 by rw [hE0.out]; unfold sval sgn; rw [if_pos rfl, if_pos (by omega)])
  clear h0 ex n1 kA nA v0 hp vp
  go_enter Tryz.func78, Tryz.ntmps78
  have q0 := LP.out.c 0 rfl
  have q1 := LP.out.c 1 rfl
  have q2 := LP.out.c 2 rfl
  go_wp2_with fail
  rw [HW.out]
  (with_reducible refine (KO.out _ H1.out).mono ?_)
  clear q0 q1 q2
  rintro e w1 ⟨rfl, b1⟩
  have LP := hid (LP.out.old b1)
  have B := hid (B.out.trans (b1.mono B.out.size))
  clear b1
  have q0 := LP.out.c 0 rfl
  have q1 := LP.out.c 1 rfl
  go_wp2
  go_ret
  exact ⟨ret_in hE.out.symm, B.out⟩
 |false =>
  have hE := hid (show z = 1 by rw [hE0.out]; show sgn (val A) = 1; unfold sgn; rw [if_neg (by omega), if_pos vp])
  clear h0 ex n1 kA nA v0 hp vp
  go_enter Tryz.func78, Tryz.ntmps78
  have q0 := LP.out.c 0 rfl
  have q1 := LP.out.c 1 rfl
  have q2 := LP.out.c 2 rfl
  go_wp2_with fail
  rw [HW.out]
  (with_reducible refine (KO.out _ H1.out).mono ?_)
  clear q0 q1 q2
  rintro e w1 ⟨rfl, b1⟩
  have LP := hid (LP.out.old b1)
  have B := hid (B.out.trans (b1.mono B.out.size))
  clear b1
  have q0 := LP.out.c 0 rfl
  have q1 := LP.out.c 1 rfl
  go_wp2
  go_ret
  exact ⟨ret_in hE.out.symm, B.out⟩
end Go.Proofs.YthkehmnodcmlcaaGreat
