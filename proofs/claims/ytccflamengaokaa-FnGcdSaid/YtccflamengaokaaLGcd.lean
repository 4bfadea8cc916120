/- The walk of the law FnGcd. -/
import Derived.Test.YtccflamengaokaaLDiv
import Derived.Test.YtccflamengaokaaGcf
namespace Go.Proofs.Ytccflamengaokaa
open Go.RowKit
open Go.Lib (hid)
set_option linter.unusedVariables false

theorem G_lt {X Y : Int} {w : World} {v u : Value} (h1 : NumO w v X) (h2 : NumO w u Y) : G X Y < pw 60 := G_le h1.nonneg.1 h2.nonneg.1 h1.nonneg.2 h2.nonneg.2
theorem gcd_num {v u : Value} {X Y Z : Int} {w : World} (h1 : NumO w v X) (h2 : NumO w u Y) (hz : G X Y = Z) : Calls Try.prog 23 #[v, u] w (NumP Z w) := by
  have hl := G_lt h1 h2
  have n0 := G_nonneg X Y
  obtain ⟨A, l1, u1, o1, a1, rfl⟩ := h1
  obtain ⟨B, l2, u2, o2, a2, rfl⟩ := h2
  rw [hz] at hl n0
  refine (impl_NatGcd v u A B (nok_big a1) (nok_big a2) _ _ w o1.ints o2.ints).mono fun e w' h => ?_
  rw [gcdR_yes a1 a2, hz] at h
  exact NumP_of h (nok_rep n0 hl).1 (nok_rep n0 hl).2
theorem mul_num' {v u : Value} {X Y Z : Int} {w : World} (h1 : NumO w v X) (h2 : NumO w u Y) (hz : X * Y = Z) (hb : Z < pw 60) : Calls Try.prog 17 #[v, u] w (NumP Z w) := by
  subst hz; exact mul_num h1 h2 hb
/-- What NatDiv's second result is. -/
theorem rem_num {v u : Value} {X Y Z : Int} {w : World} (h1 : NumO w v X) (h2 : NumO w u Y) (hY : 0 < Y) (hz : X % Y = Z) : Calls Try.prog 22 #[v, u] w (fun e w' => ∃ q r, e = .returned (.tuple #[q, r]) ∧ NumO w' r Z ∧ Below w.heap.size w w') := by
  subst hz
  exact (div_num h1 h2 hY).mono fun _ _ ⟨q, r, a, _, b, c⟩ => ⟨q, r, a, b, c⟩

set_option maxRecDepth 100000 in
set_option maxHeartbeats 3200000 in
theorem law_Gcd (a : Option Addr) (n c : Nat) (Z : List Int) (hn : n ≤ maxLen) (w : World) (hr : ByteRow w a n Z) :
    Calls Try.prog 5 #[.slice a n c] w fun e w' => e = .returned (.bool true) ∧ Below w.heap.size w w' := by
  unfold maxLen at hn
  by_cases hA : 1048576 < (n : Int)
  · go_enter Try.func5, Try.ntmps5
    go_wp2
    go_ret
    exact ⟨rfl, Below.refl _ _⟩
  have hZ : Z.length ≤ 1048576 := by have := hr.1; omega
  have KM := hid (fun (W : World) (h : ByteRow W a n Z) (t : Int) t0 t1 => make_num a n c Z t hZ W h t0 t1)
  have R := hid hr
  have B := hid (Below.refl w.heap.size w)
  clear hr
  go_enter Try.func5, Try.ntmps5
  go_wp2_with fail
  (with_reducible refine (KM.out _ R.out 1 (by decide) (by decide)).mono ?_)
  rintro e wq ⟨va, x, rfl, x0, x1, ob, b1⟩
  have X := hid ob
  have R := hid (ByteRow_below R.out b1)
  have B := hid (B.out.trans (b1.mono B.out.size))
  obtain ⟨aa, na, ca, rfl, hna, -⟩ := NumO_slice ob
  have HNA := hid hna
  clear ob b1 hna
  go_wp2_with fail
  (with_reducible refine (KM.out _ R.out 2 (by decide) (by decide)).mono ?_)
  rintro e wq ⟨vb, y, rfl, y0, y1, ob, b1⟩
  have Y := hid ob
  have R := hid (ByteRow_below R.out b1)
  have X := hid (X.out.old b1)
  have B := hid (B.out.trans (b1.mono B.out.size))
  obtain ⟨ab, nb, cb, rfl, hnb, -⟩ := NumO_slice ob
  have HNB := hid hnb
  clear ob b1 hnb
  go_wp2_with fail
  (with_reducible refine (KM.out _ R.out 3 (by decide) (by decide)).mono ?_)
  rintro e wq ⟨vc, z, rfl, z0, z1, ob, b1⟩
  have ZZ := hid ob
  have R := hid (ByteRow_below R.out b1)
  have X := hid (X.out.old b1)
  have Y := hid (Y.out.old b1)
  have B := hid (B.out.trans (b1.mono B.out.size))
  clear ob b1 R KM
  obtain ⟨g, hg⟩ : ∃ g, g = G x y := ⟨_, rfl⟩
  have HG := hid hg.symm
  have HG0 := hid (show 0 ≤ g by rw [hg]; exact G_nonneg x y)
  have HGL := hid (show g < pw 4 by rw [hg]; exact G_le x0 y0 x1 y1)
  have HGM := hid (show G (x * z) (y * z) = g * z by rw [hg]; exact G_mul x0 y0 z0)
  have HGX := hid (show x % g = 0 by rw [hg]; exact G_left x0)
  have HGY := hid (show y % g = 0 by rw [hg]; exact G_right y0)
  have HGZ := hid (show g = 0 ↔ x = 0 ∧ y = 0 by rw [hg]; exact G_eq_zero x0 y0)
  clear hg
  obtain ⟨p8, -, -, l8, -, -⟩ := pw_big
  have q1 := mul_bd x0 x1 z0 z1
  have q2 := mul_bd y0 y1 z0 z1
  have q3 := mul_bd HG0.out HGL.out z0 z1
  have p4 := pw_pos 4
  have BX := hid (show x * z < pw 60 by have := pw_le (m := 8) (n := 60) (by omega); omega)
  have BY := hid (show y * z < pw 60 by have := pw_le (m := 8) (n := 60) (by omega); omega)
  have BG := hid (show g * z < pw 60 by have := pw_le (m := 8) (n := 60) (by omega); omega)
  clear p8 l8 q1 q2 q3 p4
  obtain ⟨xz, hxz⟩ : ∃ xz, xz = x * z := ⟨_, rfl⟩
  obtain ⟨yz, hyz⟩ : ∃ yz, yz = y * z := ⟨_, rfl⟩
  obtain ⟨gz, hgz⟩ : ∃ gz, gz = g * z := ⟨_, rfl⟩
  rw [← hxz] at BX HGM
  rw [← hyz] at BY HGM
  rw [← hgz] at BG HGM
  have HXZ := hid hxz.symm
  have HYZ := hid hyz.symm
  have HGZZ := hid hgz.symm
  clear hxz hyz hgz
  go_wp2_with fail
  (with_reducible refine (gcd_num X.out Y.out HG.out).mono ?_)
  rintro e wq ⟨vg, rfl, ob, b1⟩
  have GG := hid ob
  have X := hid (X.out.old b1)
  have Y := hid (Y.out.old b1)
  have ZZ := hid (ZZ.out.old b1)
  have B := hid (B.out.trans (b1.mono B.out.size))
  obtain ⟨ag, ng, cg, rfl, hng, -⟩ := NumO_slice ob
  have HNG := hid hng
  clear ob b1 hng
  go_wp2_with fail
  (with_reducible refine (mul_num' X.out ZZ.out HXZ.out BX.out).mono ?_)
  rintro e wq ⟨v1, rfl, ob, b1⟩
  have XZ := hid ob
  have X := hid (X.out.old b1)
  have Y := hid (Y.out.old b1)
  have ZZ := hid (ZZ.out.old b1)
  have GG := hid (GG.out.old b1)
  have B := hid (B.out.trans (b1.mono B.out.size))
  clear ob b1
  go_wp2_with fail
  (with_reducible refine (mul_num' Y.out ZZ.out HYZ.out BY.out).mono ?_)
  rintro e wq ⟨v2, rfl, ob, b1⟩
  have YZ := hid ob
  have X := hid (X.out.old b1)
  have Y := hid (Y.out.old b1)
  have ZZ := hid (ZZ.out.old b1)
  have GG := hid (GG.out.old b1)
  have XZ := hid (XZ.out.old b1)
  have B := hid (B.out.trans (b1.mono B.out.size))
  clear ob b1
  go_wp2_with fail
  (with_reducible refine (gcd_num XZ.out YZ.out HGM.out).mono ?_)
  rintro e wq ⟨v3, rfl, ob, b1⟩
  have H := hid ob
  have X := hid (X.out.old b1)
  have Y := hid (Y.out.old b1)
  have ZZ := hid (ZZ.out.old b1)
  have GG := hid (GG.out.old b1)
  have B := hid (B.out.trans (b1.mono B.out.size))
  clear ob b1 XZ YZ
  by_cases hg : g = 0
  · have hn0 : ng = 0 := HNG.out.2 hg
    obtain ⟨hx, hy⟩ := HGZ.out.1 hg
    have ha0 : na = 0 := HNA.out.2 hx
    have hb0 : nb = 0 := HNB.out.2 hy
    subst hn0 ha0 hb0
    have hz0 : (((0 : Nat) : Int) == 0) = true := rfl
    clear hx hy hg
    go_wp2_with fail
    (with_reducible refine (of_num (n := 12) (by decide) (by decide) _).mono ?_)
    rintro e wq ⟨v12, rfl, ob, b1⟩
    have T := hid ob
    have B := hid (B.out.trans (b1.mono B.out.size))
    clear ob b1
    go_wp2_with fail
    (with_reducible refine (of_num (n := 18) (by decide) (by decide) _).mono ?_)
    rintro e wq ⟨v18, rfl, ob, b1⟩
    have U := hid ob
    have T := hid (T.out.old b1)
    have B := hid (B.out.trans (b1.mono B.out.size))
    clear ob b1
    go_wp2_with fail
    (with_reducible refine (gcd_num T.out U.out (show G 12 18 = 6 by decide)).mono ?_)
    rintro e wq ⟨vh, rfl, ob, b1⟩
    have S := hid ob
    have B := hid (B.out.trans (b1.mono B.out.size))
    clear ob b1
    go_wp2_with fail
    (with_reducible refine (of_num (n := 6) (by decide) (by decide) _).mono ?_)
    rintro e wq ⟨v6, rfl, ob, b1⟩
    have T := hid ob
    have S := hid (S.out.old b1)
    have B := hid (B.out.trans (b1.mono B.out.size))
    clear ob b1
    go_wp2_with fail
    (with_reducible refine (cmp_num S.out T.out (sgn_zero rfl)).mono ?_)
    rintro e wq ⟨rfl, b1⟩
    have B := hid (B.out.trans (b1.mono B.out.size))
    clear b1
    go_wp2
    go_ret
    exact ⟨rfl, B.out⟩
  · have hgp := hid (show 0 < g by have := HG0.out; omega)
    have hng0 : ¬ ng = 0 := fun h => hg (HNG.out.1 h)
    have hgz : ((ng : Int) == 0) = false := beq_eq_false_iff_ne.2 (by omega)
    clear hng0 hg
    go_wp2_with fail
    (with_reducible refine (rem_num X.out GG.out hgp.out HGX.out).mono ?_)
    rintro e wq ⟨qx, rx, rfl, ob, b1⟩
    have Y := hid (Y.out.old b1)
    have ZZ := hid (ZZ.out.old b1)
    have GG := hid (GG.out.old b1)
    have H := hid (H.out.old b1)
    have B := hid (B.out.trans (b1.mono B.out.size))
    obtain ⟨arx, nrx, crx, rfl, hnrx, -⟩ := NumO_slice ob
    have hnx0 : nrx = 0 := hnrx.2 rfl
    subst hnx0
    clear ob b1 hnrx
    go_wp2_with fail
    (with_reducible refine (rem_num Y.out GG.out hgp.out HGY.out).mono ?_)
    rintro e wq ⟨qy, ry, rfl, ob, b1⟩
    have ZZ := hid (ZZ.out.old b1)
    have GG := hid (GG.out.old b1)
    have H := hid (H.out.old b1)
    have B := hid (B.out.trans (b1.mono B.out.size))
    obtain ⟨ary, nry, cry, rfl, hnry, -⟩ := NumO_slice ob
    have hny0 : nry = 0 := hnry.2 rfl
    subst hny0
    clear ob b1 hnry
    have hz0 : (((0 : Nat) : Int) == 0) = true := rfl
    go_wp2_with fail
    (with_reducible refine (mul_num' GG.out ZZ.out HGZZ.out BG.out).mono ?_)
    rintro e wq ⟨v5, rfl, ob, b1⟩
    have M := hid ob
    have H := hid (H.out.old b1)
    have B := hid (B.out.trans (b1.mono B.out.size))
    clear ob b1
    go_wp2_with fail
    (with_reducible refine (cmp_num H.out M.out (sgn_zero rfl)).mono ?_)
    rintro e wq ⟨rfl, b1⟩
    have B := hid (B.out.trans (b1.mono B.out.size))
    clear b1
    go_wp2
    go_ret
    exact ⟨rfl, B.out⟩
end Go.Proofs.Ytccflamengaokaa
