/- Merged: Spl Spb5 Sps. -/
import Derived.Test.YtookglpeieennaaGreatFlm
import Derived.Deep.RegionHeld3
import Derived.Deep.DeepCutAuto
/- The program: the simplest fraction of an interval, on limbs. -/
namespace Go.Proofs.YtookglpeieennaaGreat
open Go.RowKit
open Go.Lib (hid)
set_option linter.unusedVariables false

/-! Numbers that are limbs of a natural number. -/
theorem nok_n {x : Nat} (h : (x : Int) < pw 60) : nok (rep x) = true ∧ val (rep x) = x ∧ (rep x).length ≤ 1073741824 := by
  have h1 : nok (rep x) = true := nok_iff.2 ⟨by have := rep_len (V := (x : Int)) h; simpa using this, Can_rep _⟩
  exact ⟨h1, val_rep _, by have := nok_len h1; omega⟩
theorem rep_eq_nil {x : Nat} : (rep x).length = 0 ↔ x = 0 := by
  constructor
  · intro h
    exact Classical.byContradiction fun e => rep_ne e (List.eq_nil_of_length_eq_zero h)
  · rintro rfl; rw [rep_zero]; rfl
theorem div_n {x y : Nat} {v u : Value} {b1 b2 : Nat} {w : World} (hx : (x : Int) < pw 60) (hy : (y : Int) < pw 60) (h0 : 0 < y) (h1 : Ints w b1 v (rep x)) (h2 : Ints w b2 u (rep y)) : Calls Tryz.prog 107 #[v, u] w (Own2 (rep (x / y)) (rep (x % y)) w) := by
  obtain ⟨n1, v1, l1⟩ := nok_n hx
  obtain ⟨n2, v2, l2⟩ := nok_n hy
  have hh := impl_NatDiv v u _ _ l1 l2 b1 b2 w h1 h2
  obtain ⟨e1, e2⟩ := div_yes n1 n2 (rep_ne (by omega))
  rw [e1, e2, v1, v2, ← Int.natCast_ediv, ← Int.natCast_emod, Int.toNat_natCast, Int.toNat_natCast] at hh
  exact hh
theorem mul_n {x y : Nat} {v u : Value} {b1 b2 : Nat} {w : World} (hx : (x : Int) < pw 60) (hy : (y : Int) < pw 60) (hz : ((x * y : Nat) : Int) < pw 60) (h1 : Ints w b1 v (rep x)) (h2 : Ints w b2 u (rep y)) : Calls Tryz.prog 105 #[v, u] w (OwnP (rep (x * y)) w) := by
  obtain ⟨n1, v1, l1⟩ := nok_n hx
  obtain ⟨n2, v2, l2⟩ := nok_n hy
  have hh := impl_NatMul v u _ _ l1 l2 b1 b2 w h1 h2
  rw [mulR_yes n1 n2, v1, v2, ← Int.natCast_mul] at hh
  unfold capped at hh
  rw [if_pos hz, Int.toNat_natCast] at hh
  exact hh
theorem add_n {x y : Nat} {v u : Value} {b1 b2 : Nat} {w : World} (hx : (x : Int) < pw 60) (hy : (y : Int) < pw 60) (hz : ((x + y : Nat) : Int) < pw 60) (h1 : Ints w b1 v (rep x)) (h2 : Ints w b2 u (rep y)) : Calls Tryz.prog 111 #[v, u] w (OwnP (rep (x + y)) w) := by
  obtain ⟨n1, v1, l1⟩ := nok_n hx
  obtain ⟨n2, v2, l2⟩ := nok_n hy
  have hh := impl_NatAdd v u _ _ l1 l2 b1 b2 w h1 h2
  rw [addR_yes n1 n2, v1, v2, ← Int.natCast_add] at hh
  unfold capped at hh
  rw [if_pos hz, Int.toNat_natCast] at hh
  exact hh
theorem cmp_n {x y : Nat} {v u : Value} {b1 b2 : Nat} {w : World} (hx : (x : Int) < pw 60) (hy : (y : Int) < pw 60) (h1 : Ints w b1 v (rep x)) (h2 : Ints w b2 u (rep y)) : Calls Tryz.prog 63 #[v, u] w (RetB (.int .i64 (sgn ((x : Int) - y))) w) := by
  obtain ⟨n1, v1, l1⟩ := nok_n hx
  obtain ⟨n2, v2, l2⟩ := nok_n hy
  obtain ⟨a, c, rfl, -, r1, -⟩ := Ints_form h1
  obtain ⟨a', c', rfl, -, r2, -⟩ := Ints_form h2
  have hh := RetB_of_drew (compareLimbs_any a a' _ _ c c' _ _ l1 l2 w r1 r2)
  rw [cmpL_val (Can_rep _) (Can_rep _), v1, v2] at hh
  exact hh
theorem of_n (w : World) : Calls Tryz.prog 45 #[.int .i64 1] w (OwnP (rep 1) w) := impl_NatOf 1 (by decide) w
theorem sgn_lt {x y : Nat} : sgn ((x : Int) - y) < 0 ↔ x < y := by
  rcases sgn_cases ((x : Int) - y) with ⟨h, e⟩ | ⟨h, e⟩ | ⟨h, e⟩ <;> omega
theorem pw24_lt {x : Nat} (h : (x : Int) < pw 24) : (x : Int) < pw 60 := Int.lt_trans h pw24_60
set_option maxRecDepth 100000 in
set_option maxHeartbeats 6400000 in
theorem simplest_pos (k : Nat) : ∀ (a b c d : Nat), b + d ≤ k → 0 < a → 0 < b → 0 < d → a * d ≤ c * b → (a : Int) < pw 24 → (b : Int) < pw 24 → (c : Int) < pw 24 → (d : Int) < pw 24 → ∀ (v1 u1 v2 u2 : Value) (b1 b2 b3 b4 : Nat) (w : World), Ints w b1 v1 (rep a) → Ints w b2 u1 (rep b) → Ints w b3 v2 (rep c) → Ints w b4 u2 (rep d) →
    Calls Tryz.prog 61 #[v1, u1, v2, u2] w (Own2 (rep (sst a b c d).1) (rep (sst a b c d).2) w) := by
  induction k with
  | zero => intro a b c d h1 h2 h3; omega
  | succ k ih =>
  intro a b c d hk ha hb hd hle la lb lc ld v1 u1 v2 u2 b1 b2 b3 b4 w i1 i2 i3 i4
  have I1 := hid i1
  have I2 := hid i2
  have I3 := hid i3
  have I4 := hid i4
  have K1 := hid (fun (W : World) (h1 : Ints W b1 v1 (rep a)) (h2 : Ints W b2 u1 (rep b)) => div_n (pw24_lt la) (pw24_lt lb) hb h1 h2)
  have K2 := hid (fun (W : World) (h1 : Ints W b3 v2 (rep c)) (h2 : Ints W b4 u2 (rep d)) => div_n (pw24_lt lc) (pw24_lt ld) hd h1 h2)
  obtain ⟨x1, n1, c1, rfl⟩ : ∃ (x : Option Addr) (n c : Nat), v1 = .slice x n c := by obtain ⟨x, y, e, -⟩ := Ints_form i1; exact ⟨x, _, y, e⟩
  obtain ⟨x2, n2, c2, rfl⟩ : ∃ (x : Option Addr) (n c : Nat), u1 = .slice x n c := by obtain ⟨x, y, e, -⟩ := Ints_form i2; exact ⟨x, _, y, e⟩
  obtain ⟨x3, n3, c3, rfl⟩ : ∃ (x : Option Addr) (n c : Nat), v2 = .slice x n c := by obtain ⟨x, y, e, -⟩ := Ints_form i3; exact ⟨x, _, y, e⟩
  obtain ⟨x4, n4, c4, rfl⟩ : ∃ (x : Option Addr) (n c : Nat), u2 = .slice x n c := by obtain ⟨x, y, e, -⟩ := Ints_form i4; exact ⟨x, _, y, e⟩
  clear i1 i2 i3 i4
  have lf : ((a / b : Nat) : Int) < pw 60 := by have := Nat.div_le_self a b; have := pw24_lt la; omega
  have lh : ((c / d : Nat) : Int) < pw 60 := by have := Nat.div_le_self c d; have := pw24_lt lc; omega
  have HQ := hid (show (a % b = 0 → sst a b c d = (a / b, 1)) ∧ (a % b ≠ 0 → a / b < c / d → sst a b c d = (a / b + 1, 1) ∧ ((a / b + 1 : Nat) : Int) < pw 60) ∧ (a % b ≠ 0 → ¬ a / b < c / d → sst a b c d = (a / b * (sst d (c % d) b (a % b)).1 + (sst d (c % d) b (a % b)).2, (sst d (c % d) b (a % b)).1) ∧ c % d + a % b ≤ k ∧ 0 < c % d ∧ 0 < a % b ∧ d * (a % b) ≤ b * (c % d) ∧ ((c % d : Nat) : Int) < pw 24 ∧ ((a % b : Nat) : Int) < pw 24 ∧ (((sst d (c % d) b (a % b)).1 : Nat) : Int) < pw 60 ∧ (((sst d (c % d) b (a % b)).2 : Nat) : Int) < pw 60 ∧ ((a / b * (sst d (c % d) b (a % b)).1 : Nat) : Int) < pw 60 ∧ ((a / b * (sst d (c % d) b (a % b)).1 + (sst d (c % d) b (a % b)).2 : Nat) : Int) < pw 60) from by
    refine ⟨fun h => ?_, fun h h' => ?_, fun h h' => ?_⟩
    · rw [sst_stop (.inl h), if_pos h]
    · refine ⟨by rw [sst_stop (.inr h'), if_neg h], ?_⟩
      have := pw24_lt lc
      have := Nat.div_le_self c d
      omega
    · have hn : ¬ (a % b = 0 ∨ a / b < c / d) := fun e => e.elim h h'
      obtain ⟨e1, e2, g1, g2, g3, g4, g5⟩ := go_parts hb hd hle hn
      have B := sst_best _ _ _ _ _ (Nat.le_refl _) hd g2 g1 g5
      have hm := B.mi d (c % d) g2 (Nat.le_refl _) g5
      have hp := Nat.mul_le_mul_left (a / b) hm.1
      have := pw24_lt lc
      have := pw24_lt ld
      refine ⟨sst_go hb hd hn, by omega, g2, g1, g5, by omega, by omega, by omega, by omega, by omega, by omega⟩)
  have KI := hid (fun (h1 : c % d + a % b ≤ k) (h2 : 0 < c % d) (h3 : 0 < a % b) (h4 : d * (a % b) ≤ b * (c % d)) (h5 : ((c % d : Nat) : Int) < pw 24) (h6 : ((a % b : Nat) : Int) < pw 24) (W : World) (vr ur : Value) (br b5 : Nat) (j2 : Ints W br vr (rep (c % d))) (j4 : Ints W b5 ur (rep (a % b))) (j1 : Ints W b4 (.slice x4 n4 c4) (rep d)) (j3 : Ints W b2 (.slice x2 n2 c2) (rep b)) => ih d (c % d) b (a % b) h1 hd h2 h3 h4 ld h5 lb h6 (.slice x4 n4 c4) vr (.slice x2 n2 c2) ur b4 br b2 b5 W j1 j2 j3 j4)
  clear ih hk ha hb hd hle la lb lc ld
  obtain ⟨f, hf⟩ : ∃ f, f = a / b := ⟨_, rfl⟩
  obtain ⟨g, hg⟩ : ∃ f, f = c / d := ⟨_, rfl⟩
  obtain ⟨v, hv⟩ : ∃ f, f = a % b := ⟨_, rfl⟩
  obtain ⟨u, hu⟩ : ∃ f, f = c % d := ⟨_, rfl⟩
  obtain ⟨r, hr⟩ : ∃ r, r = sst d u b v := ⟨_, rfl⟩
  obtain ⟨z, hz⟩ : ∃ r, r = sst a b c d := ⟨_, rfl⟩
  rw [← hf] at lf
  rw [← hg] at lh
  rw [← hf, ← hv] at K1
  rw [← hg, ← hu] at K2
  rw [← hv, ← hu, ← hf, ← hg, ← hr, ← hz] at HQ
  rw [← hv, ← hu, ← hr] at KI
  rw [← hz]
  clear hf hg hv hu hr hz
  obtain ⟨LV, hLV⟩ : ∃ L, L = rep v := ⟨_, rfl⟩
  have hlen := (rep_eq_nil (x := v)).symm
  rw [← hLV] at hlen
  have HLV := hid hLV
  clear hLV
  obtain ⟨Q, hQ⟩ : ∃ Q, Q = Own2 (rep z.1) (rep z.2) w := ⟨_, rfl⟩
  rw [← hQ]
  have HP := hid hQ
  clear hQ
  rw [← HLV.out] at K1
  go_enter Tryz.func61, Tryz.ntmps61
  go_wp2_with fail
  (with_reducible refine (K1.out _ I1.out I2.out).mono ?_)
  rintro e w1 ⟨vf, vr, rfl, jf, jr, nd, hb⟩
  have B := hid hb
  have I2 := hid (Ints_old I2.out hb)
  have I3 := hid (Ints_old I3.out hb)
  have I4 := hid (Ints_old I4.out hb)
  have JF := hid jf
  have JR := hid jr
  obtain ⟨xf, nf, cf, rfl⟩ : ∃ (x : Option Addr) (n c : Nat), vf = .slice x n c := by obtain ⟨x, y, e, -⟩ := Ints_form jf; exact ⟨x, _, y, e⟩
  obtain ⟨xr, cr, rfl, -⟩ := Ints_form jr
  clear jf jr nd hb
  by_cases hv0 : v = 0
  · have hL0 : ((LV.length : Int) == 0) = true := by have := hlen.1 hv0; simp [this]
    have E := hid (HQ.out.1 hv0)
    clear hlen hv0
    go_wp2_with fail
    (with_reducible refine (of_n _).mono ?_)
    rintro e w2 ⟨v3, rfl, j3, hb⟩
    have R := hid (q_of HP.out (Own2_mk (w := w) (by rw [E.out]) (by rw [E.out]) (Ints_old JF.out hb) (Ints_base j3 B.out.size) (apart_of JF.out j3 (Nat.le_refl _)) (B.out.trans (hb.mono B.out.size))))
    obtain ⟨x3', c3', rfl, -⟩ := Ints_form j3
    clear j3 hb
    go_wp2_with fail
    exact R.out
  · have hL0 : ((LV.length : Int) == 0) = false := beq_eq_false_iff_ne.2 (by have := hlen.2; omega)
    have HV := hid hv0
    clear hlen hv0
    go_wp2_with fail
    (with_reducible refine (K2.out _ I3.out I4.out).mono ?_)
    rintro e w2 ⟨vg, vu, rfl, jg, ju, nd, hb⟩
    have JF := hid (Ints_old JF.out hb)
    have JR := hid (Ints_old JR.out hb)
    have I2 := hid (Ints_old I2.out hb)
    have I4 := hid (Ints_old I4.out hb)
    have hs1 := B.out.size
    have B := hid (B.out.trans (hb.mono B.out.size))
    have JG := hid jg
    have JU := hid ju
    obtain ⟨xg, ng, cg, rfl⟩ : ∃ (x : Option Addr) (n c : Nat), vg = .slice x n c := by obtain ⟨x, y, e, -⟩ := Ints_form jg; exact ⟨x, _, y, e⟩
    obtain ⟨xu, nu, cu, rfl⟩ : ∃ (x : Option Addr) (n c : Nat), vu = .slice x n c := by obtain ⟨x, y, e, -⟩ := Ints_form ju; exact ⟨x, _, y, e⟩
    clear jg ju nd hb
    have hss := sgn_lt (x := f) (y := g)
    have KC := hid (fun (W : World) (b1 b2 : Nat) (h1 : Ints W b1 (.slice xf nf cf) (rep f)) (h2 : Ints W b2 (.slice xg ng cg) (rep g)) => cmp_n lf lh h1 h2)
    obtain ⟨sg, hsg⟩ : ∃ s, s = sgn ((f : Int) - g) := ⟨_, rfl⟩
    rw [← hsg] at KC hss
    clear hsg
    go_wp2_with fail
    (with_reducible refine (KC.out _ _ _ JF.out JG.out).mono ?_)
    rintro e w3 ⟨rfl, hb⟩
    have JF := hid (Ints_old JF.out hb)
    have JR := hid (Ints_old JR.out hb)
    have JU := hid (Ints_old JU.out hb)
    have I2 := hid (Ints_old I2.out hb)
    have I4 := hid (Ints_old I4.out hb)
    have hs2 := B.out.size
    have B := hid (B.out.trans (hb.mono B.out.size))
    clear hb
    by_cases hlt : sg < 0
    · have E := hid (HQ.out.2.1 HV.out (hss.1 hlt))
      have KA := hid (fun (W : World) (b1 b2 : Nat) (v3 : Value) (h1 : Ints W b1 (.slice xf nf cf) (rep f)) (h2 : Ints W b2 v3 (rep 1)) => add_n lf (by decide) E.out.2 h1 h2)
      clear hss
      go_wp2_with fail
      (with_reducible refine (of_n _).mono ?_)
      rintro e w4 ⟨v3, rfl, j3, hb⟩
      have JF := hid (Ints_old JF.out hb)
      have hs3 := B.out.size
      have B := hid (B.out.trans (hb.mono B.out.size))
      have J3 := hid j3
      obtain ⟨y3, z3, rfl, -⟩ := Ints_form j3
      clear j3 hb
      go_wp2_with fail
      (with_reducible refine (KA.out _ _ _ _ JF.out J3.out).mono ?_)
      rintro e w5 ⟨v4, rfl, j4, hb⟩
      have hs4 := B.out.size
      have B := hid (B.out.trans (hb.mono B.out.size))
      have J4 := hid (Ints_base j4 hs4)
      obtain ⟨y4, z4, rfl, -⟩ := Ints_form j4
      clear j4 hb
      go_wp2_with fail
      (with_reducible refine (of_n _).mono ?_)
      rintro e w6 ⟨v5, rfl, j5, hb⟩
      have R := hid (q_of HP.out (Own2_mk (w := w) (by rw [E.out.1]) (by rw [E.out.1]) (Ints_old J4.out hb) (Ints_base j5 B.out.size) (apart_of J4.out j5 (Nat.le_refl _)) (B.out.trans (hb.mono B.out.size))))
      obtain ⟨y5, z5, rfl, -⟩ := Ints_form j5
      clear j5 hb
      go_wp2_with fail
      exact R.out
    · have E := hid (HQ.out.2.2 HV.out (fun e => hlt (hss.2 e)))
      clear hss
      obtain ⟨E0, e1, e2, e3, e4, e5, e6, e7, e8, e9, e10⟩ := E.out
      have E0 := hid E0
      have JR := hid (show Ints w3 _ (.slice xr LV.length cr) (rep v) from by rw [← HLV.out]; exact JR.out)
      have KJ := hid (KI.out e1 e2 e3 e4 e5 e6)
      have KM := hid (fun (W : World) (b1 b2 : Nat) (v3 : Value) (h1 : Ints W b1 (.slice xf nf cf) (rep f)) (h2 : Ints W b2 v3 (rep r.1)) => mul_n lf e7 e9 h1 h2)
      have KA := hid (fun (W : World) (b1 b2 : Nat) (v3 v4 : Value) (h1 : Ints W b1 v3 (rep (f * r.1))) (h2 : Ints W b2 v4 (rep r.2)) => add_n e9 e8 e10 h1 h2)
      clear e1 e2 e3 e4 e5 e6 e7 e8 e9 e10 E lf lh HQ KI K1 K2 KC
      go_wp2_with fail
      (with_reducible refine (KJ.out _ _ _ _ _ JU.out JR.out I4.out I2.out).mono ?_)
      rintro e w4 ⟨vp, vq, rfl, jp, jq, nd, hb⟩
      have JF := hid (Ints_old JF.out hb)
      have hs3 := B.out.size
      have B := hid (B.out.trans (hb.mono B.out.size))
      have JP := hid (Ints_base jp hs3)
      have JQ := hid jq
      obtain ⟨xp, np, cp, rfl⟩ : ∃ (x : Option Addr) (n c : Nat), vp = .slice x n c := by obtain ⟨x, y, e, -⟩ := Ints_form jp; exact ⟨x, _, y, e⟩
      obtain ⟨xq, nq, cq, rfl⟩ : ∃ (x : Option Addr) (n c : Nat), vq = .slice x n c := by obtain ⟨x, y, e, -⟩ := Ints_form jq; exact ⟨x, _, y, e⟩
      clear jp jq nd hb
      go_wp2_with fail
      (with_reducible refine (KM.out _ _ _ _ JF.out JP.out).mono ?_)
      rintro e w5 ⟨vm, rfl, jm, hb⟩
      have JP := hid (Ints_old JP.out hb)
      have JQ := hid (Ints_old JQ.out hb)
      have hs4 := B.out.size
      have B := hid (B.out.trans (hb.mono B.out.size))
      have JM := hid jm
      obtain ⟨xm, cm, rfl, -⟩ := Ints_form jm
      clear jm hb
      go_wp2_with fail
      (with_reducible refine (KA.out _ _ _ _ _ JM.out JQ.out).mono ?_)
      rintro e w6 ⟨vs, rfl, js, hb⟩
      have JP0 := hid JP.out
      have JP := hid (Ints_old JP.out hb)
      have ND := hid (fun k (h1 : vs.ownBlock = some k) (h2 : (Value.slice xp np cp).ownBlock = some k) => apart_of JP0.out js (Nat.le_refl _) k h2 h1)
      have R := hid (q_of HP.out (Own2_mk (w := w) (by rw [E0.out]) (by rw [E0.out]) (Ints_base js B.out.size) JP.out ND.out (B.out.trans (hb.mono B.out.size))))
      obtain ⟨xs, cs, rfl, -⟩ := Ints_form js
      clear js hb
      go_wp2_with fail
      exact R.out
end Go.Proofs.YtookglpeieennaaGreat

/- The program: the simplest fraction of an interval. -/
namespace Go.Proofs.YtookglpeieennaaGreat
open Go.RowKit
open Go.Lib (hid)
set_option linter.unusedVariables false

/-- The simplest fraction from x to y. -/
def simpF (x y : Rat) : Option Rat := if y < x then none else if y < 0 then some (-(sqF (-y) (-x))) else if x ≤ 0 then some ((0 : Int) : Rat) else some (sqF x y)
theorem simpF_no {x y : Rat} (h : y < x) : simpF x y = none := by unfold simpF; rw [if_pos h]
theorem simpF_neg {x y : Rat} (h : ¬ y < x) (h' : y < 0) : simpF x y = some (-(sqF (-y) (-x))) := by unfold simpF; rw [if_neg h, if_pos h']
theorem simpF_zero {x y : Rat} (h : ¬ y < x) (h' : ¬ y < 0) (h2 : x ≤ 0) : simpF x y = some ((0 : Int) : Rat) := by unfold simpF; rw [if_neg h, if_neg h', if_pos h2]
theorem simpF_pos {x y : Rat} (h : ¬ y < x) (h' : ¬ y < 0) (h2 : ¬ x ≤ 0) : simpF x y = some (sqF x y) := by unfold simpF; rw [if_neg h, if_neg h', if_neg h2]
theorem neg_pos' {y : Rat} (h : y < 0) : 0 < -y := by have := Rat.neg_lt_neg_iff.2 h; rwa [Rat.neg_zero] at this
theorem sgn_num (x : Rat) : sgn x.num = cmpF x 0 := by
  have := cmpF_sub x 0
  rw [show x - 0 = x by rw [Rat.sub_eq_add_neg, Rat.neg_zero, Rat.add_zero]] at this
  exact this
theorem sgn_of_neg {x : Rat} (h : x < 0) : sgn x.num = -1 := by rw [sgn_num]; simp [cmpF, h]
theorem sgn_of_pos {x : Rat} (h : 0 < x) : sgn x.num = 1 := by
  rw [sgn_num]
  have : ¬ x < 0 := fun e => (Rat.lt_iff_le_and_not_ge.1 h).2 (Rat.le_of_lt e)
  simp [cmpF, h, this]
theorem sgn_nonpos {x : Rat} (h : x ≤ 0) : sgn x.num ≤ 0 := by
  rw [sgn_num]
  rcases cmpF_cases x 0 with ⟨e, -⟩ | ⟨e, -⟩ | ⟨e, e'⟩
  · omega
  · omega
  · exact absurd h (Rat.not_le.2 e')
theorem sgn_nonneg {x : Rat} (h : ¬ x < 0) : 0 ≤ sgn x.num := by
  rw [sgn_num]
  rcases cmpF_cases x 0 with ⟨e, e'⟩ | ⟨e, -⟩ | ⟨e, -⟩
  · exact absurd e' h
  · omega
  · omega
theorem cmp_gt {x y : Rat} (h : y < x) : cmpF x y = 1 := by
  have : ¬ x < y := fun e => (Rat.lt_iff_le_and_not_ge.1 h).2 (Rat.le_of_lt e)
  simp [cmpF, h, this]
theorem cmp_ngt {x y : Rat} (h : ¬ y < x) : ¬ 0 < cmpF x y := by
  rcases cmpF_cases x y with ⟨e, -⟩ | ⟨e, -⟩ | ⟨e, e'⟩
  · omega
  · omega
  · exact absurd e' h
theorem cmp_x {w : World} {s t : Bool} {v u v' u' : Value} {x y : Rat} {z : Int} (h : RA w s v u (some x)) (h' : RA w t v' u' (some y)) (hz : cmpF x y = z) : Calls Tryz.prog 16 #[.agg #[.bool s, v, u], .agg #[.bool t, v', u']] w (RetB (.int .i64 z) w) := by
  subst hz; exact cmp_o h h'
theorem sign_x {w : World} {s : Bool} {v u : Value} {x : Rat} {z : Int} (h : RA w s v u (some x)) (hz : sgn x.num = z) : Calls Tryz.prog 19 #[.agg #[.bool s, v, u]] w (RetB (.int .i64 z) w) := by
  subst hz; exact sign_o h
theorem neg_x {w : World} {s : Bool} {v u : Value} {x : Rat} (h : RA w s v u (some x)) : Calls Tryz.prog 23 #[.agg #[.bool s, v, u]] w (RatO true (some (-x)) w) := neg_o h
theorem l04Cmp_x {w : World} {s t : Bool} {v u v' u' : Value} {x y : Rat} {z : Int} (h : RA w s v u (some x)) (h' : RA w t v' u' (some y)) (hz : cmpF x y = z) : Calls Tryz.prog 85 #[.agg #[.bool s, v, u], .agg #[.bool t, v', u']] w (RetB (.int .i64 z) w) := by
  subst hz; exact l04Cmp_o h h'
theorem scmp_x {w : World} {s t : Bool} {v u v' u' : Value} {x y : Rat} {z : Int} (h : RA w s v u (some x)) (h' : RA w t v' u' (some y)) (hz : cmpF x y = z) : Calls Tryz.prog 127 #[.agg #[.bool s, v, u], .agg #[.bool t, v', u']] w (RetB (.int .i64 z) w) := by
  subst hz; exact scmp_o h h'
theorem ssign_x {w : World} {s : Bool} {v u : Value} {x : Rat} {z : Int} (h : RA w s v u (some x)) (hz : sgn x.num = z) : Calls Tryz.prog 86 #[.agg #[.bool s, v, u]] w (RetB (.int .i64 z) w) := by
  subst hz; exact ssign_o h
theorem sneg_x {w : World} {s : Bool} {v u : Value} {x : Rat} (h : RA w s v u (some x)) : Calls Tryz.prog 89 #[.agg #[.bool s, v, u]] w (RatO false (some (-x)) w) := sneg_o h
theorem sfloor_x {w : World} {s : Bool} {v u : Value} {x : Rat} (h : RA w s v u (some x)) : Calls Tryz.prog 72 #[.agg #[.bool s, v, u]] w (RatO false (some (flF x)) w) := sfloor_o h
theorem sceil_x {w : World} {s : Bool} {v u : Value} {x : Rat} (h : RA w s v u (some x)) : Calls Tryz.prog 90 #[.agg #[.bool s, v, u]] w (RatO false (some (ceF x)) w) := sceil_o h
theorem ssub_x {w : World} {s t : Bool} {v u v' u' : Value} {x y z : Rat} (h : RA w s v u (some x)) (h' : RA w t v' u' (some y)) (hz : x - y = z) (hf : fit z) : Calls Tryz.prog 71 #[.agg #[.bool s, v, u], .agg #[.bool t, v', u']] w (RatO false (some z) w) :=
  (ssub_o h h').mono fun e w' hh => hh.eqo (by subst hz; rw [bq_some]; unfold subF; exact capF_yes hf)
theorem sadd_x {w : World} {s t : Bool} {v u v' u' : Value} {x y z : Rat} (h : RA w s v u (some x)) (h' : RA w t v' u' (some y)) (hz : x + y = z) (hf : fit z) : Calls Tryz.prog 81 #[.agg #[.bool s, v, u], .agg #[.bool t, v', u']] w (RatO false (some z) w) :=
  (sadd_o h h').mono fun e w' hh => hh.eqo (by subst hz; rw [bq_some]; unfold addF; exact capF_yes hf)
theorem sdiv_x {w : World} {s t : Bool} {v u v' u' : Value} {x y z : Rat} (h : RA w s v u (some x)) (h' : RA w t v' u' (some y)) (h0 : y ≠ 0) (hz : x / y = z) (hf : fit z) : Calls Tryz.prog 128 #[.agg #[.bool s, v, u], .agg #[.bool t, v', u']] w (RatO false (some z) w) :=
  (sdiv_o h h').mono fun e w' hh => hh.eqo (by subst hz; rw [bq_some]; unfold divF; rw [if_neg h0]; exact capF_yes hf)
theorem gzl_nat {z : Int} (h0 : 0 ≤ z) (h : z < pw 24) : gzl z = rep z.toNat := by
  have := pw24_60
  unfold gzl
  rw [show ((z.natAbs : Nat) : Int) = z by omega, capped_of (by omega)]
theorem RA.limbs {w : World} {s : Bool} {v u : Value} {x : Rat} (h : RA w s v u (some x)) (h0 : 0 < x) : (∃ b, Ints w b v (rep x.num.toNat)) ∧ (∃ b, Ints w b u (rep x.den)) := by
  have hf := h.fitO x rfl
  obtain ⟨A, D, r, e⟩ := h
  obtain ⟨-, e1, e2⟩ := rval_lists e
  have h1 := num_pos'.2 h0
  have f1 := hf.1
  have f2 := hf.2
  rw [gzl_nat (by omega) (by omega)] at e1
  rw [gzl_nat (by omega) f2] at e2
  obtain ⟨b, i⟩ := r.a
  obtain ⟨c, j⟩ := r.d
  rw [← e1] at i
  rw [← e2] at j
  exact ⟨⟨b, i⟩, ⟨c, j⟩⟩
/-- The limbs of the fraction z, of the call's own. -/
def SqP (z : Rat) (w : World) (e : Ending) (w' : World) : Prop := ∃ a n c b m d, e = .returned (.tuple #[.slice a n c, .slice b m d]) ∧ RO true w' w.heap.size false (.slice a n c) (.slice b m d) (some z) ∧ Below w.heap.size w w'
theorem simplest_x {w : World} {s t : Bool} {v u v' u' : Value} {x y : Rat} (h : RA w s v u (some x)) (h' : RA w t v' u' (some y)) (h0 : 0 < x) (hle : x ≤ y) : Calls Tryz.prog 61 #[v, u, v', u'] w (SqP (sqF x y) w) := by
  have hx := h.fitO x rfl
  have hy := h'.fitO y rfl
  have hy0 := lt_le h0 hle
  obtain ⟨⟨b1, i1⟩, ⟨b2, i2⟩⟩ := h.limbs h0
  obtain ⟨⟨b3, i3⟩, ⟨b4, i4⟩⟩ := h'.limbs hy0
  have E := ends_of h0 hle
  have n1 := num_pos'.2 h0
  have n2 := num_pos'.2 hy0
  have f1 := hx.1
  have f2 := hx.2
  have f3 := hy.1
  have f4 := hy.2
  refine (simplest_pos _ _ _ _ _ (Nat.le_refl _) E.a E.b E.d E.le (by omega) f2 (by omega) f4 _ _ _ _ b1 b2 b3 b4 w i1 i2 i3 i4).mono ?_
  rintro e w' ⟨v1, u1, rfl, j1, j2, nd, hb⟩
  obtain ⟨p1, p2⟩ := sqF_parts E
  have g := sqF_fit E hx
  have g1 := g.1
  have g2 := g.2
  have hp : 0 < (sqF x y).num := num_pos'.2 (sqF_pos E)
  have e1 : gzl (sqF x y).num = rep (sst x.num.toNat x.den y.num.toNat y.den).1 := by rw [gzl_nat (by omega) (by omega), p1]; rfl
  have e2 : gzl ((sqF x y).den : Int) = rep (sst x.num.toNat x.den y.num.toNat y.den).2 := by rw [gzl_nat (by omega) (by omega), p2]; rfl
  rw [← e1] at j1
  rw [← e2] at j2
  obtain ⟨a, c, rfl, -⟩ := Ints_form j1
  obtain ⟨b, d, rfl, -⟩ := Ints_form j2
  exact ⟨a, _, c, b, _, d, rfl, ⟨by show false = gzs (sqF x y).num; rw [gzs_nonneg (by omega)], j1, j2, fun _ => nd, fitO_some g⟩, hb⟩
set_option maxRecDepth 100000 in
set_option maxHeartbeats 12800000 in
theorem between_pos_w {s : Bool} {a : Option Addr} {n c : Nat} {b : Option Addr} {m d : Nat} {t : Bool} {a' : Option Addr} {n' c' : Nat} {b' : Option Addr} {m' d' : Nat}  {x y : Rat} (h0 : 0 < x) (hle : x ≤ y) (w : World) (h : RA w s (.slice a n c) (.slice b m d) (some x)) (h' : RA w t (.slice a' n' c') (.slice b' m' d') (some y)) :
    Calls Tryz.prog 26 #[.agg #[.bool s, .slice a n c, .slice b m d], .agg #[.bool t, .slice a' n' c', .slice b' m' d']] w (RatO true (some (sqF x y)) w) := by
  obtain ⟨Q, hQ⟩ : ∃ Q, Q = RatO true (some (sqF x y)) w := ⟨_, rfl⟩
  rw [← hQ]
  have HQ := hid hQ
  clear hQ
  have B := hid (show Below w.heap.size w (((w.alloc (.cells #[.bool s, .slice a n c, .slice b m d] 27)).alloc (.cells #[.bool t, .slice a' n' c', .slice b' m' d'] 27)).alloc (.cells #[.bool false, .slice none 0 0, .slice none 0 0] 27)) from (((Below.refl _ _).alloc (Nat.le_refl _) _).alloc (by simp) _).alloc (by simp; try omega) _)
  have LX := hid (show LocA 27 (((w.alloc (.cells #[.bool s, .slice a n c, .slice b m d] 27)).alloc (.cells #[.bool t, .slice a' n' c', .slice b' m' d'] 27)).alloc (.cells #[.bool false, .slice none 0 0, .slice none 0 0] 27)) (w.heap.size) #[.bool s, .slice a n c, .slice b m d] from (LocA.at (by simp)).new1.new1)
  have LY := hid (show LocA 27 (((w.alloc (.cells #[.bool s, .slice a n c, .slice b m d] 27)).alloc (.cells #[.bool t, .slice a' n' c', .slice b' m' d'] 27)).alloc (.cells #[.bool false, .slice none 0 0, .slice none 0 0] 27)) (w.heap.size + 1) #[.bool t, .slice a' n' c', .slice b' m' d'] from (LocA.at (by simp)).new1)
  have LR := hid (show LocA 27 (((w.alloc (.cells #[.bool s, .slice a n c, .slice b m d] 27)).alloc (.cells #[.bool t, .slice a' n' c', .slice b' m' d'] 27)).alloc (.cells #[.bool false, .slice none 0 0, .slice none 0 0] 27)) (w.heap.size + 1 + 1) #[.bool false, .slice none 0 0, .slice none 0 0] from LocA.at (by simp))
  have X := hid (h.old B.out)
  have Y := hid (h'.old B.out)
  clear h h'
  generalize hW : ((w.alloc (.cells #[.bool s, .slice a n c, .slice b m d] 27)).alloc (.cells #[.bool t, .slice a' n' c', .slice b' m' d'] 27)).alloc (.cells #[.bool false, .slice none 0 0, .slice none 0 0] 27) = W0 at B X LX Y LY LR
  have HW := hid hW
  clear hW
  have hs0 := B.out.size
  have hw0 := LR.out.lt
  have P0 := hid h0
  have P1 := hid hle
  have hng : ¬ 0 < cmpF x y := cmp_ngt (Rat.not_lt.2 hle)
  obtain ⟨z, hz⟩ : ∃ z, z = cmpF x y := ⟨_, rfl⟩
  rw [← hz] at hng
  have HZ := hid hz.symm
  have S1 := hid (sgn_of_pos (lt_le h0 hle))
  have S2 := hid (sgn_of_pos h0)
  clear hz h0 hle
  go_enter Tryz.func26, Tryz.ntmps26
  have q0 := LX.out.c 0 (v := .bool s) rfl
  have q1 := LX.out.c 1 (v := .slice a n c) rfl
  have q2 := LX.out.c 2 (v := .slice b m d) rfl
  go_wp2_with fail
  rw [HW.out]
  (with_reducible refine (ok_some X.out).mono ?_)
  clear q0 q1 q2
  rintro e w1 ⟨rfl, hb⟩
  have LX := hid (LX.out.old hb)
  have LY := hid (LY.out.old hb)
  have LR := hid (LR.out.old hb)
  have X := hid (X.out.old hb)
  have Y := hid (Y.out.old hb)
  have B := hid (B.out.trans (hb.mono B.out.size))
  clear hb
  have q0 := LY.out.c 0 (v := .bool t) rfl
  have q1 := LY.out.c 1 (v := .slice a' n' c') rfl
  have q2 := LY.out.c 2 (v := .slice b' m' d') rfl
  go_wp2_with fail
  (with_reducible refine (ok_some Y.out).mono ?_)
  clear q0 q1 q2
  rintro e w2 ⟨rfl, hb⟩
  have LX := hid (LX.out.old hb)
  have LY := hid (LY.out.old hb)
  have LR := hid (LR.out.old hb)
  have X := hid (X.out.old hb)
  have Y := hid (Y.out.old hb)
  have B := hid (B.out.trans (hb.mono B.out.size))
  clear hb
  have q0 := LX.out.c 0 (v := .bool s) rfl
  have q1 := LX.out.c 1 (v := .slice a n c) rfl
  have q2 := LX.out.c 2 (v := .slice b m d) rfl
  have q3 := LY.out.c 0 (v := .bool t) rfl
  have q4 := LY.out.c 1 (v := .slice a' n' c') rfl
  have q5 := LY.out.c 2 (v := .slice b' m' d') rfl
  go_wp2_with fail
  (with_reducible refine (cmp_x X.out Y.out HZ.out).mono ?_)
  clear q0 q1 q2 q3 q4 q5
  rintro e w3 ⟨rfl, hb⟩
  have LX := hid (LX.out.old hb)
  have LY := hid (LY.out.old hb)
  have LR := hid (LR.out.old hb)
  have X := hid (X.out.old hb)
  have Y := hid (Y.out.old hb)
  have B := hid (B.out.trans (hb.mono B.out.size))
  clear hb
  have q0 := LY.out.c 0 (v := .bool t) rfl
  have q1 := LY.out.c 1 (v := .slice a' n' c') rfl
  have q2 := LY.out.c 2 (v := .slice b' m' d') rfl
  go_wp2_with fail
  (with_reducible refine (sign_x Y.out S1.out).mono ?_)
  clear q0 q1 q2
  rintro e w4 ⟨rfl, hb⟩
  have LX := hid (LX.out.old hb)
  have LY := hid (LY.out.old hb)
  have LR := hid (LR.out.old hb)
  have X := hid (X.out.old hb)
  have Y := hid (Y.out.old hb)
  have B := hid (B.out.trans (hb.mono B.out.size))
  clear hb
  have q0 := LX.out.c 0 (v := .bool s) rfl
  have q1 := LX.out.c 1 (v := .slice a n c) rfl
  have q2 := LX.out.c 2 (v := .slice b m d) rfl
  go_wp2_with fail
  (with_reducible refine (sign_x X.out S2.out).mono ?_)
  clear q0 q1 q2
  rintro e w5 ⟨rfl, hb⟩
  have LX := hid (LX.out.old hb)
  have LY := hid (LY.out.old hb)
  have LR := hid (LR.out.old hb)
  have X := hid (X.out.old hb)
  have Y := hid (Y.out.old hb)
  have B := hid (B.out.trans (hb.mono B.out.size))
  clear hb
  have q0 := LX.out.c 0 (v := .bool s) rfl
  have q1 := LX.out.c 1 (v := .slice a n c) rfl
  have q2 := LX.out.c 2 (v := .slice b m d) rfl
  have q3 := LY.out.c 0 (v := .bool t) rfl
  have q4 := LY.out.c 1 (v := .slice a' n' c') rfl
  have q5 := LY.out.c 2 (v := .slice b' m' d') rfl
  go_wp2_with fail
  (with_reducible refine (simplest_x X.out Y.out P0.out P1.out).mono ?_)
  clear q0 q1 q2 q3 q4 q5
  rintro e w6 ⟨a6, n6, c6, b6, m6, d6, rfl, hr, hb⟩
  have G := hid (hr.base B.out.size)
  have LX := hid (LX.out.old hb)
  have LY := hid (LY.out.old hb)
  have LR := hid (LR.out.old hb)
  have X := hid (X.out.old hb)
  have Y := hid (Y.out.old hb)
  have B := hid (B.out.trans (hb.mono B.out.size))
  clear hr hb
  have f0 := LR.out.f 0
  have f1 := LR.out.f 1
  have f2 := LR.out.f 2
  have p0 := LR.out.c 0 rfl
  have p1 := LR.out.c 1 rfl
  have p2 := LR.out.c 2 rfl
  have R := hid (q_of HQ.out (RO.out (w := w) (N := w.heap.size + 1 + 1) G.out (Nat.le_refl _) (by omega) LR.out (by decide) B.out))
  go_wp2
  exact bodyPost_ret (v := .agg #[.bool false, .slice a6 n6 c6, .slice b6 m6 d6]) (by simp [results, Tryz.results26, go_sem, p0, p1, p2]) rfl R.out
theorem between_pos {w : World} {s : Bool} {v u : Value} {t : Bool} {v' u' : Value}  {x y : Rat} (h0 : 0 < x) (hle : x ≤ y) (h : RA w s v u (some x)) (h' : RA w t v' u' (some y)) : Calls Tryz.prog 26 #[.agg #[.bool s, v, u], .agg #[.bool t, v', u']] w (RatO true (some (sqF x y)) w) := by
  obtain ⟨a, n, c, b, m, d, rfl, rfl⟩ := h.form
  obtain ⟨a', n', c', b', m', d', rfl, rfl⟩ := h'.form
  exact between_pos_w h0 hle w h h'
set_option maxRecDepth 100000 in
set_option maxHeartbeats 12800000 in
theorem between_o_w {s : Bool} {a : Option Addr} {n c : Nat} {b : Option Addr} {m d : Nat} {t : Bool} {a' : Option Addr} {n' c' : Nat} {b' : Option Addr} {m' d' : Nat} {o : Option Rat} {o' : Option Rat}  (w : World) (h : RA w s (.slice a n c) (.slice b m d) o) (h' : RA w t (.slice a' n' c') (.slice b' m' d') o') :
    Calls Tryz.prog 26 #[.agg #[.bool s, .slice a n c, .slice b m d], .agg #[.bool t, .slice a' n' c', .slice b' m' d']] w (RatO true (bq simpF o o') w) := by
  obtain ⟨Q, hQ⟩ : ∃ Q, Q = RatO true (bq simpF o o') w := ⟨_, rfl⟩
  rw [← hQ]
  have HQ := hid hQ
  clear hQ
  have B := hid (show Below w.heap.size w (((w.alloc (.cells #[.bool s, .slice a n c, .slice b m d] 27)).alloc (.cells #[.bool t, .slice a' n' c', .slice b' m' d'] 27)).alloc (.cells #[.bool false, .slice none 0 0, .slice none 0 0] 27)) from (((Below.refl _ _).alloc (Nat.le_refl _) _).alloc (by simp) _).alloc (by simp; try omega) _)
  have LX := hid (show LocA 27 (((w.alloc (.cells #[.bool s, .slice a n c, .slice b m d] 27)).alloc (.cells #[.bool t, .slice a' n' c', .slice b' m' d'] 27)).alloc (.cells #[.bool false, .slice none 0 0, .slice none 0 0] 27)) (w.heap.size) #[.bool s, .slice a n c, .slice b m d] from (LocA.at (by simp)).new1.new1)
  have LY := hid (show LocA 27 (((w.alloc (.cells #[.bool s, .slice a n c, .slice b m d] 27)).alloc (.cells #[.bool t, .slice a' n' c', .slice b' m' d'] 27)).alloc (.cells #[.bool false, .slice none 0 0, .slice none 0 0] 27)) (w.heap.size + 1) #[.bool t, .slice a' n' c', .slice b' m' d'] from (LocA.at (by simp)).new1)
  have LR := hid (show LocA 27 (((w.alloc (.cells #[.bool s, .slice a n c, .slice b m d] 27)).alloc (.cells #[.bool t, .slice a' n' c', .slice b' m' d'] 27)).alloc (.cells #[.bool false, .slice none 0 0, .slice none 0 0] 27)) (w.heap.size + 1 + 1) #[.bool false, .slice none 0 0, .slice none 0 0] from LocA.at (by simp))
  have X := hid (h.old B.out)
  have Y := hid (h'.old B.out)
  clear h h'
  generalize hW : ((w.alloc (.cells #[.bool s, .slice a n c, .slice b m d] 27)).alloc (.cells #[.bool t, .slice a' n' c', .slice b' m' d'] 27)).alloc (.cells #[.bool false, .slice none 0 0, .slice none 0 0] 27) = W0 at B X LX Y LY LR
  have HW := hid hW
  clear hW
  have hs0 := B.out.size
  have hw0 := LR.out.lt
  cases o with
  | none =>
    go_enter Tryz.func26, Tryz.ntmps26
    have q0 := LX.out.c 0 (v := .bool s) rfl
    have q1 := LX.out.c 1 (v := .slice a n c) rfl
    have q2 := LX.out.c 2 (v := .slice b m d) rfl
    go_wp2_with fail
    rw [HW.out]
    (with_reducible refine (ok_none X.out).mono ?_)
    clear q0 q1 q2
    rintro e w1 ⟨rfl, hb⟩
    have LX := hid (LX.out.old hb)
    have LY := hid (LY.out.old hb)
    have LR := hid (LR.out.old hb)
    have X := hid (X.out.old hb)
    have Y := hid (Y.out.old hb)
    have B := hid (B.out.trans (hb.mono B.out.size))
    clear hb
    have f0 := LR.out.f 0
    have f1 := LR.out.f 1
    have f2 := LR.out.f 2
    have p0 := LR.out.c 0 rfl
    have p1 := LR.out.c 1 rfl
    have p2 := LR.out.c 2 rfl
    have R := hid (q_of HQ.out (RO.out (w := w) (N := w.heap.size + 1 + 1) (RO_none (w := _) (lo := w.heap.size)) (Nat.le_refl _) (by omega) LR.out (by decide) B.out))
    go_wp2
    exact bodyPost_ret (v := .agg #[.bool false, .slice none 0 0, .slice none 0 0]) (by simp [results, Tryz.results26, go_sem, p0, p1, p2]) rfl R.out
  | some x =>
  cases o' with
  | none =>
    go_enter Tryz.func26, Tryz.ntmps26
    have q0 := LX.out.c 0 (v := .bool s) rfl
    have q1 := LX.out.c 1 (v := .slice a n c) rfl
    have q2 := LX.out.c 2 (v := .slice b m d) rfl
    go_wp2_with fail
    rw [HW.out]
    (with_reducible refine (ok_some X.out).mono ?_)
    clear q0 q1 q2
    rintro e w1 ⟨rfl, hb⟩
    have LX := hid (LX.out.old hb)
    have LY := hid (LY.out.old hb)
    have LR := hid (LR.out.old hb)
    have X := hid (X.out.old hb)
    have Y := hid (Y.out.old hb)
    have B := hid (B.out.trans (hb.mono B.out.size))
    clear hb
    have q0 := LY.out.c 0 (v := .bool t) rfl
    have q1 := LY.out.c 1 (v := .slice a' n' c') rfl
    have q2 := LY.out.c 2 (v := .slice b' m' d') rfl
    go_wp2_with fail
    (with_reducible refine (ok_none Y.out).mono ?_)
    clear q0 q1 q2
    rintro e w2 ⟨rfl, hb⟩
    have LX := hid (LX.out.old hb)
    have LY := hid (LY.out.old hb)
    have LR := hid (LR.out.old hb)
    have X := hid (X.out.old hb)
    have Y := hid (Y.out.old hb)
    have B := hid (B.out.trans (hb.mono B.out.size))
    clear hb
    have f0 := LR.out.f 0
    have f1 := LR.out.f 1
    have f2 := LR.out.f 2
    have p0 := LR.out.c 0 rfl
    have p1 := LR.out.c 1 rfl
    have p2 := LR.out.c 2 rfl
    have R := hid (q_of HQ.out (RO.out (w := w) (N := w.heap.size + 1 + 1) (RO_none (w := _) (lo := w.heap.size)) (Nat.le_refl _) (by omega) LR.out (by decide) B.out))
    go_wp2
    exact bodyPost_ret (v := .agg #[.bool false, .slice none 0 0, .slice none 0 0]) (by simp [results, Tryz.results26, go_sem, p0, p1, p2]) rfl R.out
  | some y =>
  have HQ := hid (show Q = RatO true (simpF x y) w from HQ.out)
  by_cases hgt : y < x
  · have HQ := hid (show Q = RatO true none w by rw [← simpF_no hgt]; exact HQ.out)
    have HZ := hid (cmp_gt hgt)
    clear hgt
    go_enter Tryz.func26, Tryz.ntmps26
    have q0 := LX.out.c 0 (v := .bool s) rfl
    have q1 := LX.out.c 1 (v := .slice a n c) rfl
    have q2 := LX.out.c 2 (v := .slice b m d) rfl
    go_wp2_with fail
    rw [HW.out]
    (with_reducible refine (ok_some X.out).mono ?_)
    clear q0 q1 q2
    rintro e w1 ⟨rfl, hb⟩
    have LX := hid (LX.out.old hb)
    have LY := hid (LY.out.old hb)
    have LR := hid (LR.out.old hb)
    have X := hid (X.out.old hb)
    have Y := hid (Y.out.old hb)
    have B := hid (B.out.trans (hb.mono B.out.size))
    clear hb
    have q0 := LY.out.c 0 (v := .bool t) rfl
    have q1 := LY.out.c 1 (v := .slice a' n' c') rfl
    have q2 := LY.out.c 2 (v := .slice b' m' d') rfl
    go_wp2_with fail
    (with_reducible refine (ok_some Y.out).mono ?_)
    clear q0 q1 q2
    rintro e w2 ⟨rfl, hb⟩
    have LX := hid (LX.out.old hb)
    have LY := hid (LY.out.old hb)
    have LR := hid (LR.out.old hb)
    have X := hid (X.out.old hb)
    have Y := hid (Y.out.old hb)
    have B := hid (B.out.trans (hb.mono B.out.size))
    clear hb
    have q0 := LX.out.c 0 (v := .bool s) rfl
    have q1 := LX.out.c 1 (v := .slice a n c) rfl
    have q2 := LX.out.c 2 (v := .slice b m d) rfl
    have q3 := LY.out.c 0 (v := .bool t) rfl
    have q4 := LY.out.c 1 (v := .slice a' n' c') rfl
    have q5 := LY.out.c 2 (v := .slice b' m' d') rfl
    go_wp2_with fail
    (with_reducible refine (cmp_x X.out Y.out HZ.out).mono ?_)
    clear q0 q1 q2 q3 q4 q5
    rintro e w3 ⟨rfl, hb⟩
    have LX := hid (LX.out.old hb)
    have LY := hid (LY.out.old hb)
    have LR := hid (LR.out.old hb)
    have X := hid (X.out.old hb)
    have Y := hid (Y.out.old hb)
    have B := hid (B.out.trans (hb.mono B.out.size))
    clear hb
    have f0 := LR.out.f 0
    have f1 := LR.out.f 1
    have f2 := LR.out.f 2
    have p0 := LR.out.c 0 rfl
    have p1 := LR.out.c 1 rfl
    have p2 := LR.out.c 2 rfl
    have R := hid (q_of HQ.out (RO.out (w := w) (N := w.heap.size + 1 + 1) (RO_none (w := _) (lo := w.heap.size)) (Nat.le_refl _) (by omega) LR.out (by decide) B.out))
    go_wp2
    exact bodyPost_ret (v := .agg #[.bool false, .slice none 0 0, .slice none 0 0]) (by simp [results, Tryz.results26, go_sem, p0, p1, p2]) rfl R.out
  have hng : ¬ 0 < cmpF x y := cmp_ngt hgt
  have HG := hid hgt
  obtain ⟨z, hz⟩ : ∃ z, z = cmpF x y := ⟨_, rfl⟩
  rw [← hz] at hng
  have HZ := hid hz.symm
  clear hz hgt
  by_cases hy0 : y < 0
  · have HQ := hid (show Q = RatO true (some (-(sqF (-y) (-x)))) w by rw [← simpF_neg HG.out hy0]; exact HQ.out)
    have P0 := hid (neg_pos' hy0)
    have P1 := hid (Rat.neg_le_neg (Rat.not_lt.1 HG.out))
    have S1 := hid (sgn_of_neg hy0)
    have S2 := hid (sgn_of_neg (x := x) (by by_cases e : x < 0; exact e; exact absurd (Rat.le_trans (Rat.not_lt.1 e) (Rat.not_lt.1 HG.out)) (Rat.not_le.2 hy0)))
    have hwa : IntKind.i64.wrap (-1) = -1 := by decide
    clear hy0
    go_enter Tryz.func26, Tryz.ntmps26
    have q0 := LX.out.c 0 (v := .bool s) rfl
    have q1 := LX.out.c 1 (v := .slice a n c) rfl
    have q2 := LX.out.c 2 (v := .slice b m d) rfl
    go_wp2_with fail
    rw [HW.out]
    (with_reducible refine (ok_some X.out).mono ?_)
    clear q0 q1 q2
    rintro e w1 ⟨rfl, hb⟩
    have LX := hid (LX.out.old hb)
    have LY := hid (LY.out.old hb)
    have LR := hid (LR.out.old hb)
    have X := hid (X.out.old hb)
    have Y := hid (Y.out.old hb)
    have B := hid (B.out.trans (hb.mono B.out.size))
    clear hb
    have q0 := LY.out.c 0 (v := .bool t) rfl
    have q1 := LY.out.c 1 (v := .slice a' n' c') rfl
    have q2 := LY.out.c 2 (v := .slice b' m' d') rfl
    go_wp2_with fail
    (with_reducible refine (ok_some Y.out).mono ?_)
    clear q0 q1 q2
    rintro e w2 ⟨rfl, hb⟩
    have LX := hid (LX.out.old hb)
    have LY := hid (LY.out.old hb)
    have LR := hid (LR.out.old hb)
    have X := hid (X.out.old hb)
    have Y := hid (Y.out.old hb)
    have B := hid (B.out.trans (hb.mono B.out.size))
    clear hb
    have q0 := LX.out.c 0 (v := .bool s) rfl
    have q1 := LX.out.c 1 (v := .slice a n c) rfl
    have q2 := LX.out.c 2 (v := .slice b m d) rfl
    have q3 := LY.out.c 0 (v := .bool t) rfl
    have q4 := LY.out.c 1 (v := .slice a' n' c') rfl
    have q5 := LY.out.c 2 (v := .slice b' m' d') rfl
    go_wp2_with fail
    (with_reducible refine (cmp_x X.out Y.out HZ.out).mono ?_)
    clear q0 q1 q2 q3 q4 q5
    rintro e w3 ⟨rfl, hb⟩
    have LX := hid (LX.out.old hb)
    have LY := hid (LY.out.old hb)
    have LR := hid (LR.out.old hb)
    have X := hid (X.out.old hb)
    have Y := hid (Y.out.old hb)
    have B := hid (B.out.trans (hb.mono B.out.size))
    clear hb
    have q0 := LY.out.c 0 (v := .bool t) rfl
    have q1 := LY.out.c 1 (v := .slice a' n' c') rfl
    have q2 := LY.out.c 2 (v := .slice b' m' d') rfl
    go_wp2_with fail
    (with_reducible refine (sign_x Y.out S1.out).mono ?_)
    clear q0 q1 q2
    rintro e w4 ⟨rfl, hb⟩
    have LX := hid (LX.out.old hb)
    have LY := hid (LY.out.old hb)
    have LR := hid (LR.out.old hb)
    have X := hid (X.out.old hb)
    have Y := hid (Y.out.old hb)
    have B := hid (B.out.trans (hb.mono B.out.size))
    clear hb
    go_wp2_with fail
    have LX := hid (LX.out.old (Below_drew1 (Below.refl _ _)))
    have LY := hid (LY.out.old (Below_drew1 (Below.refl _ _)))
    have LR := hid (LR.out.old (Below_drew1 (Below.refl _ _)))
    have X := hid (X.out.old (Below_drew1 (Below.refl _ _)))
    have Y := hid (Y.out.old (Below_drew1 (Below.refl _ _)))
    have B := hid (Below_drew1 B.out)
    have q0 := LY.out.c 0 (v := .bool t) rfl
    have q1 := LY.out.c 1 (v := .slice a' n' c') rfl
    have q2 := LY.out.c 2 (v := .slice b' m' d') rfl
    have q3 := LX.out.c 0 (v := .bool s) rfl
    have q4 := LX.out.c 1 (v := .slice a n c) rfl
    have q5 := LX.out.c 2 (v := .slice b m d) rfl
    have hlY := LY.out.lt
    have hlX := LX.out.lt
    go_region_held3 (fun w' => w'.cell? ⟨w.heap.size + 1, 0, none⟩ = some (.bool t) ∧ w'.cell? ⟨w.heap.size + 1, 1, none⟩ = some (.slice a' n' c') ∧ w'.cell? ⟨w.heap.size + 1, 2, none⟩ = some (.slice b' m' d') ∧ w'.cell? ⟨w.heap.size, 0, none⟩ = some (.bool s) ∧ w'.cell? ⟨w.heap.size, 1, none⟩ = some (.slice a n c) ∧ w'.cell? ⟨w.heap.size, 2, none⟩ = some (.slice b m d)) (first | with_reducible exact ⟨q0, q1, q2, q3, q4, q5⟩ | ((with_reducible refine ⟨(cell_set3 ?_).trans q0, (cell_set3 ?_).trans q1, (cell_set3 ?_).trans q2, (cell_set3 ?_).trans q3, (cell_set3 ?_).trans q4, (cell_set3 ?_).trans q5⟩) <;> omega) | go_keep) (first | (go_at_call 23; (with_reducible refine (neg_x Y.out).mono ?_); rintro e w5 ⟨s5, a5, n5, c5, b5, m5, d5, rfl, hr, hb⟩; have G := hid (hr.base B.out.size); have LX := hid (LX.out.old hb); have LY := hid (LY.out.old hb); have LR := hid (LR.out.old hb); have X := hid (X.out.old hb); have Y := hid (Y.out.old hb); (try have H := hid (H.out.old hb)); (try have R1 := hid (R1.out.old hb)); (try have S := hid (S.out.old hb)); have B := hid (B.out.trans (hb.mono B.out.size)); clear hr hb; have q0 := LY.out.c 0 (v := .bool t) rfl; have q1 := LY.out.c 1 (v := .slice a' n' c') rfl; have q2 := LY.out.c 2 (v := .slice b' m' d') rfl; have q3 := LX.out.c 0 (v := .bool s) rfl; have q4 := LX.out.c 1 (v := .slice a n c) rfl; have q5 := LX.out.c 2 (v := .slice b m d) rfl) | (go_at_call 23; (with_reducible refine (neg_x X.out).mono ?_); rintro e w6 ⟨s6, a6, n6, c6, b6, m6, d6, rfl, hr, hb⟩; have H := hid (hr.base B.out.size); have LX := hid (LX.out.old hb); have LY := hid (LY.out.old hb); have LR := hid (LR.out.old hb); have X := hid (X.out.old hb); have Y := hid (Y.out.old hb); (try have G := hid (G.out.old hb)); (try have R1 := hid (R1.out.old hb)); (try have S := hid (S.out.old hb)); have B := hid (B.out.trans (hb.mono B.out.size)); clear hr hb; have q0 := LY.out.c 0 (v := .bool t) rfl; have q1 := LY.out.c 1 (v := .slice a' n' c') rfl; have q2 := LY.out.c 2 (v := .slice b' m' d') rfl; have q3 := LX.out.c 0 (v := .bool s) rfl; have q4 := LX.out.c 1 (v := .slice a n c) rfl; have q5 := LX.out.c 2 (v := .slice b m d) rfl) | (go_at_call 26; (with_reducible refine (between_pos P0.out P1.out G.out.ra H.out.ra).mono ?_); rintro e w7 ⟨s7, a7, n7, c7, b7, m7, d7, rfl, hr, hb⟩; have S := hid (hr.base B.out.size); have LX := hid (LX.out.old hb); have LY := hid (LY.out.old hb); have LR := hid (LR.out.old hb); have X := hid (X.out.old hb); have Y := hid (Y.out.old hb); (try have G := hid (G.out.old hb)); (try have H := hid (H.out.old hb)); (try have R1 := hid (R1.out.old hb)); have B := hid (B.out.trans (hb.mono B.out.size)); clear hr hb; have q0 := LY.out.c 0 (v := .bool t) rfl; have q1 := LY.out.c 1 (v := .slice a' n' c') rfl; have q2 := LY.out.c 2 (v := .slice b' m' d') rfl; have q3 := LX.out.c 0 (v := .bool s) rfl; have q4 := LX.out.c 1 (v := .slice a n c) rfl; have q5 := LX.out.c 2 (v := .slice b m d) rfl) | (go_at_call 23; (with_reducible refine (neg_x S.out.ra).mono ?_); rintro e w8 ⟨s8, a8, n8, c8, b8, m8, d8, rfl, hr, hb⟩; have R1 := hid (hr.base B.out.size); have LX := hid (LX.out.old hb); have LY := hid (LY.out.old hb); have LR := hid (LR.out.old hb); have X := hid (X.out.old hb); have Y := hid (Y.out.old hb); (try have G := hid (G.out.old hb)); (try have H := hid (H.out.old hb)); (try have S := hid (S.out.old hb)); have B := hid (B.out.trans (hb.mono B.out.size)); clear hr hb; have q0 := LY.out.c 0 (v := .bool t) rfl; have q1 := LY.out.c 1 (v := .slice a' n' c') rfl; have q2 := LY.out.c 2 (v := .slice b' m' d') rfl; have q3 := LX.out.c 0 (v := .bool s) rfl; have q4 := LX.out.c 1 (v := .slice a n c) rfl; have q5 := LX.out.c 2 (v := .slice b m d) rfl; have f0 := LR.out.f 0; have f1 := LR.out.f 1; have f2 := LR.out.f 2; have p0 := LR.out.c 0 rfl; have p1 := LR.out.c 1 rfl; have p2 := LR.out.c 2 rfl; have R := hid (q_of HQ.out (RO.out (w := w) (N := w.heap.size + 1 + 1) R1.out (Nat.le_refl _) (by omega) LR.out (by decide) B.out))))
    clear q0 q1 q2 q3 q4 q5
    go_wp2
    exact bodyPost_ret (v := .agg #[.bool s8, .slice a8 n8 c8, .slice b8 m8 d8]) (by simp [results, Tryz.results26, go_sem, p0, p1, p2]) rfl R.out
  by_cases hx0 : x ≤ 0
  · have HQ := hid (show Q = RatO true (some ((0 : Int) : Rat)) w by rw [← simpF_zero HG.out hy0 hx0]; exact HQ.out)
    have hs1 := sgn_nonneg hy0
    have hs2 := sgn_nonpos hx0
    obtain ⟨z1, hz1⟩ : ∃ z, z = sgn y.num := ⟨_, rfl⟩
    obtain ⟨z2, hz2⟩ : ∃ z, z = sgn x.num := ⟨_, rfl⟩
    rw [← hz1] at hs1
    rw [← hz2] at hs2
    have S1 := hid hz1.symm
    have S2 := hid hz2.symm
    have hs3 : ¬ z1 < 0 := by omega
    clear hz1 hz2 hy0 hx0
    go_enter Tryz.func26, Tryz.ntmps26
    have q0 := LX.out.c 0 (v := .bool s) rfl
    have q1 := LX.out.c 1 (v := .slice a n c) rfl
    have q2 := LX.out.c 2 (v := .slice b m d) rfl
    go_wp2_with fail
    rw [HW.out]
    (with_reducible refine (ok_some X.out).mono ?_)
    clear q0 q1 q2
    rintro e w1 ⟨rfl, hb⟩
    have LX := hid (LX.out.old hb)
    have LY := hid (LY.out.old hb)
    have LR := hid (LR.out.old hb)
    have X := hid (X.out.old hb)
    have Y := hid (Y.out.old hb)
    have B := hid (B.out.trans (hb.mono B.out.size))
    clear hb
    have q0 := LY.out.c 0 (v := .bool t) rfl
    have q1 := LY.out.c 1 (v := .slice a' n' c') rfl
    have q2 := LY.out.c 2 (v := .slice b' m' d') rfl
    go_wp2_with fail
    (with_reducible refine (ok_some Y.out).mono ?_)
    clear q0 q1 q2
    rintro e w2 ⟨rfl, hb⟩
    have LX := hid (LX.out.old hb)
    have LY := hid (LY.out.old hb)
    have LR := hid (LR.out.old hb)
    have X := hid (X.out.old hb)
    have Y := hid (Y.out.old hb)
    have B := hid (B.out.trans (hb.mono B.out.size))
    clear hb
    have q0 := LX.out.c 0 (v := .bool s) rfl
    have q1 := LX.out.c 1 (v := .slice a n c) rfl
    have q2 := LX.out.c 2 (v := .slice b m d) rfl
    have q3 := LY.out.c 0 (v := .bool t) rfl
    have q4 := LY.out.c 1 (v := .slice a' n' c') rfl
    have q5 := LY.out.c 2 (v := .slice b' m' d') rfl
    go_wp2_with fail
    (with_reducible refine (cmp_x X.out Y.out HZ.out).mono ?_)
    clear q0 q1 q2 q3 q4 q5
    rintro e w3 ⟨rfl, hb⟩
    have LX := hid (LX.out.old hb)
    have LY := hid (LY.out.old hb)
    have LR := hid (LR.out.old hb)
    have X := hid (X.out.old hb)
    have Y := hid (Y.out.old hb)
    have B := hid (B.out.trans (hb.mono B.out.size))
    clear hb
    have q0 := LY.out.c 0 (v := .bool t) rfl
    have q1 := LY.out.c 1 (v := .slice a' n' c') rfl
    have q2 := LY.out.c 2 (v := .slice b' m' d') rfl
    go_wp2_with fail
    (with_reducible refine (sign_x Y.out S1.out).mono ?_)
    clear q0 q1 q2
    rintro e w4 ⟨rfl, hb⟩
    have LX := hid (LX.out.old hb)
    have LY := hid (LY.out.old hb)
    have LR := hid (LR.out.old hb)
    have X := hid (X.out.old hb)
    have Y := hid (Y.out.old hb)
    have B := hid (B.out.trans (hb.mono B.out.size))
    clear hb
    have q0 := LX.out.c 0 (v := .bool s) rfl
    have q1 := LX.out.c 1 (v := .slice a n c) rfl
    have q2 := LX.out.c 2 (v := .slice b m d) rfl
    go_wp2_with fail
    (with_reducible refine (sign_x X.out S2.out).mono ?_)
    clear q0 q1 q2
    rintro e w5 ⟨rfl, hb⟩
    have LX := hid (LX.out.old hb)
    have LY := hid (LY.out.old hb)
    have LR := hid (LR.out.old hb)
    have X := hid (X.out.old hb)
    have Y := hid (Y.out.old hb)
    have B := hid (B.out.trans (hb.mono B.out.size))
    clear hb
    go_wp2_with fail
    (with_reducible refine (int_o 0 (by decide) (by decide) _).mono ?_)
    rintro e w6 ⟨s6, a6, n6, c6, b6, m6, d6, rfl, hr, hb⟩
    have R1 := hid (hr.base B.out.size)
    have LX := hid (LX.out.old hb)
    have LY := hid (LY.out.old hb)
    have LR := hid (LR.out.old hb)
    have X := hid (X.out.old hb)
    have Y := hid (Y.out.old hb)
    have B := hid (B.out.trans (hb.mono B.out.size))
    clear hr hb
    have f0 := LR.out.f 0
    have f1 := LR.out.f 1
    have f2 := LR.out.f 2
    have p0 := LR.out.c 0 rfl
    have p1 := LR.out.c 1 rfl
    have p2 := LR.out.c 2 rfl
    have R := hid (q_of HQ.out (RO.out (w := w) (N := w.heap.size + 1 + 1) R1.out (Nat.le_refl _) (by omega) LR.out (by decide) B.out))
    go_wp2
    exact bodyPost_ret (v := .agg #[.bool s6, .slice a6 n6 c6, .slice b6 m6 d6]) (by simp [results, Tryz.results26, go_sem, p0, p1, p2]) rfl R.out
  · have HQ := hid (show Q = RatO true (some (sqF x y)) w by rw [← simpF_pos HG.out hy0 hx0]; exact HQ.out)
    have P0 := hid (Rat.not_le.1 hx0)
    have P1 := hid (Rat.not_lt.1 HG.out)
    have hng2 := hng
    have S1 := hid (sgn_of_pos (lt_le P0.out P1.out))
    have S2 := hid (sgn_of_pos P0.out)
    clear hx0 hy0
    go_enter Tryz.func26, Tryz.ntmps26
    have q0 := LX.out.c 0 (v := .bool s) rfl
    have q1 := LX.out.c 1 (v := .slice a n c) rfl
    have q2 := LX.out.c 2 (v := .slice b m d) rfl
    go_wp2_with fail
    rw [HW.out]
    (with_reducible refine (ok_some X.out).mono ?_)
    clear q0 q1 q2
    rintro e w1 ⟨rfl, hb⟩
    have LX := hid (LX.out.old hb)
    have LY := hid (LY.out.old hb)
    have LR := hid (LR.out.old hb)
    have X := hid (X.out.old hb)
    have Y := hid (Y.out.old hb)
    have B := hid (B.out.trans (hb.mono B.out.size))
    clear hb
    have q0 := LY.out.c 0 (v := .bool t) rfl
    have q1 := LY.out.c 1 (v := .slice a' n' c') rfl
    have q2 := LY.out.c 2 (v := .slice b' m' d') rfl
    go_wp2_with fail
    (with_reducible refine (ok_some Y.out).mono ?_)
    clear q0 q1 q2
    rintro e w2 ⟨rfl, hb⟩
    have LX := hid (LX.out.old hb)
    have LY := hid (LY.out.old hb)
    have LR := hid (LR.out.old hb)
    have X := hid (X.out.old hb)
    have Y := hid (Y.out.old hb)
    have B := hid (B.out.trans (hb.mono B.out.size))
    clear hb
    have q0 := LX.out.c 0 (v := .bool s) rfl
    have q1 := LX.out.c 1 (v := .slice a n c) rfl
    have q2 := LX.out.c 2 (v := .slice b m d) rfl
    have q3 := LY.out.c 0 (v := .bool t) rfl
    have q4 := LY.out.c 1 (v := .slice a' n' c') rfl
    have q5 := LY.out.c 2 (v := .slice b' m' d') rfl
    go_wp2_with fail
    (with_reducible refine (cmp_x X.out Y.out HZ.out).mono ?_)
    clear q0 q1 q2 q3 q4 q5
    rintro e w3 ⟨rfl, hb⟩
    have LX := hid (LX.out.old hb)
    have LY := hid (LY.out.old hb)
    have LR := hid (LR.out.old hb)
    have X := hid (X.out.old hb)
    have Y := hid (Y.out.old hb)
    have B := hid (B.out.trans (hb.mono B.out.size))
    clear hb
    have q0 := LY.out.c 0 (v := .bool t) rfl
    have q1 := LY.out.c 1 (v := .slice a' n' c') rfl
    have q2 := LY.out.c 2 (v := .slice b' m' d') rfl
    go_wp2_with fail
    (with_reducible refine (sign_x Y.out S1.out).mono ?_)
    clear q0 q1 q2
    rintro e w4 ⟨rfl, hb⟩
    have LX := hid (LX.out.old hb)
    have LY := hid (LY.out.old hb)
    have LR := hid (LR.out.old hb)
    have X := hid (X.out.old hb)
    have Y := hid (Y.out.old hb)
    have B := hid (B.out.trans (hb.mono B.out.size))
    clear hb
    have q0 := LX.out.c 0 (v := .bool s) rfl
    have q1 := LX.out.c 1 (v := .slice a n c) rfl
    have q2 := LX.out.c 2 (v := .slice b m d) rfl
    go_wp2_with fail
    (with_reducible refine (sign_x X.out S2.out).mono ?_)
    clear q0 q1 q2
    rintro e w5 ⟨rfl, hb⟩
    have LX := hid (LX.out.old hb)
    have LY := hid (LY.out.old hb)
    have LR := hid (LR.out.old hb)
    have X := hid (X.out.old hb)
    have Y := hid (Y.out.old hb)
    have B := hid (B.out.trans (hb.mono B.out.size))
    clear hb
    have q0 := LX.out.c 0 (v := .bool s) rfl
    have q1 := LX.out.c 1 (v := .slice a n c) rfl
    have q2 := LX.out.c 2 (v := .slice b m d) rfl
    have q3 := LY.out.c 0 (v := .bool t) rfl
    have q4 := LY.out.c 1 (v := .slice a' n' c') rfl
    have q5 := LY.out.c 2 (v := .slice b' m' d') rfl
    go_wp2_with fail
    (with_reducible refine (simplest_x X.out Y.out P0.out P1.out).mono ?_)
    clear q0 q1 q2 q3 q4 q5
    rintro e w6 ⟨a6, n6, c6, b6, m6, d6, rfl, hr, hb⟩
    have G := hid (hr.base B.out.size)
    have LX := hid (LX.out.old hb)
    have LY := hid (LY.out.old hb)
    have LR := hid (LR.out.old hb)
    have X := hid (X.out.old hb)
    have Y := hid (Y.out.old hb)
    have B := hid (B.out.trans (hb.mono B.out.size))
    clear hr hb
    have f0 := LR.out.f 0
    have f1 := LR.out.f 1
    have f2 := LR.out.f 2
    have p0 := LR.out.c 0 rfl
    have p1 := LR.out.c 1 rfl
    have p2 := LR.out.c 2 rfl
    have R := hid (q_of HQ.out (RO.out (w := w) (N := w.heap.size + 1 + 1) G.out (Nat.le_refl _) (by omega) LR.out (by decide) B.out))
    go_wp2
    exact bodyPost_ret (v := .agg #[.bool false, .slice a6 n6 c6, .slice b6 m6 d6]) (by simp [results, Tryz.results26, go_sem, p0, p1, p2]) rfl R.out
theorem between_o {w : World} {s : Bool} {v u : Value} {t : Bool} {v' u' : Value} {o : Option Rat} {o' : Option Rat}  (h : RA w s v u o) (h' : RA w t v' u' o') : Calls Tryz.prog 26 #[.agg #[.bool s, v, u], .agg #[.bool t, v', u']] w (RatO true (bq simpF o o') w) := by
  obtain ⟨a, n, c, b, m, d, rfl, rfl⟩ := h.form
  obtain ⟨a', n', c', b', m', d', rfl, rfl⟩ := h'.form
  exact between_o_w  w h h'
end Go.Proofs.YtookglpeieennaaGreat

/- The reference: the simplest fraction of an interval. -/
namespace Go.Proofs.YtookglpeieennaaGreat
open Go.RowKit
open Go.Lib (hid)
set_option linter.unusedVariables false

theorem cmpF_le {x y : Rat} (h : x ≤ y) : cmpF x y ≤ 0 := by
  have := cmp_ngt (Rat.not_lt.2 h)
  omega
theorem cmpF_nle {x y : Rat} (h : ¬ x ≤ y) : ¬ cmpF x y ≤ 0 := by
  rw [cmp_gt (Rat.not_le.1 h)]
  decide
set_option maxRecDepth 100000 in
set_option maxHeartbeats 12800000 in
theorem l05Simple_zero : ∀ {s : Bool} {a : Option Addr} {n c : Nat} {b : Option Addr} {m d : Nat} {t : Bool} {a' : Option Addr} {n' c' : Nat} {b' : Option Addr} {m' d' : Nat} {x y : Rat} (h0 : 0 < x) (hle : x ≤ y) (hd : deep 0 x.num.toNat x.den y.num.toNat y.den) (hk : 0 ≤ 4000) (w : World) (h : RA w s (.slice a n c) (.slice b m d) (some x)) (h' : RA w t (.slice a' n' c') (.slice b' m' d') (some y)), Calls Tryz.prog 88 #[.agg #[.bool s, .slice a n c, .slice b m d], .agg #[.bool t, .slice a' n' c', .slice b' m' d'], .int .i64 ((0 : Nat) : Int)] w (RatO false (some (sqF x y)) w) := by
  intro s a n c b m d t a' n' c' b' m' d' x y h0 hle hd hk w h h'
  have hc : ceF x ≤ y := (sq_stop h0 hle).1 hd
  obtain ⟨Q, hQ⟩ : ∃ Q, Q = RatO false (some (sqF x y)) w := ⟨_, rfl⟩
  rw [← hQ]
  have HQ := hid hQ
  clear hQ
  have B := hid (show Below w.heap.size w (((w.alloc (.cells #[.bool s, .slice a n c, .slice b m d] 27)).alloc (.cells #[.bool t, .slice a' n' c', .slice b' m' d'] 27)).alloc (.cells #[.bool false, .slice none 0 0, .slice none 0 0] 27)) from (((Below.refl _ _).alloc (Nat.le_refl _) _).alloc (by simp) _).alloc (by simp; try omega) _)
  have LX := hid (show LocA 27 (((w.alloc (.cells #[.bool s, .slice a n c, .slice b m d] 27)).alloc (.cells #[.bool t, .slice a' n' c', .slice b' m' d'] 27)).alloc (.cells #[.bool false, .slice none 0 0, .slice none 0 0] 27)) (w.heap.size) #[.bool s, .slice a n c, .slice b m d] from (LocA.at (by simp)).new1.new1)
  have LY := hid (show LocA 27 (((w.alloc (.cells #[.bool s, .slice a n c, .slice b m d] 27)).alloc (.cells #[.bool t, .slice a' n' c', .slice b' m' d'] 27)).alloc (.cells #[.bool false, .slice none 0 0, .slice none 0 0] 27)) (w.heap.size + 1) #[.bool t, .slice a' n' c', .slice b' m' d'] from (LocA.at (by simp)).new1)
  have LR := hid (show LocA 27 (((w.alloc (.cells #[.bool s, .slice a n c, .slice b m d] 27)).alloc (.cells #[.bool t, .slice a' n' c', .slice b' m' d'] 27)).alloc (.cells #[.bool false, .slice none 0 0, .slice none 0 0] 27)) (w.heap.size + 1 + 1) #[.bool false, .slice none 0 0, .slice none 0 0] from LocA.at (by simp))
  have X := hid (h.old B.out)
  have Y := hid (h'.old B.out)
  clear h h'
  generalize hW : ((w.alloc (.cells #[.bool s, .slice a n c, .slice b m d] 27)).alloc (.cells #[.bool t, .slice a' n' c', .slice b' m' d'] 27)).alloc (.cells #[.bool false, .slice none 0 0, .slice none 0 0] 27) = W0 at B X LX Y LY LR
  have HW := hid hW
  clear hW
  have hs0 := B.out.size
  have hw0 := LR.out.lt
  rw [show (((0 : Nat) : Int)) = 0 from rfl]
  have hcl := (cmpF_le hc)
  have HB := hid (sq_base h0 hle hc)
  obtain ⟨z, hz⟩ : ∃ z, z = cmpF (ceF x) y := ⟨_, rfl⟩
  rw [← hz] at hcl
  have HZ := hid hz.symm
  clear hz hc h0 hle
  go_enter Tryz.func88, Tryz.ntmps88
  have q0 := LX.out.c 0 (v := .bool s) rfl
  have q1 := LX.out.c 1 (v := .slice a n c) rfl
  have q2 := LX.out.c 2 (v := .slice b m d) rfl
  go_wp2_with fail
  rw [HW.out]
  (with_reducible refine (sceil_x X.out).mono ?_)
  clear q0 q1 q2
  rintro e w1 ⟨s1, a1, n1, c1, b1, m1, d1, rfl, hr, hb⟩
  have U := hid (hr.base B.out.size)
  have LX := hid (LX.out.old hb)
  have LY := hid (LY.out.old hb)
  have LR := hid (LR.out.old hb)
  have X := hid (X.out.old hb)
  have Y := hid (Y.out.old hb)
  have B := hid (B.out.trans (hb.mono B.out.size))
  clear hr hb
  have hnU := LR.out.lt
  have LX := hid (LX.out.old (below_new' (o := .cells #[.bool s1, .slice a1 n1 c1, .slice b1 m1 d1] 27)))
  have LY := hid (LY.out.old (below_new' (o := .cells #[.bool s1, .slice a1 n1 c1, .slice b1 m1 d1] 27)))
  have LR := hid (LR.out.old (below_new' (o := .cells #[.bool s1, .slice a1 n1 c1, .slice b1 m1 d1] 27)))
  have X := hid (X.out.old (below_new' (o := .cells #[.bool s1, .slice a1 n1 c1, .slice b1 m1 d1] 27)))
  have Y := hid (Y.out.old (below_new' (o := .cells #[.bool s1, .slice a1 n1 c1, .slice b1 m1 d1] 27)))
  have U := hid (U.out.old (below_new' (o := .cells #[.bool s1, .slice a1 n1 c1, .slice b1 m1 d1] 27)))
  have B := hid (B.out.alloc B.out.size (.cells #[.bool s1, .slice a1 n1 c1, .slice b1 m1 d1] 27))
  have LU := hid (LocA.new (w := w1) (T := 27) (cs := #[.bool s1, .slice a1 n1 c1, .slice b1 m1 d1]))
  have q0 := LU.out.c 0 (v := .bool s1) rfl
  have q1 := LU.out.c 1 (v := .slice a1 n1 c1) rfl
  have q2 := LU.out.c 2 (v := .slice b1 m1 d1) rfl
  have q3 := LY.out.c 0 (v := .bool t) rfl
  have q4 := LY.out.c 1 (v := .slice a' n' c') rfl
  have q5 := LY.out.c 2 (v := .slice b' m' d') rfl
  go_wp2_with fail
  (with_reducible refine (scmp_x U.out.ra Y.out HZ.out).mono ?_)
  clear q0 q1 q2 q3 q4 q5
  rintro e w2 ⟨rfl, hb⟩
  have LX := hid (LX.out.old hb)
  have LY := hid (LY.out.old hb)
  have LR := hid (LR.out.old hb)
  have X := hid (X.out.old hb)
  have Y := hid (Y.out.old hb)
  have U := hid (U.out.old hb)
  have LU := hid (LU.out.old hb)
  have B := hid (B.out.trans (hb.mono B.out.size))
  clear hb
  have q0 := LU.out.c 0 (v := .bool s1) rfl
  have q1 := LU.out.c 1 (v := .slice a1 n1 c1) rfl
  have q2 := LU.out.c 2 (v := .slice b1 m1 d1) rfl
  have f0 := LR.out.f 0
  have f1 := LR.out.f 1
  have f2 := LR.out.f 2
  have p0 := LR.out.c 0 rfl
  have p1 := LR.out.c 1 rfl
  have p2 := LR.out.c 2 rfl
  have R := hid (q_of HQ.out (RO.out (w := w) (N := w.heap.size + 1 + 1) (hid (U.out.eqo (by rw [HB.out]))).out (Nat.le_refl _) (by omega) LR.out (by decide) B.out))
  go_wp2
  exact bodyPost_ret (v := .agg #[.bool s1, .slice a1 n1 c1, .slice b1 m1 d1]) (by simp [results, Tryz.results88, go_sem, p0, p1, p2]) rfl R.out
set_option maxRecDepth 100000 in
set_option maxHeartbeats 12800000 in
theorem l05Simple_succ {k : Nat} (ih : ∀ {s : Bool} {a : Option Addr} {n c : Nat} {b : Option Addr} {m d : Nat} {t : Bool} {a' : Option Addr} {n' c' : Nat} {b' : Option Addr} {m' d' : Nat} {x y : Rat} (h0 : 0 < x) (hle : x ≤ y) (hd : deep k x.num.toNat x.den y.num.toNat y.den) (hk : k ≤ 4000) (w : World) (h : RA w s (.slice a n c) (.slice b m d) (some x)) (h' : RA w t (.slice a' n' c') (.slice b' m' d') (some y)), Calls Tryz.prog 88 #[.agg #[.bool s, .slice a n c, .slice b m d], .agg #[.bool t, .slice a' n' c', .slice b' m' d'], .int .i64 (k : Int)] w (RatO false (some (sqF x y)) w)) : ∀ {s : Bool} {a : Option Addr} {n c : Nat} {b : Option Addr} {m d : Nat} {t : Bool} {a' : Option Addr} {n' c' : Nat} {b' : Option Addr} {m' d' : Nat} {x y : Rat} (h0 : 0 < x) (hle : x ≤ y) (hd : deep (k + 1) x.num.toNat x.den y.num.toNat y.den) (hk : k + 1 ≤ 4000) (w : World) (h : RA w s (.slice a n c) (.slice b m d) (some x)) (h' : RA w t (.slice a' n' c') (.slice b' m' d') (some y)), Calls Tryz.prog 88 #[.agg #[.bool s, .slice a n c, .slice b m d], .agg #[.bool t, .slice a' n' c', .slice b' m' d'], .int .i64 ((k + 1 : Nat) : Int)] w (RatO false (some (sqF x y)) w) := by
  intro s a n c b m d t a' n' c' b' m' d' x y h0 hle hd hk w h h'
  have hx := h.fitO x rfl
  have hy := h'.fitO y rfl
  have ek : (((k + 1 : Nat) : Int)) = (k : Int) + 1 := by omega
  rw [ek]
  clear ek
  obtain ⟨Q, hQ⟩ : ∃ Q, Q = RatO false (some (sqF x y)) w := ⟨_, rfl⟩
  rw [← hQ]
  have HQ := hid hQ
  clear hQ
  have B := hid (show Below w.heap.size w (((w.alloc (.cells #[.bool s, .slice a n c, .slice b m d] 27)).alloc (.cells #[.bool t, .slice a' n' c', .slice b' m' d'] 27)).alloc (.cells #[.bool false, .slice none 0 0, .slice none 0 0] 27)) from (((Below.refl _ _).alloc (Nat.le_refl _) _).alloc (by simp) _).alloc (by simp; try omega) _)
  have LX := hid (show LocA 27 (((w.alloc (.cells #[.bool s, .slice a n c, .slice b m d] 27)).alloc (.cells #[.bool t, .slice a' n' c', .slice b' m' d'] 27)).alloc (.cells #[.bool false, .slice none 0 0, .slice none 0 0] 27)) (w.heap.size) #[.bool s, .slice a n c, .slice b m d] from (LocA.at (by simp)).new1.new1)
  have LY := hid (show LocA 27 (((w.alloc (.cells #[.bool s, .slice a n c, .slice b m d] 27)).alloc (.cells #[.bool t, .slice a' n' c', .slice b' m' d'] 27)).alloc (.cells #[.bool false, .slice none 0 0, .slice none 0 0] 27)) (w.heap.size + 1) #[.bool t, .slice a' n' c', .slice b' m' d'] from (LocA.at (by simp)).new1)
  have LR := hid (show LocA 27 (((w.alloc (.cells #[.bool s, .slice a n c, .slice b m d] 27)).alloc (.cells #[.bool t, .slice a' n' c', .slice b' m' d'] 27)).alloc (.cells #[.bool false, .slice none 0 0, .slice none 0 0] 27)) (w.heap.size + 1 + 1) #[.bool false, .slice none 0 0, .slice none 0 0] from LocA.at (by simp))
  have X := hid (h.old B.out)
  have Y := hid (h'.old B.out)
  clear h h'
  generalize hW : ((w.alloc (.cells #[.bool s, .slice a n c, .slice b m d] 27)).alloc (.cells #[.bool t, .slice a' n' c', .slice b' m' d'] 27)).alloc (.cells #[.bool false, .slice none 0 0, .slice none 0 0] 27) = W0 at B X LX Y LY LR
  have HW := hid hW
  clear hW
  have hs0 := B.out.size
  have hw0 := LR.out.lt
  by_cases hc : ceF x ≤ y
  · clear ih
    have hcl := (cmpF_le hc)
    have HB := hid (sq_base h0 hle hc)
    obtain ⟨z, hz⟩ : ∃ z, z = cmpF (ceF x) y := ⟨_, rfl⟩
    rw [← hz] at hcl
    have HZ := hid hz.symm
    clear hz hc h0 hle
    go_enter Tryz.func88, Tryz.ntmps88
    have q0 := LX.out.c 0 (v := .bool s) rfl
    have q1 := LX.out.c 1 (v := .slice a n c) rfl
    have q2 := LX.out.c 2 (v := .slice b m d) rfl
    go_wp2_with fail
    rw [HW.out]
    (with_reducible refine (sceil_x X.out).mono ?_)
    clear q0 q1 q2
    rintro e w1 ⟨s1, a1, n1, c1, b1, m1, d1, rfl, hr, hb⟩
    have U := hid (hr.base B.out.size)
    have LX := hid (LX.out.old hb)
    have LY := hid (LY.out.old hb)
    have LR := hid (LR.out.old hb)
    have X := hid (X.out.old hb)
    have Y := hid (Y.out.old hb)
    have B := hid (B.out.trans (hb.mono B.out.size))
    clear hr hb
    have hnU := LR.out.lt
    have LX := hid (LX.out.old (below_new' (o := .cells #[.bool s1, .slice a1 n1 c1, .slice b1 m1 d1] 27)))
    have LY := hid (LY.out.old (below_new' (o := .cells #[.bool s1, .slice a1 n1 c1, .slice b1 m1 d1] 27)))
    have LR := hid (LR.out.old (below_new' (o := .cells #[.bool s1, .slice a1 n1 c1, .slice b1 m1 d1] 27)))
    have X := hid (X.out.old (below_new' (o := .cells #[.bool s1, .slice a1 n1 c1, .slice b1 m1 d1] 27)))
    have Y := hid (Y.out.old (below_new' (o := .cells #[.bool s1, .slice a1 n1 c1, .slice b1 m1 d1] 27)))
    have U := hid (U.out.old (below_new' (o := .cells #[.bool s1, .slice a1 n1 c1, .slice b1 m1 d1] 27)))
    have B := hid (B.out.alloc B.out.size (.cells #[.bool s1, .slice a1 n1 c1, .slice b1 m1 d1] 27))
    have LU := hid (LocA.new (w := w1) (T := 27) (cs := #[.bool s1, .slice a1 n1 c1, .slice b1 m1 d1]))
    have q0 := LU.out.c 0 (v := .bool s1) rfl
    have q1 := LU.out.c 1 (v := .slice a1 n1 c1) rfl
    have q2 := LU.out.c 2 (v := .slice b1 m1 d1) rfl
    have q3 := LY.out.c 0 (v := .bool t) rfl
    have q4 := LY.out.c 1 (v := .slice a' n' c') rfl
    have q5 := LY.out.c 2 (v := .slice b' m' d') rfl
    go_wp2_with fail
    (with_reducible refine (scmp_x U.out.ra Y.out HZ.out).mono ?_)
    clear q0 q1 q2 q3 q4 q5
    rintro e w2 ⟨rfl, hb⟩
    have LX := hid (LX.out.old hb)
    have LY := hid (LY.out.old hb)
    have LR := hid (LR.out.old hb)
    have X := hid (X.out.old hb)
    have Y := hid (Y.out.old hb)
    have U := hid (U.out.old hb)
    have LU := hid (LU.out.old hb)
    have B := hid (B.out.trans (hb.mono B.out.size))
    clear hb
    have q0 := LU.out.c 0 (v := .bool s1) rfl
    have q1 := LU.out.c 1 (v := .slice a1 n1 c1) rfl
    have q2 := LU.out.c 2 (v := .slice b1 m1 d1) rfl
    have f0 := LR.out.f 0
    have f1 := LR.out.f 1
    have f2 := LR.out.f 2
    have p0 := LR.out.c 0 rfl
    have p1 := LR.out.c 1 rfl
    have p2 := LR.out.c 2 rfl
    have R := hid (q_of HQ.out (RO.out (w := w) (N := w.heap.size + 1 + 1) (hid (U.out.eqo (by rw [HB.out]))).out (Nat.le_refl _) (by omega) LR.out (by decide) B.out))
    go_wp2
    exact bodyPost_ret (v := .agg #[.bool s1, .slice a1 n1 c1, .slice b1 m1 d1]) (by simp [results, Tryz.results88, go_sem, p0, p1, p2]) rfl R.out
  obtain ⟨f1, f2, f3, f4, f5, f6, f7, f8, f9, f10, f11, f12⟩ := sq_go h0 hle hc hx hy
  have hcl := cmpF_nle hc
  have hsf := hid (show fit (sqF x y) from sqF_fit (ends_of h0 hle) hx)
  have F1 := hid f1
  have F2 := hid f2
  have F3 := hid f3
  have F4 := hid f4
  have F5 := hid f5
  have F6 := hid f6
  have F10 := hid f10
  have F11 := hid f11
  have F12 := hid f12
  obtain ⟨z, hz⟩ : ∃ z, z = cmpF (ceF x) y := ⟨_, rfl⟩
  rw [← hz] at hcl
  have HZ := hid hz.symm
  obtain ⟨U1, hU1⟩ : ∃ z, z = 1 / (y - flF x) := ⟨_, rfl⟩
  obtain ⟨U2, hU2⟩ : ∃ z, z = 1 / (x - flF x) := ⟨_, rfl⟩
  have E1 := hid (show ((1 : Int) : Rat) / (y - flF x) = U1 from hU1.symm)
  have E2 := hid (show ((1 : Int) : Rat) / (x - flF x) = U2 from hU2.symm)
  rw [← hU1] at F5 F10 F11 F12 f7 f8 f9
  rw [← hU2] at F6 F10 F11 F12 f8 f9
  obtain ⟨U3, hU3⟩ : ∃ z, z = 1 / sqF U1 U2 := ⟨_, rfl⟩
  have E3 := hid (show ((1 : Int) : Rat) / sqF U1 U2 = U3 from hU3.symm)
  rw [← hU3] at F11 F12
  have hwk : IntKind.i64.wrap (k : Int) = (k : Int) := IntWalk.i64_in _ (by omega)
  have hkz : ((k : Int) + 1 == 0) = false := beq_eq_false_iff_ne.2 (by omega)
  have KI := hid (fun (W : World) (s t : Bool) (a : Option Addr) (n c : Nat) (b : Option Addr) (m d : Nat) (a' : Option Addr) (n' c' : Nat) (b' : Option Addr) (m' d' : Nat) (h : RA W s (.slice a n c) (.slice b m d) (some U1)) (h' : RA W t (.slice a' n' c') (.slice b' m' d') (some U2)) => ih f7 f8 (f9 k hd) (by omega) W h h')
  clear ih f1 f2 f3 f4 f5 f6 f7 f8 f9 f10 f11 f12 hz hU1 hU2 hU3 hc h0 hle hd hx hy
  go_enter Tryz.func88, Tryz.ntmps88
  have q0 := LX.out.c 0 (v := .bool s) rfl
  have q1 := LX.out.c 1 (v := .slice a n c) rfl
  have q2 := LX.out.c 2 (v := .slice b m d) rfl
  go_wp2_with fail
  rw [HW.out]
  (with_reducible refine (sceil_x X.out).mono ?_)
  clear q0 q1 q2
  rintro e w1 ⟨s1, a1, n1, c1, b1, m1, d1, rfl, hr, hb⟩
  have U := hid (hr.base B.out.size)
  have LX := hid (LX.out.old hb)
  have LY := hid (LY.out.old hb)
  have LR := hid (LR.out.old hb)
  have X := hid (X.out.old hb)
  have Y := hid (Y.out.old hb)
  have B := hid (B.out.trans (hb.mono B.out.size))
  clear hr hb
  have hnU := LR.out.lt
  have LX := hid (LX.out.old (below_new' (o := .cells #[.bool s1, .slice a1 n1 c1, .slice b1 m1 d1] 27)))
  have LY := hid (LY.out.old (below_new' (o := .cells #[.bool s1, .slice a1 n1 c1, .slice b1 m1 d1] 27)))
  have LR := hid (LR.out.old (below_new' (o := .cells #[.bool s1, .slice a1 n1 c1, .slice b1 m1 d1] 27)))
  have X := hid (X.out.old (below_new' (o := .cells #[.bool s1, .slice a1 n1 c1, .slice b1 m1 d1] 27)))
  have Y := hid (Y.out.old (below_new' (o := .cells #[.bool s1, .slice a1 n1 c1, .slice b1 m1 d1] 27)))
  have U := hid (U.out.old (below_new' (o := .cells #[.bool s1, .slice a1 n1 c1, .slice b1 m1 d1] 27)))
  have B := hid (B.out.alloc B.out.size (.cells #[.bool s1, .slice a1 n1 c1, .slice b1 m1 d1] 27))
  have LU := hid (LocA.new (w := w1) (T := 27) (cs := #[.bool s1, .slice a1 n1 c1, .slice b1 m1 d1]))
  have q0 := LU.out.c 0 (v := .bool s1) rfl
  have q1 := LU.out.c 1 (v := .slice a1 n1 c1) rfl
  have q2 := LU.out.c 2 (v := .slice b1 m1 d1) rfl
  have q3 := LY.out.c 0 (v := .bool t) rfl
  have q4 := LY.out.c 1 (v := .slice a' n' c') rfl
  have q5 := LY.out.c 2 (v := .slice b' m' d') rfl
  go_wp2_with fail
  (with_reducible refine (scmp_x U.out.ra Y.out HZ.out).mono ?_)
  clear q0 q1 q2 q3 q4 q5
  rintro e w2 ⟨rfl, hb⟩
  have LX := hid (LX.out.old hb)
  have LY := hid (LY.out.old hb)
  have LR := hid (LR.out.old hb)
  have X := hid (X.out.old hb)
  have Y := hid (Y.out.old hb)
  have U := hid (U.out.old hb)
  have LU := hid (LU.out.old hb)
  have B := hid (B.out.trans (hb.mono B.out.size))
  clear hb
  have q0 := LX.out.c 0 (v := .bool s) rfl
  have q1 := LX.out.c 1 (v := .slice a n c) rfl
  have q2 := LX.out.c 2 (v := .slice b m d) rfl
  go_wp2_with fail
  (with_reducible refine (sfloor_x X.out).mono ?_)
  clear q0 q1 q2
  rintro e w3 ⟨s3, a3, n3, c3, b3, m3, d3, rfl, hr, hb⟩
  have F := hid (hr.base B.out.size)
  have LX := hid (LX.out.old hb)
  have LY := hid (LY.out.old hb)
  have LR := hid (LR.out.old hb)
  have X := hid (X.out.old hb)
  have Y := hid (Y.out.old hb)
  have U := hid (U.out.old hb)
  have LU := hid (LU.out.old hb)
  have B := hid (B.out.trans (hb.mono B.out.size))
  clear hr hb
  have hnF := LR.out.lt
  have LX := hid (LX.out.old (below_new' (o := .cells #[.bool s3, .slice a3 n3 c3, .slice b3 m3 d3] 27)))
  have LY := hid (LY.out.old (below_new' (o := .cells #[.bool s3, .slice a3 n3 c3, .slice b3 m3 d3] 27)))
  have LR := hid (LR.out.old (below_new' (o := .cells #[.bool s3, .slice a3 n3 c3, .slice b3 m3 d3] 27)))
  have X := hid (X.out.old (below_new' (o := .cells #[.bool s3, .slice a3 n3 c3, .slice b3 m3 d3] 27)))
  have Y := hid (Y.out.old (below_new' (o := .cells #[.bool s3, .slice a3 n3 c3, .slice b3 m3 d3] 27)))
  have U := hid (U.out.old (below_new' (o := .cells #[.bool s3, .slice a3 n3 c3, .slice b3 m3 d3] 27)))
  have LU := hid (LU.out.old (below_new' (o := .cells #[.bool s3, .slice a3 n3 c3, .slice b3 m3 d3] 27)))
  have F := hid (F.out.old (below_new' (o := .cells #[.bool s3, .slice a3 n3 c3, .slice b3 m3 d3] 27)))
  have B := hid (B.out.alloc B.out.size (.cells #[.bool s3, .slice a3 n3 c3, .slice b3 m3 d3] 27))
  have LF := hid (LocA.new (w := w3) (T := 27) (cs := #[.bool s3, .slice a3 n3 c3, .slice b3 m3 d3]))
  obtain ⟨WF, hWF⟩ : ∃ W, W = w3.alloc (.cells #[.bool s3, .slice a3 n3 c3, .slice b3 m3 d3] 27) := ⟨_, rfl⟩
  have HWF := hid hWF
  rw [← hWF] at LX LY LR X Y U LU F LF B
  clear hWF
  have hnS := LR.out.lt
  go_upto_region 5 with fail
  rw [← HWF.out]
  go_cut [9] (fun sl wx => LaidO false WF (some (sqF U1 U2)) sl wx)
  case first =>
    have LXD := hid (LX.out.old (Below_drew1 (Below.refl _ _)))
    have LXE := hid (LX.out.old (Below_drew1 (below_new' (o := .cells #[.bool false, .slice none 0 0, .slice none 0 0] 27))))
    have LYD := hid (LY.out.old (Below_drew1 (Below.refl _ _)))
    have LYE := hid (LY.out.old (Below_drew1 (below_new' (o := .cells #[.bool false, .slice none 0 0, .slice none 0 0] 27))))
    have LRD := hid (LR.out.old (Below_drew1 (Below.refl _ _)))
    have LRE := hid (LR.out.old (Below_drew1 (below_new' (o := .cells #[.bool false, .slice none 0 0, .slice none 0 0] 27))))
    have XD := hid (X.out.old (Below_drew1 (Below.refl _ _)))
    have XE := hid (X.out.old (Below_drew1 (below_new' (o := .cells #[.bool false, .slice none 0 0, .slice none 0 0] 27))))
    have YD := hid (Y.out.old (Below_drew1 (Below.refl _ _)))
    have YE := hid (Y.out.old (Below_drew1 (below_new' (o := .cells #[.bool false, .slice none 0 0, .slice none 0 0] 27))))
    have UD := hid (U.out.old (Below_drew1 (Below.refl _ _)))
    have UE := hid (U.out.old (Below_drew1 (below_new' (o := .cells #[.bool false, .slice none 0 0, .slice none 0 0] 27))))
    have LUD := hid (LU.out.old (Below_drew1 (Below.refl _ _)))
    have LUE := hid (LU.out.old (Below_drew1 (below_new' (o := .cells #[.bool false, .slice none 0 0, .slice none 0 0] 27))))
    have FD := hid (F.out.old (Below_drew1 (Below.refl _ _)))
    have FE := hid (F.out.old (Below_drew1 (below_new' (o := .cells #[.bool false, .slice none 0 0, .slice none 0 0] 27))))
    have LFD := hid (LF.out.old (Below_drew1 (Below.refl _ _)))
    have LFE := hid (LF.out.old (Below_drew1 (below_new' (o := .cells #[.bool false, .slice none 0 0, .slice none 0 0] 27))))
    have CD := hid (show Below WF.heap.size WF WF.drew from Below_drew1 (Below.refl _ _))
    have CE := hid (show Below WF.heap.size WF (WF.alloc (.cells #[.bool false, .slice none 0 0, .slice none 0 0] 27)).drew from Below_drew1 below_new')
    have NE := hid (show LocA 27 (WF.alloc (.cells #[.bool false, .slice none 0 0, .slice none 0 0] 27)).drew WF.heap.size #[.bool false, .slice none 0 0, .slice none 0 0] from LocA.new)
    have hlY := LY.out.lt
    have hlF := LF.out.lt
    have hlX := LX.out.lt
    have q0 := LYD.out.c 0 (v := .bool t) rfl
    have q1 := LYD.out.c 1 (v := .slice a' n' c') rfl
    have q2 := LYD.out.c 2 (v := .slice b' m' d') rfl
    have q3 := LFD.out.c 0 (v := .bool s3) rfl
    have q4 := LFD.out.c 1 (v := .slice a3 n3 c3) rfl
    have q5 := LFD.out.c 2 (v := .slice b3 m3 d3) rfl
    have q6 := LXD.out.c 0 (v := .bool s) rfl
    have q7 := LXD.out.c 1 (v := .slice a n c) rfl
    have q8 := LXD.out.c 2 (v := .slice b m d) rfl
    have qE0 := LYE.out.c 0 (v := .bool t) rfl
    have qE1 := LYE.out.c 1 (v := .slice a' n' c') rfl
    have qE2 := LYE.out.c 2 (v := .slice b' m' d') rfl
    have qE3 := LFE.out.c 0 (v := .bool s3) rfl
    have qE4 := LFE.out.c 1 (v := .slice a3 n3 c3) rfl
    have qE5 := LFE.out.c 2 (v := .slice b3 m3 d3) rfl
    have qE6 := LXE.out.c 0 (v := .bool s) rfl
    have qE7 := LXE.out.c 1 (v := .slice a n c) rfl
    have qE8 := LXE.out.c 2 (v := .slice b m d) rfl
    go_region_held3 (fun w' => w'.cell? ⟨w.heap.size + 1, 0, none⟩ = some (.bool t) ∧ w'.cell? ⟨w.heap.size + 1, 1, none⟩ = some (.slice a' n' c') ∧ w'.cell? ⟨w.heap.size + 1, 2, none⟩ = some (.slice b' m' d') ∧ w'.cell? ⟨w3.heap.size, 0, none⟩ = some (.bool s3) ∧ w'.cell? ⟨w3.heap.size, 1, none⟩ = some (.slice a3 n3 c3) ∧ w'.cell? ⟨w3.heap.size, 2, none⟩ = some (.slice b3 m3 d3) ∧ w'.cell? ⟨w.heap.size, 0, none⟩ = some (.bool s) ∧ w'.cell? ⟨w.heap.size, 1, none⟩ = some (.slice a n c) ∧ w'.cell? ⟨w.heap.size, 2, none⟩ = some (.slice b m d)) (first | with_reducible exact ⟨q0, q1, q2, q3, q4, q5, q6, q7, q8⟩ | with_reducible exact ⟨qE0, qE1, qE2, qE3, qE4, qE5, qE6, qE7, qE8⟩ | ((with_reducible refine ⟨(LYC.out.new1).c 0 ?_, (LYC.out.new1).c 1 ?_, (LYC.out.new1).c 2 ?_, (LFC.out.new1).c 0 ?_, (LFC.out.new1).c 1 ?_, (LFC.out.new1).c 2 ?_, (LXC.out.new1).c 0 ?_, (LXC.out.new1).c 1 ?_, (LXC.out.new1).c 2 ?_⟩) <;> rfl) | ((with_reducible refine ⟨(cell_set3 ?_).trans q0, (cell_set3 ?_).trans q1, (cell_set3 ?_).trans q2, (cell_set3 ?_).trans q3, (cell_set3 ?_).trans q4, (cell_set3 ?_).trans q5, (cell_set3 ?_).trans q6, (cell_set3 ?_).trans q7, (cell_set3 ?_).trans q8⟩) <;> (have := NZ.out.2; omega)) | go_keep) (first | (go_at_call 87; (with_reducible refine (sint_o 1 (by decide) (by decide) _).mono ?_); rintro e wq ⟨gs, aa, nn, cc, bb, mm, dd, rfl, hr, hb⟩; have hr := hr.base (show WF.heap.size ≤ _ from by first | with_reducible exact CC.out.size | with_reducible exact Nat.le_trans CC.out.size (by simp) | with_reducible exact CD.out.size | with_reducible exact CE.out.size); (try (first | (have NZ := hid (And.intro (NZ.out.1.old hb) NZ.out.2)) | (have NZ := hid (And.intro (NE.out.old hb) (show WF.heap.size ≤ WF.heap.size from Nat.le_refl _))) | (have NZ := hid (And.intro ((LocA.new (T := 27) (cs := #[.bool false, .slice none 0 0, .slice none 0 0])).old hb) CC.out.size)))); (first | (have CC := hid (CC.out.trans (hb.mono CC.out.size))) | (have CC := hid ((CC.out.alloc CC.out.size (.cells #[.bool false, .slice none 0 0, .slice none 0 0] 27)).trans (hb.mono (Nat.le_trans CC.out.size (by simp))))) | (have CC := hid (CD.out.trans (hb.mono CD.out.size))) | (have CC := hid (CE.out.trans (hb.mono CE.out.size)))); (first | (with_reducible have LXC := hid (LXC.out.old hb)) | (with_reducible have LXC := hid ((LXC.out.old (below_new' (o := .cells #[.bool false, .slice none 0 0, .slice none 0 0] 27))).old hb)) | (with_reducible have LXC := hid (LXD.out.old hb)) | (with_reducible have LXC := hid (LXE.out.old hb))); (first | (with_reducible have LYC := hid (LYC.out.old hb)) | (with_reducible have LYC := hid ((LYC.out.old (below_new' (o := .cells #[.bool false, .slice none 0 0, .slice none 0 0] 27))).old hb)) | (with_reducible have LYC := hid (LYD.out.old hb)) | (with_reducible have LYC := hid (LYE.out.old hb))); (first | (with_reducible have LRC := hid (LRC.out.old hb)) | (with_reducible have LRC := hid ((LRC.out.old (below_new' (o := .cells #[.bool false, .slice none 0 0, .slice none 0 0] 27))).old hb)) | (with_reducible have LRC := hid (LRD.out.old hb)) | (with_reducible have LRC := hid (LRE.out.old hb))); (first | (with_reducible have XC := hid (XC.out.old hb)) | (with_reducible have XC := hid ((XC.out.old (below_new' (o := .cells #[.bool false, .slice none 0 0, .slice none 0 0] 27))).old hb)) | (with_reducible have XC := hid (XD.out.old hb)) | (with_reducible have XC := hid (XE.out.old hb))); (first | (with_reducible have YC := hid (YC.out.old hb)) | (with_reducible have YC := hid ((YC.out.old (below_new' (o := .cells #[.bool false, .slice none 0 0, .slice none 0 0] 27))).old hb)) | (with_reducible have YC := hid (YD.out.old hb)) | (with_reducible have YC := hid (YE.out.old hb))); (first | (with_reducible have UC := hid (UC.out.old hb)) | (with_reducible have UC := hid ((UC.out.old (below_new' (o := .cells #[.bool false, .slice none 0 0, .slice none 0 0] 27))).old hb)) | (with_reducible have UC := hid (UD.out.old hb)) | (with_reducible have UC := hid (UE.out.old hb))); (first | (with_reducible have LUC := hid (LUC.out.old hb)) | (with_reducible have LUC := hid ((LUC.out.old (below_new' (o := .cells #[.bool false, .slice none 0 0, .slice none 0 0] 27))).old hb)) | (with_reducible have LUC := hid (LUD.out.old hb)) | (with_reducible have LUC := hid (LUE.out.old hb))); (first | (with_reducible have FC := hid (FC.out.old hb)) | (with_reducible have FC := hid ((FC.out.old (below_new' (o := .cells #[.bool false, .slice none 0 0, .slice none 0 0] 27))).old hb)) | (with_reducible have FC := hid (FD.out.old hb)) | (with_reducible have FC := hid (FE.out.old hb))); (first | (with_reducible have LFC := hid (LFC.out.old hb)) | (with_reducible have LFC := hid ((LFC.out.old (below_new' (o := .cells #[.bool false, .slice none 0 0, .slice none 0 0] 27))).old hb)) | (with_reducible have LFC := hid (LFD.out.old hb)) | (with_reducible have LFC := hid (LFE.out.old hb))); (try (first | (with_reducible have MC := hid (MC.out.old hb)) | (with_reducible have MC := hid ((MC.out.old (below_new' (o := .cells #[.bool false, .slice none 0 0, .slice none 0 0] 27))).old hb)))); (try (first | (with_reducible have NC := hid (NC.out.old hb)) | (with_reducible have NC := hid ((NC.out.old (below_new' (o := .cells #[.bool false, .slice none 0 0, .slice none 0 0] 27))).old hb)))); (try (first | (with_reducible have PC := hid (PC.out.old hb)) | (with_reducible have PC := hid ((PC.out.old (below_new' (o := .cells #[.bool false, .slice none 0 0, .slice none 0 0] 27))).old hb)))); (try (first | (with_reducible have SC := hid (SC.out.old hb)) | (with_reducible have SC := hid ((SC.out.old (below_new' (o := .cells #[.bool false, .slice none 0 0, .slice none 0 0] 27))).old hb)))); (try (first | (with_reducible have VC := hid (VC.out.old hb)) | (with_reducible have VC := hid ((VC.out.old (below_new' (o := .cells #[.bool false, .slice none 0 0, .slice none 0 0] 27))).old hb)))); have IC := hid hr; have q0 := LYC.out.c 0 (v := .bool t) rfl; have q1 := LYC.out.c 1 (v := .slice a' n' c') rfl; have q2 := LYC.out.c 2 (v := .slice b' m' d') rfl; have q3 := LFC.out.c 0 (v := .bool s3) rfl; have q4 := LFC.out.c 1 (v := .slice a3 n3 c3) rfl; have q5 := LFC.out.c 2 (v := .slice b3 m3 d3) rfl; have q6 := LXC.out.c 0 (v := .bool s) rfl; have q7 := LXC.out.c 1 (v := .slice a n c) rfl; have q8 := LXC.out.c 2 (v := .slice b m d) rfl; clear hr hb) | (go_at_call 71; (with_reducible refine (ssub_x (by first | with_reducible exact YC.out | with_reducible exact (YC.out.old (below_new' (o := .cells #[.bool false, .slice none 0 0, .slice none 0 0] 27))) | with_reducible exact YD.out | with_reducible exact YE.out) (by first | with_reducible exact FC.out.ra | with_reducible exact (FC.out.old (below_new' (o := .cells #[.bool false, .slice none 0 0, .slice none 0 0] 27))).ra | with_reducible exact FD.out.ra | with_reducible exact FE.out.ra) rfl F1.out).mono ?_); rintro e wq ⟨gs, aa, nn, cc, bb, mm, dd, rfl, hr, hb⟩; have hr := hr.base (show WF.heap.size ≤ _ from by first | with_reducible exact CC.out.size | with_reducible exact Nat.le_trans CC.out.size (by simp) | with_reducible exact CD.out.size | with_reducible exact CE.out.size); (try (first | (have NZ := hid (And.intro (NZ.out.1.old hb) NZ.out.2)) | (have NZ := hid (And.intro (NE.out.old hb) (show WF.heap.size ≤ WF.heap.size from Nat.le_refl _))) | (have NZ := hid (And.intro ((LocA.new (T := 27) (cs := #[.bool false, .slice none 0 0, .slice none 0 0])).old hb) CC.out.size)))); (first | (have CC := hid (CC.out.trans (hb.mono CC.out.size))) | (have CC := hid ((CC.out.alloc CC.out.size (.cells #[.bool false, .slice none 0 0, .slice none 0 0] 27)).trans (hb.mono (Nat.le_trans CC.out.size (by simp))))) | (have CC := hid (CD.out.trans (hb.mono CD.out.size))) | (have CC := hid (CE.out.trans (hb.mono CE.out.size)))); (first | (with_reducible have LXC := hid (LXC.out.old hb)) | (with_reducible have LXC := hid ((LXC.out.old (below_new' (o := .cells #[.bool false, .slice none 0 0, .slice none 0 0] 27))).old hb)) | (with_reducible have LXC := hid (LXD.out.old hb)) | (with_reducible have LXC := hid (LXE.out.old hb))); (first | (with_reducible have LYC := hid (LYC.out.old hb)) | (with_reducible have LYC := hid ((LYC.out.old (below_new' (o := .cells #[.bool false, .slice none 0 0, .slice none 0 0] 27))).old hb)) | (with_reducible have LYC := hid (LYD.out.old hb)) | (with_reducible have LYC := hid (LYE.out.old hb))); (first | (with_reducible have LRC := hid (LRC.out.old hb)) | (with_reducible have LRC := hid ((LRC.out.old (below_new' (o := .cells #[.bool false, .slice none 0 0, .slice none 0 0] 27))).old hb)) | (with_reducible have LRC := hid (LRD.out.old hb)) | (with_reducible have LRC := hid (LRE.out.old hb))); (first | (with_reducible have XC := hid (XC.out.old hb)) | (with_reducible have XC := hid ((XC.out.old (below_new' (o := .cells #[.bool false, .slice none 0 0, .slice none 0 0] 27))).old hb)) | (with_reducible have XC := hid (XD.out.old hb)) | (with_reducible have XC := hid (XE.out.old hb))); (first | (with_reducible have YC := hid (YC.out.old hb)) | (with_reducible have YC := hid ((YC.out.old (below_new' (o := .cells #[.bool false, .slice none 0 0, .slice none 0 0] 27))).old hb)) | (with_reducible have YC := hid (YD.out.old hb)) | (with_reducible have YC := hid (YE.out.old hb))); (first | (with_reducible have UC := hid (UC.out.old hb)) | (with_reducible have UC := hid ((UC.out.old (below_new' (o := .cells #[.bool false, .slice none 0 0, .slice none 0 0] 27))).old hb)) | (with_reducible have UC := hid (UD.out.old hb)) | (with_reducible have UC := hid (UE.out.old hb))); (first | (with_reducible have LUC := hid (LUC.out.old hb)) | (with_reducible have LUC := hid ((LUC.out.old (below_new' (o := .cells #[.bool false, .slice none 0 0, .slice none 0 0] 27))).old hb)) | (with_reducible have LUC := hid (LUD.out.old hb)) | (with_reducible have LUC := hid (LUE.out.old hb))); (first | (with_reducible have FC := hid (FC.out.old hb)) | (with_reducible have FC := hid ((FC.out.old (below_new' (o := .cells #[.bool false, .slice none 0 0, .slice none 0 0] 27))).old hb)) | (with_reducible have FC := hid (FD.out.old hb)) | (with_reducible have FC := hid (FE.out.old hb))); (first | (with_reducible have LFC := hid (LFC.out.old hb)) | (with_reducible have LFC := hid ((LFC.out.old (below_new' (o := .cells #[.bool false, .slice none 0 0, .slice none 0 0] 27))).old hb)) | (with_reducible have LFC := hid (LFD.out.old hb)) | (with_reducible have LFC := hid (LFE.out.old hb))); (try (first | (with_reducible have IC := hid (IC.out.old hb)) | (with_reducible have IC := hid ((IC.out.old (below_new' (o := .cells #[.bool false, .slice none 0 0, .slice none 0 0] 27))).old hb)))); (try (first | (with_reducible have NC := hid (NC.out.old hb)) | (with_reducible have NC := hid ((NC.out.old (below_new' (o := .cells #[.bool false, .slice none 0 0, .slice none 0 0] 27))).old hb)))); (try (first | (with_reducible have PC := hid (PC.out.old hb)) | (with_reducible have PC := hid ((PC.out.old (below_new' (o := .cells #[.bool false, .slice none 0 0, .slice none 0 0] 27))).old hb)))); (try (first | (with_reducible have SC := hid (SC.out.old hb)) | (with_reducible have SC := hid ((SC.out.old (below_new' (o := .cells #[.bool false, .slice none 0 0, .slice none 0 0] 27))).old hb)))); (try (first | (with_reducible have VC := hid (VC.out.old hb)) | (with_reducible have VC := hid ((VC.out.old (below_new' (o := .cells #[.bool false, .slice none 0 0, .slice none 0 0] 27))).old hb)))); have MC := hid hr; have q0 := LYC.out.c 0 (v := .bool t) rfl; have q1 := LYC.out.c 1 (v := .slice a' n' c') rfl; have q2 := LYC.out.c 2 (v := .slice b' m' d') rfl; have q3 := LFC.out.c 0 (v := .bool s3) rfl; have q4 := LFC.out.c 1 (v := .slice a3 n3 c3) rfl; have q5 := LFC.out.c 2 (v := .slice b3 m3 d3) rfl; have q6 := LXC.out.c 0 (v := .bool s) rfl; have q7 := LXC.out.c 1 (v := .slice a n c) rfl; have q8 := LXC.out.c 2 (v := .slice b m d) rfl; clear hr hb) | (go_at_call 128; (with_reducible refine (sdiv_x (by first | with_reducible exact IC.out.ra | with_reducible exact (IC.out.old (below_new' (o := .cells #[.bool false, .slice none 0 0, .slice none 0 0] 27))).ra) (by first | with_reducible exact MC.out.ra | with_reducible exact (MC.out.old (below_new' (o := .cells #[.bool false, .slice none 0 0, .slice none 0 0] 27))).ra) F2.out E1.out F5.out).mono ?_); rintro e wq ⟨gs, aa, nn, cc, bb, mm, dd, rfl, hr, hb⟩; have hr := hr.base (show WF.heap.size ≤ _ from by first | with_reducible exact CC.out.size | with_reducible exact Nat.le_trans CC.out.size (by simp) | with_reducible exact CD.out.size | with_reducible exact CE.out.size); (try (first | (have NZ := hid (And.intro (NZ.out.1.old hb) NZ.out.2)) | (have NZ := hid (And.intro (NE.out.old hb) (show WF.heap.size ≤ WF.heap.size from Nat.le_refl _))) | (have NZ := hid (And.intro ((LocA.new (T := 27) (cs := #[.bool false, .slice none 0 0, .slice none 0 0])).old hb) CC.out.size)))); (first | (have CC := hid (CC.out.trans (hb.mono CC.out.size))) | (have CC := hid ((CC.out.alloc CC.out.size (.cells #[.bool false, .slice none 0 0, .slice none 0 0] 27)).trans (hb.mono (Nat.le_trans CC.out.size (by simp))))) | (have CC := hid (CD.out.trans (hb.mono CD.out.size))) | (have CC := hid (CE.out.trans (hb.mono CE.out.size)))); (first | (with_reducible have LXC := hid (LXC.out.old hb)) | (with_reducible have LXC := hid ((LXC.out.old (below_new' (o := .cells #[.bool false, .slice none 0 0, .slice none 0 0] 27))).old hb)) | (with_reducible have LXC := hid (LXD.out.old hb)) | (with_reducible have LXC := hid (LXE.out.old hb))); (first | (with_reducible have LYC := hid (LYC.out.old hb)) | (with_reducible have LYC := hid ((LYC.out.old (below_new' (o := .cells #[.bool false, .slice none 0 0, .slice none 0 0] 27))).old hb)) | (with_reducible have LYC := hid (LYD.out.old hb)) | (with_reducible have LYC := hid (LYE.out.old hb))); (first | (with_reducible have LRC := hid (LRC.out.old hb)) | (with_reducible have LRC := hid ((LRC.out.old (below_new' (o := .cells #[.bool false, .slice none 0 0, .slice none 0 0] 27))).old hb)) | (with_reducible have LRC := hid (LRD.out.old hb)) | (with_reducible have LRC := hid (LRE.out.old hb))); (first | (with_reducible have XC := hid (XC.out.old hb)) | (with_reducible have XC := hid ((XC.out.old (below_new' (o := .cells #[.bool false, .slice none 0 0, .slice none 0 0] 27))).old hb)) | (with_reducible have XC := hid (XD.out.old hb)) | (with_reducible have XC := hid (XE.out.old hb))); (first | (with_reducible have YC := hid (YC.out.old hb)) | (with_reducible have YC := hid ((YC.out.old (below_new' (o := .cells #[.bool false, .slice none 0 0, .slice none 0 0] 27))).old hb)) | (with_reducible have YC := hid (YD.out.old hb)) | (with_reducible have YC := hid (YE.out.old hb))); (first | (with_reducible have UC := hid (UC.out.old hb)) | (with_reducible have UC := hid ((UC.out.old (below_new' (o := .cells #[.bool false, .slice none 0 0, .slice none 0 0] 27))).old hb)) | (with_reducible have UC := hid (UD.out.old hb)) | (with_reducible have UC := hid (UE.out.old hb))); (first | (with_reducible have LUC := hid (LUC.out.old hb)) | (with_reducible have LUC := hid ((LUC.out.old (below_new' (o := .cells #[.bool false, .slice none 0 0, .slice none 0 0] 27))).old hb)) | (with_reducible have LUC := hid (LUD.out.old hb)) | (with_reducible have LUC := hid (LUE.out.old hb))); (first | (with_reducible have FC := hid (FC.out.old hb)) | (with_reducible have FC := hid ((FC.out.old (below_new' (o := .cells #[.bool false, .slice none 0 0, .slice none 0 0] 27))).old hb)) | (with_reducible have FC := hid (FD.out.old hb)) | (with_reducible have FC := hid (FE.out.old hb))); (first | (with_reducible have LFC := hid (LFC.out.old hb)) | (with_reducible have LFC := hid ((LFC.out.old (below_new' (o := .cells #[.bool false, .slice none 0 0, .slice none 0 0] 27))).old hb)) | (with_reducible have LFC := hid (LFD.out.old hb)) | (with_reducible have LFC := hid (LFE.out.old hb))); (try (first | (with_reducible have IC := hid (IC.out.old hb)) | (with_reducible have IC := hid ((IC.out.old (below_new' (o := .cells #[.bool false, .slice none 0 0, .slice none 0 0] 27))).old hb)))); (try (first | (with_reducible have MC := hid (MC.out.old hb)) | (with_reducible have MC := hid ((MC.out.old (below_new' (o := .cells #[.bool false, .slice none 0 0, .slice none 0 0] 27))).old hb)))); (try (first | (with_reducible have NC := hid (NC.out.old hb)) | (with_reducible have NC := hid ((NC.out.old (below_new' (o := .cells #[.bool false, .slice none 0 0, .slice none 0 0] 27))).old hb)))); (try (first | (with_reducible have PC := hid (PC.out.old hb)) | (with_reducible have PC := hid ((PC.out.old (below_new' (o := .cells #[.bool false, .slice none 0 0, .slice none 0 0] 27))).old hb)))); (try (first | (with_reducible have SC := hid (SC.out.old hb)) | (with_reducible have SC := hid ((SC.out.old (below_new' (o := .cells #[.bool false, .slice none 0 0, .slice none 0 0] 27))).old hb)))); have VC := hid hr; have q0 := LYC.out.c 0 (v := .bool t) rfl; have q1 := LYC.out.c 1 (v := .slice a' n' c') rfl; have q2 := LYC.out.c 2 (v := .slice b' m' d') rfl; have q3 := LFC.out.c 0 (v := .bool s3) rfl; have q4 := LFC.out.c 1 (v := .slice a3 n3 c3) rfl; have q5 := LFC.out.c 2 (v := .slice b3 m3 d3) rfl; have q6 := LXC.out.c 0 (v := .bool s) rfl; have q7 := LXC.out.c 1 (v := .slice a n c) rfl; have q8 := LXC.out.c 2 (v := .slice b m d) rfl; clear hr hb) | (go_at_call 71; (with_reducible refine (ssub_x (by first | with_reducible exact XC.out | with_reducible exact (XC.out.old (below_new' (o := .cells #[.bool false, .slice none 0 0, .slice none 0 0] 27))) | with_reducible exact XD.out | with_reducible exact XE.out) (by first | with_reducible exact FC.out.ra | with_reducible exact (FC.out.old (below_new' (o := .cells #[.bool false, .slice none 0 0, .slice none 0 0] 27))).ra | with_reducible exact FD.out.ra | with_reducible exact FE.out.ra) rfl F3.out).mono ?_); rintro e wq ⟨gs, aa, nn, cc, bb, mm, dd, rfl, hr, hb⟩; have hr := hr.base (show WF.heap.size ≤ _ from by first | with_reducible exact CC.out.size | with_reducible exact Nat.le_trans CC.out.size (by simp) | with_reducible exact CD.out.size | with_reducible exact CE.out.size); (try (first | (have NZ := hid (And.intro (NZ.out.1.old hb) NZ.out.2)) | (have NZ := hid (And.intro (NE.out.old hb) (show WF.heap.size ≤ WF.heap.size from Nat.le_refl _))) | (have NZ := hid (And.intro ((LocA.new (T := 27) (cs := #[.bool false, .slice none 0 0, .slice none 0 0])).old hb) CC.out.size)))); (first | (have CC := hid (CC.out.trans (hb.mono CC.out.size))) | (have CC := hid ((CC.out.alloc CC.out.size (.cells #[.bool false, .slice none 0 0, .slice none 0 0] 27)).trans (hb.mono (Nat.le_trans CC.out.size (by simp))))) | (have CC := hid (CD.out.trans (hb.mono CD.out.size))) | (have CC := hid (CE.out.trans (hb.mono CE.out.size)))); (first | (with_reducible have LXC := hid (LXC.out.old hb)) | (with_reducible have LXC := hid ((LXC.out.old (below_new' (o := .cells #[.bool false, .slice none 0 0, .slice none 0 0] 27))).old hb)) | (with_reducible have LXC := hid (LXD.out.old hb)) | (with_reducible have LXC := hid (LXE.out.old hb))); (first | (with_reducible have LYC := hid (LYC.out.old hb)) | (with_reducible have LYC := hid ((LYC.out.old (below_new' (o := .cells #[.bool false, .slice none 0 0, .slice none 0 0] 27))).old hb)) | (with_reducible have LYC := hid (LYD.out.old hb)) | (with_reducible have LYC := hid (LYE.out.old hb))); (first | (with_reducible have LRC := hid (LRC.out.old hb)) | (with_reducible have LRC := hid ((LRC.out.old (below_new' (o := .cells #[.bool false, .slice none 0 0, .slice none 0 0] 27))).old hb)) | (with_reducible have LRC := hid (LRD.out.old hb)) | (with_reducible have LRC := hid (LRE.out.old hb))); (first | (with_reducible have XC := hid (XC.out.old hb)) | (with_reducible have XC := hid ((XC.out.old (below_new' (o := .cells #[.bool false, .slice none 0 0, .slice none 0 0] 27))).old hb)) | (with_reducible have XC := hid (XD.out.old hb)) | (with_reducible have XC := hid (XE.out.old hb))); (first | (with_reducible have YC := hid (YC.out.old hb)) | (with_reducible have YC := hid ((YC.out.old (below_new' (o := .cells #[.bool false, .slice none 0 0, .slice none 0 0] 27))).old hb)) | (with_reducible have YC := hid (YD.out.old hb)) | (with_reducible have YC := hid (YE.out.old hb))); (first | (with_reducible have UC := hid (UC.out.old hb)) | (with_reducible have UC := hid ((UC.out.old (below_new' (o := .cells #[.bool false, .slice none 0 0, .slice none 0 0] 27))).old hb)) | (with_reducible have UC := hid (UD.out.old hb)) | (with_reducible have UC := hid (UE.out.old hb))); (first | (with_reducible have LUC := hid (LUC.out.old hb)) | (with_reducible have LUC := hid ((LUC.out.old (below_new' (o := .cells #[.bool false, .slice none 0 0, .slice none 0 0] 27))).old hb)) | (with_reducible have LUC := hid (LUD.out.old hb)) | (with_reducible have LUC := hid (LUE.out.old hb))); (first | (with_reducible have FC := hid (FC.out.old hb)) | (with_reducible have FC := hid ((FC.out.old (below_new' (o := .cells #[.bool false, .slice none 0 0, .slice none 0 0] 27))).old hb)) | (with_reducible have FC := hid (FD.out.old hb)) | (with_reducible have FC := hid (FE.out.old hb))); (first | (with_reducible have LFC := hid (LFC.out.old hb)) | (with_reducible have LFC := hid ((LFC.out.old (below_new' (o := .cells #[.bool false, .slice none 0 0, .slice none 0 0] 27))).old hb)) | (with_reducible have LFC := hid (LFD.out.old hb)) | (with_reducible have LFC := hid (LFE.out.old hb))); (try (first | (with_reducible have IC := hid (IC.out.old hb)) | (with_reducible have IC := hid ((IC.out.old (below_new' (o := .cells #[.bool false, .slice none 0 0, .slice none 0 0] 27))).old hb)))); (try (first | (with_reducible have MC := hid (MC.out.old hb)) | (with_reducible have MC := hid ((MC.out.old (below_new' (o := .cells #[.bool false, .slice none 0 0, .slice none 0 0] 27))).old hb)))); (try (first | (with_reducible have PC := hid (PC.out.old hb)) | (with_reducible have PC := hid ((PC.out.old (below_new' (o := .cells #[.bool false, .slice none 0 0, .slice none 0 0] 27))).old hb)))); (try (first | (with_reducible have SC := hid (SC.out.old hb)) | (with_reducible have SC := hid ((SC.out.old (below_new' (o := .cells #[.bool false, .slice none 0 0, .slice none 0 0] 27))).old hb)))); (try (first | (with_reducible have VC := hid (VC.out.old hb)) | (with_reducible have VC := hid ((VC.out.old (below_new' (o := .cells #[.bool false, .slice none 0 0, .slice none 0 0] 27))).old hb)))); have NC := hid hr; have q0 := LYC.out.c 0 (v := .bool t) rfl; have q1 := LYC.out.c 1 (v := .slice a' n' c') rfl; have q2 := LYC.out.c 2 (v := .slice b' m' d') rfl; have q3 := LFC.out.c 0 (v := .bool s3) rfl; have q4 := LFC.out.c 1 (v := .slice a3 n3 c3) rfl; have q5 := LFC.out.c 2 (v := .slice b3 m3 d3) rfl; have q6 := LXC.out.c 0 (v := .bool s) rfl; have q7 := LXC.out.c 1 (v := .slice a n c) rfl; have q8 := LXC.out.c 2 (v := .slice b m d) rfl; clear hr hb) | (go_at_call 128; (with_reducible refine (sdiv_x (by first | with_reducible exact IC.out.ra | with_reducible exact (IC.out.old (below_new' (o := .cells #[.bool false, .slice none 0 0, .slice none 0 0] 27))).ra) (by first | with_reducible exact NC.out.ra | with_reducible exact (NC.out.old (below_new' (o := .cells #[.bool false, .slice none 0 0, .slice none 0 0] 27))).ra) F4.out E2.out F6.out).mono ?_); rintro e wq ⟨gs, aa, nn, cc, bb, mm, dd, rfl, hr, hb⟩; have hr := hr.base (show WF.heap.size ≤ _ from by first | with_reducible exact CC.out.size | with_reducible exact Nat.le_trans CC.out.size (by simp) | with_reducible exact CD.out.size | with_reducible exact CE.out.size); (try (first | (have NZ := hid (And.intro (NZ.out.1.old hb) NZ.out.2)) | (have NZ := hid (And.intro (NE.out.old hb) (show WF.heap.size ≤ WF.heap.size from Nat.le_refl _))) | (have NZ := hid (And.intro ((LocA.new (T := 27) (cs := #[.bool false, .slice none 0 0, .slice none 0 0])).old hb) CC.out.size)))); (first | (have CC := hid (CC.out.trans (hb.mono CC.out.size))) | (have CC := hid ((CC.out.alloc CC.out.size (.cells #[.bool false, .slice none 0 0, .slice none 0 0] 27)).trans (hb.mono (Nat.le_trans CC.out.size (by simp))))) | (have CC := hid (CD.out.trans (hb.mono CD.out.size))) | (have CC := hid (CE.out.trans (hb.mono CE.out.size)))); (first | (with_reducible have LXC := hid (LXC.out.old hb)) | (with_reducible have LXC := hid ((LXC.out.old (below_new' (o := .cells #[.bool false, .slice none 0 0, .slice none 0 0] 27))).old hb)) | (with_reducible have LXC := hid (LXD.out.old hb)) | (with_reducible have LXC := hid (LXE.out.old hb))); (first | (with_reducible have LYC := hid (LYC.out.old hb)) | (with_reducible have LYC := hid ((LYC.out.old (below_new' (o := .cells #[.bool false, .slice none 0 0, .slice none 0 0] 27))).old hb)) | (with_reducible have LYC := hid (LYD.out.old hb)) | (with_reducible have LYC := hid (LYE.out.old hb))); (first | (with_reducible have LRC := hid (LRC.out.old hb)) | (with_reducible have LRC := hid ((LRC.out.old (below_new' (o := .cells #[.bool false, .slice none 0 0, .slice none 0 0] 27))).old hb)) | (with_reducible have LRC := hid (LRD.out.old hb)) | (with_reducible have LRC := hid (LRE.out.old hb))); (first | (with_reducible have XC := hid (XC.out.old hb)) | (with_reducible have XC := hid ((XC.out.old (below_new' (o := .cells #[.bool false, .slice none 0 0, .slice none 0 0] 27))).old hb)) | (with_reducible have XC := hid (XD.out.old hb)) | (with_reducible have XC := hid (XE.out.old hb))); (first | (with_reducible have YC := hid (YC.out.old hb)) | (with_reducible have YC := hid ((YC.out.old (below_new' (o := .cells #[.bool false, .slice none 0 0, .slice none 0 0] 27))).old hb)) | (with_reducible have YC := hid (YD.out.old hb)) | (with_reducible have YC := hid (YE.out.old hb))); (first | (with_reducible have UC := hid (UC.out.old hb)) | (with_reducible have UC := hid ((UC.out.old (below_new' (o := .cells #[.bool false, .slice none 0 0, .slice none 0 0] 27))).old hb)) | (with_reducible have UC := hid (UD.out.old hb)) | (with_reducible have UC := hid (UE.out.old hb))); (first | (with_reducible have LUC := hid (LUC.out.old hb)) | (with_reducible have LUC := hid ((LUC.out.old (below_new' (o := .cells #[.bool false, .slice none 0 0, .slice none 0 0] 27))).old hb)) | (with_reducible have LUC := hid (LUD.out.old hb)) | (with_reducible have LUC := hid (LUE.out.old hb))); (first | (with_reducible have FC := hid (FC.out.old hb)) | (with_reducible have FC := hid ((FC.out.old (below_new' (o := .cells #[.bool false, .slice none 0 0, .slice none 0 0] 27))).old hb)) | (with_reducible have FC := hid (FD.out.old hb)) | (with_reducible have FC := hid (FE.out.old hb))); (first | (with_reducible have LFC := hid (LFC.out.old hb)) | (with_reducible have LFC := hid ((LFC.out.old (below_new' (o := .cells #[.bool false, .slice none 0 0, .slice none 0 0] 27))).old hb)) | (with_reducible have LFC := hid (LFD.out.old hb)) | (with_reducible have LFC := hid (LFE.out.old hb))); (try (first | (with_reducible have IC := hid (IC.out.old hb)) | (with_reducible have IC := hid ((IC.out.old (below_new' (o := .cells #[.bool false, .slice none 0 0, .slice none 0 0] 27))).old hb)))); (try (first | (with_reducible have MC := hid (MC.out.old hb)) | (with_reducible have MC := hid ((MC.out.old (below_new' (o := .cells #[.bool false, .slice none 0 0, .slice none 0 0] 27))).old hb)))); (try (first | (with_reducible have NC := hid (NC.out.old hb)) | (with_reducible have NC := hid ((NC.out.old (below_new' (o := .cells #[.bool false, .slice none 0 0, .slice none 0 0] 27))).old hb)))); (try (first | (with_reducible have SC := hid (SC.out.old hb)) | (with_reducible have SC := hid ((SC.out.old (below_new' (o := .cells #[.bool false, .slice none 0 0, .slice none 0 0] 27))).old hb)))); (try (first | (with_reducible have VC := hid (VC.out.old hb)) | (with_reducible have VC := hid ((VC.out.old (below_new' (o := .cells #[.bool false, .slice none 0 0, .slice none 0 0] 27))).old hb)))); have PC := hid hr; have q0 := LYC.out.c 0 (v := .bool t) rfl; have q1 := LYC.out.c 1 (v := .slice a' n' c') rfl; have q2 := LYC.out.c 2 (v := .slice b' m' d') rfl; have q3 := LFC.out.c 0 (v := .bool s3) rfl; have q4 := LFC.out.c 1 (v := .slice a3 n3 c3) rfl; have q5 := LFC.out.c 2 (v := .slice b3 m3 d3) rfl; have q6 := LXC.out.c 0 (v := .bool s) rfl; have q7 := LXC.out.c 1 (v := .slice a n c) rfl; have q8 := LXC.out.c 2 (v := .slice b m d) rfl; clear hr hb) | (go_at_call 88; (with_reducible refine (KI.out _ _ _ _ _ _ _ _ _ _ _ _ _ _ _ (by first | with_reducible exact VC.out.ra | with_reducible exact (VC.out.old (below_new' (o := .cells #[.bool false, .slice none 0 0, .slice none 0 0] 27))).ra) (by first | with_reducible exact PC.out.ra | with_reducible exact (PC.out.old (below_new' (o := .cells #[.bool false, .slice none 0 0, .slice none 0 0] 27))).ra)).mono ?_); rintro e wq ⟨gs, aa, nn, cc, bb, mm, dd, rfl, hr, hb⟩; have hr := hr.base (show WF.heap.size ≤ _ from by first | with_reducible exact CC.out.size | with_reducible exact Nat.le_trans CC.out.size (by simp) | with_reducible exact CD.out.size | with_reducible exact CE.out.size); (try (first | (have NZ := hid (And.intro (NZ.out.1.old hb) NZ.out.2)) | (have NZ := hid (And.intro (NE.out.old hb) (show WF.heap.size ≤ WF.heap.size from Nat.le_refl _))) | (have NZ := hid (And.intro ((LocA.new (T := 27) (cs := #[.bool false, .slice none 0 0, .slice none 0 0])).old hb) CC.out.size)))); (first | (have CC := hid (CC.out.trans (hb.mono CC.out.size))) | (have CC := hid ((CC.out.alloc CC.out.size (.cells #[.bool false, .slice none 0 0, .slice none 0 0] 27)).trans (hb.mono (Nat.le_trans CC.out.size (by simp))))) | (have CC := hid (CD.out.trans (hb.mono CD.out.size))) | (have CC := hid (CE.out.trans (hb.mono CE.out.size)))); (first | (with_reducible have LXC := hid (LXC.out.old hb)) | (with_reducible have LXC := hid ((LXC.out.old (below_new' (o := .cells #[.bool false, .slice none 0 0, .slice none 0 0] 27))).old hb)) | (with_reducible have LXC := hid (LXD.out.old hb)) | (with_reducible have LXC := hid (LXE.out.old hb))); (first | (with_reducible have LYC := hid (LYC.out.old hb)) | (with_reducible have LYC := hid ((LYC.out.old (below_new' (o := .cells #[.bool false, .slice none 0 0, .slice none 0 0] 27))).old hb)) | (with_reducible have LYC := hid (LYD.out.old hb)) | (with_reducible have LYC := hid (LYE.out.old hb))); (first | (with_reducible have LRC := hid (LRC.out.old hb)) | (with_reducible have LRC := hid ((LRC.out.old (below_new' (o := .cells #[.bool false, .slice none 0 0, .slice none 0 0] 27))).old hb)) | (with_reducible have LRC := hid (LRD.out.old hb)) | (with_reducible have LRC := hid (LRE.out.old hb))); (first | (with_reducible have XC := hid (XC.out.old hb)) | (with_reducible have XC := hid ((XC.out.old (below_new' (o := .cells #[.bool false, .slice none 0 0, .slice none 0 0] 27))).old hb)) | (with_reducible have XC := hid (XD.out.old hb)) | (with_reducible have XC := hid (XE.out.old hb))); (first | (with_reducible have YC := hid (YC.out.old hb)) | (with_reducible have YC := hid ((YC.out.old (below_new' (o := .cells #[.bool false, .slice none 0 0, .slice none 0 0] 27))).old hb)) | (with_reducible have YC := hid (YD.out.old hb)) | (with_reducible have YC := hid (YE.out.old hb))); (first | (with_reducible have UC := hid (UC.out.old hb)) | (with_reducible have UC := hid ((UC.out.old (below_new' (o := .cells #[.bool false, .slice none 0 0, .slice none 0 0] 27))).old hb)) | (with_reducible have UC := hid (UD.out.old hb)) | (with_reducible have UC := hid (UE.out.old hb))); (first | (with_reducible have LUC := hid (LUC.out.old hb)) | (with_reducible have LUC := hid ((LUC.out.old (below_new' (o := .cells #[.bool false, .slice none 0 0, .slice none 0 0] 27))).old hb)) | (with_reducible have LUC := hid (LUD.out.old hb)) | (with_reducible have LUC := hid (LUE.out.old hb))); (first | (with_reducible have FC := hid (FC.out.old hb)) | (with_reducible have FC := hid ((FC.out.old (below_new' (o := .cells #[.bool false, .slice none 0 0, .slice none 0 0] 27))).old hb)) | (with_reducible have FC := hid (FD.out.old hb)) | (with_reducible have FC := hid (FE.out.old hb))); (first | (with_reducible have LFC := hid (LFC.out.old hb)) | (with_reducible have LFC := hid ((LFC.out.old (below_new' (o := .cells #[.bool false, .slice none 0 0, .slice none 0 0] 27))).old hb)) | (with_reducible have LFC := hid (LFD.out.old hb)) | (with_reducible have LFC := hid (LFE.out.old hb))); (try (first | (with_reducible have IC := hid (IC.out.old hb)) | (with_reducible have IC := hid ((IC.out.old (below_new' (o := .cells #[.bool false, .slice none 0 0, .slice none 0 0] 27))).old hb)))); (try (first | (with_reducible have MC := hid (MC.out.old hb)) | (with_reducible have MC := hid ((MC.out.old (below_new' (o := .cells #[.bool false, .slice none 0 0, .slice none 0 0] 27))).old hb)))); (try (first | (with_reducible have NC := hid (NC.out.old hb)) | (with_reducible have NC := hid ((NC.out.old (below_new' (o := .cells #[.bool false, .slice none 0 0, .slice none 0 0] 27))).old hb)))); (try (first | (with_reducible have PC := hid (PC.out.old hb)) | (with_reducible have PC := hid ((PC.out.old (below_new' (o := .cells #[.bool false, .slice none 0 0, .slice none 0 0] 27))).old hb)))); (try (first | (with_reducible have VC := hid (VC.out.old hb)) | (with_reducible have VC := hid ((VC.out.old (below_new' (o := .cells #[.bool false, .slice none 0 0, .slice none 0 0] 27))).old hb)))); have SC := hid hr; have q0 := LYC.out.c 0 (v := .bool t) rfl; have q1 := LYC.out.c 1 (v := .slice a' n' c') rfl; have q2 := LYC.out.c 2 (v := .slice b' m' d') rfl; have q3 := LFC.out.c 0 (v := .bool s3) rfl; have q4 := LFC.out.c 1 (v := .slice a3 n3 c3) rfl; have q5 := LFC.out.c 2 (v := .slice b3 m3 d3) rfl; have q6 := LXC.out.c 0 (v := .bool s) rfl; have q7 := LXC.out.c 1 (v := .slice a n c) rfl; have q8 := LXC.out.c 2 (v := .slice b m d) rfl; (try (have f0 := NZ.out.1.f 0; have f1 := NZ.out.1.f 1; have f2 := NZ.out.1.f 2; have p0 := NZ.out.1.c 0 rfl; have p1 := NZ.out.1.c 1 rfl; have p2 := NZ.out.1.c 2 rfl)); clear hr hb))
    all_goals
      go_wp2_with fail
      go_meet
      first | with_reducible exact LaidO_a SC.out CC.out | with_reducible exact LaidO_b NZ.out.1 NZ.out.2 SC.out CC.out
  case rest =>
    generalize wc = w4 at hcut ⊢
    obtain ⟨g4, s4, a4, n4, c4, b4, m4, d4, rfl, hL, hR, hg, hb⟩ := hcut
    have LS := hid hL
    have S := hid (hR.base B.out.size)
    have hgS := hg
    have LX := hid (LX.out.old hb)
    have LY := hid (LY.out.old hb)
    have LR := hid (LR.out.old hb)
    have X := hid (X.out.old hb)
    have Y := hid (Y.out.old hb)
    have U := hid (U.out.old hb)
    have LU := hid (LU.out.old hb)
    have F := hid (F.out.old hb)
    have LF := hid (LF.out.old hb)
    have B := hid (B.out.trans (hb.mono B.out.size))
    clear hL hR hb hg
    go_wp2_with fail
    have LX := hid (LX.out.old (Below_drew1 (Below.refl _ _)))
    have LY := hid (LY.out.old (Below_drew1 (Below.refl _ _)))
    have LR := hid (LR.out.old (Below_drew1 (Below.refl _ _)))
    have X := hid (X.out.old (Below_drew1 (Below.refl _ _)))
    have Y := hid (Y.out.old (Below_drew1 (Below.refl _ _)))
    have U := hid (U.out.old (Below_drew1 (Below.refl _ _)))
    have LU := hid (LU.out.old (Below_drew1 (Below.refl _ _)))
    have F := hid (F.out.old (Below_drew1 (Below.refl _ _)))
    have LF := hid (LF.out.old (Below_drew1 (Below.refl _ _)))
    have S := hid (S.out.old (Below_drew1 (Below.refl _ _)))
    have LS := hid (LS.out.old (Below_drew1 (Below.refl _ _)))
    have B := hid (Below_drew1 B.out)
    have q0 := LF.out.c 0 (v := .bool s3) rfl
    have q1 := LF.out.c 1 (v := .slice a3 n3 c3) rfl
    have q2 := LF.out.c 2 (v := .slice b3 m3 d3) rfl
    have q3 := LS.out.c 0 (v := .bool s4) rfl
    have q4 := LS.out.c 1 (v := .slice a4 n4 c4) rfl
    have q5 := LS.out.c 2 (v := .slice b4 m4 d4) rfl
    have hlF := LF.out.lt
    have hlS := LS.out.lt
    go_region_held3 (fun w' => w'.cell? ⟨w3.heap.size, 0, none⟩ = some (.bool s3) ∧ w'.cell? ⟨w3.heap.size, 1, none⟩ = some (.slice a3 n3 c3) ∧ w'.cell? ⟨w3.heap.size, 2, none⟩ = some (.slice b3 m3 d3) ∧ w'.cell? ⟨g4, 0, none⟩ = some (.bool s4) ∧ w'.cell? ⟨g4, 1, none⟩ = some (.slice a4 n4 c4) ∧ w'.cell? ⟨g4, 2, none⟩ = some (.slice b4 m4 d4)) (first | with_reducible exact ⟨q0, q1, q2, q3, q4, q5⟩ | ((with_reducible refine ⟨(cell_set3 ?_).trans q0, (cell_set3 ?_).trans q1, (cell_set3 ?_).trans q2, (cell_set3 ?_).trans q3, (cell_set3 ?_).trans q4, (cell_set3 ?_).trans q5⟩) <;> omega) | go_keep) (first | (go_at_call 87; (with_reducible refine (sint_o 1 (by decide) (by decide) _).mono ?_); rintro e w5 ⟨s5, a5, n5, c5, b5, m5, d5, rfl, hr, hb⟩; have I := hid (hr.base B.out.size); have LX := hid (LX.out.old hb); have LY := hid (LY.out.old hb); have LR := hid (LR.out.old hb); have X := hid (X.out.old hb); have Y := hid (Y.out.old hb); have U := hid (U.out.old hb); have LU := hid (LU.out.old hb); have F := hid (F.out.old hb); have LF := hid (LF.out.old hb); have S := hid (S.out.old hb); have LS := hid (LS.out.old hb); (try have M := hid (M.out.old hb)); (try have R1 := hid (R1.out.old hb)); have B := hid (B.out.trans (hb.mono B.out.size)); clear hr hb; have q0 := LF.out.c 0 (v := .bool s3) rfl; have q1 := LF.out.c 1 (v := .slice a3 n3 c3) rfl; have q2 := LF.out.c 2 (v := .slice b3 m3 d3) rfl; have q3 := LS.out.c 0 (v := .bool s4) rfl; have q4 := LS.out.c 1 (v := .slice a4 n4 c4) rfl; have q5 := LS.out.c 2 (v := .slice b4 m4 d4) rfl) | (go_at_call 128; (with_reducible refine (sdiv_x I.out.ra S.out.ra F10.out E3.out F11.out).mono ?_); rintro e w6 ⟨s6, a6, n6, c6, b6, m6, d6, rfl, hr, hb⟩; have M := hid (hr.base B.out.size); have LX := hid (LX.out.old hb); have LY := hid (LY.out.old hb); have LR := hid (LR.out.old hb); have X := hid (X.out.old hb); have Y := hid (Y.out.old hb); have U := hid (U.out.old hb); have LU := hid (LU.out.old hb); have F := hid (F.out.old hb); have LF := hid (LF.out.old hb); have S := hid (S.out.old hb); have LS := hid (LS.out.old hb); (try have I := hid (I.out.old hb)); (try have R1 := hid (R1.out.old hb)); have B := hid (B.out.trans (hb.mono B.out.size)); clear hr hb; have q0 := LF.out.c 0 (v := .bool s3) rfl; have q1 := LF.out.c 1 (v := .slice a3 n3 c3) rfl; have q2 := LF.out.c 2 (v := .slice b3 m3 d3) rfl; have q3 := LS.out.c 0 (v := .bool s4) rfl; have q4 := LS.out.c 1 (v := .slice a4 n4 c4) rfl; have q5 := LS.out.c 2 (v := .slice b4 m4 d4) rfl) | (go_at_call 81; (with_reducible refine (sadd_x F.out.ra M.out.ra F12.out hsf.out).mono ?_); rintro e w7 ⟨s7, a7, n7, c7, b7, m7, d7, rfl, hr, hb⟩; have R1 := hid (hr.base B.out.size); have LX := hid (LX.out.old hb); have LY := hid (LY.out.old hb); have LR := hid (LR.out.old hb); have X := hid (X.out.old hb); have Y := hid (Y.out.old hb); have U := hid (U.out.old hb); have LU := hid (LU.out.old hb); have F := hid (F.out.old hb); have LF := hid (LF.out.old hb); have S := hid (S.out.old hb); have LS := hid (LS.out.old hb); (try have I := hid (I.out.old hb)); (try have M := hid (M.out.old hb)); have B := hid (B.out.trans (hb.mono B.out.size)); clear hr hb; have q0 := LF.out.c 0 (v := .bool s3) rfl; have q1 := LF.out.c 1 (v := .slice a3 n3 c3) rfl; have q2 := LF.out.c 2 (v := .slice b3 m3 d3) rfl; have q3 := LS.out.c 0 (v := .bool s4) rfl; have q4 := LS.out.c 1 (v := .slice a4 n4 c4) rfl; have q5 := LS.out.c 2 (v := .slice b4 m4 d4) rfl; have f0 := LR.out.f 0; have f1 := LR.out.f 1; have f2 := LR.out.f 2; have p0 := LR.out.c 0 rfl; have p1 := LR.out.c 1 rfl; have p2 := LR.out.c 2 rfl; have R := hid (q_of HQ.out (RO.out (w := w) (N := w.heap.size + 1 + 1) R1.out (Nat.le_refl _) (by omega) LR.out (by decide) B.out))))
    clear q0 q1 q2 q3 q4 q5
    go_wp2
    exact bodyPost_ret (v := .agg #[.bool s7, .slice a7 n7 c7, .slice b7 m7 d7]) (by simp [results, Tryz.results88, go_sem, p0, p1, p2]) rfl R.out
theorem l05Simple_k (k : Nat) : ∀ {s : Bool} {a : Option Addr} {n c : Nat} {b : Option Addr} {m d : Nat} {t : Bool} {a' : Option Addr} {n' c' : Nat} {b' : Option Addr} {m' d' : Nat} {x y : Rat} (h0 : 0 < x) (hle : x ≤ y) (hd : deep k x.num.toNat x.den y.num.toNat y.den) (hk : k ≤ 4000) (w : World) (h : RA w s (.slice a n c) (.slice b m d) (some x)) (h' : RA w t (.slice a' n' c') (.slice b' m' d') (some y)), Calls Tryz.prog 88 #[.agg #[.bool s, .slice a n c, .slice b m d], .agg #[.bool t, .slice a' n' c', .slice b' m' d'], .int .i64 (k : Int)] w (RatO false (some (sqF x y)) w) := by
  induction k with
  | zero => exact l05Simple_zero
  | succ k ih => exact l05Simple_succ ih
theorem l05Simple_x {w : World} {s t : Bool} {v u v' u' : Value} {x y : Rat} (h0 : 0 < x) (hle : x ≤ y) (h : RA w s v u (some x)) (h' : RA w t v' u' (some y)) : Calls Tryz.prog 88 #[.agg #[.bool s, v, u], .agg #[.bool t, v', u'], .int .i64 4000] w (RatO false (some (sqF x y)) w) := by
  obtain ⟨a, n, c, b, m, d, rfl, rfl⟩ := h.form
  obtain ⟨a', n', c', b', m', d', rfl, rfl⟩ := h'.form
  exact l05Simple_k 4000 h0 hle (deep_rat h0 hle (h.fitO x rfl) (h'.fitO y rfl)) (Nat.le_refl _) w h h'
set_option maxRecDepth 100000 in
set_option maxHeartbeats 12800000 in
theorem sbetween_o_w {s : Bool} {a : Option Addr} {n c : Nat} {b : Option Addr} {m d : Nat} {t : Bool} {a' : Option Addr} {n' c' : Nat} {b' : Option Addr} {m' d' : Nat} {o : Option Rat} {o' : Option Rat}  (w : World) (h : RA w s (.slice a n c) (.slice b m d) o) (h' : RA w t (.slice a' n' c') (.slice b' m' d') o') :
    Calls Tryz.prog 39 #[.agg #[.bool s, .slice a n c, .slice b m d], .agg #[.bool t, .slice a' n' c', .slice b' m' d']] w (RatO false (bq simpF o o') w) := by
  obtain ⟨Q, hQ⟩ : ∃ Q, Q = RatO false (bq simpF o o') w := ⟨_, rfl⟩
  rw [← hQ]
  have HQ := hid hQ
  clear hQ
  have B := hid (show Below w.heap.size w (((w.alloc (.cells #[.bool s, .slice a n c, .slice b m d] 27)).alloc (.cells #[.bool t, .slice a' n' c', .slice b' m' d'] 27)).alloc (.cells #[.bool false, .slice none 0 0, .slice none 0 0] 27)) from (((Below.refl _ _).alloc (Nat.le_refl _) _).alloc (by simp) _).alloc (by simp; try omega) _)
  have LX := hid (show LocA 27 (((w.alloc (.cells #[.bool s, .slice a n c, .slice b m d] 27)).alloc (.cells #[.bool t, .slice a' n' c', .slice b' m' d'] 27)).alloc (.cells #[.bool false, .slice none 0 0, .slice none 0 0] 27)) (w.heap.size) #[.bool s, .slice a n c, .slice b m d] from (LocA.at (by simp)).new1.new1)
  have LY := hid (show LocA 27 (((w.alloc (.cells #[.bool s, .slice a n c, .slice b m d] 27)).alloc (.cells #[.bool t, .slice a' n' c', .slice b' m' d'] 27)).alloc (.cells #[.bool false, .slice none 0 0, .slice none 0 0] 27)) (w.heap.size + 1) #[.bool t, .slice a' n' c', .slice b' m' d'] from (LocA.at (by simp)).new1)
  have LR := hid (show LocA 27 (((w.alloc (.cells #[.bool s, .slice a n c, .slice b m d] 27)).alloc (.cells #[.bool t, .slice a' n' c', .slice b' m' d'] 27)).alloc (.cells #[.bool false, .slice none 0 0, .slice none 0 0] 27)) (w.heap.size + 1 + 1) #[.bool false, .slice none 0 0, .slice none 0 0] from LocA.at (by simp))
  have X := hid (h.old B.out)
  have Y := hid (h'.old B.out)
  clear h h'
  generalize hW : ((w.alloc (.cells #[.bool s, .slice a n c, .slice b m d] 27)).alloc (.cells #[.bool t, .slice a' n' c', .slice b' m' d'] 27)).alloc (.cells #[.bool false, .slice none 0 0, .slice none 0 0] 27) = W0 at B X LX Y LY LR
  have HW := hid hW
  clear hW
  have hs0 := B.out.size
  have hw0 := LR.out.lt
  cases o with
  | none =>
    go_enter Tryz.func39, Tryz.ntmps39
    have q0 := LX.out.c 0 (v := .bool s) rfl
    have q1 := LX.out.c 1 (v := .slice a n c) rfl
    have q2 := LX.out.c 2 (v := .slice b m d) rfl
    go_wp2_with fail
    rw [HW.out]
    (with_reducible refine (sok_none X.out).mono ?_)
    clear q0 q1 q2
    rintro e w1 ⟨rfl, hb⟩
    have LX := hid (LX.out.old hb)
    have LY := hid (LY.out.old hb)
    have LR := hid (LR.out.old hb)
    have X := hid (X.out.old hb)
    have Y := hid (Y.out.old hb)
    have B := hid (B.out.trans (hb.mono B.out.size))
    clear hb
    have f0 := LR.out.f 0
    have f1 := LR.out.f 1
    have f2 := LR.out.f 2
    have p0 := LR.out.c 0 rfl
    have p1 := LR.out.c 1 rfl
    have p2 := LR.out.c 2 rfl
    have R := hid (q_of HQ.out (RO.out (w := w) (N := w.heap.size + 1 + 1) (RO_none (w := _) (lo := w.heap.size)) (Nat.le_refl _) (by omega) LR.out (by decide) B.out))
    go_wp2
    exact bodyPost_ret (v := .agg #[.bool false, .slice none 0 0, .slice none 0 0]) (by simp [results, Tryz.results39, go_sem, p0, p1, p2]) rfl R.out
  | some x =>
  cases o' with
  | none =>
    go_enter Tryz.func39, Tryz.ntmps39
    have q0 := LX.out.c 0 (v := .bool s) rfl
    have q1 := LX.out.c 1 (v := .slice a n c) rfl
    have q2 := LX.out.c 2 (v := .slice b m d) rfl
    go_wp2_with fail
    rw [HW.out]
    (with_reducible refine (sok_some X.out).mono ?_)
    clear q0 q1 q2
    rintro e w1 ⟨rfl, hb⟩
    have LX := hid (LX.out.old hb)
    have LY := hid (LY.out.old hb)
    have LR := hid (LR.out.old hb)
    have X := hid (X.out.old hb)
    have Y := hid (Y.out.old hb)
    have B := hid (B.out.trans (hb.mono B.out.size))
    clear hb
    have q0 := LY.out.c 0 (v := .bool t) rfl
    have q1 := LY.out.c 1 (v := .slice a' n' c') rfl
    have q2 := LY.out.c 2 (v := .slice b' m' d') rfl
    go_wp2_with fail
    (with_reducible refine (sok_none Y.out).mono ?_)
    clear q0 q1 q2
    rintro e w2 ⟨rfl, hb⟩
    have LX := hid (LX.out.old hb)
    have LY := hid (LY.out.old hb)
    have LR := hid (LR.out.old hb)
    have X := hid (X.out.old hb)
    have Y := hid (Y.out.old hb)
    have B := hid (B.out.trans (hb.mono B.out.size))
    clear hb
    have f0 := LR.out.f 0
    have f1 := LR.out.f 1
    have f2 := LR.out.f 2
    have p0 := LR.out.c 0 rfl
    have p1 := LR.out.c 1 rfl
    have p2 := LR.out.c 2 rfl
    have R := hid (q_of HQ.out (RO.out (w := w) (N := w.heap.size + 1 + 1) (RO_none (w := _) (lo := w.heap.size)) (Nat.le_refl _) (by omega) LR.out (by decide) B.out))
    go_wp2
    exact bodyPost_ret (v := .agg #[.bool false, .slice none 0 0, .slice none 0 0]) (by simp [results, Tryz.results39, go_sem, p0, p1, p2]) rfl R.out
  | some y =>
  have HQ := hid (show Q = RatO false (simpF x y) w from HQ.out)
  by_cases hgt : y < x
  · have HQ := hid (show Q = RatO false none w by rw [← simpF_no hgt]; exact HQ.out)
    have HZ := hid (cmp_gt hgt)
    clear hgt
    go_enter Tryz.func39, Tryz.ntmps39
    have q0 := LX.out.c 0 (v := .bool s) rfl
    have q1 := LX.out.c 1 (v := .slice a n c) rfl
    have q2 := LX.out.c 2 (v := .slice b m d) rfl
    go_wp2_with fail
    rw [HW.out]
    (with_reducible refine (sok_some X.out).mono ?_)
    clear q0 q1 q2
    rintro e w1 ⟨rfl, hb⟩
    have LX := hid (LX.out.old hb)
    have LY := hid (LY.out.old hb)
    have LR := hid (LR.out.old hb)
    have X := hid (X.out.old hb)
    have Y := hid (Y.out.old hb)
    have B := hid (B.out.trans (hb.mono B.out.size))
    clear hb
    have q0 := LY.out.c 0 (v := .bool t) rfl
    have q1 := LY.out.c 1 (v := .slice a' n' c') rfl
    have q2 := LY.out.c 2 (v := .slice b' m' d') rfl
    go_wp2_with fail
    (with_reducible refine (sok_some Y.out).mono ?_)
    clear q0 q1 q2
    rintro e w2 ⟨rfl, hb⟩
    have LX := hid (LX.out.old hb)
    have LY := hid (LY.out.old hb)
    have LR := hid (LR.out.old hb)
    have X := hid (X.out.old hb)
    have Y := hid (Y.out.old hb)
    have B := hid (B.out.trans (hb.mono B.out.size))
    clear hb
    have q0 := LX.out.c 0 (v := .bool s) rfl
    have q1 := LX.out.c 1 (v := .slice a n c) rfl
    have q2 := LX.out.c 2 (v := .slice b m d) rfl
    have q3 := LY.out.c 0 (v := .bool t) rfl
    have q4 := LY.out.c 1 (v := .slice a' n' c') rfl
    have q5 := LY.out.c 2 (v := .slice b' m' d') rfl
    go_wp2_with fail
    (with_reducible refine (l04Cmp_x X.out Y.out HZ.out).mono ?_)
    clear q0 q1 q2 q3 q4 q5
    rintro e w3 ⟨rfl, hb⟩
    have LX := hid (LX.out.old hb)
    have LY := hid (LY.out.old hb)
    have LR := hid (LR.out.old hb)
    have X := hid (X.out.old hb)
    have Y := hid (Y.out.old hb)
    have B := hid (B.out.trans (hb.mono B.out.size))
    clear hb
    have f0 := LR.out.f 0
    have f1 := LR.out.f 1
    have f2 := LR.out.f 2
    have p0 := LR.out.c 0 rfl
    have p1 := LR.out.c 1 rfl
    have p2 := LR.out.c 2 rfl
    have R := hid (q_of HQ.out (RO.out (w := w) (N := w.heap.size + 1 + 1) (RO_none (w := _) (lo := w.heap.size)) (Nat.le_refl _) (by omega) LR.out (by decide) B.out))
    go_wp2
    exact bodyPost_ret (v := .agg #[.bool false, .slice none 0 0, .slice none 0 0]) (by simp [results, Tryz.results39, go_sem, p0, p1, p2]) rfl R.out
  have hng : ¬ 0 < cmpF x y := cmp_ngt hgt
  have HG := hid hgt
  obtain ⟨z, hz⟩ : ∃ z, z = cmpF x y := ⟨_, rfl⟩
  rw [← hz] at hng
  have HZ := hid hz.symm
  clear hz hgt
  by_cases hy0 : y < 0
  · have HQ := hid (show Q = RatO false (some (-(sqF (-y) (-x)))) w by rw [← simpF_neg HG.out hy0]; exact HQ.out)
    have P0 := hid (neg_pos' hy0)
    have P1 := hid (Rat.neg_le_neg (Rat.not_lt.1 HG.out))
    have S1 := hid (sgn_of_neg hy0)
    have S2 := hid (sgn_of_neg (x := x) (by by_cases e : x < 0; exact e; exact absurd (Rat.le_trans (Rat.not_lt.1 e) (Rat.not_lt.1 HG.out)) (Rat.not_le.2 hy0)))
    have hwa : IntKind.i64.wrap (-1) = -1 := by decide
    clear hy0
    go_enter Tryz.func39, Tryz.ntmps39
    have q0 := LX.out.c 0 (v := .bool s) rfl
    have q1 := LX.out.c 1 (v := .slice a n c) rfl
    have q2 := LX.out.c 2 (v := .slice b m d) rfl
    go_wp2_with fail
    rw [HW.out]
    (with_reducible refine (sok_some X.out).mono ?_)
    clear q0 q1 q2
    rintro e w1 ⟨rfl, hb⟩
    have LX := hid (LX.out.old hb)
    have LY := hid (LY.out.old hb)
    have LR := hid (LR.out.old hb)
    have X := hid (X.out.old hb)
    have Y := hid (Y.out.old hb)
    have B := hid (B.out.trans (hb.mono B.out.size))
    clear hb
    have q0 := LY.out.c 0 (v := .bool t) rfl
    have q1 := LY.out.c 1 (v := .slice a' n' c') rfl
    have q2 := LY.out.c 2 (v := .slice b' m' d') rfl
    go_wp2_with fail
    (with_reducible refine (sok_some Y.out).mono ?_)
    clear q0 q1 q2
    rintro e w2 ⟨rfl, hb⟩
    have LX := hid (LX.out.old hb)
    have LY := hid (LY.out.old hb)
    have LR := hid (LR.out.old hb)
    have X := hid (X.out.old hb)
    have Y := hid (Y.out.old hb)
    have B := hid (B.out.trans (hb.mono B.out.size))
    clear hb
    have q0 := LX.out.c 0 (v := .bool s) rfl
    have q1 := LX.out.c 1 (v := .slice a n c) rfl
    have q2 := LX.out.c 2 (v := .slice b m d) rfl
    have q3 := LY.out.c 0 (v := .bool t) rfl
    have q4 := LY.out.c 1 (v := .slice a' n' c') rfl
    have q5 := LY.out.c 2 (v := .slice b' m' d') rfl
    go_wp2_with fail
    (with_reducible refine (l04Cmp_x X.out Y.out HZ.out).mono ?_)
    clear q0 q1 q2 q3 q4 q5
    rintro e w3 ⟨rfl, hb⟩
    have LX := hid (LX.out.old hb)
    have LY := hid (LY.out.old hb)
    have LR := hid (LR.out.old hb)
    have X := hid (X.out.old hb)
    have Y := hid (Y.out.old hb)
    have B := hid (B.out.trans (hb.mono B.out.size))
    clear hb
    have q0 := LX.out.c 0 (v := .bool s) rfl
    have q1 := LX.out.c 1 (v := .slice a n c) rfl
    have q2 := LX.out.c 2 (v := .slice b m d) rfl
    go_wp2_with fail
    (with_reducible refine (ssign_x X.out S2.out).mono ?_)
    clear q0 q1 q2
    rintro e w4 ⟨rfl, hb⟩
    have LX := hid (LX.out.old hb)
    have LY := hid (LY.out.old hb)
    have LR := hid (LR.out.old hb)
    have X := hid (X.out.old hb)
    have Y := hid (Y.out.old hb)
    have B := hid (B.out.trans (hb.mono B.out.size))
    clear hb
    have q0 := LY.out.c 0 (v := .bool t) rfl
    have q1 := LY.out.c 1 (v := .slice a' n' c') rfl
    have q2 := LY.out.c 2 (v := .slice b' m' d') rfl
    go_wp2_with fail
    (with_reducible refine (ssign_x Y.out S1.out).mono ?_)
    clear q0 q1 q2
    rintro e w5 ⟨rfl, hb⟩
    have LX := hid (LX.out.old hb)
    have LY := hid (LY.out.old hb)
    have LR := hid (LR.out.old hb)
    have X := hid (X.out.old hb)
    have Y := hid (Y.out.old hb)
    have B := hid (B.out.trans (hb.mono B.out.size))
    clear hb
    have q0 := LX.out.c 0 (v := .bool s) rfl
    have q1 := LX.out.c 1 (v := .slice a n c) rfl
    have q2 := LX.out.c 2 (v := .slice b m d) rfl
    go_wp2_with fail
    (with_reducible refine (ssign_x X.out S2.out).mono ?_)
    clear q0 q1 q2
    rintro e w6 ⟨rfl, hb⟩
    have LX := hid (LX.out.old hb)
    have LY := hid (LY.out.old hb)
    have LR := hid (LR.out.old hb)
    have X := hid (X.out.old hb)
    have Y := hid (Y.out.old hb)
    have B := hid (B.out.trans (hb.mono B.out.size))
    clear hb
    go_wp2_with fail
    have LX := hid (LX.out.old (Below_drew1 (Below.refl _ _)))
    have LY := hid (LY.out.old (Below_drew1 (Below.refl _ _)))
    have LR := hid (LR.out.old (Below_drew1 (Below.refl _ _)))
    have X := hid (X.out.old (Below_drew1 (Below.refl _ _)))
    have Y := hid (Y.out.old (Below_drew1 (Below.refl _ _)))
    have B := hid (Below_drew1 B.out)
    have q0 := LY.out.c 0 (v := .bool t) rfl
    have q1 := LY.out.c 1 (v := .slice a' n' c') rfl
    have q2 := LY.out.c 2 (v := .slice b' m' d') rfl
    have q3 := LX.out.c 0 (v := .bool s) rfl
    have q4 := LX.out.c 1 (v := .slice a n c) rfl
    have q5 := LX.out.c 2 (v := .slice b m d) rfl
    have hlY := LY.out.lt
    have hlX := LX.out.lt
    go_region_held3 (fun w' => w'.cell? ⟨w.heap.size + 1, 0, none⟩ = some (.bool t) ∧ w'.cell? ⟨w.heap.size + 1, 1, none⟩ = some (.slice a' n' c') ∧ w'.cell? ⟨w.heap.size + 1, 2, none⟩ = some (.slice b' m' d') ∧ w'.cell? ⟨w.heap.size, 0, none⟩ = some (.bool s) ∧ w'.cell? ⟨w.heap.size, 1, none⟩ = some (.slice a n c) ∧ w'.cell? ⟨w.heap.size, 2, none⟩ = some (.slice b m d)) (first | with_reducible exact ⟨q0, q1, q2, q3, q4, q5⟩ | ((with_reducible refine ⟨(cell_set3 ?_).trans q0, (cell_set3 ?_).trans q1, (cell_set3 ?_).trans q2, (cell_set3 ?_).trans q3, (cell_set3 ?_).trans q4, (cell_set3 ?_).trans q5⟩) <;> omega) | go_keep) (first | (go_at_call 89; (with_reducible refine (sneg_x Y.out).mono ?_); rintro e w7 ⟨s7, a7, n7, c7, b7, m7, d7, rfl, hr, hb⟩; have G := hid (hr.base B.out.size); have LX := hid (LX.out.old hb); have LY := hid (LY.out.old hb); have LR := hid (LR.out.old hb); have X := hid (X.out.old hb); have Y := hid (Y.out.old hb); (try have H := hid (H.out.old hb)); (try have R1 := hid (R1.out.old hb)); (try have S := hid (S.out.old hb)); have B := hid (B.out.trans (hb.mono B.out.size)); clear hr hb; have q0 := LY.out.c 0 (v := .bool t) rfl; have q1 := LY.out.c 1 (v := .slice a' n' c') rfl; have q2 := LY.out.c 2 (v := .slice b' m' d') rfl; have q3 := LX.out.c 0 (v := .bool s) rfl; have q4 := LX.out.c 1 (v := .slice a n c) rfl; have q5 := LX.out.c 2 (v := .slice b m d) rfl) | (go_at_call 89; (with_reducible refine (sneg_x X.out).mono ?_); rintro e w8 ⟨s8, a8, n8, c8, b8, m8, d8, rfl, hr, hb⟩; have H := hid (hr.base B.out.size); have LX := hid (LX.out.old hb); have LY := hid (LY.out.old hb); have LR := hid (LR.out.old hb); have X := hid (X.out.old hb); have Y := hid (Y.out.old hb); (try have G := hid (G.out.old hb)); (try have R1 := hid (R1.out.old hb)); (try have S := hid (S.out.old hb)); have B := hid (B.out.trans (hb.mono B.out.size)); clear hr hb; have q0 := LY.out.c 0 (v := .bool t) rfl; have q1 := LY.out.c 1 (v := .slice a' n' c') rfl; have q2 := LY.out.c 2 (v := .slice b' m' d') rfl; have q3 := LX.out.c 0 (v := .bool s) rfl; have q4 := LX.out.c 1 (v := .slice a n c) rfl; have q5 := LX.out.c 2 (v := .slice b m d) rfl) | (go_at_call 88; (with_reducible refine (l05Simple_x P0.out P1.out G.out.ra H.out.ra).mono ?_); rintro e w9 ⟨s9, a9, n9, c9, b9, m9, d9, rfl, hr, hb⟩; have S := hid (hr.base B.out.size); have LX := hid (LX.out.old hb); have LY := hid (LY.out.old hb); have LR := hid (LR.out.old hb); have X := hid (X.out.old hb); have Y := hid (Y.out.old hb); (try have G := hid (G.out.old hb)); (try have H := hid (H.out.old hb)); (try have R1 := hid (R1.out.old hb)); have B := hid (B.out.trans (hb.mono B.out.size)); clear hr hb; have q0 := LY.out.c 0 (v := .bool t) rfl; have q1 := LY.out.c 1 (v := .slice a' n' c') rfl; have q2 := LY.out.c 2 (v := .slice b' m' d') rfl; have q3 := LX.out.c 0 (v := .bool s) rfl; have q4 := LX.out.c 1 (v := .slice a n c) rfl; have q5 := LX.out.c 2 (v := .slice b m d) rfl) | (go_at_call 89; (with_reducible refine (sneg_x S.out.ra).mono ?_); rintro e w10 ⟨s10, a10, n10, c10, b10, m10, d10, rfl, hr, hb⟩; have R1 := hid (hr.base B.out.size); have LX := hid (LX.out.old hb); have LY := hid (LY.out.old hb); have LR := hid (LR.out.old hb); have X := hid (X.out.old hb); have Y := hid (Y.out.old hb); (try have G := hid (G.out.old hb)); (try have H := hid (H.out.old hb)); (try have S := hid (S.out.old hb)); have B := hid (B.out.trans (hb.mono B.out.size)); clear hr hb; have q0 := LY.out.c 0 (v := .bool t) rfl; have q1 := LY.out.c 1 (v := .slice a' n' c') rfl; have q2 := LY.out.c 2 (v := .slice b' m' d') rfl; have q3 := LX.out.c 0 (v := .bool s) rfl; have q4 := LX.out.c 1 (v := .slice a n c) rfl; have q5 := LX.out.c 2 (v := .slice b m d) rfl; have f0 := LR.out.f 0; have f1 := LR.out.f 1; have f2 := LR.out.f 2; have p0 := LR.out.c 0 rfl; have p1 := LR.out.c 1 rfl; have p2 := LR.out.c 2 rfl; have R := hid (q_of HQ.out (RO.out (w := w) (N := w.heap.size + 1 + 1) R1.out (Nat.le_refl _) (by omega) LR.out (by decide) B.out))))
    clear q0 q1 q2 q3 q4 q5
    go_wp2
    exact bodyPost_ret (v := .agg #[.bool s10, .slice a10 n10 c10, .slice b10 m10 d10]) (by simp [results, Tryz.results39, go_sem, p0, p1, p2]) rfl R.out
  by_cases hx0 : x ≤ 0
  · have HQ := hid (show Q = RatO false (some ((0 : Int) : Rat)) w by rw [← simpF_zero HG.out hy0 hx0]; exact HQ.out)
    have hs1 := sgn_nonneg hy0
    have hs2 := sgn_nonpos hx0
    obtain ⟨z1, hz1⟩ : ∃ z, z = sgn y.num := ⟨_, rfl⟩
    obtain ⟨z2, hz2⟩ : ∃ z, z = sgn x.num := ⟨_, rfl⟩
    rw [← hz1] at hs1
    rw [← hz2] at hs2
    have S1 := hid hz1.symm
    have S2 := hid hz2.symm
    have hs3 : ¬ z1 < 0 := by omega
    clear hz1 hz2 hy0 hx0
    go_enter Tryz.func39, Tryz.ntmps39
    have q0 := LX.out.c 0 (v := .bool s) rfl
    have q1 := LX.out.c 1 (v := .slice a n c) rfl
    have q2 := LX.out.c 2 (v := .slice b m d) rfl
    go_wp2_with fail
    rw [HW.out]
    (with_reducible refine (sok_some X.out).mono ?_)
    clear q0 q1 q2
    rintro e w1 ⟨rfl, hb⟩
    have LX := hid (LX.out.old hb)
    have LY := hid (LY.out.old hb)
    have LR := hid (LR.out.old hb)
    have X := hid (X.out.old hb)
    have Y := hid (Y.out.old hb)
    have B := hid (B.out.trans (hb.mono B.out.size))
    clear hb
    have q0 := LY.out.c 0 (v := .bool t) rfl
    have q1 := LY.out.c 1 (v := .slice a' n' c') rfl
    have q2 := LY.out.c 2 (v := .slice b' m' d') rfl
    go_wp2_with fail
    (with_reducible refine (sok_some Y.out).mono ?_)
    clear q0 q1 q2
    rintro e w2 ⟨rfl, hb⟩
    have LX := hid (LX.out.old hb)
    have LY := hid (LY.out.old hb)
    have LR := hid (LR.out.old hb)
    have X := hid (X.out.old hb)
    have Y := hid (Y.out.old hb)
    have B := hid (B.out.trans (hb.mono B.out.size))
    clear hb
    have q0 := LX.out.c 0 (v := .bool s) rfl
    have q1 := LX.out.c 1 (v := .slice a n c) rfl
    have q2 := LX.out.c 2 (v := .slice b m d) rfl
    have q3 := LY.out.c 0 (v := .bool t) rfl
    have q4 := LY.out.c 1 (v := .slice a' n' c') rfl
    have q5 := LY.out.c 2 (v := .slice b' m' d') rfl
    go_wp2_with fail
    (with_reducible refine (l04Cmp_x X.out Y.out HZ.out).mono ?_)
    clear q0 q1 q2 q3 q4 q5
    rintro e w3 ⟨rfl, hb⟩
    have LX := hid (LX.out.old hb)
    have LY := hid (LY.out.old hb)
    have LR := hid (LR.out.old hb)
    have X := hid (X.out.old hb)
    have Y := hid (Y.out.old hb)
    have B := hid (B.out.trans (hb.mono B.out.size))
    clear hb
    have q0 := LX.out.c 0 (v := .bool s) rfl
    have q1 := LX.out.c 1 (v := .slice a n c) rfl
    have q2 := LX.out.c 2 (v := .slice b m d) rfl
    go_wp2_with fail
    (with_reducible refine (ssign_x X.out S2.out).mono ?_)
    clear q0 q1 q2
    rintro e w4 ⟨rfl, hb⟩
    have LX := hid (LX.out.old hb)
    have LY := hid (LY.out.old hb)
    have LR := hid (LR.out.old hb)
    have X := hid (X.out.old hb)
    have Y := hid (Y.out.old hb)
    have B := hid (B.out.trans (hb.mono B.out.size))
    clear hb
    have q0 := LY.out.c 0 (v := .bool t) rfl
    have q1 := LY.out.c 1 (v := .slice a' n' c') rfl
    have q2 := LY.out.c 2 (v := .slice b' m' d') rfl
    go_wp2_with fail
    (with_reducible refine (ssign_x Y.out S1.out).mono ?_)
    clear q0 q1 q2
    rintro e w5 ⟨rfl, hb⟩
    have LX := hid (LX.out.old hb)
    have LY := hid (LY.out.old hb)
    have LR := hid (LR.out.old hb)
    have X := hid (X.out.old hb)
    have Y := hid (Y.out.old hb)
    have B := hid (B.out.trans (hb.mono B.out.size))
    clear hb
    go_wp2_with fail
    (with_reducible refine (sint_o 0 (by decide) (by decide) _).mono ?_)
    rintro e w6 ⟨s6, a6, n6, c6, b6, m6, d6, rfl, hr, hb⟩
    have R1 := hid (hr.base B.out.size)
    have LX := hid (LX.out.old hb)
    have LY := hid (LY.out.old hb)
    have LR := hid (LR.out.old hb)
    have X := hid (X.out.old hb)
    have Y := hid (Y.out.old hb)
    have B := hid (B.out.trans (hb.mono B.out.size))
    clear hr hb
    have f0 := LR.out.f 0
    have f1 := LR.out.f 1
    have f2 := LR.out.f 2
    have p0 := LR.out.c 0 rfl
    have p1 := LR.out.c 1 rfl
    have p2 := LR.out.c 2 rfl
    have R := hid (q_of HQ.out (RO.out (w := w) (N := w.heap.size + 1 + 1) R1.out (Nat.le_refl _) (by omega) LR.out (by decide) B.out))
    go_wp2
    exact bodyPost_ret (v := .agg #[.bool s6, .slice a6 n6 c6, .slice b6 m6 d6]) (by simp [results, Tryz.results39, go_sem, p0, p1, p2]) rfl R.out
  · have HQ := hid (show Q = RatO false (some (sqF x y)) w by rw [← simpF_pos HG.out hy0 hx0]; exact HQ.out)
    have P0 := hid (Rat.not_le.1 hx0)
    have P1 := hid (Rat.not_lt.1 HG.out)
    have S1 := hid (sgn_of_pos (lt_le P0.out P1.out))
    have S2 := hid (sgn_of_pos P0.out)
    clear hx0 hy0
    go_enter Tryz.func39, Tryz.ntmps39
    have q0 := LX.out.c 0 (v := .bool s) rfl
    have q1 := LX.out.c 1 (v := .slice a n c) rfl
    have q2 := LX.out.c 2 (v := .slice b m d) rfl
    go_wp2_with fail
    rw [HW.out]
    (with_reducible refine (sok_some X.out).mono ?_)
    clear q0 q1 q2
    rintro e w1 ⟨rfl, hb⟩
    have LX := hid (LX.out.old hb)
    have LY := hid (LY.out.old hb)
    have LR := hid (LR.out.old hb)
    have X := hid (X.out.old hb)
    have Y := hid (Y.out.old hb)
    have B := hid (B.out.trans (hb.mono B.out.size))
    clear hb
    have q0 := LY.out.c 0 (v := .bool t) rfl
    have q1 := LY.out.c 1 (v := .slice a' n' c') rfl
    have q2 := LY.out.c 2 (v := .slice b' m' d') rfl
    go_wp2_with fail
    (with_reducible refine (sok_some Y.out).mono ?_)
    clear q0 q1 q2
    rintro e w2 ⟨rfl, hb⟩
    have LX := hid (LX.out.old hb)
    have LY := hid (LY.out.old hb)
    have LR := hid (LR.out.old hb)
    have X := hid (X.out.old hb)
    have Y := hid (Y.out.old hb)
    have B := hid (B.out.trans (hb.mono B.out.size))
    clear hb
    have q0 := LX.out.c 0 (v := .bool s) rfl
    have q1 := LX.out.c 1 (v := .slice a n c) rfl
    have q2 := LX.out.c 2 (v := .slice b m d) rfl
    have q3 := LY.out.c 0 (v := .bool t) rfl
    have q4 := LY.out.c 1 (v := .slice a' n' c') rfl
    have q5 := LY.out.c 2 (v := .slice b' m' d') rfl
    go_wp2_with fail
    (with_reducible refine (l04Cmp_x X.out Y.out HZ.out).mono ?_)
    clear q0 q1 q2 q3 q4 q5
    rintro e w3 ⟨rfl, hb⟩
    have LX := hid (LX.out.old hb)
    have LY := hid (LY.out.old hb)
    have LR := hid (LR.out.old hb)
    have X := hid (X.out.old hb)
    have Y := hid (Y.out.old hb)
    have B := hid (B.out.trans (hb.mono B.out.size))
    clear hb
    have q0 := LX.out.c 0 (v := .bool s) rfl
    have q1 := LX.out.c 1 (v := .slice a n c) rfl
    have q2 := LX.out.c 2 (v := .slice b m d) rfl
    go_wp2_with fail
    (with_reducible refine (ssign_x X.out S2.out).mono ?_)
    clear q0 q1 q2
    rintro e w4 ⟨rfl, hb⟩
    have LX := hid (LX.out.old hb)
    have LY := hid (LY.out.old hb)
    have LR := hid (LR.out.old hb)
    have X := hid (X.out.old hb)
    have Y := hid (Y.out.old hb)
    have B := hid (B.out.trans (hb.mono B.out.size))
    clear hb
    have q0 := LX.out.c 0 (v := .bool s) rfl
    have q1 := LX.out.c 1 (v := .slice a n c) rfl
    have q2 := LX.out.c 2 (v := .slice b m d) rfl
    go_wp2_with fail
    (with_reducible refine (ssign_x X.out S2.out).mono ?_)
    clear q0 q1 q2
    rintro e w5 ⟨rfl, hb⟩
    have LX := hid (LX.out.old hb)
    have LY := hid (LY.out.old hb)
    have LR := hid (LR.out.old hb)
    have X := hid (X.out.old hb)
    have Y := hid (Y.out.old hb)
    have B := hid (B.out.trans (hb.mono B.out.size))
    clear hb
    have q0 := LX.out.c 0 (v := .bool s) rfl
    have q1 := LX.out.c 1 (v := .slice a n c) rfl
    have q2 := LX.out.c 2 (v := .slice b m d) rfl
    have q3 := LY.out.c 0 (v := .bool t) rfl
    have q4 := LY.out.c 1 (v := .slice a' n' c') rfl
    have q5 := LY.out.c 2 (v := .slice b' m' d') rfl
    go_wp2_with fail
    (with_reducible refine (l05Simple_x P0.out P1.out X.out Y.out).mono ?_)
    clear q0 q1 q2 q3 q4 q5
    rintro e w6 ⟨s6, a6, n6, c6, b6, m6, d6, rfl, hr, hb⟩
    have R1 := hid (hr.base B.out.size)
    have LX := hid (LX.out.old hb)
    have LY := hid (LY.out.old hb)
    have LR := hid (LR.out.old hb)
    have X := hid (X.out.old hb)
    have Y := hid (Y.out.old hb)
    have B := hid (B.out.trans (hb.mono B.out.size))
    clear hr hb
    have f0 := LR.out.f 0
    have f1 := LR.out.f 1
    have f2 := LR.out.f 2
    have p0 := LR.out.c 0 rfl
    have p1 := LR.out.c 1 rfl
    have p2 := LR.out.c 2 rfl
    have R := hid (q_of HQ.out (RO.out (w := w) (N := w.heap.size + 1 + 1) R1.out (Nat.le_refl _) (by omega) LR.out (by decide) B.out))
    go_wp2
    exact bodyPost_ret (v := .agg #[.bool s6, .slice a6 n6 c6, .slice b6 m6 d6]) (by simp [results, Tryz.results39, go_sem, p0, p1, p2]) rfl R.out
theorem sbetween_o {w : World} {s : Bool} {v u : Value} {t : Bool} {v' u' : Value} {o : Option Rat} {o' : Option Rat}  (h : RA w s v u o) (h' : RA w t v' u' o') : Calls Tryz.prog 39 #[.agg #[.bool s, v, u], .agg #[.bool t, v', u']] w (RatO false (bq simpF o o') w) := by
  obtain ⟨a, n, c, b, m, d, rfl, rfl⟩ := h.form
  obtain ⟨a', n', c', b', m', d', rfl, rfl⟩ := h'.form
  exact sbetween_o_w  w h h'
theorem impl_SimplestBetween (s t : Bool) (v u v' u' : Value) (A D A' D' : List Int) (w : World) (h : RL w v u A D) (h' : RL w v' u' A' D') : Calls Tryz.prog 26 #[.agg #[.bool s, v, u], .agg #[.bool t, v', u']] w (OwnR (bq simpF (rval s A D) (rval t A' D')) w) := (between_o (RA.of h) (RA.of h')).mono fun e w' hh => hh.own
theorem spec_SimplestBetween (s t : Bool) (v u v' u' : Value) (A D A' D' : List Int) (w : World) (h : RL w v u A D) (h' : RL w v' u' A' D') : Calls Tryz.prog 39 #[.agg #[.bool s, v, u], .agg #[.bool t, v', u']] w (OwnS (bq simpF (rval s A D) (rval t A' D')) w) := (sbetween_o (RA.of h) (RA.of h')).mono fun e w' hh => hh.ownS
end Go.Proofs.YtookglpeieennaaGreat
