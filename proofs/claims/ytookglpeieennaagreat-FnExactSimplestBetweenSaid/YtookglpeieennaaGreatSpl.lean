/- The program: the simplest fraction of an interval, on limbs. -/
import Derived.Test.YtookglpeieennaaGreatFlb
import Derived.Deep.RegionHeld3
import Derived.Deep.DeepCutAuto
namespace Go.Proofs.YtookglpeieennaaGreat
open Go.RowKit
open Go.Lib (hid)
set_option linter.unusedVariables false

/-! Numbers that are limbs of a natural number. -/
theorem nok_n {x : Nat} (h : (x : Int) < pw 60) : nok (rep x) = true ∧ val (rep x) = x ∧ (rep x).length ≤ 1073741824 := by
  have h1 : nok (rep x) = true := nok_iff.2 ⟨by have := rep_len (V := (x : Int)) h; simpa using this, Can_rep _⟩
  exact ⟨h1, val_rep _, by have := nok_len h1; omega⟩
theorem rep_eq_nil {x : Nat} : (rep x).length = 0 ↔ x = 0 := by
  constructor
  · intro h
    exact Classical.byContradiction fun e => rep_ne e (List.eq_nil_of_length_eq_zero h)
  · rintro rfl; rw [rep_zero]; rfl
theorem div_n {x y : Nat} {v u : Value} {b1 b2 : Nat} {w : World} (hx : (x : Int) < pw 60) (hy : (y : Int) < pw 60) (h0 : 0 < y) (h1 : Ints w b1 v (rep x)) (h2 : Ints w b2 u (rep y)) : Calls Tryz.prog 107 #[v, u] w (Own2 (rep (x / y)) (rep (x % y)) w) := by
  obtain ⟨n1, v1, l1⟩ := nok_n hx
  obtain ⟨n2, v2, l2⟩ := nok_n hy
  have hh := impl_NatDiv v u _ _ l1 l2 b1 b2 w h1 h2
  obtain ⟨e1, e2⟩ := div_yes n1 n2 (rep_ne (by omega))
  rw [e1, e2, v1, v2, ← Int.natCast_ediv, ← Int.natCast_emod, Int.toNat_natCast, Int.toNat_natCast] at hh
  exact hh
theorem mul_n {x y : Nat} {v u : Value} {b1 b2 : Nat} {w : World} (hx : (x : Int) < pw 60) (hy : (y : Int) < pw 60) (hz : ((x * y : Nat) : Int) < pw 60) (h1 : Ints w b1 v (rep x)) (h2 : Ints w b2 u (rep y)) : Calls Tryz.prog 105 #[v, u] w (OwnP (rep (x * y)) w) := by
  obtain ⟨n1, v1, l1⟩ := nok_n hx
  obtain ⟨n2, v2, l2⟩ := nok_n hy
  have hh := impl_NatMul v u _ _ l1 l2 b1 b2 w h1 h2
  rw [mulR_yes n1 n2, v1, v2, ← Int.natCast_mul] at hh
  unfold capped at hh
  rw [if_pos hz, Int.toNat_natCast] at hh
  exact hh
theorem add_n {x y : Nat} {v u : Value} {b1 b2 : Nat} {w : World} (hx : (x : Int) < pw 60) (hy : (y : Int) < pw 60) (hz : ((x + y : Nat) : Int) < pw 60) (h1 : Ints w b1 v (rep x)) (h2 : Ints w b2 u (rep y)) : Calls Tryz.prog 111 #[v, u] w (OwnP (rep (x + y)) w) := by
  obtain ⟨n1, v1, l1⟩ := nok_n hx
  obtain ⟨n2, v2, l2⟩ := nok_n hy
  have hh := impl_NatAdd v u _ _ l1 l2 b1 b2 w h1 h2
  rw [addR_yes n1 n2, v1, v2, ← Int.natCast_add] at hh
  unfold capped at hh
  rw [if_pos hz, Int.toNat_natCast] at hh
  exact hh
theorem cmp_n {x y : Nat} {v u : Value} {b1 b2 : Nat} {w : World} (hx : (x : Int) < pw 60) (hy : (y : Int) < pw 60) (h1 : Ints w b1 v (rep x)) (h2 : Ints w b2 u (rep y)) : Calls Tryz.prog 63 #[v, u] w (RetB (.int .i64 (sgn ((x : Int) - y))) w) := by
  obtain ⟨n1, v1, l1⟩ := nok_n hx
  obtain ⟨n2, v2, l2⟩ := nok_n hy
  obtain ⟨a, c, rfl, -, r1, -⟩ := Ints_form h1
  obtain ⟨a', c', rfl, -, r2, -⟩ := Ints_form h2
  have hh := RetB_of_drew (compareLimbs_any a a' _ _ c c' _ _ l1 l2 w r1 r2)
  rw [cmpL_val (Can_rep _) (Can_rep _), v1, v2] at hh
  exact hh
theorem of_n (w : World) : Calls Tryz.prog 45 #[.int .i64 1] w (OwnP (rep 1) w) := impl_NatOf 1 (by decide) w
theorem sgn_lt {x y : Nat} : sgn ((x : Int) - y) < 0 ↔ x < y := by
  rcases sgn_cases ((x : Int) - y) with ⟨h, e⟩ | ⟨h, e⟩ | ⟨h, e⟩ <;> omega
theorem pw24_lt {x : Nat} (h : (x : Int) < pw 24) : (x : Int) < pw 60 := Int.lt_trans h pw24_60
set_option maxRecDepth 100000 in
set_option maxHeartbeats 6400000 in
theorem simplest_pos (k : Nat) : ∀ (a b c d : Nat), b + d ≤ k → 0 < a → 0 < b → 0 < d → a * d ≤ c * b → (a : Int) < pw 24 → (b : Int) < pw 24 → (c : Int) < pw 24 → (d : Int) < pw 24 → ∀ (v1 u1 v2 u2 : Value) (b1 b2 b3 b4 : Nat) (w : World), Ints w b1 v1 (rep a) → Ints w b2 u1 (rep b) → Ints w b3 v2 (rep c) → Ints w b4 u2 (rep d) →
    Calls Tryz.prog 61 #[v1, u1, v2, u2] w (Own2 (rep (sst a b c d).1) (rep (sst a b c d).2) w) := by
  induction k with
  | zero => intro a b c d h1 h2 h3; omega
  | succ k ih =>
  intro a b c d hk ha hb hd hle la lb lc ld v1 u1 v2 u2 b1 b2 b3 b4 w i1 i2 i3 i4
  have I1 := hid i1
  have I2 := hid i2
  have I3 := hid i3
  have I4 := hid i4
  have K1 := hid (fun (W : World) (h1 : Ints W b1 v1 (rep a)) (h2 : Ints W b2 u1 (rep b)) => div_n (pw24_lt la) (pw24_lt lb) hb h1 h2)
  have K2 := hid (fun (W : World) (h1 : Ints W b3 v2 (rep c)) (h2 : Ints W b4 u2 (rep d)) => div_n (pw24_lt lc) (pw24_lt ld) hd h1 h2)
  obtain ⟨x1, n1, c1, rfl⟩ : ∃ (x : Option Addr) (n c : Nat), v1 = .slice x n c := by obtain ⟨x, y, e, -⟩ := Ints_form i1; exact ⟨x, _, y, e⟩
  obtain ⟨x2, n2, c2, rfl⟩ : ∃ (x : Option Addr) (n c : Nat), u1 = .slice x n c := by obtain ⟨x, y, e, -⟩ := Ints_form i2; exact ⟨x, _, y, e⟩
  obtain ⟨x3, n3, c3, rfl⟩ : ∃ (x : Option Addr) (n c : Nat), v2 = .slice x n c := by obtain ⟨x, y, e, -⟩ := Ints_form i3; exact ⟨x, _, y, e⟩
  obtain ⟨x4, n4, c4, rfl⟩ : ∃ (x : Option Addr) (n c : Nat), u2 = .slice x n c := by obtain ⟨x, y, e, -⟩ := Ints_form i4; exact ⟨x, _, y, e⟩
  clear i1 i2 i3 i4
  have lf : ((a / b : Nat) : Int) < pw 60 := by have := Nat.div_le_self a b; have := pw24_lt la; omega
  have lh : ((c / d : Nat) : Int) < pw 60 := by have := Nat.div_le_self c d; have := pw24_lt lc; omega
  have HQ := hid (show (a % b = 0 → sst a b c d = (a / b, 1)) ∧ (a % b ≠ 0 → a / b < c / d → sst a b c d = (a / b + 1, 1) ∧ ((a / b + 1 : Nat) : Int) < pw 60) ∧ (a % b ≠ 0 → ¬ a / b < c / d → sst a b c d = (a / b * (sst d (c % d) b (a % b)).1 + (sst d (c % d) b (a % b)).2, (sst d (c % d) b (a % b)).1) ∧ c % d + a % b ≤ k ∧ 0 < c % d ∧ 0 < a % b ∧ d * (a % b) ≤ b * (c % d) ∧ ((c % d : Nat) : Int) < pw 24 ∧ ((a % b : Nat) : Int) < pw 24 ∧ (((sst d (c % d) b (a % b)).1 : Nat) : Int) < pw 60 ∧ (((sst d (c % d) b (a % b)).2 : Nat) : Int) < pw 60 ∧ ((a / b * (sst d (c % d) b (a % b)).1 : Nat) : Int) < pw 60 ∧ ((a / b * (sst d (c % d) b (a % b)).1 + (sst d (c % d) b (a % b)).2 : Nat) : Int) < pw 60) from by
    refine ⟨fun h => ?_, fun h h' => ?_, fun h h' => ?_⟩
    · rw [sst_stop (.inl h), if_pos h]
    · refine ⟨by rw [sst_stop (.inr h'), if_neg h], ?_⟩
      have := pw24_lt lc
      have := Nat.div_le_self c d
      omega
    · have hn : ¬ (a % b = 0 ∨ a / b < c / d) := fun e => e.elim h h'
      obtain ⟨e1, e2, g1, g2, g3, g4, g5⟩ := go_parts hb hd hle hn
      have B := sst_best _ _ _ _ _ (Nat.le_refl _) hd g2 g1 g5
      have hm := B.mi d (c % d) g2 (Nat.le_refl _) g5
      have hp := Nat.mul_le_mul_left (a / b) hm.1
      have := pw24_lt lc
      have := pw24_lt ld
      refine ⟨sst_go hb hd hn, by omega, g2, g1, g5, by omega, by omega, by omega, by omega, by omega, by omega⟩)
  have KI := hid (fun (h1 : c % d + a % b ≤ k) (h2 : 0 < c % d) (h3 : 0 < a % b) (h4 : d * (a % b) ≤ b * (c % d)) (h5 : ((c % d : Nat) : Int) < pw 24) (h6 : ((a % b : Nat) : Int) < pw 24) (W : World) (vr ur : Value) (br b5 : Nat) (j2 : Ints W br vr (rep (c % d))) (j4 : Ints W b5 ur (rep (a % b))) (j1 : Ints W b4 (.slice x4 n4 c4) (rep d)) (j3 : Ints W b2 (.slice x2 n2 c2) (rep b)) => ih d (c % d) b (a % b) h1 hd h2 h3 h4 ld h5 lb h6 (.slice x4 n4 c4) vr (.slice x2 n2 c2) ur b4 br b2 b5 W j1 j2 j3 j4)
  clear ih hk ha hb hd hle la lb lc ld
  obtain ⟨f, hf⟩ : ∃ f, f = a / b := ⟨_, rfl⟩
  obtain ⟨g, hg⟩ : ∃ f, f = c / d := ⟨_, rfl⟩
  obtain ⟨v, hv⟩ : ∃ f, f = a % b := ⟨_, rfl⟩
  obtain ⟨u, hu⟩ : ∃ f, f = c % d := ⟨_, rfl⟩
  obtain ⟨r, hr⟩ : ∃ r, r = sst d u b v := ⟨_, rfl⟩
  obtain ⟨z, hz⟩ : ∃ r, r = sst a b c d := ⟨_, rfl⟩
  rw [← hf] at lf
  rw [← hg] at lh
  rw [← hf, ← hv] at K1
  rw [← hg, ← hu] at K2
  rw [← hv, ← hu, ← hf, ← hg, ← hr, ← hz] at HQ
  rw [← hv, ← hu, ← hr] at KI
  rw [← hz]
  clear hf hg hv hu hr hz
  obtain ⟨LV, hLV⟩ : ∃ L, L = rep v := ⟨_, rfl⟩
  have hlen := (rep_eq_nil (x := v)).symm
  rw [← hLV] at hlen
  have HLV := hid hLV
  clear hLV
  obtain ⟨Q, hQ⟩ : ∃ Q, Q = Own2 (rep z.1) (rep z.2) w := ⟨_, rfl⟩
  rw [← hQ]
  have HP := hid hQ
  clear hQ
  rw [← HLV.out] at K1
  go_enter Tryz.func61, Tryz.ntmps61
  go_wp2_with fail
  (with_reducible refine (K1.out _ I1.out I2.out).mono ?_)
  rintro e w1 ⟨vf, vr, rfl, jf, jr, nd, hb⟩
  have B := hid hb
  have I2 := hid (Ints_old I2.out hb)
  have I3 := hid (Ints_old I3.out hb)
  have I4 := hid (Ints_old I4.out hb)
  have JF := hid jf
  have JR := hid jr
  obtain ⟨xf, nf, cf, rfl⟩ : ∃ (x : Option Addr) (n c : Nat), vf = .slice x n c := by obtain ⟨x, y, e, -⟩ := Ints_form jf; exact ⟨x, _, y, e⟩
  obtain ⟨xr, cr, rfl, -⟩ := Ints_form jr
  clear jf jr nd hb
  by_cases hv0 : v = 0
  · have hL0 : ((LV.length : Int) == 0) = true := by have := hlen.1 hv0; simp [this]
    have E := hid (HQ.out.1 hv0)
    clear hlen hv0
    go_wp2_with fail
    (with_reducible refine (of_n _).mono ?_)
    rintro e w2 ⟨v3, rfl, j3, hb⟩
    have R := hid (q_of HP.out (Own2_mk (w := w) (by rw [E.out]) (by rw [E.out]) (Ints_old JF.out hb) (Ints_base j3 B.out.size) (apart_of JF.out j3 (Nat.le_refl _)) (B.out.trans (hb.mono B.out.size))))
    obtain ⟨x3', c3', rfl, -⟩ := Ints_form j3
    clear j3 hb
    go_wp2_with fail
    exact R.out
  · have hL0 : ((LV.length : Int) == 0) = false := beq_eq_false_iff_ne.2 (by have := hlen.2; omega)
    have HV := hid hv0
    clear hlen hv0
    go_wp2_with fail
    (with_reducible refine (K2.out _ I3.out I4.out).mono ?_)
    rintro e w2 ⟨vg, vu, rfl, jg, ju, nd, hb⟩
    have JF := hid (Ints_old JF.out hb)
    have JR := hid (Ints_old JR.out hb)
    have I2 := hid (Ints_old I2.out hb)
    have I4 := hid (Ints_old I4.out hb)
    have hs1 := B.out.size
    have B := hid (B.out.trans (hb.mono B.out.size))
    have JG := hid jg
    have JU := hid ju
    obtain ⟨xg, ng, cg, rfl⟩ : ∃ (x : Option Addr) (n c : Nat), vg = .slice x n c := by obtain ⟨x, y, e, -⟩ := Ints_form jg; exact ⟨x, _, y, e⟩
    obtain ⟨xu, nu, cu, rfl⟩ : ∃ (x : Option Addr) (n c : Nat), vu = .slice x n c := by obtain ⟨x, y, e, -⟩ := Ints_form ju; exact ⟨x, _, y, e⟩
    clear jg ju nd hb
    have hss := sgn_lt (x := f) (y := g)
    have KC := hid (fun (W : World) (b1 b2 : Nat) (h1 : Ints W b1 (.slice xf nf cf) (rep f)) (h2 : Ints W b2 (.slice xg ng cg) (rep g)) => cmp_n lf lh h1 h2)
    obtain ⟨sg, hsg⟩ : ∃ s, s = sgn ((f : Int) - g) := ⟨_, rfl⟩
    rw [← hsg] at KC hss
    clear hsg
    go_wp2_with fail
    (with_reducible refine (KC.out _ _ _ JF.out JG.out).mono ?_)
    rintro e w3 ⟨rfl, hb⟩
    have JF := hid (Ints_old JF.out hb)
    have JR := hid (Ints_old JR.out hb)
    have JU := hid (Ints_old JU.out hb)
    have I2 := hid (Ints_old I2.out hb)
    have I4 := hid (Ints_old I4.out hb)
    have hs2 := B.out.size
    have B := hid (B.out.trans (hb.mono B.out.size))
    clear hb
    by_cases hlt : sg < 0
    · have E := hid (HQ.out.2.1 HV.out (hss.1 hlt))
      have KA := hid (fun (W : World) (b1 b2 : Nat) (v3 : Value) (h1 : Ints W b1 (.slice xf nf cf) (rep f)) (h2 : Ints W b2 v3 (rep 1)) => add_n lf (by decide) E.out.2 h1 h2)
      clear hss
      go_wp2_with fail
      (with_reducible refine (of_n _).mono ?_)
      rintro e w4 ⟨v3, rfl, j3, hb⟩
      have JF := hid (Ints_old JF.out hb)
      have hs3 := B.out.size
      have B := hid (B.out.trans (hb.mono B.out.size))
      have J3 := hid j3
      obtain ⟨y3, z3, rfl, -⟩ := Ints_form j3
      clear j3 hb
      go_wp2_with fail
      (with_reducible refine (KA.out _ _ _ _ JF.out J3.out).mono ?_)
      rintro e w5 ⟨v4, rfl, j4, hb⟩
      have hs4 := B.out.size
      have B := hid (B.out.trans (hb.mono B.out.size))
      have J4 := hid (Ints_base j4 hs4)
      obtain ⟨y4, z4, rfl, -⟩ := Ints_form j4
      clear j4 hb
      go_wp2_with fail
      (with_reducible refine (of_n _).mono ?_)
      rintro e w6 ⟨v5, rfl, j5, hb⟩
      have R := hid (q_of HP.out (Own2_mk (w := w) (by rw [E.out.1]) (by rw [E.out.1]) (Ints_old J4.out hb) (Ints_base j5 B.out.size) (apart_of J4.out j5 (Nat.le_refl _)) (B.out.trans (hb.mono B.out.size))))
      obtain ⟨y5, z5, rfl, -⟩ := Ints_form j5
      clear j5 hb
      go_wp2_with fail
      exact R.out
    · have E := hid (HQ.out.2.2 HV.out (fun e => hlt (hss.2 e)))
      clear hss
      obtain ⟨E0, e1, e2, e3, e4, e5, e6, e7, e8, e9, e10⟩ := E.out
      have E0 := hid E0
      have JR := hid (show Ints w3 _ (.slice xr LV.length cr) (rep v) from by rw [← HLV.out]; exact JR.out)
      have KJ := hid (KI.out e1 e2 e3 e4 e5 e6)
      have KM := hid (fun (W : World) (b1 b2 : Nat) (v3 : Value) (h1 : Ints W b1 (.slice xf nf cf) (rep f)) (h2 : Ints W b2 v3 (rep r.1)) => mul_n lf e7 e9 h1 h2)
      have KA := hid (fun (W : World) (b1 b2 : Nat) (v3 v4 : Value) (h1 : Ints W b1 v3 (rep (f * r.1))) (h2 : Ints W b2 v4 (rep r.2)) => add_n e9 e8 e10 h1 h2)
      clear e1 e2 e3 e4 e5 e6 e7 e8 e9 e10 E lf lh HQ KI K1 K2 KC
      go_wp2_with fail
      (with_reducible refine (KJ.out _ _ _ _ _ JU.out JR.out I4.out I2.out).mono ?_)
      rintro e w4 ⟨vp, vq, rfl, jp, jq, nd, hb⟩
      have JF := hid (Ints_old JF.out hb)
      have hs3 := B.out.size
      have B := hid (B.out.trans (hb.mono B.out.size))
      have JP := hid (Ints_base jp hs3)
      have JQ := hid jq
      obtain ⟨xp, np, cp, rfl⟩ : ∃ (x : Option Addr) (n c : Nat), vp = .slice x n c := by obtain ⟨x, y, e, -⟩ := Ints_form jp; exact ⟨x, _, y, e⟩
      obtain ⟨xq, nq, cq, rfl⟩ : ∃ (x : Option Addr) (n c : Nat), vq = .slice x n c := by obtain ⟨x, y, e, -⟩ := Ints_form jq; exact ⟨x, _, y, e⟩
      clear jp jq nd hb
      go_wp2_with fail
      (with_reducible refine (KM.out _ _ _ _ JF.out JP.out).mono ?_)
      rintro e w5 ⟨vm, rfl, jm, hb⟩
      have JP := hid (Ints_old JP.out hb)
      have JQ := hid (Ints_old JQ.out hb)
      have hs4 := B.out.size
      have B := hid (B.out.trans (hb.mono B.out.size))
      have JM := hid jm
      obtain ⟨xm, cm, rfl, -⟩ := Ints_form jm
      clear jm hb
      go_wp2_with fail
      (with_reducible refine (KA.out _ _ _ _ _ JM.out JQ.out).mono ?_)
      rintro e w6 ⟨vs, rfl, js, hb⟩
      have JP0 := hid JP.out
      have JP := hid (Ints_old JP.out hb)
      have ND := hid (fun k (h1 : vs.ownBlock = some k) (h2 : (Value.slice xp np cp).ownBlock = some k) => apart_of JP0.out js (Nat.le_refl _) k h2 h1)
      have R := hid (q_of HP.out (Own2_mk (w := w) (by rw [E0.out]) (by rw [E0.out]) (Ints_base js B.out.size) JP.out ND.out (B.out.trans (hb.mono B.out.size))))
      obtain ⟨xs, cs, rfl, -⟩ := Ints_form js
      clear js hb
      go_wp2_with fail
      exact R.out
end Go.Proofs.YtookglpeieennaaGreat
