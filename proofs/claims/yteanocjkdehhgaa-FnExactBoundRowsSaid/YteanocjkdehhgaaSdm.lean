/- Merged: LAdd Sde Sdf Sdg. -/
import Derived.Test.YteanocjkdehhgaaSpm
import Derived.Test.YteanocjkdehhgaaSdd
import Derived.Test.YteanocjkdehhgaaGcd
/- The walks of the laws of the exact functions with two numbers. -/
namespace Go.Proofs.Yteanocjkdehhgaa
open Go.RowKit
open Go.Lib (hid)
set_option linter.unusedVariables false

theorem capped_len {V : Int} : (capped V).length ≤ 60 := by
  unfold capped
  split
  · exact rep_len (by assumption)
  · simp
theorem addR_len (A B : List Int) : (addR A B).length ≤ 60 := by
  unfold addR
  split
  · exact capped_len
  · simp
theorem mulR_len (A B : List Int) : (mulR A B).length ≤ 60 := by
  unfold mulR
  split
  · exact capped_len
  · simp
theorem subR_len (A B : List Int) : (subR A B).length ≤ 60 := by
  unfold subR
  split
  · next h =>
    simp only [Bool.and_eq_true, decide_eq_true_eq] at h
    have h1 := nok_lt h.1.1
    have h2 := val_nonneg (nok_lim h.1.2)
    exact rep_len (by omega)
  · simp

end Go.Proofs.Yteanocjkdehhgaa

/- The reference's NatDiv. -/
namespace Go.Proofs.Yteanocjkdehhgaa
open Go.RowKit
open Go.Lib (hid)
set_option linter.unusedVariables false

end Go.Proofs.Yteanocjkdehhgaa

/- The reference's greatest common divisor. -/
namespace Go.Proofs.Yteanocjkdehhgaa
open Go.RowKit
open Go.Lib (hid)
set_option linter.unusedVariables false

set_option maxRecDepth 100000 in
set_option maxHeartbeats 800000 in
theorem l02Plain_any (a b : Int) (ha : 0 ≤ a) (hb : 0 ≤ b) (ha1 : a ≤ 9223372036854775807) (hb1 : b ≤ 9223372036854775807) (w : World) :
    Calls Try.prog 134 #[.int .i64 a, .int .i64 b] w (OwnP (rep (G a b).toNat) w) := by
  obtain ⟨g, hg⟩ : ∃ g, g = G a b := ⟨_, rfl⟩
  have HG := hid hg.symm
  have hgl := hid (show g ≤ 9223372036854775807 by
    have := G_le ha hb (show a < 9223372036854775808 by omega) (show b < 9223372036854775808 by omega)
    omega)
  rw [← hg]
  clear hg
  have KN := hid (fun W => spec_NatOf g hgl.out W)
  have S0 := hid (show 0 ≤ a ∧ 0 ≤ b ∧ a ≤ 9223372036854775807 ∧ b ≤ 9223372036854775807 from ⟨ha, hb, ha1, hb1⟩)
  clear ha hb ha1 hb1
  go_enter Try.func134, Try.ntmps134
  go_wp2
  go_loopw [0, 1] (fun x y wr => ∃ (p q : Int) (d : Nat), x = .int .i64 p ∧ y = .int .i64 q ∧ Hid (0 ≤ p ∧ 0 ≤ q ∧ p ≤ 9223372036854775807 ∧ q ≤ 9223372036854775807) ∧ Hid (G p q = g) ∧ wr = w.drewN d) (fun _ y _ => (intOf y).toNat)
  case atStart => exact ⟨a, b, 0, rfl, rfl, S0, HG, rfl⟩
  case round =>
    obtain ⟨p, q, d, rfl, rfl, hs, hgg, rfl⟩ := hrel
    obtain ⟨p0, q0, p1, q1⟩ := hs.out
    by_cases hq : 0 < q
    · have hqn : q ≠ 0 := by omega
      have hqb : (q == 0) = false := beq_eq_false_iff_ne.2 hqn
      have HS := hid (G_rec p0 hq)
      have m0 := Int.emod_nonneg p hqn
      have m1 := Int.emod_lt_of_pos p hq
      have et : p.tmod q = p % q := Int.tmod_eq_emod_of_nonneg p0
      obtain ⟨m, hm⟩ : ∃ m, m = p % q := ⟨_, rfl⟩
      rw [← hm] at HS m0 m1 et
      have em : p % q = m := hm.symm
      have wm : IntKind.i64.wrap m = m := IntWalk.i64_in _ (by omega)
      clear hm
      go_wp2
      go_roundw
      case rel => exact ⟨q, m, d, rfl, rfl, hid ⟨q0, m0, q1, by omega⟩, hid (HS.out.trans hgg.out), rfl⟩
      case measure => simp [intOf]; omega
    · have hq0 : q = 0 := by omega
      have hE := hid (show g = p by rw [← hgg.out, hq0]; exact (G_zero p0))
      subst hq0
      rw [hE.out] at KN
      go_wp2_with fail
      (with_reducible refine (KN.out _).mono ?_)
      rintro e w1 ⟨v, rfl, hi, hb⟩
      go_wp2
      go_ret
      rw [hE.out]
      exact ⟨v, rfl, hi, (below_drewN (Below.refl w.heap.size w) d).trans hb⟩
end Go.Proofs.Yteanocjkdehhgaa

/- The reference's greatest common divisor: the walk. -/
namespace Go.Proofs.Yteanocjkdehhgaa
open Go.RowKit
open Go.Lib (hid)
set_option linter.unusedVariables false

theorem listAt_is {w : World} {B : Nat} {v : Value} {L : List Int} (h : Ints w B v L) : listAt w v = L := by
  rcases Ints_cases h with ⟨rfl, rfl⟩ | ⟨g, c, rfl, -, -, -⟩
  · rfl
  · apply List.ext_getElem
    · simp [listAt]
    · intro i h1 h2
      have := Ints_cell h h2
      simp [listAt, this]

set_option maxRecDepth 100000 in
set_option maxHeartbeats 12800000 in
theorem l02Gcd_any (v u : Value) (A B : List Int) (nA : A.length ≤ 60) (nB : B.length ≤ 60) (cA : Can A) (cB : Can B) (b1 b2 : Nat) (w : World) (h1 : Ints w b1 v A) (h2 : Ints w b2 u B) :
    Calls Try.prog 127 #[v, u] w (OwnP (rep (G (val A) (val B)).toNat) w) := by
  obtain ⟨i3, hi, hz0, hz1, hz2⟩ := info_parts Try.info3
  have CA := hid cA
  have CB := hid cB
  obtain ⟨g, hg⟩ : ∃ g, g = G (val A) (val B) := ⟨_, rfl⟩
  have HG := hid hg.symm
  rw [← hg]
  clear hg cA cB
  have H1 := hid h1
  have H2 := hid h2
  rcases Ints_cases h1 with ⟨rfl, rfl⟩ | ⟨g1, c1, rfl, -, hg1, hc1⟩
  · rcases Ints_cases h2 with ⟨rfl, rfl⟩ | ⟨g2, c2, rfl, -, hg2, hc2⟩
    · clear h1 h2
      have hBL : Below w.heap.size w ((w.alloc (.cells #[] 3)).alloc (.cells #[] 3)) := ((Below.refl w.heap.size w).alloc (Nat.le_refl _) _).alloc (by simp) _
      have hX0 : Ints ((w.alloc (.cells #[] 3)).alloc (.cells #[] 3)) w.heap.size (.slice (some ⟨w.heap.size, 0, none⟩) 0 0) [] := Ints_below (Ints_lit0 (w := w) rfl) ((Below.refl _ _).alloc (Nat.le_refl _) _) fun k hk => (Ints_lt (Ints_lit0 (w := w) rfl) k hk).2
      have hY0 : Ints ((w.alloc (.cells #[] 3)).alloc (.cells #[] 3)) w.heap.size (.slice (some ⟨w.heap.size + 1, 0, none⟩) 0 0) [] := by
        have := Ints_lit0 (w := w.alloc (.cells #[] 3)) rfl
        have hs : (w.alloc (.cells #[] 3)).heap.size = w.heap.size + 1 := by simp
        rw [hs] at this
        exact Ints_base this (Nat.le_succ _)
      clear H1 H2
      go_enter Try.func127, Try.ntmps127
      go_wp2
      generalize (w.alloc (.cells #[] 3)).alloc (.cells #[] 3) = wl at hBL hX0 hY0 ⊢
      have HBL := hid hBL
      have HX0 := hid hX0
      have HY0 := hid hY0
      clear hBL hX0 hY0
      go_loopw [5, 6] (fun x y wr => ∃ X Y : List Int, Ints wr w.heap.size x X ∧ Ints wr w.heap.size y Y ∧ Hid (Can X) ∧ Hid (Can Y) ∧ X.length ≤ 60 ∧ Y.length ≤ 60 ∧ Hid (G (val X) (val Y) = g) ∧ Below w.heap.size w wr) (fun _ y wr => (val (listAt wr y)).toNat)
      case atStart => exact ⟨_, _, HX0.out, HY0.out, CA, CB, nA, nB, HG, HBL.out⟩
      case round =>
        clear HBL HX0 HY0
        obtain ⟨X, Y, hx, hy, CX, CY, nX, nY, HGG, hb⟩ := hrel
        have HB := hid hb
        have MEA := hid (listAt_is hy)
        obtain ⟨ax, cx, rfl, -, rx, -⟩ := Ints_form hx
        obtain ⟨ay, cy, rfl, -, ry, -⟩ := Ints_form hy
        have HX := hid hx
        have HY := hid hy
        have RX := hid rx
        have RY := hid ry
        clear hx hy rx ry hb
        by_cases hy0 : Y.length = 0
        · have hYn : Y = [] := List.length_eq_zero_iff.1 hy0
          have hyb : ¬ (0 : Int) < Y.length := by omega
          have hXg := hid (show X = rep g.toNat by
            have h1 := HGG.out
            rw [hYn] at h1
            have h2 := G_zero (val_nonneg CX.out.1)
            rw [show val [] = 0 from rfl] at h1
            rw [← h1, h2, rep_val CX.out])
          clear hy0 hYn
          go_wp2
          go_ret
          exact ⟨_, rfl, by rw [← hXg.out]; exact HX.out, HB.out⟩
        · have hyb : (0 : Int) < Y.length := by omega
          have hYne : Y ≠ [] := by intro e; exact hy0 (by rw [e]; rfl)
          have hYp := hid (show 0 < val Y by
            have a1 := Can_ge CY.out hYne
            have a2 := pw_pos (Y.length - 1)
            omega)
          have hX0 := hid (val_nonneg CX.out.1)
          have N1 := hid (show 0 ≤ val X % val Y ∧ val X % val Y < val Y from ⟨Int.emod_nonneg _ (by have := hYp.out; omega), Int.emod_lt_of_pos _ hYp.out⟩)
          have N2 := hid ((G_rec hX0.out hYp.out).trans HGG.out)
          have NV := hid (val_rep' N1.out.1)
          have N3 := hid (rep_len (V := val X % val Y) (by
            have a1 := (Can_len CY.out).1 nY
            have := N1.out.2
            omega))
          clear hy0 hYne
          by_cases sx : X.length < 3
          · have sx' : (X.length : Int) < 3 := by omega
            by_cases sy : Y.length < 3
            · have sy' : (Y.length : Int) < 3 := by omega
              have bx := small_int CX.out (by omega)
              have byy := small_int CY.out (by omega)
              have mI : maxI = 9223372036854775807 := rfl
              have tx := ti_yes (L := X) (nok_iff.2 ⟨nX, CX.out⟩) (by omega)
              have ty := ti_yes (L := Y) (nok_iff.2 ⟨nY, CY.out⟩) (by omega)
              have KX := hid (spec_NatToInt ax X.length cx X (by omega) wr RX.out)
              have KY := hid (fun (W : World) (h : Below wr.heap.size wr W) => spec_NatToInt ay Y.length cy Y (by omega) W (RowI_old RY.out h))
              rw [tx.1, tx.2] at KX
              rw [ty.1, ty.2] at KY
              have KP := hid (fun W => l02Plain_any (val X) (val Y) bx.1 byy.1 bx.2 byy.2 W)
              rw [HGG.out] at KP
              obtain ⟨p, hp⟩ : ∃ p, p = val X := ⟨_, rfl⟩
              obtain ⟨q, hq⟩ : ∃ q, q = val Y := ⟨_, rfl⟩
              rw [← hp] at KX KP
              rw [← hq] at KY KP
              clear hp hq bx byy tx ty sx sy mI
              go_wp2_with fail
              (with_reducible refine KX.out.mono ?_)
              rintro e w3 ⟨rfl, hb3⟩
              have HB3 := hid hb3
              clear hb3
              go_wp2_with fail
              (with_reducible refine (KY.out _ HB3.out).mono ?_)
              rintro e w4 ⟨rfl, hb4⟩
              have HB4 := hid (HB3.out.trans (hb4.mono HB3.out.size))
              clear hb4
              go_wp2_with fail
              (with_reducible refine (KP.out _).mono ?_)
              rintro e w5 ⟨v5, rfl, hi5, hb5⟩
              go_wp2
              go_ret
              have hs4 := Nat.le_trans HB.out.size HB4.out.size
              exact ⟨_, rfl, Ints_base hi5 hs4, (HB.out.trans (HB4.out.mono HB.out.size)).trans (hb5.mono hs4)⟩
            · have sy' : ¬ (Y.length : Int) < 3 := by omega
              clear sx sy
              have KD := hid (l02Div_any ax ay X.length Y.length cx cy X Y nX nY CX.out.1 CY.out hYp.out wr RX.out RY.out)
              go_wp2_with fail
              (with_reducible refine KD.out.mono ?_)
              rintro e w2 ⟨v2, u2, rfl, i1, i2, hb2⟩
              have HY2 := hid (Ints_below HY.out hb2 fun k hk => (Ints_lt HY.out k hk).2)
              have HU2 := hid (Ints_base i2 HB.out.size)
              have HB2 := hid (HB.out.trans (hb2.mono HB.out.size))
              clear i1 i2 hb2 KD
              go_wp2
              go_roundw
              case rel => exact ⟨Y, _, HY2.out, HU2.out, CY, hid (Can_rep _), nY, N3.out, hid (by rw [NV.out]; exact N2.out), HB2.out⟩
              case measure =>
                have e1 := listAt_is HU2.out
                rw [MEA.out, e1, NV.out]
                have := N1.out
                omega
          · have sx' : ¬ (X.length : Int) < 3 := by omega
            clear sx
            have KD := hid (l02Div_any ax ay X.length Y.length cx cy X Y nX nY CX.out.1 CY.out hYp.out wr RX.out RY.out)
            go_wp2_with fail
            (with_reducible refine KD.out.mono ?_)
            rintro e w2 ⟨v2, u2, rfl, i1, i2, hb2⟩
            have HY2 := hid (Ints_below HY.out hb2 fun k hk => (Ints_lt HY.out k hk).2)
            have HU2 := hid (Ints_base i2 HB.out.size)
            have HB2 := hid (HB.out.trans (hb2.mono HB.out.size))
            clear i1 i2 hb2 KD
            go_wp2
            go_roundw
            case rel => exact ⟨Y, _, HY2.out, HU2.out, CY, hid (Can_rep _), nY, N3.out, hid (by rw [NV.out]; exact N2.out), HB2.out⟩
            case measure =>
              have e1 := listAt_is HU2.out
              rw [MEA.out, e1, NV.out]
              have := N1.out
              omega
    · clear h1 h2
      go_enter Try.func127, Try.ntmps127
      have hX1 := Ints_lit0 (w := w) rfl
      have hb1 : Below w.heap.size w (w.alloc (.cells #[] 3)) := (Below.refl _ _).alloc (Nat.le_refl _) _
      have HI2 := hid (Ints_below H2.out hb1 fun k hk => (Ints_lt H2.out k hk).2)
      have HX1 := hid hX1
      have HB1 := hid hb1
      have hs1 := hid (show w.heap.size ≤ (w.alloc (.cells #[] 3)).heap.size from hb1.size)
      clear hX1 hb1 H1 H2
      have HCb := hid (fun j (u : Value) (hu : (B.map (Value.int .i64))[j]? = some u) => show ((w.alloc (.cells #[] 3)).alloc (.cells #[] 3)).cell? ((⟨g2, 0, none⟩ : Addr).add j) = some u by
        rw [Go.WideShapes.add_plain, Nat.zero_add]
        rw [List.getElem?_map] at hu
        obtain ⟨x, hx, rfl⟩ := Option.map_eq_some_iff.1 hu
        obtain ⟨hj, rfl⟩ := List.getElem?_eq_some_iff.1 hx
        exact Ints_cell (Ints_below HI2.out ((Below.refl (w.alloc (.cells #[] 3)).heap.size (w.alloc (.cells #[] 3))).alloc (Nat.le_refl _) _) fun k hk => (Ints_lt HI2.out k hk).2) hj)
      have hsz : (w.alloc (.cells #[] 3)).heap.size = w.heap.size + 1 := by simp
      have LIb := hid (show Ints ((w.alloc (.cells #[] 3)).alloc (.cells #[] 3)) (w.heap.size + 1) (.slice (some ⟨w.heap.size + 1, 0, none⟩) 0 0) [] by
        have := Ints_lit0 (w := w.alloc (.cells #[] 3)) rfl
        rw [hsz] at this
        exact this)
      go_wp2_with (at_builtin; first | refine wpList_append_own_none rfl _ _ 22 rfl w.heap.size 3 i3 1 Try.underlying22 hi _ 0 [] rfl HX1.out rfl ?_ | refine wpList_append_own _ rfl _ _ 22 rfl (w.heap.size + 1) 3 i3 (.int .i64 0) 1 8 Try.underlying22 hi hz0 hz1 hz2 rfl (by decide) (.slice (some ⟨w.heap.size + 1, 0, none⟩) 0 0) 0 [] rfl LIb.out ⟨g2, 0, none⟩ B.length c2 (B.map (Value.int .i64)) rfl (by simp) ?c1b ?c2b ?c3b ?c4b ?c5b ?_)
      case c1b => exact HCb.out
      case c2b => intro u hu; obtain ⟨x, _, rfl⟩ := List.mem_map.1 hu; rfl
      case c3b => unfold maxLen; omega
      case c4b => omega
      case c5b => simp
      intro vb wl hown' hgrow _
      have Ib := hid (show Ints wl (w.heap.size + 1) vb B by unfold Ints; simpa using hown')
      have Bb := hid (show Below (w.heap.size + 1) (w.alloc (.cells #[] 3)) wl from ((Below.refl _ _).alloc (by rw [hsz]; exact Nat.le_refl _) _).grown hgrow (by simp) (fun k hk => by cases hk; exact Nat.le_refl _))
      clear hown' hgrow HCb LIb
      have hBL := HB1.out.trans (Bb.out.mono (Nat.le_succ _))
      have hX0 := Ints_below HX1.out Bb.out fun k hk => by have := (Ints_lt HX1.out k hk).2; rw [hsz] at this; exact this
      have hY0 := Ints_base Ib.out (Nat.le_succ w.heap.size)
      clear HX1 HB1 hs1 Ib Bb HI2 hsz
      go_wp2
      have HBL := hid hBL
      have HX0 := hid hX0
      have HY0 := hid hY0
      clear hBL hX0 hY0
      go_loopw [5, 6] (fun x y wr => ∃ X Y : List Int, Ints wr w.heap.size x X ∧ Ints wr w.heap.size y Y ∧ Hid (Can X) ∧ Hid (Can Y) ∧ X.length ≤ 60 ∧ Y.length ≤ 60 ∧ Hid (G (val X) (val Y) = g) ∧ Below w.heap.size w wr) (fun _ y wr => (val (listAt wr y)).toNat)
      case atStart => exact ⟨_, _, HX0.out, HY0.out, CA, CB, nA, nB, HG, HBL.out⟩
      case round =>
        clear HBL HX0 HY0
        obtain ⟨X, Y, hx, hy, CX, CY, nX, nY, HGG, hb⟩ := hrel
        have HB := hid hb
        have MEA := hid (listAt_is hy)
        obtain ⟨ax, cx, rfl, -, rx, -⟩ := Ints_form hx
        obtain ⟨ay, cy, rfl, -, ry, -⟩ := Ints_form hy
        have HX := hid hx
        have HY := hid hy
        have RX := hid rx
        have RY := hid ry
        clear hx hy rx ry hb
        by_cases hy0 : Y.length = 0
        · have hYn : Y = [] := List.length_eq_zero_iff.1 hy0
          have hyb : ¬ (0 : Int) < Y.length := by omega
          have hXg := hid (show X = rep g.toNat by
            have h1 := HGG.out
            rw [hYn] at h1
            have h2 := G_zero (val_nonneg CX.out.1)
            rw [show val [] = 0 from rfl] at h1
            rw [← h1, h2, rep_val CX.out])
          clear hy0 hYn
          go_wp2
          go_ret
          exact ⟨_, rfl, by rw [← hXg.out]; exact HX.out, HB.out⟩
        · have hyb : (0 : Int) < Y.length := by omega
          have hYne : Y ≠ [] := by intro e; exact hy0 (by rw [e]; rfl)
          have hYp := hid (show 0 < val Y by
            have a1 := Can_ge CY.out hYne
            have a2 := pw_pos (Y.length - 1)
            omega)
          have hX0 := hid (val_nonneg CX.out.1)
          have N1 := hid (show 0 ≤ val X % val Y ∧ val X % val Y < val Y from ⟨Int.emod_nonneg _ (by have := hYp.out; omega), Int.emod_lt_of_pos _ hYp.out⟩)
          have N2 := hid ((G_rec hX0.out hYp.out).trans HGG.out)
          have NV := hid (val_rep' N1.out.1)
          have N3 := hid (rep_len (V := val X % val Y) (by
            have a1 := (Can_len CY.out).1 nY
            have := N1.out.2
            omega))
          clear hy0 hYne
          by_cases sx : X.length < 3
          · have sx' : (X.length : Int) < 3 := by omega
            by_cases sy : Y.length < 3
            · have sy' : (Y.length : Int) < 3 := by omega
              have bx := small_int CX.out (by omega)
              have byy := small_int CY.out (by omega)
              have mI : maxI = 9223372036854775807 := rfl
              have tx := ti_yes (L := X) (nok_iff.2 ⟨nX, CX.out⟩) (by omega)
              have ty := ti_yes (L := Y) (nok_iff.2 ⟨nY, CY.out⟩) (by omega)
              have KX := hid (spec_NatToInt ax X.length cx X (by omega) wr RX.out)
              have KY := hid (fun (W : World) (h : Below wr.heap.size wr W) => spec_NatToInt ay Y.length cy Y (by omega) W (RowI_old RY.out h))
              rw [tx.1, tx.2] at KX
              rw [ty.1, ty.2] at KY
              have KP := hid (fun W => l02Plain_any (val X) (val Y) bx.1 byy.1 bx.2 byy.2 W)
              rw [HGG.out] at KP
              obtain ⟨p, hp⟩ : ∃ p, p = val X := ⟨_, rfl⟩
              obtain ⟨q, hq⟩ : ∃ q, q = val Y := ⟨_, rfl⟩
              rw [← hp] at KX KP
              rw [← hq] at KY KP
              clear hp hq bx byy tx ty sx sy mI
              go_wp2_with fail
              (with_reducible refine KX.out.mono ?_)
              rintro e w3 ⟨rfl, hb3⟩
              have HB3 := hid hb3
              clear hb3
              go_wp2_with fail
              (with_reducible refine (KY.out _ HB3.out).mono ?_)
              rintro e w4 ⟨rfl, hb4⟩
              have HB4 := hid (HB3.out.trans (hb4.mono HB3.out.size))
              clear hb4
              go_wp2_with fail
              (with_reducible refine (KP.out _).mono ?_)
              rintro e w5 ⟨v5, rfl, hi5, hb5⟩
              go_wp2
              go_ret
              have hs4 := Nat.le_trans HB.out.size HB4.out.size
              exact ⟨_, rfl, Ints_base hi5 hs4, (HB.out.trans (HB4.out.mono HB.out.size)).trans (hb5.mono hs4)⟩
            · have sy' : ¬ (Y.length : Int) < 3 := by omega
              clear sx sy
              have KD := hid (l02Div_any ax ay X.length Y.length cx cy X Y nX nY CX.out.1 CY.out hYp.out wr RX.out RY.out)
              go_wp2_with fail
              (with_reducible refine KD.out.mono ?_)
              rintro e w2 ⟨v2, u2, rfl, i1, i2, hb2⟩
              have HY2 := hid (Ints_below HY.out hb2 fun k hk => (Ints_lt HY.out k hk).2)
              have HU2 := hid (Ints_base i2 HB.out.size)
              have HB2 := hid (HB.out.trans (hb2.mono HB.out.size))
              clear i1 i2 hb2 KD
              go_wp2
              go_roundw
              case rel => exact ⟨Y, _, HY2.out, HU2.out, CY, hid (Can_rep _), nY, N3.out, hid (by rw [NV.out]; exact N2.out), HB2.out⟩
              case measure =>
                have e1 := listAt_is HU2.out
                rw [MEA.out, e1, NV.out]
                have := N1.out
                omega
          · have sx' : ¬ (X.length : Int) < 3 := by omega
            clear sx
            have KD := hid (l02Div_any ax ay X.length Y.length cx cy X Y nX nY CX.out.1 CY.out hYp.out wr RX.out RY.out)
            go_wp2_with fail
            (with_reducible refine KD.out.mono ?_)
            rintro e w2 ⟨v2, u2, rfl, i1, i2, hb2⟩
            have HY2 := hid (Ints_below HY.out hb2 fun k hk => (Ints_lt HY.out k hk).2)
            have HU2 := hid (Ints_base i2 HB.out.size)
            have HB2 := hid (HB.out.trans (hb2.mono HB.out.size))
            clear i1 i2 hb2 KD
            go_wp2
            go_roundw
            case rel => exact ⟨Y, _, HY2.out, HU2.out, CY, hid (Can_rep _), nY, N3.out, hid (by rw [NV.out]; exact N2.out), HB2.out⟩
            case measure =>
              have e1 := listAt_is HU2.out
              rw [MEA.out, e1, NV.out]
              have := N1.out
              omega
  · rcases Ints_cases h2 with ⟨rfl, rfl⟩ | ⟨g2, c2, rfl, -, hg2, hc2⟩
    · clear h1 h2
      go_enter Try.func127, Try.ntmps127
      have HCa := hid (fun j (u : Value) (hu : (A.map (Value.int .i64))[j]? = some u) => show (w.alloc (.cells #[] 3)).cell? ((⟨g1, 0, none⟩ : Addr).add j) = some u by
        rw [Go.WideShapes.add_plain, Nat.zero_add]
        rw [List.getElem?_map] at hu
        obtain ⟨x, hx, rfl⟩ := Option.map_eq_some_iff.1 hu
        obtain ⟨hj, rfl⟩ := List.getElem?_eq_some_iff.1 hx
        exact Ints_cell (Ints_below H1.out ((Below.refl w.heap.size w).alloc (Nat.le_refl _) _) fun k hk => (Ints_lt H1.out k hk).2) hj)
      have LIa := hid (Ints_lit0 (w := w) rfl)
      go_wp2_with (at_builtin; refine wpList_append_own _ rfl _ _ 22 rfl w.heap.size 3 i3 (.int .i64 0) 1 8 Try.underlying22 hi hz0 hz1 hz2 rfl (by decide) (.slice (some ⟨w.heap.size, 0, none⟩) 0 0) 0 [] rfl LIa.out ⟨g1, 0, none⟩ A.length c1 (A.map (Value.int .i64)) rfl (by simp) ?c1a ?c2a ?c3a ?c4a ?c5a ?_)
      case c1a => exact HCa.out
      case c2a => intro u hu; obtain ⟨x, _, rfl⟩ := List.mem_map.1 hu; rfl
      case c3a => unfold maxLen; omega
      case c4a => omega
      case c5a => simp
      intro va w1 hown' hgrow _
      have Ia := hid (show Ints w1 w.heap.size va A by unfold Ints; simpa using hown')
      have Ba := hid (show Below w.heap.size w w1 from ((Below.refl _ _).alloc (Nat.le_refl _) _).grown hgrow (by simp) (fun k hk => by cases hk; exact Nat.le_refl _))
      clear hown' hgrow HCa LIa
      have hBL : Below w.heap.size w (w1.alloc (.cells #[] 3)) := Ba.out.alloc Ba.out.size _
      have hX0 : Ints (w1.alloc (.cells #[] 3)) w.heap.size va A := Ints_below Ia.out ((Below.refl _ _).alloc (Nat.le_refl _) _) fun k hk => (Ints_lt Ia.out k hk).2
      have hY0 : Ints (w1.alloc (.cells #[] 3)) w.heap.size (.slice (some ⟨w1.heap.size, 0, none⟩) 0 0) [] := Ints_base (Ints_lit0 (w := w1) rfl) Ba.out.size
      clear Ia Ba H1 H2
      go_wp2
      generalize w1.alloc (.cells #[] 3) = wl at hBL hX0 hY0 ⊢
      have HBL := hid hBL
      have HX0 := hid hX0
      have HY0 := hid hY0
      clear hBL hX0 hY0
      go_loopw [5, 6] (fun x y wr => ∃ X Y : List Int, Ints wr w.heap.size x X ∧ Ints wr w.heap.size y Y ∧ Hid (Can X) ∧ Hid (Can Y) ∧ X.length ≤ 60 ∧ Y.length ≤ 60 ∧ Hid (G (val X) (val Y) = g) ∧ Below w.heap.size w wr) (fun _ y wr => (val (listAt wr y)).toNat)
      case atStart => exact ⟨_, _, HX0.out, HY0.out, CA, CB, nA, nB, HG, HBL.out⟩
      case round =>
        clear HBL HX0 HY0
        obtain ⟨X, Y, hx, hy, CX, CY, nX, nY, HGG, hb⟩ := hrel
        have HB := hid hb
        have MEA := hid (listAt_is hy)
        obtain ⟨ax, cx, rfl, -, rx, -⟩ := Ints_form hx
        obtain ⟨ay, cy, rfl, -, ry, -⟩ := Ints_form hy
        have HX := hid hx
        have HY := hid hy
        have RX := hid rx
        have RY := hid ry
        clear hx hy rx ry hb
        by_cases hy0 : Y.length = 0
        · have hYn : Y = [] := List.length_eq_zero_iff.1 hy0
          have hyb : ¬ (0 : Int) < Y.length := by omega
          have hXg := hid (show X = rep g.toNat by
            have h1 := HGG.out
            rw [hYn] at h1
            have h2 := G_zero (val_nonneg CX.out.1)
            rw [show val [] = 0 from rfl] at h1
            rw [← h1, h2, rep_val CX.out])
          clear hy0 hYn
          go_wp2
          go_ret
          exact ⟨_, rfl, by rw [← hXg.out]; exact HX.out, HB.out⟩
        · have hyb : (0 : Int) < Y.length := by omega
          have hYne : Y ≠ [] := by intro e; exact hy0 (by rw [e]; rfl)
          have hYp := hid (show 0 < val Y by
            have a1 := Can_ge CY.out hYne
            have a2 := pw_pos (Y.length - 1)
            omega)
          have hX0 := hid (val_nonneg CX.out.1)
          have N1 := hid (show 0 ≤ val X % val Y ∧ val X % val Y < val Y from ⟨Int.emod_nonneg _ (by have := hYp.out; omega), Int.emod_lt_of_pos _ hYp.out⟩)
          have N2 := hid ((G_rec hX0.out hYp.out).trans HGG.out)
          have NV := hid (val_rep' N1.out.1)
          have N3 := hid (rep_len (V := val X % val Y) (by
            have a1 := (Can_len CY.out).1 nY
            have := N1.out.2
            omega))
          clear hy0 hYne
          by_cases sx : X.length < 3
          · have sx' : (X.length : Int) < 3 := by omega
            by_cases sy : Y.length < 3
            · have sy' : (Y.length : Int) < 3 := by omega
              have bx := small_int CX.out (by omega)
              have byy := small_int CY.out (by omega)
              have mI : maxI = 9223372036854775807 := rfl
              have tx := ti_yes (L := X) (nok_iff.2 ⟨nX, CX.out⟩) (by omega)
              have ty := ti_yes (L := Y) (nok_iff.2 ⟨nY, CY.out⟩) (by omega)
              have KX := hid (spec_NatToInt ax X.length cx X (by omega) wr RX.out)
              have KY := hid (fun (W : World) (h : Below wr.heap.size wr W) => spec_NatToInt ay Y.length cy Y (by omega) W (RowI_old RY.out h))
              rw [tx.1, tx.2] at KX
              rw [ty.1, ty.2] at KY
              have KP := hid (fun W => l02Plain_any (val X) (val Y) bx.1 byy.1 bx.2 byy.2 W)
              rw [HGG.out] at KP
              obtain ⟨p, hp⟩ : ∃ p, p = val X := ⟨_, rfl⟩
              obtain ⟨q, hq⟩ : ∃ q, q = val Y := ⟨_, rfl⟩
              rw [← hp] at KX KP
              rw [← hq] at KY KP
              clear hp hq bx byy tx ty sx sy mI
              go_wp2_with fail
              (with_reducible refine KX.out.mono ?_)
              rintro e w3 ⟨rfl, hb3⟩
              have HB3 := hid hb3
              clear hb3
              go_wp2_with fail
              (with_reducible refine (KY.out _ HB3.out).mono ?_)
              rintro e w4 ⟨rfl, hb4⟩
              have HB4 := hid (HB3.out.trans (hb4.mono HB3.out.size))
              clear hb4
              go_wp2_with fail
              (with_reducible refine (KP.out _).mono ?_)
              rintro e w5 ⟨v5, rfl, hi5, hb5⟩
              go_wp2
              go_ret
              have hs4 := Nat.le_trans HB.out.size HB4.out.size
              exact ⟨_, rfl, Ints_base hi5 hs4, (HB.out.trans (HB4.out.mono HB.out.size)).trans (hb5.mono hs4)⟩
            · have sy' : ¬ (Y.length : Int) < 3 := by omega
              clear sx sy
              have KD := hid (l02Div_any ax ay X.length Y.length cx cy X Y nX nY CX.out.1 CY.out hYp.out wr RX.out RY.out)
              go_wp2_with fail
              (with_reducible refine KD.out.mono ?_)
              rintro e w2 ⟨v2, u2, rfl, i1, i2, hb2⟩
              have HY2 := hid (Ints_below HY.out hb2 fun k hk => (Ints_lt HY.out k hk).2)
              have HU2 := hid (Ints_base i2 HB.out.size)
              have HB2 := hid (HB.out.trans (hb2.mono HB.out.size))
              clear i1 i2 hb2 KD
              go_wp2
              go_roundw
              case rel => exact ⟨Y, _, HY2.out, HU2.out, CY, hid (Can_rep _), nY, N3.out, hid (by rw [NV.out]; exact N2.out), HB2.out⟩
              case measure =>
                have e1 := listAt_is HU2.out
                rw [MEA.out, e1, NV.out]
                have := N1.out
                omega
          · have sx' : ¬ (X.length : Int) < 3 := by omega
            clear sx
            have KD := hid (l02Div_any ax ay X.length Y.length cx cy X Y nX nY CX.out.1 CY.out hYp.out wr RX.out RY.out)
            go_wp2_with fail
            (with_reducible refine KD.out.mono ?_)
            rintro e w2 ⟨v2, u2, rfl, i1, i2, hb2⟩
            have HY2 := hid (Ints_below HY.out hb2 fun k hk => (Ints_lt HY.out k hk).2)
            have HU2 := hid (Ints_base i2 HB.out.size)
            have HB2 := hid (HB.out.trans (hb2.mono HB.out.size))
            clear i1 i2 hb2 KD
            go_wp2
            go_roundw
            case rel => exact ⟨Y, _, HY2.out, HU2.out, CY, hid (Can_rep _), nY, N3.out, hid (by rw [NV.out]; exact N2.out), HB2.out⟩
            case measure =>
              have e1 := listAt_is HU2.out
              rw [MEA.out, e1, NV.out]
              have := N1.out
              omega
    · clear h1 h2
      go_enter Try.func127, Try.ntmps127
      have HCa := hid (fun j (u : Value) (hu : (A.map (Value.int .i64))[j]? = some u) => show (w.alloc (.cells #[] 3)).cell? ((⟨g1, 0, none⟩ : Addr).add j) = some u by
        rw [Go.WideShapes.add_plain, Nat.zero_add]
        rw [List.getElem?_map] at hu
        obtain ⟨x, hx, rfl⟩ := Option.map_eq_some_iff.1 hu
        obtain ⟨hj, rfl⟩ := List.getElem?_eq_some_iff.1 hx
        exact Ints_cell (Ints_below H1.out ((Below.refl w.heap.size w).alloc (Nat.le_refl _) _) fun k hk => (Ints_lt H1.out k hk).2) hj)
      have LIa := hid (Ints_lit0 (w := w) rfl)
      go_wp2_with (at_builtin; refine wpList_append_own _ rfl _ _ 22 rfl w.heap.size 3 i3 (.int .i64 0) 1 8 Try.underlying22 hi hz0 hz1 hz2 rfl (by decide) (.slice (some ⟨w.heap.size, 0, none⟩) 0 0) 0 [] rfl LIa.out ⟨g1, 0, none⟩ A.length c1 (A.map (Value.int .i64)) rfl (by simp) ?c1a ?c2a ?c3a ?c4a ?c5a ?_)
      case c1a => exact HCa.out
      case c2a => intro u hu; obtain ⟨x, _, rfl⟩ := List.mem_map.1 hu; rfl
      case c3a => unfold maxLen; omega
      case c4a => omega
      case c5a => simp
      intro va w1 hown' hgrow _
      have Ia := hid (show Ints w1 w.heap.size va A by unfold Ints; simpa using hown')
      have Ba := hid (show Below w.heap.size w w1 from ((Below.refl _ _).alloc (Nat.le_refl _) _).grown hgrow (by simp) (fun k hk => by cases hk; exact Nat.le_refl _))
      clear hown' hgrow HCa LIa
      have HI2 := hid (Ints_below H2.out Ba.out fun k hk => (Ints_lt H2.out k hk).2)
      clear H1 H2
      have HCb := hid (fun j (u : Value) (hu : (B.map (Value.int .i64))[j]? = some u) => show (w1.alloc (.cells #[] 3)).cell? ((⟨g2, 0, none⟩ : Addr).add j) = some u by
        rw [Go.WideShapes.add_plain, Nat.zero_add]
        rw [List.getElem?_map] at hu
        obtain ⟨x, hx, rfl⟩ := Option.map_eq_some_iff.1 hu
        obtain ⟨hj, rfl⟩ := List.getElem?_eq_some_iff.1 hx
        exact Ints_cell (Ints_below HI2.out ((Below.refl w1.heap.size w1).alloc (Nat.le_refl _) _) fun k hk => (Ints_lt HI2.out k hk).2) hj)
      have LIb := hid (Ints_lit0 (w := w1) rfl)
      go_wp2_with (at_builtin; refine wpList_append_own _ rfl _ _ 22 rfl w1.heap.size 3 i3 (.int .i64 0) 1 8 Try.underlying22 hi hz0 hz1 hz2 rfl (by decide) (.slice (some ⟨w1.heap.size, 0, none⟩) 0 0) 0 [] rfl LIb.out ⟨g2, 0, none⟩ B.length c2 (B.map (Value.int .i64)) rfl (by simp) ?c1b ?c2b ?c3b ?c4b ?c5b ?_)
      case c1b => exact HCb.out
      case c2b => intro u hu; obtain ⟨x, _, rfl⟩ := List.mem_map.1 hu; rfl
      case c3b => unfold maxLen; omega
      case c4b => omega
      case c5b => simp
      intro vb wl hown' hgrow _
      have Ib := hid (show Ints wl w1.heap.size vb B by unfold Ints; simpa using hown')
      have Bb := hid (show Below w1.heap.size w1 wl from ((Below.refl _ _).alloc (Nat.le_refl _) _).grown hgrow (by simp) (fun k hk => by cases hk; exact Nat.le_refl _))
      clear hown' hgrow HCb LIb
      have hBL := Ba.out.trans (Bb.out.mono Ba.out.size)
      have hX0 := Ints_below Ia.out Bb.out fun k hk => (Ints_lt Ia.out k hk).2
      have hY0 := Ints_base Ib.out Ba.out.size
      clear Ia Ba Ib Bb HI2
      go_wp2
      have HBL := hid hBL
      have HX0 := hid hX0
      have HY0 := hid hY0
      clear hBL hX0 hY0
      go_loopw [5, 6] (fun x y wr => ∃ X Y : List Int, Ints wr w.heap.size x X ∧ Ints wr w.heap.size y Y ∧ Hid (Can X) ∧ Hid (Can Y) ∧ X.length ≤ 60 ∧ Y.length ≤ 60 ∧ Hid (G (val X) (val Y) = g) ∧ Below w.heap.size w wr) (fun _ y wr => (val (listAt wr y)).toNat)
      case atStart => exact ⟨_, _, HX0.out, HY0.out, CA, CB, nA, nB, HG, HBL.out⟩
      case round =>
        clear HBL HX0 HY0
        obtain ⟨X, Y, hx, hy, CX, CY, nX, nY, HGG, hb⟩ := hrel
        have HB := hid hb
        have MEA := hid (listAt_is hy)
        obtain ⟨ax, cx, rfl, -, rx, -⟩ := Ints_form hx
        obtain ⟨ay, cy, rfl, -, ry, -⟩ := Ints_form hy
        have HX := hid hx
        have HY := hid hy
        have RX := hid rx
        have RY := hid ry
        clear hx hy rx ry hb
        by_cases hy0 : Y.length = 0
        · have hYn : Y = [] := List.length_eq_zero_iff.1 hy0
          have hyb : ¬ (0 : Int) < Y.length := by omega
          have hXg := hid (show X = rep g.toNat by
            have h1 := HGG.out
            rw [hYn] at h1
            have h2 := G_zero (val_nonneg CX.out.1)
            rw [show val [] = 0 from rfl] at h1
            rw [← h1, h2, rep_val CX.out])
          clear hy0 hYn
          go_wp2
          go_ret
          exact ⟨_, rfl, by rw [← hXg.out]; exact HX.out, HB.out⟩
        · have hyb : (0 : Int) < Y.length := by omega
          have hYne : Y ≠ [] := by intro e; exact hy0 (by rw [e]; rfl)
          have hYp := hid (show 0 < val Y by
            have a1 := Can_ge CY.out hYne
            have a2 := pw_pos (Y.length - 1)
            omega)
          have hX0 := hid (val_nonneg CX.out.1)
          have N1 := hid (show 0 ≤ val X % val Y ∧ val X % val Y < val Y from ⟨Int.emod_nonneg _ (by have := hYp.out; omega), Int.emod_lt_of_pos _ hYp.out⟩)
          have N2 := hid ((G_rec hX0.out hYp.out).trans HGG.out)
          have NV := hid (val_rep' N1.out.1)
          have N3 := hid (rep_len (V := val X % val Y) (by
            have a1 := (Can_len CY.out).1 nY
            have := N1.out.2
            omega))
          clear hy0 hYne
          by_cases sx : X.length < 3
          · have sx' : (X.length : Int) < 3 := by omega
            by_cases sy : Y.length < 3
            · have sy' : (Y.length : Int) < 3 := by omega
              have bx := small_int CX.out (by omega)
              have byy := small_int CY.out (by omega)
              have mI : maxI = 9223372036854775807 := rfl
              have tx := ti_yes (L := X) (nok_iff.2 ⟨nX, CX.out⟩) (by omega)
              have ty := ti_yes (L := Y) (nok_iff.2 ⟨nY, CY.out⟩) (by omega)
              have KX := hid (spec_NatToInt ax X.length cx X (by omega) wr RX.out)
              have KY := hid (fun (W : World) (h : Below wr.heap.size wr W) => spec_NatToInt ay Y.length cy Y (by omega) W (RowI_old RY.out h))
              rw [tx.1, tx.2] at KX
              rw [ty.1, ty.2] at KY
              have KP := hid (fun W => l02Plain_any (val X) (val Y) bx.1 byy.1 bx.2 byy.2 W)
              rw [HGG.out] at KP
              obtain ⟨p, hp⟩ : ∃ p, p = val X := ⟨_, rfl⟩
              obtain ⟨q, hq⟩ : ∃ q, q = val Y := ⟨_, rfl⟩
              rw [← hp] at KX KP
              rw [← hq] at KY KP
              clear hp hq bx byy tx ty sx sy mI
              go_wp2_with fail
              (with_reducible refine KX.out.mono ?_)
              rintro e w3 ⟨rfl, hb3⟩
              have HB3 := hid hb3
              clear hb3
              go_wp2_with fail
              (with_reducible refine (KY.out _ HB3.out).mono ?_)
              rintro e w4 ⟨rfl, hb4⟩
              have HB4 := hid (HB3.out.trans (hb4.mono HB3.out.size))
              clear hb4
              go_wp2_with fail
              (with_reducible refine (KP.out _).mono ?_)
              rintro e w5 ⟨v5, rfl, hi5, hb5⟩
              go_wp2
              go_ret
              have hs4 := Nat.le_trans HB.out.size HB4.out.size
              exact ⟨_, rfl, Ints_base hi5 hs4, (HB.out.trans (HB4.out.mono HB.out.size)).trans (hb5.mono hs4)⟩
            · have sy' : ¬ (Y.length : Int) < 3 := by omega
              clear sx sy
              have KD := hid (l02Div_any ax ay X.length Y.length cx cy X Y nX nY CX.out.1 CY.out hYp.out wr RX.out RY.out)
              go_wp2_with fail
              (with_reducible refine KD.out.mono ?_)
              rintro e w2 ⟨v2, u2, rfl, i1, i2, hb2⟩
              have HY2 := hid (Ints_below HY.out hb2 fun k hk => (Ints_lt HY.out k hk).2)
              have HU2 := hid (Ints_base i2 HB.out.size)
              have HB2 := hid (HB.out.trans (hb2.mono HB.out.size))
              clear i1 i2 hb2 KD
              go_wp2
              go_roundw
              case rel => exact ⟨Y, _, HY2.out, HU2.out, CY, hid (Can_rep _), nY, N3.out, hid (by rw [NV.out]; exact N2.out), HB2.out⟩
              case measure =>
                have e1 := listAt_is HU2.out
                rw [MEA.out, e1, NV.out]
                have := N1.out
                omega
          · have sx' : ¬ (X.length : Int) < 3 := by omega
            clear sx
            have KD := hid (l02Div_any ax ay X.length Y.length cx cy X Y nX nY CX.out.1 CY.out hYp.out wr RX.out RY.out)
            go_wp2_with fail
            (with_reducible refine KD.out.mono ?_)
            rintro e w2 ⟨v2, u2, rfl, i1, i2, hb2⟩
            have HY2 := hid (Ints_below HY.out hb2 fun k hk => (Ints_lt HY.out k hk).2)
            have HU2 := hid (Ints_base i2 HB.out.size)
            have HB2 := hid (HB.out.trans (hb2.mono HB.out.size))
            clear i1 i2 hb2 KD
            go_wp2
            go_roundw
            case rel => exact ⟨Y, _, HY2.out, HU2.out, CY, hid (Can_rep _), nY, N3.out, hid (by rw [NV.out]; exact N2.out), HB2.out⟩
            case measure =>
              have e1 := listAt_is HU2.out
              rw [MEA.out, e1, NV.out]
              have := N1.out
              omega
end Go.Proofs.Yteanocjkdehhgaa
