/- The program's greatest common divisor: the walk. -/
import Derived.Test.YteanocjkdehhgaaGcd
namespace Go.Proofs.Yteanocjkdehhgaa
open Go.RowKit
open Go.Lib (hid)
set_option linter.unusedVariables false

theorem quiet_drew {P : Program} {f : FuncId} {args : Array Value} {w : World} {n : Nat} {v : Value}
    (h : Calls P f args (w.drewN n) (Drew v (w.drewN n))) : Calls P f args (w.drewN n) fun e w'' => e = .returned v ∧ ∃ m, w'' = w.drewN m :=
  h.mono fun _ _ ⟨he, d, hm⟩ => ⟨he, n + d, by rw [hm, World.drewN_drewN]⟩

theorem Two.mine {w : World} {h N1 N2 : Nat} {v1 v2 : Value} {X Y : List Int} (t : Two w h N1 N2 v1 v2 X Y) (hh : h ≤ w.heap.size) : ∀ k, v2.ownBlock = some k → ¬ Mine w N1 v1 k := by
  intro k hk
  rintro (e | e | e)
  · subst e; exact Ints_ne t.b.ints t.a.cell1 hk
  · exact t.apart k e hk
  · have := (Ints_lt t.b.ints k hk).2; omega

set_option maxRecDepth 100000 in
set_option maxHeartbeats 6400000 in
theorem impl_NatGcd (v u : Value) (A B : List Int) (hA : A.length ≤ 1073741824) (hB : B.length ≤ 1073741824) (b1 b2 : Nat) (w : World) (h1 : Ints w b1 v A) (h2 : Ints w b2 u B) :
    Calls Try.prog 149 #[v, u] w (OwnP (gcdR A B) w) := by
  have I1 := hid h1
  have I2 := hid h2
  obtain ⟨a, c, rfl, r1, -⟩ := slice_own h1
  obtain ⟨a', c', rfl, r2, -⟩ := slice_own h2
  have K1 := hid (impl_NatOk _ _ c A hA w r1)
  have K2 := hid (impl_NatOk _ _ c' B hB w r2)
  clear h1 h2 r1 r2
  obtain ⟨R, hR⟩ : ∃ R, R = gcdR A B := ⟨_, rfl⟩
  have HR := hid hR
  rw [← hR]
  clear hR
  cases e1 : nok A with
  | false =>
    have hE := hid (HR.out.trans (gcdR_no (.inl e1)))
    rw [e1] at K1
    clear e1
    go_enter Try.func149, Try.ntmps149
    go_wp2_with fail
    refine K1.out.mono ?_
    rintro e w1 ⟨rfl, rfl⟩
    go_wp2
    go_ret
    exact OwnP_mk rfl rfl (by rw [hE.out]; exact Ints_nil _ _) (Below.refl _ _)
  | true =>
    cases e2 : nok B with
    | false =>
      have hE := hid (HR.out.trans (gcdR_no (.inr e2)))
      rw [e1] at K1
      rw [e2] at K2
      clear e1 e2
      go_enter Try.func149, Try.ntmps149
      go_wp2_with fail
      refine K1.out.mono ?_
      rintro e w1 ⟨rfl, rfl⟩
      go_wp2_with fail
      refine K2.out.mono ?_
      rintro e w1 ⟨rfl, rfl⟩
      go_wp2
      go_ret
      exact OwnP_mk rfl rfl (by rw [hE.out]; exact Ints_nil _ _) (Below.refl _ _)
    | true =>
      have hE := hid (HR.out.trans (gcdR_yes e1 e2))
      have CA := hid (nok_iff.1 e1).2
      have CB := hid (nok_iff.1 e2).2
      have n1 := nok_len e1
      have n2 := nok_len e2
      rw [e1] at K1
      rw [e2] at K2
      clear e1 e2
      obtain ⟨g, hg⟩ : ∃ g, g = G (val A) (val B) := ⟨_, rfl⟩
      have HG := hid hg.symm
      rw [← hg] at hE
      clear hg
      go_enter Try.func149, Try.ntmps149
      go_wp2_with fail
      refine K1.out.mono ?_
      rintro e w1 ⟨rfl, rfl⟩
      go_wp2_with fail
      refine K2.out.mono ?_
      rintro e w1 ⟨rfl, rfl⟩
      go_wp2_with fail
      refine (newNat_own _ _ A hA _ I1.out).mono ?_
      rintro e w1 ⟨N1, v1, rfl, h1, bb1⟩
      have H1 := hid h1
      have B1 := hid bb1
      have I2 := hid (Ints_below I2.out bb1 fun k hk => (Ints_lt I2.out k hk).2)
      clear h1 bb1
      go_wp2_with fail
      refine (newNat_own _ _ B hB _ I2.out).mono ?_
      rintro e w2 ⟨N2, v2, rfl, h2, bb2⟩
      have TW := hid (Two.make H1.out B1.out h2 bb2)
      have BB := hid (B1.out.trans (bb2.mono B1.out.size))
      clear h2 bb2 H1 B1 I2 I1 K1 K2
      go_wp2
      go_loopw [5, 6] (fun x y wr => ∃ (M1 M2 : Nat) (x1 x2 : Value) (X Y : List Int), x = .pointer (some ⟨M1, 0, none⟩) ∧ y = .pointer (some ⟨M2, 0, none⟩) ∧ Two wr w.heap.size M1 M2 x1 x2 X Y ∧ Hid (Can X) ∧ Hid (Can Y) ∧ X.length ≤ 60 ∧ Y.length ≤ 60 ∧ Hid (G (val X) (val Y) = g) ∧ Below w.heap.size w wr) (fun _ y wr => (natAt wr (ptrOf y)).toNat)
      case atStart => exact ⟨N1, N2, v1, v2, A, B, rfl, rfl, TW.out, CA, CB, n1, n2, HG, BB.out⟩
      case round =>
        clear TW BB
        obtain ⟨M1, M2, x1, x2, X, Y, rfl, rfl, tw, CX, CY, nX, nY, HGG, hb⟩ := hrel
        have TW := hid tw
        have BB := hid hb
        have KS1 := hid (isSmall_any _ M1 x1 X _ tw.a)
        have KS2 := hid (isSmall_any _ M2 x2 Y _ tw.b)
        have MEA := hid (natAt_is tw.b)
        clear tw hb
        have key : (X.length ≤ 2 ∧ Y.length ≤ 2) ∨ ¬ (X.length ≤ 2 ∧ Y.length ≤ 2) := Classical.em _
        rcases key with ⟨sx, sy⟩ | hns
        · rw [decide_eq_true sx] at KS1
          rw [decide_eq_true sy] at KS2
          have bx := small_int CX.out sx
          have byy := small_int CY.out sy
          have cx := TW.out.a.cell
          have cy := TW.out.b.cell
          have lx := TW.out.a.ints
          have ly := TW.out.b.ints
          obtain ⟨ax, cx', rfl, -, rx, -⟩ := Ints_form lx
          obtain ⟨ay, cy', rfl, -, ry, -⟩ := Ints_form ly
          have KX := hid (limbsToInt_any ax X.length cx' X (by omega) wr.drew (RowI_drewN rx 1) CX.out.1 bx.2)
          have KY := hid (limbsToInt_any ay Y.length cy' Y (by omega) wr.drew (RowI_drewN ry 1) CY.out.1 byy.2)
          have KG := hid (fun W => intGcd_any (val X) (val Y) bx.1 byy.1 bx.2 byy.2 W)
          have hg0 := G_nonneg (val X) (val Y)
          have hg1 := G_le bx.1 byy.1 (show val X < 9223372036854775808 by omega) (show val Y < 9223372036854775808 by omega)
          rw [HGG.out] at KG hg0 hg1
          have KN := hid (fun W => impl_NatOf g (by omega) W)
          obtain ⟨p, hp⟩ : ∃ p, p = val X := ⟨_, rfl⟩
          obtain ⟨q, hq⟩ : ∃ q, q = val Y := ⟨_, rfl⟩
          rw [← hp] at KX KG
          rw [← hq] at KY KG
          clear hp hq bx byy lx ly rx ry hg0 hg1 sx sy
          go_wp2_with fail
          refine KS1.out.mono ?_
          rintro e w3 ⟨rfl, rfl⟩
          go_wp2_with fail
          refine KS2.out.mono ?_
          rintro e w3 ⟨rfl, rfl⟩
          go_wp2_with fail
          go_region_with (first | (go_at_call 157; (with_reducible refine KX.out.mono ?_); rintro e w3 ⟨rfl, rfl⟩) | (go_at_call 157; (with_reducible refine KY.out.mono ?_); rintro e w3 ⟨rfl, rfl⟩) | (go_at_call 156; (with_reducible refine (KG.out _).mono ?_); rintro e w3 ⟨rfl, d, rfl⟩) | (go_at_call 155; (with_reducible refine (KN.out _).mono ?_); rintro e w3 ⟨z, rfl, hz, hzb⟩))
          go_wp2
          all_goals go_ret
          all_goals (have hsz := BB.out.size)
          all_goals (have hz1 := Ints_base hz (show w.heap.size ≤ _ from hsz))
          all_goals exact ⟨z, rfl, by rw [hE.out]; exact hz1, (below_drewN BB.out _).trans (hzb.mono hsz)⟩
        · by_cases hx2 : X.length ≤ 2
          · have hy2 : ¬ Y.length ≤ 2 := fun h => hns ⟨hx2, h⟩
            rw [decide_eq_true hx2] at KS1
            rw [decide_eq_false hy2] at KS2
            clear hns
            go_wp2_with fail
            refine KS1.out.mono ?_
            rintro e w3 ⟨rfl, rfl⟩
            go_wp2_with fail
            refine KS2.out.mono ?_
            rintro e w3 ⟨rfl, rfl⟩
            by_cases hy0 : Y.length = 0
            · have hYn : Y = [] := List.length_eq_zero_iff.1 hy0
              have hyb : ((Y.length : Int) == 0) = true := beq_iff_eq.2 (by omega)
              have hXg := hid (show X = rep g.toNat by
                have h1 := HGG.out
                rw [hYn] at h1
                have h2 := G_zero (val_nonneg CX.out.1)
                rw [show val [] = 0 from rfl] at h1
                rw [← h1, h2, rep_val CX.out])
              have KR := hid ((result_any _ M1 x1 X wr TW.out.a).mono fun e w' h => ResP_short h nX)
              have cy := TW.out.b.cell
              obtain ⟨ay, cy', rfl, -, -, -⟩ := Ints_form TW.out.b.ints
              clear hy0 hYn
              go_wp2_with fail
              (with_reducible refine KR.out.mono ?_)
              rintro e w3 ⟨rfl, rfl⟩
              obtain ⟨ax, cx', hvx, -, -, -⟩ := Ints_form TW.out.a.ints
              have HXI : Ints wr w.heap.size (.slice ax X.length cx') X := hvx ▸ Ints_rebase TW.out.a.ints TW.out.a.own
              go_wp2
              go_ret
              exact OwnP_mk rfl rfl (by rw [hE.out, ← hXg.out]; exact HXI) BB.out
            · have hyb : ((Y.length : Int) == 0) = false := beq_eq_false_iff_ne.2 (by omega)
              have hYne : Y ≠ [] := by intro e; exact hy0 (by rw [e]; rfl)
              have hYp := hid (show 0 < val Y by
                have a1 := Can_ge CY.out hYne
                have a2 := pw_pos (Y.length - 1)
                omega)
              have hX0 := hid (val_nonneg CX.out.1)
              have cy := TW.out.b.cell
              have FM := hid (Two.mine TW.out BB.out.size)
              obtain ⟨ay, cy', rfl, -, ry, -⟩ := Ints_form TW.out.b.ints
              have KRd := hid (reduce_any (Mine wr M1 x1) M1 x1 X Y ay Y.length cy' (by omega) (by omega) CX.out CY.out hYne wr (TW.out.a.sub (.inl rfl) (fun k hk => .inr (.inl hk))) (fun k hk => .inr (.inr hk)) ry (fun z hz hs => FM.out z.block (by rw [hz]; rfl) hs))
              have N1 := hid (show 0 ≤ val X % val Y ∧ val X % val Y < val Y from ⟨Int.emod_nonneg _ (by have := hYp.out; omega), Int.emod_lt_of_pos _ hYp.out⟩)
              have N2 := hid ((G_rec hX0.out hYp.out).trans HGG.out)
              have N3 := hid (rep_len (V := val X % val Y) (by
                have a1 := (Can_len CY.out).1 nY
                have := N1.out.2
                omega))
              clear hy0 hYne ry
              go_wp2_with fail
              (with_reducible refine KRd.out.mono ?_)
              rintro e w4 ⟨rfl, ⟨x1', h4⟩, o4⟩
              have TW4 := hid (TW.out.step BB.out.size h4 o4)
              have BB4 := hid (BB.out.trans (o4.below fun k hk hs => by
                rcases hs with e | e | e
                · have a1 : w.heap.size ≤ M1 := TW.out.a.mine
                  omega
                · have a1 : w.heap.size ≤ k := TW.out.a.own k e
                  omega
                · have := BB.out.size
                  omega))
              clear h4 o4 KRd
              go_wp2
              go_roundw
              case rel =>
                have hvv := val_rep' N1.out.1
                exact ⟨M2, M1, _, x1', Y, _, rfl, rfl, TW4.out.swap, CY, hid (Can_rep _), nY, N3.out, hid (by rw [hvv]; exact N2.out), BB4.out⟩
              case measure =>
                have hvv := val_rep' N1.out.1
                have e1 : natAt w4 M1 = val X % val Y := by rw [natAt_is TW4.out.a, hvv]
                have e2 : natAt wr M2 = val Y := MEA.out
                have := N1.out
                simp only [ptrOf]
                rw [e1, e2]
                omega
          · rw [decide_eq_false hx2] at KS1
            clear hns KS2
            go_wp2_with fail
            refine KS1.out.mono ?_
            rintro e w3 ⟨rfl, rfl⟩
            by_cases hy0 : Y.length = 0
            · have hYn : Y = [] := List.length_eq_zero_iff.1 hy0
              have hyb : ((Y.length : Int) == 0) = true := beq_iff_eq.2 (by omega)
              have hXg := hid (show X = rep g.toNat by
                have h1 := HGG.out
                rw [hYn] at h1
                have h2 := G_zero (val_nonneg CX.out.1)
                rw [show val [] = 0 from rfl] at h1
                rw [← h1, h2, rep_val CX.out])
              have KR := hid ((result_any _ M1 x1 X wr TW.out.a).mono fun e w' h => ResP_short h nX)
              have cy := TW.out.b.cell
              obtain ⟨ay, cy', rfl, -, -, -⟩ := Ints_form TW.out.b.ints
              clear hy0 hYn
              go_wp2_with fail
              (with_reducible refine KR.out.mono ?_)
              rintro e w3 ⟨rfl, rfl⟩
              obtain ⟨ax, cx', hvx, -, -, -⟩ := Ints_form TW.out.a.ints
              have HXI : Ints wr w.heap.size (.slice ax X.length cx') X := hvx ▸ Ints_rebase TW.out.a.ints TW.out.a.own
              go_wp2
              go_ret
              exact OwnP_mk rfl rfl (by rw [hE.out, ← hXg.out]; exact HXI) BB.out
            · have hyb : ((Y.length : Int) == 0) = false := beq_eq_false_iff_ne.2 (by omega)
              have hYne : Y ≠ [] := by intro e; exact hy0 (by rw [e]; rfl)
              have hYp := hid (show 0 < val Y by
                have a1 := Can_ge CY.out hYne
                have a2 := pw_pos (Y.length - 1)
                omega)
              have hX0 := hid (val_nonneg CX.out.1)
              have cy := TW.out.b.cell
              have FM := hid (Two.mine TW.out BB.out.size)
              obtain ⟨ay, cy', rfl, -, ry, -⟩ := Ints_form TW.out.b.ints
              have KRd := hid (reduce_any (Mine wr M1 x1) M1 x1 X Y ay Y.length cy' (by omega) (by omega) CX.out CY.out hYne wr (TW.out.a.sub (.inl rfl) (fun k hk => .inr (.inl hk))) (fun k hk => .inr (.inr hk)) ry (fun z hz hs => FM.out z.block (by rw [hz]; rfl) hs))
              have N1 := hid (show 0 ≤ val X % val Y ∧ val X % val Y < val Y from ⟨Int.emod_nonneg _ (by have := hYp.out; omega), Int.emod_lt_of_pos _ hYp.out⟩)
              have N2 := hid ((G_rec hX0.out hYp.out).trans HGG.out)
              have N3 := hid (rep_len (V := val X % val Y) (by
                have a1 := (Can_len CY.out).1 nY
                have := N1.out.2
                omega))
              clear hy0 hYne ry
              go_wp2_with fail
              (with_reducible refine KRd.out.mono ?_)
              rintro e w4 ⟨rfl, ⟨x1', h4⟩, o4⟩
              have TW4 := hid (TW.out.step BB.out.size h4 o4)
              have BB4 := hid (BB.out.trans (o4.below fun k hk hs => by
                rcases hs with e | e | e
                · have a1 : w.heap.size ≤ M1 := TW.out.a.mine
                  omega
                · have a1 : w.heap.size ≤ k := TW.out.a.own k e
                  omega
                · have := BB.out.size
                  omega))
              clear h4 o4 KRd
              go_wp2
              go_roundw
              case rel =>
                have hvv := val_rep' N1.out.1
                exact ⟨M2, M1, _, x1', Y, _, rfl, rfl, TW4.out.swap, CY, hid (Can_rep _), nY, N3.out, hid (by rw [hvv]; exact N2.out), BB4.out⟩
              case measure =>
                have hvv := val_rep' N1.out.1
                have e1 : natAt w4 M1 = val X % val Y := by rw [natAt_is TW4.out.a, hvv]
                have e2 : natAt wr M2 = val Y := MEA.out
                have := N1.out
                simp only [ptrOf]
                rw [e1, e2]
                omega
end Go.Proofs.Yteanocjkdehhgaa
