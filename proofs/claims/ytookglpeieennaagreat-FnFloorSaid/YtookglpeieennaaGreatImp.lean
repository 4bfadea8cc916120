/- The program's sum, difference and product. -/
import Derived.Test.YtookglpeieennaaGreatNat4
namespace Go.Proofs.YtookglpeieennaaGreat
open Go.RowKit
open Go.Lib (hid)
set_option linter.unusedVariables false
variable {Q : Rest}

theorem Ints_rebase {w : World} {B B' : Nat} {v : Value} {L : List Int} (h : Ints w B v L) (hb : ∀ k, v.ownBlock = some k → B' ≤ k) : Ints w B' v L := by
  refine ⟨h.1, ?_⟩
  rcases h.2 with g | ⟨b, cap, cur, h1, h2, h3⟩
  · exact .inl g
  · exact .inr ⟨b, cap, cur, h1, hb b (by rw [h1]; rfl), h3⟩
theorem slice_own {w : World} {B : Nat} {v : Value} {L : List Int} (h : Ints w B v L) : ∃ a c, v = .slice a L.length c ∧ RowI w a L.length L ∧ Apart (fun k => w.heap.size ≤ k) a := by
  obtain ⟨a, c, e, -, r, hb⟩ := Ints_form h
  exact ⟨a, c, e, r, fun x hx hs => by have := (hb x hx).2; omega⟩

/-- The result of a method's number: a slice of the call's own. -/
theorem OwnP_res {w w1 : World} {N : Nat} {v u : Value} {M T : List Int} {e : Ending} (hu : u = v ∧ T = M ∧ M.length ≤ 60 ∨ u = .slice none 0 0 ∧ T = [] ∧ 60 < M.length) (h : IsNat Q w1 (fun k => w.heap.size ≤ k) N v M) (hb : Below w.heap.size w w1) {V : Int} (h0 : 0 ≤ V) (hM : M = rep V.toNat)
    (he : e = .returned u) : OwnP (capped V) w e w1 := by
  rcases hu with ⟨rfl, rfl, hl⟩ | ⟨rfl, rfl, hl⟩
  · refine OwnP_mk rfl he ?_ hb
    rw [hM] at hl
    rw [capped_yes hl h0, ← hM]
    exact Ints_rebase h.ints h.own
  · refine OwnP_mk rfl he ?_ hb
    rw [hM] at hl
    rw [capped_no hl h0]
    exact Ints_nil _ _

def addR (A B : List Int) : List Int := if nok A && nok B then capped (val A + val B) else []
theorem addR_no {A B : List Int} (h : nok A = false ∨ nok B = false) : addR A B = [] := by
  unfold addR; rcases h with h | h <;> simp [h]
theorem addR_yes {A B : List Int} (h : nok A = true) (h' : nok B = true) : addR A B = capped (val A + val B) := by simp [addR, h, h']

theorem nok_len {L : List Int} (h : nok L = true) : L.length ≤ 60 := (nok_iff.1 h).1
theorem nok_lim {L : List Int} (h : nok L = true) : Lim L := (nok_iff.1 h).2.1

set_option maxRecDepth 100000 in
set_option maxHeartbeats 1600000 in
theorem impl_NatAdd (v u : Value) (A B : List Int) (hA : A.length ≤ 1073741824) (hB : B.length ≤ 1073741824) (b1 b2 : Nat) (w : World) (h1 : Ints w b1 v A) (h2 : Ints w b2 u B) :
    Calls Tryz.prog 111 #[v, u] w (OwnP (addR A B) w) := by
  have I1 := hid h1
  obtain ⟨a, c, rfl, r1, p1⟩ := slice_own h1
  obtain ⟨a', c', rfl, r2, p2⟩ := slice_own h2
  have K1 := hid (impl_NatOk _ _ c A hA w r1)
  have K2 := hid (impl_NatOk _ _ c' B hB w r2)
  have R2 := hid r2
  have P2 := hid p2
  clear h1 h2 r1 r2 p1 p2
  obtain ⟨R, hR⟩ : ∃ R, R = addR A B := ⟨_, rfl⟩
  have HR := hid hR
  rw [← hR]
  clear hR
  cases e1 : nok A with
  | false =>
    have hE := hid (HR.out.trans (addR_no (.inl e1)))
    rw [e1] at K1
    clear e1
    go_enter Tryz.func111, Tryz.ntmps111
    go_wp2_with fail
    refine K1.out.mono ?_
    rintro e w1 ⟨rfl, rfl⟩
    go_wp2
    go_ret
    exact OwnP_mk rfl rfl (by rw [hE.out]; exact Ints_nil _ _) (Below.refl _ _)
  | true =>
    cases e2 : nok B with
    | false =>
      have hE := hid (HR.out.trans (addR_no (.inr e2)))
      rw [e1] at K1
      rw [e2] at K2
      clear e1 e2
      go_enter Tryz.func111, Tryz.ntmps111
      go_wp2_with fail
      refine K1.out.mono ?_
      rintro e w1 ⟨rfl, rfl⟩
      go_wp2_with fail
      refine K2.out.mono ?_
      rintro e w1 ⟨rfl, rfl⟩
      go_wp2
      go_ret
      exact OwnP_mk rfl rfl (by rw [hE.out]; exact Ints_nil _ _) (Below.refl _ _)
    | true =>
      have hE := hid (HR.out.trans (addR_yes e1 e2))
      have l1 := hid (nok_lim e1)
      have l2 := hid (nok_lim e2)
      have n1 := nok_len e1
      have n2 := nok_len e2
      have hv := hid (show 0 ≤ val A + 1 * val B * pw (0 : Int).toNat by have := val_nonneg l1.out; have := val_nonneg l2.out; simp [pw]; omega)
      have hv2 := hid (show val A + 1 * val B * pw (0 : Int).toNat = val A + val B by simp [pw])
      rw [e1] at K1
      rw [e2] at K2
      clear e1 e2
      go_enter Tryz.func111, Tryz.ntmps111
      go_wp2_with fail
      refine K1.out.mono ?_
      rintro e w1 ⟨rfl, rfl⟩
      go_wp2_with fail
      refine K2.out.mono ?_
      rintro e w1 ⟨rfl, rfl⟩
      go_wp2_with fail
      refine (newNat_own _ _ A hA _ I1.out).mono ?_
      rintro e w1 ⟨N, x, rfl, h1, b1⟩
      have hR2 := hid (RowI_old R2.out b1)
      have HB := hid b1
      have H1 := hid h1
      clear h1 b1
      go_wp2_with fail
      refine (addMultiple_any _ N x A B _ _ _ 1 0 (by decide) (by decide) (by omega) (by omega) l1.out l2.out (by decide) (by decide) hv.out w1 H1.out (fun k hk => Nat.le_trans HB.out.size hk) hR2.out P2.out).mono ?_
      rintro e w2 ⟨rfl, ⟨y, h2⟩, o2⟩
      have H2 := hid h2
      have HB := hid (HB.out.trans (o2.below (fun k hk hs => absurd hs (Nat.not_le.2 hk))))
      clear h2 o2
      go_wp2_with fail
      refine (result_any _ N y _ w2 H2.out).mono ?_
      rintro e w3 ⟨⟨z, T, rfl, hz⟩, rfl⟩
      have HZ := hid hz
      clear hz
      go_wp2
      go_ret
      have := OwnP_res (V := val A + val B) HZ.out H2.out HB.out (by have := hv.out; rw [hv2.out] at this; exact this) (by rw [hv2.out]) rfl
      rw [hE.out]
      exact this

def subR (A B : List Int) : List Int := if nok A && nok B && decide (val B ≤ val A) then rep (val A - val B).toNat else []
theorem subR_no {A B : List Int} (h : nok A = false ∨ nok B = false ∨ val A < val B) : subR A B = [] := by
  unfold subR
  rcases h with h | h | h
  · simp [h]
  · simp [h]
  · have : ¬ val B ≤ val A := by omega
    simp [this]
theorem subR_yes {A B : List Int} (h : nok A = true) (h' : nok B = true) (h2 : val B ≤ val A) : subR A B = rep (val A - val B).toNat := by simp [subR, h, h', h2]
theorem cmp_nok {A B : List Int} (h : nok A = true) (h' : nok B = true) : (val A < val B → cmpL A B = -1) ∧ (val B < val A → cmpL A B = 1) ∧ (val A = val B → cmpL A B = 0) := by
  rw [cmpL_val (nok_iff.1 h).2 (nok_iff.1 h').2]
  rcases sgn_cases (val A - val B) with ⟨a, b⟩ | ⟨a, b⟩ | ⟨a, b⟩ <;> rw [b] <;> refine ⟨fun _ => ?_, fun _ => ?_, fun _ => ?_⟩ <;> omega
theorem rep_len {V : Int} (h : V < pw 60) : (rep V.toNat).length ≤ 60 := by
  refine (Can_len (Can_rep _)).2 ?_
  rw [val_rep]
  have := pw_pos 60
  omega
theorem capped_of {V : Int} (h : V < pw 60) : capped V = rep V.toNat := by unfold capped; rw [if_pos h]
theorem nok_lt {L : List Int} (h : nok L = true) : val L < pw 60 := (Can_len (nok_iff.1 h).2).1 (nok_len h)

set_option maxRecDepth 100000 in
set_option maxHeartbeats 1600000 in
theorem impl_NatSub (v u : Value) (A B : List Int) (hA : A.length ≤ 1073741824) (hB : B.length ≤ 1073741824) (b1 b2 : Nat) (w : World) (h1 : Ints w b1 v A) (h2 : Ints w b2 u B) :
    Calls Tryz.prog 156 #[v, u] w (OwnP (subR A B) w) := by
  have I1 := hid h1
  obtain ⟨a, c, rfl, r1, p1⟩ := slice_own h1
  obtain ⟨a', c', rfl, r2, p2⟩ := slice_own h2
  have K1 := hid (impl_NatOk _ _ c A hA w r1)
  have K2 := hid (impl_NatOk _ _ c' B hB w r2)
  have K3 := hid (compareLimbs_any _ _ _ _ c c' A B hA hB w r1 r2)
  have R2 := hid r2
  have P2 := hid p2
  clear h1 h2 r1 r2 p1 p2
  obtain ⟨R, hR⟩ : ∃ R, R = subR A B := ⟨_, rfl⟩
  have HR := hid hR
  rw [← hR]
  clear hR
  cases e1 : nok A with
  | false =>
    have hE := hid (HR.out.trans (subR_no (.inl e1)))
    rw [e1] at K1
    clear e1
    go_enter Tryz.func156, Tryz.ntmps156
    go_wp2_with fail
    refine K1.out.mono ?_
    rintro e w1 ⟨rfl, rfl⟩
    go_wp2
    go_ret
    exact OwnP_mk rfl rfl (by rw [hE.out]; exact Ints_nil _ _) (Below.refl _ _)
  | true =>
    cases e2 : nok B with
    | false =>
      have hE := hid (HR.out.trans (subR_no (.inr (.inl e2))))
      rw [e1] at K1
      rw [e2] at K2
      clear e1 e2
      go_enter Tryz.func156, Tryz.ntmps156
      go_wp2_with fail
      refine K1.out.mono ?_
      rintro e w1 ⟨rfl, rfl⟩
      go_wp2_with fail
      refine K2.out.mono ?_
      rintro e w1 ⟨rfl, rfl⟩
      go_wp2
      go_ret
      exact OwnP_mk rfl rfl (by rw [hE.out]; exact Ints_nil _ _) (Below.refl _ _)
    | true =>
      have C := hid (cmp_nok e1 e2)
      have hN := hid (fun h => HR.out.trans (subR_no (.inr (.inr h))))
      have hY := hid (fun h => HR.out.trans (subR_yes e1 e2 h))
      have l1 := hid (nok_lim e1)
      have l2 := hid (nok_lim e2)
      have n1 := nok_len e1
      have n2 := nok_len e2
      have l3 := hid (nok_lt e1)
      have hv2 := hid (show val A + (-1) * val B * pw (0 : Int).toNat = val A - val B by simp [pw]; omega)
      rw [e1] at K1
      rw [e2] at K2
      clear e1 e2
      go_enter Tryz.func156, Tryz.ntmps156
      go_wp2_with fail
      refine K1.out.mono ?_
      rintro e w1 ⟨rfl, rfl⟩
      go_wp2_with fail
      refine K2.out.mono ?_
      rintro e w1 ⟨rfl, rfl⟩
      go_wp2_with fail
      refine K3.out.mono ?_
      rintro e w1 ⟨rfl, d, rfl⟩
      have I1 := hid (show Ints (w.drewN d) b1 _ A from I1.out)
      have R2 := hid (RowI_drewN R2.out d)
      have HB := hid (below_drewN (Below.refl w.heap.size w) d)
      have P2 := hid (show Apart (fun k => w.heap.size ≤ k) a' from P2.out)
      obtain ⟨q, hq⟩ : ∃ q, q = cmpL A B := ⟨_, rfl⟩
      rw [← hq] at C
      rw [← hq]
      clear hq K1 K2 K3
      by_cases hlt : val A < val B
      · have hq1 : q = -1 := C.out.1 hlt
        have hE := hid (hN.out hlt)
        clear hlt
        subst hq1
        go_wp2
        go_ret
        exact OwnP_mk rfl rfl (by rw [hE.out]; exact Ints_nil _ _) HB.out
      · have hq1 : 0 ≤ q := by
          rcases Int.lt_or_eq_of_le (Int.not_lt.1 hlt) with h | h
          · rw [C.out.2.1 h]; decide
          · rw [C.out.2.2 h.symm]; decide
        have hE := hid (hY.out (by omega))
        have hv := hid (show 0 ≤ val A + (-1) * val B * pw (0 : Int).toNat by rw [hv2.out]; omega)
        have hv3 := hid (show val A - val B < pw 60 by have := l3.out; have := val_nonneg l2.out; omega)
        have hq2 : ¬ q < 0 := by omega
        clear hlt
        obtain ⟨w0, hw0⟩ : ∃ w0, w0 = w.drewN d := ⟨_, rfl⟩
        have hsz : w0.heap.size = w.heap.size := by rw [hw0]; rfl
        rw [← hw0] at I1 R2 HB ⊢
        clear hw0
        have HSZ := hid hsz
        clear hsz
        go_wp2_with fail
        refine (newNat_own _ _ A hA _ I1.out).mono ?_
        rintro e w1 ⟨N, x, rfl, h1, b1⟩
        have hR2 := hid (RowI_old R2.out b1)
        have HB := hid (HB.out.trans (b1.mono HB.out.size))
        rw [HSZ.out] at h1
        have H1 := hid h1
        clear h1 b1
        go_wp2_with fail
        refine (addMultiple_any _ N x A B _ _ _ (-1) 0 (by decide) (by decide) (by omega) (by omega) l1.out l2.out (by decide) (by decide) hv.out w1 H1.out (fun k hk => Nat.le_trans HB.out.size hk) hR2.out P2.out).mono ?_
        rintro e w2 ⟨rfl, ⟨y, h2⟩, o2⟩
        have H2 := hid h2
        have HB := hid (HB.out.trans (o2.below (fun k hk hs => absurd hs (Nat.not_le.2 hk))))
        clear h2 o2
        go_wp2_with fail
        refine (result_any _ N y _ w2 H2.out).mono ?_
        rintro e w3 ⟨⟨z, T, rfl, hz⟩, rfl⟩
        have HZ := hid hz
        clear hz
        go_wp2
        go_ret
        have := OwnP_res (V := val A - val B) HZ.out H2.out HB.out (by have := hv.out; rw [hv2.out] at this; exact this) (by rw [hv2.out]) rfl
        rw [hE.out, ← capped_of hv3.out]
        exact this
end Go.Proofs.YtookglpeieennaaGreat
