import Derived.Test.YthkehmnodcmlcaaGreatTos
import Derived.Test.YthkehmnodcmlcaaGreatVdt
import Derived.Test.YthkehmnodcmlcaaGreatVs
import Derived.Deep.RegionLaw
import Derived.Deep.RegionHeld3
import Derived.Deep.DeepCutAuto
set_option maxRecDepth 100000
set_option maxHeartbeats 25600000
set_option linter.unusedVariables false
set_option linter.unusedSimpArgs false
namespace Go.Proofs.YthkehmnodcmlcaaGreat
open Go.RowKit
open Go.Lib (hid)
def xat (V : List Fq) (x : Int) : Option Rat := match V[x.toNat]? with | some f => f.o | none => none
theorem xat_at {V : List Fq} {j : Nat} (h : j < V.length) : xat V (j : Int) = V[j].o := by
 unfold xat
 rw [Int.toNat_natCast, List.getElem?_eq_getElem h]
def prodT (K : List Tq) (V : List Fq) : List (Option Rat) := K.map fun t => bq mulF t.o (xat V t.c)
def valT (K : List Tq) (V : List Fq) : Option Rat := if (tok K V.length && oks (vals V)) = true then dacc (prodT K V) else none
theorem valT_fit (K : List Tq) (V : List Fq) : fitO (valT K V) := by
 unfold valT
 split
 ·have := dacc_fit (ps := prodT K V) (prodT K V).length
  rwa [List.take_length] at this
 ·exact fitO_none
theorem impl_TermsValue {p q : Bool} {a : Option Addr} {n c : Nat} {b : Option Addr} {m d : Nat} {K : List Tq} {V : List Fq} {lo hi lo' hi' : Nat} (hK : SmT K) (hL : Sm V) (w : World) (h : TK p w (.slice a n c) K lo hi) (h' : VK q w (.slice b m d) V lo' hi') :
    Calls Tryz.prog 65 #[.slice a n c, .slice b m d] w (RatO true (valT K V) w) := by
  have HV := hid h
  have HW := hid h'
  obtain rfl := h.num
  obtain rfl := h'.num
  clear h h'
  have HB := hid (below_new' (w := w) (o := .cells #[.bool false, .slice none 0 0, .slice none 0 0] 37))
  have L5 := hid (LocA.at (T := 37) (w := w) (b := w.heap.size) (cs := #[.bool false, .slice none 0 0, .slice none 0 0]) rfl)
  have HS := hid (show w.heap.size + 1 ≤ (w.alloc (.cells #[.bool false, .slice none 0 0, .slice none 0 0] 37)).heap.size by simp)
  have hkl := hK.2
  have hll := hL.2
  have KO := hid (fun (U : World) (hb : Below w.heap.size w U) => impl_TermsOk hK (V.length : Int) (by omega) (by omega) U (HV.out.old hb))
  have KP := hid (fun (U : World) (hb : Below w.heap.size w U) => impl_VecOk hL U (HW.out.old hb))
  obtain ⟨D0, hD0⟩ : ∃ D, D = valT K V := ⟨_, rfl⟩
  rw [← hD0]
  have HD0 := hid hD0
  clear hD0
  generalize hW : w.alloc (.cells #[.bool false, .slice none 0 0, .slice none 0 0] 37) = W at HB L5 HS
  have HWW := hid hW
  clear hW
  cases hk : tok K V.length with
  | false =>
    have HN := hid (show D0 = none by rw [HD0.out, valT, hk]; rfl)
    rw [HN.out]
    rw [hk] at KO
    clear hk
    go_enter Tryz.func65, Tryz.ntmps65
    go_wp2_with fail
    rw [HWW.out]
    (with_reducible refine (KO.out _ HB.out).mono ?_)
    rintro e w3 ⟨rfl, hb⟩
    have L5 := hid (L5.out.old hb)
    have HS := hid (Nat.le_trans HS.out hb.size)
    have HB := hid (HB.out.trans (hb.mono HB.out.size))
    clear hb
    have f0 := L5.out.f 0
    have f1 := L5.out.f 1
    have f2 := L5.out.f 2
    have p0 := L5.out.c 0 rfl
    have p1 := L5.out.c 1 rfl
    have p2 := L5.out.c 2 rfl
    have R := hid (RO.out (p := true) (o := none) (w := w) (N := w.heap.size) (RO_none (lo := w.heap.size)) (Nat.le_refl _) (Nat.le_refl _) L5.out (by decide) HB.out)
    go_wp2
    exact bodyPost_ret (v := .agg #[.bool false, .slice none 0 0, .slice none 0 0]) (by simp [results, Tryz.results65, go_sem, p0, p1, p2]) rfl R.out
  | true =>
    rw [hk] at KO
    cases hl : oks (vals V) with
    | false =>
      have HN := hid (show D0 = none by rw [HD0.out, valT, hk, hl]; rfl)
      rw [HN.out]
      rw [hl] at KP
      clear hk hl
      go_enter Tryz.func65, Tryz.ntmps65
      go_wp2_with fail
      rw [HWW.out]
      (with_reducible refine (KO.out _ HB.out).mono ?_)
      rintro e w3 ⟨rfl, hb⟩
      have L5 := hid (L5.out.old hb)
      have HS := hid (Nat.le_trans HS.out hb.size)
      have HB := hid (HB.out.trans (hb.mono HB.out.size))
      clear hb
      go_wp2_with fail
      (with_reducible refine (KP.out _ HB.out).mono ?_)
      rintro e w3 ⟨rfl, hb⟩
      have L5 := hid (L5.out.old hb)
      have HS := hid (Nat.le_trans HS.out hb.size)
      have HB := hid (HB.out.trans (hb.mono HB.out.size))
      clear hb
      have f0 := L5.out.f 0
      have f1 := L5.out.f 1
      have f2 := L5.out.f 2
      have p0 := L5.out.c 0 rfl
      have p1 := L5.out.c 1 rfl
      have p2 := L5.out.c 2 rfl
      have R := hid (RO.out (p := true) (o := none) (w := w) (N := w.heap.size) (RO_none (lo := w.heap.size)) (Nat.le_refl _) (Nat.le_refl _) L5.out (by decide) HB.out)
      go_wp2
      exact bodyPost_ret (v := .agg #[.bool false, .slice none 0 0, .slice none 0 0]) (by simp [results, Tryz.results65, go_sem, p0, p1, p2]) rfl R.out
    | true =>
      rw [hl] at KP
      have HT := hid (fun k (h : k < K.length) => (⟨(tok_at hk h).1, (tok_at hk h).2.1⟩ : 0 ≤ K[k].c ∧ K[k].c < V.length))
      have HD := hid (show D0 = dacc (prodT K V) by rw [HD0.out, valT, hk, hl]; rfl)
      rw [HD.out]
      clear HD
      have HZ := hid (show (prodT K V).length = K.length by simp [prodT])
      have HA := hid (fun k (h : k < K.length) (hz : k < (prodT K V).length) => (show (prodT K V)[k] = bq mulF K[k].o (xat V K[k].c) by simp [prodT]))
      generalize prodT K V = os at HZ HA ⊢
      clear hk hl
      go_enter Tryz.func65, Tryz.ntmps65
      go_wp2_with fail
      rw [HWW.out]
      (with_reducible refine (KO.out _ HB.out).mono ?_)
      rintro e w3 ⟨rfl, hb⟩
      have L5 := hid (L5.out.old hb)
      have HS := hid (Nat.le_trans HS.out hb.size)
      have HB := hid (HB.out.trans (hb.mono HB.out.size))
      clear hb
      go_wp2_with fail
      (with_reducible refine (KP.out _ HB.out).mono ?_)
      rintro e w3 ⟨rfl, hb⟩
      have L5 := hid (L5.out.old hb)
      have HS := hid (Nat.le_trans HS.out hb.size)
      have HB := hid (HB.out.trans (hb.mono HB.out.size))
      clear hb
      go_wp2_with fail
      (with_reducible refine (int_o 0 (by decide) (by decide) _).mono ?_)
      rintro e w2 ⟨s4, a4, n4, c4, b4, m4, d4, rfl, hr, hb⟩
      have L5 := hid ((L5.out.old hb).new1 (o := .cells #[.bool s4, .slice a4 n4 c4, .slice b4 m4 d4] 37))
      have L6 := hid (LocA.new (w := w2) (T := 37) (cs := #[.bool s4, .slice a4 n4 c4, .slice b4 m4 d4]))
      have hz2 := hb.size
      have R6 := hid ((hr.base (lo' := w.heap.size) (by have := HB.out.size; omega)).old (below_new' (o := .cells #[.bool s4, .slice a4 n4 c4, .slice b4 m4 d4] 37)))
      have HN6 := hid (show w.heap.size + 1 ≤ w2.heap.size by have := HS.out; omega)
      have HB := hid ((HB.out.trans (hb.mono HB.out.size)).alloc (by have := HB.out.size; omega) (.cells #[.bool s4, .slice a4 n4 c4, .slice b4 m4 d4] 37))
      have HS := hid (show w.heap.size + 1 ≤ (w2.alloc (.cells #[.bool s4, .slice a4 n4 c4, .slice b4 m4 d4] 37)).heap.size by have := HN6.out; simp; omega)
      clear hr hb hz2
      go_wp2
      obtain ⟨N6, hN6⟩ : ∃ N, N = w2.heap.size := ⟨_, rfl⟩
      rw [← hN6] at L6 HN6 ⊢
      clear hN6
      go_loopw [22] (fun i wr => ∃ (k : Nat) (sa : Bool) (aa : Option Addr) (na ca : Nat) (ba : Option Addr) (ma da : Nat), k ≤ K.length ∧ i = .int .i64 k ∧ Hid (LocA 37 wr N6 #[.bool sa, .slice aa na ca, .slice ba ma da]) ∧ Hid (LocA 37 wr w.heap.size #[.bool false, .slice none 0 0, .slice none 0 0]) ∧ Hid (RO true wr w.heap.size sa (.slice aa na ca) (.slice ba ma da) (dacc (os.take k))) ∧ Hid (Below w.heap.size w wr)) (fun i _ => K.length - (intOf i).toNat)
      case atStart => exact ⟨0, s4, a4, n4, c4, b4, m4, d4, Nat.zero_le _, rfl, L6, L5, R6, HB⟩
      case round =>
        obtain ⟨k, sa, aa, na, ca, ba, ma, da, hk, rfl, hL6, hL8, hR, HB⟩ := hrel
        by_cases hlt : k < K.length
        · have X := hid (HV.out.old HB.out)
          have Y := hid (HW.out.old HB.out)
          obtain ⟨g1, a31, n31, c31, b31, m31, d31, rfl, hg1, qc1, q01, q11, q21, R1⟩ := X.out.at hK hlt
          obtain ⟨⟨x1, s1, A1, D1⟩, hf1⟩ : ∃ f, K[k]'(hlt) = f := ⟨_, rfl⟩
          simp only [hf1] at qc1 q01 R1
          have HF1 := hid hf1
          clear hf1
          obtain ⟨o1, ho1⟩ : ∃ o, Tq.o ⟨x1, s1, A1, D1⟩ = o := ⟨_, rfl⟩
          have HO1 := hid (show (K[k]'(hlt)).o = o1 by rw [HF1.out, ho1])
          have HX1 := hid (show (K[k]'(hlt)).c = x1 by rw [HF1.out])
          have RX1 := hid (show RA wr s1 (.slice a31 n31 c31) (.slice b31 m31 d31) o1 from ⟨A1, D1, R1, ho1⟩)
          have RLX1 := hid R1
          have RN1 := hid R1.nums
          clear ho1 R1
          obtain ⟨j, hj⟩ : ∃ j : Nat, x1 = j := ⟨x1.toNat, by have := (HT.out k hlt).1; rw [HX1.out] at this; omega⟩
          subst hj
          have hlt2 : j < V.length := by have := (HT.out k hlt).2; rw [HX1.out] at this; omega
          obtain ⟨g2, a32, n32, c32, b32, m32, d32, rfl, hg2, q02, q12, q22, R2⟩ := Y.out.at hL hlt2
          obtain ⟨⟨s2, A2, D2⟩, hf2⟩ : ∃ f, V[j]'(hlt2) = f := ⟨_, rfl⟩
          simp only [hf2] at q02 R2
          have HF2 := hid hf2
          clear hf2
          obtain ⟨o2, ho2⟩ : ∃ o, Fq.o ⟨s2, A2, D2⟩ = o := ⟨_, rfl⟩
          have HO2 := hid (show (V[j]'(hlt2)).o = o2 by rw [HF2.out, ho2])
          have RX2 := hid (show RA wr s2 (.slice a32 n32 c32) (.slice b32 m32 d32) o2 from ⟨A2, D2, R2, ho2⟩)
          clear ho2 R2
          have HOO := hid (show os[k]'(by rw [HZ.out]; exact hlt) = bq mulF o1 o2 by rw [HA.out k hlt (by rw [HZ.out]; exact hlt), HO1.out, HX1.out, xat_at hlt2, HO2.out])
          have HDK := hid (show dacc (os.take (k + 1)) = bq addF (dacc (os.take k)) (bq mulF o1 o2) by rw [dacc_take (by rw [HZ.out]; exact hlt), HOO.out])
          obtain ⟨ob, hob⟩ : ∃ ob, ob = (Go.Obj.cells #[.int .i64 (j : Int), .bool s1, .slice a31 n31 c31, .slice b31 m31 d31] 123) := ⟨_, rfl⟩
          have hBW := hid (show Below wr.heap.size wr (wr.alloc ob).drew from Below_drew1 below_new')
          have hBZ := hid (show (wr.alloc ob).drew.heap.size = wr.heap.size + 1 by show (wr.alloc ob).heap.size = _; simp)
          have KF := hid (mul_o (w := (wr.alloc ob).drew) (RX1.out.old hBW.out) (RX2.out.old hBW.out))
          have RD := hid (hR.out.old hBW.out)
          have L6D := hid (hL6.out.old hBW.out)
          have L8D := hid (hL8.out.old hBW.out)
          have HBD := hid (HB.out.trans (hBW.out.mono HB.out.size))
          have y02 := (hBW.out.cell (p := ⟨g2, j * 3, none⟩) hg2).trans q02
          have y12 := (hBW.out.cell (p := ⟨g2, j * 3 + 1, none⟩) hg2).trans q12
          have y22 := (hBW.out.cell (p := ⟨g2, j * 3 + 2, none⟩) hg2).trans q22
          have LT := hid (show LocA 123 (wr.alloc ob).drew wr.heap.size #[.int .i64 (j : Int), .bool s1, .slice a31 n31 c31, .slice b31 m31 d31] by rw [hob]; exact LocA.new)
          have y0 := LT.out.c 0 rfl
          have y1 := LT.out.c 1 rfl
          have y2 := LT.out.c 2 rfl
          have y3 := LT.out.c 3 rfl
          have x0 := L6D.out.c 0 (v := .bool sa) rfl
          have x1 := L6D.out.c 1 (v := .slice aa na ca) rfl
          have x2 := L6D.out.c 2 (v := .slice ba ma da) rfl
          have a1' : (0 : Int) ≤ k := by omega
          have a2 : (k : Int) < K.length := by omega
          have a3 : (0 : Int) ≤ j := by omega
          have a4' : (j : Int) < V.length := by omega
          have HOB := hid hob
          clear hob
          go_wp2_with fail
          rw [← HOB.out]
          clear qc1 q01 q11 q21 q02 q12 q22
          go_region_law (first
            | (go_simp; go_at_call 85; (with_reducible refine (KF.out).mono ?_); rintro e w5 ⟨s5, a5, n5, c5, b5, m5, d5, rfl, hr, hb⟩
               have L6D := hid (L6D.out.old hb)
               have L8D := hid (L8D.out.old hb)
               have HBD2 := hid (HBD.out.trans (hb.mono HBD.out.size))
               have KA := hid (add_o (w := w5) (RD.out.ra.old hb) hr.ra)
               have x0 := L6D.out.c 0 (v := .bool sa) rfl
               have x1 := L6D.out.c 1 (v := .slice aa na ca) rfl
               have x2 := L6D.out.c 2 (v := .slice ba ma da) rfl
               clear hr hb)
            | (go_simp; go_at_call 48; (with_reducible refine (KA.out).mono ?_); rintro e w6 ⟨s4, a4, n4, c4, b4, m4, d4, rfl, hr, hb⟩
               have L6E := hid (L6D.out.old hb)
               have x0 := L6E.out.c 0 (v := .bool sa) rfl
               have x1 := L6E.out.c 1 (v := .slice aa na ca) rfl
               have x2 := L6E.out.c 2 (v := .slice ba ma da) rfl
               have f0 := L6E.out.f 0
               have f1 := L6E.out.f 1
               have f2 := L6E.out.f 2
               have L8E := hid (L8D.out.old hb)
               have HBE := hid (HBD2.out.trans (hb.mono HBD2.out.size))
               have hbd := hid HBD2.out.size
               have RR6 := hid (hr.base (Nat.le_refl _))
               clear hr hb))
          all_goals
            have hn6 := HN6.out
            have hbz := hbd.out
            have LN := hid (((L6E.out.set (i := 0) (x := .bool s4)).set (i := 1) (x := .slice a4 n4 c4)).set (i := 2) (x := .slice b4 m4 d4))
            have L8N := hid (((L8E.out.setne (N := N6) (i := 0) (x := .bool s4) (by omega)).setne (N := N6) (i := 1) (x := .slice a4 n4 c4) (by omega)).setne (N := N6) (i := 2) (x := .slice b4 m4 d4) (by omega))
            have RN := hid ((((RR6.out.base hbz).set L6E.out (by decide) (i := 0) (y := .bool s4)).set (L6E.out.set (i := 0) (x := .bool s4)) (by decide) (i := 1) (y := .slice a4 n4 c4)).set ((L6E.out.set (i := 0) (x := .bool s4)).set (i := 1) (x := .slice a4 n4 c4)) (by decide) (i := 2) (y := .slice b4 m4 d4))
            have HBN := hid (((HBE.out.setCell (p := ⟨N6, 0, none⟩) (by simp; omega) (.bool s4)).setCell (p := ⟨N6, 1, none⟩) (by simp; omega) (.slice a4 n4 c4)).setCell (p := ⟨N6, 2, none⟩) (by simp; omega) (.slice b4 m4 d4))
            clear hbz hn6
            go_wp2
            go_roundw
            case rel => exact ⟨k + 1, s4, a4, n4, c4, b4, m4, d4, by omega, by go_num, LN, L8N, hid (by rw [HDK.out]; exact RN.out), HBN⟩
            case measure => simp [intOf]; omega
        · obtain rfl : k = K.length := by omega
          have x0 := hL6.out.c 0 (v := .bool sa) rfl
          have x1 := hL6.out.c 1 (v := .slice aa na ca) rfl
          have x2 := hL6.out.c 2 (v := .slice ba ma da) rfl
          have f0 := hL8.out.f 0
          have f1 := hL8.out.f 1
          have f2 := hL8.out.f 2
          have p0 := hL8.out.c 0 rfl
          have p1 := hL8.out.c 1 rfl
          have p2 := hL8.out.c 2 rfl
          have HE := hid (show dacc (os.take K.length) = dacc os by rw [List.take_of_length_le (by rw [HZ.out]; exact Nat.le_refl _)])
          have R0 := hR.out
          rw [HE.out] at R0
          have R := hid (RO.out (p := true) (w := w) (N := w.heap.size) R0 (Nat.le_refl _) (Nat.le_refl _) hL8.out (by decide) HB.out)
          clear R0
          go_wp2
          exact bodyPost_ret (v := .agg #[.bool sa, .slice aa na ca, .slice ba ma da]) (by simp [results, Tryz.results65, go_sem, p0, p1, p2]) rfl R.out
end Go.Proofs.YthkehmnodcmlcaaGreat
