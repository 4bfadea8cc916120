import Derived.Test.YthkehmnodcmlcaaGreatVw
import Derived.Deep.RegionHeld3
import Derived.Deep.DeepCutAuto
set_option maxRecDepth 100000
set_option maxHeartbeats 6400000
set_option linter.unusedVariables false
set_option linter.unusedSimpArgs false
namespace Go.Proofs.YthkehmnodcmlcaaGreat
open Go.RowKit
open Go.Lib (hid)
def PushR (Ks : List Fq) (oo : Option Rat) (lo : Nat) (w : World) (e : Ending) (w' : World) : Prop := ∃ g c, e = .returned (.slice (some ⟨g, 0, none⟩) (Ks.length + 1) c) ∧ VK true w' (.slice (some ⟨g, 0, none⟩) (Ks.length + 1) c) (Ks ++ [fqo oo]) lo w'.heap.size ∧ Below lo w w'
theorem mul_o {w : World} {s t : Bool} {v u v' u' : Value} {o o' : Option Rat} (h : RA w s v u o) (h' : RA w t v' u' o') : Calls Tryz.prog 85 #[.agg #[.bool s, v, u], .agg #[.bool t, v', u']] w (RatO true (bq mulF o o') w) := by
 obtain ⟨A, D, r, rfl⟩ := h
 obtain ⟨A', D', r', rfl⟩ := h'
 exact (impl_RatMul s t v u v' u' A D A' D' w r r').mono fun e w' hh => RatO_of hh (fitO_bq fitO_mul _ _)
theorem smul_o {w : World} {s t : Bool} {v u v' u' : Value} {o o' : Option Rat} (h : RA w s v u o) (h' : RA w t v' u' o') : Calls Tryz.prog 81 #[.agg #[.bool s, v, u], .agg #[.bool t, v', u']] w (RatO false (bq mulF o o') w) := by
 obtain ⟨A, D, r, rfl⟩ := h
 obtain ⟨A', D', r', rfl⟩ := h'
 exact (spec_RatMul s t v u v' u' A D A' D' w r r').mono fun e w' hh => RatO_ofS hh (fitO_bq fitO_mul _ _)
theorem step_sub {a : Option Addr} {n c : Nat} {Ks : List Fq} {lo B : Nat} {s t : Bool} {a1 : Option Addr} {n1 c1 : Nat} {b1 : Option Addr} {m1 d1 : Nat} {a2 : Option Addr} {n2 c2 : Nat} {b2 : Option Addr} {m2 d2 : Nat} {o o' : Option Rat} (w : World)
  (hv : VK true w (.slice a n c) Ks lo w.heap.size) (hlo : lo ≤ w.heap.size) (hlen : Ks.length ≤ 1048576) (h1 : RA w s (.slice a1 n1 c1) (.slice b1 m1 d1) o) (h2 : RA w t (.slice a2 n2 c2) (.slice b2 m2 d2) o') (hB : w.cell? ⟨B, 0, none⟩ = some (.func (.func 68) #[] #[])) (hBl : B < w.heap.size) :
  Calls Tryz.prog 210 #[.slice a n c, .agg #[.bool s, .slice a1 n1 c1, .slice b1 m1 d1], .agg #[.bool t, .slice a2 n2 c2, .slice b2 m2 d2], .pointer (some ⟨B, 0, none⟩)] w (PushR Ks (bq subF o o') lo w) := by
 have hnum := hid hv.num
 have BW := hid (below_new2 (w := w) (o := .cells #[.bool s, .slice a1 n1 c1, .slice b1 m1 d1] 37) (o' := .cells #[.bool t, .slice a2 n2 c2, .slice b2 m2 d2] 37))
 have V := hid (hv.old BW.out)
 have X := hid (h1.old BW.out)
 have Y := hid (h2.old BW.out)
 have LX := hid ((LocA.at (T := 37) (w := w) (b := w.heap.size) (cs := #[.bool s, .slice a1 n1 c1, .slice b1 m1 d1]) rfl).new1 (o := .cells #[.bool t, .slice a2 n2 c2, .slice b2 m2 d2] 37))
 have LY := hid (LocA.at (T := 37) (w := w.alloc (.cells #[.bool s, .slice a1 n1 c1, .slice b1 m1 d1] 37)) (b := w.heap.size + 1) (cs := #[.bool t, .slice a2 n2 c2, .slice b2 m2 d2]) (by simp))
 have HBc := hid ((BW.out.cell (p := ⟨B, 0, none⟩) hBl).trans hB)
 have HBr := hid ((BW.out.cell (p := ⟨B, 0, none⟩) hBl).trans hB)
 have HZ := hid (show ((w.alloc (.cells #[.bool s, .slice a1 n1 c1, .slice b1 m1 d1] 37)).alloc (.cells #[.bool t, .slice a2 n2 c2, .slice b2 m2 d2] 37)).heap.size = w.heap.size + 2 by simp)
 clear hv h1 h2 hB
 generalize hW : (w.alloc (.cells #[.bool s, .slice a1 n1 c1, .slice b1 m1 d1] 37)).alloc (.cells #[.bool t, .slice a2 n2 c2, .slice b2 m2 d2] 37) = W at BW V X Y LX LY HBc HZ
 have HW := hid hW
 clear hW
 go_enter Tryz.func210, Tryz.ntmps210
 have q0 := LX.out.c 0 rfl
 have q1 := LX.out.c 1 rfl
 have q2 := LX.out.c 2 rfl
 have q3 := LY.out.c 0 rfl
 have q4 := LY.out.c 1 rfl
 have q5 := LY.out.c 2 rfl
 have q6 := HBr.out
 go_wp2_with fail
 rw [HW.out]
 (with_reducible refine (sub_o X.out Y.out).mono ?_)
 rintro e w2 ⟨s4, a4, n4, c4, b4, m4, d4, rfl, hr, hb⟩
 have V2 := hid (V.out.old hb)
 have R2 := hid hr
 have hz := HZ.out
 have hz2 := hb.size
 have HB2 := hid (((BW.out.mono hlo).trans (hb.mono (by omega))).alloc (show lo ≤ w2.heap.size by omega) (.cells #[.bool s4, .slice a4 n4 c4, .slice b4 m4 d4] 37))
 clear hr hb q0 q1 q2 q3 q4 q5 q6
 have PV := hid (V2.out.old (below_new' (o := .cells #[.bool s4, .slice a4 n4 c4, .slice b4 m4 d4] 37)))
 have PR := hid (R2.out.old (below_new' (o := .cells #[.bool s4, .slice a4 n4 c4, .slice b4 m4 d4] 37)))
 have PB := hid (heap_alloc_new w2 (.cells #[.bool s4, .slice a4 n4 c4, .slice b4 m4 d4] 37))
 have hlp := hlen
 go_wp2_with (at_builtin; refine wpList_push rfl _ _ rfl rfl PV.out (by omega) (by omega) PR.out rfl PB.out (by first | assumption | (simp; omega)) (by simp; omega) ?_)
 intro gp cp wp hvp hbp
 have R := hid (show PushR Ks (bq subF o o') lo w (.returned (.slice (some ⟨gp, 0, none⟩) (Ks.length + 1) cp)) wp from ⟨gp, cp, rfl, hvp, HB2.out.trans hbp⟩)
 clear hvp hbp
 go_wp2
 go_ret
 exact R.out
theorem step_mul {a : Option Addr} {n c : Nat} {Ks : List Fq} {lo B : Nat} {s t : Bool} {a1 : Option Addr} {n1 c1 : Nat} {b1 : Option Addr} {m1 d1 : Nat} {a2 : Option Addr} {n2 c2 : Nat} {b2 : Option Addr} {m2 d2 : Nat} {o o' : Option Rat} (w : World)
  (hv : VK true w (.slice a n c) Ks lo w.heap.size) (hlo : lo ≤ w.heap.size) (hlen : Ks.length ≤ 1048576) (h1 : RA w s (.slice a1 n1 c1) (.slice b1 m1 d1) o) (h2 : RA w t (.slice a2 n2 c2) (.slice b2 m2 d2) o') (hB : w.cell? ⟨B, 0, none⟩ = some (.func (.func 85) #[] #[])) (hBl : B < w.heap.size) :
  Calls Tryz.prog 210 #[.slice a n c, .agg #[.bool s, .slice a1 n1 c1, .slice b1 m1 d1], .agg #[.bool t, .slice a2 n2 c2, .slice b2 m2 d2], .pointer (some ⟨B, 0, none⟩)] w (PushR Ks (bq mulF o o') lo w) := by
 have hnum := hid hv.num
 have BW := hid (below_new2 (w := w) (o := .cells #[.bool s, .slice a1 n1 c1, .slice b1 m1 d1] 37) (o' := .cells #[.bool t, .slice a2 n2 c2, .slice b2 m2 d2] 37))
 have V := hid (hv.old BW.out)
 have X := hid (h1.old BW.out)
 have Y := hid (h2.old BW.out)
 have LX := hid ((LocA.at (T := 37) (w := w) (b := w.heap.size) (cs := #[.bool s, .slice a1 n1 c1, .slice b1 m1 d1]) rfl).new1 (o := .cells #[.bool t, .slice a2 n2 c2, .slice b2 m2 d2] 37))
 have LY := hid (LocA.at (T := 37) (w := w.alloc (.cells #[.bool s, .slice a1 n1 c1, .slice b1 m1 d1] 37)) (b := w.heap.size + 1) (cs := #[.bool t, .slice a2 n2 c2, .slice b2 m2 d2]) (by simp))
 have HBc := hid ((BW.out.cell (p := ⟨B, 0, none⟩) hBl).trans hB)
 have HBr := hid ((BW.out.cell (p := ⟨B, 0, none⟩) hBl).trans hB)
 have HZ := hid (show ((w.alloc (.cells #[.bool s, .slice a1 n1 c1, .slice b1 m1 d1] 37)).alloc (.cells #[.bool t, .slice a2 n2 c2, .slice b2 m2 d2] 37)).heap.size = w.heap.size + 2 by simp)
 clear hv h1 h2 hB
 generalize hW : (w.alloc (.cells #[.bool s, .slice a1 n1 c1, .slice b1 m1 d1] 37)).alloc (.cells #[.bool t, .slice a2 n2 c2, .slice b2 m2 d2] 37) = W at BW V X Y LX LY HBc HZ
 have HW := hid hW
 clear hW
 go_enter Tryz.func210, Tryz.ntmps210
 have q0 := LX.out.c 0 rfl
 have q1 := LX.out.c 1 rfl
 have q2 := LX.out.c 2 rfl
 have q3 := LY.out.c 0 rfl
 have q4 := LY.out.c 1 rfl
 have q5 := LY.out.c 2 rfl
 have q6 := HBr.out
 go_wp2_with fail
 rw [HW.out]
 (with_reducible refine (mul_o X.out Y.out).mono ?_)
 rintro e w2 ⟨s4, a4, n4, c4, b4, m4, d4, rfl, hr, hb⟩
 have V2 := hid (V.out.old hb)
 have R2 := hid hr
 have hz := HZ.out
 have hz2 := hb.size
 have HB2 := hid (((BW.out.mono hlo).trans (hb.mono (by omega))).alloc (show lo ≤ w2.heap.size by omega) (.cells #[.bool s4, .slice a4 n4 c4, .slice b4 m4 d4] 37))
 clear hr hb q0 q1 q2 q3 q4 q5 q6
 have PV := hid (V2.out.old (below_new' (o := .cells #[.bool s4, .slice a4 n4 c4, .slice b4 m4 d4] 37)))
 have PR := hid (R2.out.old (below_new' (o := .cells #[.bool s4, .slice a4 n4 c4, .slice b4 m4 d4] 37)))
 have PB := hid (heap_alloc_new w2 (.cells #[.bool s4, .slice a4 n4 c4, .slice b4 m4 d4] 37))
 have hlp := hlen
 go_wp2_with (at_builtin; refine wpList_push rfl _ _ rfl rfl PV.out (by omega) (by omega) PR.out rfl PB.out (by first | assumption | (simp; omega)) (by simp; omega) ?_)
 intro gp cp wp hvp hbp
 have R := hid (show PushR Ks (bq mulF o o') lo w (.returned (.slice (some ⟨gp, 0, none⟩) (Ks.length + 1) cp)) wp from ⟨gp, cp, rfl, hvp, HB2.out.trans hbp⟩)
 clear hvp hbp
 go_wp2
 go_ret
 exact R.out
theorem combine_sub_w  {a : Option Addr} {n c : Nat} {b : Option Addr} {m d : Nat} {K L : List Fq} {lo hi lo' hi' B : Nat} (hK : Sm K) (hL : Sm L) (w : World) (h : VW w a n K lo hi) (h' : VW w b m L lo' hi') (hB : w.cell? ⟨B, 0, none⟩ = some (.func (.func 68) #[] #[])) (hBl : B < w.heap.size) :
    Calls Tryz.prog 209 #[.slice a n c, .slice b m d, .slice none 0 0, .func (.func 210) #[] #[.pointer (some ⟨B, 0, none⟩)]] w (VecR true (if K.length = L.length ∧ K.length ≤ 40 then (zw subF K L).map fqo else []) w) := by
  have HV := hid h
  have HW := hid h'
  obtain rfl := h.num
  obtain rfl := h'.num
  clear h h'
  have hkl := hK.2
  have hll := hL.2
  by_cases hne : K.length = L.length
  · by_cases h40 : K.length ≤ 40
    · have HZ := hid (zw_len (f := subF) hne)
      have HA := hid (fun k (h : k < K.length) (h' : k < L.length) (hz : k < (zw subF K L).length) => zw_at (f := subF) h h' hz)
      rw [if_pos ⟨hne, h40⟩]
      generalize zw subF K L = os at HZ HA ⊢
      have HN := hid hne
      rw [← hne] at HW ⊢
      clear hne
      have HBc := hid hB
      have hBl' := hid hBl
      clear hB hBl
      have h4 : ¬ (40 : Int) < K.length := by omega
      go_enter Tryz.func209, Tryz.ntmps209
      go_wp2
      go_loopw [2, 24] (fun v i wr => ∃ (k : Nat) (a' : Option Addr) (c' : Nat), k ≤ K.length ∧ i = .int .i64 k ∧ v = .slice a' k c' ∧ Hid (VK true wr (.slice a' k c') ((os.take k).map fqo) w.heap.size wr.heap.size) ∧ Below w.heap.size w wr) (fun _ i _ => K.length - (intOf i).toNat)
      case atStart => exact ⟨0, none, 0, Nat.zero_le _, rfl, rfl, hid (VK_nil _ _ _ _), Below.refl _ _⟩
      case round =>
        obtain ⟨k, a', c', hk, rfl, rfl, hV, hbel⟩ := hrel
        have HB := hid hbel
        by_cases hlt : k < K.length
        · have hlt2 : k < L.length := by rw [← HN.out]; exact hlt
          have X := hid (HV.out.old hbel)
          have Y := hid (HW.out.old hbel)
          clear hbel
          obtain ⟨g1, p1, a31, n31, c31, b31, m31, d31, rfl, hg1, q01, q11, q21, R1⟩ := X.out.at hK hlt
          obtain ⟨⟨s1, A1, D1⟩, hf1⟩ : ∃ f, K[k]'(hlt) = f := ⟨_, rfl⟩
          simp only [hf1] at q01 R1
          have HF1 := hid hf1
          clear hf1
          obtain ⟨o1, ho1⟩ : ∃ o, Fq.o ⟨s1, A1, D1⟩ = o := ⟨_, rfl⟩
          have HO1 := hid (show (K[k]'(hlt)).o = o1 by rw [HF1.out, ho1])
          have RX1 := hid (show RA wr s1 (.slice a31 n31 c31) (.slice b31 m31 d31) o1 from ⟨A1, D1, R1, ho1⟩)
          clear ho1 R1
          obtain ⟨g2, p2, a32, n32, c32, b32, m32, d32, rfl, hg2, q02, q12, q22, R2⟩ := Y.out.at hL hlt2
          obtain ⟨⟨s2, A2, D2⟩, hf2⟩ : ∃ f, L[k]'(hlt2) = f := ⟨_, rfl⟩
          simp only [hf2] at q02 R2
          have HF2 := hid hf2
          clear hf2
          obtain ⟨o2, ho2⟩ : ∃ o, Fq.o ⟨s2, A2, D2⟩ = o := ⟨_, rfl⟩
          have HO2 := hid (show (L[k]'(hlt2)).o = o2 by rw [HF2.out, ho2])
          have RX2 := hid (show RA wr s2 (.slice a32 n32 c32) (.slice b32 m32 d32) o2 from ⟨A2, D2, R2, ho2⟩)
          clear ho2 R2
          have HOO := hid (show os[k]'(by rw [HZ.out]; exact hlt) = bq subF o1 o2 by rw [HA.out k hlt hlt2 (by rw [HZ.out]; exact hlt), HO1.out, HO2.out])
          have hln := hid (show ((os.take k).map fqo).length = k by rw [List.length_map, List.length_take, HZ.out]; omega)
          have G1 := hid (HV.out.blk hlt)
          have G2 := hid (HW.out.blk hlt2)
          have VD := hid (hV.out.old (Below_drew1 (Below.refl _ _)))
          have BD := hid (Below_drew1 HB.out)
          have HBw := hid (((Below_drew1 HB.out).cell (p := ⟨B, 0, none⟩) hBl'.out).trans HBc.out)
          have hz := HB.out.size
          have KF := hid (step_sub (w := wr.drew) VD.out hz (by rw [hln.out]; omega) (RX1.out.old (Below_drew1 (Below.refl _ _))) (RX2.out.old (Below_drew1 (Below.refl _ _))) HBw.out (Nat.lt_of_lt_of_le hBl'.out hz))
          obtain ⟨Ks, hKs⟩ : ∃ Ks, Ks = (os.take k).map fqo := ⟨_, rfl⟩
          have HKs := hid hKs
          rw [← hKs] at KF hln
          clear hKs
          have a1' : (0 : Int) ≤ k := by omega
          have a2 : (k : Int) < K.length := by omega
          go_wp2_with fail
          go_region_held3 (fun w' => w'.cell? ⟨g1, p1 + k * 3, none⟩ = some (.bool s1) ∧ w'.cell? ⟨g1, p1 + k * 3 + 1, none⟩ = some (.slice a31 n31 c31) ∧ w'.cell? ⟨g1, p1 + k * 3 + 2, none⟩ = some (.slice b31 m31 d31) ∧ w'.cell? ⟨g2, p2 + k * 3, none⟩ = some (.bool s2) ∧ w'.cell? ⟨g2, p2 + k * 3 + 1, none⟩ = some (.slice a32 n32 c32) ∧ w'.cell? ⟨g2, p2 + k * 3 + 2, none⟩ = some (.slice b32 m32 d32)) (first | with_reducible exact ⟨q01, q11, q21, q02, q12, q22⟩ | go_keep)
            (first
              | (go_at_call 210; (with_reducible refine (KF.out).mono ?_); rintro e w2 ⟨gp, cp, rfl, hvp, hb⟩
                 have q01 := (hb.cell (p := ⟨g1, p1 + k * 3, none⟩) G1.out).trans q01 ; have q11 := (hb.cell (p := ⟨g1, p1 + k * 3 + 1, none⟩) G1.out).trans q11 ; have q21 := (hb.cell (p := ⟨g1, p1 + k * 3 + 2, none⟩) G1.out).trans q21 ; have q02 := (hb.cell (p := ⟨g2, p2 + k * 3, none⟩) G2.out).trans q02 ; have q12 := (hb.cell (p := ⟨g2, p2 + k * 3 + 1, none⟩) G2.out).trans q12 ; have q22 := (hb.cell (p := ⟨g2, p2 + k * 3 + 2, none⟩) G2.out).trans q22
                 have HB3 := hid (BD.out.trans hb)
                 have HV3 := hid hvp
                 clear hvp hb))
          clear q01 q11 q21 q02 q12 q22
          go_wp2
          go_roundw
          case rel => exact ⟨k + 1, some ⟨gp, 0, none⟩, cp, by omega, by go_num, by rw [hln.out], hid (by
            have h1 := HV3.out
            rw [hln.out, HKs.out, take_map (by rw [HZ.out]; exact hlt) HOO.out] at h1
            exact h1), HB3.out⟩
          case measure => simp [intOf]; omega
        · obtain rfl : k = K.length := by omega
          have R := hid (show VecR true (os.map fqo) w (.returned (.slice a' K.length c')) wr from ⟨_, _, _, rfl, by have h1 := hV.out; rwa [List.take_of_length_le (by rw [HZ.out]; exact Nat.le_refl _)] at h1, HB.out⟩)
          clear hbel
          go_wp2
          go_ret
          exact R.out
    · rw [if_neg (by omega)]
      have R := hid (show VecR true [] w (.returned (.slice none 0 0)) w from ⟨_, _, _, rfl, VK_nil _ _ _ _, Below.refl _ _⟩)
      have e0 : ((K.length : Int) == (L.length : Int)) = true := by simp [hne]
      have h4 : (40 : Int) < K.length := by omega
      rw [← hne]
      clear hne
      go_enter Tryz.func209, Tryz.ntmps209
      go_wp2
      go_ret
      exact R.out
  · rw [if_neg (by omega)]
    have R := hid (show VecR true [] w (.returned (.slice none 0 0)) w from ⟨_, _, _, rfl, VK_nil _ _ _ _, Below.refl _ _⟩)
    obtain ⟨e1, e2⟩ := ne_facts hne
    go_enter Tryz.func209, Tryz.ntmps209
    go_wp2
    go_ret
    exact R.out
theorem combine_mul_w  {a : Option Addr} {n c : Nat} {b : Option Addr} {m d : Nat} {K L : List Fq} {lo hi lo' hi' B : Nat} (hK : Sm K) (hL : Sm L) (w : World) (h : VW w a n K lo hi) (h' : VW w b m L lo' hi') (hB : w.cell? ⟨B, 0, none⟩ = some (.func (.func 85) #[] #[])) (hBl : B < w.heap.size) :
    Calls Tryz.prog 209 #[.slice a n c, .slice b m d, .slice none 0 0, .func (.func 210) #[] #[.pointer (some ⟨B, 0, none⟩)]] w (VecR true (if K.length = L.length ∧ K.length ≤ 40 then (zw mulF K L).map fqo else []) w) := by
  have HV := hid h
  have HW := hid h'
  obtain rfl := h.num
  obtain rfl := h'.num
  clear h h'
  have hkl := hK.2
  have hll := hL.2
  by_cases hne : K.length = L.length
  · by_cases h40 : K.length ≤ 40
    · have HZ := hid (zw_len (f := mulF) hne)
      have HA := hid (fun k (h : k < K.length) (h' : k < L.length) (hz : k < (zw mulF K L).length) => zw_at (f := mulF) h h' hz)
      rw [if_pos ⟨hne, h40⟩]
      generalize zw mulF K L = os at HZ HA ⊢
      have HN := hid hne
      rw [← hne] at HW ⊢
      clear hne
      have HBc := hid hB
      have hBl' := hid hBl
      clear hB hBl
      have h4 : ¬ (40 : Int) < K.length := by omega
      go_enter Tryz.func209, Tryz.ntmps209
      go_wp2
      go_loopw [2, 24] (fun v i wr => ∃ (k : Nat) (a' : Option Addr) (c' : Nat), k ≤ K.length ∧ i = .int .i64 k ∧ v = .slice a' k c' ∧ Hid (VK true wr (.slice a' k c') ((os.take k).map fqo) w.heap.size wr.heap.size) ∧ Below w.heap.size w wr) (fun _ i _ => K.length - (intOf i).toNat)
      case atStart => exact ⟨0, none, 0, Nat.zero_le _, rfl, rfl, hid (VK_nil _ _ _ _), Below.refl _ _⟩
      case round =>
        obtain ⟨k, a', c', hk, rfl, rfl, hV, hbel⟩ := hrel
        have HB := hid hbel
        by_cases hlt : k < K.length
        · have hlt2 : k < L.length := by rw [← HN.out]; exact hlt
          have X := hid (HV.out.old hbel)
          have Y := hid (HW.out.old hbel)
          clear hbel
          obtain ⟨g1, p1, a31, n31, c31, b31, m31, d31, rfl, hg1, q01, q11, q21, R1⟩ := X.out.at hK hlt
          obtain ⟨⟨s1, A1, D1⟩, hf1⟩ : ∃ f, K[k]'(hlt) = f := ⟨_, rfl⟩
          simp only [hf1] at q01 R1
          have HF1 := hid hf1
          clear hf1
          obtain ⟨o1, ho1⟩ : ∃ o, Fq.o ⟨s1, A1, D1⟩ = o := ⟨_, rfl⟩
          have HO1 := hid (show (K[k]'(hlt)).o = o1 by rw [HF1.out, ho1])
          have RX1 := hid (show RA wr s1 (.slice a31 n31 c31) (.slice b31 m31 d31) o1 from ⟨A1, D1, R1, ho1⟩)
          clear ho1 R1
          obtain ⟨g2, p2, a32, n32, c32, b32, m32, d32, rfl, hg2, q02, q12, q22, R2⟩ := Y.out.at hL hlt2
          obtain ⟨⟨s2, A2, D2⟩, hf2⟩ : ∃ f, L[k]'(hlt2) = f := ⟨_, rfl⟩
          simp only [hf2] at q02 R2
          have HF2 := hid hf2
          clear hf2
          obtain ⟨o2, ho2⟩ : ∃ o, Fq.o ⟨s2, A2, D2⟩ = o := ⟨_, rfl⟩
          have HO2 := hid (show (L[k]'(hlt2)).o = o2 by rw [HF2.out, ho2])
          have RX2 := hid (show RA wr s2 (.slice a32 n32 c32) (.slice b32 m32 d32) o2 from ⟨A2, D2, R2, ho2⟩)
          clear ho2 R2
          have HOO := hid (show os[k]'(by rw [HZ.out]; exact hlt) = bq mulF o1 o2 by rw [HA.out k hlt hlt2 (by rw [HZ.out]; exact hlt), HO1.out, HO2.out])
          have hln := hid (show ((os.take k).map fqo).length = k by rw [List.length_map, List.length_take, HZ.out]; omega)
          have G1 := hid (HV.out.blk hlt)
          have G2 := hid (HW.out.blk hlt2)
          have VD := hid (hV.out.old (Below_drew1 (Below.refl _ _)))
          have BD := hid (Below_drew1 HB.out)
          have HBw := hid (((Below_drew1 HB.out).cell (p := ⟨B, 0, none⟩) hBl'.out).trans HBc.out)
          have hz := HB.out.size
          have KF := hid (step_mul (w := wr.drew) VD.out hz (by rw [hln.out]; omega) (RX1.out.old (Below_drew1 (Below.refl _ _))) (RX2.out.old (Below_drew1 (Below.refl _ _))) HBw.out (Nat.lt_of_lt_of_le hBl'.out hz))
          obtain ⟨Ks, hKs⟩ : ∃ Ks, Ks = (os.take k).map fqo := ⟨_, rfl⟩
          have HKs := hid hKs
          rw [← hKs] at KF hln
          clear hKs
          have a1' : (0 : Int) ≤ k := by omega
          have a2 : (k : Int) < K.length := by omega
          go_wp2_with fail
          go_region_held3 (fun w' => w'.cell? ⟨g1, p1 + k * 3, none⟩ = some (.bool s1) ∧ w'.cell? ⟨g1, p1 + k * 3 + 1, none⟩ = some (.slice a31 n31 c31) ∧ w'.cell? ⟨g1, p1 + k * 3 + 2, none⟩ = some (.slice b31 m31 d31) ∧ w'.cell? ⟨g2, p2 + k * 3, none⟩ = some (.bool s2) ∧ w'.cell? ⟨g2, p2 + k * 3 + 1, none⟩ = some (.slice a32 n32 c32) ∧ w'.cell? ⟨g2, p2 + k * 3 + 2, none⟩ = some (.slice b32 m32 d32)) (first | with_reducible exact ⟨q01, q11, q21, q02, q12, q22⟩ | go_keep)
            (first
              | (go_at_call 210; (with_reducible refine (KF.out).mono ?_); rintro e w2 ⟨gp, cp, rfl, hvp, hb⟩
                 have q01 := (hb.cell (p := ⟨g1, p1 + k * 3, none⟩) G1.out).trans q01 ; have q11 := (hb.cell (p := ⟨g1, p1 + k * 3 + 1, none⟩) G1.out).trans q11 ; have q21 := (hb.cell (p := ⟨g1, p1 + k * 3 + 2, none⟩) G1.out).trans q21 ; have q02 := (hb.cell (p := ⟨g2, p2 + k * 3, none⟩) G2.out).trans q02 ; have q12 := (hb.cell (p := ⟨g2, p2 + k * 3 + 1, none⟩) G2.out).trans q12 ; have q22 := (hb.cell (p := ⟨g2, p2 + k * 3 + 2, none⟩) G2.out).trans q22
                 have HB3 := hid (BD.out.trans hb)
                 have HV3 := hid hvp
                 clear hvp hb))
          clear q01 q11 q21 q02 q12 q22
          go_wp2
          go_roundw
          case rel => exact ⟨k + 1, some ⟨gp, 0, none⟩, cp, by omega, by go_num, by rw [hln.out], hid (by
            have h1 := HV3.out
            rw [hln.out, HKs.out, take_map (by rw [HZ.out]; exact hlt) HOO.out] at h1
            exact h1), HB3.out⟩
          case measure => simp [intOf]; omega
        · obtain rfl : k = K.length := by omega
          have R := hid (show VecR true (os.map fqo) w (.returned (.slice a' K.length c')) wr from ⟨_, _, _, rfl, by have h1 := hV.out; rwa [List.take_of_length_le (by rw [HZ.out]; exact Nat.le_refl _)] at h1, HB.out⟩)
          clear hbel
          go_wp2
          go_ret
          exact R.out
    · rw [if_neg (by omega)]
      have R := hid (show VecR true [] w (.returned (.slice none 0 0)) w from ⟨_, _, _, rfl, VK_nil _ _ _ _, Below.refl _ _⟩)
      have e0 : ((K.length : Int) == (L.length : Int)) = true := by simp [hne]
      have h4 : (40 : Int) < K.length := by omega
      rw [← hne]
      clear hne
      go_enter Tryz.func209, Tryz.ntmps209
      go_wp2
      go_ret
      exact R.out
  · rw [if_neg (by omega)]
    have R := hid (show VecR true [] w (.returned (.slice none 0 0)) w from ⟨_, _, _, rfl, VK_nil _ _ _ _, Below.refl _ _⟩)
    obtain ⟨e1, e2⟩ := ne_facts hne
    go_enter Tryz.func209, Tryz.ntmps209
    go_wp2
    go_ret
    exact R.out
theorem zw_long {f : Rat → Rat → Option Rat} {K L : List Fq} (h : K.length = L.length) (h4 : ¬ K.length ≤ 40) : vres (zw f K L) = [] := by
 have : oks (zw f K L) = false := by
  have : ¬ (zw f K L).length ≤ 40 := by rw [zw_len h]; exact h4
  simp [oks, this]
 unfold vres
 rw [this]
 rfl
theorem oks_map {os : List (Option Rat)} (h : ∀ o ∈ os, fitO o) : oks (vals (os.map fqo)) = oks os := by rw [vals_map h]
end Go.Proofs.YthkehmnodcmlcaaGreat
