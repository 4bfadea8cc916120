import Derived.Test.YthkehmnodcmlcaaGreatZg
import Derived.Test.YthkehmnodcmlcaaGreatZd
import Derived.Deep.RegionLaw
import Derived.Deep.RegionHeld3
import Derived.Deep.DeepCutAuto
set_option maxRecDepth 100000
set_option maxHeartbeats 51200000
set_option linter.unusedVariables false
set_option linter.unusedSimpArgs false
namespace Go.Proofs.YthkehmnodcmlcaaGreat
open Go.RowKit
open Go.Lib (hid)
theorem LocA.all3 {T : TypeId} {w : World} {b : Nat} {v0 v1 v2 : Value} (h : LocA T w b #[v0, v1, v2]) : w.cell? ⟨b, 0, none⟩ = some v0 ∧ w.cell? ⟨b, 1, none⟩ = some v1 ∧ w.cell? ⟨b, 2, none⟩ = some v2 := ⟨h.c 0 rfl, h.c 1 rfl, h.c 2 rfl⟩
theorem Below_drewAD {w : World} {o : Go.Obj} : Below w.heap.size w (w.alloc o).drew := Below_drew1 (below_new' (w := w) (o := o))
theorem RatO_zeroS {w w' : World} (hb : Below w.heap.size w w') : RatO false none w (.returned (.agg #[.bool false, .slice none 0 0, .slice none 0 0])) w' := ⟨false, none, 0, 0, none, 0, 0, rfl, RO_none, hb⟩
theorem mvf_self {α : Type} {R : List α} {d : Nat} (h : d < R.length) : mvf R d d = R := by
 rw [mvf_eq h, Nat.sub_self, List.take_zero, List.nil_append]
 rw [← List.drop_eq_getElem_cons h, List.take_append_drop]
theorem spec_Det {a : Option Addr} {n c lo hi : Nat} {M : List (List Fq)} (hM : Sm2 M) (w : World) (h : MW w a n M lo hi) :
  Calls Tryz.prog 51 #[.slice a n c] w (RatO false (detM M) w) := by
 have HV := hid h
 have hnum := h.num
 obtain ⟨DM, hDM⟩ : ∃ DM, DM = detM M := ⟨_, rfl⟩
 rw [← hDM]
 have BA := hid (show Below w.heap.size w (w.alloc (.cells #[.bool false, .slice none 0 0, .slice none 0 0] 37)) from below_new' (o := .cells #[.bool false, .slice none 0 0, .slice none 0 0] 37))
 have LA := hid (LocA.at (T := 37) (w := w) (b := w.heap.size) (cs := #[.bool false, .slice none 0 0, .slice none 0 0]) rfl)
 have KO := hid (fun (U : World) (hb : Below w.heap.size w U) => spec_MatOk_w (c := c) hM U (HV.out.old hb))
 have KC := hid (fun (U : World) (hb : Below w.heap.size w U) => l08Copy_any (c := c) hM U (HV.out.old hb))
 obtain ⟨ok, hok⟩ : ∃ ok, matOk M = ok := ⟨_, rfl⟩
 rw [hok] at KO
 cases ok with
 |false =>
  have HDM := hid (show DM = none by rw [hDM, detM, if_neg (by rw [hok]; simp)])
  clear h hDM hok hnum
  go_enter Tryz.func51, Tryz.ntmps51
  go_wp2_with fail
  (with_reducible refine (KO.out _ BA.out).mono ?_)
  rintro e w1 ⟨rfl, hb⟩
  have HB1 := hid (BA.out.trans (hb.mono BA.out.size))
  have L1 := hid (LA.out.old hb)
  clear hb
  have f0 := L1.out.f 0
  have f1 := L1.out.f 1
  have f2 := L1.out.f 2
  have p0 := L1.out.c 0 rfl
  have p1 := L1.out.c 1 rfl
  have p2 := L1.out.c 2 rfl
  have RZ := hid (show RatO false DM w (.returned (.agg #[.bool false, .slice none 0 0, .slice none 0 0])) ((((w1).setCell ⟨w.heap.size, 0, none⟩ (.bool false)).setCell ⟨w.heap.size, 1, none⟩ (.slice none 0 0)).setCell ⟨w.heap.size, 2, none⟩ (.slice none 0 0)) from by
   rw [HDM.out]
   exact RatO_zeroS (((HB1.out.setCell (p := ⟨w.heap.size, 0, none⟩) (Nat.le_refl _) (.bool false)).setCell (p := ⟨w.heap.size, 1, none⟩) (Nat.le_refl _) (.slice none 0 0)).setCell (p := ⟨w.heap.size, 2, none⟩) (Nat.le_refl _) (.slice none 0 0)))
  go_wp2
  (try simp only [Exit.inBlock, Exit.then])
  (try rw [Exit.noGoto_ret])
  exact bodyPost_ret (v := .agg #[.bool false, .slice none 0 0, .slice none 0 0]) (by simp [results, Tryz.results51, go_sem, p0, p1, p2]) rfl RZ.out
 |true =>
  by_cases hn0 : n = 0
  ·have hm0 : M = [] := List.length_eq_zero_iff.1 (by omega)
   have HDM := hid (show DM = some ((1 : Int) : Rat) by rw [hDM, detM, if_pos ⟨hok, by rw [hm0]; rfl⟩, hm0]; simp [un, detV, detK, prodK, sgR])
   have HML := hid (show M.length = 0 from by rw [hm0]; rfl)
   subst hn0
   have e1 : ¬ (0 : Int) < ((0 : Nat) : Int) := by decide
   clear h hDM hok hm0 hnum
   go_enter Tryz.func51, Tryz.ntmps51
   go_wp2_with fail
   (with_reducible refine (KO.out _ BA.out).mono ?_)
   rintro e w1 ⟨rfl, hb⟩
   have HB1 := hid (BA.out.trans (hb.mono BA.out.size))
   have L1 := hid (LA.out.old hb)
   clear hb
   go_wp2_with fail
   (with_reducible refine (KC.out _ HB1.out).mono ?_)
   rintro e w2 ⟨a1, cap, R, rfl, hMR, hRK, hb⟩
   rw [HML.out]
   have HB2 := hid (HB1.out.trans (hb.mono HB1.out.size))
   have L2 := hid (L1.out.old hb)
   clear hMR hRK hb
   go_wp2_with fail
   (with_reducible refine (sint_o 1 (by decide) (by decide) _).mono ?_)
   rintro e w3 ⟨s4, a4, n4, c4, b4, m4, d4, rfl, hr, hb⟩
   have BN := below_new' (w := w3) (o := .cells #[.bool s4, .slice a4 n4 c4, .slice b4 m4 d4] 37)
   have LN := hid (LocA.new (w := w3) (T := 37) (cs := #[.bool s4, .slice a4 n4 c4, .slice b4 m4 d4]))
   have HB4 := hid ((HB2.out.trans (hb.mono HB2.out.size)).trans (BN.mono (Nat.le_trans HB2.out.size hb.size)))
   have L4 := hid ((L2.out.old hb).old BN)
   have HR4 := hid (((hr.base HB2.out.size).old BN).eqo HDM.out.symm)
   clear hr hb BN
   go_wp2
   generalize w3.alloc (.cells #[.bool s4, .slice a4 n4 c4, .slice b4 m4 d4] 37) = W4 at HB4 L4 HR4 LN ⊢
   go_loopw [35] (fun t wr => t = .int .i64 ((0 : Nat) : Int) ∧ wr = W4) (fun t _ => 0)
   case atStart => exact ⟨rfl, rfl⟩
   case round =>
    obtain ⟨rfl, rfl⟩ := hrel
    obtain ⟨y0, y1, y2⟩ := LN.out.all3
    have RR := hid (show RatO false DM w (.returned (.agg #[.bool s4, .slice a4 n4 c4, .slice b4 m4 d4])) ((((wr).setCell ⟨w.heap.size, 0, none⟩ (.bool s4)).setCell ⟨w.heap.size, 1, none⟩ (.slice a4 n4 c4)).setCell ⟨w.heap.size, 2, none⟩ (.slice b4 m4 d4)) from
     ⟨_, _, _, _, _, _, _, rfl, (((HR4.out.set L4.out (by decide) (i := 0) (y := .bool s4)).set (L4.out.set (i := 0) (x := .bool s4)) (by decide) (i := 1) (y := .slice a4 n4 c4)).set ((L4.out.set (i := 0) (x := .bool s4)).set (i := 1) (x := .slice a4 n4 c4)) (by decide) (i := 2) (y := .slice b4 m4 d4)), ((HB4.out.setCell (p := ⟨w.heap.size, 0, none⟩) (Nat.le_refl _) (.bool s4)).setCell (p := ⟨w.heap.size, 1, none⟩) (Nat.le_refl _) (.slice a4 n4 c4)).setCell (p := ⟨w.heap.size, 2, none⟩) (Nat.le_refl _) (.slice b4 m4 d4)⟩)
    have f0 := L4.out.f 0
    have f1 := L4.out.f 1
    have f2 := L4.out.f 2
    have p0 := L4.out.c 0 rfl
    have p1 := L4.out.c 1 rfl
    have p2 := L4.out.c 2 rfl
    go_wp2
    (try simp only [Exit.inBlock, Exit.then])
    (try rw [Exit.noGoto_ret])
    exact bodyPost_ret (v := .agg #[.bool s4, .slice a4 n4 c4, .slice b4 m4 d4]) (by simp [results, Tryz.results51, go_sem, p0, p1, p2]) rfl RR.out
  have hM0 : 0 < M.length := by omega
  have hw0 : M[0].length = matW M := (matOk_row hok hM0).1
  by_cases hsq : n = matW M
  rotate_left
  ·have HDM := hid (show DM = none by rw [hDM, detM, if_neg (by rw [← hnum]; exact fun h => hsq h.2)])
   obtain ⟨W, hW⟩ : ∃ W, matW M = W := ⟨_, rfl⟩
   rw [hW] at hw0 hsq
   have HX := hid (fun (U : World) (hb : Below w.heap.size w U) => (HV.out.old hb).at (k := 0) hM0)
   simp only [hw0] at HX
   have e0 : ((W : Int) != (n : Int)) = true := by simp; omega
   have e1 : (0 : Int) < n := by omega
   clear h hDM hok hW hnum hw0
   go_enter Tryz.func51, Tryz.ntmps51
   go_wp2_with fail
   (with_reducible refine (KO.out _ BA.out).mono ?_)
   rintro e w1 ⟨rfl, hb⟩
   have HB1 := hid (BA.out.trans (hb.mono BA.out.size))
   have L1 := hid (LA.out.old hb)
   obtain ⟨g, o, b, d, rfl, hg, q0, -⟩ := HX.out _ HB1.out
   rw [Nat.add_zero] at q0
   clear hb
   have f0 := L1.out.f 0
   have f1 := L1.out.f 1
   have f2 := L1.out.f 2
   have p0 := L1.out.c 0 rfl
   have p1 := L1.out.c 1 rfl
   have p2 := L1.out.c 2 rfl
   have RZ := hid (show RatO false DM w (.returned (.agg #[.bool false, .slice none 0 0, .slice none 0 0])) ((((w1).setCell ⟨w.heap.size, 0, none⟩ (.bool false)).setCell ⟨w.heap.size, 1, none⟩ (.slice none 0 0)).setCell ⟨w.heap.size, 2, none⟩ (.slice none 0 0)) from by
    rw [HDM.out]
    exact RatO_zeroS (((HB1.out.setCell (p := ⟨w.heap.size, 0, none⟩) (Nat.le_refl _) (.bool false)).setCell (p := ⟨w.heap.size, 1, none⟩) (Nat.le_refl _) (.slice none 0 0)).setCell (p := ⟨w.heap.size, 2, none⟩) (Nat.le_refl _) (.slice none 0 0)))
   go_wp2
   (try simp only [Exit.inBlock, Exit.then])
   (try rw [Exit.noGoto_ret])
   exact bodyPost_ret (v := .agg #[.bool false, .slice none 0 0, .slice none 0 0]) (by simp [results, Tryz.results51, go_sem, p0, p1, p2]) rfl RZ.out
  have HDM := hid (show DM = detV (un M) by rw [hDM, detM, if_pos ⟨hok, by rw [← hnum]; exact hsq⟩])
  obtain ⟨hMr, hRW⟩ := un_rv hok
  rw [← hsq] at hRW hw0
  have hul := un_len M
  obtain ⟨XX, hXX⟩ : ∃ XX, un M = XX := ⟨_, rfl⟩
  rw [hXX] at hMr hRW hul HDM
  have HXL := hid (show XX.length = n by omega)
  have HRW := hid hRW
  have HMR := hid hMr
  have HML := hid (show M.length = n from hnum.symm)
  have hn40 : n ≤ 40 := by rw [hnum]; exact matOk_n hok
  have HX := hid (fun (U : World) (hb : Below w.heap.size w U) => (HV.out.old hb).at (k := 0) hM0)
  simp only [hw0] at HX
  have e1 : (0 : Int) < n := by omega
  clear h hDM hok hMr hRW hul hXX hsq hnum hw0
  go_enter Tryz.func51, Tryz.ntmps51
  go_wp2_with fail
  (with_reducible refine (KO.out _ BA.out).mono ?_)
  rintro e w1 ⟨rfl, hb⟩
  have HB1 := hid (BA.out.trans (hb.mono BA.out.size))
  have L1 := hid (LA.out.old hb)
  obtain ⟨lo', hlo'⟩ : ∃ lo', w1.heap.size = lo' := ⟨_, rfl⟩
  have HLO := hid (show w.heap.size < lo' by have h1 := L1.out.lt; omega)
  obtain ⟨g, o, b, d, rfl, hg, q0, -⟩ := HX.out _ HB1.out
  rw [Nat.add_zero] at q0
  clear hb
  go_wp2_with fail
  (with_reducible refine (KC.out _ HB1.out).mono ?_)
  rintro e w2 ⟨a1, cap, R, rfl, hMR, hRK, hb⟩
  clear q0
  rw [hlo'] at hMR hb
  rw [HML.out] at hMR ⊢
  have hRl : R.length = n := by have := congrArg List.length hRK; rw [List.length_map, HML.out] at this; exact this
  rw [HMR.out] at hRK
  obtain ⟨G, rfl, hG1, hG2⟩ : ∃ G, a1 = some ⟨G, 0, none⟩ ∧ lo' ≤ G ∧ G < w2.heap.size := by
   rcases hMR.cases with ⟨-, h2⟩ | ⟨g, cp, h1, h2, h3, h4, -⟩
   ·rw [h2] at hRl; simp at hRl; omega
   ·simp only [Value.slice.injEq] at h1
    exact ⟨g, h1.1, h2, h4⟩
  have HGl := hid hG1
  obtain ⟨V, hV⟩ : ∃ V : Nat → Value, V = fun j => (R.map Rw.v).getD j (.slice none 0 0) := ⟨_, rfl⟩
  have hrow0 := hMR.row
  rw [hRl, show R.map Rw.v = (List.range n).map V by
   apply List.ext_getElem
   ·simp [hRl]
   ·intro k h1 h2
    simp at h2
    rw [List.getElem_map, List.getElem_map, List.getElem_range, hV]
    simp [hRl, h2]] at hrow0
  have hRC0 : RC none w2 n V lo' (fun j => (XX.getD j []).map Option.some) := RC.of hMR hRl (fun j hj => by rw [hV]; simp [hj]) (fun j hj => by
    have := congrArg (fun l => l[j]?) hRK
    simp only [List.getElem?_map] at this
    have hj' : j < XX.length := by rw [HXL.out]; omega
    rw [List.getElem?_eq_getElem hj, List.getElem?_eq_getElem hj'] at this
    simp only [Option.map_some] at this
    rw [Option.some.inj this, getD_row hj', map_fqo_some]) (fun j hj => by rw [getD_row (by rw [HXL.out]; exact hj)]; exact af_some (HRW.out.at _).2) (fun k hk => by cases hk)
  have HBD0 := hid (show BD w2 lo' G n cap ((List.range n).map V) V (fun j => (XX.getD j []).map Option.some) (.slice none 0 0) [] from ⟨hRC0, hrow0, Ints_nil _ _⟩)
  have HVlt := hid (fun (r : Nat) (hr : r < n) (k : Nat) (hk : (V r).ownBlock = some k) => show k < w2.heap.size from by
   obtain ⟨E, hE, -, -⟩ := hRC0.el r hr
   exact (hE.lt k hk).2)
  have HB2 := hid (HB1.out.trans (hb.mono (Nat.le_of_lt HLO.out)))
  have L2 := hid (L1.out.underD hb (by have := HLO.out; omega))
  clear hMR hRK hb hrow0 hRC0 hV hRl L1
  go_wp2_with fail
  (with_reducible refine (sint_o 1 (by decide) (by decide) _).mono ?_)
  rintro e w3 ⟨s4, a4, n4, c4, b4, m4, d4, rfl, hr, hb⟩
  obtain ⟨N, hN⟩ : ∃ N, N = w3.heap.size := ⟨_, rfl⟩
  have hz2 := hid HB2.out.size
  have hz3 := hid hb.size
  have BN := hid (below_new' (w := w3) (o := .cells #[.bool s4, .slice a4 n4 c4, .slice b4 m4 d4] 37))
  have HB4 := hid ((HB2.out.trans (hb.mono hz2.out)).trans (BN.out.mono (Nat.le_trans hz2.out hz3.out)))
  have L4 := hid ((L2.out.old hb).old BN.out)
  have HD4 := hid (show DD (w3.alloc (.cells #[.bool s4, .slice a4 n4 c4, .slice b4 m4 d4] 37)) lo' G n cap ((List.range n).map V) V (fun j => (XX.getD j []).map Option.some) N s4 (.slice a4 n4 c4) (.slice b4 m4 d4) (prodK XX false 0) from
   ⟨(HBD0.out.old hb).old BN.out, by have := hz3.out; omega, fun r hr e => by have := HVlt.out r hr N e; have := hz3.out; omega, by rw [hN]; exact LocA.at rfl, ((hr.base (by have := hG1; have := hG2; omega)).old BN.out).eqo (by simp [prodK, sgR])⟩)
  have HNW := hid (show w.heap.size < N ∧ w.heap.size < G by have := HLO.out; have := HGl.out; have := hz3.out; omega)
  have PBN := hid hN
  clear hr hb BN L2 HBD0 HVlt hz2 hz3
  go_wp2
  rw [← PBN.out]
  generalize w3.alloc (.cells #[.bool s4, .slice a4 n4 c4, .slice b4 m4 d4] 37) = W4 at HB4 L4 HD4 ⊢
  clear hN PBN hlo'
  go_loopw [35] (fun t wr => ∃ (k : Nat) (S : List (List Rat)) (sg : Bool) (V : Nat → Value) (s1 : Bool) (a1 : Option Addr) (n1 c1 : Nat) (b1 : Option Addr) (m1 d1 : Nat), k ≤ n ∧ t = .int .i64 k ∧ Hid (detK XX k = some (some (S, sg))) ∧ Hid (DD wr lo' G n cap ((List.range n).map V) V (fun j => (S.getD j []).map Option.some) N s1 (.slice a1 n1 c1) (.slice b1 m1 d1) (prodK S sg k)) ∧ Hid (LocA 37 wr w.heap.size #[.bool false, .slice none 0 0, .slice none 0 0]) ∧ Below w.heap.size w wr) (fun t _ => n - (intOf t).toNat)
  case atStart => exact ⟨0, XX, false, V, s4, a4, n4, c4, b4, m4, d4, Nat.zero_le _, rfl, hid rfl, HD4, L4, HB4.out⟩
  case round =>
   obtain ⟨k, S, sg, V, s1, a1, n1, c1, b1, m1, d1, hk, rfl, hS, hD, hL, hbel⟩ := hrel
   obtain ⟨wo, rfl⟩ : ∃ wo, wo = wr := ⟨_, rfl⟩
   have HB := hid hbel
   have hz := hid hbel.size
   clear hbel
   have hinv := detK_inv HRW.out (show k ≤ XX.length by have := HXL.out; omega) hS.out
   have HSl := hid (show S.length = n by rw [hinv.2, HXL.out])
   have HSW := hid hinv.1
   clear hinv
   by_cases hlt : k < n
   rotate_left
   ·obtain rfl : k = n := by omega
    have HDS := hid (show DM = prodK S sg k from by
     rw [HDM.out, detV_fin (S := S) (s := sg) (by rw [HXL.out]; exact hS.out), HSl.out])
    obtain ⟨y0, y1, y2⟩ := hD.out.lc.all3
    have k1 : ¬ (k : Int) < k := by omega
    have RR := hid (show RatO false DM w (.returned (.agg #[.bool s1, .slice a1 n1 c1, .slice b1 m1 d1])) ((((wo).setCell ⟨w.heap.size, 0, none⟩ (.bool s1)).setCell ⟨w.heap.size, 1, none⟩ (.slice a1 n1 c1)).setCell ⟨w.heap.size, 2, none⟩ (.slice b1 m1 d1)) from
     ⟨_, _, _, _, _, _, _, rfl, (((((hD.out.ro.base (show w.heap.size ≤ lo' from Nat.le_of_lt HLO.out)).eqo HDS.out.symm).set hL.out (by decide) (i := 0) (y := .bool s1)).set (hL.out.set (i := 0) (x := .bool s1)) (by decide) (i := 1) (y := .slice a1 n1 c1)).set ((hL.out.set (i := 0) (x := .bool s1)).set (i := 1) (x := .slice a1 n1 c1)) (by decide) (i := 2) (y := .slice b1 m1 d1)), ((HB.out.setCell (p := ⟨w.heap.size, 0, none⟩) (Nat.le_refl _) (.bool s1)).setCell (p := ⟨w.heap.size, 1, none⟩) (Nat.le_refl _) (.slice a1 n1 c1)).setCell (p := ⟨w.heap.size, 2, none⟩) (Nat.le_refl _) (.slice b1 m1 d1)⟩)
    have f0 := hL.out.f 0
    have f1 := hL.out.f 1
    have f2 := hL.out.f 2
    have p0 := hL.out.c 0 rfl
    have p1 := hL.out.c 1 rfl
    have p2 := hL.out.c 2 rfl
    go_wp2
    (try simp only [Exit.inBlock, Exit.then])
    (try rw [Exit.noGoto_ret])
    exact bodyPost_ret (v := .agg #[.bool s1, .slice a1 n1 c1, .slice b1 m1 d1]) (by simp [results, Tryz.results51, go_sem, p0, p1, p2]) rfl RR.out
   have k0 : (0 : Int) ≤ k := by omega
   have k1 : (k : Int) < n := by omega
   go_wp2
   go_loopw [6] (fun t wr => ∃ q : Nat, k ≤ q ∧ q ≤ n ∧ t = .int .i64 q ∧ Hid (∀ j (hj : j < S.length), k ≤ j → j < q → el S[j] k = 0) ∧ Below wo.heap.size wo wr) (fun t _ => n - (intOf t).toNat)
   case atStart => exact ⟨k, Nat.le_refl _, hk, rfl, hid (fun j hj h1 h2 => absurd h1 (by omega)), Below.refl _ _⟩
   case round =>
    obtain ⟨q, hdq, hqn, rfl, hQ, hbi⟩ := hrel
    have HBi := hid hbi
    have HD1 := hid (hD.out.old hbi)
    have L5 := hid (hL.out.old hbi)
    have HB1q := hid (HB.out.trans (hbi.mono hz.out))
    clear hbi
    by_cases hqlt : q < n
    rotate_left
    ·have HDN := hid (show DM = some ((0 : Int) : Rat) from by
      rw [HDM.out]
      exact detV_nul (c := k + 1) (by have := HXL.out; omega) (detK_zero hS.out (fnd_none fun j hj h1 => hQ.out j hj h1 (by have := HSl.out; omega))))
     obtain rfl : q = n := by omega
     have z1 : ¬ (q : Int) < q := by omega
     go_wp2_with fail
     (with_reducible refine (sint_o 0 (by decide) (by decide) _).mono ?_)
     rintro e w8 ⟨s8, a8, n8, c8, b8, m8, d8, rfl, hr, hb⟩
     have L8 := hid (L5.out.old hb)
     have HB8 := hid (HB1q.out.trans (hb.mono HB1q.out.size))
     have RR := hid (show RatO false DM w (.returned (.agg #[.bool s8, .slice a8 n8 c8, .slice b8 m8 d8])) ((((w8).setCell ⟨w.heap.size, 0, none⟩ (.bool s8)).setCell ⟨w.heap.size, 1, none⟩ (.slice a8 n8 c8)).setCell ⟨w.heap.size, 2, none⟩ (.slice b8 m8 d8)) from
      ⟨_, _, _, _, _, _, _, rfl, (((((hr.base HB1q.out.size).eqo HDN.out.symm).set L8.out (by decide) (i := 0) (y := .bool s8)).set (L8.out.set (i := 0) (x := .bool s8)) (by decide) (i := 1) (y := .slice a8 n8 c8)).set ((L8.out.set (i := 0) (x := .bool s8)).set (i := 1) (x := .slice a8 n8 c8)) (by decide) (i := 2) (y := .slice b8 m8 d8)), ((HB8.out.setCell (p := ⟨w.heap.size, 0, none⟩) (Nat.le_refl _) (.bool s8)).setCell (p := ⟨w.heap.size, 1, none⟩) (Nat.le_refl _) (.slice a8 n8 c8)).setCell (p := ⟨w.heap.size, 2, none⟩) (Nat.le_refl _) (.slice b8 m8 d8)⟩)
     clear hr hb
     have f0 := L8.out.f 0
     have f1 := L8.out.f 1
     have f2 := L8.out.f 2
     have p0 := L8.out.c 0 rfl
     have p1 := L8.out.c 1 rfl
     have p2 := L8.out.c 2 rfl
     go_wp2
     (try simp only [Exit.inBlock, Exit.then])
     (try rw [Exit.noGoto_ret])
     exact bodyPost_ret (v := .agg #[.bool s8, .slice a8 n8 c8, .slice b8 m8 d8]) (by simp [results, Tryz.results51, go_sem, p0, p1, p2]) rfl RR.out
    have hqS : q < S.length := by rw [HSl.out]; exact hqlt
    obtain ⟨hql, hqa⟩ := HSW.out.at hqS
    have hOl : ((S.getD q []).map Option.some).length = n := by rw [getD_row hqS, List.length_map, hql]
    obtain ⟨g, cr, s3, a3, n3, c3, b3, m3, d3, E, hVq, hg0, hg, q1, q2, q3, hRO, -, -⟩ := HD1.out.bd.rc.at hqlt (k := k) (by rw [hOl]; exact hlt)
    have hval : ((S.getD q []).map Option.some)[k]'(by rw [hOl]; exact hlt) = some (el S[q] k) := by
     simp only [getD_row hqS, List.getElem_map]
     rw [el_at (by omega)]
    simp only [hval] at hRO
    simp only [hOl] at hVq
    have q0 := HD1.out.bd.cell (i := q) (v := V q) (by simp [hqlt])
    rw [hVq] at q0
    have HVq := hid hVq
    have hGs := (HD1.out.bd.row.lt G rfl).2
    have KS := hid (ssign_o hRO.ra)
    have z0 : (0 : Int) ≤ q := by omega
    have z1 : (q : Int) < n := by omega
    by_cases hz0 : el S[q] k = 0
    ·rw [sgn_zero hz0] at KS
     have HQ' := hid (show ∀ j (hj : j < S.length), k ≤ j → j < q + 1 → el S[j] k = 0 from fun j hj h1 h2 => by
      rcases Nat.lt_or_eq_of_le (Nat.le_of_lt_succ h2) with h | rfl
      ·exact hQ.out j hj h1 h
      ·exact hz0)
     clear hval hOl hql hqa hRO hVq hz0
     go_wp2_with fail
     (with_reducible refine (KS.out).mono ?_)
     rintro e w3 ⟨rfl, hb⟩
     have HBj := hid (HBi.out.trans (hb.mono HBi.out.size))
     clear hb q0 q1 q2 q3
     go_wp2
     go_roundw
     case rel => exact ⟨q + 1, by omega, by omega, by go_num, HQ', HBj.out⟩
     case measure => simp [intOf]; omega
    obtain ⟨z, hzz⟩ : ∃ z, sgnO (some (el S[q] k)) = z := ⟨_, rfl⟩
    have hz2 : (z == 0) = false := beq_eq_false_iff_ne.2 (by rw [← hzz]; exact sgn_nz hz0)
    rw [hzz] at KS
    have hfs : fnd S k k = some q := fnd_some hdq hqS hz0 (fun j hj h1 h2 => hQ.out j hj h1 h2)
    have HYes := hid (fun (ho : dOk (mvf S k q) k) => show detK XX (k + 1) = some (some (dfin (mvf S k q) k, sg != decide ((q - k) % 2 = 1))) from detK_fin hS.out hfs ho)
    have HNo := hid (fun (ho : ¬ dOk (mvf S k q) k) => show DM = none from by
     rw [HDM.out]
     exact detV_bad (c := k + 1) (by have := HXL.out; omega) (detK_bad hS.out hfs ho))
    have HST := hid (prodK_step hdq hqS (sg != decide ((q - k) % 2 = 1)))
    have HS1l := hid (show (mvf S k q).length = n by rw [mvf_len hdq hqS, HSl.out])
    have HS1W := hid (HSW.out.mvf hdq hqS)
    have HS1g := hid (fun j (hj : j < n) => mvf_getD hdq hqS (q := j) (by rw [HSl.out]; exact hj))
    have HS1d := hid (show (mvf S k q).getD k [] = S[q] by rw [getD_row (by rw [HS1l.out]; omega), mvf_get hdq hqS (by omega), if_neg (by omega), if_pos rfl])
    have HZ0 := hid hz0
    have z2 : ((q : Int) == (n : Int)) = false := beq_eq_false_iff_ne.2 (by omega)
    have hgh := hid hg
    have hg0h := hid hg0
    clear hzz hfs hval hOl hql hqa hRO hVq hz0 hQ
    go_wp2_with fail
    (with_reducible refine (KS.out).mono ?_)
    rintro e w3 ⟨rfl, hb⟩
    have HD2 := hid (HD1.out.old hb)
    have L6 := hid (L5.out.old hb)
    have HB2 := hid (HB1q.out.trans (hb.mono HB1q.out.size))
    have q0 := (hb.cell (p := ⟨G, q, none⟩) hGs).trans q0
    clear hb q1 q2 q3 KS hGs
    by_cases hqk : q = k
    ·obtain ⟨w5, rfl⟩ : ∃ w5, w5 = w3 := ⟨_, rfl⟩
     obtain ⟨V1, hV1⟩ : ∃ V1 : Nat → Value, V1 = V := ⟨_, rfl⟩
     have hS1s : mvf S k q = S := by rw [hqk]; exact mvf_self (by omega)
     have HV1d := hid (show V1 k = .slice (some ⟨g, 0, none⟩) n cr by rw [hV1, ← hqk]; exact HVq.out)
     have HT := hid (show DD w5 lo' G n cap ((List.range n).map V1) V1 (fun r => ((mvf S k q).getD r []).map Option.some) N s1 (.slice a1 n1 c1) (.slice b1 m1 d1) (prodK S (sg != decide ((q - k) % 2 = 1)) k) from by
      rw [hV1, hS1s]
      exact HD2.out.eqo (by rw [hqk, Nat.sub_self]; simp))
     have HBT := hid HB2.out
     have LT := hid L6.out
     have z3 : ((q : Int) != (k : Int)) = false := by simp; omega
     clear hV1 hS1s HD2 L6 HB2
     go_wp2_with fail
     clear q0
     have hkS : k < (mvf S k q).length := by have := HS1l.out; omega
     obtain ⟨g', cr', s6, a6, n6, c6, b6, m6, d6, hVk, hgl', hg', x0, x1, x2, RX⟩ := HT.out.bd.rc.at' (j := k) hlt (os := (S[q]).map Option.some) (by rw [HS1d.out]) (W := n) (by rw [List.length_map]; exact (HSW.out.at hqS).1) (k := k) hlt (o := some (el S[q] k)) (by rw [List.getElem_map, el_at (by have := (HSW.out.at hqS).1; omega)])
     have q0 := HT.out.bd.cell (i := k) (v := V1 k) (by simp [hlt])
     rw [hVk] at q0
     obtain ⟨y0, y1, y2⟩ := HT.out.lc.all3
     have HVk := hid hVk
     have KF := hid (smul_o (w := w5.drew) (HT.out.ro.ra.old (Below_drew1 (Below.refl _ _))) (RX.ra.old (Below_drew1 (Below.refl _ _))))
     rw [HST.out] at KF
     have HTD := hid (HT.out.old (Below_drew1 (Below.refl _ _)))
     have LTD := hid (LT.out.old (Below_drew1 (Below.refl _ _)))
     have HBD := hid (Below_drew1 HBT.out)
     obtain ⟨OP, hOP⟩ : ∃ OP, OP = prodK (dfin (mvf S k q) k) (sg != decide ((q - k) % 2 = 1)) (k + 1) := ⟨_, rfl⟩
     rw [← hOP] at KF
     have HOP := hid hOP
     clear hOP RX
     go_wp2_with fail
     go_still_tail 8, (by kernel_rfl)
     change wpList _ _ _ _ _ w5.drew
     clear x0 x1 x2 y0 y1 y2 q0 hVk
     generalize w5.drew = wd at KF HTD LTD HBD ⊢
     go_wp2_with fail
     (with_reducible refine (KF.out).mono ?_)
     rintro e w6 ⟨s7, a7, n7, c7, b7, m7, d7, rfl, hr7, hb7⟩
     have HT6 := hid (HTD.out.old hb7)
     obtain ⟨u0, u1, u2⟩ := HT6.out.lc.all3
     have f0 := HT6.out.lc.f 0
     have f1 := HT6.out.lc.f 1
     have f2 := HT6.out.lc.f 2
     have LT6 := hid (LTD.out.old hb7)
     have HB6 := hid (HBD.out.trans (hb7.mono HBD.out.size))
     have HT7 := hid (HT6.out.sgn (s' := s7) (a' := a7) (n' := n7) (c' := c7) (b' := b7) (m' := m7) (d' := d7) (hr7.base (by have := (HTD.out.bd.row.lt G rfl); omega)))
     have LT7 := hid (((LT6.out.setne (N := N) (i := 0) (x := .bool s7) (Nat.ne_of_lt HNW.out.1)).setne (N := N) (i := 1) (x := .slice a7 n7 c7) (Nat.ne_of_lt HNW.out.1)).setne (N := N) (i := 2) (x := .slice b7 m7 d7) (Nat.ne_of_lt HNW.out.1))
     have HB7 := hid (((HB6.out.setCell (p := ⟨N, 0, none⟩) (Nat.le_of_lt HNW.out.1) (.bool s7)).setCell (p := ⟨N, 1, none⟩) (Nat.le_of_lt HNW.out.1) (.slice a7 n7 c7)).setCell (p := ⟨N, 2, none⟩) (Nat.le_of_lt HNW.out.1) (.slice b7 m7 d7))
     have hwk : IntKind.i64.wrap ((k : Int) + 1) = ((k + 1 : Nat) : Int) := by have := IntWalk.i64_in ((k : Int) + 1) (by omega); rw [this]; omega
     clear hr7 hb7
     go_wp2
     clear u0 u1 u2 f0 f1 f2
     generalize ((w6.setCell ⟨N, 0, none⟩ (.bool s7)).setCell ⟨N, 1, none⟩ (.slice a7 n7 c7)).setCell ⟨N, 2, none⟩ (.slice b7 m7 d7) = w7 at HT7 LT7 HB7 ⊢
     go_loopw [9] (fun t wr => ∃ i : Nat, k + 1 ≤ i ∧ i ≤ n ∧ t = .int .i64 i ∧ Hid (DD wr lo' G n cap ((List.range n).map V1) V1 (dtO (mvf S k q) k i) N s7 (.slice a7 n7 c7) (.slice b7 m7 d7) OP) ∧ Hid (LocA 37 wr w.heap.size #[.bool false, .slice none 0 0, .slice none 0 0]) ∧ Hid (Below w.heap.size w wr)) (fun t _ => n - (intOf t).toNat)
     case atStart => exact ⟨k + 1, Nat.le_refl _, hlt, rfl, hid (HT7.out.same fun r hr => dtO_start _ _ _), LT7, HB7⟩
     case round =>
      obtain ⟨i, hki, hi, rfl, hDi, hLi, hBi⟩ := hrel
      by_cases hilt : i < n
      ·have hiS : i < (mvf S k q).length := by have := HS1l.out; omega
       have hli := (HS1W.out.at hiS).1
       have hlk := (HS1W.out.at hkS).1
       obtain ⟨gi, ci, s5, a5, n5, c5, b5, m5, d5, hVi, hgi0, hgi, x0, x1, x2, RXi⟩ := hDi.out.bd.rc.at' (j := i) hilt (os := ((mvf S k q)[i]'hiS).map Option.some) (by rw [dtO_before, getD_row hiS]) (W := n) (by rw [List.length_map]; exact hli) (k := k) hlt (o := some (el ((mvf S k q)[i]'hiS) k)) (by rw [List.getElem_map, el_at (by omega)])
       obtain ⟨gk, ck, s6, a6, n6, c6, b6, m6, d6, hVk2, hgk0, hgk, v0, v1, v2, RXk⟩ := hDi.out.bd.rc.at' (j := k) hlt (os := ((mvf S k q)[k]'hkS).map Option.some) (by unfold dtO; rw [if_neg (by omega), getD_row hkS]) (W := n) (by rw [List.length_map]; exact hlk) (k := k) hlt (o := some (el ((mvf S k q)[k]'hkS) k)) (by rw [List.getElem_map, el_at (by omega)])
       have q5 := hDi.out.bd.cell (i := i) (v := V1 i) (by simp [hilt])
       have q6 := hDi.out.bd.cell (i := k) (v := V1 k) (by simp [hlt])
       rw [hVi] at q5
       rw [hVk2] at q6
       have HVi := hid hVi
       have HVk2 := hid hVk2
       have h09 : el ((mvf S k q)[k]'hkS) k ≠ 0 := by rw [← getD_row hkS, HS1d.out]; exact HZ0.out
       have KF := hid (fun (U : World) (hb : Below wr.heap.size wr U) => sdiv_o (w := U) (RXi.ra.old hb) (RXk.ra.old hb))
       rw [div_cap h09] at KF
       have hGw := (hDi.out.bd.row.lt G rfl).2
       have hGh := hid hGw
       have hgih := hid hgi
       have hgkh := hid hgk
       have u4 : (0 : Int) ≤ i := by omega
       have u5 : (i : Int) < n := by omega
       clear hVi hVk2 RXi RXk h09 hli hlk hGw hgi hgk
       obtain ⟨fo, hfo0⟩ : ∃ fo, capF (el ((mvf S k q)[i]'hiS) k / el ((mvf S k q)[k]'hkS) k) = fo := ⟨_, rfl⟩
       rw [hfo0] at KF
       have HFO := hid hfo0
       clear hfo0
       go_upto_region 25 with fail
       go_cut [10] (fun sl wx => LaidO false wr fo sl wx)
       case first =>
        have q50 : wr.cell? ⟨G, i, none⟩ = some (.slice (some ⟨gi, 0, none⟩) n ci) := q5
        have q5 : wr.drew.cell? ⟨G, i, none⟩ = some (.slice (some ⟨gi, 0, none⟩) n ci) := q5
        have q60 : wr.cell? ⟨G, k, none⟩ = some (.slice (some ⟨gk, 0, none⟩) n ck) := q6
        have q6 : wr.drew.cell? ⟨G, k, none⟩ = some (.slice (some ⟨gk, 0, none⟩) n ck) := q6
        have x00 : wr.cell? ⟨gi, k * 3, none⟩ = some (.bool s5) := x0
        have x0 : wr.drew.cell? ⟨gi, k * 3, none⟩ = some (.bool s5) := x0
        have x10 : wr.cell? ⟨gi, k * 3 + 1, none⟩ = some (.slice a5 n5 c5) := x1
        have x1 : wr.drew.cell? ⟨gi, k * 3 + 1, none⟩ = some (.slice a5 n5 c5) := x1
        have x20 : wr.cell? ⟨gi, k * 3 + 2, none⟩ = some (.slice b5 m5 d5) := x2
        have x2 : wr.drew.cell? ⟨gi, k * 3 + 2, none⟩ = some (.slice b5 m5 d5) := x2
        have v00 : wr.cell? ⟨gk, k * 3, none⟩ = some (.bool s6) := v0
        have v0 : wr.drew.cell? ⟨gk, k * 3, none⟩ = some (.bool s6) := v0
        have v10 : wr.cell? ⟨gk, k * 3 + 1, none⟩ = some (.slice a6 n6 c6) := v1
        have v1 : wr.drew.cell? ⟨gk, k * 3 + 1, none⟩ = some (.slice a6 n6 c6) := v1
        have v20 : wr.cell? ⟨gk, k * 3 + 2, none⟩ = some (.slice b6 m6 d6) := v2
        have v2 : wr.drew.cell? ⟨gk, k * 3 + 2, none⟩ = some (.slice b6 m6 d6) := v2
        refine wp_region_held_drew (S := (fun w' => w'.cell? ⟨G, i, none⟩ = some (.slice (some ⟨gi, 0, none⟩) n ci) ∧ w'.cell? ⟨G, k, none⟩ = some (.slice (some ⟨gk, 0, none⟩) n ck) ∧ w'.cell? ⟨gi, k * 3, none⟩ = some (.bool s5) ∧ w'.cell? ⟨gi, k * 3 + 1, none⟩ = some (.slice a5 n5 c5) ∧ w'.cell? ⟨gi, k * 3 + 2, none⟩ = some (.slice b5 m5 d5) ∧ w'.cell? ⟨gk, k * 3, none⟩ = some (.bool s6) ∧ w'.cell? ⟨gk, k * 3 + 1, none⟩ = some (.slice a6 n6 c6) ∧ w'.cell? ⟨gk, k * 3 + 2, none⟩ = some (.slice b6 m6 d6))) (by kernel_rfl) (by first | (with_reducible exact ⟨q5, q6, x0, x1, x2, v0, v1, v2⟩) | ((try dsimp only); with_reducible exact ⟨q5, q6, x0, x1, x2, v0, v1, v2⟩)) (fun hHeld => ?_)
        refine tk (i := 0) (v := ?_) rfl (by kernel_rfl) (fun _ _ _ h => h) (Or.inl ⟨by rfl, ?_⟩) (by assumption) ?_
        rotate_left
        ·(intro w hSw; (try dsimp only at hSw); go_simp; try (with_reducible rfl))
        try simp only [Act.put, ka1, ka2, ka3, ka4, ka5]
        refine tk (i := 1) (v := ?_) rfl (by kernel_rfl) (fun _ _ _ h => h) (Or.inl ⟨by rfl, ?_⟩) (by assumption) ?_
        rotate_left
        ·(intro w hSw; (try dsimp only at hSw); go_simp; try (with_reducible rfl))
        try simp only [Act.put, ka1, ka2, ka3, ka4, ka5, ka6]
        refine tk (i := 2) (v := ?_) rfl (by kernel_rfl) (fun _ _ _ h => h) (Or.inl ⟨by rfl, ?_⟩) (by assumption) ?_
        rotate_left
        ·(intro w hSw; (try dsimp only at hSw); go_simp; try (with_reducible rfl))
        try simp only [Act.put, ka1, ka2, ka3, ka4, ka5, ka6]
        refine tk (i := 3) (v := ?_) rfl (by kernel_rfl) (fun _ _ _ h => h) (Or.inl ⟨by rfl, ?_⟩) (by assumption) ?_
        rotate_left
        ·(intro w hSw; (try dsimp only at hSw); go_simp; try (with_reducible rfl))
        try simp only [Act.put, ka1, ka2, ka3, ka4, ka5, ka6]
        refine tk (i := 4) (v := ?_) rfl (by kernel_rfl) (fun _ _ _ h => h) (Or.inl ⟨by rfl, ?_⟩) (by assumption) ?_
        rotate_left
        ·(intro w hSw; (try dsimp only at hSw); go_simp; try (with_reducible rfl))
        try simp only [Act.put, ka1, ka2, ka3, ka4, ka5, ka6]
        refine tk (i := 5) (v := ?_) rfl (by kernel_rfl) (fun _ _ _ h => h) (Or.inl ⟨by rfl, ?_⟩) (by assumption) ?_
        rotate_left
        ·(intro w hSw; (try dsimp only at hSw); go_simp; try (with_reducible rfl))
        try simp only [Act.put, ka1, ka2, ka3, ka4, ka5, ka6]
        refine tk (i := 6) (v := ?_) rfl (by kernel_rfl) (fun _ _ _ h => h) (Or.inl ⟨by rfl, ?_⟩) (by assumption) ?_
        rotate_left
        ·(intro w hSw; (try dsimp only at hSw); go_simp; try (with_reducible rfl))
        try simp only [Act.put, ka1, ka2, ka3, ka4, ka5, ka6]
        refine tk (i := 7) (v := ?_) rfl (by kernel_rfl) (fun _ _ _ h => h) (Or.inl ⟨by rfl, ?_⟩) (by assumption) ?_
        rotate_left
        ·(intro w hSw; (try dsimp only at hSw); go_simp; try (with_reducible rfl))
        try simp only [Act.put, ka1, ka2, ka3, ka4, ka5, ka6]
        refine tk (i := 8) (v := ?_) rfl (by kernel_rfl) (fun _ _ _ h => h) (Or.inl ⟨by rfl, ?_⟩) (by assumption) ?_
        rotate_left
        ·(intro w hSw; (try dsimp only at hSw); go_simp; try (with_reducible rfl))
        try simp only [Act.put, ka1, ka2, ka3, ka4, ka5, ka6]
        refine tk (i := 9) (v := ?_) rfl (by kernel_rfl) (fun _ _ _ h => h) (Or.inl ⟨by rfl, ?_⟩) (by assumption) ?_
        rotate_left
        ·(intro w hSw; (try dsimp only at hSw); go_simp; try (with_reducible rfl))
        try simp only [Act.put, ka1, ka2, ka3, ka4, ka5, ka6]
        refine tk (i := 10) (v := ?_) rfl (by kernel_rfl) (fun _ _ _ h => h) (Or.inl ⟨by rfl, ?_⟩) (by assumption) ?_
        rotate_left
        ·(intro w hSw; (try dsimp only at hSw); go_simp; try (with_reducible rfl))
        try simp only [Act.put, ka1, ka2, ka3, ka4, ka5, ka6]
        refine tk (i := 11) (v := ?_) rfl (by kernel_rfl) (fun _ _ _ h => h) (Or.inl ⟨by rfl, ?_⟩) (by assumption) ?_
        rotate_left
        ·(intro w hSw; (try dsimp only at hSw); go_simp; try (with_reducible rfl))
        try simp only [Act.put, ka1, ka2, ka3, ka4, ka5, ka6]
        refine tk (i := 12) (v := ?_) rfl (by kernel_rfl) (fun _ _ _ h => h) (Or.inl ⟨by rfl, ?_⟩) (by assumption) ?_
        rotate_left
        ·(intro w hSw; (try dsimp only at hSw); go_simp; try (with_reducible rfl))
        try simp only [Act.put, ka1, ka2, ka3, ka4, ka5, ka6]
        refine tk (i := 13) (v := ?_) rfl (by kernel_rfl) (fun _ _ _ h => h) (Or.inl ⟨by rfl, ?_⟩) (by assumption) ?_
        rotate_left
        ·(intro w hSw; (try dsimp only at hSw); go_simp; try (with_reducible rfl))
        try simp only [Act.put, ka1, ka2, ka3, ka4, ka5, ka6]
        refine wpAnyH_ready (rs := [14, 15]) (by kernel_rfl) (by simp) ?_
        refine AllReadyH.cons (o := _) rfl (fun K hK => ?_) (AllReadyH.cons (o := _) rfl (fun K hK => ?_) AllReadyH.nil)
        ·skip
         go_simp
         (with_reducible refine (KF.out _ (Below_drew1 (Below.refl _ _))).mono ?_)
         rintro e w8 ⟨s8, a8, n8, c8, b8, m8, d8, rfl, hr, hb⟩
         have hb5 := hid (show Below wr.heap.size wr w8 from (Below_drew1 (Below.refl _ _)).trans hb)
         have q5 := (hb5.out.cell (p := ⟨G, i, none⟩) hGh.out).trans q50
         have q6 := (hb5.out.cell (p := ⟨G, k, none⟩) hGh.out).trans q60
         have x0 := (hb5.out.cell (p := ⟨gi, k * 3, none⟩) hgih.out).trans x00
         have x1 := (hb5.out.cell (p := ⟨gi, k * 3 + 1, none⟩) hgih.out).trans x10
         have x2 := (hb5.out.cell (p := ⟨gi, k * 3 + 2, none⟩) hgih.out).trans x20
         have v0 := (hb5.out.cell (p := ⟨gk, k * 3, none⟩) hgkh.out).trans v00
         have v1 := (hb5.out.cell (p := ⟨gk, k * 3 + 1, none⟩) hgkh.out).trans v10
         have v2 := (hb5.out.cell (p := ⟨gk, k * 3 + 2, none⟩) hgkh.out).trans v20
         have hz8 := hid hb5.out.size
         have HR5 := hid (show RO false w8 wr.heap.size s8 (.slice a8 n8 c8) (.slice b8 m8 d8) fo from hr)
         clear hr hb
         go_wp2_with fail
         refine hK.out _ _ ?_ (fun hHeld => ?_)
         ·first | (with_reducible exact ⟨q5, q6, x0, x1, x2, v0, v1, v2⟩) | ((try dsimp only); with_reducible exact ⟨q5, q6, x0, x1, x2, v0, v1, v2⟩)
         refine wpAnyH_ready (rs := [15]) (by kernel_rfl) (by simp) ?_
         refine AllReadyH.cons (o := _) rfl (fun K hK => ?_) AllReadyH.nil
         have q5w := q5
         have q6w := q6
         have x0w := x0
         have x1w := x1
         have x2w := x2
         have v0w := v0
         have v1w := v1
         have v2w := v2
         have HG8 := hid (Nat.lt_of_lt_of_le hGh.out hz8.out)
         have Hgi8 := hid (Nat.lt_of_lt_of_le hgih.out hz8.out)
         have Hgk8 := hid (Nat.lt_of_lt_of_le hgkh.out hz8.out)
         go_simp
         have BN := hid (below_new' (w := w8) (o := .cells #[.bool false, .slice none 0 0, .slice none 0 0] 37))
         have LN := hid (LocA.new (w := w8) (T := 37) (cs := #[.bool false, .slice none 0 0, .slice none 0 0]))
         have q5 := (BN.out.cell (p := ⟨G, i, none⟩) HG8.out).trans q5
         have q6 := (BN.out.cell (p := ⟨G, k, none⟩) HG8.out).trans q6
         have x0 := (BN.out.cell (p := ⟨gi, k * 3, none⟩) Hgi8.out).trans x0
         have x1 := (BN.out.cell (p := ⟨gi, k * 3 + 1, none⟩) Hgi8.out).trans x1
         have x2 := (BN.out.cell (p := ⟨gi, k * 3 + 2, none⟩) Hgi8.out).trans x2
         have v0 := (BN.out.cell (p := ⟨gk, k * 3, none⟩) Hgk8.out).trans v0
         have v1 := (BN.out.cell (p := ⟨gk, k * 3 + 1, none⟩) Hgk8.out).trans v1
         have v2 := (BN.out.cell (p := ⟨gk, k * 3 + 2, none⟩) Hgk8.out).trans v2
         refine hK.out _ _ ?_ (fun hHeld => ?_)
         ·first | (with_reducible exact ⟨q5, q6, x0, x1, x2, v0, v1, v2⟩) | ((try dsimp only); with_reducible exact ⟨q5, q6, x0, x1, x2, v0, v1, v2⟩)
         try simp only [Act.put, ka1, ka2, ka3, ka4, ka5, ka6]
         refine wpAnyH_ready (rs := [16]) (by kernel_rfl) (by simp) ?_
         refine AllReadyH.cons (o := _) rfl (fun K hK => ?_) AllReadyH.nil
         have f0 := LN.out.f 0
         have f1 := LN.out.f 1
         have f2 := LN.out.f 2
         have p0 := LN.out.c 0 rfl
         have p1 := LN.out.c 1 rfl
         have p2 := LN.out.c 2 rfl
         go_simp
         (try go_wp2_with fail)
         refine hK.out _ _ ?_ (fun hHeld => ?_)
         ·with_reducible exact ⟨(Below.cell below_new' (p := ⟨G, i, none⟩) HG8.out).trans q5w, (Below.cell below_new' (p := ⟨G, k, none⟩) HG8.out).trans q6w, (Below.cell below_new' (p := ⟨gi, k * 3, none⟩) Hgi8.out).trans x0w, (Below.cell below_new' (p := ⟨gi, k * 3 + 1, none⟩) Hgi8.out).trans x1w, (Below.cell below_new' (p := ⟨gi, k * 3 + 2, none⟩) Hgi8.out).trans x2w, (Below.cell below_new' (p := ⟨gk, k * 3, none⟩) Hgk8.out).trans v0w, (Below.cell below_new' (p := ⟨gk, k * 3 + 1, none⟩) Hgk8.out).trans v1w, (Below.cell below_new' (p := ⟨gk, k * 3 + 2, none⟩) Hgk8.out).trans v2w⟩
         refine wpAnyH_done (by kernel_rfl) ?_ _
         go_wp2_with fail
         go_meet
         exact LaidO_a HR5.out hb5.out
        ·skip
         go_simp
         have LN0 := hid (show LocA 37 ((wr.alloc (.cells #[.bool false, .slice none 0 0, .slice none 0 0] 37)).drew) wr.heap.size #[.bool false, .slice none 0 0, .slice none 0 0] from LocA.new)
         have q5 : ((wr.alloc (.cells #[.bool false, .slice none 0 0, .slice none 0 0] 37)).drew).cell? ⟨G, i, none⟩ = some (.slice (some ⟨gi, 0, none⟩) n ci) := (Below_drewAD.cell (p := ⟨G, i, none⟩) hGh.out).trans q50
         have q6 : ((wr.alloc (.cells #[.bool false, .slice none 0 0, .slice none 0 0] 37)).drew).cell? ⟨G, k, none⟩ = some (.slice (some ⟨gk, 0, none⟩) n ck) := (Below_drewAD.cell (p := ⟨G, k, none⟩) hGh.out).trans q60
         have x0 : ((wr.alloc (.cells #[.bool false, .slice none 0 0, .slice none 0 0] 37)).drew).cell? ⟨gi, k * 3, none⟩ = some (.bool s5) := (Below_drewAD.cell (p := ⟨gi, k * 3, none⟩) hgih.out).trans x00
         have x1 : ((wr.alloc (.cells #[.bool false, .slice none 0 0, .slice none 0 0] 37)).drew).cell? ⟨gi, k * 3 + 1, none⟩ = some (.slice a5 n5 c5) := (Below_drewAD.cell (p := ⟨gi, k * 3 + 1, none⟩) hgih.out).trans x10
         have x2 : ((wr.alloc (.cells #[.bool false, .slice none 0 0, .slice none 0 0] 37)).drew).cell? ⟨gi, k * 3 + 2, none⟩ = some (.slice b5 m5 d5) := (Below_drewAD.cell (p := ⟨gi, k * 3 + 2, none⟩) hgih.out).trans x20
         have v0 : ((wr.alloc (.cells #[.bool false, .slice none 0 0, .slice none 0 0] 37)).drew).cell? ⟨gk, k * 3, none⟩ = some (.bool s6) := (Below_drewAD.cell (p := ⟨gk, k * 3, none⟩) hgkh.out).trans v00
         have v1 : ((wr.alloc (.cells #[.bool false, .slice none 0 0, .slice none 0 0] 37)).drew).cell? ⟨gk, k * 3 + 1, none⟩ = some (.slice a6 n6 c6) := (Below_drewAD.cell (p := ⟨gk, k * 3 + 1, none⟩) hgkh.out).trans v10
         have v2 : ((wr.alloc (.cells #[.bool false, .slice none 0 0, .slice none 0 0] 37)).drew).cell? ⟨gk, k * 3 + 2, none⟩ = some (.slice b6 m6 d6) := (Below_drewAD.cell (p := ⟨gk, k * 3 + 2, none⟩) hgkh.out).trans v20
         refine hK.out _ _ ?_ (fun hHeld => ?_)
         ·first | (with_reducible exact ⟨q5, q6, x0, x1, x2, v0, v1, v2⟩) | ((try dsimp only); with_reducible exact ⟨q5, q6, x0, x1, x2, v0, v1, v2⟩)
         try simp only [Act.put, ka1, ka2, ka3, ka4, ka5, ka6]
         refine wpAnyH_ready (rs := [14]) (by kernel_rfl) (by simp) ?_
         refine AllReadyH.cons (o := _) rfl (fun K hK => ?_) AllReadyH.nil
         go_simp
         (with_reducible refine (KF.out _ Below_drewAD).mono ?_)
         rintro e w8 ⟨s8, a8, n8, c8, b8, m8, d8, rfl, hr, hb⟩
         have hb5 := hid (show Below wr.heap.size wr w8 from Below_drewAD.trans (hb.mono Below_drewAD.size))
         have q5 := (hb5.out.cell (p := ⟨G, i, none⟩) hGh.out).trans q50
         have q6 := (hb5.out.cell (p := ⟨G, k, none⟩) hGh.out).trans q60
         have x0 := (hb5.out.cell (p := ⟨gi, k * 3, none⟩) hgih.out).trans x00
         have x1 := (hb5.out.cell (p := ⟨gi, k * 3 + 1, none⟩) hgih.out).trans x10
         have x2 := (hb5.out.cell (p := ⟨gi, k * 3 + 2, none⟩) hgih.out).trans x20
         have v0 := (hb5.out.cell (p := ⟨gk, k * 3, none⟩) hgkh.out).trans v00
         have v1 := (hb5.out.cell (p := ⟨gk, k * 3 + 1, none⟩) hgkh.out).trans v10
         have v2 := (hb5.out.cell (p := ⟨gk, k * 3 + 2, none⟩) hgkh.out).trans v20
         have hz8 := hid hb5.out.size
         have HR5 := hid (show RO false w8 wr.heap.size s8 (.slice a8 n8 c8) (.slice b8 m8 d8) fo from hr.base Below_drewAD.size)
         have LN := hid (LN0.out.old hb)
         clear hr hb
         go_wp2_with fail
         refine hK.out _ _ ?_ (fun hHeld => ?_)
         ·first | (with_reducible exact ⟨q5, q6, x0, x1, x2, v0, v1, v2⟩) | ((try dsimp only); with_reducible exact ⟨q5, q6, x0, x1, x2, v0, v1, v2⟩)
         refine wpAnyH_ready (rs := [16]) (by kernel_rfl) (by simp) ?_
         refine AllReadyH.cons (o := _) rfl (fun K hK => ?_) AllReadyH.nil
         have f0 := LN.out.f 0
         have f1 := LN.out.f 1
         have f2 := LN.out.f 2
         have p0 := LN.out.c 0 rfl
         have p1 := LN.out.c 1 rfl
         have p2 := LN.out.c 2 rfl
         go_simp
         (try go_wp2_with fail)
         refine hK.out _ _ ?_ (fun hHeld => ?_)
         ·with_reducible exact ⟨(cell_set3 (Nat.ne_of_lt hGh.out)).trans q5, (cell_set3 (Nat.ne_of_lt hGh.out)).trans q6, (cell_set3 (Nat.ne_of_lt hgih.out)).trans x0, (cell_set3 (Nat.ne_of_lt hgih.out)).trans x1, (cell_set3 (Nat.ne_of_lt hgih.out)).trans x2, (cell_set3 (Nat.ne_of_lt hgkh.out)).trans v0, (cell_set3 (Nat.ne_of_lt hgkh.out)).trans v1, (cell_set3 (Nat.ne_of_lt hgkh.out)).trans v2⟩
         refine wpAnyH_done (by kernel_rfl) ?_ _
         go_wp2_with fail
         go_meet
         exact LaidO_b LN.out (Nat.le_refl _) HR5.out hb5.out
       case rest =>
        generalize wc = w9 at hcut ⊢
        obtain ⟨Bf, si, ai, ni, ki, bi, mi, di, rfl, hLf, hRf, hBf, hb9⟩ := hcut
        have hloG := hid (show lo' ≤ wr.heap.size from by have := (hDi.out.bd.row.lt G rfl); omega)
        have HD9 := hid (hDi.out.old hb9)
        have HO9 := hid (hRf.base hloG.out)
        have HL9 := hid hLf
        have hL9 := hid (hLi.out.old hb9)
        have HB9 := hid (hBi.out.trans (hb9.mono hBi.out.size))
        have hgiB := hid (show gi ≠ Bf by have := hgih.out; omega)
        have hgi0h := hid (show lo' ≤ gi from hgi0)
        have HIE := hid (show i ≠ k by omega)
        obtain ⟨Y, hY0⟩ : ∃ Y, (mvf S k q)[i]'hiS = Y := ⟨_, rfl⟩
        obtain ⟨P, hP0⟩ : ∃ P, (mvf S k q)[k]'hkS = P := ⟨_, rfl⟩
        have HYl := hid (show Y.length = n by rw [← hY0]; exact (HS1W.out.at hiS).1)
        have HPl := hid (show P.length = n by rw [← hP0]; exact (HS1W.out.at hkS).1)
        obtain ⟨SP, hSP⟩ : ∃ SP, P.map Option.some = SP := ⟨_, rfl⟩
        have HLS := hid (show SP.length = n by rw [← hSP, List.length_map, HPl.out])
        have HLY := hid (show (Y.map Option.some).length = n by rw [List.length_map, HYl.out])
        have HLT := hid (show (spR SP fo Y).length = n by rw [spR_len (by rw [HLS.out, HYl.out]), HYl.out])
        have HTa := hid (fun j (hj : j < n) => show (spR SP fo Y)[j]? = some (bq subF (some (Y[j]'(by rw [HYl.out]; exact hj))) (bq mulF fo (SP[j]'(by rw [HLS.out]; exact hj)))) from by rw [List.getElem?_eq_getElem (by rw [HLT.out]; exact hj), spR_at (by rw [HYl.out]; exact hj) (by rw [HLS.out, HYl.out])])
        have HN1 := hid (fun (r : Nat) (hr : r < n) => show dtO (mvf S k q) k (i + 1) r = if r = i then spR SP fo Y else dtO (mvf S k q) k i r from by
         by_cases e : r = i
         ·rw [if_pos e, e, dtO_behind (by omega), getD_row hkS, getD_row hiS, HFO.out, hY0, hP0, hSP]
         ·rw [if_neg e, dtO_same e])
        have HST0 := hid (show dtO (mvf S k q) k i i = Y.map Option.some by rw [dtO_before, getD_row hiS, hY0])
        have HSPd := hid (show dtO (mvf S k q) k i k = SP by unfold dtO; rw [if_neg (by omega), getD_row hkS, hP0, hSP])
        obtain ⟨TT, hTT⟩ : ∃ TT, TT = spR SP fo Y := ⟨_, rfl⟩
        simp only [← hTT] at HN1 HLT HTa
        clear hY0 hP0 hSP hTT hLf hRf hBf hb9 q5 q6 x0 x1 x2 v0 v1 v2 KF
        go_wp2
        go_loopw [122] (fun t wr => ∃ j : Nat, j ≤ n ∧ t = .int .i64 j ∧ Hid (DD wr lo' G n cap ((List.range n).map V1) V1 (fun r => if r = i then mxL (Y.map Option.some) TT j else dtO (mvf S k q) k i r) N s7 (.slice a7 n7 c7) (.slice b7 m7 d7) OP) ∧ Hid (RO false wr lo' si (.slice ai ni ki) (.slice bi mi di) fo) ∧ Hid (LocA 37 wr Bf #[.bool si, .slice ai ni ki, .slice bi mi di]) ∧ Hid (LocA 37 wr w.heap.size #[.bool false, .slice none 0 0, .slice none 0 0]) ∧ Hid (Below w.heap.size w wr)) (fun t _ => n - (intOf t).toNat)
        case atStart => exact ⟨0, Nat.zero_le _, rfl, hid (HD9.out.same fun r hr => by
         by_cases e : r = i
         ·rw [if_pos e, mxL_zero, e, HST0.out]
         ·rw [if_neg e]), HO9, HL9, hL9, HB9⟩
        case round =>
         obtain ⟨j, hj, rfl, hDj, hOj, hLj, hZj, hBj⟩ := hrel
         by_cases hjlt : j < n
         ·have hml := mxL_len HLY.out HLT.out (j := j) (by omega)
          have hma := mxL_at HLY.out HLT.out hjlt
          have hms := mxL_set HLY.out HLT.out hjlt
          have hxj : (mxL (Y.map Option.some) TT j)[j]'(by rw [hml]; exact hjlt) = some (Y[j]'(by rw [HYl.out]; exact hjlt)) := by rw [hma]; simp
          obtain ⟨g5, cr5, s5, a5, n5, c5, b5, m5, d5, hV5, -, hg5, x0, x1, x2, hRO5⟩ := hDj.out.bd.rc.at' hilt (os := mxL (Y.map Option.some) TT j) (if_pos rfl) hml hjlt hxj
          rw [HVi.out] at hV5
          simp only [Value.slice.injEq, Option.some.injEq, Addr.mk.injEq, and_true, true_and] at hV5
          obtain ⟨rfl, rfl⟩ := hV5
          obtain ⟨po, hpo⟩ : ∃ po, SP[j]'(by rw [HLS.out]; exact hjlt) = po := ⟨_, rfl⟩
          obtain ⟨g6, cr6, s6, a6, n6, c6, b6, m6, d6, hV6, -, hg6, v0, v1, v2, hRO6⟩ := hDj.out.bd.rc.at' (j := k) hlt (os := SP) (by show (if k = i then _ else _) = _; rw [if_neg (fun e => HIE.out e.symm)]; exact HSPd.out) HLS.out hjlt hpo
          rw [HVk2.out] at hV6
          simp only [Value.slice.injEq, Option.some.injEq, Addr.mk.injEq, and_true, true_and] at hV6
          obtain ⟨rfl, rfl⟩ := hV6
          have hTj := HTa.out j hjlt
          rw [List.getElem?_eq_getElem (by rw [HLT.out]; exact hjlt)] at hTj
          rw [Option.some.inj hTj, hpo] at hms
          clear hTj
          obtain ⟨xj, hxjj⟩ : ∃ xj, xj = Y[j]'(by rw [HYl.out]; exact hjlt) := ⟨_, rfl⟩
          simp only [← hxjj] at hRO5 hms
          have HMS := hid hms
          have hbd := hid (Below_drew1 (Below.refl wr.heap.size wr))
          have KM := hid (smul_o (w := wr.drew) (hOj.out.old hbd.out).ra (hRO6.old hbd.out).ra)
          have HX5 := hid hRO5
          have q0 : wr.drew.cell? ⟨G, i, none⟩ = some (.slice (some ⟨gi, 0, none⟩) n ci) := hDj.out.bd.cell (i := i) (by simp [hilt, HVi.out])
          have q6 : wr.drew.cell? ⟨G, k, none⟩ = some (.slice (some ⟨gk, 0, none⟩) n ck) := hDj.out.bd.cell (i := k) (by simp [hlt, HVk2.out])
          have x0 : wr.drew.cell? ⟨gi, j * 3, none⟩ = _ := x0
          have x1 : wr.drew.cell? ⟨gi, j * 3 + 1, none⟩ = _ := x1
          have x2 : wr.drew.cell? ⟨gi, j * 3 + 2, none⟩ = _ := x2
          have v0 : wr.drew.cell? ⟨gk, j * 3, none⟩ = _ := v0
          have v1 : wr.drew.cell? ⟨gk, j * 3 + 1, none⟩ = _ := v1
          have v2 : wr.drew.cell? ⟨gk, j * 3 + 2, none⟩ = _ := v2
          have hLd := hid (hLj.out.old hbd.out)
          obtain ⟨y0', y1', y2'⟩ := hLd.out.all3
          have t0 : (0 : Int) ≤ j := by omega
          have t1 : (j : Int) < n := by omega
          have hg5h := hid hg5
          have hGh := hid (show G < wr.heap.size from (hDj.out.bd.row.lt G rfl).2)
          have hloW := hid (show lo' ≤ wr.heap.size from by have := (hDj.out.bd.row.lt G rfl); omega)
          have hBs := hid (hBj.out.size)
          have hg6h := hid hg6
          have hggi := hid (show gk ≠ gi from fun e => hDj.out.bd.rc.ne k i hlt hilt (fun e => HIE.out e.symm) gk (by rw [HVk2.out]; rfl) (by rw [HVi.out, e]; rfl))
          clear hml hma hms hxj hpo hxjj hRO5 hRO6 hg5 hg6
          go_wp2_with fail
          refine wp_region_held_drew (S := (fun w' => w'.cell? ⟨G, i, none⟩ = some (.slice (some ⟨gi, 0, none⟩) n ci) ∧ w'.cell? ⟨G, k, none⟩ = some (.slice (some ⟨gk, 0, none⟩) n ck) ∧ w'.cell? ⟨Bf, 0, none⟩ = some (.bool si) ∧ w'.cell? ⟨Bf, 1, none⟩ = some (.slice ai ni ki) ∧ w'.cell? ⟨Bf, 2, none⟩ = some (.slice bi mi di) ∧ w'.cell? ⟨gk, j * 3, none⟩ = some (.bool s6) ∧ w'.cell? ⟨gk, j * 3 + 1, none⟩ = some (.slice a6 n6 c6) ∧ w'.cell? ⟨gk, j * 3 + 2, none⟩ = some (.slice b6 m6 d6))) (by kernel_rfl) (by first | (with_reducible exact ⟨q0, q6, y0', y1', y2', v0, v1, v2⟩) | ((try dsimp only); with_reducible exact ⟨q0, q6, y0', y1', y2', v0, v1, v2⟩)) (fun hHeld => ?_)
          refine tk (i := 0) (v := ?_) rfl (by kernel_rfl) (fun _ _ _ h => h) (Or.inl ⟨by rfl, ?_⟩) (by assumption) ?_
          rotate_left
          ·(intro w hSw; (try dsimp only at hSw); go_simp; try (with_reducible rfl))
          try simp only [Act.put, ka1, ka2, ka3, ka4, ka5]
          refine tk (i := 1) (v := ?_) rfl (by kernel_rfl) (fun _ _ _ h => h) (Or.inl ⟨by rfl, ?_⟩) (by assumption) ?_
          rotate_left
          ·(intro w hSw; (try dsimp only at hSw); go_simp; try (with_reducible rfl))
          try simp only [Act.put, ka1, ka2, ka3, ka4, ka5, ka6]
          refine tk (i := 2) (v := ?_) rfl (by kernel_rfl) (fun _ _ _ h => h) (Or.inl ⟨by rfl, ?_⟩) (by assumption) ?_
          rotate_left
          ·(intro w hSw; (try dsimp only at hSw); go_simp; try (with_reducible rfl))
          try simp only [Act.put, ka1, ka2, ka3, ka4, ka5, ka6]
          refine tk (i := 3) (v := ?_) rfl (by kernel_rfl) (fun _ _ _ h => h) (Or.inl ⟨by rfl, ?_⟩) (by assumption) ?_
          rotate_left
          ·(intro w hSw; (try dsimp only at hSw); go_simp; try (with_reducible rfl))
          try simp only [Act.put, ka1, ka2, ka3, ka4, ka5, ka6]
          refine tk (i := 4) (v := ?_) rfl (by kernel_rfl) (fun _ _ _ h => h) (Or.inl ⟨by rfl, ?_⟩) (by assumption) ?_
          rotate_left
          ·(intro w hSw; (try dsimp only at hSw); go_simp; try (with_reducible rfl))
          try simp only [Act.put, ka1, ka2, ka3, ka4, ka5, ka6]
          refine tk (i := 5) (v := ?_) rfl (by kernel_rfl) (fun _ _ _ h => h) (Or.inl ⟨by rfl, ?_⟩) (by assumption) ?_
          rotate_left
          ·(intro w hSw; (try dsimp only at hSw); go_simp; try (with_reducible rfl))
          try simp only [Act.put, ka1, ka2, ka3, ka4, ka5, ka6]
          refine tk (i := 6) (v := ?_) rfl (by kernel_rfl) (fun _ _ _ h => h) (Or.inl ⟨by rfl, ?_⟩) (by assumption) ?_
          rotate_left
          ·(intro w hSw; (try dsimp only at hSw); go_simp; try (with_reducible rfl))
          try simp only [Act.put, ka1, ka2, ka3, ka4, ka5, ka6]
          refine tk (i := 7) (v := ?_) rfl (by kernel_rfl) (fun _ _ _ h => h) (Or.inl ⟨by rfl, ?_⟩) (by assumption) ?_
          rotate_left
          ·(intro w hSw; (try dsimp only at hSw); go_simp; try (with_reducible rfl))
          try simp only [Act.put, ka1, ka2, ka3, ka4, ka5, ka6]
          refine tk (i := 8) (v := ?_) rfl (by kernel_rfl) (fun _ _ _ h => h) (Or.inl ⟨by rfl, ?_⟩) (by assumption) ?_
          rotate_left
          ·(intro w hSw; (try dsimp only at hSw); go_simp; try (with_reducible rfl))
          try simp only [Act.put, ka1, ka2, ka3, ka4, ka5, ka6]
          refine tk (i := 9) (v := ?_) rfl (by kernel_rfl) (fun _ _ _ h => h) (Or.inl ⟨by rfl, ?_⟩) (by assumption) ?_
          rotate_left
          ·(intro w hSw; (try dsimp only at hSw); go_simp; try (with_reducible rfl))
          try simp only [Act.put, ka1, ka2, ka3, ka4, ka5, ka6]
          refine tk (i := 10) (v := ?_) rfl (by kernel_rfl) (fun _ _ _ h => h) (Or.inl ⟨by rfl, ?_⟩) (by assumption) ?_
          rotate_left
          ·(intro w hSw; (try dsimp only at hSw); go_simp; try (with_reducible rfl))
          try simp only [Act.put, ka1, ka2, ka3, ka4, ka5, ka6]
          refine tk (i := 12) (v := ?_) rfl (by kernel_rfl) (fun _ _ _ h => h) (Or.inl ⟨by rfl, ?_⟩) (by assumption) ?_
          rotate_left
          ·(intro w hSw; (try dsimp only at hSw); go_simp; try (with_reducible rfl))
          try simp only [Act.put, ka1, ka2, ka3, ka4, ka5, ka6]
          refine tk (i := 13) (v := ?_) rfl (by kernel_rfl) (fun _ _ _ h => h) (Or.inl ⟨by rfl, ?_⟩) (by assumption) ?_
          rotate_left
          ·(intro w hSw; (try dsimp only at hSw); go_simp; try (with_reducible rfl))
          try simp only [Act.put, ka1, ka2, ka3, ka4, ka5, ka6]
          refine tk (i := 14) (v := ?_) rfl (by kernel_rfl) (fun _ _ _ h => h) (Or.inl ⟨by rfl, ?_⟩) (by assumption) ?_
          rotate_left
          ·(intro w hSw; (try dsimp only at hSw); go_simp; try (with_reducible rfl))
          try simp only [Act.put, ka1, ka2, ka3, ka4, ka5, ka6]
          refine tk (i := 15) (v := ?_) rfl (by kernel_rfl) (fun _ _ _ h => h) (Or.inl ⟨by rfl, ?_⟩) (by assumption) ?_
          rotate_left
          ·(intro w hSw; (try dsimp only at hSw); go_simp; try (with_reducible rfl))
          try simp only [Act.put, ka1, ka2, ka3, ka4, ka5, ka6]
          refine tk (i := 16) (v := ?_) rfl (by kernel_rfl) (fun _ _ _ h => h) (Or.inl ⟨by rfl, ?_⟩) (by assumption) ?_
          rotate_left
          ·(intro w hSw; (try dsimp only at hSw); go_simp; try (with_reducible rfl))
          try simp only [Act.put, ka1, ka2, ka3, ka4, ka5, ka6]
          refine tk (i := 17) (v := ?_) rfl (by kernel_rfl) (fun _ _ _ h => h) (Or.inl ⟨by rfl, ?_⟩) (by assumption) ?_
          rotate_left
          ·(intro w hSw; (try dsimp only at hSw); go_simp; try (with_reducible rfl))
          try simp only [Act.put, ka1, ka2, ka3, ka4, ka5, ka6]
          refine tk (i := 18) (v := ?_) rfl (by kernel_rfl) (fun _ _ _ h => h) (Or.inl ⟨by rfl, ?_⟩) (by assumption) ?_
          rotate_left
          ·(intro w hSw; (try dsimp only at hSw); go_simp; try (with_reducible rfl))
          try simp only [Act.put, ka1, ka2, ka3, ka4, ka5, ka6]
          refine tk (i := 19) (v := ?_) rfl (by kernel_rfl) (fun _ _ _ h => h) (Or.inl ⟨by rfl, ?_⟩) (by assumption) ?_
          rotate_left
          ·(intro w hSw; (try dsimp only at hSw); go_simp; try (with_reducible rfl))
          try simp only [Act.put, ka1, ka2, ka3, ka4, ka5, ka6]
          refine wpAnyH_ready (rs := [11, 20]) (by kernel_rfl) (by simp) ?_
          refine AllReadyH.cons (o := _) rfl (fun K hK => ?_) (AllReadyH.cons (o := _) rfl (fun K hK => ?_) AllReadyH.nil)
          ·skip
           go_simp
           refine hK.out _ _ ?_ (fun hHeld => ?_)
           ·first | (with_reducible exact ⟨q0, q6, y0', y1', y2', v0, v1, v2⟩) | ((try dsimp only); with_reducible exact ⟨q0, q6, y0', y1', y2', v0, v1, v2⟩)
           try simp only [Act.put, ka1, ka2, ka3, ka4, ka5, ka6]
           refine wpAnyH_ready (rs := [20]) (by kernel_rfl) (by simp) ?_
           refine AllReadyH.cons (o := _) rfl (fun K hK => ?_) AllReadyH.nil
           go_simp
           (with_reducible refine (KM.out).mono ?_)
           rintro e w10 ⟨sm, am, nm, cm, bm, mm, dm, rfl, hr, hb⟩
           have hbe := hid (hbd.out.trans (hb.mono hbd.out.size))
           have KU := hid (ssub_o (w := w10) (HX5.out.old hbe.out).ra hr.ra)
           have q0 := (hb.cell (p := ⟨G, i, none⟩) hGh.out).trans q0
           have q6 := (hb.cell (p := ⟨G, k, none⟩) hGh.out).trans q6
           have x0 := (hb.cell (p := ⟨gi, j * 3, none⟩) hg5h.out).trans x0
           have x1 := (hb.cell (p := ⟨gi, j * 3 + 1, none⟩) hg5h.out).trans x1
           have x2 := (hb.cell (p := ⟨gi, j * 3 + 2, none⟩) hg5h.out).trans x2
           have v0 := (hb.cell (p := ⟨gk, j * 3, none⟩) hg6h.out).trans v0
           have v1 := (hb.cell (p := ⟨gk, j * 3 + 1, none⟩) hg6h.out).trans v1
           have v2 := (hb.cell (p := ⟨gk, j * 3 + 2, none⟩) hg6h.out).trans v2
           have hL10 := hid (hLd.out.old hb)
           obtain ⟨y0', y1', y2'⟩ := hL10.out.all3
           have hz10 := hid hbe.out.size
           clear hr hb
           go_wp2_with fail
           refine hK.out _ _ ?_ (fun hHeld => ?_)
           ·first | (with_reducible exact ⟨q0, q6, y0', y1', y2', v0, v1, v2⟩) | ((try dsimp only); with_reducible exact ⟨q0, q6, y0', y1', y2', v0, v1, v2⟩)
           refine wpAnyH_ready (rs := [21]) (by kernel_rfl) (by simp) ?_
           refine AllReadyH.cons (o := _) rfl (fun K hK => ?_) AllReadyH.nil
           go_simp
           (with_reducible refine (KU.out).mono ?_)
           rintro e w11 ⟨s8, a8, n8, c8, b8, m8, d8, rfl, hr, hb⟩
           have hbf := hid (hbe.out.trans (hb.mono hbe.out.size))
           have HDe := hid (hDj.out.old hbf.out)
           have q0 := (hb.cell (p := ⟨G, i, none⟩) (Nat.lt_of_lt_of_le hGh.out hz10.out)).trans q0
           have q6 := (hb.cell (p := ⟨G, k, none⟩) (Nat.lt_of_lt_of_le hGh.out hz10.out)).trans q6
           have x0 := (hb.cell (p := ⟨gi, j * 3, none⟩) (Nat.lt_of_lt_of_le hg5h.out hz10.out)).trans x0
           have x1 := (hb.cell (p := ⟨gi, j * 3 + 1, none⟩) (Nat.lt_of_lt_of_le hg5h.out hz10.out)).trans x1
           have x2 := (hb.cell (p := ⟨gi, j * 3 + 2, none⟩) (Nat.lt_of_lt_of_le hg5h.out hz10.out)).trans x2
           have v0 := (hb.cell (p := ⟨gk, j * 3, none⟩) (Nat.lt_of_lt_of_le hg6h.out hz10.out)).trans v0
           have v1 := (hb.cell (p := ⟨gk, j * 3 + 1, none⟩) (Nat.lt_of_lt_of_le hg6h.out hz10.out)).trans v1
           have v2 := (hb.cell (p := ⟨gk, j * 3 + 2, none⟩) (Nat.lt_of_lt_of_le hg6h.out hz10.out)).trans v2
           have hL11 := hid (hL10.out.old hb)
           obtain ⟨y0', y1', y2'⟩ := hL11.out.all3
           have f0 := HDe.out.bd.free hilt HVi.out (j * 3)
           have f1 := HDe.out.bd.free hilt HVi.out (j * 3 + 1)
           have f2 := HDe.out.bd.free hilt HVi.out (j * 3 + 2)
           have HP := hid (HDe.out.put (O' := fun r => if r = i then mxL (Y.map Option.some) TT (j + 1) else dtO (mvf S k q) k i r) hilt (os := mxL (Y.map Option.some) TT j) (k := j) (if_pos rfl) (mxL_len HLY.out HLT.out (by omega)) HVi.out hjlt hr (Nat.le_trans hloW.out hz10.out) (by rw [if_pos rfl]; exact HMS.out.symm) (fun r hr' hne => by rw [if_neg hne, if_neg hne]))
           have HO6 := hid (HDe.out.bd.ro hilt HVi.out (k := j) (s := s8) (x := .slice a8 n8 c8) (y := .slice b8 m8 d8) (hOj.out.old hbf.out))
           have HL6 := hid ((hLj.out.old hbf.out).put3 (k := j) (s := s8) (x := .slice a8 n8 c8) (y := .slice b8 m8 d8) (Ne.symm hgiB.out))
           have HZ6 := hid ((hZj.out.old hbf.out).put3 (k := j) (s := s8) (x := .slice a8 n8 c8) (y := .slice b8 m8 d8) (Nat.ne_of_lt (Nat.lt_of_lt_of_le HLO.out hgi0h.out)))
           have HB6 := hid (below_set3 (k := j) (s := s8) (x := .slice a8 n8 c8) (y := .slice b8 m8 d8) (hBj.out.trans (hbf.out.mono hBs.out)) (Nat.le_of_lt (Nat.lt_of_lt_of_le HLO.out hgi0h.out)))
           have V0 := hid ((World.cell?_of_block (a := ⟨gk, j * 3, none⟩) (set3_other w11 gi j s8 (.slice a8 n8 c8) (.slice b8 m8 d8) gk hggi.out)).trans v0)
           have V1' := hid ((World.cell?_of_block (a := ⟨gk, j * 3 + 1, none⟩) (set3_other w11 gi j s8 (.slice a8 n8 c8) (.slice b8 m8 d8) gk hggi.out)).trans v1)
           have V2 := hid ((World.cell?_of_block (a := ⟨gk, j * 3 + 2, none⟩) (set3_other w11 gi j s8 (.slice a8 n8 c8) (.slice b8 m8 d8) gk hggi.out)).trans v2)
           unfold set3 at HP HO6 HL6 HZ6 HB6 V0 V1' V2
           clear hr hb
           go_wp2_with fail
           refine hK.out _ _ ?_ (fun hHeld => ?_)
           ·first | (with_reducible exact ⟨q0, q6, y0', y1', y2', v0, v1, v2⟩) | ((try dsimp only); with_reducible exact ⟨q0, q6, y0', y1', y2', v0, v1, v2⟩)
           refine tk (i := 22) (v := ?_) rfl (by kernel_rfl) (fun _ _ _ h => h) (Or.inl ⟨by rfl, ?_⟩) (by assumption) ?_
           rotate_left
           ·(intro w hSw; (try dsimp only at hSw); go_simp; try (with_reducible rfl))
           try simp only [Act.put, ka1, ka2, ka3, ka4, ka5, ka6]
           refine wpAnyH_ready (rs := [23]) (by kernel_rfl) (by simp) ?_
           refine AllReadyH.cons (o := _) rfl (fun K hK => ?_) AllReadyH.nil
           go_simp
           have qS := HP.out.bd.cell (i := i) (v := .slice (some ⟨gi, 0, none⟩) n ci) (by simp [hilt, HVi.out])
           have q6S := HP.out.bd.cell (i := k) (v := .slice (some ⟨gk, 0, none⟩) n ck) (by simp [hlt, HVk2.out])
           obtain ⟨yS0, yS1, yS2⟩ := HL6.out.all3
           refine hK.out _ _ ?_ (fun hHeld => ?_)
           ·first | (with_reducible exact ⟨qS, q6S, yS0, yS1, yS2, V0.out, V1'.out, V2.out⟩) | ((try dsimp only); exact ⟨qS, q6S, yS0, yS1, yS2, V0.out, V1'.out, V2.out⟩)
           refine wpAnyH_done (by kernel_rfl) ?_ _
           clear q0 q6 x0 x1 x2 v0 v1 v2 y0' y1' y2' f0 f1 f2 qS q6S yS0 yS1 yS2
           go_wp2
           go_roundw
           case rel => exact ⟨j + 1, by omega, by go_num, HP, HO6, HL6, HZ6, HB6⟩
           case measure => simp [intOf]; omega
          ·skip
           go_simp
           (with_reducible refine (KM.out).mono ?_)
           rintro e w10 ⟨sm, am, nm, cm, bm, mm, dm, rfl, hr, hb⟩
           have hbe := hid (hbd.out.trans (hb.mono hbd.out.size))
           have KU := hid (ssub_o (w := w10) (HX5.out.old hbe.out).ra hr.ra)
           have q0 := (hb.cell (p := ⟨G, i, none⟩) hGh.out).trans q0
           have q6 := (hb.cell (p := ⟨G, k, none⟩) hGh.out).trans q6
           have x0 := (hb.cell (p := ⟨gi, j * 3, none⟩) hg5h.out).trans x0
           have x1 := (hb.cell (p := ⟨gi, j * 3 + 1, none⟩) hg5h.out).trans x1
           have x2 := (hb.cell (p := ⟨gi, j * 3 + 2, none⟩) hg5h.out).trans x2
           have v0 := (hb.cell (p := ⟨gk, j * 3, none⟩) hg6h.out).trans v0
           have v1 := (hb.cell (p := ⟨gk, j * 3 + 1, none⟩) hg6h.out).trans v1
           have v2 := (hb.cell (p := ⟨gk, j * 3 + 2, none⟩) hg6h.out).trans v2
           have hL10 := hid (hLd.out.old hb)
           obtain ⟨y0', y1', y2'⟩ := hL10.out.all3
           have hz10 := hid hbe.out.size
           clear hr hb
           go_wp2_with fail
           refine hK.out _ _ ?_ (fun hHeld => ?_)
           ·first | (with_reducible exact ⟨q0, q6, y0', y1', y2', v0, v1, v2⟩) | ((try dsimp only); with_reducible exact ⟨q0, q6, y0', y1', y2', v0, v1, v2⟩)
           refine wpAnyH_ready (rs := [11]) (by kernel_rfl) (by simp) ?_
           refine AllReadyH.cons (o := _) rfl (fun K hK => ?_) AllReadyH.nil
           go_simp
           refine hK.out _ _ ?_ (fun hHeld => ?_)
           ·first | (with_reducible exact ⟨q0, q6, y0', y1', y2', v0, v1, v2⟩) | ((try dsimp only); with_reducible exact ⟨q0, q6, y0', y1', y2', v0, v1, v2⟩)
           try simp only [Act.put, ka1, ka2, ka3, ka4, ka5, ka6]
           refine wpAnyH_ready (rs := [21]) (by kernel_rfl) (by simp) ?_
           refine AllReadyH.cons (o := _) rfl (fun K hK => ?_) AllReadyH.nil
           go_simp
           (with_reducible refine (KU.out).mono ?_)
           rintro e w11 ⟨s8, a8, n8, c8, b8, m8, d8, rfl, hr, hb⟩
           have hbf := hid (hbe.out.trans (hb.mono hbe.out.size))
           have HDe := hid (hDj.out.old hbf.out)
           have q0 := (hb.cell (p := ⟨G, i, none⟩) (Nat.lt_of_lt_of_le hGh.out hz10.out)).trans q0
           have q6 := (hb.cell (p := ⟨G, k, none⟩) (Nat.lt_of_lt_of_le hGh.out hz10.out)).trans q6
           have x0 := (hb.cell (p := ⟨gi, j * 3, none⟩) (Nat.lt_of_lt_of_le hg5h.out hz10.out)).trans x0
           have x1 := (hb.cell (p := ⟨gi, j * 3 + 1, none⟩) (Nat.lt_of_lt_of_le hg5h.out hz10.out)).trans x1
           have x2 := (hb.cell (p := ⟨gi, j * 3 + 2, none⟩) (Nat.lt_of_lt_of_le hg5h.out hz10.out)).trans x2
           have v0 := (hb.cell (p := ⟨gk, j * 3, none⟩) (Nat.lt_of_lt_of_le hg6h.out hz10.out)).trans v0
           have v1 := (hb.cell (p := ⟨gk, j * 3 + 1, none⟩) (Nat.lt_of_lt_of_le hg6h.out hz10.out)).trans v1
           have v2 := (hb.cell (p := ⟨gk, j * 3 + 2, none⟩) (Nat.lt_of_lt_of_le hg6h.out hz10.out)).trans v2
           have hL11 := hid (hL10.out.old hb)
           obtain ⟨y0', y1', y2'⟩ := hL11.out.all3
           have f0 := HDe.out.bd.free hilt HVi.out (j * 3)
           have f1 := HDe.out.bd.free hilt HVi.out (j * 3 + 1)
           have f2 := HDe.out.bd.free hilt HVi.out (j * 3 + 2)
           have HP := hid (HDe.out.put (O' := fun r => if r = i then mxL (Y.map Option.some) TT (j + 1) else dtO (mvf S k q) k i r) hilt (os := mxL (Y.map Option.some) TT j) (k := j) (if_pos rfl) (mxL_len HLY.out HLT.out (by omega)) HVi.out hjlt hr (Nat.le_trans hloW.out hz10.out) (by rw [if_pos rfl]; exact HMS.out.symm) (fun r hr' hne => by rw [if_neg hne, if_neg hne]))
           have HO6 := hid (HDe.out.bd.ro hilt HVi.out (k := j) (s := s8) (x := .slice a8 n8 c8) (y := .slice b8 m8 d8) (hOj.out.old hbf.out))
           have HL6 := hid ((hLj.out.old hbf.out).put3 (k := j) (s := s8) (x := .slice a8 n8 c8) (y := .slice b8 m8 d8) (Ne.symm hgiB.out))
           have HZ6 := hid ((hZj.out.old hbf.out).put3 (k := j) (s := s8) (x := .slice a8 n8 c8) (y := .slice b8 m8 d8) (Nat.ne_of_lt (Nat.lt_of_lt_of_le HLO.out hgi0h.out)))
           have HB6 := hid (below_set3 (k := j) (s := s8) (x := .slice a8 n8 c8) (y := .slice b8 m8 d8) (hBj.out.trans (hbf.out.mono hBs.out)) (Nat.le_of_lt (Nat.lt_of_lt_of_le HLO.out hgi0h.out)))
           have V0 := hid ((World.cell?_of_block (a := ⟨gk, j * 3, none⟩) (set3_other w11 gi j s8 (.slice a8 n8 c8) (.slice b8 m8 d8) gk hggi.out)).trans v0)
           have V1' := hid ((World.cell?_of_block (a := ⟨gk, j * 3 + 1, none⟩) (set3_other w11 gi j s8 (.slice a8 n8 c8) (.slice b8 m8 d8) gk hggi.out)).trans v1)
           have V2 := hid ((World.cell?_of_block (a := ⟨gk, j * 3 + 2, none⟩) (set3_other w11 gi j s8 (.slice a8 n8 c8) (.slice b8 m8 d8) gk hggi.out)).trans v2)
           unfold set3 at HP HO6 HL6 HZ6 HB6 V0 V1' V2
           clear hr hb
           go_wp2_with fail
           refine hK.out _ _ ?_ (fun hHeld => ?_)
           ·first | (with_reducible exact ⟨q0, q6, y0', y1', y2', v0, v1, v2⟩) | ((try dsimp only); with_reducible exact ⟨q0, q6, y0', y1', y2', v0, v1, v2⟩)
           refine tk (i := 22) (v := ?_) rfl (by kernel_rfl) (fun _ _ _ h => h) (Or.inl ⟨by rfl, ?_⟩) (by assumption) ?_
           rotate_left
           ·(intro w hSw; (try dsimp only at hSw); go_simp; try (with_reducible rfl))
           try simp only [Act.put, ka1, ka2, ka3, ka4, ka5, ka6]
           refine wpAnyH_ready (rs := [23]) (by kernel_rfl) (by simp) ?_
           refine AllReadyH.cons (o := _) rfl (fun K hK => ?_) AllReadyH.nil
           go_simp
           have qS := HP.out.bd.cell (i := i) (v := .slice (some ⟨gi, 0, none⟩) n ci) (by simp [hilt, HVi.out])
           have q6S := HP.out.bd.cell (i := k) (v := .slice (some ⟨gk, 0, none⟩) n ck) (by simp [hlt, HVk2.out])
           obtain ⟨yS0, yS1, yS2⟩ := HL6.out.all3
           refine hK.out _ _ ?_ (fun hHeld => ?_)
           ·first | (with_reducible exact ⟨qS, q6S, yS0, yS1, yS2, V0.out, V1'.out, V2.out⟩) | ((try dsimp only); exact ⟨qS, q6S, yS0, yS1, yS2, V0.out, V1'.out, V2.out⟩)
           refine wpAnyH_done (by kernel_rfl) ?_ _
           clear q0 q6 x0 x1 x2 v0 v1 v2 y0' y1' y2' f0 f1 f2 qS q6S yS0 yS1 yS2
           go_wp2
           go_roundw
           case rel => exact ⟨j + 1, by omega, by go_num, HP, HO6, HL6, HZ6, HB6⟩
           case measure => simp [intOf]; omega
         ·have hjn : j = n := by omega
          have t1 : ¬ (j : Int) < n := by omega
          have HDn := hid (hDj.out.same (O' := dtO (mvf S k q) k (i + 1)) fun r hr => by
           rw [HN1.out r hr]
           by_cases e : r = i
           ·rw [if_pos e, if_pos e, hjn, mxL_all HLY.out HLT.out]
           ·rw [if_neg e, if_neg e])
          clear hjn
          go_wp2
          go_roundw
          case rel => exact ⟨i + 1, by omega, by omega, by go_num, HDn, hZj, hBj⟩
          case measure => simp [intOf]; omega
      ·have hin : i = n := by omega
       have u5 : ¬ (i : Int) < n := by omega
       have HD9 := hid (show DD wr lo' G n cap ((List.range n).map V1) V1 (dtO (mvf S k q) k n) N s7 (.slice a7 n7 c7) (.slice b7 m7 d7) OP from hDi.out.same fun r hr => by rw [hin])
       have hS1' := HS1W.out
       have hl9 := HS1l.out
       have h09 : el ((mvf S k q)[k]'hkS) k ≠ 0 := by rw [← getD_row hkS, HS1d.out]; exact HZ0.out
       have hM9 := HD9.out.bd.rc.mw HD9.out.bd.row
       obtain ⟨M9, hM⟩ : ∃ M9, (List.range n).map (fun j => (dtO (mvf S k q) k n j).map fqo) = M9 := ⟨_, rfl⟩
       rw [hM] at hM9
       have hSm9 : Sm2 M9 := by
        rw [← hM]
        refine ⟨fun K hK => ?_, by rw [List.length_map, List.length_range]; omega⟩
        obtain ⟨r, hr, rfl⟩ := List.mem_map.1 hK
        have hr' := List.mem_range.1 hr
        exact Sm.map (dtO_fit hS1' (by omega)) (by rw [dtO_len hS1' hkS (by omega)]; omega)
       have KO9 := hid (spec_MatOk_w (c := cap) hSm9 wr hM9)
       have hzi := hid hBi.out.size
       by_cases hfo : dOk (mvf S k q) k
       ·have HRK := hid (HYes.out hfo)
        have hMf : M9 = (dfin (mvf S k q) k).map rv := by
         rw [← hM, ← range_rows (n := n) (by rw [dfin_len, hl9])]
         refine List.map_congr_left fun r hr => ?_
         have hr' := List.mem_range.1 hr
         have := dtO_yes hS1' hkS hlt h09 hfo (r := r) (by omega)
         rw [hl9] at this
         rw [this, map_fqo_some]
        have hok9 : matOk M9 = true := by rw [hMf]; exact matOk_rv (hS1'.dfin hkS hfo) (by rw [dfin_len, hl9]; exact hn40) hn40
        rw [hok9] at KO9
        have HDf := hid (show DD wr lo' G n cap ((List.range n).map V1) V1 (fun j => ((dfin (mvf S k q) k).getD j []).map Option.some) N s7 (.slice a7 n7 c7) (.slice b7 m7 d7) OP from HD9.out.same fun r hr => by
         have := dtO_yes hS1' hkS hlt h09 hfo (r := r) (by omega)
         rw [hl9] at this
         exact this.symm)
        clear hM9 hM hSm9 hMf hok9 hfo hS1' hl9 h09 hin
        go_wp2_with fail
        (with_reducible refine (KO9.out).mono ?_)
        rintro e w10 ⟨rfl, hb⟩
        have HDa := hid ((HDf.out.old hb).eqo HOP.out)
        have La := hid (hLi.out.old hb)
        have HBa := hid (hBi.out.trans (hb.mono hzi.out))
        clear hb
        go_wp2
        go_roundw
        case rel => exact ⟨k + 1, _, _, V1, s7, a7, n7, c7, b7, m7, d7, by omega, by go_num, HRK, HDa, La, HBa.out⟩
        case measure => simp [intOf]; omega
       ·have HNN := hid (HNo.out hfo)
        have hok9 : matOk M9 = false := by
         obtain ⟨r, hr, hbad⟩ := dtO_no hS1' hkS hlt h09 hfo
         rw [hl9] at hbad hr
         refine matOk_no (k := r) (by rw [← hM]; simp; exact hr) ?_
         have e1 := List.getElem_of_eq hM.symm (i := r) (by rw [← hM]; simp; exact hr)
         rw [e1, List.getElem_map, List.getElem_range, oks_map (dtO_fit hS1' (by omega))]
         exact hbad
        rw [hok9] at KO9
        clear hM9 hM hSm9 hok9 hfo hS1' hl9 h09 hin
        go_wp2_with fail
        (with_reducible refine (KO9.out).mono ?_)
        rintro e w10 ⟨rfl, hb⟩
        have HBa := hid (hBi.out.trans (hb.mono hzi.out))
        have La := hid (hLi.out.old hb)
        clear hb
        have f0 := La.out.f 0
        have f1 := La.out.f 1
        have f2 := La.out.f 2
        have p0 := La.out.c 0 rfl
        have p1 := La.out.c 1 rfl
        have p2 := La.out.c 2 rfl
        have RZ := hid (show RatO false DM w (.returned (.agg #[.bool false, .slice none 0 0, .slice none 0 0])) ((((w10).setCell ⟨w.heap.size, 0, none⟩ (.bool false)).setCell ⟨w.heap.size, 1, none⟩ (.slice none 0 0)).setCell ⟨w.heap.size, 2, none⟩ (.slice none 0 0)) from by
         rw [HNN.out]
         exact RatO_zeroS (((HBa.out.setCell (p := ⟨w.heap.size, 0, none⟩) (Nat.le_refl _) (.bool false)).setCell (p := ⟨w.heap.size, 1, none⟩) (Nat.le_refl _) (.slice none 0 0)).setCell (p := ⟨w.heap.size, 2, none⟩) (Nat.le_refl _) (.slice none 0 0)))
        go_wp2
        (try simp only [Exit.inBlock, Exit.then])
        (try rw [Exit.noGoto_ret])
        exact bodyPost_ret (v := .agg #[.bool false, .slice none 0 0, .slice none 0 0]) (by simp [results, Tryz.results51, go_sem, p0, p1, p2]) rfl RZ.out
    have z3 : ((q : Int) != (k : Int)) = true := by simp; omega
    go_wp2
    clear q0
    go_loopw [8] (fun t wr => ∃ (i m : Nat) (s1 : Bool) (a1 : Option Addr) (n1 c1 : Nat) (b1 : Option Addr) (m1 d1 : Nat), k ≤ i ∧ i + m = q ∧ t = .int .i64 i ∧ Hid (DD wr lo' G n cap (sft ((List.range n).map V) i m) V (fun j => (S.getD j []).map Option.some) N s1 (.slice a1 n1 c1) (.slice b1 m1 d1) (prodK S (sg != decide (m % 2 = 1)) k)) ∧ Hid (LocA 37 wr w.heap.size #[.bool false, .slice none 0 0, .slice none 0 0]) ∧ Hid (Below w.heap.size w wr)) (fun t _ => (intOf t).toNat - k)
    case atStart => exact ⟨q, 0, _, _, _, _, _, _, _, hdq, rfl, rfl, hid (by rw [sft_zero]; exact HD2.out.eqo (by simp)), L6, HB2⟩
    case round =>
     obtain ⟨i, m, s1, a1, n1, c1, b1, m1, d1, hdi, him, rfl, hDi, hLi, hBi⟩ := hrel
     have hHl : ((List.range n).map V).length = n := by simp
     by_cases hgt : k < i
     ·obtain ⟨j, hj1, hj2⟩ : ∃ j, i ≤ j + 1 ∧ j + 1 ≤ i := ⟨i - 1, by omega, by omega⟩
      have hvj : (sft ((List.range n).map V) i m)[j]? = some (V j) := by
       rw [List.getElem?_eq_getElem (by rw [sft_len (by omega)]; omega), sft_get (by omega) (by omega), if_pos (by omega)]
       simp
      have hvi : (sft ((List.range n).map V) i m)[i]? = some (V i) := by
       rw [List.getElem?_eq_getElem (by rw [sft_len (by omega)]; omega), sft_get (by omega) (by omega), if_pos (Nat.le_refl _)]
       simp
      obtain ⟨bj, cj, hVj⟩ := (hDi.out.bd.rc.el j (by omega)).form
      obtain ⟨bi, ci, hVi⟩ := (hDi.out.bd.rc.el i (by omega)).form
      generalize ((fun j => (S.getD j []).map Option.some) j).map fqo = lj at hVj
      generalize ((fun j => (S.getD j []).map Option.some) i).map fqo = li at hVi
      have q5 := hDi.out.bd.cell hvj
      have q6 := hDi.out.bd.cell hvi
      rw [hVj] at q5
      rw [hVi] at q6
      have f5 := World.ownsRow.frozenAt hDi.out.bd.row i
      have hst := (World.ownsRow.stored hDi.out.bd.row i (V j)).1
      rw [show (sft ((List.range n).map V) i m).set i (V j) = sft ((List.range n).map V) j (m + 1) by
       obtain rfl : i = j + 1 := by omega
       have := sft_step (H := (List.range n).map V) (i := j) (m := m) (by omega)
       rw [← this]
       congr 1
       simp] at hst
      have HDn := hid (hDi.out.hdr (w' := wr.setCell ⟨G, i, none⟩ (V j)) (by simp [size_set]) (setCell_other wr G i _) hst)
      have HBn := hid (hBi.out.setCell (p := ⟨G, i, none⟩) (Nat.le_of_lt HNW.out.2) (V j))
      have LIn := hid (hLi.out.setne (N := G) (i := i) (x := V j) (by have := HNW.out.2; omega))
      rw [hVj] at HDn HBn LIn
      have KN := hid (sneg_o HDn.out.ro.ra)
      have hw1 : IntKind.i64.wrap ((i : Int) - 1) = (j : Int) := by have := IntWalk.i64_in ((i : Int) - 1) (by omega); rw [this]; omega
      have y0 : (0 : Int) ≤ i := by omega
      have y1 : (i : Int) < n := by omega
      have y2 : (0 : Int) ≤ j := by omega
      have y3 : (j : Int) < n := by omega
      have y4 : (k : Int) < i := by omega
      obtain ⟨u0, u1, u2⟩ := HDn.out.lc.all3
      have hzn := hid HBn.out.size
      clear hvj hvi hVj hVi hst hHl
      go_wp2_with fail
      (with_reducible refine (KN.out).mono ?_)
      rintro e w7 ⟨s7, a7, n7, c7, b7, m7, d7, rfl, hr7, hb7⟩
      clear u0 u1 u2 q5 q6 f5
      have HD7 := hid (HDn.out.old hb7)
      obtain ⟨u0, u1, u2⟩ := HD7.out.lc.all3
      have f0 := HD7.out.lc.f 0
      have f1 := HD7.out.lc.f 1
      have f2 := HD7.out.lc.f 2
      have L7 := hid (LIn.out.old hb7)
      have HB7 := hid (HBn.out.trans (hb7.mono hzn.out))
      have HD8 := hid ((HD7.out.sgn (s' := s7) (a' := a7) (n' := n7) (c' := c7) (b' := b7) (m' := m7) (d' := d7) (hr7.base (by have := (HDn.out.bd.row.lt G rfl); omega))).eqo (prodK_flip S sg k m))
      have L8 := hid (((L7.out.setne (N := N) (i := 0) (x := .bool s7) (Nat.ne_of_lt HNW.out.1)).setne (N := N) (i := 1) (x := .slice a7 n7 c7) (Nat.ne_of_lt HNW.out.1)).setne (N := N) (i := 2) (x := .slice b7 m7 d7) (Nat.ne_of_lt HNW.out.1))
      have HB8 := hid (((HB7.out.setCell (p := ⟨N, 0, none⟩) (Nat.le_of_lt HNW.out.1) (.bool s7)).setCell (p := ⟨N, 1, none⟩) (Nat.le_of_lt HNW.out.1) (.slice a7 n7 c7)).setCell (p := ⟨N, 2, none⟩) (Nat.le_of_lt HNW.out.1) (.slice b7 m7 d7))
      clear hr7 hb7
      go_wp2
      go_roundw
      case rel => exact ⟨j, m + 1, s7, a7, n7, c7, b7, m7, d7, by omega, by omega, by go_num, HD8, L8, HB8⟩
      case measure => simp [intOf]; omega
     have y4 : ¬ (k : Int) < i := by omega
     obtain ⟨w4, rfl⟩ : ∃ w4, w4 = wr := ⟨_, rfl⟩
     obtain rfl : k = i := by omega
     have f7 := World.ownsRow.frozenAt hDi.out.bd.row k
     obtain ⟨vo, q7⟩ : ∃ vo, w4.cell? ⟨G, k, none⟩ = some vo := ⟨_, hDi.out.bd.cell (List.getElem?_eq_getElem (by rw [sft_len (by omega)]; omega))⟩
     have hst := (World.ownsRow.stored hDi.out.bd.row k (V q)).1
     rw [show (sft ((List.range n).map V) k m).set k (V q) = (List.range n).map (fun r => V (mvfI k q r)) by
      have := sft_set (H := (List.range n).map V) (d := k) (i := m) (by omega)
      rw [← mvf_range hdq hqlt V, show q = k + m by omega, ← this]
      congr 1
      simp] at hst
     have hD8 := hDi.out.hdr (w' := w4.setCell ⟨G, k, none⟩ (V q)) (by simp [size_set]) (setCell_other w4 G k _) hst
     obtain ⟨V1, hV1⟩ : ∃ V1 : Nat → Value, V1 = fun r => V (mvfI k q r) := ⟨_, rfl⟩
     have HV1d := hid (show V1 k = .slice (some ⟨g, 0, none⟩) n cr by rw [hV1]; show V (mvfI k q k) = _; rw [show mvfI k q k = q by unfold mvfI; rw [if_neg (Nat.lt_irrefl k), if_pos rfl]]; exact HVq.out)
     have HT := hid (show DD (w4.setCell ⟨G, k, none⟩ (V q)) lo' G n cap ((List.range n).map V1) V1 (fun r => ((mvf S k q).getD r []).map Option.some) N s1 (.slice a1 n1 c1) (.slice b1 m1 d1) (prodK S (sg != decide ((q - k) % 2 = 1)) k) from by
      rw [hV1]
      have h1 := (hD8.perm (f := mvfI k q) (fun j hj => mvfI_lt hdq hqlt hj) (fun i j _ _ hne => mvfI_inj hdq hne)).same (O' := fun r => ((mvf S k q).getD r []).map Option.some) fun r hr => by simp only [HS1g.out r hr]
      exact h1.eqo (by rw [show q - k = m by omega]))
     have HBT := hid (hBi.out.setCell (p := ⟨G, k, none⟩) (Nat.le_of_lt HNW.out.2) (V q))
     have LT := hid (hLi.out.setne (N := G) (i := k) (x := V q) (by have := HNW.out.2; omega))
     rw [HVq.out] at HT HBT LT
     clear hHl hst hD8 hV1 hDi hLi hBi
     go_wp2_with fail
     clear f7 q7
     generalize w4.setCell ⟨G, k, none⟩ (.slice (some ⟨g, 0, none⟩) n cr) = w5 at HT HBT LT ⊢
     have hkS : k < (mvf S k q).length := by have := HS1l.out; omega
     obtain ⟨g', cr', s6, a6, n6, c6, b6, m6, d6, hVk, hgl', hg', x0, x1, x2, RX⟩ := HT.out.bd.rc.at' (j := k) hlt (os := (S[q]).map Option.some) (by rw [HS1d.out]) (W := n) (by rw [List.length_map]; exact (HSW.out.at hqS).1) (k := k) hlt (o := some (el S[q] k)) (by rw [List.getElem_map, el_at (by have := (HSW.out.at hqS).1; omega)])
     have q0 := HT.out.bd.cell (i := k) (v := V1 k) (by simp [hlt])
     rw [hVk] at q0
     obtain ⟨y0, y1, y2⟩ := HT.out.lc.all3
     have HVk := hid hVk
     have KF := hid (smul_o (w := w5.drew) (HT.out.ro.ra.old (Below_drew1 (Below.refl _ _))) (RX.ra.old (Below_drew1 (Below.refl _ _))))
     rw [HST.out] at KF
     have HTD := hid (HT.out.old (Below_drew1 (Below.refl _ _)))
     have LTD := hid (LT.out.old (Below_drew1 (Below.refl _ _)))
     have HBD := hid (Below_drew1 HBT.out)
     obtain ⟨OP, hOP⟩ : ∃ OP, OP = prodK (dfin (mvf S k q) k) (sg != decide ((q - k) % 2 = 1)) (k + 1) := ⟨_, rfl⟩
     rw [← hOP] at KF
     have HOP := hid hOP
     clear hOP RX
     go_wp2_with fail
     go_still_tail 8, (by kernel_rfl)
     change wpList _ _ _ _ _ w5.drew
     clear x0 x1 x2 y0 y1 y2 q0 hVk
     generalize w5.drew = wd at KF HTD LTD HBD ⊢
     go_wp2_with fail
     (with_reducible refine (KF.out).mono ?_)
     rintro e w6 ⟨s7, a7, n7, c7, b7, m7, d7, rfl, hr7, hb7⟩
     have HT6 := hid (HTD.out.old hb7)
     obtain ⟨u0, u1, u2⟩ := HT6.out.lc.all3
     have f0 := HT6.out.lc.f 0
     have f1 := HT6.out.lc.f 1
     have f2 := HT6.out.lc.f 2
     have LT6 := hid (LTD.out.old hb7)
     have HB6 := hid (HBD.out.trans (hb7.mono HBD.out.size))
     have HT7 := hid (HT6.out.sgn (s' := s7) (a' := a7) (n' := n7) (c' := c7) (b' := b7) (m' := m7) (d' := d7) (hr7.base (by have := (HTD.out.bd.row.lt G rfl); omega)))
     have LT7 := hid (((LT6.out.setne (N := N) (i := 0) (x := .bool s7) (Nat.ne_of_lt HNW.out.1)).setne (N := N) (i := 1) (x := .slice a7 n7 c7) (Nat.ne_of_lt HNW.out.1)).setne (N := N) (i := 2) (x := .slice b7 m7 d7) (Nat.ne_of_lt HNW.out.1))
     have HB7 := hid (((HB6.out.setCell (p := ⟨N, 0, none⟩) (Nat.le_of_lt HNW.out.1) (.bool s7)).setCell (p := ⟨N, 1, none⟩) (Nat.le_of_lt HNW.out.1) (.slice a7 n7 c7)).setCell (p := ⟨N, 2, none⟩) (Nat.le_of_lt HNW.out.1) (.slice b7 m7 d7))
     have hwk : IntKind.i64.wrap ((k : Int) + 1) = ((k + 1 : Nat) : Int) := by have := IntWalk.i64_in ((k : Int) + 1) (by omega); rw [this]; omega
     clear hr7 hb7
     go_wp2
     clear u0 u1 u2 f0 f1 f2
     generalize ((w6.setCell ⟨N, 0, none⟩ (.bool s7)).setCell ⟨N, 1, none⟩ (.slice a7 n7 c7)).setCell ⟨N, 2, none⟩ (.slice b7 m7 d7) = w7 at HT7 LT7 HB7 ⊢
     go_loopw [9] (fun t wr => ∃ i : Nat, k + 1 ≤ i ∧ i ≤ n ∧ t = .int .i64 i ∧ Hid (DD wr lo' G n cap ((List.range n).map V1) V1 (dtO (mvf S k q) k i) N s7 (.slice a7 n7 c7) (.slice b7 m7 d7) OP) ∧ Hid (LocA 37 wr w.heap.size #[.bool false, .slice none 0 0, .slice none 0 0]) ∧ Hid (Below w.heap.size w wr)) (fun t _ => n - (intOf t).toNat)
     case atStart => exact ⟨k + 1, Nat.le_refl _, hlt, rfl, hid (HT7.out.same fun r hr => dtO_start _ _ _), LT7, HB7⟩
     case round =>
      obtain ⟨i, hki, hi, rfl, hDi, hLi, hBi⟩ := hrel
      by_cases hilt : i < n
      ·have hiS : i < (mvf S k q).length := by have := HS1l.out; omega
       have hli := (HS1W.out.at hiS).1
       have hlk := (HS1W.out.at hkS).1
       obtain ⟨gi, ci, s5, a5, n5, c5, b5, m5, d5, hVi, hgi0, hgi, x0, x1, x2, RXi⟩ := hDi.out.bd.rc.at' (j := i) hilt (os := ((mvf S k q)[i]'hiS).map Option.some) (by rw [dtO_before, getD_row hiS]) (W := n) (by rw [List.length_map]; exact hli) (k := k) hlt (o := some (el ((mvf S k q)[i]'hiS) k)) (by rw [List.getElem_map, el_at (by omega)])
       obtain ⟨gk, ck, s6, a6, n6, c6, b6, m6, d6, hVk2, hgk0, hgk, v0, v1, v2, RXk⟩ := hDi.out.bd.rc.at' (j := k) hlt (os := ((mvf S k q)[k]'hkS).map Option.some) (by unfold dtO; rw [if_neg (by omega), getD_row hkS]) (W := n) (by rw [List.length_map]; exact hlk) (k := k) hlt (o := some (el ((mvf S k q)[k]'hkS) k)) (by rw [List.getElem_map, el_at (by omega)])
       have q5 := hDi.out.bd.cell (i := i) (v := V1 i) (by simp [hilt])
       have q6 := hDi.out.bd.cell (i := k) (v := V1 k) (by simp [hlt])
       rw [hVi] at q5
       rw [hVk2] at q6
       have HVi := hid hVi
       have HVk2 := hid hVk2
       have h09 : el ((mvf S k q)[k]'hkS) k ≠ 0 := by rw [← getD_row hkS, HS1d.out]; exact HZ0.out
       have KF := hid (fun (U : World) (hb : Below wr.heap.size wr U) => sdiv_o (w := U) (RXi.ra.old hb) (RXk.ra.old hb))
       rw [div_cap h09] at KF
       have hGw := (hDi.out.bd.row.lt G rfl).2
       have hGh := hid hGw
       have hgih := hid hgi
       have hgkh := hid hgk
       have u4 : (0 : Int) ≤ i := by omega
       have u5 : (i : Int) < n := by omega
       clear hVi hVk2 RXi RXk h09 hli hlk hGw hgi hgk
       obtain ⟨fo, hfo0⟩ : ∃ fo, capF (el ((mvf S k q)[i]'hiS) k / el ((mvf S k q)[k]'hkS) k) = fo := ⟨_, rfl⟩
       rw [hfo0] at KF
       have HFO := hid hfo0
       clear hfo0
       go_upto_region 25 with fail
       go_cut [10] (fun sl wx => LaidO false wr fo sl wx)
       case first =>
        have q50 : wr.cell? ⟨G, i, none⟩ = some (.slice (some ⟨gi, 0, none⟩) n ci) := q5
        have q5 : wr.drew.cell? ⟨G, i, none⟩ = some (.slice (some ⟨gi, 0, none⟩) n ci) := q5
        have q60 : wr.cell? ⟨G, k, none⟩ = some (.slice (some ⟨gk, 0, none⟩) n ck) := q6
        have q6 : wr.drew.cell? ⟨G, k, none⟩ = some (.slice (some ⟨gk, 0, none⟩) n ck) := q6
        have x00 : wr.cell? ⟨gi, k * 3, none⟩ = some (.bool s5) := x0
        have x0 : wr.drew.cell? ⟨gi, k * 3, none⟩ = some (.bool s5) := x0
        have x10 : wr.cell? ⟨gi, k * 3 + 1, none⟩ = some (.slice a5 n5 c5) := x1
        have x1 : wr.drew.cell? ⟨gi, k * 3 + 1, none⟩ = some (.slice a5 n5 c5) := x1
        have x20 : wr.cell? ⟨gi, k * 3 + 2, none⟩ = some (.slice b5 m5 d5) := x2
        have x2 : wr.drew.cell? ⟨gi, k * 3 + 2, none⟩ = some (.slice b5 m5 d5) := x2
        have v00 : wr.cell? ⟨gk, k * 3, none⟩ = some (.bool s6) := v0
        have v0 : wr.drew.cell? ⟨gk, k * 3, none⟩ = some (.bool s6) := v0
        have v10 : wr.cell? ⟨gk, k * 3 + 1, none⟩ = some (.slice a6 n6 c6) := v1
        have v1 : wr.drew.cell? ⟨gk, k * 3 + 1, none⟩ = some (.slice a6 n6 c6) := v1
        have v20 : wr.cell? ⟨gk, k * 3 + 2, none⟩ = some (.slice b6 m6 d6) := v2
        have v2 : wr.drew.cell? ⟨gk, k * 3 + 2, none⟩ = some (.slice b6 m6 d6) := v2
        refine wp_region_held_drew (S := (fun w' => w'.cell? ⟨G, i, none⟩ = some (.slice (some ⟨gi, 0, none⟩) n ci) ∧ w'.cell? ⟨G, k, none⟩ = some (.slice (some ⟨gk, 0, none⟩) n ck) ∧ w'.cell? ⟨gi, k * 3, none⟩ = some (.bool s5) ∧ w'.cell? ⟨gi, k * 3 + 1, none⟩ = some (.slice a5 n5 c5) ∧ w'.cell? ⟨gi, k * 3 + 2, none⟩ = some (.slice b5 m5 d5) ∧ w'.cell? ⟨gk, k * 3, none⟩ = some (.bool s6) ∧ w'.cell? ⟨gk, k * 3 + 1, none⟩ = some (.slice a6 n6 c6) ∧ w'.cell? ⟨gk, k * 3 + 2, none⟩ = some (.slice b6 m6 d6))) (by kernel_rfl) (by first | (with_reducible exact ⟨q5, q6, x0, x1, x2, v0, v1, v2⟩) | ((try dsimp only); with_reducible exact ⟨q5, q6, x0, x1, x2, v0, v1, v2⟩)) (fun hHeld => ?_)
        refine tk (i := 0) (v := ?_) rfl (by kernel_rfl) (fun _ _ _ h => h) (Or.inl ⟨by rfl, ?_⟩) (by assumption) ?_
        rotate_left
        ·(intro w hSw; (try dsimp only at hSw); go_simp; try (with_reducible rfl))
        try simp only [Act.put, ka1, ka2, ka3, ka4, ka5]
        refine tk (i := 1) (v := ?_) rfl (by kernel_rfl) (fun _ _ _ h => h) (Or.inl ⟨by rfl, ?_⟩) (by assumption) ?_
        rotate_left
        ·(intro w hSw; (try dsimp only at hSw); go_simp; try (with_reducible rfl))
        try simp only [Act.put, ka1, ka2, ka3, ka4, ka5, ka6]
        refine tk (i := 2) (v := ?_) rfl (by kernel_rfl) (fun _ _ _ h => h) (Or.inl ⟨by rfl, ?_⟩) (by assumption) ?_
        rotate_left
        ·(intro w hSw; (try dsimp only at hSw); go_simp; try (with_reducible rfl))
        try simp only [Act.put, ka1, ka2, ka3, ka4, ka5, ka6]
        refine tk (i := 3) (v := ?_) rfl (by kernel_rfl) (fun _ _ _ h => h) (Or.inl ⟨by rfl, ?_⟩) (by assumption) ?_
        rotate_left
        ·(intro w hSw; (try dsimp only at hSw); go_simp; try (with_reducible rfl))
        try simp only [Act.put, ka1, ka2, ka3, ka4, ka5, ka6]
        refine tk (i := 4) (v := ?_) rfl (by kernel_rfl) (fun _ _ _ h => h) (Or.inl ⟨by rfl, ?_⟩) (by assumption) ?_
        rotate_left
        ·(intro w hSw; (try dsimp only at hSw); go_simp; try (with_reducible rfl))
        try simp only [Act.put, ka1, ka2, ka3, ka4, ka5, ka6]
        refine tk (i := 5) (v := ?_) rfl (by kernel_rfl) (fun _ _ _ h => h) (Or.inl ⟨by rfl, ?_⟩) (by assumption) ?_
        rotate_left
        ·(intro w hSw; (try dsimp only at hSw); go_simp; try (with_reducible rfl))
        try simp only [Act.put, ka1, ka2, ka3, ka4, ka5, ka6]
        refine tk (i := 6) (v := ?_) rfl (by kernel_rfl) (fun _ _ _ h => h) (Or.inl ⟨by rfl, ?_⟩) (by assumption) ?_
        rotate_left
        ·(intro w hSw; (try dsimp only at hSw); go_simp; try (with_reducible rfl))
        try simp only [Act.put, ka1, ka2, ka3, ka4, ka5, ka6]
        refine tk (i := 7) (v := ?_) rfl (by kernel_rfl) (fun _ _ _ h => h) (Or.inl ⟨by rfl, ?_⟩) (by assumption) ?_
        rotate_left
        ·(intro w hSw; (try dsimp only at hSw); go_simp; try (with_reducible rfl))
        try simp only [Act.put, ka1, ka2, ka3, ka4, ka5, ka6]
        refine tk (i := 8) (v := ?_) rfl (by kernel_rfl) (fun _ _ _ h => h) (Or.inl ⟨by rfl, ?_⟩) (by assumption) ?_
        rotate_left
        ·(intro w hSw; (try dsimp only at hSw); go_simp; try (with_reducible rfl))
        try simp only [Act.put, ka1, ka2, ka3, ka4, ka5, ka6]
        refine tk (i := 9) (v := ?_) rfl (by kernel_rfl) (fun _ _ _ h => h) (Or.inl ⟨by rfl, ?_⟩) (by assumption) ?_
        rotate_left
        ·(intro w hSw; (try dsimp only at hSw); go_simp; try (with_reducible rfl))
        try simp only [Act.put, ka1, ka2, ka3, ka4, ka5, ka6]
        refine tk (i := 10) (v := ?_) rfl (by kernel_rfl) (fun _ _ _ h => h) (Or.inl ⟨by rfl, ?_⟩) (by assumption) ?_
        rotate_left
        ·(intro w hSw; (try dsimp only at hSw); go_simp; try (with_reducible rfl))
        try simp only [Act.put, ka1, ka2, ka3, ka4, ka5, ka6]
        refine tk (i := 11) (v := ?_) rfl (by kernel_rfl) (fun _ _ _ h => h) (Or.inl ⟨by rfl, ?_⟩) (by assumption) ?_
        rotate_left
        ·(intro w hSw; (try dsimp only at hSw); go_simp; try (with_reducible rfl))
        try simp only [Act.put, ka1, ka2, ka3, ka4, ka5, ka6]
        refine tk (i := 12) (v := ?_) rfl (by kernel_rfl) (fun _ _ _ h => h) (Or.inl ⟨by rfl, ?_⟩) (by assumption) ?_
        rotate_left
        ·(intro w hSw; (try dsimp only at hSw); go_simp; try (with_reducible rfl))
        try simp only [Act.put, ka1, ka2, ka3, ka4, ka5, ka6]
        refine tk (i := 13) (v := ?_) rfl (by kernel_rfl) (fun _ _ _ h => h) (Or.inl ⟨by rfl, ?_⟩) (by assumption) ?_
        rotate_left
        ·(intro w hSw; (try dsimp only at hSw); go_simp; try (with_reducible rfl))
        try simp only [Act.put, ka1, ka2, ka3, ka4, ka5, ka6]
        refine wpAnyH_ready (rs := [14, 15]) (by kernel_rfl) (by simp) ?_
        refine AllReadyH.cons (o := _) rfl (fun K hK => ?_) (AllReadyH.cons (o := _) rfl (fun K hK => ?_) AllReadyH.nil)
        ·skip
         go_simp
         (with_reducible refine (KF.out _ (Below_drew1 (Below.refl _ _))).mono ?_)
         rintro e w8 ⟨s8, a8, n8, c8, b8, m8, d8, rfl, hr, hb⟩
         have hb5 := hid (show Below wr.heap.size wr w8 from (Below_drew1 (Below.refl _ _)).trans hb)
         have q5 := (hb5.out.cell (p := ⟨G, i, none⟩) hGh.out).trans q50
         have q6 := (hb5.out.cell (p := ⟨G, k, none⟩) hGh.out).trans q60
         have x0 := (hb5.out.cell (p := ⟨gi, k * 3, none⟩) hgih.out).trans x00
         have x1 := (hb5.out.cell (p := ⟨gi, k * 3 + 1, none⟩) hgih.out).trans x10
         have x2 := (hb5.out.cell (p := ⟨gi, k * 3 + 2, none⟩) hgih.out).trans x20
         have v0 := (hb5.out.cell (p := ⟨gk, k * 3, none⟩) hgkh.out).trans v00
         have v1 := (hb5.out.cell (p := ⟨gk, k * 3 + 1, none⟩) hgkh.out).trans v10
         have v2 := (hb5.out.cell (p := ⟨gk, k * 3 + 2, none⟩) hgkh.out).trans v20
         have hz8 := hid hb5.out.size
         have HR5 := hid (show RO false w8 wr.heap.size s8 (.slice a8 n8 c8) (.slice b8 m8 d8) fo from hr)
         clear hr hb
         go_wp2_with fail
         refine hK.out _ _ ?_ (fun hHeld => ?_)
         ·first | (with_reducible exact ⟨q5, q6, x0, x1, x2, v0, v1, v2⟩) | ((try dsimp only); with_reducible exact ⟨q5, q6, x0, x1, x2, v0, v1, v2⟩)
         refine wpAnyH_ready (rs := [15]) (by kernel_rfl) (by simp) ?_
         refine AllReadyH.cons (o := _) rfl (fun K hK => ?_) AllReadyH.nil
         have q5w := q5
         have q6w := q6
         have x0w := x0
         have x1w := x1
         have x2w := x2
         have v0w := v0
         have v1w := v1
         have v2w := v2
         have HG8 := hid (Nat.lt_of_lt_of_le hGh.out hz8.out)
         have Hgi8 := hid (Nat.lt_of_lt_of_le hgih.out hz8.out)
         have Hgk8 := hid (Nat.lt_of_lt_of_le hgkh.out hz8.out)
         go_simp
         have BN := hid (below_new' (w := w8) (o := .cells #[.bool false, .slice none 0 0, .slice none 0 0] 37))
         have LN := hid (LocA.new (w := w8) (T := 37) (cs := #[.bool false, .slice none 0 0, .slice none 0 0]))
         have q5 := (BN.out.cell (p := ⟨G, i, none⟩) HG8.out).trans q5
         have q6 := (BN.out.cell (p := ⟨G, k, none⟩) HG8.out).trans q6
         have x0 := (BN.out.cell (p := ⟨gi, k * 3, none⟩) Hgi8.out).trans x0
         have x1 := (BN.out.cell (p := ⟨gi, k * 3 + 1, none⟩) Hgi8.out).trans x1
         have x2 := (BN.out.cell (p := ⟨gi, k * 3 + 2, none⟩) Hgi8.out).trans x2
         have v0 := (BN.out.cell (p := ⟨gk, k * 3, none⟩) Hgk8.out).trans v0
         have v1 := (BN.out.cell (p := ⟨gk, k * 3 + 1, none⟩) Hgk8.out).trans v1
         have v2 := (BN.out.cell (p := ⟨gk, k * 3 + 2, none⟩) Hgk8.out).trans v2
         refine hK.out _ _ ?_ (fun hHeld => ?_)
         ·first | (with_reducible exact ⟨q5, q6, x0, x1, x2, v0, v1, v2⟩) | ((try dsimp only); with_reducible exact ⟨q5, q6, x0, x1, x2, v0, v1, v2⟩)
         try simp only [Act.put, ka1, ka2, ka3, ka4, ka5, ka6]
         refine wpAnyH_ready (rs := [16]) (by kernel_rfl) (by simp) ?_
         refine AllReadyH.cons (o := _) rfl (fun K hK => ?_) AllReadyH.nil
         have f0 := LN.out.f 0
         have f1 := LN.out.f 1
         have f2 := LN.out.f 2
         have p0 := LN.out.c 0 rfl
         have p1 := LN.out.c 1 rfl
         have p2 := LN.out.c 2 rfl
         go_simp
         (try go_wp2_with fail)
         refine hK.out _ _ ?_ (fun hHeld => ?_)
         ·with_reducible exact ⟨(Below.cell below_new' (p := ⟨G, i, none⟩) HG8.out).trans q5w, (Below.cell below_new' (p := ⟨G, k, none⟩) HG8.out).trans q6w, (Below.cell below_new' (p := ⟨gi, k * 3, none⟩) Hgi8.out).trans x0w, (Below.cell below_new' (p := ⟨gi, k * 3 + 1, none⟩) Hgi8.out).trans x1w, (Below.cell below_new' (p := ⟨gi, k * 3 + 2, none⟩) Hgi8.out).trans x2w, (Below.cell below_new' (p := ⟨gk, k * 3, none⟩) Hgk8.out).trans v0w, (Below.cell below_new' (p := ⟨gk, k * 3 + 1, none⟩) Hgk8.out).trans v1w, (Below.cell below_new' (p := ⟨gk, k * 3 + 2, none⟩) Hgk8.out).trans v2w⟩
         refine wpAnyH_done (by kernel_rfl) ?_ _
         go_wp2_with fail
         go_meet
         exact LaidO_a HR5.out hb5.out
        ·skip
         go_simp
         have LN0 := hid (show LocA 37 ((wr.alloc (.cells #[.bool false, .slice none 0 0, .slice none 0 0] 37)).drew) wr.heap.size #[.bool false, .slice none 0 0, .slice none 0 0] from LocA.new)
         have q5 : ((wr.alloc (.cells #[.bool false, .slice none 0 0, .slice none 0 0] 37)).drew).cell? ⟨G, i, none⟩ = some (.slice (some ⟨gi, 0, none⟩) n ci) := (Below_drewAD.cell (p := ⟨G, i, none⟩) hGh.out).trans q50
         have q6 : ((wr.alloc (.cells #[.bool false, .slice none 0 0, .slice none 0 0] 37)).drew).cell? ⟨G, k, none⟩ = some (.slice (some ⟨gk, 0, none⟩) n ck) := (Below_drewAD.cell (p := ⟨G, k, none⟩) hGh.out).trans q60
         have x0 : ((wr.alloc (.cells #[.bool false, .slice none 0 0, .slice none 0 0] 37)).drew).cell? ⟨gi, k * 3, none⟩ = some (.bool s5) := (Below_drewAD.cell (p := ⟨gi, k * 3, none⟩) hgih.out).trans x00
         have x1 : ((wr.alloc (.cells #[.bool false, .slice none 0 0, .slice none 0 0] 37)).drew).cell? ⟨gi, k * 3 + 1, none⟩ = some (.slice a5 n5 c5) := (Below_drewAD.cell (p := ⟨gi, k * 3 + 1, none⟩) hgih.out).trans x10
         have x2 : ((wr.alloc (.cells #[.bool false, .slice none 0 0, .slice none 0 0] 37)).drew).cell? ⟨gi, k * 3 + 2, none⟩ = some (.slice b5 m5 d5) := (Below_drewAD.cell (p := ⟨gi, k * 3 + 2, none⟩) hgih.out).trans x20
         have v0 : ((wr.alloc (.cells #[.bool false, .slice none 0 0, .slice none 0 0] 37)).drew).cell? ⟨gk, k * 3, none⟩ = some (.bool s6) := (Below_drewAD.cell (p := ⟨gk, k * 3, none⟩) hgkh.out).trans v00
         have v1 : ((wr.alloc (.cells #[.bool false, .slice none 0 0, .slice none 0 0] 37)).drew).cell? ⟨gk, k * 3 + 1, none⟩ = some (.slice a6 n6 c6) := (Below_drewAD.cell (p := ⟨gk, k * 3 + 1, none⟩) hgkh.out).trans v10
         have v2 : ((wr.alloc (.cells #[.bool false, .slice none 0 0, .slice none 0 0] 37)).drew).cell? ⟨gk, k * 3 + 2, none⟩ = some (.slice b6 m6 d6) := (Below_drewAD.cell (p := ⟨gk, k * 3 + 2, none⟩) hgkh.out).trans v20
         refine hK.out _ _ ?_ (fun hHeld => ?_)
         ·first | (with_reducible exact ⟨q5, q6, x0, x1, x2, v0, v1, v2⟩) | ((try dsimp only); with_reducible exact ⟨q5, q6, x0, x1, x2, v0, v1, v2⟩)
         try simp only [Act.put, ka1, ka2, ka3, ka4, ka5, ka6]
         refine wpAnyH_ready (rs := [14]) (by kernel_rfl) (by simp) ?_
         refine AllReadyH.cons (o := _) rfl (fun K hK => ?_) AllReadyH.nil
         go_simp
         (with_reducible refine (KF.out _ Below_drewAD).mono ?_)
         rintro e w8 ⟨s8, a8, n8, c8, b8, m8, d8, rfl, hr, hb⟩
         have hb5 := hid (show Below wr.heap.size wr w8 from Below_drewAD.trans (hb.mono Below_drewAD.size))
         have q5 := (hb5.out.cell (p := ⟨G, i, none⟩) hGh.out).trans q50
         have q6 := (hb5.out.cell (p := ⟨G, k, none⟩) hGh.out).trans q60
         have x0 := (hb5.out.cell (p := ⟨gi, k * 3, none⟩) hgih.out).trans x00
         have x1 := (hb5.out.cell (p := ⟨gi, k * 3 + 1, none⟩) hgih.out).trans x10
         have x2 := (hb5.out.cell (p := ⟨gi, k * 3 + 2, none⟩) hgih.out).trans x20
         have v0 := (hb5.out.cell (p := ⟨gk, k * 3, none⟩) hgkh.out).trans v00
         have v1 := (hb5.out.cell (p := ⟨gk, k * 3 + 1, none⟩) hgkh.out).trans v10
         have v2 := (hb5.out.cell (p := ⟨gk, k * 3 + 2, none⟩) hgkh.out).trans v20
         have hz8 := hid hb5.out.size
         have HR5 := hid (show RO false w8 wr.heap.size s8 (.slice a8 n8 c8) (.slice b8 m8 d8) fo from hr.base Below_drewAD.size)
         have LN := hid (LN0.out.old hb)
         clear hr hb
         go_wp2_with fail
         refine hK.out _ _ ?_ (fun hHeld => ?_)
         ·first | (with_reducible exact ⟨q5, q6, x0, x1, x2, v0, v1, v2⟩) | ((try dsimp only); with_reducible exact ⟨q5, q6, x0, x1, x2, v0, v1, v2⟩)
         refine wpAnyH_ready (rs := [16]) (by kernel_rfl) (by simp) ?_
         refine AllReadyH.cons (o := _) rfl (fun K hK => ?_) AllReadyH.nil
         have f0 := LN.out.f 0
         have f1 := LN.out.f 1
         have f2 := LN.out.f 2
         have p0 := LN.out.c 0 rfl
         have p1 := LN.out.c 1 rfl
         have p2 := LN.out.c 2 rfl
         go_simp
         (try go_wp2_with fail)
         refine hK.out _ _ ?_ (fun hHeld => ?_)
         ·with_reducible exact ⟨(cell_set3 (Nat.ne_of_lt hGh.out)).trans q5, (cell_set3 (Nat.ne_of_lt hGh.out)).trans q6, (cell_set3 (Nat.ne_of_lt hgih.out)).trans x0, (cell_set3 (Nat.ne_of_lt hgih.out)).trans x1, (cell_set3 (Nat.ne_of_lt hgih.out)).trans x2, (cell_set3 (Nat.ne_of_lt hgkh.out)).trans v0, (cell_set3 (Nat.ne_of_lt hgkh.out)).trans v1, (cell_set3 (Nat.ne_of_lt hgkh.out)).trans v2⟩
         refine wpAnyH_done (by kernel_rfl) ?_ _
         go_wp2_with fail
         go_meet
         exact LaidO_b LN.out (Nat.le_refl _) HR5.out hb5.out
       case rest =>
        generalize wc = w9 at hcut ⊢
        obtain ⟨Bf, si, ai, ni, ki, bi, mi, di, rfl, hLf, hRf, hBf, hb9⟩ := hcut
        have hloG := hid (show lo' ≤ wr.heap.size from by have := (hDi.out.bd.row.lt G rfl); omega)
        have HD9 := hid (hDi.out.old hb9)
        have HO9 := hid (hRf.base hloG.out)
        have HL9 := hid hLf
        have hL9 := hid (hLi.out.old hb9)
        have HB9 := hid (hBi.out.trans (hb9.mono hBi.out.size))
        have hgiB := hid (show gi ≠ Bf by have := hgih.out; omega)
        have hgi0h := hid (show lo' ≤ gi from hgi0)
        have HIE := hid (show i ≠ k by omega)
        obtain ⟨Y, hY0⟩ : ∃ Y, (mvf S k q)[i]'hiS = Y := ⟨_, rfl⟩
        obtain ⟨P, hP0⟩ : ∃ P, (mvf S k q)[k]'hkS = P := ⟨_, rfl⟩
        have HYl := hid (show Y.length = n by rw [← hY0]; exact (HS1W.out.at hiS).1)
        have HPl := hid (show P.length = n by rw [← hP0]; exact (HS1W.out.at hkS).1)
        obtain ⟨SP, hSP⟩ : ∃ SP, P.map Option.some = SP := ⟨_, rfl⟩
        have HLS := hid (show SP.length = n by rw [← hSP, List.length_map, HPl.out])
        have HLY := hid (show (Y.map Option.some).length = n by rw [List.length_map, HYl.out])
        have HLT := hid (show (spR SP fo Y).length = n by rw [spR_len (by rw [HLS.out, HYl.out]), HYl.out])
        have HTa := hid (fun j (hj : j < n) => show (spR SP fo Y)[j]? = some (bq subF (some (Y[j]'(by rw [HYl.out]; exact hj))) (bq mulF fo (SP[j]'(by rw [HLS.out]; exact hj)))) from by rw [List.getElem?_eq_getElem (by rw [HLT.out]; exact hj), spR_at (by rw [HYl.out]; exact hj) (by rw [HLS.out, HYl.out])])
        have HN1 := hid (fun (r : Nat) (hr : r < n) => show dtO (mvf S k q) k (i + 1) r = if r = i then spR SP fo Y else dtO (mvf S k q) k i r from by
         by_cases e : r = i
         ·rw [if_pos e, e, dtO_behind (by omega), getD_row hkS, getD_row hiS, HFO.out, hY0, hP0, hSP]
         ·rw [if_neg e, dtO_same e])
        have HST0 := hid (show dtO (mvf S k q) k i i = Y.map Option.some by rw [dtO_before, getD_row hiS, hY0])
        have HSPd := hid (show dtO (mvf S k q) k i k = SP by unfold dtO; rw [if_neg (by omega), getD_row hkS, hP0, hSP])
        obtain ⟨TT, hTT⟩ : ∃ TT, TT = spR SP fo Y := ⟨_, rfl⟩
        simp only [← hTT] at HN1 HLT HTa
        clear hY0 hP0 hSP hTT hLf hRf hBf hb9 q5 q6 x0 x1 x2 v0 v1 v2 KF
        go_wp2
        go_loopw [122] (fun t wr => ∃ j : Nat, j ≤ n ∧ t = .int .i64 j ∧ Hid (DD wr lo' G n cap ((List.range n).map V1) V1 (fun r => if r = i then mxL (Y.map Option.some) TT j else dtO (mvf S k q) k i r) N s7 (.slice a7 n7 c7) (.slice b7 m7 d7) OP) ∧ Hid (RO false wr lo' si (.slice ai ni ki) (.slice bi mi di) fo) ∧ Hid (LocA 37 wr Bf #[.bool si, .slice ai ni ki, .slice bi mi di]) ∧ Hid (LocA 37 wr w.heap.size #[.bool false, .slice none 0 0, .slice none 0 0]) ∧ Hid (Below w.heap.size w wr)) (fun t _ => n - (intOf t).toNat)
        case atStart => exact ⟨0, Nat.zero_le _, rfl, hid (HD9.out.same fun r hr => by
         by_cases e : r = i
         ·rw [if_pos e, mxL_zero, e, HST0.out]
         ·rw [if_neg e]), HO9, HL9, hL9, HB9⟩
        case round =>
         obtain ⟨j, hj, rfl, hDj, hOj, hLj, hZj, hBj⟩ := hrel
         by_cases hjlt : j < n
         ·have hml := mxL_len HLY.out HLT.out (j := j) (by omega)
          have hma := mxL_at HLY.out HLT.out hjlt
          have hms := mxL_set HLY.out HLT.out hjlt
          have hxj : (mxL (Y.map Option.some) TT j)[j]'(by rw [hml]; exact hjlt) = some (Y[j]'(by rw [HYl.out]; exact hjlt)) := by rw [hma]; simp
          obtain ⟨g5, cr5, s5, a5, n5, c5, b5, m5, d5, hV5, -, hg5, x0, x1, x2, hRO5⟩ := hDj.out.bd.rc.at' hilt (os := mxL (Y.map Option.some) TT j) (if_pos rfl) hml hjlt hxj
          rw [HVi.out] at hV5
          simp only [Value.slice.injEq, Option.some.injEq, Addr.mk.injEq, and_true, true_and] at hV5
          obtain ⟨rfl, rfl⟩ := hV5
          obtain ⟨po, hpo⟩ : ∃ po, SP[j]'(by rw [HLS.out]; exact hjlt) = po := ⟨_, rfl⟩
          obtain ⟨g6, cr6, s6, a6, n6, c6, b6, m6, d6, hV6, -, hg6, v0, v1, v2, hRO6⟩ := hDj.out.bd.rc.at' (j := k) hlt (os := SP) (by show (if k = i then _ else _) = _; rw [if_neg (fun e => HIE.out e.symm)]; exact HSPd.out) HLS.out hjlt hpo
          rw [HVk2.out] at hV6
          simp only [Value.slice.injEq, Option.some.injEq, Addr.mk.injEq, and_true, true_and] at hV6
          obtain ⟨rfl, rfl⟩ := hV6
          have hTj := HTa.out j hjlt
          rw [List.getElem?_eq_getElem (by rw [HLT.out]; exact hjlt)] at hTj
          rw [Option.some.inj hTj, hpo] at hms
          clear hTj
          obtain ⟨xj, hxjj⟩ : ∃ xj, xj = Y[j]'(by rw [HYl.out]; exact hjlt) := ⟨_, rfl⟩
          simp only [← hxjj] at hRO5 hms
          have HMS := hid hms
          have hbd := hid (Below_drew1 (Below.refl wr.heap.size wr))
          have KM := hid (smul_o (w := wr.drew) (hOj.out.old hbd.out).ra (hRO6.old hbd.out).ra)
          have HX5 := hid hRO5
          have q0 : wr.drew.cell? ⟨G, i, none⟩ = some (.slice (some ⟨gi, 0, none⟩) n ci) := hDj.out.bd.cell (i := i) (by simp [hilt, HVi.out])
          have q6 : wr.drew.cell? ⟨G, k, none⟩ = some (.slice (some ⟨gk, 0, none⟩) n ck) := hDj.out.bd.cell (i := k) (by simp [hlt, HVk2.out])
          have x0 : wr.drew.cell? ⟨gi, j * 3, none⟩ = _ := x0
          have x1 : wr.drew.cell? ⟨gi, j * 3 + 1, none⟩ = _ := x1
          have x2 : wr.drew.cell? ⟨gi, j * 3 + 2, none⟩ = _ := x2
          have v0 : wr.drew.cell? ⟨gk, j * 3, none⟩ = _ := v0
          have v1 : wr.drew.cell? ⟨gk, j * 3 + 1, none⟩ = _ := v1
          have v2 : wr.drew.cell? ⟨gk, j * 3 + 2, none⟩ = _ := v2
          have hLd := hid (hLj.out.old hbd.out)
          obtain ⟨y0', y1', y2'⟩ := hLd.out.all3
          have t0 : (0 : Int) ≤ j := by omega
          have t1 : (j : Int) < n := by omega
          have hg5h := hid hg5
          have hGh := hid (show G < wr.heap.size from (hDj.out.bd.row.lt G rfl).2)
          have hloW := hid (show lo' ≤ wr.heap.size from by have := (hDj.out.bd.row.lt G rfl); omega)
          have hBs := hid (hBj.out.size)
          have hg6h := hid hg6
          have hggi := hid (show gk ≠ gi from fun e => hDj.out.bd.rc.ne k i hlt hilt (fun e => HIE.out e.symm) gk (by rw [HVk2.out]; rfl) (by rw [HVi.out, e]; rfl))
          clear hml hma hms hxj hpo hxjj hRO5 hRO6 hg5 hg6
          go_wp2_with fail
          refine wp_region_held_drew (S := (fun w' => w'.cell? ⟨G, i, none⟩ = some (.slice (some ⟨gi, 0, none⟩) n ci) ∧ w'.cell? ⟨G, k, none⟩ = some (.slice (some ⟨gk, 0, none⟩) n ck) ∧ w'.cell? ⟨Bf, 0, none⟩ = some (.bool si) ∧ w'.cell? ⟨Bf, 1, none⟩ = some (.slice ai ni ki) ∧ w'.cell? ⟨Bf, 2, none⟩ = some (.slice bi mi di) ∧ w'.cell? ⟨gk, j * 3, none⟩ = some (.bool s6) ∧ w'.cell? ⟨gk, j * 3 + 1, none⟩ = some (.slice a6 n6 c6) ∧ w'.cell? ⟨gk, j * 3 + 2, none⟩ = some (.slice b6 m6 d6))) (by kernel_rfl) (by first | (with_reducible exact ⟨q0, q6, y0', y1', y2', v0, v1, v2⟩) | ((try dsimp only); with_reducible exact ⟨q0, q6, y0', y1', y2', v0, v1, v2⟩)) (fun hHeld => ?_)
          refine tk (i := 0) (v := ?_) rfl (by kernel_rfl) (fun _ _ _ h => h) (Or.inl ⟨by rfl, ?_⟩) (by assumption) ?_
          rotate_left
          ·(intro w hSw; (try dsimp only at hSw); go_simp; try (with_reducible rfl))
          try simp only [Act.put, ka1, ka2, ka3, ka4, ka5]
          refine tk (i := 1) (v := ?_) rfl (by kernel_rfl) (fun _ _ _ h => h) (Or.inl ⟨by rfl, ?_⟩) (by assumption) ?_
          rotate_left
          ·(intro w hSw; (try dsimp only at hSw); go_simp; try (with_reducible rfl))
          try simp only [Act.put, ka1, ka2, ka3, ka4, ka5, ka6]
          refine tk (i := 2) (v := ?_) rfl (by kernel_rfl) (fun _ _ _ h => h) (Or.inl ⟨by rfl, ?_⟩) (by assumption) ?_
          rotate_left
          ·(intro w hSw; (try dsimp only at hSw); go_simp; try (with_reducible rfl))
          try simp only [Act.put, ka1, ka2, ka3, ka4, ka5, ka6]
          refine tk (i := 3) (v := ?_) rfl (by kernel_rfl) (fun _ _ _ h => h) (Or.inl ⟨by rfl, ?_⟩) (by assumption) ?_
          rotate_left
          ·(intro w hSw; (try dsimp only at hSw); go_simp; try (with_reducible rfl))
          try simp only [Act.put, ka1, ka2, ka3, ka4, ka5, ka6]
          refine tk (i := 4) (v := ?_) rfl (by kernel_rfl) (fun _ _ _ h => h) (Or.inl ⟨by rfl, ?_⟩) (by assumption) ?_
          rotate_left
          ·(intro w hSw; (try dsimp only at hSw); go_simp; try (with_reducible rfl))
          try simp only [Act.put, ka1, ka2, ka3, ka4, ka5, ka6]
          refine tk (i := 5) (v := ?_) rfl (by kernel_rfl) (fun _ _ _ h => h) (Or.inl ⟨by rfl, ?_⟩) (by assumption) ?_
          rotate_left
          ·(intro w hSw; (try dsimp only at hSw); go_simp; try (with_reducible rfl))
          try simp only [Act.put, ka1, ka2, ka3, ka4, ka5, ka6]
          refine tk (i := 6) (v := ?_) rfl (by kernel_rfl) (fun _ _ _ h => h) (Or.inl ⟨by rfl, ?_⟩) (by assumption) ?_
          rotate_left
          ·(intro w hSw; (try dsimp only at hSw); go_simp; try (with_reducible rfl))
          try simp only [Act.put, ka1, ka2, ka3, ka4, ka5, ka6]
          refine tk (i := 7) (v := ?_) rfl (by kernel_rfl) (fun _ _ _ h => h) (Or.inl ⟨by rfl, ?_⟩) (by assumption) ?_
          rotate_left
          ·(intro w hSw; (try dsimp only at hSw); go_simp; try (with_reducible rfl))
          try simp only [Act.put, ka1, ka2, ka3, ka4, ka5, ka6]
          refine tk (i := 8) (v := ?_) rfl (by kernel_rfl) (fun _ _ _ h => h) (Or.inl ⟨by rfl, ?_⟩) (by assumption) ?_
          rotate_left
          ·(intro w hSw; (try dsimp only at hSw); go_simp; try (with_reducible rfl))
          try simp only [Act.put, ka1, ka2, ka3, ka4, ka5, ka6]
          refine tk (i := 9) (v := ?_) rfl (by kernel_rfl) (fun _ _ _ h => h) (Or.inl ⟨by rfl, ?_⟩) (by assumption) ?_
          rotate_left
          ·(intro w hSw; (try dsimp only at hSw); go_simp; try (with_reducible rfl))
          try simp only [Act.put, ka1, ka2, ka3, ka4, ka5, ka6]
          refine tk (i := 10) (v := ?_) rfl (by kernel_rfl) (fun _ _ _ h => h) (Or.inl ⟨by rfl, ?_⟩) (by assumption) ?_
          rotate_left
          ·(intro w hSw; (try dsimp only at hSw); go_simp; try (with_reducible rfl))
          try simp only [Act.put, ka1, ka2, ka3, ka4, ka5, ka6]
          refine tk (i := 12) (v := ?_) rfl (by kernel_rfl) (fun _ _ _ h => h) (Or.inl ⟨by rfl, ?_⟩) (by assumption) ?_
          rotate_left
          ·(intro w hSw; (try dsimp only at hSw); go_simp; try (with_reducible rfl))
          try simp only [Act.put, ka1, ka2, ka3, ka4, ka5, ka6]
          refine tk (i := 13) (v := ?_) rfl (by kernel_rfl) (fun _ _ _ h => h) (Or.inl ⟨by rfl, ?_⟩) (by assumption) ?_
          rotate_left
          ·(intro w hSw; (try dsimp only at hSw); go_simp; try (with_reducible rfl))
          try simp only [Act.put, ka1, ka2, ka3, ka4, ka5, ka6]
          refine tk (i := 14) (v := ?_) rfl (by kernel_rfl) (fun _ _ _ h => h) (Or.inl ⟨by rfl, ?_⟩) (by assumption) ?_
          rotate_left
          ·(intro w hSw; (try dsimp only at hSw); go_simp; try (with_reducible rfl))
          try simp only [Act.put, ka1, ka2, ka3, ka4, ka5, ka6]
          refine tk (i := 15) (v := ?_) rfl (by kernel_rfl) (fun _ _ _ h => h) (Or.inl ⟨by rfl, ?_⟩) (by assumption) ?_
          rotate_left
          ·(intro w hSw; (try dsimp only at hSw); go_simp; try (with_reducible rfl))
          try simp only [Act.put, ka1, ka2, ka3, ka4, ka5, ka6]
          refine tk (i := 16) (v := ?_) rfl (by kernel_rfl) (fun _ _ _ h => h) (Or.inl ⟨by rfl, ?_⟩) (by assumption) ?_
          rotate_left
          ·(intro w hSw; (try dsimp only at hSw); go_simp; try (with_reducible rfl))
          try simp only [Act.put, ka1, ka2, ka3, ka4, ka5, ka6]
          refine tk (i := 17) (v := ?_) rfl (by kernel_rfl) (fun _ _ _ h => h) (Or.inl ⟨by rfl, ?_⟩) (by assumption) ?_
          rotate_left
          ·(intro w hSw; (try dsimp only at hSw); go_simp; try (with_reducible rfl))
          try simp only [Act.put, ka1, ka2, ka3, ka4, ka5, ka6]
          refine tk (i := 18) (v := ?_) rfl (by kernel_rfl) (fun _ _ _ h => h) (Or.inl ⟨by rfl, ?_⟩) (by assumption) ?_
          rotate_left
          ·(intro w hSw; (try dsimp only at hSw); go_simp; try (with_reducible rfl))
          try simp only [Act.put, ka1, ka2, ka3, ka4, ka5, ka6]
          refine tk (i := 19) (v := ?_) rfl (by kernel_rfl) (fun _ _ _ h => h) (Or.inl ⟨by rfl, ?_⟩) (by assumption) ?_
          rotate_left
          ·(intro w hSw; (try dsimp only at hSw); go_simp; try (with_reducible rfl))
          try simp only [Act.put, ka1, ka2, ka3, ka4, ka5, ka6]
          refine wpAnyH_ready (rs := [11, 20]) (by kernel_rfl) (by simp) ?_
          refine AllReadyH.cons (o := _) rfl (fun K hK => ?_) (AllReadyH.cons (o := _) rfl (fun K hK => ?_) AllReadyH.nil)
          ·skip
           go_simp
           refine hK.out _ _ ?_ (fun hHeld => ?_)
           ·first | (with_reducible exact ⟨q0, q6, y0', y1', y2', v0, v1, v2⟩) | ((try dsimp only); with_reducible exact ⟨q0, q6, y0', y1', y2', v0, v1, v2⟩)
           try simp only [Act.put, ka1, ka2, ka3, ka4, ka5, ka6]
           refine wpAnyH_ready (rs := [20]) (by kernel_rfl) (by simp) ?_
           refine AllReadyH.cons (o := _) rfl (fun K hK => ?_) AllReadyH.nil
           go_simp
           (with_reducible refine (KM.out).mono ?_)
           rintro e w10 ⟨sm, am, nm, cm, bm, mm, dm, rfl, hr, hb⟩
           have hbe := hid (hbd.out.trans (hb.mono hbd.out.size))
           have KU := hid (ssub_o (w := w10) (HX5.out.old hbe.out).ra hr.ra)
           have q0 := (hb.cell (p := ⟨G, i, none⟩) hGh.out).trans q0
           have q6 := (hb.cell (p := ⟨G, k, none⟩) hGh.out).trans q6
           have x0 := (hb.cell (p := ⟨gi, j * 3, none⟩) hg5h.out).trans x0
           have x1 := (hb.cell (p := ⟨gi, j * 3 + 1, none⟩) hg5h.out).trans x1
           have x2 := (hb.cell (p := ⟨gi, j * 3 + 2, none⟩) hg5h.out).trans x2
           have v0 := (hb.cell (p := ⟨gk, j * 3, none⟩) hg6h.out).trans v0
           have v1 := (hb.cell (p := ⟨gk, j * 3 + 1, none⟩) hg6h.out).trans v1
           have v2 := (hb.cell (p := ⟨gk, j * 3 + 2, none⟩) hg6h.out).trans v2
           have hL10 := hid (hLd.out.old hb)
           obtain ⟨y0', y1', y2'⟩ := hL10.out.all3
           have hz10 := hid hbe.out.size
           clear hr hb
           go_wp2_with fail
           refine hK.out _ _ ?_ (fun hHeld => ?_)
           ·first | (with_reducible exact ⟨q0, q6, y0', y1', y2', v0, v1, v2⟩) | ((try dsimp only); with_reducible exact ⟨q0, q6, y0', y1', y2', v0, v1, v2⟩)
           refine wpAnyH_ready (rs := [21]) (by kernel_rfl) (by simp) ?_
           refine AllReadyH.cons (o := _) rfl (fun K hK => ?_) AllReadyH.nil
           go_simp
           (with_reducible refine (KU.out).mono ?_)
           rintro e w11 ⟨s8, a8, n8, c8, b8, m8, d8, rfl, hr, hb⟩
           have hbf := hid (hbe.out.trans (hb.mono hbe.out.size))
           have HDe := hid (hDj.out.old hbf.out)
           have q0 := (hb.cell (p := ⟨G, i, none⟩) (Nat.lt_of_lt_of_le hGh.out hz10.out)).trans q0
           have q6 := (hb.cell (p := ⟨G, k, none⟩) (Nat.lt_of_lt_of_le hGh.out hz10.out)).trans q6
           have x0 := (hb.cell (p := ⟨gi, j * 3, none⟩) (Nat.lt_of_lt_of_le hg5h.out hz10.out)).trans x0
           have x1 := (hb.cell (p := ⟨gi, j * 3 + 1, none⟩) (Nat.lt_of_lt_of_le hg5h.out hz10.out)).trans x1
           have x2 := (hb.cell (p := ⟨gi, j * 3 + 2, none⟩) (Nat.lt_of_lt_of_le hg5h.out hz10.out)).trans x2
           have v0 := (hb.cell (p := ⟨gk, j * 3, none⟩) (Nat.lt_of_lt_of_le hg6h.out hz10.out)).trans v0
           have v1 := (hb.cell (p := ⟨gk, j * 3 + 1, none⟩) (Nat.lt_of_lt_of_le hg6h.out hz10.out)).trans v1
           have v2 := (hb.cell (p := ⟨gk, j * 3 + 2, none⟩) (Nat.lt_of_lt_of_le hg6h.out hz10.out)).trans v2
           have hL11 := hid (hL10.out.old hb)
           obtain ⟨y0', y1', y2'⟩ := hL11.out.all3
           have f0 := HDe.out.bd.free hilt HVi.out (j * 3)
           have f1 := HDe.out.bd.free hilt HVi.out (j * 3 + 1)
           have f2 := HDe.out.bd.free hilt HVi.out (j * 3 + 2)
           have HP := hid (HDe.out.put (O' := fun r => if r = i then mxL (Y.map Option.some) TT (j + 1) else dtO (mvf S k q) k i r) hilt (os := mxL (Y.map Option.some) TT j) (k := j) (if_pos rfl) (mxL_len HLY.out HLT.out (by omega)) HVi.out hjlt hr (Nat.le_trans hloW.out hz10.out) (by rw [if_pos rfl]; exact HMS.out.symm) (fun r hr' hne => by rw [if_neg hne, if_neg hne]))
           have HO6 := hid (HDe.out.bd.ro hilt HVi.out (k := j) (s := s8) (x := .slice a8 n8 c8) (y := .slice b8 m8 d8) (hOj.out.old hbf.out))
           have HL6 := hid ((hLj.out.old hbf.out).put3 (k := j) (s := s8) (x := .slice a8 n8 c8) (y := .slice b8 m8 d8) (Ne.symm hgiB.out))
           have HZ6 := hid ((hZj.out.old hbf.out).put3 (k := j) (s := s8) (x := .slice a8 n8 c8) (y := .slice b8 m8 d8) (Nat.ne_of_lt (Nat.lt_of_lt_of_le HLO.out hgi0h.out)))
           have HB6 := hid (below_set3 (k := j) (s := s8) (x := .slice a8 n8 c8) (y := .slice b8 m8 d8) (hBj.out.trans (hbf.out.mono hBs.out)) (Nat.le_of_lt (Nat.lt_of_lt_of_le HLO.out hgi0h.out)))
           have V0 := hid ((World.cell?_of_block (a := ⟨gk, j * 3, none⟩) (set3_other w11 gi j s8 (.slice a8 n8 c8) (.slice b8 m8 d8) gk hggi.out)).trans v0)
           have V1' := hid ((World.cell?_of_block (a := ⟨gk, j * 3 + 1, none⟩) (set3_other w11 gi j s8 (.slice a8 n8 c8) (.slice b8 m8 d8) gk hggi.out)).trans v1)
           have V2 := hid ((World.cell?_of_block (a := ⟨gk, j * 3 + 2, none⟩) (set3_other w11 gi j s8 (.slice a8 n8 c8) (.slice b8 m8 d8) gk hggi.out)).trans v2)
           unfold set3 at HP HO6 HL6 HZ6 HB6 V0 V1' V2
           clear hr hb
           go_wp2_with fail
           refine hK.out _ _ ?_ (fun hHeld => ?_)
           ·first | (with_reducible exact ⟨q0, q6, y0', y1', y2', v0, v1, v2⟩) | ((try dsimp only); with_reducible exact ⟨q0, q6, y0', y1', y2', v0, v1, v2⟩)
           refine tk (i := 22) (v := ?_) rfl (by kernel_rfl) (fun _ _ _ h => h) (Or.inl ⟨by rfl, ?_⟩) (by assumption) ?_
           rotate_left
           ·(intro w hSw; (try dsimp only at hSw); go_simp; try (with_reducible rfl))
           try simp only [Act.put, ka1, ka2, ka3, ka4, ka5, ka6]
           refine wpAnyH_ready (rs := [23]) (by kernel_rfl) (by simp) ?_
           refine AllReadyH.cons (o := _) rfl (fun K hK => ?_) AllReadyH.nil
           go_simp
           have qS := HP.out.bd.cell (i := i) (v := .slice (some ⟨gi, 0, none⟩) n ci) (by simp [hilt, HVi.out])
           have q6S := HP.out.bd.cell (i := k) (v := .slice (some ⟨gk, 0, none⟩) n ck) (by simp [hlt, HVk2.out])
           obtain ⟨yS0, yS1, yS2⟩ := HL6.out.all3
           refine hK.out _ _ ?_ (fun hHeld => ?_)
           ·first | (with_reducible exact ⟨qS, q6S, yS0, yS1, yS2, V0.out, V1'.out, V2.out⟩) | ((try dsimp only); exact ⟨qS, q6S, yS0, yS1, yS2, V0.out, V1'.out, V2.out⟩)
           refine wpAnyH_done (by kernel_rfl) ?_ _
           clear q0 q6 x0 x1 x2 v0 v1 v2 y0' y1' y2' f0 f1 f2 qS q6S yS0 yS1 yS2
           go_wp2
           go_roundw
           case rel => exact ⟨j + 1, by omega, by go_num, HP, HO6, HL6, HZ6, HB6⟩
           case measure => simp [intOf]; omega
          ·skip
           go_simp
           (with_reducible refine (KM.out).mono ?_)
           rintro e w10 ⟨sm, am, nm, cm, bm, mm, dm, rfl, hr, hb⟩
           have hbe := hid (hbd.out.trans (hb.mono hbd.out.size))
           have KU := hid (ssub_o (w := w10) (HX5.out.old hbe.out).ra hr.ra)
           have q0 := (hb.cell (p := ⟨G, i, none⟩) hGh.out).trans q0
           have q6 := (hb.cell (p := ⟨G, k, none⟩) hGh.out).trans q6
           have x0 := (hb.cell (p := ⟨gi, j * 3, none⟩) hg5h.out).trans x0
           have x1 := (hb.cell (p := ⟨gi, j * 3 + 1, none⟩) hg5h.out).trans x1
           have x2 := (hb.cell (p := ⟨gi, j * 3 + 2, none⟩) hg5h.out).trans x2
           have v0 := (hb.cell (p := ⟨gk, j * 3, none⟩) hg6h.out).trans v0
           have v1 := (hb.cell (p := ⟨gk, j * 3 + 1, none⟩) hg6h.out).trans v1
           have v2 := (hb.cell (p := ⟨gk, j * 3 + 2, none⟩) hg6h.out).trans v2
           have hL10 := hid (hLd.out.old hb)
           obtain ⟨y0', y1', y2'⟩ := hL10.out.all3
           have hz10 := hid hbe.out.size
           clear hr hb
           go_wp2_with fail
           refine hK.out _ _ ?_ (fun hHeld => ?_)
           ·first | (with_reducible exact ⟨q0, q6, y0', y1', y2', v0, v1, v2⟩) | ((try dsimp only); with_reducible exact ⟨q0, q6, y0', y1', y2', v0, v1, v2⟩)
           refine wpAnyH_ready (rs := [11]) (by kernel_rfl) (by simp) ?_
           refine AllReadyH.cons (o := _) rfl (fun K hK => ?_) AllReadyH.nil
           go_simp
           refine hK.out _ _ ?_ (fun hHeld => ?_)
           ·first | (with_reducible exact ⟨q0, q6, y0', y1', y2', v0, v1, v2⟩) | ((try dsimp only); with_reducible exact ⟨q0, q6, y0', y1', y2', v0, v1, v2⟩)
           try simp only [Act.put, ka1, ka2, ka3, ka4, ka5, ka6]
           refine wpAnyH_ready (rs := [21]) (by kernel_rfl) (by simp) ?_
           refine AllReadyH.cons (o := _) rfl (fun K hK => ?_) AllReadyH.nil
           go_simp
           (with_reducible refine (KU.out).mono ?_)
           rintro e w11 ⟨s8, a8, n8, c8, b8, m8, d8, rfl, hr, hb⟩
           have hbf := hid (hbe.out.trans (hb.mono hbe.out.size))
           have HDe := hid (hDj.out.old hbf.out)
           have q0 := (hb.cell (p := ⟨G, i, none⟩) (Nat.lt_of_lt_of_le hGh.out hz10.out)).trans q0
           have q6 := (hb.cell (p := ⟨G, k, none⟩) (Nat.lt_of_lt_of_le hGh.out hz10.out)).trans q6
           have x0 := (hb.cell (p := ⟨gi, j * 3, none⟩) (Nat.lt_of_lt_of_le hg5h.out hz10.out)).trans x0
           have x1 := (hb.cell (p := ⟨gi, j * 3 + 1, none⟩) (Nat.lt_of_lt_of_le hg5h.out hz10.out)).trans x1
           have x2 := (hb.cell (p := ⟨gi, j * 3 + 2, none⟩) (Nat.lt_of_lt_of_le hg5h.out hz10.out)).trans x2
           have v0 := (hb.cell (p := ⟨gk, j * 3, none⟩) (Nat.lt_of_lt_of_le hg6h.out hz10.out)).trans v0
           have v1 := (hb.cell (p := ⟨gk, j * 3 + 1, none⟩) (Nat.lt_of_lt_of_le hg6h.out hz10.out)).trans v1
           have v2 := (hb.cell (p := ⟨gk, j * 3 + 2, none⟩) (Nat.lt_of_lt_of_le hg6h.out hz10.out)).trans v2
           have hL11 := hid (hL10.out.old hb)
           obtain ⟨y0', y1', y2'⟩ := hL11.out.all3
           have f0 := HDe.out.bd.free hilt HVi.out (j * 3)
           have f1 := HDe.out.bd.free hilt HVi.out (j * 3 + 1)
           have f2 := HDe.out.bd.free hilt HVi.out (j * 3 + 2)
           have HP := hid (HDe.out.put (O' := fun r => if r = i then mxL (Y.map Option.some) TT (j + 1) else dtO (mvf S k q) k i r) hilt (os := mxL (Y.map Option.some) TT j) (k := j) (if_pos rfl) (mxL_len HLY.out HLT.out (by omega)) HVi.out hjlt hr (Nat.le_trans hloW.out hz10.out) (by rw [if_pos rfl]; exact HMS.out.symm) (fun r hr' hne => by rw [if_neg hne, if_neg hne]))
           have HO6 := hid (HDe.out.bd.ro hilt HVi.out (k := j) (s := s8) (x := .slice a8 n8 c8) (y := .slice b8 m8 d8) (hOj.out.old hbf.out))
           have HL6 := hid ((hLj.out.old hbf.out).put3 (k := j) (s := s8) (x := .slice a8 n8 c8) (y := .slice b8 m8 d8) (Ne.symm hgiB.out))
           have HZ6 := hid ((hZj.out.old hbf.out).put3 (k := j) (s := s8) (x := .slice a8 n8 c8) (y := .slice b8 m8 d8) (Nat.ne_of_lt (Nat.lt_of_lt_of_le HLO.out hgi0h.out)))
           have HB6 := hid (below_set3 (k := j) (s := s8) (x := .slice a8 n8 c8) (y := .slice b8 m8 d8) (hBj.out.trans (hbf.out.mono hBs.out)) (Nat.le_of_lt (Nat.lt_of_lt_of_le HLO.out hgi0h.out)))
           have V0 := hid ((World.cell?_of_block (a := ⟨gk, j * 3, none⟩) (set3_other w11 gi j s8 (.slice a8 n8 c8) (.slice b8 m8 d8) gk hggi.out)).trans v0)
           have V1' := hid ((World.cell?_of_block (a := ⟨gk, j * 3 + 1, none⟩) (set3_other w11 gi j s8 (.slice a8 n8 c8) (.slice b8 m8 d8) gk hggi.out)).trans v1)
           have V2 := hid ((World.cell?_of_block (a := ⟨gk, j * 3 + 2, none⟩) (set3_other w11 gi j s8 (.slice a8 n8 c8) (.slice b8 m8 d8) gk hggi.out)).trans v2)
           unfold set3 at HP HO6 HL6 HZ6 HB6 V0 V1' V2
           clear hr hb
           go_wp2_with fail
           refine hK.out _ _ ?_ (fun hHeld => ?_)
           ·first | (with_reducible exact ⟨q0, q6, y0', y1', y2', v0, v1, v2⟩) | ((try dsimp only); with_reducible exact ⟨q0, q6, y0', y1', y2', v0, v1, v2⟩)
           refine tk (i := 22) (v := ?_) rfl (by kernel_rfl) (fun _ _ _ h => h) (Or.inl ⟨by rfl, ?_⟩) (by assumption) ?_
           rotate_left
           ·(intro w hSw; (try dsimp only at hSw); go_simp; try (with_reducible rfl))
           try simp only [Act.put, ka1, ka2, ka3, ka4, ka5, ka6]
           refine wpAnyH_ready (rs := [23]) (by kernel_rfl) (by simp) ?_
           refine AllReadyH.cons (o := _) rfl (fun K hK => ?_) AllReadyH.nil
           go_simp
           have qS := HP.out.bd.cell (i := i) (v := .slice (some ⟨gi, 0, none⟩) n ci) (by simp [hilt, HVi.out])
           have q6S := HP.out.bd.cell (i := k) (v := .slice (some ⟨gk, 0, none⟩) n ck) (by simp [hlt, HVk2.out])
           obtain ⟨yS0, yS1, yS2⟩ := HL6.out.all3
           refine hK.out _ _ ?_ (fun hHeld => ?_)
           ·first | (with_reducible exact ⟨qS, q6S, yS0, yS1, yS2, V0.out, V1'.out, V2.out⟩) | ((try dsimp only); exact ⟨qS, q6S, yS0, yS1, yS2, V0.out, V1'.out, V2.out⟩)
           refine wpAnyH_done (by kernel_rfl) ?_ _
           clear q0 q6 x0 x1 x2 v0 v1 v2 y0' y1' y2' f0 f1 f2 qS q6S yS0 yS1 yS2
           go_wp2
           go_roundw
           case rel => exact ⟨j + 1, by omega, by go_num, HP, HO6, HL6, HZ6, HB6⟩
           case measure => simp [intOf]; omega
         ·have hjn : j = n := by omega
          have t1 : ¬ (j : Int) < n := by omega
          have HDn := hid (hDj.out.same (O' := dtO (mvf S k q) k (i + 1)) fun r hr => by
           rw [HN1.out r hr]
           by_cases e : r = i
           ·rw [if_pos e, if_pos e, hjn, mxL_all HLY.out HLT.out]
           ·rw [if_neg e, if_neg e])
          clear hjn
          go_wp2
          go_roundw
          case rel => exact ⟨i + 1, by omega, by omega, by go_num, HDn, hZj, hBj⟩
          case measure => simp [intOf]; omega
      ·have hin : i = n := by omega
       have u5 : ¬ (i : Int) < n := by omega
       have HD9 := hid (show DD wr lo' G n cap ((List.range n).map V1) V1 (dtO (mvf S k q) k n) N s7 (.slice a7 n7 c7) (.slice b7 m7 d7) OP from hDi.out.same fun r hr => by rw [hin])
       have hS1' := HS1W.out
       have hl9 := HS1l.out
       have h09 : el ((mvf S k q)[k]'hkS) k ≠ 0 := by rw [← getD_row hkS, HS1d.out]; exact HZ0.out
       have hM9 := HD9.out.bd.rc.mw HD9.out.bd.row
       obtain ⟨M9, hM⟩ : ∃ M9, (List.range n).map (fun j => (dtO (mvf S k q) k n j).map fqo) = M9 := ⟨_, rfl⟩
       rw [hM] at hM9
       have hSm9 : Sm2 M9 := by
        rw [← hM]
        refine ⟨fun K hK => ?_, by rw [List.length_map, List.length_range]; omega⟩
        obtain ⟨r, hr, rfl⟩ := List.mem_map.1 hK
        have hr' := List.mem_range.1 hr
        exact Sm.map (dtO_fit hS1' (by omega)) (by rw [dtO_len hS1' hkS (by omega)]; omega)
       have KO9 := hid (spec_MatOk_w (c := cap) hSm9 wr hM9)
       have hzi := hid hBi.out.size
       by_cases hfo : dOk (mvf S k q) k
       ·have HRK := hid (HYes.out hfo)
        have hMf : M9 = (dfin (mvf S k q) k).map rv := by
         rw [← hM, ← range_rows (n := n) (by rw [dfin_len, hl9])]
         refine List.map_congr_left fun r hr => ?_
         have hr' := List.mem_range.1 hr
         have := dtO_yes hS1' hkS hlt h09 hfo (r := r) (by omega)
         rw [hl9] at this
         rw [this, map_fqo_some]
        have hok9 : matOk M9 = true := by rw [hMf]; exact matOk_rv (hS1'.dfin hkS hfo) (by rw [dfin_len, hl9]; exact hn40) hn40
        rw [hok9] at KO9
        have HDf := hid (show DD wr lo' G n cap ((List.range n).map V1) V1 (fun j => ((dfin (mvf S k q) k).getD j []).map Option.some) N s7 (.slice a7 n7 c7) (.slice b7 m7 d7) OP from HD9.out.same fun r hr => by
         have := dtO_yes hS1' hkS hlt h09 hfo (r := r) (by omega)
         rw [hl9] at this
         exact this.symm)
        clear hM9 hM hSm9 hMf hok9 hfo hS1' hl9 h09 hin
        go_wp2_with fail
        (with_reducible refine (KO9.out).mono ?_)
        rintro e w10 ⟨rfl, hb⟩
        have HDa := hid ((HDf.out.old hb).eqo HOP.out)
        have La := hid (hLi.out.old hb)
        have HBa := hid (hBi.out.trans (hb.mono hzi.out))
        clear hb
        go_wp2
        go_roundw
        case rel => exact ⟨k + 1, _, _, V1, s7, a7, n7, c7, b7, m7, d7, by omega, by go_num, HRK, HDa, La, HBa.out⟩
        case measure => simp [intOf]; omega
       ·have HNN := hid (HNo.out hfo)
        have hok9 : matOk M9 = false := by
         obtain ⟨r, hr, hbad⟩ := dtO_no hS1' hkS hlt h09 hfo
         rw [hl9] at hbad hr
         refine matOk_no (k := r) (by rw [← hM]; simp; exact hr) ?_
         have e1 := List.getElem_of_eq hM.symm (i := r) (by rw [← hM]; simp; exact hr)
         rw [e1, List.getElem_map, List.getElem_range, oks_map (dtO_fit hS1' (by omega))]
         exact hbad
        rw [hok9] at KO9
        clear hM9 hM hSm9 hok9 hfo hS1' hl9 h09 hin
        go_wp2_with fail
        (with_reducible refine (KO9.out).mono ?_)
        rintro e w10 ⟨rfl, hb⟩
        have HBa := hid (hBi.out.trans (hb.mono hzi.out))
        have La := hid (hLi.out.old hb)
        clear hb
        have f0 := La.out.f 0
        have f1 := La.out.f 1
        have f2 := La.out.f 2
        have p0 := La.out.c 0 rfl
        have p1 := La.out.c 1 rfl
        have p2 := La.out.c 2 rfl
        have RZ := hid (show RatO false DM w (.returned (.agg #[.bool false, .slice none 0 0, .slice none 0 0])) ((((w10).setCell ⟨w.heap.size, 0, none⟩ (.bool false)).setCell ⟨w.heap.size, 1, none⟩ (.slice none 0 0)).setCell ⟨w.heap.size, 2, none⟩ (.slice none 0 0)) from by
         rw [HNN.out]
         exact RatO_zeroS (((HBa.out.setCell (p := ⟨w.heap.size, 0, none⟩) (Nat.le_refl _) (.bool false)).setCell (p := ⟨w.heap.size, 1, none⟩) (Nat.le_refl _) (.slice none 0 0)).setCell (p := ⟨w.heap.size, 2, none⟩) (Nat.le_refl _) (.slice none 0 0)))
        go_wp2
        (try simp only [Exit.inBlock, Exit.then])
        (try rw [Exit.noGoto_ret])
        exact bodyPost_ret (v := .agg #[.bool false, .slice none 0 0, .slice none 0 0]) (by simp [results, Tryz.results51, go_sem, p0, p1, p2]) rfl RZ.out
end Go.Proofs.YthkehmnodcmlcaaGreat
