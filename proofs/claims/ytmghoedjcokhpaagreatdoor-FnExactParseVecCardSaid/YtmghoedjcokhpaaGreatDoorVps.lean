/- Parsing of vectors: the reference. -/
import Derived.Test.YtmghoedjcokhpaaGreatDoorVpt
import Derived.Deep.RegionHeld3
import Derived.Deep.DeepCutAuto
namespace Go.Proofs.YtmghoedjcokhpaaGreatDoor
open Go.RowKit
open Go.Lib (hid)
set_option linter.unusedVariables false

set_option maxRecDepth 100000 in
set_option maxHeartbeats 6400000 in
theorem spec_ParseVec (s : ByteArray) (hs : s.size ≤ 1048576) (w : World) :
    Calls Tryz.prog 11 #[.string s] w (ParV false (pvK s) (pvB s) w) := by
  by_cases hd : s = ByteArray.mk #[45]
  · obtain ⟨e1, e2⟩ := pv_dash hd
    rw [e1, e2]
    have R := hid (show ParV false [] true w (.returned (.tuple #[.slice (some ⟨w.heap.size, 0, none⟩) 0 0, .bool true])) (w.alloc (.cells #[] 40)) from ⟨_, _, _, rfl, (VK_lit0 false (w := w) (lo := w.heap.size) (Nat.le_refl _)).wide (Nat.le_refl _) (by simp), below_new'⟩)
    subst hd
    clear e1 e2
    go_enter Tryz.func11, Tryz.ntmps11
    go_wp2
    (try simp only [Exit.inBlock, Exit.then])
    refine bodyPost_ret (results_tmp2 rfl _ _ _) rfl ?_
    exact R.out
  have d1 : (s.toList == [45]) = false := beq_eq_false_iff_ne.2 (fun e => toList_ne hd (e.trans (by rw [ByteArray.toList_eq])))
  obtain ⟨P, b, K, hP, hb, hK, n1, n2, f0, f1, f2, f3, f4, f5, f6, f7⟩ := pv_all s hs hd
  rw [hb, hK]
  have KC := hid (fun (V : World) => show Calls Tryz.prog 40 #[.string s, .string (ByteArray.mk #[32])] V (fun e w' => ∃ v, e = .returned v ∧ Strs w' 9 V.heap.size v P ∧ Below V.heap.size V w') from hP ▸ spec_SplitAny s (ByteArray.mk #[32]) hs (by decide) V)
  have F0 := hid f0
  have F1 := hid f1
  have F2 := hid f2
  have F3 := hid f3
  have F4 := hid f4
  have F5 := hid f5
  have F6 := hid f6
  have F7 := hid f7
  clear hP hb hK hd f0 f1 f2 f3 f4 f5 f6 f7
  have V0 := hid (VK_lit0 false (w := w) (lo := w.heap.size) (Nat.le_refl _))
  have B0 := hid (show Below w.heap.size w (w.alloc (.cells #[] 40)) from below_new')
  have S0 := hid (show (w.alloc (.cells #[] 40)).heap.size = w.heap.size + 1 by simp)
  go_enter Tryz.func11, Tryz.ntmps11
  go_wp2_with fail
  generalize w.alloc (.cells #[] 40) = W0 at V0 B0 S0 ⊢
  (with_reducible refine (KC.out _).mono ?_)
  rintro e w1 ⟨v0, rfl, st, b1⟩
  have HB1 := hid (B0.out.trans (b1.mono B0.out.size))
  have V1 := hid (V0.out.old b1)
  have z1 : W0.heap.size ≤ w1.heap.size := b1.size
  have z0 := S0.out
  rcases Strs_cases st with ⟨-, h0⟩ | ⟨g, cap, rfl, g1, g2, g3⟩
  · rw [h0] at n1; exact absurd n1 (by decide)
  have ST := hid st
  clear st b1
  go_wp2
  go_loopw [4, 16] (fun v i wr => ∃ (k : Nat) (a' : Option Addr) (c' : Nat), k ≤ P.length ∧ i = .int .i64 k ∧ v = .slice a' k c' ∧ Hid (VK false wr (.slice a' k c') ((P.take k).map pfq) w.heap.size wr.heap.size) ∧ Hid (Below w.heap.size w wr) ∧ Hid (∀ j (hj : j < P.length), j < k → prB P[j] = true) ∧ Hid (Strs wr 9 w.heap.size (.slice (some ⟨g, 0, none⟩) P.length cap) P)) (fun _ i _ => P.length - (intOf i).toNat)
  case atStart => exact ⟨0, _, 0, Nat.zero_le _, rfl, rfl, hid (V1.out.wide (Nat.le_refl _) (by omega)), HB1, hid (fun j hj h => absurd h (by omega)), hid (Strs_base ST.out (by omega))⟩
  case round =>
    obtain ⟨k, a', c', hk, rfl, rfl, hV, hB, hA, hS⟩ := hrel
    by_cases hlt : k < P.length
    · have zz := hB.out.size
      have c0 := Strs_cell hS.out hlt
      have HT := hid (F4.out k hlt)
      have HN := hid (F1.out k hlt)
      have ht := F0.out k hlt
      have HAk := hid (fun (h : prB P[k] = true) (j : Nat) (hj : j < P.length) (h' : j < k + 1) => (show prB P[j] = true by
        by_cases e : j = k
        · subst e; exact h
        · exact hA.out j hj (by omega)))
      generalize P[k] = t at c0 HT HN HAk ht
      have PF := hid (fun (h : prB t = true) => (pr_facts h).2.1)
      have KP := hid (spec_ParseRat t ht wr)
      obtain ⟨sg, hsg⟩ : ∃ x, x = prS t := ⟨_, rfl⟩
      obtain ⟨A, hA1⟩ : ∃ x, x = prA t := ⟨_, rfl⟩
      obtain ⟨D, hD1⟩ : ∃ x, x = prE t := ⟨_, rfl⟩
      obtain ⟨bb, hbb⟩ : ∃ x, x = prB t := ⟨_, rfl⟩
      rw [← hsg, ← hA1, ← hD1] at KP HT PF
      rw [← hbb] at KP HT PF HN HAk
      clear hsg hA1 hD1 hbb
      have a1' : (0 : Int) ≤ k := by omega
      have a2 : (k : Int) < P.length := by omega
      go_wp2_with fail
      (with_reducible refine (KP.out).mono ?_)
      clear c0
      rintro e w2 ⟨x, y, rfl, ro, b2⟩
      have zz2 : wr.heap.size ≤ w2.heap.size := b2.size
      have HB2 := hid (hB.out.trans (b2.mono hB.out.size))
      cases bb with
      | false =>
        obtain ⟨rfl, rfl⟩ := HN.out rfl
        obtain ⟨a3, c3, b3, d3, rfl, rfl⟩ := ro.form
        clear ro b2
        go_wp2
        (try simp only [Exit.inBlock, Exit.then])
        refine bodyPost_ret (results_tmp2 rfl _ _ _) rfl ?_
        exact ⟨_, _, _, rfl, VK_nil _ _ _ _, HB2.out.alloc (Nat.le_trans zz zz2) _⟩
      | true =>
        have hro := PF.out rfl
        have HA2 := hid (HAk.out rfl)
        have R2 := hid (RO_parsed false ro hro)
        obtain ⟨a3, c3, b3, d3, rfl, rfl⟩ := ro.form
        obtain ⟨Ks, hKs⟩ : ∃ Ks, Ks = (P.take k).map pfq := ⟨_, rfl⟩
        have hln := hid (show Ks.length = k by rw [hKs, List.length_map, List.length_take]; omega)
        have HT2 := hid (HT.out rfl)
        rw [← hKs] at hV HT2
        clear hKs
        generalize rval sg A D = oo at R2 HT2
        have V2 := hid (hV.out.old b2)
        have S2 := hid (Strs_old hS.out b2)
        clear ro b2 hro
        have V3 := hid (V2.out.old (below_new' (o := .cells #[.bool sg, .slice a3 A.length c3, .slice b3 D.length d3] 40)))
        have R3 := hid (R2.out.old (below_new' (o := .cells #[.bool sg, .slice a3 A.length c3, .slice b3 D.length d3] 40)))
        have S3 := hid (Strs_old S2.out (below_new' (o := .cells #[.bool sg, .slice a3 A.length c3, .slice b3 D.length d3] 40)))
        have HB3 := hid (HB2.out.alloc (Nat.le_trans zz zz2) (.cells #[.bool sg, .slice a3 A.length c3, .slice b3 D.length d3] 40))
        have L3 := hid (LocA.new (w := w2) (T := 40) (cs := #[.bool sg, .slice a3 A.length c3, .slice b3 D.length d3]))
        have s3 : (w2.alloc (.cells #[.bool sg, .slice a3 A.length c3, .slice b3 D.length d3] 40)).heap.size = w2.heap.size + 1 := by simp
        have x0 := L3.out.c 0 (v := .bool sg) rfl
        have x1 := L3.out.c 1 (v := .slice a3 A.length c3) rfl
        have x2 := L3.out.c 2 (v := .slice b3 D.length d3) rfl
        have PV := hid (V3.out.old (below_new' (o := .cells #[.bool sg, .slice a3 A.length c3, .slice b3 D.length d3] 40)))
        have PR := hid (R3.out.old (below_new' (o := .cells #[.bool sg, .slice a3 A.length c3, .slice b3 D.length d3] 40)))
        have PS := hid (Strs_old S3.out (below_new' (o := .cells #[.bool sg, .slice a3 A.length c3, .slice b3 D.length d3] 40)))
        have HB4 := hid (HB3.out.alloc (by omega) (.cells #[.bool sg, .slice a3 A.length c3, .slice b3 D.length d3] 40))
        have PB := hid (show ((w2.alloc (.cells #[.bool sg, .slice a3 A.length c3, .slice b3 D.length d3] 40)).alloc (.cells #[.bool sg, .slice a3 A.length c3, .slice b3 D.length d3] 40)).heap[w2.heap.size + 1]? = some (.cells #[.bool sg, .slice a3 A.length c3, .slice b3 D.length d3] 40) by have := heap_alloc_new (w2.alloc (.cells #[.bool sg, .slice a3 A.length c3, .slice b3 D.length d3] 40)) (.cells #[.bool sg, .slice a3 A.length c3, .slice b3 D.length d3] 40); rwa [s3] at this)
        have hlp := hln.out
        go_wp2_with (at_builtin; refine wpList_pushK rfl _ _ rfl rfl PV.out (by omega) (by omega) PR.out rfl PB.out (by omega) (by simp; omega) ?_)
        intro gp cp wp hvp hbp hcp
        have HB5 := hid (HB4.out.trans hbp)
        have HV5 := hid hvp
        have HS5 := hid (hcp PS.out)
        clear hvp hbp hcp x0 x1 x2
        go_wp2
        go_roundw
        case rel => exact ⟨k + 1, some ⟨gp, 0, none⟩, cp, by omega, by go_num, by first | rfl | rw [hln.out], hid (by
          have h1 := HV5.out
          rw [HT2.out] at h1
          first | exact h1 | (rw [hln.out] at h1; exact h1)), HB5, HA2, HS5⟩
        case measure => simp [intOf]; omega
    · obtain rfl : k = P.length := by omega
      have HA := hid (fun j (hj : j < P.length) => hA.out j hj hj)
      have h1 := hV.out
      rw [List.take_of_length_le (Nat.le_refl _)] at h1
      have HV := hid h1
      clear h1
      have hfm := F6.out HA.out
      have KF := hid (spec_FormatVec (F5.out HA.out) wr HV.out)
      by_cases h40 : P.length ≤ 40
      · obtain ⟨rfl, rfl⟩ := F3.out h40 HA.out
        rw [if_pos h40] at hfm
        rw [hfm] at KF
        clear hfm h40
        go_wp2_with fail
        (with_reducible refine (KF.out).mono ?_)
        rintro e w2 ⟨rfl, b2⟩
        have HB2 := hid (hB.out.trans (b2.mono hB.out.size))
        have HV2 := hid (HV.out.old b2)
        have zz2 := b2.size
        clear b2
        go_wp2
        (try simp only [Exit.inBlock, Exit.then])
        refine bodyPost_ret (results_tmp2 rfl _ _ _) rfl ?_
        exact ⟨_, _, _, rfl, HV2.out.wide (Nat.le_refl _) zz2, HB2.out⟩
      · obtain ⟨rfl, rfl⟩ := F2.out h40
        rw [if_neg h40] at hfm
        rw [hfm] at KF
        have d2 := toList_no (fun e => F7.out h40 e.symm)
        have d3 : s.toList.isEmpty = false := by
          cases h : s.toList with
          | nil => exact absurd h d2
          | cons _ _ => rfl
        clear hfm h40
        go_wp2_with fail
        (with_reducible refine (KF.out).mono ?_)
        rintro e w2 ⟨rfl, b2⟩
        have HB2 := hid (hB.out.trans (b2.mono hB.out.size))
        clear b2
        go_wp2
        (try simp only [Exit.inBlock, Exit.then])
        refine bodyPost_ret (results_tmp2 rfl _ _ _) rfl ?_
        exact ⟨_, _, _, rfl, VK_nil _ _ _ _, HB2.out⟩
end Go.Proofs.YtmghoedjcokhpaaGreatDoor
