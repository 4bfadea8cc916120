/- Parsing of vectors: the program. -/
import Derived.Test.YtmghoedjcokhpaaGreatDoorVpt
import Derived.Deep.RegionHeld3
import Derived.Deep.DeepCutAuto
namespace Go.Proofs.YtmghoedjcokhpaaGreatDoor
open Go.RowKit
open Go.Lib (hid)
set_option linter.unusedVariables false

set_option maxRecDepth 100000 in
set_option maxHeartbeats 6400000 in
theorem impl_ParseVec (s : ByteArray) (hs : s.size ≤ 1048576) (w : World) (ml : Int) (hm : w.cell? ⟨2, 0, none⟩ = some (.int .i64 ml)) (h2 : 2 < w.heap.size) :
    Calls Tryz.prog 12 #[.string s] w (ParV true (pvK s) (pvB s) w) := by
  by_cases hd : s = ByteArray.mk #[45]
  · obtain ⟨e1, e2⟩ := pv_dash hd
    rw [e1, e2]
    have R := hid (show ParV true [] true w (.returned (.tuple #[.slice none 0 0, .bool true])) w from ⟨_, _, _, rfl, VK_nil _ _ _ _, Below.refl _ _⟩)
    subst hd
    clear e1 e2
    go_enter Tryz.func12, Tryz.ntmps12
    go_wp2
    (try simp only [Exit.inBlock, Exit.then])
    refine bodyPost_ret (results_tmp2 rfl _ _ _) rfl ?_
    exact R.out
  have d1 : (s.toList == [45]) = false := beq_eq_false_iff_ne.2 (fun e => toList_ne hd (e.trans (by rw [ByteArray.toList_eq])))
  obtain ⟨P, b, K, hP, hb, hK, n1, n2, f0, f1, f2, f3, f4, f5, f6, f7⟩ := pv_all s hs hd
  rw [hb, hK]
  have KC := hid (fun (V : World) => show Calls Tryz.prog 42 #[.string s, .string (ByteArray.mk #[32])] V (fun e w' => ∃ v, e = .returned v ∧ Strs w' 9 V.heap.size v P ∧ Below V.heap.size V w') from hP ▸ impl_SplitAny s (ByteArray.mk #[32]) hs (by decide) V)
  have F0 := hid f0
  have F1 := hid f1
  have F2 := hid f2
  have F3 := hid f3
  have F4 := hid f4
  have F5 := hid f5
  have F6 := hid f6
  have F7 := hid f7
  clear hP hb hK hd f0 f1 f2 f3 f4 f5 f6 f7
  go_enter Tryz.func12, Tryz.ntmps12
  go_wp2_with fail
  (with_reducible refine (KC.out _).mono ?_)
  rintro e w1 ⟨v0, rfl, st, b1⟩
  have HB1 := hid b1
  rcases Strs_cases st with ⟨-, h0⟩ | ⟨g, cap, rfl, g1, g2, g3⟩
  · rw [h0] at n1; exact absurd n1 (by decide)
  have ST := hid st
  clear st b1
  by_cases h40 : P.length ≤ 40
  case neg =>
    obtain ⟨rfl, rfl⟩ := F2.out h40
    have d40 : decide ((40 : Int) < (P.length : Int)) = true := decide_eq_true (by omega)
    clear h40
    go_wp2
    (try simp only [Exit.inBlock, Exit.then])
    refine bodyPost_ret (results_tmp2 rfl _ _ _) rfl ?_
    exact ⟨_, _, _, rfl, VK_nil _ _ _ _, HB1.out⟩
  have d40 : decide ((40 : Int) < (P.length : Int)) = false := decide_eq_false (by omega)
  have H40 := hid h40
  clear h40
  have CM := hid (cell_low hm h2 HB1.out)
  have h3 : 2 < w1.heap.size := by have := HB1.out.size; omega
  clear hm
  go_wp2
  go_loopw [5, 19] (fun v i wr => ∃ (k : Nat) (a' : Option Addr) (c' : Nat), k ≤ P.length ∧ i = .int .i64 k ∧ v = .slice a' k c' ∧ Hid (VK true wr (.slice a' k c') ((P.take k).map pfq) w1.heap.size wr.heap.size) ∧ Hid (Below w1.heap.size w1 wr) ∧ Hid (∀ j (hj : j < P.length), j < k → prB P[j] = true) ∧ Hid (Strs wr 9 w.heap.size (.slice (some ⟨g, 0, none⟩) P.length cap) P)) (fun _ i _ => P.length - (intOf i).toNat)
  case atStart => exact ⟨0, _, 0, Nat.zero_le _, rfl, rfl, hid (VK_nil _ _ _ _), hid (Below.refl _ _), hid (fun j hj h => absurd h (by omega)), ST⟩
  case round =>
    obtain ⟨k, a', c', hk, rfl, rfl, hV, hB, hA, hS⟩ := hrel
    by_cases hlt : k < P.length
    · have zz := hB.out.size
      have c0 := Strs_cell hS.out hlt
      have HT := hid (F4.out k hlt)
      have HN := hid (F1.out k hlt)
      have ht := F0.out k hlt
      have HAk := hid (fun (h : prB P[k] = true) (j : Nat) (hj : j < P.length) (h' : j < k + 1) => (show prB P[j] = true by
        by_cases e : j = k
        · subst e; exact h
        · exact hA.out j hj (by omega)))
      generalize P[k] = t at c0 HT HN HAk ht
      have PF := hid (fun (h : prB t = true) => (pr_facts h).2.1)
      have KP := hid (impl_ParseRat t ht wr ml (cell_low CM.out h3 hB.out) (by omega))
      obtain ⟨sg, hsg⟩ : ∃ x, x = prS t := ⟨_, rfl⟩
      obtain ⟨A, hA1⟩ : ∃ x, x = prA t := ⟨_, rfl⟩
      obtain ⟨D, hD1⟩ : ∃ x, x = prE t := ⟨_, rfl⟩
      obtain ⟨bb, hbb⟩ : ∃ x, x = prB t := ⟨_, rfl⟩
      rw [← hsg, ← hA1, ← hD1] at KP HT PF
      rw [← hbb] at KP HT PF HN HAk
      clear hsg hA1 hD1 hbb
      have a1' : (0 : Int) ≤ k := by omega
      have a2 : (k : Int) < P.length := by omega
      go_wp2_with fail
      (with_reducible refine (KP.out).mono ?_)
      clear c0
      rintro e w2 ⟨x, y, rfl, ro, b2⟩
      have zz2 : wr.heap.size ≤ w2.heap.size := b2.size
      have HB2 := hid (hB.out.trans (b2.mono hB.out.size))
      cases bb with
      | false =>
        obtain ⟨rfl, rfl⟩ := HN.out rfl
        obtain ⟨a3, c3, b3, d3, rfl, rfl⟩ := ro.form
        clear ro b2
        go_wp2
        (try simp only [Exit.inBlock, Exit.then])
        refine bodyPost_ret (results_tmp2 rfl _ _ _) rfl ?_
        exact ⟨_, _, _, rfl, VK_nil _ _ _ _, (HB1.out.trans (HB2.out.mono HB1.out.size)).alloc (Nat.le_trans HB1.out.size (Nat.le_trans zz zz2)) _⟩
      | true =>
        have hro := PF.out rfl
        have HA2 := hid (HAk.out rfl)
        have R2 := hid (RO_parsed true ro hro)
        obtain ⟨a3, c3, b3, d3, rfl, rfl⟩ := ro.form
        obtain ⟨Ks, hKs⟩ : ∃ Ks, Ks = (P.take k).map pfq := ⟨_, rfl⟩
        have hln := hid (show Ks.length = k by rw [hKs, List.length_map, List.length_take]; omega)
        have HT2 := hid (HT.out rfl)
        rw [← hKs] at hV HT2
        clear hKs
        generalize rval sg A D = oo at R2 HT2
        have V2 := hid (hV.out.old b2)
        have S2 := hid (Strs_old hS.out b2)
        clear ro b2 hro
        have V3 := hid (V2.out.old (below_new' (o := .cells #[.bool sg, .slice a3 A.length c3, .slice b3 D.length d3] 40)))
        have R3 := hid (R2.out.old (below_new' (o := .cells #[.bool sg, .slice a3 A.length c3, .slice b3 D.length d3] 40)))
        have S3 := hid (Strs_old S2.out (below_new' (o := .cells #[.bool sg, .slice a3 A.length c3, .slice b3 D.length d3] 40)))
        have HB3 := hid (HB2.out.alloc (Nat.le_trans zz zz2) (.cells #[.bool sg, .slice a3 A.length c3, .slice b3 D.length d3] 40))
        have L3 := hid (LocA.new (w := w2) (T := 40) (cs := #[.bool sg, .slice a3 A.length c3, .slice b3 D.length d3]))
        have s3 : (w2.alloc (.cells #[.bool sg, .slice a3 A.length c3, .slice b3 D.length d3] 40)).heap.size = w2.heap.size + 1 := by simp
        have x0 := L3.out.c 0 (v := .bool sg) rfl
        have x1 := L3.out.c 1 (v := .slice a3 A.length c3) rfl
        have x2 := L3.out.c 2 (v := .slice b3 D.length d3) rfl
        have PV := hid (V3.out.old (below_new' (o := .cells #[.bool sg, .slice a3 A.length c3, .slice b3 D.length d3] 40)))
        have PR := hid (R3.out.old (below_new' (o := .cells #[.bool sg, .slice a3 A.length c3, .slice b3 D.length d3] 40)))
        have PS := hid (Strs_old S3.out (below_new' (o := .cells #[.bool sg, .slice a3 A.length c3, .slice b3 D.length d3] 40)))
        have HB4 := hid (HB3.out.alloc (by omega) (.cells #[.bool sg, .slice a3 A.length c3, .slice b3 D.length d3] 40))
        have PB := hid (show ((w2.alloc (.cells #[.bool sg, .slice a3 A.length c3, .slice b3 D.length d3] 40)).alloc (.cells #[.bool sg, .slice a3 A.length c3, .slice b3 D.length d3] 40)).heap[w2.heap.size + 1]? = some (.cells #[.bool sg, .slice a3 A.length c3, .slice b3 D.length d3] 40) by have := heap_alloc_new (w2.alloc (.cells #[.bool sg, .slice a3 A.length c3, .slice b3 D.length d3] 40)) (.cells #[.bool sg, .slice a3 A.length c3, .slice b3 D.length d3] 40); rwa [s3] at this)
        have hlp := hln.out
        go_wp2_with (at_builtin; refine wpList_pushK rfl _ _ rfl rfl PV.out (by omega) (by omega) PR.out rfl PB.out (by omega) (by simp; omega) ?_)
        intro gp cp wp hvp hbp hcp
        have HB5 := hid (HB4.out.trans hbp)
        have HV5 := hid hvp
        have HS5 := hid (hcp PS.out)
        clear hvp hbp hcp x0 x1 x2
        go_wp2
        go_roundw
        case rel => exact ⟨k + 1, some ⟨gp, 0, none⟩, cp, by omega, by go_num, by first | rfl | rw [hln.out], hid (by
          have h1 := HV5.out
          rw [HT2.out] at h1
          first | exact h1 | (rw [hln.out] at h1; exact h1)), HB5, HA2, HS5⟩
        case measure => simp [intOf]; omega
    · obtain rfl : k = P.length := by omega
      have HA := hid (fun j (hj : j < P.length) => hA.out j hj hj)
      have h1 := hV.out
      rw [List.take_of_length_le (Nat.le_refl _)] at h1
      have HV := hid h1
      clear h1
      obtain ⟨rfl, rfl⟩ := F3.out H40.out HA.out
      go_wp2
      (try simp only [Exit.inBlock, Exit.then])
      refine bodyPost_ret (results_tmp2 rfl _ _ _) rfl ?_
      exact ⟨_, _, _, rfl, HV.out.wide HB1.out.size (Nat.le_refl _), HB1.out.trans (hB.out.mono HB1.out.size)⟩
end Go.Proofs.YtmghoedjcokhpaaGreatDoor
