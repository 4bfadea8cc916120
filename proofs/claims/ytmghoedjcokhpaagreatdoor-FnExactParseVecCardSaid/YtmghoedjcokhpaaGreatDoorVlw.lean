/- The law ParseVec. -/
import Derived.Test.YtmghoedjcokhpaaGreatDoorVpi
import Derived.Test.YtmghoedjcokhpaaGreatDoorVps
import Derived.Deep.RegionHeld3
import Derived.Deep.DeepCutAuto
namespace Go.Proofs.YtmghoedjcokhpaaGreatDoor
open Go.RowKit
open Go.Lib (hid)
set_option linter.unusedVariables false

theorem szK_49 : ∀ {K : List Fq}, (∀ f ∈ K, f.n ≤ 49) → szK K ≤ 49 * K.length
  | [], _ => by simp [szK]
  | f :: K, h => by
    have h1 := h f (List.mem_cons_self ..)
    have h2 := szK_49 (K := K) fun g hg => h g (List.mem_cons_of_mem _ hg)
    simp only [szK, List.length_cons]
    omega
theorem pvK_sz (s : ByteArray) : szK (pvK s) ≤ 1960 := by
  unfold pvK
  split
  · simp [szK]
  · next hn =>
    split
    · next hb =>
      unfold pvB at hb
      rw [if_neg hn, Bool.and_eq_true, decide_eq_true_eq] at hb
      have h1 := szK_49 (K := (pvP s).map pfq) fun f hf => by
        obtain ⟨t, ht, rfl⟩ := List.mem_map.1 hf
        have hr := (pr_facts (List.all_eq_true.1 hb.1 t ht)).2.1
        obtain ⟨-, -, -, l1, l2, -⟩ := rok_iff.1 hr
        have l1' : (pfq t).A.length ≤ 24 := l1
        have l2' : (pfq t).D.length ≤ 24 := l2
        simp only [Fq.n]; omega
      rw [List.length_map] at h1
      omega
    · simp [szK]
set_option maxRecDepth 100000 in
set_option maxHeartbeats 25600000 in
theorem law_ParseVec (s : ByteArray) (hs : s.size ≤ maxLen) (w : World) (ml : Int) (hm : w.cell? ⟨2, 0, none⟩ = some (.int .i64 ml)) (h2 : 2 < w.heap.size) :
    Calls Tryz.prog 4 #[.string s] w (RetB (.bool true) w) := by
  unfold maxLen at hs
  have B := hid (Below.refl w.heap.size w)
  by_cases hA : 1048576 < (s.size : Int)
  · go_enter Tryz.func4, Tryz.ntmps4
    go_wp2
    go_ret
    exact ⟨rfl, Below.refl _ _⟩
  have KS := hid (fun (W : World) => spec_ParseVec s (by omega) W)
  have KI := hid (fun (W : World) (hB : Below w.heap.size w W) => impl_ParseVec s (by omega) W ml (cell_low hm h2 hB) (by have := hB.size; omega))
  obtain ⟨RR, hRR⟩ : ∃ RR, RR = pvK s := ⟨_, rfl⟩
  obtain ⟨rb, hrb⟩ : ∃ r, r = pvB s := ⟨_, rfl⟩
  have hrs : szK RR ≤ 1960 := by rw [hRR]; exact pvK_sz s
  rw [← hRR, ← hrb] at KS KI
  clear hRR hrb hm h2
  go_enter Tryz.func4, Tryz.ntmps4
  obtain ⟨w0, hw0⟩ : ∃ w0, w0 = w := ⟨_, rfl⟩
  rw [show Below w.heap.size w w = Below w.heap.size w w0 by rw [hw0]] at B
  have t0 : w.heap.size ≤ w0.heap.size := by rw [hw0]; exact Nat.le_refl _
  go_wp2_with fail
  rw [← hw0]
  clear hw0
  (with_reducible refine (KS.out _).mono ?_)
  rintro e w1 ⟨a1, n1, c1, rfl, i1, b1⟩
  have t1 : w0.heap.size ≤ w1.heap.size := b1.size
  have B := hid (B.out.trans (b1.mono B.out.size))
  have W0 := hid i1
  clear i1 b1
  go_wp2_with fail
  (with_reducible refine (KI.out _ B.out).mono ?_)
  rintro e w2 ⟨a2, n2, c2, rfl, i1, b1⟩
  have t2 : w1.heap.size ≤ w2.heap.size := b1.size
  have W0 := hid (W0.out.old b1)
  have B := hid (B.out.trans (b1.mono B.out.size))
  have G0 := hid i1
  clear i1 b1
  go_wp2_with fail
  (with_reducible refine (eqRatS_k (by omega) w2 G0.out W0.out).mono ?_)
  rintro e w3 ⟨rfl, b1⟩
  have t3 : w2.heap.size ≤ w3.heap.size := b1.size
  have W0 := hid (W0.out.old b1)
  have G0 := hid (G0.out.old b1)
  have B := hid (B.out.trans (b1.mono B.out.size))
  clear b1
  go_wp2_with fail
  (with_reducible refine (markRatS_k (m := 1) (by omega) (by omega) (by omega) w3 G0.out).mono ?_)
  rintro e w4 ⟨rfl, o1, b1⟩
  have t4 : w3.heap.size ≤ w4.heap.size := b1.size
  have G0 := hid o1
  have W0 := hid (W0.out.onlyG b1 (by omega))
  have B := hid (in_onlyG B.out b1 (by omega))
  clear o1 b1
  have hq0 : ¬ 1 + (szK RR : Int) < 0 := by omega
  go_wp2_with fail
  (with_reducible refine (heldRatS_k (m := 1) (by omega) (by omega) (by omega) w4 G0.out).mono ?_)
  rintro e w5 ⟨rfl, b1⟩
  have t5 : w4.heap.size ≤ w5.heap.size := b1.size
  have W0 := hid (W0.out.old b1)
  have G0 := hid (G0.out.old b1)
  have B := hid (B.out.trans (b1.mono B.out.size))
  clear b1
  go_wp2_with fail
  (with_reducible refine (KI.out _ B.out).mono ?_)
  rintro e w6 ⟨a6, n6, c6, rfl, i1, b1⟩
  have t6 : w5.heap.size ≤ w6.heap.size := b1.size
  have W0 := hid (W0.out.old b1)
  have G0 := hid (G0.out.old b1)
  have B := hid (B.out.trans (b1.mono B.out.size))
  have H0 := hid i1
  clear i1 b1
  go_wp2_with fail
  (with_reducible refine (eqRatS_k (by omega) w6 H0.out W0.out).mono ?_)
  rintro e w7 ⟨rfl, b1⟩
  have t7 : w6.heap.size ≤ w7.heap.size := b1.size
  have W0 := hid (W0.out.old b1)
  have G0 := hid (G0.out.old b1)
  have H0 := hid (H0.out.old b1)
  have B := hid (B.out.trans (b1.mono B.out.size))
  clear b1
  go_wp2_with fail
  (with_reducible refine (heldRatS_k (m := 1) (by omega) (by omega) (by omega) w7 G0.out).mono ?_)
  rintro e w8 ⟨rfl, b1⟩
  have t8 : w7.heap.size ≤ w8.heap.size := b1.size
  have W0 := hid (W0.out.old b1)
  have G0 := hid (G0.out.old b1)
  have H0 := hid (H0.out.old b1)
  have B := hid (B.out.trans (b1.mono B.out.size))
  clear b1
  go_wp2
  go_ret
  exact ⟨rfl, B.out⟩

end Go.Proofs.YtmghoedjcokhpaaGreatDoor
