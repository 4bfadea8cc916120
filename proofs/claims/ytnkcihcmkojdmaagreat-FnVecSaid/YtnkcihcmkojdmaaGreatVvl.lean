/- The law FnVec. -/
import Derived.Test.YtnkcihcmkojdmaaGreatVfv
import Derived.Test.YtnkcihcmkojdmaaGreatVdt
import Derived.Test.YtnkcihcmkojdmaaGreatVx
import Derived.Test.YtnkcihcmkojdmaaGreatVw
import Derived.Deep.RegionHeld3
import Derived.Deep.DeepCutAuto
namespace Go.Proofs.YtnkcihcmkojdmaaGreat
open Go.RowKit
open Go.Lib (hid)
set_option linter.unusedVariables false

set_option maxRecDepth 100000 in
set_option maxHeartbeats 25600000 in
theorem law_FnVec (a : Option Addr) (n c : Nat) (Z : List Int) (hm : n ≤ maxLen) (w : World) (hr : ByteRow w a n Z) :
    Calls Tryz.prog 3 #[.slice a n c] w (RetB (.bool true) w) := by
  have hZn : Z.length = n := hr.1.symm
  unfold maxLen at hm
  by_cases hA : 1048576 < (n : Int)
  · have B := hid (Below.refl w.heap.size w)
    go_enter Tryz.func3, Tryz.ntmps3
    go_wp2
    go_ret
    exact ⟨rfl, Below.refl _ _⟩
  have hZ : Z.length ≤ 1048576 := by omega
  have KN := hid (MakeNum_any a n c Z 5 hZ w hr (by decide) (by decide))
  have hy := numOf_le Z (m := 5) (by decide)
  obtain ⟨m, hmm⟩ : ∃ m : Nat, numOf Z 5 = (m : Int) := ⟨(numOf Z 5).toNat, by omega⟩
  rw [hmm] at KN hy
  have h4 : m ≤ 4 := by omega
  have KV := hid (fun (W : World) (t : Int) (h : ByteRow W a n Z) (t0 : 0 ≤ t) (t1 : t ≤ 1000) => MakeVec_any m (by omega) a n c Z t hZ W h t0 t1)
  have KF := hid (fun (W : World) (h : ByteRow W a n Z) => MakeFew_any a n c Z 3 hZ W h (by decide) (by decide))
  have RW := hid hr
  clear hr hZn hmm hy
  go_enter Tryz.func3, Tryz.ntmps3
  go_wp2_with fail
  (with_reducible refine (KN.out).mono ?_)
  rintro e w1 ⟨rfl, b1⟩
  have RW := hid (ByteRow_below RW.out b1)
  have B := hid b1
  clear b1
  go_wp2_with fail
  (with_reducible refine (KV.out _ 1 RW.out (by decide) (by decide)).mono ?_)
  rintro e w2 ⟨K, a2, c2, hk, fk, rfl, vk, b2⟩
  have RW := hid (ByteRow_below RW.out b2)
  have B := hid (B.out.trans (b2.mono B.out.size))
  have VKK := hid vk
  clear vk b2
  go_wp2_with fail
  (with_reducible refine (KV.out _ 2 RW.out (by decide) (by decide)).mono ?_)
  rintro e w3 ⟨L, a3, c3, hl, fl, rfl, vl, b3⟩
  have RW := hid (ByteRow_below RW.out b3)
  have B := hid (B.out.trans (b3.mono B.out.size))
  have VKK := hid (VKK.out.old b3)
  have VLL := hid vl
  clear vl b3
  go_wp2_with fail
  (with_reducible refine (KF.out _ RW.out).mono ?_)
  rintro e w4 ⟨q, v4, u4, hq, rfl, i1, i2, b4'⟩
  have B := hid (B.out.trans (b4'.mono B.out.size))
  have VKK := hid (VKK.out.old b4')
  have VLL := hid (VLL.out.old b4')
  have Q4 := hid (RO_few hq i1 i2).ra
  obtain ⟨S, KQ, LQ, SQ, ZK, d1, d2, d, E1, E2, E3, E4, E5, E6, E7, E8, E9, E10, E11, E12, E13, sm1, sm2, sm3, sm4, sm5, sm6, sm7⟩ := vec_laws fk fl hk hl h4 hq
  have AR := hid (fun h0 : 0 < m => arg_few fk hk h0 h4)
  obtain ⟨a4, c4, rfl, -⟩ := Ints_form i1
  obtain ⟨b4, d4, rfl, -⟩ := Ints_form i2
  obtain ⟨gs, hgs⟩ : ∃ g, g = gzs q.num := ⟨_, rfl⟩
  obtain ⟨n4, hn4⟩ : ∃ g, g = (gzl q.num).length := ⟨_, rfl⟩
  obtain ⟨m4, hm4⟩ : ∃ g, g = (gzl (q.den : Int)).length := ⟨_, rfl⟩
  rw [← hgs, ← hn4, ← hm4] at Q4
  rw [← hgs, ← hn4, ← hm4]
  clear hgs hn4 hm4 i1 i2 b4' RW KN KV KF
  have B := hid (B.out.alloc B.out.size (.cells #[.bool gs, .slice a4 n4 c4, .slice b4 m4 d4] 30))
  have VKK := hid (VKK.out.old (below_new' (o := .cells #[.bool gs, .slice a4 n4 c4, .slice b4 m4 d4] 30)))
  have VLL := hid (VLL.out.old (below_new' (o := .cells #[.bool gs, .slice a4 n4 c4, .slice b4 m4 d4] 30)))
  have Q4 := hid (Q4.out.old (below_new' (o := .cells #[.bool gs, .slice a4 n4 c4, .slice b4 m4 d4] 30)))
  have L4 := hid (LocA.new (w := w4) (T := 30) (cs := #[.bool gs, .slice a4 n4 c4, .slice b4 m4 d4]))
  have KA := hid (fun (W : World) (h : VK false W (.slice a2 m c2) K w1.heap.size w2.heap.size) (h' : VK false W (.slice a3 m c3) L w2.heap.size w3.heap.size) => E1 ▸ impl_VecAdd sm6 sm7 W h h')
  have KD1 := hid (fun (W : World) (h : VK false W (.slice a2 m c2) K w1.heap.size w2.heap.size) => E8 ▸ impl_VecDot sm6 sm6 W h h)
  have KD2 := hid (fun (W : World) (h : VK false W (.slice a2 m c2) K w1.heap.size w2.heap.size) (h' : VK false W (.slice a3 m c3) L w2.heap.size w3.heap.size) => E9 ▸ impl_VecDot sm7 sm6 W h' h)
  have KAM := hid (fun (W : World) (h : VK false W (.slice a2 m c2) K w1.heap.size w2.heap.size) => impl_VecArgMin sm6 W h)
  go_wp2_with fail
  (with_reducible refine (KA.out _ VKK.out VLL.out).mono ?_)
  rintro e w5 ⟨a5, n5, c5, rfl, vs, b5⟩
  have B := hid (B.out.trans (b5.mono B.out.size))
  have VKK := hid (VKK.out.old b5)
  have VLL := hid (VLL.out.old b5)
  have Q4 := hid (Q4.out.old b5)
  have L4 := hid (L4.out.old b5)
  have VS := hid vs
  clear vs b5
  go_wp2_with fail
  (with_reducible refine (KD1.out _ VKK.out).mono ?_)
  rintro e w6 ⟨s6, a6, n6, c6, b6, m6, d6, rfl, h6, b6'⟩
  have B := hid (B.out.trans (b6'.mono B.out.size))
  have VKK := hid (VKK.out.old b6')
  have VLL := hid (VLL.out.old b6')
  have VS := hid (VS.out.old b6')
  have Q4 := hid (Q4.out.old b6')
  have L4 := hid (L4.out.old b6')
  have R6 := hid h6.ra
  clear h6 b6'
  go_wp2_with fail
  (with_reducible refine (KD2.out _ VKK.out VLL.out).mono ?_)
  rintro e w7 ⟨s7, a7, n7, c7, b7, m7, d7, rfl, h7, b7'⟩
  have B := hid (B.out.trans (b7'.mono B.out.size))
  have VKK := hid (VKK.out.old b7')
  have VLL := hid (VLL.out.old b7')
  have VS := hid (VS.out.old b7')
  have Q4 := hid (Q4.out.old b7')
  have L4 := hid (L4.out.old b7')
  have R6 := hid (R6.out.old b7')
  have R7 := hid h7.ra
  clear h7 b7'
  go_wp2_with fail
  (with_reducible refine (add_o R6.out R7.out).mono ?_)
  rintro e w8 ⟨s8, a8, n8, c8, b8, m8, d8, rfl, h8, b8'⟩
  rw [E10] at h8
  have B := hid ((B.out.trans (b8'.mono B.out.size)).alloc (Nat.le_trans B.out.size b8'.size) (.cells #[.bool s8, .slice a8 n8 c8, .slice b8 m8 d8] 30))
  have VKK := hid ((VKK.out.old b8').old (below_new' (o := .cells #[.bool s8, .slice a8 n8 c8, .slice b8 m8 d8] 30)))
  have VLL := hid ((VLL.out.old b8').old (below_new' (o := .cells #[.bool s8, .slice a8 n8 c8, .slice b8 m8 d8] 30)))
  have VS := hid ((VS.out.old b8').old (below_new' (o := .cells #[.bool s8, .slice a8 n8 c8, .slice b8 m8 d8] 30)))
  have Q4 := hid ((Q4.out.old b8').old (below_new' (o := .cells #[.bool s8, .slice a8 n8 c8, .slice b8 m8 d8] 30)))
  have L4 := hid ((L4.out.old b8').new1 (o := .cells #[.bool s8, .slice a8 n8 c8, .slice b8 m8 d8] 30))
  have R8 := hid (h8.ra.old (below_new' (o := .cells #[.bool s8, .slice a8 n8 c8, .slice b8 m8 d8] 30)))
  have L8 := hid (LocA.new (w := w8) (T := 30) (cs := #[.bool s8, .slice a8 n8 c8, .slice b8 m8 d8]))
  clear h8 b8' R6 R7
  go_wp2_with fail
  (with_reducible refine (KAM.out _ VKK.out).mono ?_)
  rintro e w9 ⟨rfl, b9⟩
  have B := hid (B.out.trans (b9.mono B.out.size))
  have VKK := hid (VKK.out.old b9)
  have VLL := hid (VLL.out.old b9)
  have VS := hid (VS.out.old b9)
  have Q4 := hid (Q4.out.old b9)
  have L4 := hid (L4.out.old b9)
  have R8 := hid (R8.out.old b9)
  have L8 := hid (L8.out.old b9)
  clear b9
  obtain ⟨W0, hW0⟩ : ∃ W0, W0 = w9 := ⟨_, rfl⟩
  have KOK := hid (fun (W : World) (hb : Below w9.heap.size w9 W) => (by have h := impl_VecOk sm1 W (VS.out.old hb); rw [E2] at h; exact h : Calls Tryz.prog 15 #[.slice a5 n5 c5] W (RetB (.bool true) W)))
  have KSU := hid (fun (W : World) (hb : Below w9.heap.size w9 W) => (by have h := impl_VecSub sm1 sm7 W (VS.out.old hb) (VLL.out.old hb); rw [E3] at h; exact h : Calls Tryz.prog 17 #[.slice a5 n5 c5, .slice a3 m c3] W (VecR true K W)))
  have KEK := hid (fun (W : World) (hb : Below w9.heap.size w9 W) (x : Option Addr) (y z l h : Nat) (hv : VK true W (.slice x y z) K l h) => (by have h := impl_VecEqual sm6 sm6 W hv (VKK.out.old hb); rw [eqV_refl] at h; exact h : Calls Tryz.prog 16 #[.slice x y z, .slice a2 m c2] W (RetB (.bool true) W)))
  have KSS := hid (fun (W : World) (hb : Below w9.heap.size w9 W) => (by have h := impl_VecScale sm1 W (VS.out.old hb) (Q4.out.old hb); rw [E4] at h; exact h : Calls Tryz.prog 18 #[.slice a5 n5 c5, .agg #[.bool gs, .slice a4 n4 c4, .slice b4 m4 d4]] W (VecR true SQ W)))
  have KSK := hid (fun (W : World) (hb : Below w9.heap.size w9 W) => (by have h := impl_VecScale sm6 W (VKK.out.old hb) (Q4.out.old hb); rw [E5] at h; exact h : Calls Tryz.prog 18 #[.slice a2 m c2, .agg #[.bool gs, .slice a4 n4 c4, .slice b4 m4 d4]] W (VecR true KQ W)))
  have KSL := hid (fun (W : World) (hb : Below w9.heap.size w9 W) => (by have h := impl_VecScale sm7 W (VLL.out.old hb) (Q4.out.old hb); rw [E6] at h; exact h : Calls Tryz.prog 18 #[.slice a3 m c3, .agg #[.bool gs, .slice a4 n4 c4, .slice b4 m4 d4]] W (VecR true LQ W)))
  have KAQ := hid (fun (W : World) (x : Option Addr) (y z l h : Nat) (x' : Option Addr) (y' z' l' h' : Nat) (hv : VK true W (.slice x y z) KQ l h) (hv' : VK true W (.slice x' y' z') LQ l' h') => (by have h := impl_VecAdd sm2 sm3 W hv hv'; rw [E7] at h; exact h : Calls Tryz.prog 10 #[.slice x y z, .slice x' y' z'] W (VecR true SQ W)))
  have KEQ := hid (fun (W : World) (x : Option Addr) (y z l h : Nat) (x' : Option Addr) (y' z' l' h' : Nat) (hv : VK true W (.slice x y z) SQ l h) (hv' : VK true W (.slice x' y' z') SQ l' h') => (by have h := impl_VecEqual sm4 sm4 W hv hv'; rw [eqV_refl] at h; exact h : Calls Tryz.prog 16 #[.slice x y z, .slice x' y' z'] W (RetB (.bool true) W)))
  have KDS := hid (fun (W : World) (hb : Below w9.heap.size w9 W) => (by have h := impl_VecDot sm1 sm6 W (VS.out.old hb) (VKK.out.old hb); rw [E11] at h; exact h : Calls Tryz.prog 12 #[.slice a5 n5 c5, .slice a2 m c2] W (RatO true (some d) W)))
  have KRE := hid (fun (W : World) (hb : Below w9.heap.size w9 W) (s : Bool) (v u : Value) (hr : RA W s v u (some d)) => (eq_rat hr.x (R8.out.old hb).x (decide_eq_true rfl) : Calls Tryz.prog 19 #[.agg #[.bool s, v, u], .agg #[.bool s8, .slice a8 n8 c8, .slice b8 m8 d8]] W (RetB (.bool true) W)))
  have KZE := hid (fun (W : World) => (by have h := impl_VecZero (m : Int) (by omega) (by omega) W; rw [E12] at h; exact h : Calls Tryz.prog 20 #[.int .i64 (m : Int)] W (VecR true ZK W)))
  have KAZ := hid (fun (W : World) (hb : Below w9.heap.size w9 W) (x : Option Addr) (y z l h : Nat) (hv : VK true W (.slice x y z) ZK l h) => (by have h := impl_VecAdd sm6 sm5 W (VKK.out.old hb) hv; rw [E13] at h; exact h : Calls Tryz.prog 10 #[.slice a2 m c2, .slice x y z] W (VecR true K W)))
  have KRO := hid (fun (W : World) (hb : Below w9.heap.size w9 W) => (ok_some (R8.out.old hb) : Calls Tryz.prog 21 #[.agg #[.bool s8, .slice a8 n8 c8, .slice b8 m8 d8]] W (RetB (.bool true) W)))
  clear hW0 W0
  have hm4 : m ≤ 4 := h4
  clear E1 E2 E3 E4 E5 E6 E7 E8 E9 E10 E11 E12 E13
  rcases Nat.eq_zero_or_pos m with h0 | h0
  · have g1 : decide ((0 : Int) < (m : Int)) = false := decide_eq_false (by omega)
    have g1' : decide (0 < m) = false := decide_eq_false (by omega)
    clear AR h0
    generalize argV K = av
    go_wp2_with fail
    refine wp_region_held_drew (S := (fun _ => True)) (by kernel_rfl) (by first | (trivial) | ((try dsimp only); trivial)) (fun hHeld => ?_)
    refine wpAnyH_take (i := 0) (oi := _) (v := ?_) rfl (by kernel_rfl) (by kernel_rfl) (by kernel_rfl) (fun _ _ _ h => h) (Or.inl ⟨by rfl, ?_⟩) (by assumption) ?_
    rotate_left
    · (intro w hSw; (try dsimp only at hSw); go_simp; try (with_reducible rfl))
    try simp only [Act.put, List.setIfInBounds_toArray, List.set_cons_zero, List.set_cons_succ, List.getElem_toArray, List.getElem_cons_zero]
    refine wpAnyH_take (i := 1) (oi := _) (v := ?_) rfl (by kernel_rfl) (by kernel_rfl) (by kernel_rfl) (fun _ _ _ h => h) (Or.inl ⟨by rfl, ?_⟩) (by assumption) ?_
    rotate_left
    · (intro w hSw; (try dsimp only at hSw); go_simp; try (with_reducible rfl))
    try simp only [Act.put, List.setIfInBounds_toArray, List.set_cons_zero, List.set_cons_succ, List.getElem_toArray, List.getElem_cons_zero, List.getElem_cons_succ]
    refine wpAnyH_take (i := 2) (oi := _) (v := ?_) rfl (by kernel_rfl) (by kernel_rfl) (by kernel_rfl) (fun _ _ _ h => h) (Or.inl ⟨by rfl, ?_⟩) (by assumption) ?_
    rotate_left
    · (intro w hSw; (try dsimp only at hSw); go_simp; try (with_reducible rfl))
    try simp only [Act.put, List.setIfInBounds_toArray, List.set_cons_zero, List.set_cons_succ, List.getElem_toArray, List.getElem_cons_zero, List.getElem_cons_succ]
    refine wpAnyH_take (i := 3) (oi := _) (v := undef) rfl (by kernel_rfl) (by kernel_rfl) (by kernel_rfl) (fun _ _ _ h => h) (Or.inr ⟨by rfl, rfl⟩) (by assumption) ?_
    try simp only [Act.put, List.setIfInBounds_toArray, List.set_cons_zero, List.set_cons_succ, List.getElem_toArray, List.getElem_cons_zero, List.getElem_cons_succ]
    refine wpAnyH_take (i := 4) (oi := _) (v := undef) rfl (by kernel_rfl) (by kernel_rfl) (by kernel_rfl) (fun _ _ _ h => h) (Or.inr ⟨by rfl, rfl⟩) (by assumption) ?_
    try simp only [Act.put, List.setIfInBounds_toArray, List.set_cons_zero, List.set_cons_succ, List.getElem_toArray, List.getElem_cons_zero, List.getElem_cons_succ]
    refine wpAnyH_take (i := 5) (oi := _) (v := undef) rfl (by kernel_rfl) (by kernel_rfl) (by kernel_rfl) (fun _ _ _ h => h) (Or.inr ⟨by rfl, rfl⟩) (by assumption) ?_
    try simp only [Act.put, List.setIfInBounds_toArray, List.set_cons_zero, List.set_cons_succ, List.getElem_toArray, List.getElem_cons_zero, List.getElem_cons_succ]
    refine wpAnyH_take (i := 6) (oi := _) (v := undef) rfl (by kernel_rfl) (by kernel_rfl) (by kernel_rfl) (fun _ _ _ h => h) (Or.inr ⟨by rfl, rfl⟩) (by assumption) ?_
    try simp only [Act.put, List.setIfInBounds_toArray, List.set_cons_zero, List.set_cons_succ, List.getElem_toArray, List.getElem_cons_zero, List.getElem_cons_succ]
    refine wpAnyH_take (i := 7) (oi := _) (v := undef) rfl (by kernel_rfl) (by kernel_rfl) (by kernel_rfl) (fun _ _ _ h => h) (Or.inr ⟨by rfl, rfl⟩) (by assumption) ?_
    try simp only [Act.put, List.setIfInBounds_toArray, List.set_cons_zero, List.set_cons_succ, List.getElem_toArray, List.getElem_cons_zero, List.getElem_cons_succ]
    refine wpAnyH_take (i := 8) (oi := _) (v := undef) rfl (by kernel_rfl) (by kernel_rfl) (by kernel_rfl) (fun _ _ _ h => h) (Or.inr ⟨by rfl, rfl⟩) (by assumption) ?_
    try simp only [Act.put, List.setIfInBounds_toArray, List.set_cons_zero, List.set_cons_succ, List.getElem_toArray, List.getElem_cons_zero, List.getElem_cons_succ]
    refine wpAnyH_take (i := 9) (oi := _) (v := undef) rfl (by kernel_rfl) (by kernel_rfl) (by kernel_rfl) (fun _ _ _ h => h) (Or.inr ⟨by rfl, rfl⟩) (by assumption) ?_
    try simp only [Act.put, List.setIfInBounds_toArray, List.set_cons_zero, List.set_cons_succ, List.getElem_toArray, List.getElem_cons_zero, List.getElem_cons_succ]
    refine wpAnyH_take (i := 10) (oi := _) (v := undef) rfl (by kernel_rfl) (by kernel_rfl) (by kernel_rfl) (fun _ _ _ h => h) (Or.inr ⟨by rfl, rfl⟩) (by assumption) ?_
    try simp only [Act.put, List.setIfInBounds_toArray, List.set_cons_zero, List.set_cons_succ, List.getElem_toArray, List.getElem_cons_zero, List.getElem_cons_succ]
    refine wpAnyH_take (i := 11) (oi := _) (v := undef) rfl (by kernel_rfl) (by kernel_rfl) (by kernel_rfl) (fun _ _ _ h => h) (Or.inr ⟨by rfl, rfl⟩) (by assumption) ?_
    try simp only [Act.put, List.setIfInBounds_toArray, List.set_cons_zero, List.set_cons_succ, List.getElem_toArray, List.getElem_cons_zero, List.getElem_cons_succ]
    refine wpAnyH_take (i := 12) (oi := _) (v := undef) rfl (by kernel_rfl) (by kernel_rfl) (by kernel_rfl) (fun _ _ _ h => h) (Or.inr ⟨by rfl, rfl⟩) (by assumption) ?_
    try simp only [Act.put, List.setIfInBounds_toArray, List.set_cons_zero, List.set_cons_succ, List.getElem_toArray, List.getElem_cons_zero, List.getElem_cons_succ]
    refine wpAnyH_take (i := 13) (oi := _) (v := undef) rfl (by kernel_rfl) (by kernel_rfl) (by kernel_rfl) (fun _ _ _ h => h) (Or.inr ⟨by rfl, rfl⟩) (by assumption) ?_
    try simp only [Act.put, List.setIfInBounds_toArray, List.set_cons_zero, List.set_cons_succ, List.getElem_toArray, List.getElem_cons_zero, List.getElem_cons_succ]
    refine wpAnyH_take (i := 14) (oi := _) (v := undef) rfl (by kernel_rfl) (by kernel_rfl) (by kernel_rfl) (fun _ _ _ h => h) (Or.inr ⟨by rfl, rfl⟩) (by assumption) ?_
    try simp only [Act.put, List.setIfInBounds_toArray, List.set_cons_zero, List.set_cons_succ, List.getElem_toArray, List.getElem_cons_zero, List.getElem_cons_succ]
    refine wpAnyH_take (i := 15) (oi := _) (v := undef) rfl (by kernel_rfl) (by kernel_rfl) (by kernel_rfl) (fun _ _ _ h => h) (Or.inr ⟨by rfl, rfl⟩) (by assumption) ?_
    try simp only [Act.put, List.setIfInBounds_toArray, List.set_cons_zero, List.set_cons_succ, List.getElem_toArray, List.getElem_cons_zero, List.getElem_cons_succ]
    refine wpAnyH_take (i := 16) (oi := _) (v := undef) rfl (by kernel_rfl) (by kernel_rfl) (by kernel_rfl) (fun _ _ _ h => h) (Or.inr ⟨by rfl, rfl⟩) (by assumption) ?_
    try simp only [Act.put, List.setIfInBounds_toArray, List.set_cons_zero, List.set_cons_succ, List.getElem_toArray, List.getElem_cons_zero, List.getElem_cons_succ]
    refine wpAnyH_take (i := 17) (oi := _) (v := undef) rfl (by kernel_rfl) (by kernel_rfl) (by kernel_rfl) (fun _ _ _ h => h) (Or.inr ⟨by rfl, rfl⟩) (by assumption) ?_
    try simp only [Act.put, List.setIfInBounds_toArray, List.set_cons_zero, List.set_cons_succ, List.getElem_toArray, List.getElem_cons_zero, List.getElem_cons_succ]
    refine wpAnyH_take (i := 18) (oi := _) (v := undef) rfl (by kernel_rfl) (by kernel_rfl) (by kernel_rfl) (fun _ _ _ h => h) (Or.inr ⟨by rfl, rfl⟩) (by assumption) ?_
    try simp only [Act.put, List.setIfInBounds_toArray, List.set_cons_zero, List.set_cons_succ, List.getElem_toArray, List.getElem_cons_zero, List.getElem_cons_succ]
    refine wpAnyH_take (i := 19) (oi := _) (v := undef) rfl (by kernel_rfl) (by kernel_rfl) (by kernel_rfl) (fun _ _ _ h => h) (Or.inr ⟨by rfl, rfl⟩) (by assumption) ?_
    try simp only [Act.put, List.setIfInBounds_toArray, List.set_cons_zero, List.set_cons_succ, List.getElem_toArray, List.getElem_cons_zero, List.getElem_cons_succ]
    refine wpAnyH_take (i := 20) (oi := _) (v := undef) rfl (by kernel_rfl) (by kernel_rfl) (by kernel_rfl) (fun _ _ _ h => h) (Or.inr ⟨by rfl, rfl⟩) (by assumption) ?_
    try simp only [Act.put, List.setIfInBounds_toArray, List.set_cons_zero, List.set_cons_succ, List.getElem_toArray, List.getElem_cons_zero, List.getElem_cons_succ]
    refine wpAnyH_take (i := 21) (oi := _) (v := ?_) rfl (by kernel_rfl) (by kernel_rfl) (by kernel_rfl) (fun _ _ _ h => h) (Or.inl ⟨by rfl, ?_⟩) (by assumption) ?_
    rotate_left
    · (intro w hSw; (try dsimp only at hSw); go_simp; try (with_reducible rfl))
    try simp only [Act.put, List.setIfInBounds_toArray, List.set_cons_zero, List.set_cons_succ, List.getElem_toArray, List.getElem_cons_zero, List.getElem_cons_succ]
    refine wpAnyH_done (by kernel_rfl) ?_ _
    go_wp2_with fail
    have HBW := hid (show Below w9.heap.size w9 w9.drew.drew from Below_drew1 (Below_drew1 (Below.refl _ _)))
    go_region_held3 (fun w' => w'.cell? ⟨w4.heap.size, 0, none⟩ = some (.bool gs) ∧ w'.cell? ⟨w4.heap.size, 1, none⟩ = some (.slice a4 n4 c4) ∧ w'.cell? ⟨w4.heap.size, 2, none⟩ = some (.slice b4 m4 d4) ∧ w'.cell? ⟨w8.heap.size, 0, none⟩ = some (.bool s8) ∧ w'.cell? ⟨w8.heap.size, 1, none⟩ = some (.slice a8 n8 c8) ∧ w'.cell? ⟨w8.heap.size, 2, none⟩ = some (.slice b8 m8 d8)) (first | with_reducible exact ⟨(L4.out.old HBW.out).c 0 (v := .bool gs) rfl, (L4.out.old HBW.out).c 1 (v := .slice a4 n4 c4) rfl, (L4.out.old HBW.out).c 2 (v := .slice b4 m4 d4) rfl, (L8.out.old HBW.out).c 0 (v := .bool s8) rfl, (L8.out.old HBW.out).c 1 (v := .slice a8 n8 c8) rfl, (L8.out.old HBW.out).c 2 (v := .slice b8 m8 d8) rfl⟩ | exact ⟨(L4.out.old HBW.out).c 0 (v := .bool gs) rfl, (L4.out.old HBW.out).c 1 (v := .slice a4 n4 c4) rfl, (L4.out.old HBW.out).c 2 (v := .slice b4 m4 d4) rfl, (L8.out.old HBW.out).c 0 (v := .bool s8) rfl, (L8.out.old HBW.out).c 1 (v := .slice a8 n8 c8) rfl, (L8.out.old HBW.out).c 2 (v := .slice b8 m8 d8) rfl⟩) (first
          | (go_at_call 15; (with_reducible refine (KOK.out _ HBW.out).mono ?_); rintro e w22 ⟨rfl, hb⟩; have HBW := hid (HBW.out.trans (hb.mono HBW.out.size)); (try have T1 := hid (T1.out.old hb)); (try have T2 := hid (T2.out.old hb)); (try have T3 := hid (T3.out.old hb)); (try have T4 := hid (T4.out.old hb)); (try have T5 := hid (T5.out.old hb)); (try have TZ := hid (TZ.out.old hb)); (try have T6 := hid (T6.out.old hb)); (try have RD := hid (RD.out.old hb)); clear hb)
          | (go_at_call 17; (with_reducible refine (KSU.out _ HBW.out).mono ?_); rintro e w23 ⟨x23, y23, z23, rfl, hv, hb⟩; have HBW := hid (HBW.out.trans (hb.mono HBW.out.size)); (try have T1 := hid (T1.out.old hb)); (try have T2 := hid (T2.out.old hb)); (try have T3 := hid (T3.out.old hb)); (try have T4 := hid (T4.out.old hb)); (try have T5 := hid (T5.out.old hb)); (try have TZ := hid (TZ.out.old hb)); (try have T6 := hid (T6.out.old hb)); (try have RD := hid (RD.out.old hb)); have T1 := hid hv; clear hv hb)
          | (go_at_call 16; (with_reducible refine (KEQ.out _ _ _ _ _ _ _ _ _ _ _ T2.out T5.out).mono ?_); rintro e w24 ⟨rfl, hb⟩; have HBW := hid (HBW.out.trans (hb.mono HBW.out.size)); (try have T1 := hid (T1.out.old hb)); (try have T2 := hid (T2.out.old hb)); (try have T3 := hid (T3.out.old hb)); (try have T4 := hid (T4.out.old hb)); (try have T5 := hid (T5.out.old hb)); (try have TZ := hid (TZ.out.old hb)); (try have T6 := hid (T6.out.old hb)); (try have RD := hid (RD.out.old hb)); clear hb)
          | (go_at_call 16; (with_reducible refine (KEK.out _ HBW.out _ _ _ _ _ T6.out).mono ?_); rintro e w25 ⟨rfl, hb⟩; have HBW := hid (HBW.out.trans (hb.mono HBW.out.size)); (try have T1 := hid (T1.out.old hb)); (try have T2 := hid (T2.out.old hb)); (try have T3 := hid (T3.out.old hb)); (try have T4 := hid (T4.out.old hb)); (try have T5 := hid (T5.out.old hb)); (try have TZ := hid (TZ.out.old hb)); (try have T6 := hid (T6.out.old hb)); (try have RD := hid (RD.out.old hb)); clear hb)
          | (go_at_call 16; (with_reducible refine (KEK.out _ HBW.out _ _ _ _ _ T1.out).mono ?_); rintro e w26 ⟨rfl, hb⟩; have HBW := hid (HBW.out.trans (hb.mono HBW.out.size)); (try have T1 := hid (T1.out.old hb)); (try have T2 := hid (T2.out.old hb)); (try have T3 := hid (T3.out.old hb)); (try have T4 := hid (T4.out.old hb)); (try have T5 := hid (T5.out.old hb)); (try have TZ := hid (TZ.out.old hb)); (try have T6 := hid (T6.out.old hb)); (try have RD := hid (RD.out.old hb)); clear hb)
          | (go_at_call 18; (with_reducible refine (KSS.out _ HBW.out).mono ?_); rintro e w27 ⟨x27, y27, z27, rfl, hv, hb⟩; have HBW := hid (HBW.out.trans (hb.mono HBW.out.size)); (try have T1 := hid (T1.out.old hb)); (try have T2 := hid (T2.out.old hb)); (try have T3 := hid (T3.out.old hb)); (try have T4 := hid (T4.out.old hb)); (try have T5 := hid (T5.out.old hb)); (try have TZ := hid (TZ.out.old hb)); (try have T6 := hid (T6.out.old hb)); (try have RD := hid (RD.out.old hb)); have T2 := hid hv; clear hv hb)
          | (go_at_call 18; (with_reducible refine (KSK.out _ HBW.out).mono ?_); rintro e w28 ⟨x28, y28, z28, rfl, hv, hb⟩; have HBW := hid (HBW.out.trans (hb.mono HBW.out.size)); (try have T1 := hid (T1.out.old hb)); (try have T2 := hid (T2.out.old hb)); (try have T3 := hid (T3.out.old hb)); (try have T4 := hid (T4.out.old hb)); (try have T5 := hid (T5.out.old hb)); (try have TZ := hid (TZ.out.old hb)); (try have T6 := hid (T6.out.old hb)); (try have RD := hid (RD.out.old hb)); have T3 := hid hv; clear hv hb)
          | (go_at_call 18; (with_reducible refine (KSL.out _ HBW.out).mono ?_); rintro e w29 ⟨x29, y29, z29, rfl, hv, hb⟩; have HBW := hid (HBW.out.trans (hb.mono HBW.out.size)); (try have T1 := hid (T1.out.old hb)); (try have T2 := hid (T2.out.old hb)); (try have T3 := hid (T3.out.old hb)); (try have T4 := hid (T4.out.old hb)); (try have T5 := hid (T5.out.old hb)); (try have TZ := hid (TZ.out.old hb)); (try have T6 := hid (T6.out.old hb)); (try have RD := hid (RD.out.old hb)); have T4 := hid hv; clear hv hb)
          | (go_at_call 10; (with_reducible refine (KAQ.out _ _ _ _ _ _ _ _ _ _ _ T3.out T4.out).mono ?_); rintro e w30 ⟨x30, y30, z30, rfl, hv, hb⟩; have HBW := hid (HBW.out.trans (hb.mono HBW.out.size)); (try have T1 := hid (T1.out.old hb)); (try have T2 := hid (T2.out.old hb)); (try have T3 := hid (T3.out.old hb)); (try have T4 := hid (T4.out.old hb)); (try have T5 := hid (T5.out.old hb)); (try have TZ := hid (TZ.out.old hb)); (try have T6 := hid (T6.out.old hb)); (try have RD := hid (RD.out.old hb)); have T5 := hid hv; clear hv hb)
          | (go_at_call 12; (with_reducible refine (KDS.out _ HBW.out).mono ?_); rintro e w40 ⟨s40, x40, y40, z40, p40, r40, t40, rfl, hv, hb⟩; have HBW := hid (HBW.out.trans (hb.mono HBW.out.size)); (try have T1 := hid (T1.out.old hb)); (try have T2 := hid (T2.out.old hb)); (try have T3 := hid (T3.out.old hb)); (try have T4 := hid (T4.out.old hb)); (try have T5 := hid (T5.out.old hb)); (try have TZ := hid (TZ.out.old hb)); (try have T6 := hid (T6.out.old hb)); (try have RD := hid (RD.out.old hb)); have RD := hid hv.ra; clear hv hb)
          | (go_at_call 19; (with_reducible refine (KRE.out _ HBW.out _ _ _ RD.out).mono ?_); rintro e w31 ⟨rfl, hb⟩; have HBW := hid (HBW.out.trans (hb.mono HBW.out.size)); (try have T1 := hid (T1.out.old hb)); (try have T2 := hid (T2.out.old hb)); (try have T3 := hid (T3.out.old hb)); (try have T4 := hid (T4.out.old hb)); (try have T5 := hid (T5.out.old hb)); (try have TZ := hid (TZ.out.old hb)); (try have T6 := hid (T6.out.old hb)); (try have RD := hid (RD.out.old hb)); clear hb)
          | (go_at_call 20; (with_reducible refine (KZE.out _).mono ?_); rintro e w32 ⟨x32, y32, z32, rfl, hv, hb⟩; have HBW := hid (HBW.out.trans (hb.mono HBW.out.size)); (try have T1 := hid (T1.out.old hb)); (try have T2 := hid (T2.out.old hb)); (try have T3 := hid (T3.out.old hb)); (try have T4 := hid (T4.out.old hb)); (try have T5 := hid (T5.out.old hb)); (try have TZ := hid (TZ.out.old hb)); (try have T6 := hid (T6.out.old hb)); (try have RD := hid (RD.out.old hb)); have TZ := hid hv; clear hv hb)
          | (go_at_call 10; (with_reducible refine (KAZ.out _ HBW.out _ _ _ _ _ TZ.out).mono ?_); rintro e w33 ⟨x33, y33, z33, rfl, hv, hb⟩; have HBW := hid (HBW.out.trans (hb.mono HBW.out.size)); (try have T1 := hid (T1.out.old hb)); (try have T2 := hid (T2.out.old hb)); (try have T3 := hid (T3.out.old hb)); (try have T4 := hid (T4.out.old hb)); (try have T5 := hid (T5.out.old hb)); (try have TZ := hid (TZ.out.old hb)); (try have T6 := hid (T6.out.old hb)); (try have RD := hid (RD.out.old hb)); have T6 := hid hv; clear hv hb)
          | (go_at_call 21; (with_reducible refine (KRO.out _ HBW.out).mono ?_); rintro e w34 ⟨rfl, hb⟩; have HBW := hid (HBW.out.trans (hb.mono HBW.out.size)); (try have T1 := hid (T1.out.old hb)); (try have T2 := hid (T2.out.old hb)); (try have T3 := hid (T3.out.old hb)); (try have T4 := hid (T4.out.old hb)); (try have T5 := hid (T5.out.old hb)); (try have TZ := hid (TZ.out.old hb)); (try have T6 := hid (T6.out.old hb)); (try have RD := hid (RD.out.old hb)); clear hb))
    go_wp2
    go_ret
    exact ⟨rfl, B.out.trans (HBW.out.mono B.out.size)⟩
  · obtain ⟨j, ej, hj, h0', hc⟩ := AR.out h0
    rw [ej]
    have g1 : (0 : Int) < (m : Int) := by omega
    have g2 : decide ((j : Int) < 0) = false := decide_eq_false (by omega)
    have g3 : decide (m ≤ j) = false := decide_eq_false (by rw [hk] at hj; omega)
    have g7 : decide ((m : Int) ≤ (j : Int)) = false := decide_eq_false (by rw [hk] at hj; omega)
    have g5 : (0 : Int) ≤ (j : Int) := by omega
    have g6 : (j : Int) < (m : Int) := by rw [hk] at hj; omega
    obtain ⟨g1', a31, n31, c31, b31, m31, d31, rfl, hg1, q01, q11, q21, R1⟩ := VKK.out.at sm6 hj
    obtain ⟨⟨s1, A1, D1⟩, hf1⟩ : ∃ f, K[j]'(hj) = f := ⟨_, rfl⟩
    simp only [hf1] at q01 R1
    have HF1 := hid hf1
    clear hf1
    obtain ⟨g2', a32, n32, c32, b32, m32, d32, hgg, hg2, q02, q12, q22, R2⟩ := VKK.out.at sm6 h0'
    have hgg2 : g1' = g2' := by simpa using hgg
    subst hgg2
    obtain ⟨⟨s2, A2, D2⟩, hf2⟩ : ∃ f, K[0]'h0' = f := ⟨_, rfl⟩
    simp only [hf2] at q02 R2
    have RX2 := hid (show RA w9 s2 (.slice a32 n32 c32) (.slice b32 m32 d32) (K[0]'h0').o from ⟨A2, D2, R2, by rw [hf2]; rfl⟩)
    have RX1 := hid (show RA w9 s1 (.slice a31 n31 c31) (.slice b31 m31 d31) (K[j]'hj).o from ⟨A1, D1, R1, by rw [HF1.out]; rfl⟩)
    obtain ⟨z, hz⟩ : ∃ z, cmpO (K[j]'hj).o (K[0]'h0').o = z := ⟨_, rfl⟩
    have KCM := hid (fun (W : World) (hb : Below w9.heap.size w9 W) => (show Calls Tryz.prog 14 #[.agg #[.bool s1, .slice a31 n31 c31, .slice b31 m31 d31], .agg #[.bool s2, .slice a32 n32 c32, .slice b32 m32 d32]] W (RetB (.int .i64 z) W) from hz ▸ cmp_o (RX1.out.old hb) (RX2.out.old hb)))
    rw [hz] at hc
    have g4 : decide ((0 : Int) < z) = false := decide_eq_false (by omega)
    clear hz hc R2 R1 hf2 AR
    have q02' := q02
    rw [Nat.zero_mul] at q02 q12 q22
    rw [Nat.zero_add] at q12 q22
    clear q02'
    go_wp2_with fail
    have HBW := hid (show Below w9.heap.size w9 w9.drew from Below_drew1 (Below.refl _ _))
    refine wp_region_held_drew (S := (fun w' => w'.cell? ⟨g1', j * 3, none⟩ = some (.bool s1) ∧ w'.cell? ⟨g1', j * 3 + 1, none⟩ = some (.slice a31 n31 c31) ∧ w'.cell? ⟨g1', j * 3 + 2, none⟩ = some (.slice b31 m31 d31) ∧ w'.cell? ⟨g1', 0, none⟩ = some (.bool s2) ∧ w'.cell? ⟨g1', 1, none⟩ = some (.slice a32 n32 c32) ∧ w'.cell? ⟨g1', 2, none⟩ = some (.slice b32 m32 d32))) (by kernel_rfl) (by first | (exact ⟨(HBW.out.cell (p := ⟨g1', j * 3, none⟩) hg1).trans q01, (HBW.out.cell (p := ⟨g1', j * 3 + 1, none⟩) hg1).trans q11, (HBW.out.cell (p := ⟨g1', j * 3 + 2, none⟩) hg1).trans q21, (HBW.out.cell (p := ⟨g1', 0, none⟩) hg1).trans q02, (HBW.out.cell (p := ⟨g1', 1, none⟩) hg1).trans q12, (HBW.out.cell (p := ⟨g1', 2, none⟩) hg1).trans q22⟩) | ((try dsimp only); exact ⟨(HBW.out.cell (p := ⟨g1', j * 3, none⟩) hg1).trans q01, (HBW.out.cell (p := ⟨g1', j * 3 + 1, none⟩) hg1).trans q11, (HBW.out.cell (p := ⟨g1', j * 3 + 2, none⟩) hg1).trans q21, (HBW.out.cell (p := ⟨g1', 0, none⟩) hg1).trans q02, (HBW.out.cell (p := ⟨g1', 1, none⟩) hg1).trans q12, (HBW.out.cell (p := ⟨g1', 2, none⟩) hg1).trans q22⟩)) (fun hHeld => ?_)
    refine wpAnyH_take (i := 0) (oi := _) (v := ?_) rfl (by kernel_rfl) (by kernel_rfl) (by kernel_rfl) (fun _ _ _ h => h) (Or.inl ⟨by rfl, ?_⟩) (by assumption) ?_
    rotate_left
    · (intro w hSw; (try dsimp only at hSw); go_simp; try (with_reducible rfl))
    try simp only [Act.put, List.setIfInBounds_toArray, List.set_cons_zero, List.set_cons_succ, List.getElem_toArray, List.getElem_cons_zero]
    refine wpAnyH_take (i := 1) (oi := _) (v := ?_) rfl (by kernel_rfl) (by kernel_rfl) (by kernel_rfl) (fun _ _ _ h => h) (Or.inl ⟨by rfl, ?_⟩) (by assumption) ?_
    rotate_left
    · (intro w hSw; (try dsimp only at hSw); go_simp; try (with_reducible rfl))
    try simp only [Act.put, List.setIfInBounds_toArray, List.set_cons_zero, List.set_cons_succ, List.getElem_toArray, List.getElem_cons_zero, List.getElem_cons_succ]
    refine wpAnyH_take (i := 2) (oi := _) (v := ?_) rfl (by kernel_rfl) (by kernel_rfl) (by kernel_rfl) (fun _ _ _ h => h) (Or.inl ⟨by rfl, ?_⟩) (by assumption) ?_
    rotate_left
    · (intro w hSw; (try dsimp only at hSw); go_simp; try (with_reducible rfl))
    try simp only [Act.put, List.setIfInBounds_toArray, List.set_cons_zero, List.set_cons_succ, List.getElem_toArray, List.getElem_cons_zero, List.getElem_cons_succ]
    refine wpAnyH_take (i := 3) (oi := _) (v := ?_) rfl (by kernel_rfl) (by kernel_rfl) (by kernel_rfl) (fun _ _ _ h => h) (Or.inl ⟨by rfl, ?_⟩) (by assumption) ?_
    rotate_left
    · (intro w hSw; (try dsimp only at hSw); go_simp; try (with_reducible rfl))
    try simp only [Act.put, List.setIfInBounds_toArray, List.set_cons_zero, List.set_cons_succ, List.getElem_toArray, List.getElem_cons_zero, List.getElem_cons_succ]
    refine wpAnyH_take (i := 4) (oi := _) (v := ?_) rfl (by kernel_rfl) (by kernel_rfl) (by kernel_rfl) (fun _ _ _ h => h) (Or.inl ⟨by rfl, ?_⟩) (by assumption) ?_
    rotate_left
    · (intro w hSw; (try dsimp only at hSw); go_simp; try (with_reducible rfl))
    try simp only [Act.put, List.setIfInBounds_toArray, List.set_cons_zero, List.set_cons_succ, List.getElem_toArray, List.getElem_cons_zero, List.getElem_cons_succ]
    refine wpAnyH_take (i := 5) (oi := _) (v := ?_) rfl (by kernel_rfl) (by kernel_rfl) (by kernel_rfl) (fun _ _ _ h => h) (Or.inl ⟨by rfl, ?_⟩) (by assumption) ?_
    rotate_left
    · (intro w hSw; (try dsimp only at hSw); go_simp; try (with_reducible rfl))
    try simp only [Act.put, List.setIfInBounds_toArray, List.set_cons_zero, List.set_cons_succ, List.getElem_toArray, List.getElem_cons_zero, List.getElem_cons_succ]
    refine wpAnyH_take (i := 6) (oi := _) (v := ?_) rfl (by kernel_rfl) (by kernel_rfl) (by kernel_rfl) (fun _ _ _ h => h) (Or.inl ⟨by rfl, ?_⟩) (by assumption) ?_
    rotate_left
    · (intro w hSw; (try dsimp only at hSw); go_simp; try (with_reducible rfl))
    try simp only [Act.put, List.setIfInBounds_toArray, List.set_cons_zero, List.set_cons_succ, List.getElem_toArray, List.getElem_cons_zero, List.getElem_cons_succ]
    refine wpAnyH_take (i := 7) (oi := _) (v := ?_) rfl (by kernel_rfl) (by kernel_rfl) (by kernel_rfl) (fun _ _ _ h => h) (Or.inl ⟨by rfl, ?_⟩) (by assumption) ?_
    rotate_left
    · (intro w hSw; (try dsimp only at hSw); go_simp; try (with_reducible rfl))
    try simp only [Act.put, List.setIfInBounds_toArray, List.set_cons_zero, List.set_cons_succ, List.getElem_toArray, List.getElem_cons_zero, List.getElem_cons_succ]
    refine wpAnyH_take (i := 8) (oi := _) (v := ?_) rfl (by kernel_rfl) (by kernel_rfl) (by kernel_rfl) (fun _ _ _ h => h) (Or.inl ⟨by rfl, ?_⟩) (by assumption) ?_
    rotate_left
    · (intro w hSw; (try dsimp only at hSw); go_simp; try (with_reducible rfl))
    try simp only [Act.put, List.setIfInBounds_toArray, List.set_cons_zero, List.set_cons_succ, List.getElem_toArray, List.getElem_cons_zero, List.getElem_cons_succ]
    refine wpAnyH_take (i := 9) (oi := _) (v := ?_) rfl (by kernel_rfl) (by kernel_rfl) (by kernel_rfl) (fun _ _ _ h => h) (Or.inl ⟨by rfl, ?_⟩) (by assumption) ?_
    rotate_left
    · (intro w hSw; (try dsimp only at hSw); go_simp; try (with_reducible rfl))
    try simp only [Act.put, List.setIfInBounds_toArray, List.set_cons_zero, List.set_cons_succ, List.getElem_toArray, List.getElem_cons_zero, List.getElem_cons_succ]
    refine wpAnyH_take (i := 10) (oi := _) (v := ?_) rfl (by kernel_rfl) (by kernel_rfl) (by kernel_rfl) (fun _ _ _ h => h) (Or.inl ⟨by rfl, ?_⟩) (by assumption) ?_
    rotate_left
    · (intro w hSw; (try dsimp only at hSw); go_simp; try (with_reducible rfl))
    try simp only [Act.put, List.setIfInBounds_toArray, List.set_cons_zero, List.set_cons_succ, List.getElem_toArray, List.getElem_cons_zero, List.getElem_cons_succ]
    refine wpAnyH_take (i := 11) (oi := _) (v := ?_) rfl (by kernel_rfl) (by kernel_rfl) (by kernel_rfl) (fun _ _ _ h => h) (Or.inl ⟨by rfl, ?_⟩) (by assumption) ?_
    rotate_left
    · (intro w hSw; (try dsimp only at hSw); go_simp; try (with_reducible rfl))
    try simp only [Act.put, List.setIfInBounds_toArray, List.set_cons_zero, List.set_cons_succ, List.getElem_toArray, List.getElem_cons_zero, List.getElem_cons_succ]
    refine wpAnyH_take (i := 12) (oi := _) (v := ?_) rfl (by kernel_rfl) (by kernel_rfl) (by kernel_rfl) (fun _ _ _ h => h) (Or.inl ⟨by rfl, ?_⟩) (by assumption) ?_
    rotate_left
    · (intro w hSw; (try dsimp only at hSw); go_simp; try (with_reducible rfl))
    try simp only [Act.put, List.setIfInBounds_toArray, List.set_cons_zero, List.set_cons_succ, List.getElem_toArray, List.getElem_cons_zero, List.getElem_cons_succ]
    refine wpAnyH_take (i := 13) (oi := _) (v := ?_) rfl (by kernel_rfl) (by kernel_rfl) (by kernel_rfl) (fun _ _ _ h => h) (Or.inl ⟨by rfl, ?_⟩) (by assumption) ?_
    rotate_left
    · (intro w hSw; (try dsimp only at hSw); go_simp; try (with_reducible rfl))
    try simp only [Act.put, List.setIfInBounds_toArray, List.set_cons_zero, List.set_cons_succ, List.getElem_toArray, List.getElem_cons_zero, List.getElem_cons_succ]
    refine wpAnyH_take (i := 14) (oi := _) (v := ?_) rfl (by kernel_rfl) (by kernel_rfl) (by kernel_rfl) (fun _ _ _ h => h) (Or.inl ⟨by rfl, ?_⟩) (by assumption) ?_
    rotate_left
    · (intro w hSw; (try dsimp only at hSw); go_simp; try (with_reducible rfl))
    try simp only [Act.put, List.setIfInBounds_toArray, List.set_cons_zero, List.set_cons_succ, List.getElem_toArray, List.getElem_cons_zero, List.getElem_cons_succ]
    refine wpAnyH_take (i := 15) (oi := _) (v := ?_) rfl (by kernel_rfl) (by kernel_rfl) (by kernel_rfl) (fun _ _ _ h => h) (Or.inl ⟨by rfl, ?_⟩) (by assumption) ?_
    rotate_left
    · (intro w hSw; (try dsimp only at hSw); go_simp; try (with_reducible rfl))
    try simp only [Act.put, List.setIfInBounds_toArray, List.set_cons_zero, List.set_cons_succ, List.getElem_toArray, List.getElem_cons_zero, List.getElem_cons_succ]
    refine wpAnyH_take (i := 16) (oi := _) (v := ?_) rfl (by kernel_rfl) (by kernel_rfl) (by kernel_rfl) (fun _ _ _ h => h) (Or.inl ⟨by rfl, ?_⟩) (by assumption) ?_
    rotate_left
    · (intro w hSw; (try dsimp only at hSw); go_simp; try (with_reducible rfl))
    try simp only [Act.put, List.setIfInBounds_toArray, List.set_cons_zero, List.set_cons_succ, List.getElem_toArray, List.getElem_cons_zero, List.getElem_cons_succ]
    refine wpAnyH_take (i := 17) (oi := _) (v := ?_) rfl (by kernel_rfl) (by kernel_rfl) (by kernel_rfl) (fun _ _ _ h => h) (Or.inl ⟨by rfl, ?_⟩) (by assumption) ?_
    rotate_left
    · (intro w hSw; (try dsimp only at hSw); go_simp; try (with_reducible rfl))
    try simp only [Act.put, List.setIfInBounds_toArray, List.set_cons_zero, List.set_cons_succ, List.getElem_toArray, List.getElem_cons_zero, List.getElem_cons_succ]
    refine wpAnyH_ready (rs := [18]) (by kernel_rfl) (by simp) ?_
    refine AllReadyH.cons (o := _) rfl (fun K hK => ?_) AllReadyH.nil
    go_simp
    (with_reducible refine (KCM.out _ HBW.out).mono ?_)
    rintro e w10 ⟨rfl, hb⟩
    have HBW := hid (HBW.out.trans (hb.mono HBW.out.size))
    clear hb
    go_wp2_with fail
    refine hK.out _ _ ?_ (fun hHeld => ?_)
    · first | (exact ⟨(HBW.out.cell (p := ⟨g1', j * 3, none⟩) hg1).trans q01, (HBW.out.cell (p := ⟨g1', j * 3 + 1, none⟩) hg1).trans q11, (HBW.out.cell (p := ⟨g1', j * 3 + 2, none⟩) hg1).trans q21, (HBW.out.cell (p := ⟨g1', 0, none⟩) hg1).trans q02, (HBW.out.cell (p := ⟨g1', 1, none⟩) hg1).trans q12, (HBW.out.cell (p := ⟨g1', 2, none⟩) hg1).trans q22⟩) | ((try dsimp only); exact ⟨(HBW.out.cell (p := ⟨g1', j * 3, none⟩) hg1).trans q01, (HBW.out.cell (p := ⟨g1', j * 3 + 1, none⟩) hg1).trans q11, (HBW.out.cell (p := ⟨g1', j * 3 + 2, none⟩) hg1).trans q21, (HBW.out.cell (p := ⟨g1', 0, none⟩) hg1).trans q02, (HBW.out.cell (p := ⟨g1', 1, none⟩) hg1).trans q12, (HBW.out.cell (p := ⟨g1', 2, none⟩) hg1).trans q22⟩)
    refine wpAnyH_take (i := 19) (oi := _) (v := ?_) rfl (by kernel_rfl) (by kernel_rfl) (by kernel_rfl) (fun _ _ _ h => h) (Or.inl ⟨by rfl, ?_⟩) (by assumption) ?_
    rotate_left
    · (intro w hSw; (try dsimp only at hSw); go_simp; try (with_reducible rfl))
    try simp only [Act.put, List.setIfInBounds_toArray, List.set_cons_zero, List.set_cons_succ, List.getElem_toArray, List.getElem_cons_zero, List.getElem_cons_succ]
    refine wpAnyH_take (i := 20) (oi := _) (v := ?_) rfl (by kernel_rfl) (by kernel_rfl) (by kernel_rfl) (fun _ _ _ h => h) (Or.inl ⟨by rfl, ?_⟩) (by assumption) ?_
    rotate_left
    · (intro w hSw; (try dsimp only at hSw); go_simp; try (with_reducible rfl))
    try simp only [Act.put, List.setIfInBounds_toArray, List.set_cons_zero, List.set_cons_succ, List.getElem_toArray, List.getElem_cons_zero, List.getElem_cons_succ]
    refine wpAnyH_take (i := 21) (oi := _) (v := ?_) rfl (by kernel_rfl) (by kernel_rfl) (by kernel_rfl) (fun _ _ _ h => h) (Or.inl ⟨by rfl, ?_⟩) (by assumption) ?_
    rotate_left
    · (intro w hSw; (try dsimp only at hSw); go_simp; try (with_reducible rfl))
    try simp only [Act.put, List.setIfInBounds_toArray, List.set_cons_zero, List.set_cons_succ, List.getElem_toArray, List.getElem_cons_zero, List.getElem_cons_succ]
    refine wpAnyH_done (by kernel_rfl) ?_ _
    go_wp2_with fail
    have HBW := hid (Below_drew1 HBW.out)
    go_region_held3 (fun w' => w'.cell? ⟨w4.heap.size, 0, none⟩ = some (.bool gs) ∧ w'.cell? ⟨w4.heap.size, 1, none⟩ = some (.slice a4 n4 c4) ∧ w'.cell? ⟨w4.heap.size, 2, none⟩ = some (.slice b4 m4 d4) ∧ w'.cell? ⟨w8.heap.size, 0, none⟩ = some (.bool s8) ∧ w'.cell? ⟨w8.heap.size, 1, none⟩ = some (.slice a8 n8 c8) ∧ w'.cell? ⟨w8.heap.size, 2, none⟩ = some (.slice b8 m8 d8)) (first | with_reducible exact ⟨(L4.out.old HBW.out).c 0 (v := .bool gs) rfl, (L4.out.old HBW.out).c 1 (v := .slice a4 n4 c4) rfl, (L4.out.old HBW.out).c 2 (v := .slice b4 m4 d4) rfl, (L8.out.old HBW.out).c 0 (v := .bool s8) rfl, (L8.out.old HBW.out).c 1 (v := .slice a8 n8 c8) rfl, (L8.out.old HBW.out).c 2 (v := .slice b8 m8 d8) rfl⟩ | exact ⟨(L4.out.old HBW.out).c 0 (v := .bool gs) rfl, (L4.out.old HBW.out).c 1 (v := .slice a4 n4 c4) rfl, (L4.out.old HBW.out).c 2 (v := .slice b4 m4 d4) rfl, (L8.out.old HBW.out).c 0 (v := .bool s8) rfl, (L8.out.old HBW.out).c 1 (v := .slice a8 n8 c8) rfl, (L8.out.old HBW.out).c 2 (v := .slice b8 m8 d8) rfl⟩) (first
          | (go_at_call 15; (with_reducible refine (KOK.out _ HBW.out).mono ?_); rintro e w22 ⟨rfl, hb⟩; have HBW := hid (HBW.out.trans (hb.mono HBW.out.size)); (try have T1 := hid (T1.out.old hb)); (try have T2 := hid (T2.out.old hb)); (try have T3 := hid (T3.out.old hb)); (try have T4 := hid (T4.out.old hb)); (try have T5 := hid (T5.out.old hb)); (try have TZ := hid (TZ.out.old hb)); (try have T6 := hid (T6.out.old hb)); (try have RD := hid (RD.out.old hb)); clear hb)
          | (go_at_call 17; (with_reducible refine (KSU.out _ HBW.out).mono ?_); rintro e w23 ⟨x23, y23, z23, rfl, hv, hb⟩; have HBW := hid (HBW.out.trans (hb.mono HBW.out.size)); (try have T1 := hid (T1.out.old hb)); (try have T2 := hid (T2.out.old hb)); (try have T3 := hid (T3.out.old hb)); (try have T4 := hid (T4.out.old hb)); (try have T5 := hid (T5.out.old hb)); (try have TZ := hid (TZ.out.old hb)); (try have T6 := hid (T6.out.old hb)); (try have RD := hid (RD.out.old hb)); have T1 := hid hv; clear hv hb)
          | (go_at_call 16; (with_reducible refine (KEQ.out _ _ _ _ _ _ _ _ _ _ _ T2.out T5.out).mono ?_); rintro e w24 ⟨rfl, hb⟩; have HBW := hid (HBW.out.trans (hb.mono HBW.out.size)); (try have T1 := hid (T1.out.old hb)); (try have T2 := hid (T2.out.old hb)); (try have T3 := hid (T3.out.old hb)); (try have T4 := hid (T4.out.old hb)); (try have T5 := hid (T5.out.old hb)); (try have TZ := hid (TZ.out.old hb)); (try have T6 := hid (T6.out.old hb)); (try have RD := hid (RD.out.old hb)); clear hb)
          | (go_at_call 16; (with_reducible refine (KEK.out _ HBW.out _ _ _ _ _ T6.out).mono ?_); rintro e w25 ⟨rfl, hb⟩; have HBW := hid (HBW.out.trans (hb.mono HBW.out.size)); (try have T1 := hid (T1.out.old hb)); (try have T2 := hid (T2.out.old hb)); (try have T3 := hid (T3.out.old hb)); (try have T4 := hid (T4.out.old hb)); (try have T5 := hid (T5.out.old hb)); (try have TZ := hid (TZ.out.old hb)); (try have T6 := hid (T6.out.old hb)); (try have RD := hid (RD.out.old hb)); clear hb)
          | (go_at_call 16; (with_reducible refine (KEK.out _ HBW.out _ _ _ _ _ T1.out).mono ?_); rintro e w26 ⟨rfl, hb⟩; have HBW := hid (HBW.out.trans (hb.mono HBW.out.size)); (try have T1 := hid (T1.out.old hb)); (try have T2 := hid (T2.out.old hb)); (try have T3 := hid (T3.out.old hb)); (try have T4 := hid (T4.out.old hb)); (try have T5 := hid (T5.out.old hb)); (try have TZ := hid (TZ.out.old hb)); (try have T6 := hid (T6.out.old hb)); (try have RD := hid (RD.out.old hb)); clear hb)
          | (go_at_call 18; (with_reducible refine (KSS.out _ HBW.out).mono ?_); rintro e w27 ⟨x27, y27, z27, rfl, hv, hb⟩; have HBW := hid (HBW.out.trans (hb.mono HBW.out.size)); (try have T1 := hid (T1.out.old hb)); (try have T2 := hid (T2.out.old hb)); (try have T3 := hid (T3.out.old hb)); (try have T4 := hid (T4.out.old hb)); (try have T5 := hid (T5.out.old hb)); (try have TZ := hid (TZ.out.old hb)); (try have T6 := hid (T6.out.old hb)); (try have RD := hid (RD.out.old hb)); have T2 := hid hv; clear hv hb)
          | (go_at_call 18; (with_reducible refine (KSK.out _ HBW.out).mono ?_); rintro e w28 ⟨x28, y28, z28, rfl, hv, hb⟩; have HBW := hid (HBW.out.trans (hb.mono HBW.out.size)); (try have T1 := hid (T1.out.old hb)); (try have T2 := hid (T2.out.old hb)); (try have T3 := hid (T3.out.old hb)); (try have T4 := hid (T4.out.old hb)); (try have T5 := hid (T5.out.old hb)); (try have TZ := hid (TZ.out.old hb)); (try have T6 := hid (T6.out.old hb)); (try have RD := hid (RD.out.old hb)); have T3 := hid hv; clear hv hb)
          | (go_at_call 18; (with_reducible refine (KSL.out _ HBW.out).mono ?_); rintro e w29 ⟨x29, y29, z29, rfl, hv, hb⟩; have HBW := hid (HBW.out.trans (hb.mono HBW.out.size)); (try have T1 := hid (T1.out.old hb)); (try have T2 := hid (T2.out.old hb)); (try have T3 := hid (T3.out.old hb)); (try have T4 := hid (T4.out.old hb)); (try have T5 := hid (T5.out.old hb)); (try have TZ := hid (TZ.out.old hb)); (try have T6 := hid (T6.out.old hb)); (try have RD := hid (RD.out.old hb)); have T4 := hid hv; clear hv hb)
          | (go_at_call 10; (with_reducible refine (KAQ.out _ _ _ _ _ _ _ _ _ _ _ T3.out T4.out).mono ?_); rintro e w30 ⟨x30, y30, z30, rfl, hv, hb⟩; have HBW := hid (HBW.out.trans (hb.mono HBW.out.size)); (try have T1 := hid (T1.out.old hb)); (try have T2 := hid (T2.out.old hb)); (try have T3 := hid (T3.out.old hb)); (try have T4 := hid (T4.out.old hb)); (try have T5 := hid (T5.out.old hb)); (try have TZ := hid (TZ.out.old hb)); (try have T6 := hid (T6.out.old hb)); (try have RD := hid (RD.out.old hb)); have T5 := hid hv; clear hv hb)
          | (go_at_call 12; (with_reducible refine (KDS.out _ HBW.out).mono ?_); rintro e w40 ⟨s40, x40, y40, z40, p40, r40, t40, rfl, hv, hb⟩; have HBW := hid (HBW.out.trans (hb.mono HBW.out.size)); (try have T1 := hid (T1.out.old hb)); (try have T2 := hid (T2.out.old hb)); (try have T3 := hid (T3.out.old hb)); (try have T4 := hid (T4.out.old hb)); (try have T5 := hid (T5.out.old hb)); (try have TZ := hid (TZ.out.old hb)); (try have T6 := hid (T6.out.old hb)); (try have RD := hid (RD.out.old hb)); have RD := hid hv.ra; clear hv hb)
          | (go_at_call 19; (with_reducible refine (KRE.out _ HBW.out _ _ _ RD.out).mono ?_); rintro e w31 ⟨rfl, hb⟩; have HBW := hid (HBW.out.trans (hb.mono HBW.out.size)); (try have T1 := hid (T1.out.old hb)); (try have T2 := hid (T2.out.old hb)); (try have T3 := hid (T3.out.old hb)); (try have T4 := hid (T4.out.old hb)); (try have T5 := hid (T5.out.old hb)); (try have TZ := hid (TZ.out.old hb)); (try have T6 := hid (T6.out.old hb)); (try have RD := hid (RD.out.old hb)); clear hb)
          | (go_at_call 20; (with_reducible refine (KZE.out _).mono ?_); rintro e w32 ⟨x32, y32, z32, rfl, hv, hb⟩; have HBW := hid (HBW.out.trans (hb.mono HBW.out.size)); (try have T1 := hid (T1.out.old hb)); (try have T2 := hid (T2.out.old hb)); (try have T3 := hid (T3.out.old hb)); (try have T4 := hid (T4.out.old hb)); (try have T5 := hid (T5.out.old hb)); (try have TZ := hid (TZ.out.old hb)); (try have T6 := hid (T6.out.old hb)); (try have RD := hid (RD.out.old hb)); have TZ := hid hv; clear hv hb)
          | (go_at_call 10; (with_reducible refine (KAZ.out _ HBW.out _ _ _ _ _ TZ.out).mono ?_); rintro e w33 ⟨x33, y33, z33, rfl, hv, hb⟩; have HBW := hid (HBW.out.trans (hb.mono HBW.out.size)); (try have T1 := hid (T1.out.old hb)); (try have T2 := hid (T2.out.old hb)); (try have T3 := hid (T3.out.old hb)); (try have T4 := hid (T4.out.old hb)); (try have T5 := hid (T5.out.old hb)); (try have TZ := hid (TZ.out.old hb)); (try have T6 := hid (T6.out.old hb)); (try have RD := hid (RD.out.old hb)); have T6 := hid hv; clear hv hb)
          | (go_at_call 21; (with_reducible refine (KRO.out _ HBW.out).mono ?_); rintro e w34 ⟨rfl, hb⟩; have HBW := hid (HBW.out.trans (hb.mono HBW.out.size)); (try have T1 := hid (T1.out.old hb)); (try have T2 := hid (T2.out.old hb)); (try have T3 := hid (T3.out.old hb)); (try have T4 := hid (T4.out.old hb)); (try have T5 := hid (T5.out.old hb)); (try have TZ := hid (TZ.out.old hb)); (try have T6 := hid (T6.out.old hb)); (try have RD := hid (RD.out.old hb)); clear hb))
    go_wp2
    go_ret
    exact ⟨rfl, B.out.trans (HBW.out.mono B.out.size)⟩

end Go.Proofs.YtnkcihcmkojdmaaGreat
