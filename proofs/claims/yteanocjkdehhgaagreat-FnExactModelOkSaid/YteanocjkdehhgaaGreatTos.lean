import Derived.Test.YteanocjkdehhgaaGreatTok
import Derived.Test.YteanocjkdehhgaaGreatVy
import Derived.Deep.RegionHeld3
import Derived.Deep.DeepCutAuto
set_option maxRecDepth 100000
set_option maxHeartbeats 6400000
set_option linter.unusedVariables false
set_option linter.unusedSimpArgs false
namespace Go.Proofs.YteanocjkdehhgaaGreat
open Go.RowKit
open Go.Lib (hid)
theorem l01In_any (x lo hi : Int) (w : World) : Calls Tryz.prog 74 #[.int .i64 x, .int .i64 lo, .int .i64 hi] w fun e w' => e = .returned (.bool (decide (lo ≤ x) && decide (x ≤ hi))) ∧ w = w' := by
 by_cases h : lo ≤ x ∧ x ≤ hi
 ·rw [decide_eq_true h.1, decide_eq_true h.2]
  exact l01In_y x lo hi h.1 h.2 w
 ·have e : (decide (lo ≤ x) && decide (x ≤ hi)) = false := by simp only [Bool.and_eq_false_iff, decide_eq_false_iff_not]; omega
  rw [e]
  exact l01In_n x lo hi (by omega) w
theorem spec_TermsOk {p : Bool} {a : Option Addr} {n c : Nat} {K : List Tq} {lo hi : Nat} (hK : SmT K) (z : Int) (z0 : -9223372036854775808 ≤ z) (z1 : z ≤ 9223372036854775807) (w : World) (h : TK p w (.slice a n c) K lo hi) :
  Calls Tryz.prog 77 #[.slice a n c, .int .i64 z] w (RetB (.bool (tok K z)) w) := by
 have HV := hid h
 obtain rfl := h.num
 clear h
 have hkl := hK.2
 obtain ⟨B0, hB0⟩ : ∃ B, B = tok K z := ⟨_, rfl⟩
 rw [← hB0]
 have HB0 := hid hB0
 clear hB0
 obtain ⟨H, hH⟩ : ∃ H, IntKind.i64.wrap (z - 1) = H := ⟨_, rfl⟩
 have hHz := hid (show 0 ≤ z → z ≤ 40 → H = z - 1 from fun z0 z1 => by rw [← hH]; exact Go.IntWalk.i64_in _ ⟨by omega, by omega⟩)
 have KL := hid (fun (W : World) => l01In_any z 0 40 W)
 go_enter Tryz.func77, Tryz.ntmps77
 go_wp2
 go_loopw [9] (fun i wr => ∃ (k : Nat), k ≤ K.length ∧ i = .int .i64 k ∧ Hid (0 ≤ z → z ≤ 40 → tokF z (-1) (K.take k) = true) ∧ Below w.heap.size w wr) (fun i _ => K.length - (intOf i).toNat)
 case atStart => exact ⟨0, Nat.zero_le _, rfl, hid (fun _ _ => rfl), Below.refl _ _⟩
 case round =>
  obtain ⟨k, hk, rfl, hA, hbel⟩ := hrel
  by_cases hlt : k < K.length
  ·have V := hid (HV.out.old hbel)
   have a2 : (k : Int) < K.length := by omega
   cases k with
   |zero =>
    have hy0 := hid (show 0 ≤ z → z ≤ 40 → (-1 : Int) ≤ -1 from fun _ _ => Int.le_refl _)
    obtain ⟨g, a3, n3, c3, b3, m3, d3, rfl, hg, qc, q0, q1, q2, R⟩ := V.out.at hK hlt
    obtain ⟨⟨x, s, A, D⟩, hf⟩ : ∃ f, K[0]'(hlt) = f := ⟨_, rfl⟩
    simp only [hf] at qc q0 R
    have HF := hid hf
    clear hf
    obtain ⟨o, ho⟩ : ∃ o, Tq.o ⟨x, s, A, D⟩ = o := ⟨_, rfl⟩
    have HO := hid (show (K[0]'(hlt)).o = o by rw [HF.out, ho])
    have HX := hid (show (K[0]'(hlt)).c = x by rw [HF.out])
    have RX := hid (show RA wr s (.slice a3 n3 c3) (.slice b3 m3 d3) o from ⟨A, D, R, ho⟩)
    have RLX := hid R
    have RN := hid R.nums
    clear ho R
    have hx0 := hid (show lastC (-1) (K.take 0) = (-1) from rfl)
    have hno := hid (fun hn : 0 ≤ z → z ≤ 40 → (decide ((-1) < x) && decide (x < z) && nz o) = false => (show tok K z = false by
     by_cases hz : 0 ≤ z ∧ z ≤ 40
     ·exact tok_no (n := z) hlt (by rw [hx0.out, HX.out, HO.out]; exact hn hz.1 hz.2)
     ·exact tok_out (by omega)))
    have HB := hid (hbel.alloc hbel.size (.cells #[.int .i64 x, .bool s, .slice a3 n3 c3, .slice b3 m3 d3] 146))
    have LT := hid (LocA.new (w := wr) (T := 146) (cs := #[.int .i64 x, .bool s, .slice a3 n3 c3, .slice b3 m3 d3]))
    have KS := hid (fun (W : World) (hb : Below wr.heap.size wr W) => sok_o (w := W) (RX.out.old hb))
    obtain ⟨p, hp⟩ : ∃ p, (decide (0 ≤ x) && decide (x ≤ H)) = p := ⟨_, rfl⟩
    have KI := hid (fun (W : World) => l01In_any x 0 H W)
    rw [hp] at KI
    have HP := hid hp
    have hmg := tq_mag (x := x) (s := s) (A := A) (D := D) (o := o) (by rw [← HO.out, HF.out])
    have HN := hid RN.out.1
    clear hp hbel
    cases p with
    |false =>
     have hret := hno.out (fun z0 z1 => by
      have h1 := HP.out
      have h2 := hHz.out z0 z1
      simp only [Bool.and_eq_false_iff, decide_eq_false_iff_not] at h1
      have h3 : ¬ ((-1) < x) ∨ ¬ (x < z) := by have := hy0.out z0 z1; omega
      rcases h3 with h | h <;> simp [h])
     go_wp2_with fail
     have LT := hid (LT.out.old (Below_drew1 (Below.refl _ _)))
     have HB := hid (Below_drew1 HB.out)
     have p0 := LT.out.c 0 rfl
     have p1 := LT.out.c 1 rfl
     have p2 := LT.out.c 2 rfl
     have p3 := LT.out.c 3 rfl
     refine wp_region_held_drew (S := fun w' => w'.cell? ⟨wr.heap.size, 0, none⟩ = some (.int .i64 x) ∧ w'.cell? ⟨wr.heap.size, 1, none⟩ = some (.bool s) ∧ w'.cell? ⟨wr.heap.size, 2, none⟩ = some (.slice a3 n3 c3) ∧ w'.cell? ⟨wr.heap.size, 3, none⟩ = some (.slice b3 m3 d3)) (by kernel_rfl) (by first | ((first | with_reducible exact ⟨p0, p1, p2, p3⟩ | exact ⟨p0, p1, p2, p3⟩)) | ((try dsimp only); (first | with_reducible exact ⟨p0, p1, p2, p3⟩ | exact ⟨p0, p1, p2, p3⟩))) (fun hHeld => ?_)
     refine tk (i := 0) (v := ?_) rfl (by kernel_rfl) (fun _ _ _ h => h) (Or.inl ⟨by rfl, ?_⟩) (by assumption) ?_
     rotate_left
     ·(intro w hSw; (try dsimp only at hSw); go_simp; try (with_reducible rfl))
     try simp only [Act.put, ka1, ka2, ka3, ka4, ka5]
     refine tk (i := 1) (v := ?_) rfl (by kernel_rfl) (fun _ _ _ h => h) (Or.inl ⟨by rfl, ?_⟩) (by assumption) ?_
     rotate_left
     ·(intro w hSw; (try dsimp only at hSw); go_simp; try (with_reducible rfl))
     try simp only [Act.put, ka1, ka2, ka3, ka4, ka5, ka6]
     refine tk (i := 2) (v := ?_) rfl (by kernel_rfl) (fun _ _ _ h => h) (Or.inl ⟨by rfl, ?_⟩) (by assumption) ?_
     rotate_left
     ·(intro w hSw; (try dsimp only at hSw); go_simp; try (with_reducible rfl))
     try simp only [Act.put, ka1, ka2, ka3, ka4, ka5, ka6]
     refine tk (i := 3) (v := ?_) rfl (by kernel_rfl) (fun _ _ _ h => h) (Or.inl ⟨by rfl, ?_⟩) (by assumption) ?_
     rotate_left
     ·(intro w hSw; (try dsimp only at hSw); go_simp; try (with_reducible rfl))
     try simp only [Act.put, ka1, ka2, ka3, ka4, ka5, ka6]
     refine wpAnyH_ready (rs := [4]) (by kernel_rfl) (by simp) ?_
     refine AllReadyH.cons (o := _) rfl (fun K hK => ?_) AllReadyH.nil
     go_simp
     (with_reducible refine (KI.out _).mono ?_)
     rintro e w2 ⟨rfl, rfl⟩
     go_wp2_with fail
     refine hK.out _ _ ?_ (fun hHeld => ?_)
     ·first | ((first | with_reducible exact ⟨p0, p1, p2, p3⟩ | exact ⟨p0, p1, p2, p3⟩)) | ((try dsimp only); (first | with_reducible exact ⟨p0, p1, p2, p3⟩ | exact ⟨p0, p1, p2, p3⟩))
     refine tk (i := 5) (v := ?_) rfl (by kernel_rfl) (fun _ _ _ h => h) (Or.inl ⟨by rfl, ?_⟩) (by assumption) ?_
     rotate_left
     ·(intro w hSw; (try dsimp only at hSw); go_simp; try (with_reducible rfl))
     try simp only [Act.put, ka1, ka2, ka3, ka4, ka5, ka6]
     refine tk (i := 6) (v := ?_) rfl (by kernel_rfl) (fun _ _ _ h => h) (Or.inl ⟨by rfl, ?_⟩) (by assumption) ?_
     rotate_left
     ·(intro w hSw; (try dsimp only at hSw); go_simp; try (with_reducible rfl))
     try simp only [Act.put, ka1, ka2, ka3, ka4, ka5, ka6]
     refine tk (i := 7) (v := undef) rfl (by kernel_rfl) (fun _ _ _ h => h) (Or.inr ⟨by rfl, rfl⟩) (by assumption) ?_
     try simp only [Act.put, ka1, ka2, ka3, ka4, ka5, ka6]
     refine tk (i := 8) (v := undef) rfl (by kernel_rfl) (fun _ _ _ h => h) (Or.inr ⟨by rfl, rfl⟩) (by assumption) ?_
     try simp only [Act.put, ka1, ka2, ka3, ka4, ka5, ka6]
     refine tk (i := 9) (v := undef) rfl (by kernel_rfl) (fun _ _ _ h => h) (Or.inr ⟨by rfl, rfl⟩) (by assumption) ?_
     try simp only [Act.put, ka1, ka2, ka3, ka4, ka5, ka6]
     refine tk (i := 10) (v := undef) rfl (by kernel_rfl) (fun _ _ _ h => h) (Or.inr ⟨by rfl, rfl⟩) (by assumption) ?_
     try simp only [Act.put, ka1, ka2, ka3, ka4, ka5, ka6]
     refine tk (i := 11) (v := ?_) rfl (by kernel_rfl) (fun _ _ _ h => h) (Or.inl ⟨by rfl, ?_⟩) (by assumption) ?_
     rotate_left
     ·(intro w hSw; (try dsimp only at hSw); go_simp; try (with_reducible rfl))
     try simp only [Act.put, ka1, ka2, ka3, ka4, ka5, ka6]
     refine tk (i := 12) (v := ?_) rfl (by kernel_rfl) (fun _ _ _ h => h) (Or.inl ⟨by rfl, ?_⟩) (by assumption) ?_
     rotate_left
     ·(intro w hSw; (try dsimp only at hSw); go_simp; try (with_reducible rfl))
     try simp only [Act.put, ka1, ka2, ka3, ka4, ka5, ka6]
     refine tk (i := 13) (v := undef) rfl (by kernel_rfl) (fun _ _ _ h => h) (Or.inr ⟨by rfl, rfl⟩) (by assumption) ?_
     try simp only [Act.put, ka1, ka2, ka3, ka4, ka5, ka6]
     refine tk (i := 14) (v := undef) rfl (by kernel_rfl) (fun _ _ _ h => h) (Or.inr ⟨by rfl, rfl⟩) (by assumption) ?_
     try simp only [Act.put, ka1, ka2, ka3, ka4, ka5, ka6]
     refine tk (i := 15) (v := undef) rfl (by kernel_rfl) (fun _ _ _ h => h) (Or.inr ⟨by rfl, rfl⟩) (by assumption) ?_
     try simp only [Act.put, ka1, ka2, ka3, ka4, ka5, ka6]
     refine tk (i := 16) (v := undef) rfl (by kernel_rfl) (fun _ _ _ h => h) (Or.inr ⟨by rfl, rfl⟩) (by assumption) ?_
     try simp only [Act.put, ka1, ka2, ka3, ka4, ka5, ka6]
     refine tk (i := 17) (v := undef) rfl (by kernel_rfl) (fun _ _ _ h => h) (Or.inr ⟨by rfl, rfl⟩) (by assumption) ?_
     try simp only [Act.put, ka1, ka2, ka3, ka4, ka5, ka6]
     refine tk (i := 18) (v := undef) rfl (by kernel_rfl) (fun _ _ _ h => h) (Or.inr ⟨by rfl, rfl⟩) (by assumption) ?_
     try simp only [Act.put, ka1, ka2, ka3, ka4, ka5, ka6]
     refine tk (i := 19) (v := ?_) rfl (by kernel_rfl) (fun _ _ _ h => h) (Or.inl ⟨by rfl, ?_⟩) (by assumption) ?_
     rotate_left
     ·(intro w hSw; (try dsimp only at hSw); go_simp; try (with_reducible rfl))
     try simp only [Act.put, ka1, ka2, ka3, ka4, ka5, ka6]
     refine tk (i := 20) (v := ?_) rfl (by kernel_rfl) (fun _ _ _ h => h) (Or.inl ⟨by rfl, ?_⟩) (by assumption) ?_
     rotate_left
     ·(intro w hSw; (try dsimp only at hSw); go_simp; try (with_reducible rfl))
     try simp only [Act.put, ka1, ka2, ka3, ka4, ka5, ka6]
     refine tk (i := 21) (v := undef) rfl (by kernel_rfl) (fun _ _ _ h => h) (Or.inr ⟨by rfl, rfl⟩) (by assumption) ?_
     try simp only [Act.put, ka1, ka2, ka3, ka4, ka5, ka6]
     refine tk (i := 22) (v := undef) rfl (by kernel_rfl) (fun _ _ _ h => h) (Or.inr ⟨by rfl, rfl⟩) (by assumption) ?_
     try simp only [Act.put, ka1, ka2, ka3, ka4, ka5, ka6]
     refine tk (i := 23) (v := undef) rfl (by kernel_rfl) (fun _ _ _ h => h) (Or.inr ⟨by rfl, rfl⟩) (by assumption) ?_
     try simp only [Act.put, ka1, ka2, ka3, ka4, ka5, ka6]
     refine tk (i := 24) (v := undef) rfl (by kernel_rfl) (fun _ _ _ h => h) (Or.inr ⟨by rfl, rfl⟩) (by assumption) ?_
     try simp only [Act.put, ka1, ka2, ka3, ka4, ka5, ka6]
     refine tk (i := 25) (v := undef) rfl (by kernel_rfl) (fun _ _ _ h => h) (Or.inr ⟨by rfl, rfl⟩) (by assumption) ?_
     try simp only [Act.put, ka1, ka2, ka3, ka4, ka5, ka6]
     refine tk (i := 26) (v := undef) rfl (by kernel_rfl) (fun _ _ _ h => h) (Or.inr ⟨by rfl, rfl⟩) (by assumption) ?_
     try simp only [Act.put, ka1, ka2, ka3, ka4, ka5, ka6]
     refine tk (i := 27) (v := undef) rfl (by kernel_rfl) (fun _ _ _ h => h) (Or.inr ⟨by rfl, rfl⟩) (by assumption) ?_
     try simp only [Act.put, ka1, ka2, ka3, ka4, ka5, ka6]
     refine tk (i := 28) (v := undef) rfl (by kernel_rfl) (fun _ _ _ h => h) (Or.inr ⟨by rfl, rfl⟩) (by assumption) ?_
     try simp only [Act.put, ka1, ka2, ka3, ka4, ka5, ka6]
     refine tk (i := 29) (v := undef) rfl (by kernel_rfl) (fun _ _ _ h => h) (Or.inr ⟨by rfl, rfl⟩) (by assumption) ?_
     try simp only [Act.put, ka1, ka2, ka3, ka4, ka5, ka6]
     refine tk (i := 30) (v := undef) rfl (by kernel_rfl) (fun _ _ _ h => h) (Or.inr ⟨by rfl, rfl⟩) (by assumption) ?_
     try simp only [Act.put, ka1, ka2, ka3, ka4, ka5, ka6]
     refine tk (i := 31) (v := undef) rfl (by kernel_rfl) (fun _ _ _ h => h) (Or.inr ⟨by rfl, rfl⟩) (by assumption) ?_
     try simp only [Act.put, ka1, ka2, ka3, ka4, ka5, ka6]
     refine tk (i := 32) (v := undef) rfl (by kernel_rfl) (fun _ _ _ h => h) (Or.inr ⟨by rfl, rfl⟩) (by assumption) ?_
     try simp only [Act.put, ka1, ka2, ka3, ka4, ka5, ka6]
     refine tk (i := 33) (v := undef) rfl (by kernel_rfl) (fun _ _ _ h => h) (Or.inr ⟨by rfl, rfl⟩) (by assumption) ?_
     try simp only [Act.put, ka1, ka2, ka3, ka4, ka5, ka6]
     refine tk (i := 34) (v := ?_) rfl (by kernel_rfl) (fun _ _ _ h => h) (Or.inl ⟨by rfl, ?_⟩) (by assumption) ?_
     rotate_left
     ·(intro w hSw; (try dsimp only at hSw); go_simp; try (with_reducible rfl))
     try simp only [Act.put, ka1, ka2, ka3, ka4, ka5, ka6]
     refine wpAnyH_done (by kernel_rfl) ?_ _
     try clear p0 p1 p2 p3
     go_wp2
     go_ret
     exact ⟨bool_retT (by rw [HB0.out, hret]), HB.out⟩
    |true =>
     cases o with
     |none =>
      have hret := hno.out (fun z0 z1 => by simp [nz_none])
      go_wp2_with fail
      have LT := hid (LT.out.old (Below_drew1 (Below.refl _ _)))
      have HB := hid (Below_drew1 HB.out)
      have p0 := LT.out.c 0 rfl
      have p1 := LT.out.c 1 rfl
      have p2 := LT.out.c 2 rfl
      have p3 := LT.out.c 3 rfl
      refine wp_region_held_drew (S := fun w' => w'.cell? ⟨wr.heap.size, 0, none⟩ = some (.int .i64 x) ∧ w'.cell? ⟨wr.heap.size, 1, none⟩ = some (.bool s) ∧ w'.cell? ⟨wr.heap.size, 2, none⟩ = some (.slice a3 n3 c3) ∧ w'.cell? ⟨wr.heap.size, 3, none⟩ = some (.slice b3 m3 d3)) (by kernel_rfl) (by first | ((first | with_reducible exact ⟨p0, p1, p2, p3⟩ | exact ⟨p0, p1, p2, p3⟩)) | ((try dsimp only); (first | with_reducible exact ⟨p0, p1, p2, p3⟩ | exact ⟨p0, p1, p2, p3⟩))) (fun hHeld => ?_)
      refine tk (i := 0) (v := ?_) rfl (by kernel_rfl) (fun _ _ _ h => h) (Or.inl ⟨by rfl, ?_⟩) (by assumption) ?_
      rotate_left
      ·(intro w hSw; (try dsimp only at hSw); go_simp; try (with_reducible rfl))
      try simp only [Act.put, ka1, ka2, ka3, ka4, ka5]
      refine tk (i := 1) (v := ?_) rfl (by kernel_rfl) (fun _ _ _ h => h) (Or.inl ⟨by rfl, ?_⟩) (by assumption) ?_
      rotate_left
      ·(intro w hSw; (try dsimp only at hSw); go_simp; try (with_reducible rfl))
      try simp only [Act.put, ka1, ka2, ka3, ka4, ka5, ka6]
      refine tk (i := 2) (v := ?_) rfl (by kernel_rfl) (fun _ _ _ h => h) (Or.inl ⟨by rfl, ?_⟩) (by assumption) ?_
      rotate_left
      ·(intro w hSw; (try dsimp only at hSw); go_simp; try (with_reducible rfl))
      try simp only [Act.put, ka1, ka2, ka3, ka4, ka5, ka6]
      refine tk (i := 3) (v := ?_) rfl (by kernel_rfl) (fun _ _ _ h => h) (Or.inl ⟨by rfl, ?_⟩) (by assumption) ?_
      rotate_left
      ·(intro w hSw; (try dsimp only at hSw); go_simp; try (with_reducible rfl))
      try simp only [Act.put, ka1, ka2, ka3, ka4, ka5, ka6]
      refine wpAnyH_ready (rs := [4]) (by kernel_rfl) (by simp) ?_
      refine AllReadyH.cons (o := _) rfl (fun K hK => ?_) AllReadyH.nil
      go_simp
      (with_reducible refine (KI.out _).mono ?_)
      rintro e w2 ⟨rfl, rfl⟩
      go_wp2_with fail
      refine hK.out _ _ ?_ (fun hHeld => ?_)
      ·first | ((first | with_reducible exact ⟨p0, p1, p2, p3⟩ | exact ⟨p0, p1, p2, p3⟩)) | ((try dsimp only); (first | with_reducible exact ⟨p0, p1, p2, p3⟩ | exact ⟨p0, p1, p2, p3⟩))
      refine tk (i := 5) (v := ?_) rfl (by kernel_rfl) (fun _ _ _ h => h) (Or.inl ⟨by rfl, ?_⟩) (by assumption) ?_
      rotate_left
      ·(intro w hSw; (try dsimp only at hSw); go_simp; try (with_reducible rfl))
      try simp only [Act.put, ka1, ka2, ka3, ka4, ka5, ka6]
      refine tk (i := 6) (v := ?_) rfl (by kernel_rfl) (fun _ _ _ h => h) (Or.inl ⟨by rfl, ?_⟩) (by assumption) ?_
      rotate_left
      ·(intro w hSw; (try dsimp only at hSw); go_simp; try (with_reducible rfl))
      try simp only [Act.put, ka1, ka2, ka3, ka4, ka5, ka6]
      refine tk (i := 7) (v := ?_) rfl (by kernel_rfl) (fun _ _ _ h => h) (Or.inl ⟨by rfl, ?_⟩) (by assumption) ?_
      rotate_left
      ·(intro w hSw; (try dsimp only at hSw); go_simp; try (with_reducible rfl))
      try simp only [Act.put, ka1, ka2, ka3, ka4, ka5, ka6]
      refine tk (i := 8) (v := ?_) rfl (by kernel_rfl) (fun _ _ _ h => h) (Or.inl ⟨by rfl, ?_⟩) (by assumption) ?_
      rotate_left
      ·(intro w hSw; (try dsimp only at hSw); go_simp; try (with_reducible rfl))
      try simp only [Act.put, ka1, ka2, ka3, ka4, ka5, ka6]
      refine wpAnyH_ready (rs := [9]) (by kernel_rfl) (by simp) ?_
      refine AllReadyH.cons (o := _) rfl (fun K hK => ?_) AllReadyH.nil
      go_simp
      (with_reducible refine (KS.out _ (Below_drew1 below_new')).mono ?_)
      rintro e w2 ⟨rfl, hb⟩
      have HB := hid (HB.out.trans (hb.mono HB.out.size))
      have LT := hid (LT.out.old hb)
      have p0 := LT.out.c 0 rfl
      have p1 := LT.out.c 1 rfl
      have p2 := LT.out.c 2 rfl
      have p3 := LT.out.c 3 rfl
      clear hb
      go_wp2_with fail
      refine hK.out _ _ ?_ (fun hHeld => ?_)
      ·first | ((first | with_reducible exact ⟨p0, p1, p2, p3⟩ | exact ⟨p0, p1, p2, p3⟩)) | ((try dsimp only); (first | with_reducible exact ⟨p0, p1, p2, p3⟩ | exact ⟨p0, p1, p2, p3⟩))
      refine tk (i := 10) (v := ?_) rfl (by kernel_rfl) (fun _ _ _ h => h) (Or.inl ⟨by rfl, ?_⟩) (by assumption) ?_
      rotate_left
      ·(intro w hSw; (try dsimp only at hSw); go_simp; try (with_reducible rfl))
      try simp only [Act.put, ka1, ka2, ka3, ka4, ka5, ka6]
      refine tk (i := 11) (v := ?_) rfl (by kernel_rfl) (fun _ _ _ h => h) (Or.inl ⟨by rfl, ?_⟩) (by assumption) ?_
      rotate_left
      ·(intro w hSw; (try dsimp only at hSw); go_simp; try (with_reducible rfl))
      try simp only [Act.put, ka1, ka2, ka3, ka4, ka5, ka6]
      refine tk (i := 12) (v := ?_) rfl (by kernel_rfl) (fun _ _ _ h => h) (Or.inl ⟨by rfl, ?_⟩) (by assumption) ?_
      rotate_left
      ·(intro w hSw; (try dsimp only at hSw); go_simp; try (with_reducible rfl))
      try simp only [Act.put, ka1, ka2, ka3, ka4, ka5, ka6]
      refine tk (i := 13) (v := undef) rfl (by kernel_rfl) (fun _ _ _ h => h) (Or.inr ⟨by rfl, rfl⟩) (by assumption) ?_
      try simp only [Act.put, ka1, ka2, ka3, ka4, ka5, ka6]
      refine tk (i := 14) (v := undef) rfl (by kernel_rfl) (fun _ _ _ h => h) (Or.inr ⟨by rfl, rfl⟩) (by assumption) ?_
      try simp only [Act.put, ka1, ka2, ka3, ka4, ka5, ka6]
      refine tk (i := 15) (v := undef) rfl (by kernel_rfl) (fun _ _ _ h => h) (Or.inr ⟨by rfl, rfl⟩) (by assumption) ?_
      try simp only [Act.put, ka1, ka2, ka3, ka4, ka5, ka6]
      refine tk (i := 16) (v := undef) rfl (by kernel_rfl) (fun _ _ _ h => h) (Or.inr ⟨by rfl, rfl⟩) (by assumption) ?_
      try simp only [Act.put, ka1, ka2, ka3, ka4, ka5, ka6]
      refine tk (i := 17) (v := undef) rfl (by kernel_rfl) (fun _ _ _ h => h) (Or.inr ⟨by rfl, rfl⟩) (by assumption) ?_
      try simp only [Act.put, ka1, ka2, ka3, ka4, ka5, ka6]
      refine tk (i := 18) (v := undef) rfl (by kernel_rfl) (fun _ _ _ h => h) (Or.inr ⟨by rfl, rfl⟩) (by assumption) ?_
      try simp only [Act.put, ka1, ka2, ka3, ka4, ka5, ka6]
      refine tk (i := 19) (v := ?_) rfl (by kernel_rfl) (fun _ _ _ h => h) (Or.inl ⟨by rfl, ?_⟩) (by assumption) ?_
      rotate_left
      ·(intro w hSw; (try dsimp only at hSw); go_simp; try (with_reducible rfl))
      try simp only [Act.put, ka1, ka2, ka3, ka4, ka5, ka6]
      refine tk (i := 20) (v := ?_) rfl (by kernel_rfl) (fun _ _ _ h => h) (Or.inl ⟨by rfl, ?_⟩) (by assumption) ?_
      rotate_left
      ·(intro w hSw; (try dsimp only at hSw); go_simp; try (with_reducible rfl))
      try simp only [Act.put, ka1, ka2, ka3, ka4, ka5, ka6]
      refine tk (i := 21) (v := undef) rfl (by kernel_rfl) (fun _ _ _ h => h) (Or.inr ⟨by rfl, rfl⟩) (by assumption) ?_
      try simp only [Act.put, ka1, ka2, ka3, ka4, ka5, ka6]
      refine tk (i := 22) (v := undef) rfl (by kernel_rfl) (fun _ _ _ h => h) (Or.inr ⟨by rfl, rfl⟩) (by assumption) ?_
      try simp only [Act.put, ka1, ka2, ka3, ka4, ka5, ka6]
      refine tk (i := 23) (v := undef) rfl (by kernel_rfl) (fun _ _ _ h => h) (Or.inr ⟨by rfl, rfl⟩) (by assumption) ?_
      try simp only [Act.put, ka1, ka2, ka3, ka4, ka5, ka6]
      refine tk (i := 24) (v := undef) rfl (by kernel_rfl) (fun _ _ _ h => h) (Or.inr ⟨by rfl, rfl⟩) (by assumption) ?_
      try simp only [Act.put, ka1, ka2, ka3, ka4, ka5, ka6]
      refine tk (i := 25) (v := undef) rfl (by kernel_rfl) (fun _ _ _ h => h) (Or.inr ⟨by rfl, rfl⟩) (by assumption) ?_
      try simp only [Act.put, ka1, ka2, ka3, ka4, ka5, ka6]
      refine tk (i := 26) (v := undef) rfl (by kernel_rfl) (fun _ _ _ h => h) (Or.inr ⟨by rfl, rfl⟩) (by assumption) ?_
      try simp only [Act.put, ka1, ka2, ka3, ka4, ka5, ka6]
      refine tk (i := 27) (v := undef) rfl (by kernel_rfl) (fun _ _ _ h => h) (Or.inr ⟨by rfl, rfl⟩) (by assumption) ?_
      try simp only [Act.put, ka1, ka2, ka3, ka4, ka5, ka6]
      refine tk (i := 28) (v := undef) rfl (by kernel_rfl) (fun _ _ _ h => h) (Or.inr ⟨by rfl, rfl⟩) (by assumption) ?_
      try simp only [Act.put, ka1, ka2, ka3, ka4, ka5, ka6]
      refine tk (i := 29) (v := undef) rfl (by kernel_rfl) (fun _ _ _ h => h) (Or.inr ⟨by rfl, rfl⟩) (by assumption) ?_
      try simp only [Act.put, ka1, ka2, ka3, ka4, ka5, ka6]
      refine tk (i := 30) (v := undef) rfl (by kernel_rfl) (fun _ _ _ h => h) (Or.inr ⟨by rfl, rfl⟩) (by assumption) ?_
      try simp only [Act.put, ka1, ka2, ka3, ka4, ka5, ka6]
      refine tk (i := 31) (v := undef) rfl (by kernel_rfl) (fun _ _ _ h => h) (Or.inr ⟨by rfl, rfl⟩) (by assumption) ?_
      try simp only [Act.put, ka1, ka2, ka3, ka4, ka5, ka6]
      refine tk (i := 32) (v := undef) rfl (by kernel_rfl) (fun _ _ _ h => h) (Or.inr ⟨by rfl, rfl⟩) (by assumption) ?_
      try simp only [Act.put, ka1, ka2, ka3, ka4, ka5, ka6]
      refine tk (i := 33) (v := undef) rfl (by kernel_rfl) (fun _ _ _ h => h) (Or.inr ⟨by rfl, rfl⟩) (by assumption) ?_
      try simp only [Act.put, ka1, ka2, ka3, ka4, ka5, ka6]
      refine tk (i := 34) (v := ?_) rfl (by kernel_rfl) (fun _ _ _ h => h) (Or.inl ⟨by rfl, ?_⟩) (by assumption) ?_
      rotate_left
      ·(intro w hSw; (try dsimp only at hSw); go_simp; try (with_reducible rfl))
      try simp only [Act.put, ka1, ka2, ka3, ka4, ka5, ka6]
      refine wpAnyH_done (by kernel_rfl) ?_ _
      try clear p0 p1 p2 p3
      go_wp2
      go_ret
      exact ⟨bool_retT (by rw [HB0.out, hret]), HB.out⟩
     |some r =>
      have hmg := hmg rfl
      rw [← HN.out] at hmg
      by_cases h0 : n3 = 0
      ·have hret := hno.out (fun z0 z1 => by simp [hmg.1 h0])
       clear hmg HN
       subst h0
       go_wp2_with fail
       have LT := hid (LT.out.old (Below_drew1 (Below.refl _ _)))
       have HB := hid (Below_drew1 HB.out)
       have p0 := LT.out.c 0 rfl
       have p1 := LT.out.c 1 rfl
       have p2 := LT.out.c 2 rfl
       have p3 := LT.out.c 3 rfl
       refine wp_region_held_drew (S := fun w' => w'.cell? ⟨wr.heap.size, 0, none⟩ = some (.int .i64 x) ∧ w'.cell? ⟨wr.heap.size, 1, none⟩ = some (.bool s) ∧ w'.cell? ⟨wr.heap.size, 2, none⟩ = some (.slice a3 0 c3) ∧ w'.cell? ⟨wr.heap.size, 3, none⟩ = some (.slice b3 m3 d3)) (by kernel_rfl) (by first | ((first | with_reducible exact ⟨p0, p1, p2, p3⟩ | exact ⟨p0, p1, p2, p3⟩)) | ((try dsimp only); (first | with_reducible exact ⟨p0, p1, p2, p3⟩ | exact ⟨p0, p1, p2, p3⟩))) (fun hHeld => ?_)
       refine tk (i := 0) (v := ?_) rfl (by kernel_rfl) (fun _ _ _ h => h) (Or.inl ⟨by rfl, ?_⟩) (by assumption) ?_
       rotate_left
       ·(intro w hSw; (try dsimp only at hSw); go_simp; try (with_reducible rfl))
       try simp only [Act.put, ka1, ka2, ka3, ka4, ka5]
       refine tk (i := 1) (v := ?_) rfl (by kernel_rfl) (fun _ _ _ h => h) (Or.inl ⟨by rfl, ?_⟩) (by assumption) ?_
       rotate_left
       ·(intro w hSw; (try dsimp only at hSw); go_simp; try (with_reducible rfl))
       try simp only [Act.put, ka1, ka2, ka3, ka4, ka5, ka6]
       refine tk (i := 2) (v := ?_) rfl (by kernel_rfl) (fun _ _ _ h => h) (Or.inl ⟨by rfl, ?_⟩) (by assumption) ?_
       rotate_left
       ·(intro w hSw; (try dsimp only at hSw); go_simp; try (with_reducible rfl))
       try simp only [Act.put, ka1, ka2, ka3, ka4, ka5, ka6]
       refine tk (i := 3) (v := ?_) rfl (by kernel_rfl) (fun _ _ _ h => h) (Or.inl ⟨by rfl, ?_⟩) (by assumption) ?_
       rotate_left
       ·(intro w hSw; (try dsimp only at hSw); go_simp; try (with_reducible rfl))
       try simp only [Act.put, ka1, ka2, ka3, ka4, ka5, ka6]
       refine wpAnyH_ready (rs := [4]) (by kernel_rfl) (by simp) ?_
       refine AllReadyH.cons (o := _) rfl (fun K hK => ?_) AllReadyH.nil
       go_simp
       (with_reducible refine (KI.out _).mono ?_)
       rintro e w2 ⟨rfl, rfl⟩
       go_wp2_with fail
       refine hK.out _ _ ?_ (fun hHeld => ?_)
       ·first | ((first | with_reducible exact ⟨p0, p1, p2, p3⟩ | exact ⟨p0, p1, p2, p3⟩)) | ((try dsimp only); (first | with_reducible exact ⟨p0, p1, p2, p3⟩ | exact ⟨p0, p1, p2, p3⟩))
       refine tk (i := 5) (v := ?_) rfl (by kernel_rfl) (fun _ _ _ h => h) (Or.inl ⟨by rfl, ?_⟩) (by assumption) ?_
       rotate_left
       ·(intro w hSw; (try dsimp only at hSw); go_simp; try (with_reducible rfl))
       try simp only [Act.put, ka1, ka2, ka3, ka4, ka5, ka6]
       refine tk (i := 6) (v := ?_) rfl (by kernel_rfl) (fun _ _ _ h => h) (Or.inl ⟨by rfl, ?_⟩) (by assumption) ?_
       rotate_left
       ·(intro w hSw; (try dsimp only at hSw); go_simp; try (with_reducible rfl))
       try simp only [Act.put, ka1, ka2, ka3, ka4, ka5, ka6]
       refine tk (i := 7) (v := ?_) rfl (by kernel_rfl) (fun _ _ _ h => h) (Or.inl ⟨by rfl, ?_⟩) (by assumption) ?_
       rotate_left
       ·(intro w hSw; (try dsimp only at hSw); go_simp; try (with_reducible rfl))
       try simp only [Act.put, ka1, ka2, ka3, ka4, ka5, ka6]
       refine tk (i := 8) (v := ?_) rfl (by kernel_rfl) (fun _ _ _ h => h) (Or.inl ⟨by rfl, ?_⟩) (by assumption) ?_
       rotate_left
       ·(intro w hSw; (try dsimp only at hSw); go_simp; try (with_reducible rfl))
       try simp only [Act.put, ka1, ka2, ka3, ka4, ka5, ka6]
       refine wpAnyH_ready (rs := [9]) (by kernel_rfl) (by simp) ?_
       refine AllReadyH.cons (o := _) rfl (fun K hK => ?_) AllReadyH.nil
       go_simp
       (with_reducible refine (KS.out _ (Below_drew1 below_new')).mono ?_)
       rintro e w2 ⟨rfl, hb⟩
       have HB := hid (HB.out.trans (hb.mono HB.out.size))
       have LT := hid (LT.out.old hb)
       have p0 := LT.out.c 0 rfl
       have p1 := LT.out.c 1 rfl
       have p2 := LT.out.c 2 rfl
       have p3 := LT.out.c 3 rfl
       clear hb
       go_wp2_with fail
       refine hK.out _ _ ?_ (fun hHeld => ?_)
       ·first | ((first | with_reducible exact ⟨p0, p1, p2, p3⟩ | exact ⟨p0, p1, p2, p3⟩)) | ((try dsimp only); (first | with_reducible exact ⟨p0, p1, p2, p3⟩ | exact ⟨p0, p1, p2, p3⟩))
       refine tk (i := 10) (v := ?_) rfl (by kernel_rfl) (fun _ _ _ h => h) (Or.inl ⟨by rfl, ?_⟩) (by assumption) ?_
       rotate_left
       ·(intro w hSw; (try dsimp only at hSw); go_simp; try (with_reducible rfl))
       try simp only [Act.put, ka1, ka2, ka3, ka4, ka5, ka6]
       refine tk (i := 11) (v := ?_) rfl (by kernel_rfl) (fun _ _ _ h => h) (Or.inl ⟨by rfl, ?_⟩) (by assumption) ?_
       rotate_left
       ·(intro w hSw; (try dsimp only at hSw); go_simp; try (with_reducible rfl))
       try simp only [Act.put, ka1, ka2, ka3, ka4, ka5, ka6]
       refine tk (i := 12) (v := ?_) rfl (by kernel_rfl) (fun _ _ _ h => h) (Or.inl ⟨by rfl, ?_⟩) (by assumption) ?_
       rotate_left
       ·(intro w hSw; (try dsimp only at hSw); go_simp; try (with_reducible rfl))
       try simp only [Act.put, ka1, ka2, ka3, ka4, ka5, ka6]
       refine tk (i := 13) (v := ?_) rfl (by kernel_rfl) (fun _ _ _ h => h) (Or.inl ⟨by rfl, ?_⟩) (by assumption) ?_
       rotate_left
       ·(intro w hSw; (try dsimp only at hSw); go_simp; try (with_reducible rfl))
       try simp only [Act.put, ka1, ka2, ka3, ka4, ka5, ka6]
       refine tk (i := 14) (v := ?_) rfl (by kernel_rfl) (fun _ _ _ h => h) (Or.inl ⟨by rfl, ?_⟩) (by assumption) ?_
       rotate_left
       ·(intro w hSw; (try dsimp only at hSw); go_simp; try (with_reducible rfl))
       try simp only [Act.put, ka1, ka2, ka3, ka4, ka5, ka6]
       refine tk (i := 15) (v := ?_) rfl (by kernel_rfl) (fun _ _ _ h => h) (Or.inl ⟨by rfl, ?_⟩) (by assumption) ?_
       rotate_left
       ·(intro w hSw; (try dsimp only at hSw); go_simp; try (with_reducible rfl))
       try simp only [Act.put, ka1, ka2, ka3, ka4, ka5, ka6]
       refine tk (i := 16) (v := ?_) rfl (by kernel_rfl) (fun _ _ _ h => h) (Or.inl ⟨by rfl, ?_⟩) (by assumption) ?_
       rotate_left
       ·(intro w hSw; (try dsimp only at hSw); go_simp; try (with_reducible rfl))
       try simp only [Act.put, ka1, ka2, ka3, ka4, ka5, ka6]
       refine tk (i := 17) (v := ?_) rfl (by kernel_rfl) (fun _ _ _ h => h) (Or.inl ⟨by rfl, ?_⟩) (by assumption) ?_
       rotate_left
       ·(intro w hSw; (try dsimp only at hSw); go_simp; try (with_reducible rfl))
       try simp only [Act.put, ka1, ka2, ka3, ka4, ka5, ka6]
       refine tk (i := 18) (v := ?_) rfl (by kernel_rfl) (fun _ _ _ h => h) (Or.inl ⟨by rfl, ?_⟩) (by assumption) ?_
       rotate_left
       ·(intro w hSw; (try dsimp only at hSw); go_simp; try (with_reducible rfl))
       try simp only [Act.put, ka1, ka2, ka3, ka4, ka5, ka6]
       refine tk (i := 19) (v := ?_) rfl (by kernel_rfl) (fun _ _ _ h => h) (Or.inl ⟨by rfl, ?_⟩) (by assumption) ?_
       rotate_left
       ·(intro w hSw; (try dsimp only at hSw); go_simp; try (with_reducible rfl))
       try simp only [Act.put, ka1, ka2, ka3, ka4, ka5, ka6]
       refine tk (i := 20) (v := ?_) rfl (by kernel_rfl) (fun _ _ _ h => h) (Or.inl ⟨by rfl, ?_⟩) (by assumption) ?_
       rotate_left
       ·(intro w hSw; (try dsimp only at hSw); go_simp; try (with_reducible rfl))
       try simp only [Act.put, ka1, ka2, ka3, ka4, ka5, ka6]
       refine tk (i := 21) (v := undef) rfl (by kernel_rfl) (fun _ _ _ h => h) (Or.inr ⟨by rfl, rfl⟩) (by assumption) ?_
       try simp only [Act.put, ka1, ka2, ka3, ka4, ka5, ka6]
       refine tk (i := 22) (v := undef) rfl (by kernel_rfl) (fun _ _ _ h => h) (Or.inr ⟨by rfl, rfl⟩) (by assumption) ?_
       try simp only [Act.put, ka1, ka2, ka3, ka4, ka5, ka6]
       refine tk (i := 23) (v := undef) rfl (by kernel_rfl) (fun _ _ _ h => h) (Or.inr ⟨by rfl, rfl⟩) (by assumption) ?_
       try simp only [Act.put, ka1, ka2, ka3, ka4, ka5, ka6]
       refine tk (i := 24) (v := undef) rfl (by kernel_rfl) (fun _ _ _ h => h) (Or.inr ⟨by rfl, rfl⟩) (by assumption) ?_
       try simp only [Act.put, ka1, ka2, ka3, ka4, ka5, ka6]
       refine tk (i := 25) (v := undef) rfl (by kernel_rfl) (fun _ _ _ h => h) (Or.inr ⟨by rfl, rfl⟩) (by assumption) ?_
       try simp only [Act.put, ka1, ka2, ka3, ka4, ka5, ka6]
       refine tk (i := 26) (v := undef) rfl (by kernel_rfl) (fun _ _ _ h => h) (Or.inr ⟨by rfl, rfl⟩) (by assumption) ?_
       try simp only [Act.put, ka1, ka2, ka3, ka4, ka5, ka6]
       refine tk (i := 27) (v := undef) rfl (by kernel_rfl) (fun _ _ _ h => h) (Or.inr ⟨by rfl, rfl⟩) (by assumption) ?_
       try simp only [Act.put, ka1, ka2, ka3, ka4, ka5, ka6]
       refine tk (i := 28) (v := undef) rfl (by kernel_rfl) (fun _ _ _ h => h) (Or.inr ⟨by rfl, rfl⟩) (by assumption) ?_
       try simp only [Act.put, ka1, ka2, ka3, ka4, ka5, ka6]
       refine tk (i := 29) (v := undef) rfl (by kernel_rfl) (fun _ _ _ h => h) (Or.inr ⟨by rfl, rfl⟩) (by assumption) ?_
       try simp only [Act.put, ka1, ka2, ka3, ka4, ka5, ka6]
       refine tk (i := 30) (v := undef) rfl (by kernel_rfl) (fun _ _ _ h => h) (Or.inr ⟨by rfl, rfl⟩) (by assumption) ?_
       try simp only [Act.put, ka1, ka2, ka3, ka4, ka5, ka6]
       refine tk (i := 31) (v := undef) rfl (by kernel_rfl) (fun _ _ _ h => h) (Or.inr ⟨by rfl, rfl⟩) (by assumption) ?_
       try simp only [Act.put, ka1, ka2, ka3, ka4, ka5, ka6]
       refine tk (i := 32) (v := undef) rfl (by kernel_rfl) (fun _ _ _ h => h) (Or.inr ⟨by rfl, rfl⟩) (by assumption) ?_
       try simp only [Act.put, ka1, ka2, ka3, ka4, ka5, ka6]
       refine tk (i := 33) (v := undef) rfl (by kernel_rfl) (fun _ _ _ h => h) (Or.inr ⟨by rfl, rfl⟩) (by assumption) ?_
       try simp only [Act.put, ka1, ka2, ka3, ka4, ka5, ka6]
       refine tk (i := 34) (v := ?_) rfl (by kernel_rfl) (fun _ _ _ h => h) (Or.inl ⟨by rfl, ?_⟩) (by assumption) ?_
       rotate_left
       ·(intro w hSw; (try dsimp only at hSw); go_simp; try (with_reducible rfl))
       try simp only [Act.put, ka1, ka2, ka3, ka4, ka5, ka6]
       refine wpAnyH_done (by kernel_rfl) ?_ _
       try clear p0 p1 p2 p3
       go_wp2
       go_ret
       exact ⟨bool_retT (by rw [HB0.out, hret]), HB.out⟩
      ·have hn0 : ((n3 : Int) == 0) = false := by simp; omega
       have hnz : nz (some r) = true := by cases e : nz (some r) with
        | true => rfl
        | false => exact absurd (hmg.2 e) h0
       have HNZ := hid hnz
       clear hnz hmg
       go_wp2_with fail
       have LT := hid (LT.out.old (Below_drew1 (Below.refl _ _)))
       have HB := hid (Below_drew1 HB.out)
       have p0 := LT.out.c 0 rfl
       have p1 := LT.out.c 1 rfl
       have p2 := LT.out.c 2 rfl
       have p3 := LT.out.c 3 rfl
       refine wp_region_held_drew (S := fun w' => w'.cell? ⟨wr.heap.size, 0, none⟩ = some (.int .i64 x) ∧ w'.cell? ⟨wr.heap.size, 1, none⟩ = some (.bool s) ∧ w'.cell? ⟨wr.heap.size, 2, none⟩ = some (.slice a3 n3 c3) ∧ w'.cell? ⟨wr.heap.size, 3, none⟩ = some (.slice b3 m3 d3)) (by kernel_rfl) (by first | ((first | with_reducible exact ⟨p0, p1, p2, p3⟩ | exact ⟨p0, p1, p2, p3⟩)) | ((try dsimp only); (first | with_reducible exact ⟨p0, p1, p2, p3⟩ | exact ⟨p0, p1, p2, p3⟩))) (fun hHeld => ?_)
       refine tk (i := 0) (v := ?_) rfl (by kernel_rfl) (fun _ _ _ h => h) (Or.inl ⟨by rfl, ?_⟩) (by assumption) ?_
       rotate_left
       ·(intro w hSw; (try dsimp only at hSw); go_simp; try (with_reducible rfl))
       try simp only [Act.put, ka1, ka2, ka3, ka4, ka5]
       refine tk (i := 1) (v := ?_) rfl (by kernel_rfl) (fun _ _ _ h => h) (Or.inl ⟨by rfl, ?_⟩) (by assumption) ?_
       rotate_left
       ·(intro w hSw; (try dsimp only at hSw); go_simp; try (with_reducible rfl))
       try simp only [Act.put, ka1, ka2, ka3, ka4, ka5, ka6]
       refine tk (i := 2) (v := ?_) rfl (by kernel_rfl) (fun _ _ _ h => h) (Or.inl ⟨by rfl, ?_⟩) (by assumption) ?_
       rotate_left
       ·(intro w hSw; (try dsimp only at hSw); go_simp; try (with_reducible rfl))
       try simp only [Act.put, ka1, ka2, ka3, ka4, ka5, ka6]
       refine tk (i := 3) (v := ?_) rfl (by kernel_rfl) (fun _ _ _ h => h) (Or.inl ⟨by rfl, ?_⟩) (by assumption) ?_
       rotate_left
       ·(intro w hSw; (try dsimp only at hSw); go_simp; try (with_reducible rfl))
       try simp only [Act.put, ka1, ka2, ka3, ka4, ka5, ka6]
       refine wpAnyH_ready (rs := [4]) (by kernel_rfl) (by simp) ?_
       refine AllReadyH.cons (o := _) rfl (fun K hK => ?_) AllReadyH.nil
       go_simp
       (with_reducible refine (KI.out _).mono ?_)
       rintro e w2 ⟨rfl, rfl⟩
       go_wp2_with fail
       refine hK.out _ _ ?_ (fun hHeld => ?_)
       ·first | ((first | with_reducible exact ⟨p0, p1, p2, p3⟩ | exact ⟨p0, p1, p2, p3⟩)) | ((try dsimp only); (first | with_reducible exact ⟨p0, p1, p2, p3⟩ | exact ⟨p0, p1, p2, p3⟩))
       refine tk (i := 5) (v := ?_) rfl (by kernel_rfl) (fun _ _ _ h => h) (Or.inl ⟨by rfl, ?_⟩) (by assumption) ?_
       rotate_left
       ·(intro w hSw; (try dsimp only at hSw); go_simp; try (with_reducible rfl))
       try simp only [Act.put, ka1, ka2, ka3, ka4, ka5, ka6]
       refine tk (i := 6) (v := ?_) rfl (by kernel_rfl) (fun _ _ _ h => h) (Or.inl ⟨by rfl, ?_⟩) (by assumption) ?_
       rotate_left
       ·(intro w hSw; (try dsimp only at hSw); go_simp; try (with_reducible rfl))
       try simp only [Act.put, ka1, ka2, ka3, ka4, ka5, ka6]
       refine tk (i := 7) (v := ?_) rfl (by kernel_rfl) (fun _ _ _ h => h) (Or.inl ⟨by rfl, ?_⟩) (by assumption) ?_
       rotate_left
       ·(intro w hSw; (try dsimp only at hSw); go_simp; try (with_reducible rfl))
       try simp only [Act.put, ka1, ka2, ka3, ka4, ka5, ka6]
       refine tk (i := 8) (v := ?_) rfl (by kernel_rfl) (fun _ _ _ h => h) (Or.inl ⟨by rfl, ?_⟩) (by assumption) ?_
       rotate_left
       ·(intro w hSw; (try dsimp only at hSw); go_simp; try (with_reducible rfl))
       try simp only [Act.put, ka1, ka2, ka3, ka4, ka5, ka6]
       refine wpAnyH_ready (rs := [9]) (by kernel_rfl) (by simp) ?_
       refine AllReadyH.cons (o := _) rfl (fun K hK => ?_) AllReadyH.nil
       go_simp
       (with_reducible refine (KS.out _ (Below_drew1 below_new')).mono ?_)
       rintro e w2 ⟨rfl, hb⟩
       have HB := hid (HB.out.trans (hb.mono HB.out.size))
       have LT := hid (LT.out.old hb)
       have p0 := LT.out.c 0 rfl
       have p1 := LT.out.c 1 rfl
       have p2 := LT.out.c 2 rfl
       have p3 := LT.out.c 3 rfl
       clear hb
       go_wp2_with fail
       refine hK.out _ _ ?_ (fun hHeld => ?_)
       ·first | ((first | with_reducible exact ⟨p0, p1, p2, p3⟩ | exact ⟨p0, p1, p2, p3⟩)) | ((try dsimp only); (first | with_reducible exact ⟨p0, p1, p2, p3⟩ | exact ⟨p0, p1, p2, p3⟩))
       refine tk (i := 10) (v := ?_) rfl (by kernel_rfl) (fun _ _ _ h => h) (Or.inl ⟨by rfl, ?_⟩) (by assumption) ?_
       rotate_left
       ·(intro w hSw; (try dsimp only at hSw); go_simp; try (with_reducible rfl))
       try simp only [Act.put, ka1, ka2, ka3, ka4, ka5, ka6]
       refine tk (i := 11) (v := ?_) rfl (by kernel_rfl) (fun _ _ _ h => h) (Or.inl ⟨by rfl, ?_⟩) (by assumption) ?_
       rotate_left
       ·(intro w hSw; (try dsimp only at hSw); go_simp; try (with_reducible rfl))
       try simp only [Act.put, ka1, ka2, ka3, ka4, ka5, ka6]
       refine tk (i := 12) (v := ?_) rfl (by kernel_rfl) (fun _ _ _ h => h) (Or.inl ⟨by rfl, ?_⟩) (by assumption) ?_
       rotate_left
       ·(intro w hSw; (try dsimp only at hSw); go_simp; try (with_reducible rfl))
       try simp only [Act.put, ka1, ka2, ka3, ka4, ka5, ka6]
       refine tk (i := 13) (v := ?_) rfl (by kernel_rfl) (fun _ _ _ h => h) (Or.inl ⟨by rfl, ?_⟩) (by assumption) ?_
       rotate_left
       ·(intro w hSw; (try dsimp only at hSw); go_simp; try (with_reducible rfl))
       try simp only [Act.put, ka1, ka2, ka3, ka4, ka5, ka6]
       refine tk (i := 14) (v := ?_) rfl (by kernel_rfl) (fun _ _ _ h => h) (Or.inl ⟨by rfl, ?_⟩) (by assumption) ?_
       rotate_left
       ·(intro w hSw; (try dsimp only at hSw); go_simp; try (with_reducible rfl))
       try simp only [Act.put, ka1, ka2, ka3, ka4, ka5, ka6]
       refine tk (i := 15) (v := ?_) rfl (by kernel_rfl) (fun _ _ _ h => h) (Or.inl ⟨by rfl, ?_⟩) (by assumption) ?_
       rotate_left
       ·(intro w hSw; (try dsimp only at hSw); go_simp; try (with_reducible rfl))
       try simp only [Act.put, ka1, ka2, ka3, ka4, ka5, ka6]
       refine tk (i := 16) (v := ?_) rfl (by kernel_rfl) (fun _ _ _ h => h) (Or.inl ⟨by rfl, ?_⟩) (by assumption) ?_
       rotate_left
       ·(intro w hSw; (try dsimp only at hSw); go_simp; try (with_reducible rfl))
       try simp only [Act.put, ka1, ka2, ka3, ka4, ka5, ka6]
       refine tk (i := 17) (v := ?_) rfl (by kernel_rfl) (fun _ _ _ h => h) (Or.inl ⟨by rfl, ?_⟩) (by assumption) ?_
       rotate_left
       ·(intro w hSw; (try dsimp only at hSw); go_simp; try (with_reducible rfl))
       try simp only [Act.put, ka1, ka2, ka3, ka4, ka5, ka6]
       refine tk (i := 18) (v := ?_) rfl (by kernel_rfl) (fun _ _ _ h => h) (Or.inl ⟨by rfl, ?_⟩) (by assumption) ?_
       rotate_left
       ·(intro w hSw; (try dsimp only at hSw); go_simp; try (with_reducible rfl))
       try simp only [Act.put, ka1, ka2, ka3, ka4, ka5, ka6]
       refine tk (i := 19) (v := ?_) rfl (by kernel_rfl) (fun _ _ _ h => h) (Or.inl ⟨by rfl, ?_⟩) (by assumption) ?_
       rotate_left
       ·(intro w hSw; (try dsimp only at hSw); go_simp; try (with_reducible rfl))
       try simp only [Act.put, ka1, ka2, ka3, ka4, ka5, ka6]
       refine tk (i := 20) (v := ?_) rfl (by kernel_rfl) (fun _ _ _ h => h) (Or.inl ⟨by rfl, ?_⟩) (by assumption) ?_
       rotate_left
       ·(intro w hSw; (try dsimp only at hSw); go_simp; try (with_reducible rfl))
       try simp only [Act.put, ka1, ka2, ka3, ka4, ka5, ka6]
       refine tk (i := 21) (v := ?_) rfl (by kernel_rfl) (fun _ _ _ h => h) (Or.inl ⟨by rfl, ?_⟩) (by assumption) ?_
       rotate_left
       ·(intro w hSw; (try dsimp only at hSw); go_simp; try (with_reducible rfl))
       try simp only [Act.put, ka1, ka2, ka3, ka4, ka5, ka6]
       refine tk (i := 22) (v := ?_) rfl (by kernel_rfl) (fun _ _ _ h => h) (Or.inl ⟨by rfl, ?_⟩) (by assumption) ?_
       rotate_left
       ·(intro w hSw; (try dsimp only at hSw); go_simp; try (with_reducible rfl))
       try simp only [Act.put, ka1, ka2, ka3, ka4, ka5, ka6]
       refine tk (i := 23) (v := ?_) rfl (by kernel_rfl) (fun _ _ _ h => h) (Or.inl ⟨by rfl, ?_⟩) (by assumption) ?_
       rotate_left
       ·(intro w hSw; (try dsimp only at hSw); go_simp; try (with_reducible rfl))
       try simp only [Act.put, ka1, ka2, ka3, ka4, ka5, ka6]
       refine tk (i := 24) (v := undef) rfl (by kernel_rfl) (fun _ _ _ h => h) (Or.inr ⟨by rfl, rfl⟩) (by assumption) ?_
       try simp only [Act.put, ka1, ka2, ka3, ka4, ka5, ka6]
       refine tk (i := 25) (v := undef) rfl (by kernel_rfl) (fun _ _ _ h => h) (Or.inr ⟨by rfl, rfl⟩) (by assumption) ?_
       try simp only [Act.put, ka1, ka2, ka3, ka4, ka5, ka6]
       refine tk (i := 26) (v := undef) rfl (by kernel_rfl) (fun _ _ _ h => h) (Or.inr ⟨by rfl, rfl⟩) (by assumption) ?_
       try simp only [Act.put, ka1, ka2, ka3, ka4, ka5, ka6]
       refine tk (i := 27) (v := undef) rfl (by kernel_rfl) (fun _ _ _ h => h) (Or.inr ⟨by rfl, rfl⟩) (by assumption) ?_
       try simp only [Act.put, ka1, ka2, ka3, ka4, ka5, ka6]
       refine tk (i := 28) (v := undef) rfl (by kernel_rfl) (fun _ _ _ h => h) (Or.inr ⟨by rfl, rfl⟩) (by assumption) ?_
       try simp only [Act.put, ka1, ka2, ka3, ka4, ka5, ka6]
       refine tk (i := 29) (v := undef) rfl (by kernel_rfl) (fun _ _ _ h => h) (Or.inr ⟨by rfl, rfl⟩) (by assumption) ?_
       try simp only [Act.put, ka1, ka2, ka3, ka4, ka5, ka6]
       refine tk (i := 30) (v := undef) rfl (by kernel_rfl) (fun _ _ _ h => h) (Or.inr ⟨by rfl, rfl⟩) (by assumption) ?_
       try simp only [Act.put, ka1, ka2, ka3, ka4, ka5, ka6]
       refine tk (i := 31) (v := undef) rfl (by kernel_rfl) (fun _ _ _ h => h) (Or.inr ⟨by rfl, rfl⟩) (by assumption) ?_
       try simp only [Act.put, ka1, ka2, ka3, ka4, ka5, ka6]
       refine tk (i := 32) (v := undef) rfl (by kernel_rfl) (fun _ _ _ h => h) (Or.inr ⟨by rfl, rfl⟩) (by assumption) ?_
       try simp only [Act.put, ka1, ka2, ka3, ka4, ka5, ka6]
       refine tk (i := 33) (v := ?_) rfl (by kernel_rfl) (fun _ _ _ h => h) (Or.inl ⟨by rfl, ?_⟩) (by assumption) ?_
       rotate_left
       ·(intro w hSw; (try dsimp only at hSw); go_simp; try (with_reducible rfl))
       try simp only [Act.put, ka1, ka2, ka3, ka4, ka5, ka6]
       refine tk (i := 34) (v := ?_) rfl (by kernel_rfl) (fun _ _ _ h => h) (Or.inl ⟨by rfl, ?_⟩) (by assumption) ?_
       rotate_left
       ·(intro w hSw; (try dsimp only at hSw); go_simp; try (with_reducible rfl))
       try simp only [Act.put, ka1, ka2, ka3, ka4, ka5, ka6]
       refine wpAnyH_done (by kernel_rfl) ?_ _
       try clear p0 p1 p2 p3
       go_wp2
       go_roundw
       case rel => exact ⟨0 + 1, by omega, by go_num, hid (fun z0 z1 => by rw [tokF_take hlt, hA.out z0 z1, hx0.out, HX.out, HO.out, HNZ.out]; have h1 := HP.out; have h2 := hHz.out z0 z1; simp only [Bool.and_eq_true, decide_eq_true_eq] at h1; simp; omega), HB.out⟩
       case measure => simp [intOf]; omega
   |succ j =>
    have hj : j < K.length := by omega
    have a1' : (0 : Int) ≤ j := by omega
    have a3 : (j : Int) < K.length := by omega
    have a4 : (j : Int) + 1 < K.length := by omega
    have hwj : IntKind.i64.wrap (j : Int) = (j : Int) := Go.IntWalk.i64_in _ ⟨by omega, by omega⟩
    obtain ⟨y, hy⟩ : ∃ y, K[j].c = y := ⟨_, rfl⟩
    have HY := hid hy
    have hy0 := hid (show 0 ≤ z → z ≤ 40 → (-1 : Int) ≤ y from fun z0 z1 => by
     have h1 := tokF_at (hA.out z0 z1) j (by rw [List.length_take]; omega)
     rw [List.getElem_take, hy] at h1
     omega)
    obtain ⟨gy, -, -, -, -, -, -, ey, -, qy, -⟩ := V.out.at hK hj
    rw [hy] at qy
    clear hy
    have hgy := hid ey
    clear ey
    obtain ⟨g, a3, n3, c3, b3, m3, d3, rfl, hg, qc, q0, q1, q2, R⟩ := V.out.at hK hlt
    obtain ⟨⟨x, s, A, D⟩, hf⟩ : ∃ f, K[(j + 1)]'(hlt) = f := ⟨_, rfl⟩
    simp only [hf] at qc q0 R
    have HF := hid hf
    clear hf
    obtain ⟨o, ho⟩ : ∃ o, Tq.o ⟨x, s, A, D⟩ = o := ⟨_, rfl⟩
    have HO := hid (show (K[(j + 1)]'(hlt)).o = o by rw [HF.out, ho])
    have HX := hid (show (K[(j + 1)]'(hlt)).c = x by rw [HF.out])
    have RX := hid (show RA wr s (.slice a3 n3 c3) (.slice b3 m3 d3) o from ⟨A, D, R, ho⟩)
    have RLX := hid R
    have RN := hid R.nums
    clear ho R
    have egy : g = gy := by simpa using hgy.out
    subst egy
    have hx0 := hid (show lastC (-1) (K.take (j + 1)) = y from by rw [lastC_take hj]; exact HY.out)
    have hno := hid (fun hn : 0 ≤ z → z ≤ 40 → (decide (y < x) && decide (x < z) && nz o) = false => (show tok K z = false by
     by_cases hz : 0 ≤ z ∧ z ≤ 40
     ·exact tok_no (n := z) hlt (by rw [hx0.out, HX.out, HO.out]; exact hn hz.1 hz.2)
     ·exact tok_out (by omega)))
    have HB := hid (hbel.alloc hbel.size (.cells #[.int .i64 x, .bool s, .slice a3 n3 c3, .slice b3 m3 d3] 146))
    have LT := hid (LocA.new (w := wr) (T := 146) (cs := #[.int .i64 x, .bool s, .slice a3 n3 c3, .slice b3 m3 d3]))
    have KS := hid (fun (W : World) (hb : Below wr.heap.size wr W) => sok_o (w := W) (RX.out.old hb))
    obtain ⟨p, hp⟩ : ∃ p, (decide (0 ≤ x) && decide (x ≤ H)) = p := ⟨_, rfl⟩
    have KI := hid (fun (W : World) => l01In_any x 0 H W)
    rw [hp] at KI
    have HP := hid hp
    have hmg := tq_mag (x := x) (s := s) (A := A) (D := D) (o := o) (by rw [← HO.out, HF.out])
    have HN := hid RN.out.1
    clear hp hbel
    have PV := hid (show ((wr.alloc (.cells #[.int .i64 x, .bool s, .slice a3 n3 c3, .slice b3 m3 d3] 146)).drew).cell? ⟨g, j * 4, none⟩ = some (.int .i64 y) from ((Below_drew1 (below_new' (w := wr) (o := .cells #[.int .i64 x, .bool s, .slice a3 n3 c3, .slice b3 m3 d3] 146))).cell (p := ⟨g, j * 4, none⟩) hg).trans qy)
    have PG0 := hid (show g < ((wr.alloc (.cells #[.int .i64 x, .bool s, .slice a3 n3 c3, .slice b3 m3 d3] 146)).drew).heap.size by show g < (wr.alloc _).heap.size; simp; omega)
    cases p with
    |false =>
     have hret := hno.out (fun z0 z1 => by
      have h1 := HP.out
      have h2 := hHz.out z0 z1
      simp only [Bool.and_eq_false_iff, decide_eq_false_iff_not] at h1
      have h3 : ¬ (y < x) ∨ ¬ (x < z) := by have := hy0.out z0 z1; omega
      rcases h3 with h | h <;> simp [h])
     go_wp2_with fail
     have LT := hid (LT.out.old (Below_drew1 (Below.refl _ _)))
     have HB := hid (Below_drew1 HB.out)
     have p0 := LT.out.c 0 rfl
     have p1 := LT.out.c 1 rfl
     have p2 := LT.out.c 2 rfl
     have p3 := LT.out.c 3 rfl
     have p4 := PV.out
     have PG := hid PG0.out
     refine wp_region_held_drew (S := fun w' => w'.cell? ⟨wr.heap.size, 0, none⟩ = some (.int .i64 x) ∧ w'.cell? ⟨wr.heap.size, 1, none⟩ = some (.bool s) ∧ w'.cell? ⟨wr.heap.size, 2, none⟩ = some (.slice a3 n3 c3) ∧ w'.cell? ⟨wr.heap.size, 3, none⟩ = some (.slice b3 m3 d3) ∧ w'.cell? ⟨g, j * 4, none⟩ = some (.int .i64 y)) (by kernel_rfl) (by first | ((first | with_reducible exact ⟨p0, p1, p2, p3, p4⟩ | exact ⟨p0, p1, p2, p3, p4⟩)) | ((try dsimp only); (first | with_reducible exact ⟨p0, p1, p2, p3, p4⟩ | exact ⟨p0, p1, p2, p3, p4⟩))) (fun hHeld => ?_)
     refine tk (i := 0) (v := ?_) rfl (by kernel_rfl) (fun _ _ _ h => h) (Or.inl ⟨by rfl, ?_⟩) (by assumption) ?_
     rotate_left
     ·(intro w hSw; (try dsimp only at hSw); go_simp; try (with_reducible rfl))
     try simp only [Act.put, ka1, ka2, ka3, ka4, ka5]
     refine tk (i := 1) (v := ?_) rfl (by kernel_rfl) (fun _ _ _ h => h) (Or.inl ⟨by rfl, ?_⟩) (by assumption) ?_
     rotate_left
     ·(intro w hSw; (try dsimp only at hSw); go_simp; try (with_reducible rfl))
     try simp only [Act.put, ka1, ka2, ka3, ka4, ka5, ka6]
     refine tk (i := 2) (v := ?_) rfl (by kernel_rfl) (fun _ _ _ h => h) (Or.inl ⟨by rfl, ?_⟩) (by assumption) ?_
     rotate_left
     ·(intro w hSw; (try dsimp only at hSw); go_simp; try (with_reducible rfl))
     try simp only [Act.put, ka1, ka2, ka3, ka4, ka5, ka6]
     refine tk (i := 3) (v := ?_) rfl (by kernel_rfl) (fun _ _ _ h => h) (Or.inl ⟨by rfl, ?_⟩) (by assumption) ?_
     rotate_left
     ·(intro w hSw; (try dsimp only at hSw); go_simp; try (with_reducible rfl))
     try simp only [Act.put, ka1, ka2, ka3, ka4, ka5, ka6]
     refine wpAnyH_ready (rs := [4]) (by kernel_rfl) (by simp) ?_
     refine AllReadyH.cons (o := _) rfl (fun K hK => ?_) AllReadyH.nil
     go_simp
     (with_reducible refine (KI.out _).mono ?_)
     rintro e w2 ⟨rfl, rfl⟩
     go_wp2_with fail
     refine hK.out _ _ ?_ (fun hHeld => ?_)
     ·first | ((first | with_reducible exact ⟨p0, p1, p2, p3, p4⟩ | exact ⟨p0, p1, p2, p3, p4⟩)) | ((try dsimp only); (first | with_reducible exact ⟨p0, p1, p2, p3, p4⟩ | exact ⟨p0, p1, p2, p3, p4⟩))
     refine tk (i := 5) (v := ?_) rfl (by kernel_rfl) (fun _ _ _ h => h) (Or.inl ⟨by rfl, ?_⟩) (by assumption) ?_
     rotate_left
     ·(intro w hSw; (try dsimp only at hSw); go_simp; try (with_reducible rfl))
     try simp only [Act.put, ka1, ka2, ka3, ka4, ka5, ka6]
     refine tk (i := 6) (v := ?_) rfl (by kernel_rfl) (fun _ _ _ h => h) (Or.inl ⟨by rfl, ?_⟩) (by assumption) ?_
     rotate_left
     ·(intro w hSw; (try dsimp only at hSw); go_simp; try (with_reducible rfl))
     try simp only [Act.put, ka1, ka2, ka3, ka4, ka5, ka6]
     refine tk (i := 7) (v := undef) rfl (by kernel_rfl) (fun _ _ _ h => h) (Or.inr ⟨by rfl, rfl⟩) (by assumption) ?_
     try simp only [Act.put, ka1, ka2, ka3, ka4, ka5, ka6]
     refine tk (i := 8) (v := undef) rfl (by kernel_rfl) (fun _ _ _ h => h) (Or.inr ⟨by rfl, rfl⟩) (by assumption) ?_
     try simp only [Act.put, ka1, ka2, ka3, ka4, ka5, ka6]
     refine tk (i := 9) (v := undef) rfl (by kernel_rfl) (fun _ _ _ h => h) (Or.inr ⟨by rfl, rfl⟩) (by assumption) ?_
     try simp only [Act.put, ka1, ka2, ka3, ka4, ka5, ka6]
     refine tk (i := 10) (v := undef) rfl (by kernel_rfl) (fun _ _ _ h => h) (Or.inr ⟨by rfl, rfl⟩) (by assumption) ?_
     try simp only [Act.put, ka1, ka2, ka3, ka4, ka5, ka6]
     refine tk (i := 11) (v := ?_) rfl (by kernel_rfl) (fun _ _ _ h => h) (Or.inl ⟨by rfl, ?_⟩) (by assumption) ?_
     rotate_left
     ·(intro w hSw; (try dsimp only at hSw); go_simp; try (with_reducible rfl))
     try simp only [Act.put, ka1, ka2, ka3, ka4, ka5, ka6]
     refine tk (i := 12) (v := ?_) rfl (by kernel_rfl) (fun _ _ _ h => h) (Or.inl ⟨by rfl, ?_⟩) (by assumption) ?_
     rotate_left
     ·(intro w hSw; (try dsimp only at hSw); go_simp; try (with_reducible rfl))
     try simp only [Act.put, ka1, ka2, ka3, ka4, ka5, ka6]
     refine tk (i := 13) (v := undef) rfl (by kernel_rfl) (fun _ _ _ h => h) (Or.inr ⟨by rfl, rfl⟩) (by assumption) ?_
     try simp only [Act.put, ka1, ka2, ka3, ka4, ka5, ka6]
     refine tk (i := 14) (v := undef) rfl (by kernel_rfl) (fun _ _ _ h => h) (Or.inr ⟨by rfl, rfl⟩) (by assumption) ?_
     try simp only [Act.put, ka1, ka2, ka3, ka4, ka5, ka6]
     refine tk (i := 15) (v := undef) rfl (by kernel_rfl) (fun _ _ _ h => h) (Or.inr ⟨by rfl, rfl⟩) (by assumption) ?_
     try simp only [Act.put, ka1, ka2, ka3, ka4, ka5, ka6]
     refine tk (i := 16) (v := undef) rfl (by kernel_rfl) (fun _ _ _ h => h) (Or.inr ⟨by rfl, rfl⟩) (by assumption) ?_
     try simp only [Act.put, ka1, ka2, ka3, ka4, ka5, ka6]
     refine tk (i := 17) (v := undef) rfl (by kernel_rfl) (fun _ _ _ h => h) (Or.inr ⟨by rfl, rfl⟩) (by assumption) ?_
     try simp only [Act.put, ka1, ka2, ka3, ka4, ka5, ka6]
     refine tk (i := 18) (v := undef) rfl (by kernel_rfl) (fun _ _ _ h => h) (Or.inr ⟨by rfl, rfl⟩) (by assumption) ?_
     try simp only [Act.put, ka1, ka2, ka3, ka4, ka5, ka6]
     refine tk (i := 19) (v := ?_) rfl (by kernel_rfl) (fun _ _ _ h => h) (Or.inl ⟨by rfl, ?_⟩) (by assumption) ?_
     rotate_left
     ·(intro w hSw; (try dsimp only at hSw); go_simp; try (with_reducible rfl))
     try simp only [Act.put, ka1, ka2, ka3, ka4, ka5, ka6]
     refine tk (i := 20) (v := ?_) rfl (by kernel_rfl) (fun _ _ _ h => h) (Or.inl ⟨by rfl, ?_⟩) (by assumption) ?_
     rotate_left
     ·(intro w hSw; (try dsimp only at hSw); go_simp; try (with_reducible rfl))
     try simp only [Act.put, ka1, ka2, ka3, ka4, ka5, ka6]
     refine tk (i := 21) (v := undef) rfl (by kernel_rfl) (fun _ _ _ h => h) (Or.inr ⟨by rfl, rfl⟩) (by assumption) ?_
     try simp only [Act.put, ka1, ka2, ka3, ka4, ka5, ka6]
     refine tk (i := 22) (v := undef) rfl (by kernel_rfl) (fun _ _ _ h => h) (Or.inr ⟨by rfl, rfl⟩) (by assumption) ?_
     try simp only [Act.put, ka1, ka2, ka3, ka4, ka5, ka6]
     refine tk (i := 23) (v := undef) rfl (by kernel_rfl) (fun _ _ _ h => h) (Or.inr ⟨by rfl, rfl⟩) (by assumption) ?_
     try simp only [Act.put, ka1, ka2, ka3, ka4, ka5, ka6]
     refine tk (i := 24) (v := undef) rfl (by kernel_rfl) (fun _ _ _ h => h) (Or.inr ⟨by rfl, rfl⟩) (by assumption) ?_
     try simp only [Act.put, ka1, ka2, ka3, ka4, ka5, ka6]
     refine tk (i := 25) (v := undef) rfl (by kernel_rfl) (fun _ _ _ h => h) (Or.inr ⟨by rfl, rfl⟩) (by assumption) ?_
     try simp only [Act.put, ka1, ka2, ka3, ka4, ka5, ka6]
     refine tk (i := 26) (v := undef) rfl (by kernel_rfl) (fun _ _ _ h => h) (Or.inr ⟨by rfl, rfl⟩) (by assumption) ?_
     try simp only [Act.put, ka1, ka2, ka3, ka4, ka5, ka6]
     refine tk (i := 27) (v := undef) rfl (by kernel_rfl) (fun _ _ _ h => h) (Or.inr ⟨by rfl, rfl⟩) (by assumption) ?_
     try simp only [Act.put, ka1, ka2, ka3, ka4, ka5, ka6]
     refine tk (i := 28) (v := undef) rfl (by kernel_rfl) (fun _ _ _ h => h) (Or.inr ⟨by rfl, rfl⟩) (by assumption) ?_
     try simp only [Act.put, ka1, ka2, ka3, ka4, ka5, ka6]
     refine tk (i := 29) (v := undef) rfl (by kernel_rfl) (fun _ _ _ h => h) (Or.inr ⟨by rfl, rfl⟩) (by assumption) ?_
     try simp only [Act.put, ka1, ka2, ka3, ka4, ka5, ka6]
     refine tk (i := 30) (v := undef) rfl (by kernel_rfl) (fun _ _ _ h => h) (Or.inr ⟨by rfl, rfl⟩) (by assumption) ?_
     try simp only [Act.put, ka1, ka2, ka3, ka4, ka5, ka6]
     refine tk (i := 31) (v := undef) rfl (by kernel_rfl) (fun _ _ _ h => h) (Or.inr ⟨by rfl, rfl⟩) (by assumption) ?_
     try simp only [Act.put, ka1, ka2, ka3, ka4, ka5, ka6]
     refine tk (i := 32) (v := undef) rfl (by kernel_rfl) (fun _ _ _ h => h) (Or.inr ⟨by rfl, rfl⟩) (by assumption) ?_
     try simp only [Act.put, ka1, ka2, ka3, ka4, ka5, ka6]
     refine tk (i := 33) (v := undef) rfl (by kernel_rfl) (fun _ _ _ h => h) (Or.inr ⟨by rfl, rfl⟩) (by assumption) ?_
     try simp only [Act.put, ka1, ka2, ka3, ka4, ka5, ka6]
     refine tk (i := 34) (v := ?_) rfl (by kernel_rfl) (fun _ _ _ h => h) (Or.inl ⟨by rfl, ?_⟩) (by assumption) ?_
     rotate_left
     ·(intro w hSw; (try dsimp only at hSw); go_simp; try (with_reducible rfl))
     try simp only [Act.put, ka1, ka2, ka3, ka4, ka5, ka6]
     refine wpAnyH_done (by kernel_rfl) ?_ _
     try clear p0 p1 p2 p3 p4
     go_wp2
     go_ret
     exact ⟨bool_retT (by rw [HB0.out, hret]), HB.out⟩
    |true =>
     cases o with
     |none =>
      have hret := hno.out (fun z0 z1 => by simp [nz_none])
      go_wp2_with fail
      have LT := hid (LT.out.old (Below_drew1 (Below.refl _ _)))
      have HB := hid (Below_drew1 HB.out)
      have p0 := LT.out.c 0 rfl
      have p1 := LT.out.c 1 rfl
      have p2 := LT.out.c 2 rfl
      have p3 := LT.out.c 3 rfl
      have p4 := PV.out
      have PG := hid PG0.out
      refine wp_region_held_drew (S := fun w' => w'.cell? ⟨wr.heap.size, 0, none⟩ = some (.int .i64 x) ∧ w'.cell? ⟨wr.heap.size, 1, none⟩ = some (.bool s) ∧ w'.cell? ⟨wr.heap.size, 2, none⟩ = some (.slice a3 n3 c3) ∧ w'.cell? ⟨wr.heap.size, 3, none⟩ = some (.slice b3 m3 d3) ∧ w'.cell? ⟨g, j * 4, none⟩ = some (.int .i64 y)) (by kernel_rfl) (by first | ((first | with_reducible exact ⟨p0, p1, p2, p3, p4⟩ | exact ⟨p0, p1, p2, p3, p4⟩)) | ((try dsimp only); (first | with_reducible exact ⟨p0, p1, p2, p3, p4⟩ | exact ⟨p0, p1, p2, p3, p4⟩))) (fun hHeld => ?_)
      refine tk (i := 0) (v := ?_) rfl (by kernel_rfl) (fun _ _ _ h => h) (Or.inl ⟨by rfl, ?_⟩) (by assumption) ?_
      rotate_left
      ·(intro w hSw; (try dsimp only at hSw); go_simp; try (with_reducible rfl))
      try simp only [Act.put, ka1, ka2, ka3, ka4, ka5]
      refine tk (i := 1) (v := ?_) rfl (by kernel_rfl) (fun _ _ _ h => h) (Or.inl ⟨by rfl, ?_⟩) (by assumption) ?_
      rotate_left
      ·(intro w hSw; (try dsimp only at hSw); go_simp; try (with_reducible rfl))
      try simp only [Act.put, ka1, ka2, ka3, ka4, ka5, ka6]
      refine tk (i := 2) (v := ?_) rfl (by kernel_rfl) (fun _ _ _ h => h) (Or.inl ⟨by rfl, ?_⟩) (by assumption) ?_
      rotate_left
      ·(intro w hSw; (try dsimp only at hSw); go_simp; try (with_reducible rfl))
      try simp only [Act.put, ka1, ka2, ka3, ka4, ka5, ka6]
      refine tk (i := 3) (v := ?_) rfl (by kernel_rfl) (fun _ _ _ h => h) (Or.inl ⟨by rfl, ?_⟩) (by assumption) ?_
      rotate_left
      ·(intro w hSw; (try dsimp only at hSw); go_simp; try (with_reducible rfl))
      try simp only [Act.put, ka1, ka2, ka3, ka4, ka5, ka6]
      refine wpAnyH_ready (rs := [4]) (by kernel_rfl) (by simp) ?_
      refine AllReadyH.cons (o := _) rfl (fun K hK => ?_) AllReadyH.nil
      go_simp
      (with_reducible refine (KI.out _).mono ?_)
      rintro e w2 ⟨rfl, rfl⟩
      go_wp2_with fail
      refine hK.out _ _ ?_ (fun hHeld => ?_)
      ·first | ((first | with_reducible exact ⟨p0, p1, p2, p3, p4⟩ | exact ⟨p0, p1, p2, p3, p4⟩)) | ((try dsimp only); (first | with_reducible exact ⟨p0, p1, p2, p3, p4⟩ | exact ⟨p0, p1, p2, p3, p4⟩))
      refine tk (i := 5) (v := ?_) rfl (by kernel_rfl) (fun _ _ _ h => h) (Or.inl ⟨by rfl, ?_⟩) (by assumption) ?_
      rotate_left
      ·(intro w hSw; (try dsimp only at hSw); go_simp; try (with_reducible rfl))
      try simp only [Act.put, ka1, ka2, ka3, ka4, ka5, ka6]
      refine tk (i := 6) (v := ?_) rfl (by kernel_rfl) (fun _ _ _ h => h) (Or.inl ⟨by rfl, ?_⟩) (by assumption) ?_
      rotate_left
      ·(intro w hSw; (try dsimp only at hSw); go_simp; try (with_reducible rfl))
      try simp only [Act.put, ka1, ka2, ka3, ka4, ka5, ka6]
      refine tk (i := 7) (v := ?_) rfl (by kernel_rfl) (fun _ _ _ h => h) (Or.inl ⟨by rfl, ?_⟩) (by assumption) ?_
      rotate_left
      ·(intro w hSw; (try dsimp only at hSw); go_simp; try (with_reducible rfl))
      try simp only [Act.put, ka1, ka2, ka3, ka4, ka5, ka6]
      refine tk (i := 8) (v := ?_) rfl (by kernel_rfl) (fun _ _ _ h => h) (Or.inl ⟨by rfl, ?_⟩) (by assumption) ?_
      rotate_left
      ·(intro w hSw; (try dsimp only at hSw); go_simp; try (with_reducible rfl))
      try simp only [Act.put, ka1, ka2, ka3, ka4, ka5, ka6]
      refine wpAnyH_ready (rs := [9]) (by kernel_rfl) (by simp) ?_
      refine AllReadyH.cons (o := _) rfl (fun K hK => ?_) AllReadyH.nil
      go_simp
      (with_reducible refine (KS.out _ (Below_drew1 below_new')).mono ?_)
      rintro e w2 ⟨rfl, hb⟩
      have HB := hid (HB.out.trans (hb.mono HB.out.size))
      have LT := hid (LT.out.old hb)
      have p0 := LT.out.c 0 rfl
      have p1 := LT.out.c 1 rfl
      have p2 := LT.out.c 2 rfl
      have p3 := LT.out.c 3 rfl
      have p4 := (hb.cell (p := ⟨g, j * 4, none⟩) PG.out).trans p4
      clear hb
      go_wp2_with fail
      refine hK.out _ _ ?_ (fun hHeld => ?_)
      ·first | ((first | with_reducible exact ⟨p0, p1, p2, p3, p4⟩ | exact ⟨p0, p1, p2, p3, p4⟩)) | ((try dsimp only); (first | with_reducible exact ⟨p0, p1, p2, p3, p4⟩ | exact ⟨p0, p1, p2, p3, p4⟩))
      refine tk (i := 10) (v := ?_) rfl (by kernel_rfl) (fun _ _ _ h => h) (Or.inl ⟨by rfl, ?_⟩) (by assumption) ?_
      rotate_left
      ·(intro w hSw; (try dsimp only at hSw); go_simp; try (with_reducible rfl))
      try simp only [Act.put, ka1, ka2, ka3, ka4, ka5, ka6]
      refine tk (i := 11) (v := ?_) rfl (by kernel_rfl) (fun _ _ _ h => h) (Or.inl ⟨by rfl, ?_⟩) (by assumption) ?_
      rotate_left
      ·(intro w hSw; (try dsimp only at hSw); go_simp; try (with_reducible rfl))
      try simp only [Act.put, ka1, ka2, ka3, ka4, ka5, ka6]
      refine tk (i := 12) (v := ?_) rfl (by kernel_rfl) (fun _ _ _ h => h) (Or.inl ⟨by rfl, ?_⟩) (by assumption) ?_
      rotate_left
      ·(intro w hSw; (try dsimp only at hSw); go_simp; try (with_reducible rfl))
      try simp only [Act.put, ka1, ka2, ka3, ka4, ka5, ka6]
      refine tk (i := 13) (v := undef) rfl (by kernel_rfl) (fun _ _ _ h => h) (Or.inr ⟨by rfl, rfl⟩) (by assumption) ?_
      try simp only [Act.put, ka1, ka2, ka3, ka4, ka5, ka6]
      refine tk (i := 14) (v := undef) rfl (by kernel_rfl) (fun _ _ _ h => h) (Or.inr ⟨by rfl, rfl⟩) (by assumption) ?_
      try simp only [Act.put, ka1, ka2, ka3, ka4, ka5, ka6]
      refine tk (i := 15) (v := undef) rfl (by kernel_rfl) (fun _ _ _ h => h) (Or.inr ⟨by rfl, rfl⟩) (by assumption) ?_
      try simp only [Act.put, ka1, ka2, ka3, ka4, ka5, ka6]
      refine tk (i := 16) (v := undef) rfl (by kernel_rfl) (fun _ _ _ h => h) (Or.inr ⟨by rfl, rfl⟩) (by assumption) ?_
      try simp only [Act.put, ka1, ka2, ka3, ka4, ka5, ka6]
      refine tk (i := 17) (v := undef) rfl (by kernel_rfl) (fun _ _ _ h => h) (Or.inr ⟨by rfl, rfl⟩) (by assumption) ?_
      try simp only [Act.put, ka1, ka2, ka3, ka4, ka5, ka6]
      refine tk (i := 18) (v := undef) rfl (by kernel_rfl) (fun _ _ _ h => h) (Or.inr ⟨by rfl, rfl⟩) (by assumption) ?_
      try simp only [Act.put, ka1, ka2, ka3, ka4, ka5, ka6]
      refine tk (i := 19) (v := ?_) rfl (by kernel_rfl) (fun _ _ _ h => h) (Or.inl ⟨by rfl, ?_⟩) (by assumption) ?_
      rotate_left
      ·(intro w hSw; (try dsimp only at hSw); go_simp; try (with_reducible rfl))
      try simp only [Act.put, ka1, ka2, ka3, ka4, ka5, ka6]
      refine tk (i := 20) (v := ?_) rfl (by kernel_rfl) (fun _ _ _ h => h) (Or.inl ⟨by rfl, ?_⟩) (by assumption) ?_
      rotate_left
      ·(intro w hSw; (try dsimp only at hSw); go_simp; try (with_reducible rfl))
      try simp only [Act.put, ka1, ka2, ka3, ka4, ka5, ka6]
      refine tk (i := 21) (v := undef) rfl (by kernel_rfl) (fun _ _ _ h => h) (Or.inr ⟨by rfl, rfl⟩) (by assumption) ?_
      try simp only [Act.put, ka1, ka2, ka3, ka4, ka5, ka6]
      refine tk (i := 22) (v := undef) rfl (by kernel_rfl) (fun _ _ _ h => h) (Or.inr ⟨by rfl, rfl⟩) (by assumption) ?_
      try simp only [Act.put, ka1, ka2, ka3, ka4, ka5, ka6]
      refine tk (i := 23) (v := undef) rfl (by kernel_rfl) (fun _ _ _ h => h) (Or.inr ⟨by rfl, rfl⟩) (by assumption) ?_
      try simp only [Act.put, ka1, ka2, ka3, ka4, ka5, ka6]
      refine tk (i := 24) (v := undef) rfl (by kernel_rfl) (fun _ _ _ h => h) (Or.inr ⟨by rfl, rfl⟩) (by assumption) ?_
      try simp only [Act.put, ka1, ka2, ka3, ka4, ka5, ka6]
      refine tk (i := 25) (v := undef) rfl (by kernel_rfl) (fun _ _ _ h => h) (Or.inr ⟨by rfl, rfl⟩) (by assumption) ?_
      try simp only [Act.put, ka1, ka2, ka3, ka4, ka5, ka6]
      refine tk (i := 26) (v := undef) rfl (by kernel_rfl) (fun _ _ _ h => h) (Or.inr ⟨by rfl, rfl⟩) (by assumption) ?_
      try simp only [Act.put, ka1, ka2, ka3, ka4, ka5, ka6]
      refine tk (i := 27) (v := undef) rfl (by kernel_rfl) (fun _ _ _ h => h) (Or.inr ⟨by rfl, rfl⟩) (by assumption) ?_
      try simp only [Act.put, ka1, ka2, ka3, ka4, ka5, ka6]
      refine tk (i := 28) (v := undef) rfl (by kernel_rfl) (fun _ _ _ h => h) (Or.inr ⟨by rfl, rfl⟩) (by assumption) ?_
      try simp only [Act.put, ka1, ka2, ka3, ka4, ka5, ka6]
      refine tk (i := 29) (v := undef) rfl (by kernel_rfl) (fun _ _ _ h => h) (Or.inr ⟨by rfl, rfl⟩) (by assumption) ?_
      try simp only [Act.put, ka1, ka2, ka3, ka4, ka5, ka6]
      refine tk (i := 30) (v := undef) rfl (by kernel_rfl) (fun _ _ _ h => h) (Or.inr ⟨by rfl, rfl⟩) (by assumption) ?_
      try simp only [Act.put, ka1, ka2, ka3, ka4, ka5, ka6]
      refine tk (i := 31) (v := undef) rfl (by kernel_rfl) (fun _ _ _ h => h) (Or.inr ⟨by rfl, rfl⟩) (by assumption) ?_
      try simp only [Act.put, ka1, ka2, ka3, ka4, ka5, ka6]
      refine tk (i := 32) (v := undef) rfl (by kernel_rfl) (fun _ _ _ h => h) (Or.inr ⟨by rfl, rfl⟩) (by assumption) ?_
      try simp only [Act.put, ka1, ka2, ka3, ka4, ka5, ka6]
      refine tk (i := 33) (v := undef) rfl (by kernel_rfl) (fun _ _ _ h => h) (Or.inr ⟨by rfl, rfl⟩) (by assumption) ?_
      try simp only [Act.put, ka1, ka2, ka3, ka4, ka5, ka6]
      refine tk (i := 34) (v := ?_) rfl (by kernel_rfl) (fun _ _ _ h => h) (Or.inl ⟨by rfl, ?_⟩) (by assumption) ?_
      rotate_left
      ·(intro w hSw; (try dsimp only at hSw); go_simp; try (with_reducible rfl))
      try simp only [Act.put, ka1, ka2, ka3, ka4, ka5, ka6]
      refine wpAnyH_done (by kernel_rfl) ?_ _
      try clear p0 p1 p2 p3 p4
      go_wp2
      go_ret
      exact ⟨bool_retT (by rw [HB0.out, hret]), HB.out⟩
     |some r =>
      have hmg := hmg rfl
      rw [← HN.out] at hmg
      by_cases h0 : n3 = 0
      ·have hret := hno.out (fun z0 z1 => by simp [hmg.1 h0])
       clear hmg HN
       subst h0
       go_wp2_with fail
       have LT := hid (LT.out.old (Below_drew1 (Below.refl _ _)))
       have HB := hid (Below_drew1 HB.out)
       have p0 := LT.out.c 0 rfl
       have p1 := LT.out.c 1 rfl
       have p2 := LT.out.c 2 rfl
       have p3 := LT.out.c 3 rfl
       have p4 := PV.out
       have PG := hid PG0.out
       refine wp_region_held_drew (S := fun w' => w'.cell? ⟨wr.heap.size, 0, none⟩ = some (.int .i64 x) ∧ w'.cell? ⟨wr.heap.size, 1, none⟩ = some (.bool s) ∧ w'.cell? ⟨wr.heap.size, 2, none⟩ = some (.slice a3 0 c3) ∧ w'.cell? ⟨wr.heap.size, 3, none⟩ = some (.slice b3 m3 d3) ∧ w'.cell? ⟨g, j * 4, none⟩ = some (.int .i64 y)) (by kernel_rfl) (by first | ((first | with_reducible exact ⟨p0, p1, p2, p3, p4⟩ | exact ⟨p0, p1, p2, p3, p4⟩)) | ((try dsimp only); (first | with_reducible exact ⟨p0, p1, p2, p3, p4⟩ | exact ⟨p0, p1, p2, p3, p4⟩))) (fun hHeld => ?_)
       refine tk (i := 0) (v := ?_) rfl (by kernel_rfl) (fun _ _ _ h => h) (Or.inl ⟨by rfl, ?_⟩) (by assumption) ?_
       rotate_left
       ·(intro w hSw; (try dsimp only at hSw); go_simp; try (with_reducible rfl))
       try simp only [Act.put, ka1, ka2, ka3, ka4, ka5]
       refine tk (i := 1) (v := ?_) rfl (by kernel_rfl) (fun _ _ _ h => h) (Or.inl ⟨by rfl, ?_⟩) (by assumption) ?_
       rotate_left
       ·(intro w hSw; (try dsimp only at hSw); go_simp; try (with_reducible rfl))
       try simp only [Act.put, ka1, ka2, ka3, ka4, ka5, ka6]
       refine tk (i := 2) (v := ?_) rfl (by kernel_rfl) (fun _ _ _ h => h) (Or.inl ⟨by rfl, ?_⟩) (by assumption) ?_
       rotate_left
       ·(intro w hSw; (try dsimp only at hSw); go_simp; try (with_reducible rfl))
       try simp only [Act.put, ka1, ka2, ka3, ka4, ka5, ka6]
       refine tk (i := 3) (v := ?_) rfl (by kernel_rfl) (fun _ _ _ h => h) (Or.inl ⟨by rfl, ?_⟩) (by assumption) ?_
       rotate_left
       ·(intro w hSw; (try dsimp only at hSw); go_simp; try (with_reducible rfl))
       try simp only [Act.put, ka1, ka2, ka3, ka4, ka5, ka6]
       refine wpAnyH_ready (rs := [4]) (by kernel_rfl) (by simp) ?_
       refine AllReadyH.cons (o := _) rfl (fun K hK => ?_) AllReadyH.nil
       go_simp
       (with_reducible refine (KI.out _).mono ?_)
       rintro e w2 ⟨rfl, rfl⟩
       go_wp2_with fail
       refine hK.out _ _ ?_ (fun hHeld => ?_)
       ·first | ((first | with_reducible exact ⟨p0, p1, p2, p3, p4⟩ | exact ⟨p0, p1, p2, p3, p4⟩)) | ((try dsimp only); (first | with_reducible exact ⟨p0, p1, p2, p3, p4⟩ | exact ⟨p0, p1, p2, p3, p4⟩))
       refine tk (i := 5) (v := ?_) rfl (by kernel_rfl) (fun _ _ _ h => h) (Or.inl ⟨by rfl, ?_⟩) (by assumption) ?_
       rotate_left
       ·(intro w hSw; (try dsimp only at hSw); go_simp; try (with_reducible rfl))
       try simp only [Act.put, ka1, ka2, ka3, ka4, ka5, ka6]
       refine tk (i := 6) (v := ?_) rfl (by kernel_rfl) (fun _ _ _ h => h) (Or.inl ⟨by rfl, ?_⟩) (by assumption) ?_
       rotate_left
       ·(intro w hSw; (try dsimp only at hSw); go_simp; try (with_reducible rfl))
       try simp only [Act.put, ka1, ka2, ka3, ka4, ka5, ka6]
       refine tk (i := 7) (v := ?_) rfl (by kernel_rfl) (fun _ _ _ h => h) (Or.inl ⟨by rfl, ?_⟩) (by assumption) ?_
       rotate_left
       ·(intro w hSw; (try dsimp only at hSw); go_simp; try (with_reducible rfl))
       try simp only [Act.put, ka1, ka2, ka3, ka4, ka5, ka6]
       refine tk (i := 8) (v := ?_) rfl (by kernel_rfl) (fun _ _ _ h => h) (Or.inl ⟨by rfl, ?_⟩) (by assumption) ?_
       rotate_left
       ·(intro w hSw; (try dsimp only at hSw); go_simp; try (with_reducible rfl))
       try simp only [Act.put, ka1, ka2, ka3, ka4, ka5, ka6]
       refine wpAnyH_ready (rs := [9]) (by kernel_rfl) (by simp) ?_
       refine AllReadyH.cons (o := _) rfl (fun K hK => ?_) AllReadyH.nil
       go_simp
       (with_reducible refine (KS.out _ (Below_drew1 below_new')).mono ?_)
       rintro e w2 ⟨rfl, hb⟩
       have HB := hid (HB.out.trans (hb.mono HB.out.size))
       have LT := hid (LT.out.old hb)
       have p0 := LT.out.c 0 rfl
       have p1 := LT.out.c 1 rfl
       have p2 := LT.out.c 2 rfl
       have p3 := LT.out.c 3 rfl
       have p4 := (hb.cell (p := ⟨g, j * 4, none⟩) PG.out).trans p4
       clear hb
       go_wp2_with fail
       refine hK.out _ _ ?_ (fun hHeld => ?_)
       ·first | ((first | with_reducible exact ⟨p0, p1, p2, p3, p4⟩ | exact ⟨p0, p1, p2, p3, p4⟩)) | ((try dsimp only); (first | with_reducible exact ⟨p0, p1, p2, p3, p4⟩ | exact ⟨p0, p1, p2, p3, p4⟩))
       refine tk (i := 10) (v := ?_) rfl (by kernel_rfl) (fun _ _ _ h => h) (Or.inl ⟨by rfl, ?_⟩) (by assumption) ?_
       rotate_left
       ·(intro w hSw; (try dsimp only at hSw); go_simp; try (with_reducible rfl))
       try simp only [Act.put, ka1, ka2, ka3, ka4, ka5, ka6]
       refine tk (i := 11) (v := ?_) rfl (by kernel_rfl) (fun _ _ _ h => h) (Or.inl ⟨by rfl, ?_⟩) (by assumption) ?_
       rotate_left
       ·(intro w hSw; (try dsimp only at hSw); go_simp; try (with_reducible rfl))
       try simp only [Act.put, ka1, ka2, ka3, ka4, ka5, ka6]
       refine tk (i := 12) (v := ?_) rfl (by kernel_rfl) (fun _ _ _ h => h) (Or.inl ⟨by rfl, ?_⟩) (by assumption) ?_
       rotate_left
       ·(intro w hSw; (try dsimp only at hSw); go_simp; try (with_reducible rfl))
       try simp only [Act.put, ka1, ka2, ka3, ka4, ka5, ka6]
       refine tk (i := 13) (v := ?_) rfl (by kernel_rfl) (fun _ _ _ h => h) (Or.inl ⟨by rfl, ?_⟩) (by assumption) ?_
       rotate_left
       ·(intro w hSw; (try dsimp only at hSw); go_simp; try (with_reducible rfl))
       try simp only [Act.put, ka1, ka2, ka3, ka4, ka5, ka6]
       refine tk (i := 14) (v := ?_) rfl (by kernel_rfl) (fun _ _ _ h => h) (Or.inl ⟨by rfl, ?_⟩) (by assumption) ?_
       rotate_left
       ·(intro w hSw; (try dsimp only at hSw); go_simp; try (with_reducible rfl))
       try simp only [Act.put, ka1, ka2, ka3, ka4, ka5, ka6]
       refine tk (i := 15) (v := ?_) rfl (by kernel_rfl) (fun _ _ _ h => h) (Or.inl ⟨by rfl, ?_⟩) (by assumption) ?_
       rotate_left
       ·(intro w hSw; (try dsimp only at hSw); go_simp; try (with_reducible rfl))
       try simp only [Act.put, ka1, ka2, ka3, ka4, ka5, ka6]
       refine tk (i := 16) (v := ?_) rfl (by kernel_rfl) (fun _ _ _ h => h) (Or.inl ⟨by rfl, ?_⟩) (by assumption) ?_
       rotate_left
       ·(intro w hSw; (try dsimp only at hSw); go_simp; try (with_reducible rfl))
       try simp only [Act.put, ka1, ka2, ka3, ka4, ka5, ka6]
       refine tk (i := 17) (v := ?_) rfl (by kernel_rfl) (fun _ _ _ h => h) (Or.inl ⟨by rfl, ?_⟩) (by assumption) ?_
       rotate_left
       ·(intro w hSw; (try dsimp only at hSw); go_simp; try (with_reducible rfl))
       try simp only [Act.put, ka1, ka2, ka3, ka4, ka5, ka6]
       refine tk (i := 18) (v := ?_) rfl (by kernel_rfl) (fun _ _ _ h => h) (Or.inl ⟨by rfl, ?_⟩) (by assumption) ?_
       rotate_left
       ·(intro w hSw; (try dsimp only at hSw); go_simp; try (with_reducible rfl))
       try simp only [Act.put, ka1, ka2, ka3, ka4, ka5, ka6]
       refine tk (i := 19) (v := ?_) rfl (by kernel_rfl) (fun _ _ _ h => h) (Or.inl ⟨by rfl, ?_⟩) (by assumption) ?_
       rotate_left
       ·(intro w hSw; (try dsimp only at hSw); go_simp; try (with_reducible rfl))
       try simp only [Act.put, ka1, ka2, ka3, ka4, ka5, ka6]
       refine tk (i := 20) (v := ?_) rfl (by kernel_rfl) (fun _ _ _ h => h) (Or.inl ⟨by rfl, ?_⟩) (by assumption) ?_
       rotate_left
       ·(intro w hSw; (try dsimp only at hSw); go_simp; try (with_reducible rfl))
       try simp only [Act.put, ka1, ka2, ka3, ka4, ka5, ka6]
       refine tk (i := 21) (v := undef) rfl (by kernel_rfl) (fun _ _ _ h => h) (Or.inr ⟨by rfl, rfl⟩) (by assumption) ?_
       try simp only [Act.put, ka1, ka2, ka3, ka4, ka5, ka6]
       refine tk (i := 22) (v := undef) rfl (by kernel_rfl) (fun _ _ _ h => h) (Or.inr ⟨by rfl, rfl⟩) (by assumption) ?_
       try simp only [Act.put, ka1, ka2, ka3, ka4, ka5, ka6]
       refine tk (i := 23) (v := undef) rfl (by kernel_rfl) (fun _ _ _ h => h) (Or.inr ⟨by rfl, rfl⟩) (by assumption) ?_
       try simp only [Act.put, ka1, ka2, ka3, ka4, ka5, ka6]
       refine tk (i := 24) (v := undef) rfl (by kernel_rfl) (fun _ _ _ h => h) (Or.inr ⟨by rfl, rfl⟩) (by assumption) ?_
       try simp only [Act.put, ka1, ka2, ka3, ka4, ka5, ka6]
       refine tk (i := 25) (v := undef) rfl (by kernel_rfl) (fun _ _ _ h => h) (Or.inr ⟨by rfl, rfl⟩) (by assumption) ?_
       try simp only [Act.put, ka1, ka2, ka3, ka4, ka5, ka6]
       refine tk (i := 26) (v := undef) rfl (by kernel_rfl) (fun _ _ _ h => h) (Or.inr ⟨by rfl, rfl⟩) (by assumption) ?_
       try simp only [Act.put, ka1, ka2, ka3, ka4, ka5, ka6]
       refine tk (i := 27) (v := undef) rfl (by kernel_rfl) (fun _ _ _ h => h) (Or.inr ⟨by rfl, rfl⟩) (by assumption) ?_
       try simp only [Act.put, ka1, ka2, ka3, ka4, ka5, ka6]
       refine tk (i := 28) (v := undef) rfl (by kernel_rfl) (fun _ _ _ h => h) (Or.inr ⟨by rfl, rfl⟩) (by assumption) ?_
       try simp only [Act.put, ka1, ka2, ka3, ka4, ka5, ka6]
       refine tk (i := 29) (v := undef) rfl (by kernel_rfl) (fun _ _ _ h => h) (Or.inr ⟨by rfl, rfl⟩) (by assumption) ?_
       try simp only [Act.put, ka1, ka2, ka3, ka4, ka5, ka6]
       refine tk (i := 30) (v := undef) rfl (by kernel_rfl) (fun _ _ _ h => h) (Or.inr ⟨by rfl, rfl⟩) (by assumption) ?_
       try simp only [Act.put, ka1, ka2, ka3, ka4, ka5, ka6]
       refine tk (i := 31) (v := undef) rfl (by kernel_rfl) (fun _ _ _ h => h) (Or.inr ⟨by rfl, rfl⟩) (by assumption) ?_
       try simp only [Act.put, ka1, ka2, ka3, ka4, ka5, ka6]
       refine tk (i := 32) (v := undef) rfl (by kernel_rfl) (fun _ _ _ h => h) (Or.inr ⟨by rfl, rfl⟩) (by assumption) ?_
       try simp only [Act.put, ka1, ka2, ka3, ka4, ka5, ka6]
       refine tk (i := 33) (v := undef) rfl (by kernel_rfl) (fun _ _ _ h => h) (Or.inr ⟨by rfl, rfl⟩) (by assumption) ?_
       try simp only [Act.put, ka1, ka2, ka3, ka4, ka5, ka6]
       refine tk (i := 34) (v := ?_) rfl (by kernel_rfl) (fun _ _ _ h => h) (Or.inl ⟨by rfl, ?_⟩) (by assumption) ?_
       rotate_left
       ·(intro w hSw; (try dsimp only at hSw); go_simp; try (with_reducible rfl))
       try simp only [Act.put, ka1, ka2, ka3, ka4, ka5, ka6]
       refine wpAnyH_done (by kernel_rfl) ?_ _
       try clear p0 p1 p2 p3 p4
       go_wp2
       go_ret
       exact ⟨bool_retT (by rw [HB0.out, hret]), HB.out⟩
      ·have hn0 : ((n3 : Int) == 0) = false := by simp; omega
       have hnz : nz (some r) = true := by cases e : nz (some r) with
        | true => rfl
        | false => exact absurd (hmg.2 e) h0
       have HNZ := hid hnz
       clear hnz hmg
       by_cases hyx : x ≤ y
       ·have hret := hno.out (fun z0 z1 => by simp [show ¬ y < x by omega])
        go_wp2_with fail
        have LT := hid (LT.out.old (Below_drew1 (Below.refl _ _)))
        have HB := hid (Below_drew1 HB.out)
        have p0 := LT.out.c 0 rfl
        have p1 := LT.out.c 1 rfl
        have p2 := LT.out.c 2 rfl
        have p3 := LT.out.c 3 rfl
        have p4 := PV.out
        have PG := hid PG0.out
        refine wp_region_held_drew (S := fun w' => w'.cell? ⟨wr.heap.size, 0, none⟩ = some (.int .i64 x) ∧ w'.cell? ⟨wr.heap.size, 1, none⟩ = some (.bool s) ∧ w'.cell? ⟨wr.heap.size, 2, none⟩ = some (.slice a3 n3 c3) ∧ w'.cell? ⟨wr.heap.size, 3, none⟩ = some (.slice b3 m3 d3) ∧ w'.cell? ⟨g, j * 4, none⟩ = some (.int .i64 y)) (by kernel_rfl) (by first | ((first | with_reducible exact ⟨p0, p1, p2, p3, p4⟩ | exact ⟨p0, p1, p2, p3, p4⟩)) | ((try dsimp only); (first | with_reducible exact ⟨p0, p1, p2, p3, p4⟩ | exact ⟨p0, p1, p2, p3, p4⟩))) (fun hHeld => ?_)
        refine tk (i := 0) (v := ?_) rfl (by kernel_rfl) (fun _ _ _ h => h) (Or.inl ⟨by rfl, ?_⟩) (by assumption) ?_
        rotate_left
        ·(intro w hSw; (try dsimp only at hSw); go_simp; try (with_reducible rfl))
        try simp only [Act.put, ka1, ka2, ka3, ka4, ka5]
        refine tk (i := 1) (v := ?_) rfl (by kernel_rfl) (fun _ _ _ h => h) (Or.inl ⟨by rfl, ?_⟩) (by assumption) ?_
        rotate_left
        ·(intro w hSw; (try dsimp only at hSw); go_simp; try (with_reducible rfl))
        try simp only [Act.put, ka1, ka2, ka3, ka4, ka5, ka6]
        refine tk (i := 2) (v := ?_) rfl (by kernel_rfl) (fun _ _ _ h => h) (Or.inl ⟨by rfl, ?_⟩) (by assumption) ?_
        rotate_left
        ·(intro w hSw; (try dsimp only at hSw); go_simp; try (with_reducible rfl))
        try simp only [Act.put, ka1, ka2, ka3, ka4, ka5, ka6]
        refine tk (i := 3) (v := ?_) rfl (by kernel_rfl) (fun _ _ _ h => h) (Or.inl ⟨by rfl, ?_⟩) (by assumption) ?_
        rotate_left
        ·(intro w hSw; (try dsimp only at hSw); go_simp; try (with_reducible rfl))
        try simp only [Act.put, ka1, ka2, ka3, ka4, ka5, ka6]
        refine wpAnyH_ready (rs := [4]) (by kernel_rfl) (by simp) ?_
        refine AllReadyH.cons (o := _) rfl (fun K hK => ?_) AllReadyH.nil
        go_simp
        (with_reducible refine (KI.out _).mono ?_)
        rintro e w2 ⟨rfl, rfl⟩
        go_wp2_with fail
        refine hK.out _ _ ?_ (fun hHeld => ?_)
        ·first | ((first | with_reducible exact ⟨p0, p1, p2, p3, p4⟩ | exact ⟨p0, p1, p2, p3, p4⟩)) | ((try dsimp only); (first | with_reducible exact ⟨p0, p1, p2, p3, p4⟩ | exact ⟨p0, p1, p2, p3, p4⟩))
        refine tk (i := 5) (v := ?_) rfl (by kernel_rfl) (fun _ _ _ h => h) (Or.inl ⟨by rfl, ?_⟩) (by assumption) ?_
        rotate_left
        ·(intro w hSw; (try dsimp only at hSw); go_simp; try (with_reducible rfl))
        try simp only [Act.put, ka1, ka2, ka3, ka4, ka5, ka6]
        refine tk (i := 6) (v := ?_) rfl (by kernel_rfl) (fun _ _ _ h => h) (Or.inl ⟨by rfl, ?_⟩) (by assumption) ?_
        rotate_left
        ·(intro w hSw; (try dsimp only at hSw); go_simp; try (with_reducible rfl))
        try simp only [Act.put, ka1, ka2, ka3, ka4, ka5, ka6]
        refine tk (i := 7) (v := ?_) rfl (by kernel_rfl) (fun _ _ _ h => h) (Or.inl ⟨by rfl, ?_⟩) (by assumption) ?_
        rotate_left
        ·(intro w hSw; (try dsimp only at hSw); go_simp; try (with_reducible rfl))
        try simp only [Act.put, ka1, ka2, ka3, ka4, ka5, ka6]
        refine tk (i := 8) (v := ?_) rfl (by kernel_rfl) (fun _ _ _ h => h) (Or.inl ⟨by rfl, ?_⟩) (by assumption) ?_
        rotate_left
        ·(intro w hSw; (try dsimp only at hSw); go_simp; try (with_reducible rfl))
        try simp only [Act.put, ka1, ka2, ka3, ka4, ka5, ka6]
        refine wpAnyH_ready (rs := [9]) (by kernel_rfl) (by simp) ?_
        refine AllReadyH.cons (o := _) rfl (fun K hK => ?_) AllReadyH.nil
        go_simp
        (with_reducible refine (KS.out _ (Below_drew1 below_new')).mono ?_)
        rintro e w2 ⟨rfl, hb⟩
        have HB := hid (HB.out.trans (hb.mono HB.out.size))
        have LT := hid (LT.out.old hb)
        have p0 := LT.out.c 0 rfl
        have p1 := LT.out.c 1 rfl
        have p2 := LT.out.c 2 rfl
        have p3 := LT.out.c 3 rfl
        have p4 := (hb.cell (p := ⟨g, j * 4, none⟩) PG.out).trans p4
        clear hb
        go_wp2_with fail
        refine hK.out _ _ ?_ (fun hHeld => ?_)
        ·first | ((first | with_reducible exact ⟨p0, p1, p2, p3, p4⟩ | exact ⟨p0, p1, p2, p3, p4⟩)) | ((try dsimp only); (first | with_reducible exact ⟨p0, p1, p2, p3, p4⟩ | exact ⟨p0, p1, p2, p3, p4⟩))
        refine tk (i := 10) (v := ?_) rfl (by kernel_rfl) (fun _ _ _ h => h) (Or.inl ⟨by rfl, ?_⟩) (by assumption) ?_
        rotate_left
        ·(intro w hSw; (try dsimp only at hSw); go_simp; try (with_reducible rfl))
        try simp only [Act.put, ka1, ka2, ka3, ka4, ka5, ka6]
        refine tk (i := 11) (v := ?_) rfl (by kernel_rfl) (fun _ _ _ h => h) (Or.inl ⟨by rfl, ?_⟩) (by assumption) ?_
        rotate_left
        ·(intro w hSw; (try dsimp only at hSw); go_simp; try (with_reducible rfl))
        try simp only [Act.put, ka1, ka2, ka3, ka4, ka5, ka6]
        refine tk (i := 12) (v := ?_) rfl (by kernel_rfl) (fun _ _ _ h => h) (Or.inl ⟨by rfl, ?_⟩) (by assumption) ?_
        rotate_left
        ·(intro w hSw; (try dsimp only at hSw); go_simp; try (with_reducible rfl))
        try simp only [Act.put, ka1, ka2, ka3, ka4, ka5, ka6]
        refine tk (i := 13) (v := ?_) rfl (by kernel_rfl) (fun _ _ _ h => h) (Or.inl ⟨by rfl, ?_⟩) (by assumption) ?_
        rotate_left
        ·(intro w hSw; (try dsimp only at hSw); go_simp; try (with_reducible rfl))
        try simp only [Act.put, ka1, ka2, ka3, ka4, ka5, ka6]
        refine tk (i := 14) (v := ?_) rfl (by kernel_rfl) (fun _ _ _ h => h) (Or.inl ⟨by rfl, ?_⟩) (by assumption) ?_
        rotate_left
        ·(intro w hSw; (try dsimp only at hSw); go_simp; try (with_reducible rfl))
        try simp only [Act.put, ka1, ka2, ka3, ka4, ka5, ka6]
        refine tk (i := 15) (v := ?_) rfl (by kernel_rfl) (fun _ _ _ h => h) (Or.inl ⟨by rfl, ?_⟩) (by assumption) ?_
        rotate_left
        ·(intro w hSw; (try dsimp only at hSw); go_simp; try (with_reducible rfl))
        try simp only [Act.put, ka1, ka2, ka3, ka4, ka5, ka6]
        refine tk (i := 16) (v := ?_) rfl (by kernel_rfl) (fun _ _ _ h => h) (Or.inl ⟨by rfl, ?_⟩) (by assumption) ?_
        rotate_left
        ·(intro w hSw; (try dsimp only at hSw); go_simp; try (with_reducible rfl))
        try simp only [Act.put, ka1, ka2, ka3, ka4, ka5, ka6]
        refine tk (i := 17) (v := ?_) rfl (by kernel_rfl) (fun _ _ _ h => h) (Or.inl ⟨by rfl, ?_⟩) (by assumption) ?_
        rotate_left
        ·(intro w hSw; (try dsimp only at hSw); go_simp; try (with_reducible rfl))
        try simp only [Act.put, ka1, ka2, ka3, ka4, ka5, ka6]
        refine tk (i := 18) (v := ?_) rfl (by kernel_rfl) (fun _ _ _ h => h) (Or.inl ⟨by rfl, ?_⟩) (by assumption) ?_
        rotate_left
        ·(intro w hSw; (try dsimp only at hSw); go_simp; try (with_reducible rfl))
        try simp only [Act.put, ka1, ka2, ka3, ka4, ka5, ka6]
        refine tk (i := 19) (v := ?_) rfl (by kernel_rfl) (fun _ _ _ h => h) (Or.inl ⟨by rfl, ?_⟩) (by assumption) ?_
        rotate_left
        ·(intro w hSw; (try dsimp only at hSw); go_simp; try (with_reducible rfl))
        try simp only [Act.put, ka1, ka2, ka3, ka4, ka5, ka6]
        refine tk (i := 20) (v := ?_) rfl (by kernel_rfl) (fun _ _ _ h => h) (Or.inl ⟨by rfl, ?_⟩) (by assumption) ?_
        rotate_left
        ·(intro w hSw; (try dsimp only at hSw); go_simp; try (with_reducible rfl))
        try simp only [Act.put, ka1, ka2, ka3, ka4, ka5, ka6]
        refine tk (i := 21) (v := ?_) rfl (by kernel_rfl) (fun _ _ _ h => h) (Or.inl ⟨by rfl, ?_⟩) (by assumption) ?_
        rotate_left
        ·(intro w hSw; (try dsimp only at hSw); go_simp; try (with_reducible rfl))
        try simp only [Act.put, ka1, ka2, ka3, ka4, ka5, ka6]
        refine tk (i := 22) (v := ?_) rfl (by kernel_rfl) (fun _ _ _ h => h) (Or.inl ⟨by rfl, ?_⟩) (by assumption) ?_
        rotate_left
        ·(intro w hSw; (try dsimp only at hSw); go_simp; try (with_reducible rfl))
        try simp only [Act.put, ka1, ka2, ka3, ka4, ka5, ka6]
        refine tk (i := 23) (v := ?_) rfl (by kernel_rfl) (fun _ _ _ h => h) (Or.inl ⟨by rfl, ?_⟩) (by assumption) ?_
        rotate_left
        ·(intro w hSw; (try dsimp only at hSw); go_simp; try (with_reducible rfl))
        try simp only [Act.put, ka1, ka2, ka3, ka4, ka5, ka6]
        refine tk (i := 24) (v := ?_) rfl (by kernel_rfl) (fun _ _ _ h => h) (Or.inl ⟨by rfl, ?_⟩) (by assumption) ?_
        rotate_left
        ·(intro w hSw; (try dsimp only at hSw); go_simp; try (with_reducible rfl))
        try simp only [Act.put, ka1, ka2, ka3, ka4, ka5, ka6]
        refine tk (i := 25) (v := ?_) rfl (by kernel_rfl) (fun _ _ _ h => h) (Or.inl ⟨by rfl, ?_⟩) (by assumption) ?_
        rotate_left
        ·(intro w hSw; (try dsimp only at hSw); go_simp; try (with_reducible rfl))
        try simp only [Act.put, ka1, ka2, ka3, ka4, ka5, ka6]
        refine tk (i := 26) (v := ?_) rfl (by kernel_rfl) (fun _ _ _ h => h) (Or.inl ⟨by rfl, ?_⟩) (by assumption) ?_
        rotate_left
        ·(intro w hSw; (try dsimp only at hSw); go_simp; try (with_reducible rfl))
        try simp only [Act.put, ka1, ka2, ka3, ka4, ka5, ka6]
        refine tk (i := 27) (v := ?_) rfl (by kernel_rfl) (fun _ _ _ h => h) (Or.inl ⟨by rfl, ?_⟩) (by assumption) ?_
        rotate_left
        ·(intro w hSw; (try dsimp only at hSw); go_simp; try (with_reducible rfl))
        try simp only [Act.put, ka1, ka2, ka3, ka4, ka5, ka6]
        refine tk (i := 28) (v := ?_) rfl (by kernel_rfl) (fun _ _ _ h => h) (Or.inl ⟨by rfl, ?_⟩) (by assumption) ?_
        rotate_left
        ·(intro w hSw; (try dsimp only at hSw); go_simp; try (with_reducible rfl))
        try simp only [Act.put, ka1, ka2, ka3, ka4, ka5, ka6]
        refine tk (i := 29) (v := ?_) rfl (by kernel_rfl) (fun _ _ _ h => h) (Or.inl ⟨by rfl, ?_⟩) (by assumption) ?_
        rotate_left
        ·(intro w hSw; (try dsimp only at hSw); go_simp; try (with_reducible rfl))
        try simp only [Act.put, ka1, ka2, ka3, ka4, ka5, ka6]
        refine tk (i := 30) (v := ?_) rfl (by kernel_rfl) (fun _ _ _ h => h) (Or.inl ⟨by rfl, ?_⟩) (by assumption) ?_
        rotate_left
        ·(intro w hSw; (try dsimp only at hSw); go_simp; try (with_reducible rfl))
        try simp only [Act.put, ka1, ka2, ka3, ka4, ka5, ka6]
        refine tk (i := 31) (v := ?_) rfl (by kernel_rfl) (fun _ _ _ h => h) (Or.inl ⟨by rfl, ?_⟩) (by assumption) ?_
        rotate_left
        ·(intro w hSw; (try dsimp only at hSw); go_simp; try (with_reducible rfl))
        try simp only [Act.put, ka1, ka2, ka3, ka4, ka5, ka6]
        refine tk (i := 32) (v := ?_) rfl (by kernel_rfl) (fun _ _ _ h => h) (Or.inl ⟨by rfl, ?_⟩) (by assumption) ?_
        rotate_left
        ·(intro w hSw; (try dsimp only at hSw); go_simp; try (with_reducible rfl))
        try simp only [Act.put, ka1, ka2, ka3, ka4, ka5, ka6]
        refine tk (i := 33) (v := ?_) rfl (by kernel_rfl) (fun _ _ _ h => h) (Or.inl ⟨by rfl, ?_⟩) (by assumption) ?_
        rotate_left
        ·(intro w hSw; (try dsimp only at hSw); go_simp; try (with_reducible rfl))
        try simp only [Act.put, ka1, ka2, ka3, ka4, ka5, ka6]
        refine tk (i := 34) (v := ?_) rfl (by kernel_rfl) (fun _ _ _ h => h) (Or.inl ⟨by rfl, ?_⟩) (by assumption) ?_
        rotate_left
        ·(intro w hSw; (try dsimp only at hSw); go_simp; try (with_reducible rfl))
        try simp only [Act.put, ka1, ka2, ka3, ka4, ka5, ka6]
        refine wpAnyH_done (by kernel_rfl) ?_ _
        try clear p0 p1 p2 p3 p4
        go_wp2
        go_ret
        exact ⟨bool_retT (by rw [HB0.out, hret]), HB.out⟩
       ·go_wp2_with fail
        have LT := hid (LT.out.old (Below_drew1 (Below.refl _ _)))
        have HB := hid (Below_drew1 HB.out)
        have p0 := LT.out.c 0 rfl
        have p1 := LT.out.c 1 rfl
        have p2 := LT.out.c 2 rfl
        have p3 := LT.out.c 3 rfl
        have p4 := PV.out
        have PG := hid PG0.out
        refine wp_region_held_drew (S := fun w' => w'.cell? ⟨wr.heap.size, 0, none⟩ = some (.int .i64 x) ∧ w'.cell? ⟨wr.heap.size, 1, none⟩ = some (.bool s) ∧ w'.cell? ⟨wr.heap.size, 2, none⟩ = some (.slice a3 n3 c3) ∧ w'.cell? ⟨wr.heap.size, 3, none⟩ = some (.slice b3 m3 d3) ∧ w'.cell? ⟨g, j * 4, none⟩ = some (.int .i64 y)) (by kernel_rfl) (by first | ((first | with_reducible exact ⟨p0, p1, p2, p3, p4⟩ | exact ⟨p0, p1, p2, p3, p4⟩)) | ((try dsimp only); (first | with_reducible exact ⟨p0, p1, p2, p3, p4⟩ | exact ⟨p0, p1, p2, p3, p4⟩))) (fun hHeld => ?_)
        refine tk (i := 0) (v := ?_) rfl (by kernel_rfl) (fun _ _ _ h => h) (Or.inl ⟨by rfl, ?_⟩) (by assumption) ?_
        rotate_left
        ·(intro w hSw; (try dsimp only at hSw); go_simp; try (with_reducible rfl))
        try simp only [Act.put, ka1, ka2, ka3, ka4, ka5]
        refine tk (i := 1) (v := ?_) rfl (by kernel_rfl) (fun _ _ _ h => h) (Or.inl ⟨by rfl, ?_⟩) (by assumption) ?_
        rotate_left
        ·(intro w hSw; (try dsimp only at hSw); go_simp; try (with_reducible rfl))
        try simp only [Act.put, ka1, ka2, ka3, ka4, ka5, ka6]
        refine tk (i := 2) (v := ?_) rfl (by kernel_rfl) (fun _ _ _ h => h) (Or.inl ⟨by rfl, ?_⟩) (by assumption) ?_
        rotate_left
        ·(intro w hSw; (try dsimp only at hSw); go_simp; try (with_reducible rfl))
        try simp only [Act.put, ka1, ka2, ka3, ka4, ka5, ka6]
        refine tk (i := 3) (v := ?_) rfl (by kernel_rfl) (fun _ _ _ h => h) (Or.inl ⟨by rfl, ?_⟩) (by assumption) ?_
        rotate_left
        ·(intro w hSw; (try dsimp only at hSw); go_simp; try (with_reducible rfl))
        try simp only [Act.put, ka1, ka2, ka3, ka4, ka5, ka6]
        refine wpAnyH_ready (rs := [4]) (by kernel_rfl) (by simp) ?_
        refine AllReadyH.cons (o := _) rfl (fun K hK => ?_) AllReadyH.nil
        go_simp
        (with_reducible refine (KI.out _).mono ?_)
        rintro e w2 ⟨rfl, rfl⟩
        go_wp2_with fail
        refine hK.out _ _ ?_ (fun hHeld => ?_)
        ·first | ((first | with_reducible exact ⟨p0, p1, p2, p3, p4⟩ | exact ⟨p0, p1, p2, p3, p4⟩)) | ((try dsimp only); (first | with_reducible exact ⟨p0, p1, p2, p3, p4⟩ | exact ⟨p0, p1, p2, p3, p4⟩))
        refine tk (i := 5) (v := ?_) rfl (by kernel_rfl) (fun _ _ _ h => h) (Or.inl ⟨by rfl, ?_⟩) (by assumption) ?_
        rotate_left
        ·(intro w hSw; (try dsimp only at hSw); go_simp; try (with_reducible rfl))
        try simp only [Act.put, ka1, ka2, ka3, ka4, ka5, ka6]
        refine tk (i := 6) (v := ?_) rfl (by kernel_rfl) (fun _ _ _ h => h) (Or.inl ⟨by rfl, ?_⟩) (by assumption) ?_
        rotate_left
        ·(intro w hSw; (try dsimp only at hSw); go_simp; try (with_reducible rfl))
        try simp only [Act.put, ka1, ka2, ka3, ka4, ka5, ka6]
        refine tk (i := 7) (v := ?_) rfl (by kernel_rfl) (fun _ _ _ h => h) (Or.inl ⟨by rfl, ?_⟩) (by assumption) ?_
        rotate_left
        ·(intro w hSw; (try dsimp only at hSw); go_simp; try (with_reducible rfl))
        try simp only [Act.put, ka1, ka2, ka3, ka4, ka5, ka6]
        refine tk (i := 8) (v := ?_) rfl (by kernel_rfl) (fun _ _ _ h => h) (Or.inl ⟨by rfl, ?_⟩) (by assumption) ?_
        rotate_left
        ·(intro w hSw; (try dsimp only at hSw); go_simp; try (with_reducible rfl))
        try simp only [Act.put, ka1, ka2, ka3, ka4, ka5, ka6]
        refine wpAnyH_ready (rs := [9]) (by kernel_rfl) (by simp) ?_
        refine AllReadyH.cons (o := _) rfl (fun K hK => ?_) AllReadyH.nil
        go_simp
        (with_reducible refine (KS.out _ (Below_drew1 below_new')).mono ?_)
        rintro e w2 ⟨rfl, hb⟩
        have HB := hid (HB.out.trans (hb.mono HB.out.size))
        have LT := hid (LT.out.old hb)
        have p0 := LT.out.c 0 rfl
        have p1 := LT.out.c 1 rfl
        have p2 := LT.out.c 2 rfl
        have p3 := LT.out.c 3 rfl
        have p4 := (hb.cell (p := ⟨g, j * 4, none⟩) PG.out).trans p4
        clear hb
        go_wp2_with fail
        refine hK.out _ _ ?_ (fun hHeld => ?_)
        ·first | ((first | with_reducible exact ⟨p0, p1, p2, p3, p4⟩ | exact ⟨p0, p1, p2, p3, p4⟩)) | ((try dsimp only); (first | with_reducible exact ⟨p0, p1, p2, p3, p4⟩ | exact ⟨p0, p1, p2, p3, p4⟩))
        refine tk (i := 10) (v := ?_) rfl (by kernel_rfl) (fun _ _ _ h => h) (Or.inl ⟨by rfl, ?_⟩) (by assumption) ?_
        rotate_left
        ·(intro w hSw; (try dsimp only at hSw); go_simp; try (with_reducible rfl))
        try simp only [Act.put, ka1, ka2, ka3, ka4, ka5, ka6]
        refine tk (i := 11) (v := ?_) rfl (by kernel_rfl) (fun _ _ _ h => h) (Or.inl ⟨by rfl, ?_⟩) (by assumption) ?_
        rotate_left
        ·(intro w hSw; (try dsimp only at hSw); go_simp; try (with_reducible rfl))
        try simp only [Act.put, ka1, ka2, ka3, ka4, ka5, ka6]
        refine tk (i := 12) (v := ?_) rfl (by kernel_rfl) (fun _ _ _ h => h) (Or.inl ⟨by rfl, ?_⟩) (by assumption) ?_
        rotate_left
        ·(intro w hSw; (try dsimp only at hSw); go_simp; try (with_reducible rfl))
        try simp only [Act.put, ka1, ka2, ka3, ka4, ka5, ka6]
        refine tk (i := 13) (v := ?_) rfl (by kernel_rfl) (fun _ _ _ h => h) (Or.inl ⟨by rfl, ?_⟩) (by assumption) ?_
        rotate_left
        ·(intro w hSw; (try dsimp only at hSw); go_simp; try (with_reducible rfl))
        try simp only [Act.put, ka1, ka2, ka3, ka4, ka5, ka6]
        refine tk (i := 14) (v := ?_) rfl (by kernel_rfl) (fun _ _ _ h => h) (Or.inl ⟨by rfl, ?_⟩) (by assumption) ?_
        rotate_left
        ·(intro w hSw; (try dsimp only at hSw); go_simp; try (with_reducible rfl))
        try simp only [Act.put, ka1, ka2, ka3, ka4, ka5, ka6]
        refine tk (i := 15) (v := ?_) rfl (by kernel_rfl) (fun _ _ _ h => h) (Or.inl ⟨by rfl, ?_⟩) (by assumption) ?_
        rotate_left
        ·(intro w hSw; (try dsimp only at hSw); go_simp; try (with_reducible rfl))
        try simp only [Act.put, ka1, ka2, ka3, ka4, ka5, ka6]
        refine tk (i := 16) (v := ?_) rfl (by kernel_rfl) (fun _ _ _ h => h) (Or.inl ⟨by rfl, ?_⟩) (by assumption) ?_
        rotate_left
        ·(intro w hSw; (try dsimp only at hSw); go_simp; try (with_reducible rfl))
        try simp only [Act.put, ka1, ka2, ka3, ka4, ka5, ka6]
        refine tk (i := 17) (v := ?_) rfl (by kernel_rfl) (fun _ _ _ h => h) (Or.inl ⟨by rfl, ?_⟩) (by assumption) ?_
        rotate_left
        ·(intro w hSw; (try dsimp only at hSw); go_simp; try (with_reducible rfl))
        try simp only [Act.put, ka1, ka2, ka3, ka4, ka5, ka6]
        refine tk (i := 18) (v := ?_) rfl (by kernel_rfl) (fun _ _ _ h => h) (Or.inl ⟨by rfl, ?_⟩) (by assumption) ?_
        rotate_left
        ·(intro w hSw; (try dsimp only at hSw); go_simp; try (with_reducible rfl))
        try simp only [Act.put, ka1, ka2, ka3, ka4, ka5, ka6]
        refine tk (i := 19) (v := ?_) rfl (by kernel_rfl) (fun _ _ _ h => h) (Or.inl ⟨by rfl, ?_⟩) (by assumption) ?_
        rotate_left
        ·(intro w hSw; (try dsimp only at hSw); go_simp; try (with_reducible rfl))
        try simp only [Act.put, ka1, ka2, ka3, ka4, ka5, ka6]
        refine tk (i := 20) (v := ?_) rfl (by kernel_rfl) (fun _ _ _ h => h) (Or.inl ⟨by rfl, ?_⟩) (by assumption) ?_
        rotate_left
        ·(intro w hSw; (try dsimp only at hSw); go_simp; try (with_reducible rfl))
        try simp only [Act.put, ka1, ka2, ka3, ka4, ka5, ka6]
        refine tk (i := 21) (v := ?_) rfl (by kernel_rfl) (fun _ _ _ h => h) (Or.inl ⟨by rfl, ?_⟩) (by assumption) ?_
        rotate_left
        ·(intro w hSw; (try dsimp only at hSw); go_simp; try (with_reducible rfl))
        try simp only [Act.put, ka1, ka2, ka3, ka4, ka5, ka6]
        refine tk (i := 22) (v := ?_) rfl (by kernel_rfl) (fun _ _ _ h => h) (Or.inl ⟨by rfl, ?_⟩) (by assumption) ?_
        rotate_left
        ·(intro w hSw; (try dsimp only at hSw); go_simp; try (with_reducible rfl))
        try simp only [Act.put, ka1, ka2, ka3, ka4, ka5, ka6]
        refine tk (i := 23) (v := ?_) rfl (by kernel_rfl) (fun _ _ _ h => h) (Or.inl ⟨by rfl, ?_⟩) (by assumption) ?_
        rotate_left
        ·(intro w hSw; (try dsimp only at hSw); go_simp; try (with_reducible rfl))
        try simp only [Act.put, ka1, ka2, ka3, ka4, ka5, ka6]
        refine tk (i := 24) (v := ?_) rfl (by kernel_rfl) (fun _ _ _ h => h) (Or.inl ⟨by rfl, ?_⟩) (by assumption) ?_
        rotate_left
        ·(intro w hSw; (try dsimp only at hSw); go_simp; try (with_reducible rfl))
        try simp only [Act.put, ka1, ka2, ka3, ka4, ka5, ka6]
        refine tk (i := 25) (v := ?_) rfl (by kernel_rfl) (fun _ _ _ h => h) (Or.inl ⟨by rfl, ?_⟩) (by assumption) ?_
        rotate_left
        ·(intro w hSw; (try dsimp only at hSw); go_simp; try (with_reducible rfl))
        try simp only [Act.put, ka1, ka2, ka3, ka4, ka5, ka6]
        refine tk (i := 26) (v := ?_) rfl (by kernel_rfl) (fun _ _ _ h => h) (Or.inl ⟨by rfl, ?_⟩) (by assumption) ?_
        rotate_left
        ·(intro w hSw; (try dsimp only at hSw); go_simp; try (with_reducible rfl))
        try simp only [Act.put, ka1, ka2, ka3, ka4, ka5, ka6]
        refine tk (i := 27) (v := ?_) rfl (by kernel_rfl) (fun _ _ _ h => h) (Or.inl ⟨by rfl, ?_⟩) (by assumption) ?_
        rotate_left
        ·(intro w hSw; (try dsimp only at hSw); go_simp; try (with_reducible rfl))
        try simp only [Act.put, ka1, ka2, ka3, ka4, ka5, ka6]
        refine tk (i := 28) (v := ?_) rfl (by kernel_rfl) (fun _ _ _ h => h) (Or.inl ⟨by rfl, ?_⟩) (by assumption) ?_
        rotate_left
        ·(intro w hSw; (try dsimp only at hSw); go_simp; try (with_reducible rfl))
        try simp only [Act.put, ka1, ka2, ka3, ka4, ka5, ka6]
        refine tk (i := 29) (v := ?_) rfl (by kernel_rfl) (fun _ _ _ h => h) (Or.inl ⟨by rfl, ?_⟩) (by assumption) ?_
        rotate_left
        ·(intro w hSw; (try dsimp only at hSw); go_simp; try (with_reducible rfl))
        try simp only [Act.put, ka1, ka2, ka3, ka4, ka5, ka6]
        refine tk (i := 30) (v := ?_) rfl (by kernel_rfl) (fun _ _ _ h => h) (Or.inl ⟨by rfl, ?_⟩) (by assumption) ?_
        rotate_left
        ·(intro w hSw; (try dsimp only at hSw); go_simp; try (with_reducible rfl))
        try simp only [Act.put, ka1, ka2, ka3, ka4, ka5, ka6]
        refine tk (i := 31) (v := ?_) rfl (by kernel_rfl) (fun _ _ _ h => h) (Or.inl ⟨by rfl, ?_⟩) (by assumption) ?_
        rotate_left
        ·(intro w hSw; (try dsimp only at hSw); go_simp; try (with_reducible rfl))
        try simp only [Act.put, ka1, ka2, ka3, ka4, ka5, ka6]
        refine tk (i := 32) (v := ?_) rfl (by kernel_rfl) (fun _ _ _ h => h) (Or.inl ⟨by rfl, ?_⟩) (by assumption) ?_
        rotate_left
        ·(intro w hSw; (try dsimp only at hSw); go_simp; try (with_reducible rfl))
        try simp only [Act.put, ka1, ka2, ka3, ka4, ka5, ka6]
        refine tk (i := 33) (v := ?_) rfl (by kernel_rfl) (fun _ _ _ h => h) (Or.inl ⟨by rfl, ?_⟩) (by assumption) ?_
        rotate_left
        ·(intro w hSw; (try dsimp only at hSw); go_simp; try (with_reducible rfl))
        try simp only [Act.put, ka1, ka2, ka3, ka4, ka5, ka6]
        refine tk (i := 34) (v := ?_) rfl (by kernel_rfl) (fun _ _ _ h => h) (Or.inl ⟨by rfl, ?_⟩) (by assumption) ?_
        rotate_left
        ·(intro w hSw; (try dsimp only at hSw); go_simp; try (with_reducible rfl))
        try simp only [Act.put, ka1, ka2, ka3, ka4, ka5, ka6]
        refine wpAnyH_done (by kernel_rfl) ?_ _
        try clear p0 p1 p2 p3 p4
        go_wp2
        go_roundw
        case rel => exact ⟨j + 1 + 1, by omega, by go_num, hid (fun z0 z1 => by rw [tokF_take hlt, hA.out z0 z1, hx0.out, HX.out, HO.out, HNZ.out]; have h1 := HP.out; have h2 := hHz.out z0 z1; simp only [Bool.and_eq_true, decide_eq_true_eq] at h1; simp; omega), HB.out⟩
        case measure => simp [intOf]; omega
  ·have HB := hid hbel
   clear hbel
   go_wp2_with fail
   (with_reducible refine (KL.out _).mono ?_)
   rintro e w2 ⟨rfl, rfl⟩
   go_wp2
   go_ret
   exact ⟨bool_retT (by
    obtain rfl : k = K.length := by omega
    have h1 := hA.out
    rw [List.take_length] at h1
    rw [HB0.out, tok]
    cases e : (decide (0 ≤ z) && decide (z ≤ 40)) with
    | false => rfl
    |true =>
     simp only [Bool.and_eq_true, decide_eq_true_eq] at e
     rw [h1 e.1 e.2]; rfl), HB.out⟩
end Go.Proofs.YteanocjkdehhgaaGreat
