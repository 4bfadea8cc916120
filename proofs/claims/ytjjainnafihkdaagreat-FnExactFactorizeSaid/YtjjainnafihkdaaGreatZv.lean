import Derived.Test.YtjjainnafihkdaaGreatZq
import Derived.Test.YtjjainnafihkdaaGreatZi
import Derived.Test.YtjjainnafihkdaaGreatZs
import Derived.Test.YtjjainnafihkdaaGreatYu
import Derived.Test.YtjjainnafihkdaaGreatXd
import Derived.BigQuiet
import Derived.Deep.RegionHeld3
import Derived.Deep.DeepCutAuto
set_option maxRecDepth 100000
set_option maxHeartbeats 25600000
set_option linter.unusedVariables false
set_option linter.unusedSimpArgs false
namespace Go.Proofs.YtjjainnafihkdaaGreat
open Go.RowKit
open Go.Lib (hid)
theorem flat_drop : ∀ (E : List El) (n : Nat), flat (E.drop n) = (flat E).drop (n * 3)
 | E, 0 => by simp
 | [], n + 1 => by simp [flat]
 |e :: E, n + 1 => by
  rw [List.drop_succ_cons, flat_drop E n, flat_cons, show (n + 1) * 3 = n * 3 + 1 + 1 + 1 by omega]
  rfl
theorem part_row {B B' G : Nat} {n cap g o c i L : Nat} (W : World) (hB : W.cell? ⟨B, 0, none⟩ = some (.slice (some ⟨G, 0, none⟩) n cap)) (hB' : W.cell? ⟨B', 0, none⟩ = some (.int .i64 (n : Int))) (hi : i < n) (h0 : 0 < n) (hL : L = n + n) (hc : L ≤ c)
  (hq : W.cell? ⟨G, i, none⟩ = some (.slice (some ⟨g, o, none⟩) L c)) :
  Calls Tryz.prog 116 #[.int .i64 (i : Int), .pointer (some ⟨B, 0, none⟩), .pointer (some ⟨B', 0, none⟩)] W (fun e W' => Below W.heap.size W W' ∧ e = .returned (.slice (some ⟨g, o + n * 3, none⟩) n (c - n))) := by
 have a1 : (0 : Int) ≤ i := by omega
 have a2 : (i : Int) < n := by omega
 have a3 : (0 : Int) ≤ n := by omega
 have a4 : (n : Int) ≤ L := by omega
 have a5 : ¬ c = n := by omega
 have a6 : (L : Int) ≤ c := by omega
 have a7 : L - n = n := by omega
 go_enter Tryz.func116, Tryz.ntmps116
 go_wp2_with fail
 go_quiet (fail)
 go_wp2
 go_ret
 exact ⟨Below_drewN (Below.refl _ _), rfl⟩
theorem flat_cells {w : World} {g o : Nat} {E : List El} (h : ∀ k (hk : k < E.length), w.cell? ⟨g, o + k * 3, none⟩ = some (.bool E[k].q.s) ∧ w.cell? ⟨g, o + k * 3 + 1, none⟩ = some E[k].v ∧ w.cell? ⟨g, o + k * 3 + 2, none⟩ = some E[k].u) : ∀ j v, (flat E)[j]? = some v → w.cell? ⟨g, o + j, none⟩ = some v := by
 intro j v hj
 have hj' : j < (flat E).length := (List.getElem?_eq_some_iff.1 hj).1
 rw [flat_len] at hj'
 obtain ⟨i, hi'⟩ : ∃ i, i = j / 3 := ⟨_, rfl⟩
 have hiK : i < E.length := by omega
 obtain ⟨f0, f1, f2⟩ := flat_at E i hiK
 obtain ⟨c0, c1, c2⟩ := h i hiK
 have hcase : j = i * 3 ∨ j = i * 3 + 1 ∨ j = i * 3 + 2 := by omega
 rcases hcase with e | e | e
 ·rw [e] at hj ⊢; rw [f0] at hj; cases hj; exact c0
 ·rw [e] at hj ⊢; rw [f1] at hj; cases hj; exact c1
 ·rw [e] at hj ⊢; rw [f2] at hj; cases hj; exact c2
theorem inv_build {C N2 B' G cap lo h1 : Nat} {w5 w6 : World} {H : List Value} {S : List (List Rat)} {Es : List (List El)} (h40 : C ≤ 40) (h0 : 0 < C) (hN : N2 = C + C) (hEl : Es.length = S.length)
  (hes : ∀ i (h1 : i < S.length) (h2 : i < Es.length), keys Es[i] = rv S[i] ∧ ∃ g o c, H[i]? = some (.slice (some ⟨g, o, none⟩) S[i].length c) ∧ S[i].length ≤ c ∧ g < w5.heap.size ∧ ∀ k (hk : k < Es[i].length), w5.cell? ⟨g, o + k * 3, none⟩ = some (.bool Es[i][k].q.s) ∧ w5.cell? ⟨g, o + k * 3 + 1, none⟩ = some Es[i][k].v ∧ w5.cell? ⟨g, o + k * 3 + 2, none⟩ = some Es[i][k].u)
  (hro : ∀ e ∈ Es.flatten, ROw w5 e.v e.u e.q.A e.q.D lo h1 ∧ NdE e) (hap : Es.flatten.Pairwise Apt) (hrow : w5.ownsRow lo 42 1 (.slice (some ⟨G, 0, none⟩) C cap) C H) (hle : h1 ≤ w5.heap.size) (hlo : lo ≤ w5.heap.size) (hB'l : B' < w5.heap.size)
  (hSl : S.length = C) (hSR : ∀ i (hi : i < S.length), S[i].length = N2) (q0 : w6.cell? ⟨B', 0, none⟩ = some (.int .i64 (C : Int))) (q1 : w6.cell? ⟨w5.heap.size, 0, none⟩ = some (.slice (some ⟨G, 0, none⟩) C cap))
  (hb6 : Below w5.heap.size w5 w6) (hs6 : w6.heap.size = w5.heap.size + 1) (U : World) (hU : Below w6.heap.size w6 U) :
  Calls Tryz.prog 115 #[.int .i64 (C : Int), .int .i64 (C : Int), .func (.func 116) #[] #[.pointer (some ⟨w5.heap.size, 0, none⟩), .pointer (some ⟨B', 0, none⟩)]] U (fun e w' => ∃ a n c, e = .returned (.slice a n c) ∧ MAK w' (.slice a n c) ((S.map fun X => X.drop C).map rv) lo w'.heap.size ∧ Below U.heap.size U w') := by
 have hEn : ∀ i (hi : i < Es.length), Es[i].length = N2 := fun i hi => by
  have h2 : i < S.length := by omega
  rw [← keys_len, (hes i h2 hi).1, rv_len, hSR i h2]
 obtain ⟨F, hF⟩ : ∃ F : Nat → List El, F = fun i => (Es.getD i []).drop C := ⟨_, rfl⟩
 have hFi : ∀ i (hi : i < Es.length), F i = Es[i].drop C := fun i hi => by rw [hF]; simp [hi]
 have hmap : (List.range C).map F = Es.map (fun E => E.drop C) := by
  apply List.ext_getElem
  ·simp; omega
  ·intro i h1 h2
   simp only [List.getElem_map, List.getElem_range]
   exact hFi i (by simpa using h2)
 have hU5 : Below w5.heap.size w5 U := hb6.trans (hU.mono hb6.size)
 have hUz := hU5.size
 refine (buildMat_own h40 h40 (by omega) 116 #[.pointer (some ⟨w5.heap.size, 0, none⟩), .pointer (some ⟨B', 0, none⟩)] F (lo := lo) U (fun args W => enter_of Tryz.func116 (by kernel_rfl) rfl args W) (by omega) (fun i hi => ?_) (fun i hi e he => ?_) ?_ (fun i hi W hW => ?_)).mono fun e w' ⟨a, n, c, he, hm, hb⟩ => ⟨a, n, c, he, ?_, hb⟩
 ·rw [hFi i (by omega), List.length_drop, hEn i (by omega)]; omega
 ·have h1 : i < Es.length := by omega
  rw [hFi i h1] at he
  obtain ⟨ro, nd⟩ := hro e (List.mem_flatten.2 ⟨_, List.getElem_mem h1, List.mem_of_mem_drop he⟩)
  have r := ro.old hU5
  exact ⟨⟨r.a.wide (Nat.le_refl _) (.inr (by omega)), r.d.wide (Nat.le_refl _) (.inr (by omega))⟩, nd⟩
 ·rw [hmap, List.pairwise_flatten]
  obtain ⟨p1, p2⟩ := List.pairwise_flatten.1 hap
  refine ⟨fun l hl => ?_, ?_⟩
  ·obtain ⟨E, hE, rfl⟩ := List.mem_map.1 hl
   exact (p1 E hE).sublist (List.drop_sublist _ _)
  ·rw [List.pairwise_map]
   exact p2.imp fun h x hx y hy => h x (List.mem_of_mem_drop hx) y (List.mem_of_mem_drop hy)
 ·have h2 : i < S.length := by omega
  have h1 : i < Es.length := by omega
  obtain ⟨hk, g, o, c, eH, hc, hg, hcell⟩ := hes i h2 h1
  have hW6 : Below w6.heap.size w6 W := hU.trans (hW.mono hU.size)
  have hW5 : Below w5.heap.size w5 W := hb6.trans (hW6.mono hb6.size)
  have hq := hrow.cells (g := G) rfl i _ eH
  rw [Go.WideShapes.add_plain, Nat.zero_add, hSR i h2] at hq
  have hq := (hW5.cell (p := ⟨G, i, none⟩) (hrow.lt G rfl).2).trans hq
  refine (part_row (cap := cap) W ((hW6.cell (p := ⟨w5.heap.size, 0, none⟩) (show w5.heap.size < w6.heap.size by omega)).trans q1) ((hW6.cell (p := ⟨B', 0, none⟩) (show B' < w6.heap.size by omega)).trans q0) hi h0 hN (by rw [← hSR i h2]; exact hc) hq).mono fun e W' ⟨hb, he⟩ => ⟨hb, g, o + C * 3, c - C, he, by omega, fun j v hj => ?_⟩
  rw [hFi i h1, flat_drop, List.getElem?_drop] at hj
  have := flat_cells hcell _ v hj
  rw [show o + C * 3 + j = o + (C * 3 + j) by omega]
  exact (hU5.cell (p := ⟨g, o + (C * 3 + j), none⟩) hg).trans this
 ·have e : ((List.range C).map fun i => keys (F i)) = (S.map fun X => X.drop C).map rv := by
   rw [List.map_map]
   apply List.ext_getElem
   ·simp; omega
   ·intro i h1 h2
    have hs : i < S.length := by simpa using h2
    simp only [List.getElem_map, List.getElem_range, Function.comp_apply]
    rw [hFi i (by omega), keys, List.map_drop]
    show (keys (Es[i]'(by omega))).drop C = _
    rw [(hes i hs (by omega)).1, rv, rv, List.map_drop]
  rw [← e]
  exact hm
theorem impl_Inverse {a : Option Addr} {n c : Nat} {M : List (List Fq)} {lo hi : Nat} (hM : Sm2 M) (w : World) (h : MW w a n M lo hi) :
  Calls Tryz.prog 42 #[.slice a n c] w (InvG (invF M) (invB M) w) := by
 obtain rfl := h.num
 have BW := hid (below_new' (w := w) (o := .cells #[.int .i64 (M.length : Int)] 3))
 have HBc := hid (show (w.alloc (.cells #[.int .i64 (M.length : Int)] 3)).cell? ⟨w.heap.size, 0, none⟩ = some (.int .i64 (M.length : Int)) by simp)
 have HS := hid (show (w.alloc (.cells #[.int .i64 (M.length : Int)] 3)).heap.size = w.heap.size + 1 by simp)
 have HV := hid (h.old BW.out)
 have hkl := hM.2
 clear h
 generalize hWW : w.alloc (.cells #[.int .i64 (M.length : Int)] 3) = W at BW HBc HS HV
 have HWW := hid hWW
 have h0l := hid (show w.heap.size < W.heap.size by rw [HS.out]; omega)
 clear hWW
 have KO := hid (fun (U : World) (hb : Below W.heap.size W U) => impl_MatOk (c := c) hM U (HV.out.old hb))
 have KW := hid (fun (U : World) (hb : Below W.heap.size W U) => impl_matWidth (c := c) hM U (HV.out.old hb))
 obtain ⟨RS, hRS⟩ : ∃ RS, RS = invF M := ⟨_, rfl⟩
 obtain ⟨RB, hRB⟩ : ∃ RB, RB = invB M := ⟨_, rfl⟩
 rw [← hRS, ← hRB]
 have HRS := hid hRS
 have HRB := hid hRB
 have NO := hid (fun (e : invM M = none) (w' : World) (hb : Below w.heap.size w w') => show InvG RS RB w (.returned (.tuple #[.slice none 0 0, .bool false])) w' from InvG_no (by rw [HRS.out]; exact (inv_none e).1) (by rw [HRB.out]; exact (inv_none e).2) hb)
 have HSM := hid hM
 clear hRS hRB hM
 cases hok : matOk M with
 |false =>
  rw [hok] at KO
  have HN := hid (invM_no (M := M) (fun h => by rw [hok] at h; exact absurd h.1.1 (by decide)))
  clear hok
  go_enter Tryz.func42, Tryz.ntmps42
  go_wp2_with fail
  rw [HWW.out]
  have HU := hid (Below_drew1 (Below.refl W.heap.size W))
  have q0 : W.drew.cell? ⟨w.heap.size, 0, none⟩ = _ := HBc.out
  refine wp_region_held_drew (S := (fun w' => w'.cell? ⟨w.heap.size, 0, none⟩ = some (.int .i64 (M.length : Int)))) (by kernel_rfl) (by first | ((first | with_reducible exact q0 | exact q0)) | ((try dsimp only); (first | with_reducible exact q0 | exact q0))) (fun hHeld => ?_)
  refine tk (i := 0) (v := ?_) rfl (by kernel_rfl) (fun _ _ _ h => h) (Or.inl ⟨by rfl, ?_⟩) (by assumption) ?_
  rotate_left
  ·(intro w hSw; (try dsimp only at hSw); go_simp; try (with_reducible rfl))
  try simp only [Act.put, ka1, ka2, ka3, ka4, ka5]
  refine wpAnyH_ready (rs := [1]) (by kernel_rfl) (by simp) ?_
  refine AllReadyH.cons (o := _) rfl (fun K hK => ?_) AllReadyH.nil
  go_simp
  (with_reducible refine (KO.out _ HU.out).mono ?_)
  rintro e w2 ⟨rfl, hb⟩
  have q0 := (hb.cell (p := ⟨w.heap.size, 0, none⟩) (Nat.lt_of_lt_of_le h0l.out HU.out.size)).trans q0
  have HU := hid (HU.out.trans (hb.mono HU.out.size))
  clear hb
  go_wp2_with fail
  refine hK.out _ _ ?_ (fun hHeld => ?_)
  ·first | ((first | with_reducible exact q0 | exact q0)) | ((try dsimp only); (first | with_reducible exact q0 | exact q0))
  refine tk (i := 2) (v := ?_) rfl (by kernel_rfl) (fun _ _ _ h => h) (Or.inl ⟨by rfl, ?_⟩) (by assumption) ?_
  rotate_left
  ·(intro w hSw; (try dsimp only at hSw); go_simp; try (with_reducible rfl))
  try simp only [Act.put, ka1, ka2, ka3, ka4, ka5, ka6]
  refine tk (i := 3) (v := ?_) rfl (by kernel_rfl) (fun _ _ _ h => h) (Or.inl ⟨by rfl, ?_⟩) (by assumption) ?_
  rotate_left
  ·(intro w hSw; (try dsimp only at hSw); go_simp; try (with_reducible rfl))
  try simp only [Act.put, ka1, ka2, ka3, ka4, ka5, ka6]
  refine tk (i := 4) (v := undef) rfl (by kernel_rfl) (fun _ _ _ h => h) (Or.inr ⟨by rfl, rfl⟩) (by assumption) ?_
  try simp only [Act.put, ka1, ka2, ka3, ka4, ka5, ka6]
  refine tk (i := 5) (v := undef) rfl (by kernel_rfl) (fun _ _ _ h => h) (Or.inr ⟨by rfl, rfl⟩) (by assumption) ?_
  try simp only [Act.put, ka1, ka2, ka3, ka4, ka5, ka6]
  refine tk (i := 6) (v := ?_) rfl (by kernel_rfl) (fun _ _ _ h => h) (Or.inl ⟨by rfl, ?_⟩) (by assumption) ?_
  rotate_left
  ·(intro w hSw; (try dsimp only at hSw); go_simp; try (with_reducible rfl))
  try simp only [Act.put, ka1, ka2, ka3, ka4, ka5, ka6]
  refine tk (i := 7) (v := ?_) rfl (by kernel_rfl) (fun _ _ _ h => h) (Or.inl ⟨by rfl, ?_⟩) (by assumption) ?_
  rotate_left
  ·(intro w hSw; (try dsimp only at hSw); go_simp; try (with_reducible rfl))
  try simp only [Act.put, ka1, ka2, ka3, ka4, ka5, ka6]
  refine tk (i := 8) (v := undef) rfl (by kernel_rfl) (fun _ _ _ h => h) (Or.inr ⟨by rfl, rfl⟩) (by assumption) ?_
  try simp only [Act.put, ka1, ka2, ka3, ka4, ka5, ka6]
  refine tk (i := 9) (v := undef) rfl (by kernel_rfl) (fun _ _ _ h => h) (Or.inr ⟨by rfl, rfl⟩) (by assumption) ?_
  try simp only [Act.put, ka1, ka2, ka3, ka4, ka5, ka6]
  refine tk (i := 10) (v := undef) rfl (by kernel_rfl) (fun _ _ _ h => h) (Or.inr ⟨by rfl, rfl⟩) (by assumption) ?_
  try simp only [Act.put, ka1, ka2, ka3, ka4, ka5, ka6]
  refine tk (i := 11) (v := undef) rfl (by kernel_rfl) (fun _ _ _ h => h) (Or.inr ⟨by rfl, rfl⟩) (by assumption) ?_
  try simp only [Act.put, ka1, ka2, ka3, ka4, ka5, ka6]
  refine tk (i := 12) (v := ?_) rfl (by kernel_rfl) (fun _ _ _ h => h) (Or.inl ⟨by rfl, ?_⟩) (by assumption) ?_
  rotate_left
  ·(intro w hSw; (try dsimp only at hSw); go_simp; try (with_reducible rfl))
  try simp only [Act.put, ka1, ka2, ka3, ka4, ka5, ka6]
  refine wpAnyH_done (by kernel_rfl) ?_ _
  have R := hid (NO.out HN.out _ (BW.out.trans (HU.out.mono BW.out.size)))
  clear q0
  go_wp2
  refine bodyPost_ret (results_tmp2 rfl _ _ _) rfl ?_
  exact R.out
 |true =>
  rw [hok] at KO
  by_cases h0 : M.length = 0
  case pos =>
   have e0 : ((M.length : Int) == 0) = true := by simp [h0]
   have HN := hid (invM_no (M := M) (fun h => h.1.2 h0))
   clear hok h0
   go_enter Tryz.func42, Tryz.ntmps42
   go_wp2_with fail
   rw [HWW.out]
   have HU := hid (Below_drew1 (Below.refl W.heap.size W))
   have q0 : W.drew.cell? ⟨w.heap.size, 0, none⟩ = _ := HBc.out
   refine wp_region_held_drew (S := (fun w' => w'.cell? ⟨w.heap.size, 0, none⟩ = some (.int .i64 (M.length : Int)))) (by kernel_rfl) (by first | ((first | with_reducible exact q0 | exact q0)) | ((try dsimp only); (first | with_reducible exact q0 | exact q0))) (fun hHeld => ?_)
   refine tk (i := 0) (v := ?_) rfl (by kernel_rfl) (fun _ _ _ h => h) (Or.inl ⟨by rfl, ?_⟩) (by assumption) ?_
   rotate_left
   ·(intro w hSw; (try dsimp only at hSw); go_simp; try (with_reducible rfl))
   try simp only [Act.put, ka1, ka2, ka3, ka4, ka5]
   refine wpAnyH_ready (rs := [1]) (by kernel_rfl) (by simp) ?_
   refine AllReadyH.cons (o := _) rfl (fun K hK => ?_) AllReadyH.nil
   go_simp
   (with_reducible refine (KO.out _ HU.out).mono ?_)
   rintro e w2 ⟨rfl, hb⟩
   have q0 := (hb.cell (p := ⟨w.heap.size, 0, none⟩) (Nat.lt_of_lt_of_le h0l.out HU.out.size)).trans q0
   have HU := hid (HU.out.trans (hb.mono HU.out.size))
   clear hb
   go_wp2_with fail
   refine hK.out _ _ ?_ (fun hHeld => ?_)
   ·first | ((first | with_reducible exact q0 | exact q0)) | ((try dsimp only); (first | with_reducible exact q0 | exact q0))
   refine tk (i := 2) (v := ?_) rfl (by kernel_rfl) (fun _ _ _ h => h) (Or.inl ⟨by rfl, ?_⟩) (by assumption) ?_
   rotate_left
   ·(intro w hSw; (try dsimp only at hSw); go_simp; try (with_reducible rfl))
   try simp only [Act.put, ka1, ka2, ka3, ka4, ka5, ka6]
   refine tk (i := 3) (v := ?_) rfl (by kernel_rfl) (fun _ _ _ h => h) (Or.inl ⟨by rfl, ?_⟩) (by assumption) ?_
   rotate_left
   ·(intro w hSw; (try dsimp only at hSw); go_simp; try (with_reducible rfl))
   try simp only [Act.put, ka1, ka2, ka3, ka4, ka5, ka6]
   refine tk (i := 4) (v := ?_) rfl (by kernel_rfl) (fun _ _ _ h => h) (Or.inl ⟨by rfl, ?_⟩) (by assumption) ?_
   rotate_left
   ·(intro w hSw; (try dsimp only at hSw); go_simp; try (with_reducible rfl))
   try simp only [Act.put, ka1, ka2, ka3, ka4, ka5, ka6]
   refine tk (i := 5) (v := ?_) rfl (by kernel_rfl) (fun _ _ _ h => h) (Or.inl ⟨by rfl, ?_⟩) (by assumption) ?_
   rotate_left
   ·(intro w hSw; (try dsimp only at hSw); go_simp; try (with_reducible rfl))
   try simp only [Act.put, ka1, ka2, ka3, ka4, ka5, ka6]
   refine tk (i := 6) (v := ?_) rfl (by kernel_rfl) (fun _ _ _ h => h) (Or.inl ⟨by rfl, ?_⟩) (by assumption) ?_
   rotate_left
   ·(intro w hSw; (try dsimp only at hSw); go_simp; try (with_reducible rfl))
   try simp only [Act.put, ka1, ka2, ka3, ka4, ka5, ka6]
   refine tk (i := 7) (v := ?_) rfl (by kernel_rfl) (fun _ _ _ h => h) (Or.inl ⟨by rfl, ?_⟩) (by assumption) ?_
   rotate_left
   ·(intro w hSw; (try dsimp only at hSw); go_simp; try (with_reducible rfl))
   try simp only [Act.put, ka1, ka2, ka3, ka4, ka5, ka6]
   refine tk (i := 8) (v := undef) rfl (by kernel_rfl) (fun _ _ _ h => h) (Or.inr ⟨by rfl, rfl⟩) (by assumption) ?_
   try simp only [Act.put, ka1, ka2, ka3, ka4, ka5, ka6]
   refine tk (i := 9) (v := undef) rfl (by kernel_rfl) (fun _ _ _ h => h) (Or.inr ⟨by rfl, rfl⟩) (by assumption) ?_
   try simp only [Act.put, ka1, ka2, ka3, ka4, ka5, ka6]
   refine tk (i := 10) (v := undef) rfl (by kernel_rfl) (fun _ _ _ h => h) (Or.inr ⟨by rfl, rfl⟩) (by assumption) ?_
   try simp only [Act.put, ka1, ka2, ka3, ka4, ka5, ka6]
   refine tk (i := 11) (v := undef) rfl (by kernel_rfl) (fun _ _ _ h => h) (Or.inr ⟨by rfl, rfl⟩) (by assumption) ?_
   try simp only [Act.put, ka1, ka2, ka3, ka4, ka5, ka6]
   refine tk (i := 12) (v := ?_) rfl (by kernel_rfl) (fun _ _ _ h => h) (Or.inl ⟨by rfl, ?_⟩) (by assumption) ?_
   rotate_left
   ·(intro w hSw; (try dsimp only at hSw); go_simp; try (with_reducible rfl))
   try simp only [Act.put, ka1, ka2, ka3, ka4, ka5, ka6]
   refine wpAnyH_done (by kernel_rfl) ?_ _
   have R := hid (NO.out HN.out _ (BW.out.trans (HU.out.mono BW.out.size)))
   clear q0
   go_wp2
   refine bodyPost_ret (results_tmp2 rfl _ _ _) rfl ?_
   exact R.out
  case neg =>
   have e0 : ((M.length : Int) == 0) = false := beq_eq_false_iff_ne.2 (by omega)
   by_cases hl : M.length = matW M
   case neg =>
    have HN := hid (invM_no (M := M) (fun h => hl h.2.1))
    obtain ⟨e1, e2⟩ := ne_facts hl
    clear hok h0 hl
    go_enter Tryz.func42, Tryz.ntmps42
    go_wp2_with fail
    rw [HWW.out]
    have HU := hid (Below_drew1 (Below.refl W.heap.size W))
    have q0 : W.drew.cell? ⟨w.heap.size, 0, none⟩ = _ := HBc.out
    refine wp_region_held_drew (S := (fun w' => w'.cell? ⟨w.heap.size, 0, none⟩ = some (.int .i64 (M.length : Int)))) (by kernel_rfl) (by first | ((first | with_reducible exact q0 | exact q0)) | ((try dsimp only); (first | with_reducible exact q0 | exact q0))) (fun hHeld => ?_)
    refine tk (i := 0) (v := ?_) rfl (by kernel_rfl) (fun _ _ _ h => h) (Or.inl ⟨by rfl, ?_⟩) (by assumption) ?_
    rotate_left
    ·(intro w hSw; (try dsimp only at hSw); go_simp; try (with_reducible rfl))
    try simp only [Act.put, ka1, ka2, ka3, ka4, ka5]
    refine wpAnyH_ready (rs := [1]) (by kernel_rfl) (by simp) ?_
    refine AllReadyH.cons (o := _) rfl (fun K hK => ?_) AllReadyH.nil
    go_simp
    (with_reducible refine (KO.out _ HU.out).mono ?_)
    rintro e w2 ⟨rfl, hb⟩
    have q0 := (hb.cell (p := ⟨w.heap.size, 0, none⟩) (Nat.lt_of_lt_of_le h0l.out HU.out.size)).trans q0
    have HU := hid (HU.out.trans (hb.mono HU.out.size))
    clear hb
    go_wp2_with fail
    refine hK.out _ _ ?_ (fun hHeld => ?_)
    ·first | ((first | with_reducible exact q0 | exact q0)) | ((try dsimp only); (first | with_reducible exact q0 | exact q0))
    refine tk (i := 2) (v := ?_) rfl (by kernel_rfl) (fun _ _ _ h => h) (Or.inl ⟨by rfl, ?_⟩) (by assumption) ?_
    rotate_left
    ·(intro w hSw; (try dsimp only at hSw); go_simp; try (with_reducible rfl))
    try simp only [Act.put, ka1, ka2, ka3, ka4, ka5, ka6]
    refine tk (i := 3) (v := ?_) rfl (by kernel_rfl) (fun _ _ _ h => h) (Or.inl ⟨by rfl, ?_⟩) (by assumption) ?_
    rotate_left
    ·(intro w hSw; (try dsimp only at hSw); go_simp; try (with_reducible rfl))
    try simp only [Act.put, ka1, ka2, ka3, ka4, ka5, ka6]
    refine tk (i := 4) (v := ?_) rfl (by kernel_rfl) (fun _ _ _ h => h) (Or.inl ⟨by rfl, ?_⟩) (by assumption) ?_
    rotate_left
    ·(intro w hSw; (try dsimp only at hSw); go_simp; try (with_reducible rfl))
    try simp only [Act.put, ka1, ka2, ka3, ka4, ka5, ka6]
    refine tk (i := 5) (v := ?_) rfl (by kernel_rfl) (fun _ _ _ h => h) (Or.inl ⟨by rfl, ?_⟩) (by assumption) ?_
    rotate_left
    ·(intro w hSw; (try dsimp only at hSw); go_simp; try (with_reducible rfl))
    try simp only [Act.put, ka1, ka2, ka3, ka4, ka5, ka6]
    refine tk (i := 6) (v := ?_) rfl (by kernel_rfl) (fun _ _ _ h => h) (Or.inl ⟨by rfl, ?_⟩) (by assumption) ?_
    rotate_left
    ·(intro w hSw; (try dsimp only at hSw); go_simp; try (with_reducible rfl))
    try simp only [Act.put, ka1, ka2, ka3, ka4, ka5, ka6]
    refine tk (i := 7) (v := ?_) rfl (by kernel_rfl) (fun _ _ _ h => h) (Or.inl ⟨by rfl, ?_⟩) (by assumption) ?_
    rotate_left
    ·(intro w hSw; (try dsimp only at hSw); go_simp; try (with_reducible rfl))
    try simp only [Act.put, ka1, ka2, ka3, ka4, ka5, ka6]
    refine tk (i := 8) (v := ?_) rfl (by kernel_rfl) (fun _ _ _ h => h) (Or.inl ⟨by rfl, ?_⟩) (by assumption) ?_
    rotate_left
    ·(intro w hSw; (try dsimp only at hSw); go_simp; try (with_reducible rfl))
    try simp only [Act.put, ka1, ka2, ka3, ka4, ka5, ka6]
    refine tk (i := 9) (v := ?_) rfl (by kernel_rfl) (fun _ _ _ h => h) (Or.inl ⟨by rfl, ?_⟩) (by assumption) ?_
    rotate_left
    ·(intro w hSw; (try dsimp only at hSw); go_simp; try (with_reducible rfl))
    try simp only [Act.put, ka1, ka2, ka3, ka4, ka5, ka6]
    refine wpAnyH_ready (rs := [10]) (by kernel_rfl) (by simp) ?_
    refine AllReadyH.cons (o := _) rfl (fun K hK => ?_) AllReadyH.nil
    go_simp
    (with_reducible refine (KW.out _ HU.out).mono ?_)
    rintro e w2 ⟨rfl, rfl⟩
    go_wp2_with fail
    refine hK.out _ _ ?_ (fun hHeld => ?_)
    ·first | ((first | with_reducible exact q0 | exact q0)) | ((try dsimp only); (first | with_reducible exact q0 | exact q0))
    refine tk (i := 11) (v := ?_) rfl (by kernel_rfl) (fun _ _ _ h => h) (Or.inl ⟨by rfl, ?_⟩) (by assumption) ?_
    rotate_left
    ·(intro w hSw; (try dsimp only at hSw); go_simp; try (with_reducible rfl))
    try simp only [Act.put, ka1, ka2, ka3, ka4, ka5, ka6]
    refine tk (i := 12) (v := ?_) rfl (by kernel_rfl) (fun _ _ _ h => h) (Or.inl ⟨by rfl, ?_⟩) (by assumption) ?_
    rotate_left
    ·(intro w hSw; (try dsimp only at hSw); go_simp; try (with_reducible rfl))
    try simp only [Act.put, ka1, ka2, ka3, ka4, ka5, ka6]
    refine wpAnyH_done (by kernel_rfl) ?_ _
    have R := hid (NO.out HN.out _ (BW.out.trans (HU.out.mono BW.out.size)))
    clear q0
    go_wp2
    refine bodyPost_ret (results_tmp2 rfl _ _ _) rfl ?_
    exact R.out
   case pos =>
    have hn40 := matOk_n hok
    obtain ⟨hbig, hsml⟩ := inv_join hok h0 hl
    rw [← hl] at KW
    have hII : M.length ≤ (matI (M.length : Int)).length := by rw [matI_len hn40]; exact Nat.le_refl _
    have HSI := hid (matI_sm hn40)
    have KI := hid (fun U => impl_MatIdentity (M.length : Int) (by omega) (by omega) U)
    have KJ := hid (fun (U : World) (hb : Below W.heap.size W U) (x : Option Addr) (y z : Nat) (l h' : Nat) (hx : MW U x y (matI (M.length : Int)) l h') => joinRows_any (c := c) (d := z) HSM.out HSI.out hII U (HV.out.old hb) hx)
    obtain ⟨J, hJ⟩ : ∃ J, J = joinF M (matI (M.length : Int)) := ⟨_, rfl⟩
    have hJl : J.length = M.length := by rw [hJ]; exact joinF_len hII
    have HSJ := hid (show Sm2 J by
     rw [hJ]
     exact Sm2_join hII HSM.out HSI.out fun k hk => by
      have h1 := (matOk_row hok hk).1
      have h2 := (matI_row hn40 k (by omega)).1
      omega)
    rw [← hJ] at hbig hsml KJ
    have HSML := hid hsml
    have HBIG := hid hbig
    have HJL := hid hJl
    clear hok hl hJ hsml hbig hII hJl
    go_enter Tryz.func42, Tryz.ntmps42
    go_wp2_with fail
    rw [HWW.out]
    have HU := hid (Below_drew1 (Below.refl W.heap.size W))
    have q0 : W.drew.cell? ⟨w.heap.size, 0, none⟩ = _ := HBc.out
    refine wp_region_held_drew (S := (fun w' => w'.cell? ⟨w.heap.size, 0, none⟩ = some (.int .i64 (M.length : Int)))) (by kernel_rfl) (by first | ((first | with_reducible exact q0 | exact q0)) | ((try dsimp only); (first | with_reducible exact q0 | exact q0))) (fun hHeld => ?_)
    refine tk (i := 0) (v := ?_) rfl (by kernel_rfl) (fun _ _ _ h => h) (Or.inl ⟨by rfl, ?_⟩) (by assumption) ?_
    rotate_left
    ·(intro w hSw; (try dsimp only at hSw); go_simp; try (with_reducible rfl))
    try simp only [Act.put, ka1, ka2, ka3, ka4, ka5]
    refine wpAnyH_ready (rs := [1]) (by kernel_rfl) (by simp) ?_
    refine AllReadyH.cons (o := _) rfl (fun K hK => ?_) AllReadyH.nil
    go_simp
    (with_reducible refine (KO.out _ HU.out).mono ?_)
    rintro e w2 ⟨rfl, hb⟩
    have q0 := (hb.cell (p := ⟨w.heap.size, 0, none⟩) (Nat.lt_of_lt_of_le h0l.out HU.out.size)).trans q0
    have HU := hid (HU.out.trans (hb.mono HU.out.size))
    clear hb
    go_wp2_with fail
    refine hK.out _ _ ?_ (fun hHeld => ?_)
    ·first | ((first | with_reducible exact q0 | exact q0)) | ((try dsimp only); (first | with_reducible exact q0 | exact q0))
    refine tk (i := 2) (v := ?_) rfl (by kernel_rfl) (fun _ _ _ h => h) (Or.inl ⟨by rfl, ?_⟩) (by assumption) ?_
    rotate_left
    ·(intro w hSw; (try dsimp only at hSw); go_simp; try (with_reducible rfl))
    try simp only [Act.put, ka1, ka2, ka3, ka4, ka5, ka6]
    refine tk (i := 3) (v := ?_) rfl (by kernel_rfl) (fun _ _ _ h => h) (Or.inl ⟨by rfl, ?_⟩) (by assumption) ?_
    rotate_left
    ·(intro w hSw; (try dsimp only at hSw); go_simp; try (with_reducible rfl))
    try simp only [Act.put, ka1, ka2, ka3, ka4, ka5, ka6]
    refine tk (i := 4) (v := ?_) rfl (by kernel_rfl) (fun _ _ _ h => h) (Or.inl ⟨by rfl, ?_⟩) (by assumption) ?_
    rotate_left
    ·(intro w hSw; (try dsimp only at hSw); go_simp; try (with_reducible rfl))
    try simp only [Act.put, ka1, ka2, ka3, ka4, ka5, ka6]
    refine tk (i := 5) (v := ?_) rfl (by kernel_rfl) (fun _ _ _ h => h) (Or.inl ⟨by rfl, ?_⟩) (by assumption) ?_
    rotate_left
    ·(intro w hSw; (try dsimp only at hSw); go_simp; try (with_reducible rfl))
    try simp only [Act.put, ka1, ka2, ka3, ka4, ka5, ka6]
    refine tk (i := 6) (v := ?_) rfl (by kernel_rfl) (fun _ _ _ h => h) (Or.inl ⟨by rfl, ?_⟩) (by assumption) ?_
    rotate_left
    ·(intro w hSw; (try dsimp only at hSw); go_simp; try (with_reducible rfl))
    try simp only [Act.put, ka1, ka2, ka3, ka4, ka5, ka6]
    refine tk (i := 7) (v := ?_) rfl (by kernel_rfl) (fun _ _ _ h => h) (Or.inl ⟨by rfl, ?_⟩) (by assumption) ?_
    rotate_left
    ·(intro w hSw; (try dsimp only at hSw); go_simp; try (with_reducible rfl))
    try simp only [Act.put, ka1, ka2, ka3, ka4, ka5, ka6]
    refine tk (i := 8) (v := ?_) rfl (by kernel_rfl) (fun _ _ _ h => h) (Or.inl ⟨by rfl, ?_⟩) (by assumption) ?_
    rotate_left
    ·(intro w hSw; (try dsimp only at hSw); go_simp; try (with_reducible rfl))
    try simp only [Act.put, ka1, ka2, ka3, ka4, ka5, ka6]
    refine tk (i := 9) (v := ?_) rfl (by kernel_rfl) (fun _ _ _ h => h) (Or.inl ⟨by rfl, ?_⟩) (by assumption) ?_
    rotate_left
    ·(intro w hSw; (try dsimp only at hSw); go_simp; try (with_reducible rfl))
    try simp only [Act.put, ka1, ka2, ka3, ka4, ka5, ka6]
    refine wpAnyH_ready (rs := [10]) (by kernel_rfl) (by simp) ?_
    refine AllReadyH.cons (o := _) rfl (fun K hK => ?_) AllReadyH.nil
    go_simp
    (with_reducible refine (KW.out _ HU.out).mono ?_)
    rintro e w2 ⟨rfl, rfl⟩
    go_wp2_with fail
    refine hK.out _ _ ?_ (fun hHeld => ?_)
    ·first | ((first | with_reducible exact q0 | exact q0)) | ((try dsimp only); (first | with_reducible exact q0 | exact q0))
    refine tk (i := 11) (v := ?_) rfl (by kernel_rfl) (fun _ _ _ h => h) (Or.inl ⟨by rfl, ?_⟩) (by assumption) ?_
    rotate_left
    ·(intro w hSw; (try dsimp only at hSw); go_simp; try (with_reducible rfl))
    try simp only [Act.put, ka1, ka2, ka3, ka4, ka5, ka6]
    refine tk (i := 12) (v := ?_) rfl (by kernel_rfl) (fun _ _ _ h => h) (Or.inl ⟨by rfl, ?_⟩) (by assumption) ?_
    rotate_left
    ·(intro w hSw; (try dsimp only at hSw); go_simp; try (with_reducible rfl))
    try simp only [Act.put, ka1, ka2, ka3, ka4, ka5, ka6]
    refine wpAnyH_done (by kernel_rfl) ?_ _
    go_wp2_with fail
    (with_reducible refine (KI.out _).mono ?_)
    rintro e w3 ⟨a3, n3, c3, rfl, hm, hb⟩
    have HU3 := hid (HU.out.trans (hb.mono HU.out.size))
    have q0 := (hb.cell (p := ⟨w.heap.size, 0, none⟩) (Nat.lt_of_lt_of_le h0l.out HU.out.size)).trans q0
    have KJ3 := hid (KJ.out _ HU3.out _ _ c3 _ _ hm.mw)
    clear hm hb
    go_wp2_with fail
    (with_reducible refine (KJ3.out).mono ?_)
    rintro e w4 ⟨aj, nj, cj, rfl, hmj, hb⟩
    have HU4 := hid (HU3.out.trans (hb.mono HU3.out.size))
    have q0 := (hb.cell (p := ⟨w.heap.size, 0, none⟩) (Nat.lt_of_lt_of_le h0l.out HU3.out.size)).trans q0
    have HMJ := hid hmj
    obtain rfl := hmj.num
    have HB4 := hid (BW.out.trans (HU4.out.mono BW.out.size))
    clear hmj hb
    by_cases h40 : 40 < M.length + M.length
    case pos =>
     have KR := hid (reduceRows_bad (c := cj) HSJ.out (HBIG.out h40) w4 HMJ.out)
     have HN := hid (invM_no (M := M) (fun h => by omega))
     clear h40
     go_wp2_with fail
     (with_reducible refine (KR.out).mono ?_)
     rintro e w5 ⟨rfl, hb⟩
     have HB5 := hid (HB4.out.trans (hb.mono HB4.out.size))
     have q0 := (hb.cell (p := ⟨w.heap.size, 0, none⟩) (Nat.lt_of_lt_of_le h0l.out HU4.out.size)).trans q0
     have BA := hid (HB5.out.alloc HB5.out.size (.cells #[.slice none 0 0] 24))
     have q1 := World.cell?_of_block (a := ⟨w5.heap.size, 0, none⟩) rfl |>.trans (show (w5.alloc (.cells #[.slice none 0 0] 24)).cell? ⟨w5.heap.size, 0, none⟩ = some (.slice none 0 0) by simp)
     have q0 := ((below_new' (w := w5) (o := .cells #[.slice none 0 0] 24)).cell (p := ⟨w.heap.size, 0, none⟩) (show w.heap.size < w5.heap.size by have := HU4.out.size; have := h0l.out; have := hb.size; omega)).trans q0
     clear hb
     go_wp2_with fail
     go_quiet (fail)
     have R := hid (fun (p : Nat) => NO.out HN.out ((w5.alloc (.cells #[.slice none 0 0] 24)).drewN p) (Below_drewN BA.out))
     clear q0 q1
     go_wp2
     refine bodyPost_ret (results_tmp2 rfl _ _ _) rfl ?_
     exact R.out _
    case neg =>
     obtain ⟨hj1, hj2, hj3, hR, hI, hinv⟩ := HSML.out (by omega)
     obtain ⟨u1, u2⟩ := un_rv hj1
     have hun := un_len J
     have hjl := HJL.out
     obtain ⟨N2, hN2⟩ : ∃ N2, N2 = M.length + M.length := ⟨_, rfl⟩
     rw [hj2, ← hN2] at u2
     have KR := hid (reduceRows_any (c := cj) u2 (by omega) (by omega) (by omega) w4 (show MW w4 aj J.length ((un J).map rv) 0 w4.heap.size by rw [← u1]; exact HMJ.out))
     have hpr := inv_prog hR (un_len M) (Nat.pos_of_ne_zero h0) hI
     rw [← hj3, ← hinv, ← hN2] at hpr
     have HPR := hid hpr
     have HN2 := hid hN2
     rw [show (un J).length = M.length by omega] at KR
     clear hj1 hj2 hj3 hR hI hinv u1 u2 hun hjl hpr hN2 h40
     rcases HPR.out with ⟨er, hn⟩ | ⟨S, ps, er, hsl, hSR, hpl, hcase⟩
     ·rw [er] at KR
      have HN := hid hn
      clear er hn
      go_wp2_with fail
      (with_reducible refine (KR.out).mono ?_)
      rintro e w5 ⟨rfl, hb⟩
      have HB5 := hid (HB4.out.trans (hb.mono HB4.out.size))
      have q0 := (hb.cell (p := ⟨w.heap.size, 0, none⟩) (Nat.lt_of_lt_of_le h0l.out HU4.out.size)).trans q0
      have BA := hid (HB5.out.alloc HB5.out.size (.cells #[.slice none 0 0] 24))
      have q1 := World.cell?_of_block (a := ⟨w5.heap.size, 0, none⟩) rfl |>.trans (show (w5.alloc (.cells #[.slice none 0 0] 24)).cell? ⟨w5.heap.size, 0, none⟩ = some (.slice none 0 0) by simp)
      have q0 := ((below_new' (w := w5) (o := .cells #[.slice none 0 0] 24)).cell (p := ⟨w.heap.size, 0, none⟩) (show w.heap.size < w5.heap.size by have := HU4.out.size; have := h0l.out; have := hb.size; omega)).trans q0
      clear hb
      go_wp2_with fail
      go_quiet (fail)
      have R := hid (fun (p : Nat) => NO.out HN.out ((w5.alloc (.cells #[.slice none 0 0] 24)).drewN p) (Below_drewN BA.out))
      clear q0 q1
      go_wp2
      refine bodyPost_ret (results_tmp2 rfl _ _ _) rfl ?_
      exact R.out _
     ·rw [er] at KR
      have HSR := hid hSR
      have HSL := hid hsl
      clear er hSR
      go_wp2_with fail
      (with_reducible refine (KR.out).mono ?_)
      rintro e w5 ⟨G, cap, pv, H, h1, rfl, hIX, hp, hb⟩
      obtain ⟨a7, c7, rfl⟩ := natI_form hp
      have HU5 := hid (HU4.out.trans (hb.mono HU4.out.size))
      have q0 := (hb.cell (p := ⟨w.heap.size, 0, none⟩) (Nat.lt_of_lt_of_le h0l.out HU4.out.size)).trans q0
      have HB5 := hid (HB4.out.trans (hb.mono HB4.out.size))
      have hz45 := hid hb.size
      obtain ⟨Es, hel, hes, hero, heap⟩ := hIX.els
      have HES := hid hes
      have HERO := hid hero
      have HEAP := hid heap
      have HEL := hid hel
      have hle1 := hid ((RI_IX _ _ _ _ _).le hIX)
      have HROW := hid ((RI_IX _ _ _ _ _).row hIX)
      have HPV := hid hp
      have BN := hid (below_new' (w := w5) (o := .cells #[.slice (some ⟨G, 0, none⟩) M.length cap] 24))
      have hwl := hid (show w.heap.size < w5.heap.size by have := HU5.out.size; have := h0l.out; omega)
      have HW5s := hid (show (w5.alloc (.cells #[.slice (some ⟨G, 0, none⟩) M.length cap] 24)).heap.size = w5.heap.size + 1 by simp)
      have q1 := (show (w5.alloc (.cells #[.slice (some ⟨G, 0, none⟩) M.length cap] 24)).cell? ⟨w5.heap.size, 0, none⟩ = some (.slice (some ⟨G, 0, none⟩) M.length cap) by simp)
      have q0 := (BN.out.cell (p := ⟨w.heap.size, 0, none⟩) hwl.out).trans q0
      have BA := hid (HB5.out.trans (BN.out.mono HB5.out.size))
      have hlt9 : M.length - 1 < ps.length := by rw [hpl]; have := Nat.pos_of_ne_zero h0; omega
      obtain ⟨g5, o5, ea7, hc⟩ := (Ints_nz (Ints_old hp BN.out)).2 (M.length - 1) hlt9
      subst ea7
      have b2 : ((M.length - 1 : Nat) : Int) = (M.length : Int) - 1 := by omega
      have b3 : (0 : Int) ≤ (M.length : Int) - 1 := by omega
      have b4 : (M.length : Int) - 1 < (ps.length : Int) := by omega
      have hwr : IntKind.i64.wrap ((M.length : Int) - 1) = (M.length : Int) - 1 := IntWalk.i64_in _ (by omega)
      clear hIX hp hb hel hes hero heap
      rcases hcase with ⟨hge, hn⟩ | ⟨hlt, hy⟩
      ·have HN := hid hn
       have b5 : (M.length : Int) ≤ (ps[M.length - 1] : Int) := by omega
       generalize ps[M.length - 1] = pl at hc b5
       clear hn hge hpl hsl
       go_wp2_with fail
       go_quiet (fail)
       have R := hid (fun (p : Nat) => NO.out HN.out ((w5.alloc (.cells #[.slice (some ⟨G, 0, none⟩) M.length cap] 24)).drewN p) (Below_drewN BA.out))
       clear q0 q1 hc
       go_wp2
       refine bodyPost_ret (results_tmp2 rfl _ _ _) rfl ?_
       exact R.out _
      ·have HY := hid hy
       have b5 : ¬ (M.length : Int) ≤ (ps[M.length - 1] : Int) := by omega
       generalize ps[M.length - 1] = pl at hc b5
       have KB := hid (fun (U : World) (hU : Below (w5.alloc (.cells #[.slice (some ⟨G, 0, none⟩) M.length cap] 24)).heap.size (w5.alloc (.cells #[.slice (some ⟨G, 0, none⟩) M.length cap] 24)) U) =>
        inv_build (C := M.length) hn40 (by omega) HN2.out HEL.out HES.out HERO.out HEAP.out HROW.out hle1.out hz45.out hwl.out (HSL.out) (fun i hi => (HSR.out.at hi).1) q0 q1 BN.out HW5s.out U hU)
       clear hy hlt hpl hsl
       go_wp2_with fail
       go_quiet (fail)
       clear hc
       go_wp2_with fail
       (with_reducible refine (KB.out _ (Below_drewN (Below.refl _ _))).mono ?_)
       rintro e w9 ⟨a9, n9, c9, rfl, hm, hb⟩
       have R := hid (show InvG RS RB w (.returned (.tuple #[.slice a9 n9 c9, .bool true])) w9 by
        rw [HRS.out, HRB.out, (inv_some HY.out).1, (inv_some HY.out).2]
        exact ⟨_, _, _, rfl, hm.wide HB4.out.size (Nat.le_refl _), (Below_drewN BA.out).trans (hb.mono BA.out.size)⟩)
       clear hm hb q0 q1
       go_wp2
       refine bodyPost_ret (results_tmp2 rfl _ _ _) rfl ?_
       exact R.out
end Go.Proofs.YtjjainnafihkdaaGreat
