/- Sums and differences of vectors (the reference). -/
import Derived.Test.YtmghoedjcokhpaaVy
import Derived.Deep.RegionHeld3
import Derived.Deep.DeepCutAuto
namespace Go.Proofs.Ytmghoedjcokhpaa
open Go.RowKit
open Go.Lib (hid)
set_option linter.unusedVariables false

def zw (f : Rat → Rat → Option Rat) (K L : List Fq) : List (Option Rat) := List.zipWith (fun a b => bq f a.o b.o) K L
/-- The elements of two vectors combined, if there is such a vector. -/
def vzip (f : Rat → Rat → Option Rat) (K L : List Fq) : List Fq := if K.length = L.length then vres (zw f K L) else []
theorem zw_len {f : Rat → Rat → Option Rat} {K L : List Fq} (h : K.length = L.length) : (zw f K L).length = K.length := by simp [zw, h]
theorem zw_at {f : Rat → Rat → Option Rat} {K L : List Fq} {k : Nat} (h : k < K.length) (h' : k < L.length) (hz : k < (zw f K L).length) : (zw f K L)[k] = bq f K[k].o L[k].o := by simp [zw]
theorem zw_fit {f : Rat → Rat → Option Rat} (hf : ∀ x y, fitO (f x y)) (K L : List Fq) : ∀ o ∈ zw f K L, fitO o := by
  intro o ho
  obtain ⟨k, hk, rfl⟩ := List.getElem_of_mem ho
  simp only [zw, List.getElem_zipWith]
  exact fitO_bq hf _ _
theorem vals_map : ∀ {os : List (Option Rat)}, (∀ o ∈ os, fitO o) → vals (os.map fqo) = os
  | [], _ => rfl
  | o :: os, h => by
    have h1 := fqo_o (h o (List.mem_cons_self ..))
    have h2 := vals_map (os := os) (fun x hx => h x (List.mem_cons_of_mem _ hx))
    unfold vals at h2 ⊢
    rw [List.map_cons, List.map_cons, h1, h2]
theorem ne_facts {a b : Nat} (h : a ≠ b) : ((a : Int) == (b : Int)) = false ∧ ((a : Int) != (b : Int)) = true := by
  have : ¬ (a : Int) = (b : Int) := by omega
  simp [this]
theorem VK.blk {p : Bool} {w : World} {g n c : Nat} {K : List Fq} {lo hi : Nat} (h : VK p w (.slice (some ⟨g, 0, none⟩) n c) K lo hi) : lo ≤ g ∧ g < w.heap.size := by
  obtain ⟨E, hE, -⟩ := h
  exact hE.lt g rfl
theorem kept2 {p : Bool} {w w2 wp : World} {ob : Go.Obj} {v x : Value} {K : List Fq} {hi g i : Nat} (hv : VK p (w2.alloc ob) v K w.heap.size hi) (hcp : ∀ k, k < (w2.alloc ob).heap.size → some k ≠ v.ownBlock → wp.heap[k]? = (w2.alloc ob).heap[k]?) (hg : g < w.heap.size) (hw : w.heap.size ≤ w2.heap.size)
    (q : w2.cell? ⟨g, i, none⟩ = some x) : wp.cell? ⟨g, i, none⟩ = some x := by
  have h1 : wp.cell? ⟨g, i, none⟩ = (w2.alloc ob).cell? ⟨g, i, none⟩ := World.cell?_of_block (w := w2.alloc ob) (hcp g (by simp; omega) (fun e => by
    obtain ⟨E, hE, -⟩ := hv
    have := (hE.lt g e.symm).1
    omega))
  exact h1.trans (((below_new' (w := w2) (o := ob)).cell (p := ⟨g, i, none⟩) (by show g < w2.heap.size; omega)).trans q)
set_option maxRecDepth 100000 in
theorem take_map {os : List (Option Rat)} {k : Nat} (h : k < os.length) {o : Option Rat} (ho : os[k] = o) : (os.take k).map fqo ++ [fqo o] = (os.take (k + 1)).map fqo := by
  rw [List.take_succ_eq_append_getElem h, List.map_append, ho, List.map_cons, List.map_nil]
set_option maxRecDepth 100000 in
set_option maxHeartbeats 6400000 in
theorem l06Ok_k {p : Bool} {a : Option Addr} {n c : Nat} {K : List Fq} {lo hi : Nat} (hK : Sm K) (w : World) (h : VK p w (.slice a n c) K lo hi) :
    Calls Try.prog 57 #[.slice a n c] w (RetB (if oks (vals K) = true then .slice a n c else .slice none 0 0) w) := by
  have KO := hid (spec_VecOk hK w h)
  cases hb : oks (vals K) with
  | true =>
    rw [hb] at KO
    rw [if_pos rfl]
    go_enter Try.func57, Try.ntmps57
    go_wp2_with fail
    (with_reducible refine (KO.out).mono ?_)
    rintro e w1 ⟨rfl, hb1⟩
    go_wp2
    go_ret
    exact ⟨rfl, hb1⟩
  | false =>
    rw [hb] at KO
    rw [if_neg (by decide)]
    go_enter Try.func57, Try.ntmps57
    go_wp2_with fail
    (with_reducible refine (KO.out).mono ?_)
    rintro e w1 ⟨rfl, hb1⟩
    go_wp2
    go_ret
    exact ⟨rfl, hb1⟩
theorem l06Ok_R {p : Bool} {a : Option Addr} {n c : Nat} {os : List (Option Rat)} {w wr : World} (hf : ∀ o ∈ os, fitO o) (hl : os.length ≤ 1048576) (h : VK p wr (.slice a n c) (os.map fqo) w.heap.size wr.heap.size) (hb : Below w.heap.size w wr) :
    Calls Try.prog 57 #[.slice a n c] wr (VecR p (vres os) w) := by
  refine (l06Ok_k (Sm.map hf hl) wr h).mono fun e w' ⟨he, hb'⟩ => ?_
  rw [vals_map hf] at he
  have hB := hb.trans (hb'.mono hb.size)
  unfold vres
  by_cases ho : oks os = true
  · rw [if_pos ho] at he ⊢
    exact ⟨_, _, _, he, (h.old hb').wide (Nat.le_refl _) hb'.size, hB⟩
  · rw [if_neg ho] at he ⊢
    exact ⟨_, _, _, he, VK_nil _ _ _ _, hB⟩
set_option maxRecDepth 100000 in
set_option maxHeartbeats 6400000 in
theorem spec_VecAdd {p q : Bool} {a : Option Addr} {n c : Nat} {b : Option Addr} {m d : Nat} {K L : List Fq} {lo hi lo' hi' : Nat} (hK : Sm K) (hL : Sm L) (w : World) (h : VK p w (.slice a n c) K lo hi) (h' : VK q w (.slice b m d) L lo' hi') :
    Calls Try.prog 25 #[.slice a n c, .slice b m d] w (VecR false (vzip addF K L) w) := by
  have HV := hid h
  have HW := hid h'
  obtain rfl := h.num
  obtain rfl := h'.num
  clear h h'
  have hkl := hK.2
  have hll := hL.2
  have V0 := hid (VK_lit0 false (w := w) (lo := w.heap.size) (Nat.le_refl _))
  have B0 := hid (show Below w.heap.size w (w.alloc (.cells #[] 45)) from below_new')
  have S0 := hid (show (w.alloc (.cells #[] 45)).heap.size = w.heap.size + 1 by simp)
  by_cases hne : K.length = L.length
  · have HR := hid (show vzip addF K L = vres (zw addF K L) by unfold vzip; rw [if_pos hne])
    have HZ := hid (zw_len (f := addF) hne)
    have HF := hid (zw_fit fitO_add K L)
    have HA := hid (fun k (h : k < K.length) (h' : k < L.length) (hz : k < (zw addF K L).length) => zw_at (f := addF) h h' hz)
    rw [HR.out]
    generalize zw addF K L = os at HZ HF HA ⊢
    clear HR
    have HN := hid hne
    rw [← hne] at HW ⊢
    clear hne
    go_enter Try.func25, Try.ntmps25
    go_wp2
    generalize w.alloc (.cells #[] 45) = w1 at V0 B0 S0 ⊢
    go_loopw [5, 15] (fun v i wr => ∃ (k : Nat) (a' : Option Addr) (c' : Nat), k ≤ K.length ∧ i = .int .i64 k ∧ v = .slice a' k c' ∧ Hid (VK false wr (.slice a' k c') ((os.take k).map fqo) w.heap.size wr.heap.size) ∧ Below w.heap.size w wr) (fun _ i _ => K.length - (intOf i).toNat)
    case atStart => exact ⟨0, _, 0, Nat.zero_le _, rfl, rfl, hid (V0.out.wide (Nat.le_refl _) (by rw [S0.out]; exact Nat.le_refl _)), B0.out⟩
    case round =>
      obtain ⟨k, a', c', hk, rfl, rfl, hV, hbel⟩ := hrel
      have HB := hid hbel
      by_cases hlt : k < K.length
      · have hlt2 : k < L.length := by rw [← HN.out]; exact hlt
        have X := hid (HV.out.old hbel)
        have Y := hid (HW.out.old hbel)
        clear hbel
        obtain ⟨g1, a31, n31, c31, b31, m31, d31, rfl, hg1, q01, q11, q21, R1⟩ := X.out.at hK hlt
        obtain ⟨⟨s1, A1, D1⟩, hf1⟩ : ∃ f, K[k]'(hlt) = f := ⟨_, rfl⟩
        simp only [hf1] at q01 R1
        have HF1 := hid hf1
        clear hf1
        obtain ⟨o1, ho1⟩ : ∃ o, Fq.o ⟨s1, A1, D1⟩ = o := ⟨_, rfl⟩
        have HO1 := hid (show (K[k]'(hlt)).o = o1 by rw [HF1.out, ho1])
        have RX1 := hid (show RA wr s1 (.slice a31 n31 c31) (.slice b31 m31 d31) o1 from ⟨A1, D1, R1, ho1⟩)
        clear ho1 R1
        obtain ⟨g2, a32, n32, c32, b32, m32, d32, rfl, hg2, q02, q12, q22, R2⟩ := Y.out.at hL hlt2
        obtain ⟨⟨s2, A2, D2⟩, hf2⟩ : ∃ f, L[k]'(hlt2) = f := ⟨_, rfl⟩
        simp only [hf2] at q02 R2
        have HF2 := hid hf2
        clear hf2
        obtain ⟨o2, ho2⟩ : ∃ o, Fq.o ⟨s2, A2, D2⟩ = o := ⟨_, rfl⟩
        have HO2 := hid (show (L[k]'(hlt2)).o = o2 by rw [HF2.out, ho2])
        have RX2 := hid (show RA wr s2 (.slice a32 n32 c32) (.slice b32 m32 d32) o2 from ⟨A2, D2, R2, ho2⟩)
        clear ho2 R2
        have HOO := hid (show os[k]'(by rw [HZ.out]; exact hlt) = bq addF o1 o2 by rw [HA.out k hlt hlt2 (by rw [HZ.out]; exact hlt), HO1.out, HO2.out])
        have hln := hid (show ((os.take k).map fqo).length = k by rw [List.length_map, List.length_take, HZ.out]; omega)
        have KF := hid (fun (W : World) (hb : Below wr.heap.size wr W) => sadd_o (w := W) (RX1.out.old hb) (RX2.out.old hb))
        have G1 := hid HV.out.blk.2
        have G2 := hid HW.out.blk.2
        have a1' : (0 : Int) ≤ k := by omega
        have a2 : (k : Int) < K.length := by omega
        have hz := HB.out.size
        have VD := hid (hV.out.old (Below_drew1 (Below.refl _ _)))
        have BD := hid (Below_drew1 HB.out)
        go_wp2_with fail
        go_region_held3 (fun w' => w'.cell? ⟨g1, k * 3, none⟩ = some (.bool s1) ∧ w'.cell? ⟨g1, k * 3 + 1, none⟩ = some (.slice a31 n31 c31) ∧ w'.cell? ⟨g1, k * 3 + 2, none⟩ = some (.slice b31 m31 d31) ∧ w'.cell? ⟨g2, k * 3, none⟩ = some (.bool s2) ∧ w'.cell? ⟨g2, k * 3 + 1, none⟩ = some (.slice a32 n32 c32) ∧ w'.cell? ⟨g2, k * 3 + 2, none⟩ = some (.slice b32 m32 d32)) (first | with_reducible exact ⟨q01, q11, q21, q02, q12, q22⟩ | go_keep)
          (first
            | (go_at_call 56; (with_reducible refine (KF.out _ (Below_drew1 (Below.refl _ _))).mono ?_); rintro e w2 ⟨s4, a4, n4, c4, b4, m4, d4, rfl, hr, hb⟩
               have q01 := (hb.cell (p := ⟨g1, k * 3, none⟩) hg1).trans q01; have q11 := (hb.cell (p := ⟨g1, k * 3 + 1, none⟩) hg1).trans q11; have q21 := (hb.cell (p := ⟨g1, k * 3 + 2, none⟩) hg1).trans q21; have q02 := (hb.cell (p := ⟨g2, k * 3, none⟩) hg2).trans q02; have q12 := (hb.cell (p := ⟨g2, k * 3 + 1, none⟩) hg2).trans q12; have q22 := (hb.cell (p := ⟨g2, k * 3 + 2, none⟩) hg2).trans q22
               have hz2 := hb.size
               have PV := hid ((VD.out.old hb).old (below_new' (o := .cells #[.bool s4, .slice a4 n4 c4, .slice b4 m4 d4] 45)))
               have PR := hid (hr.old (below_new' (o := .cells #[.bool s4, .slice a4 n4 c4, .slice b4 m4 d4] 45)))
               have PB := hid (heap_alloc_new w2 (.cells #[.bool s4, .slice a4 n4 c4, .slice b4 m4 d4] 45))
               have HB2 := hid ((BD.out.trans (hb.mono HB.out.size)).alloc (Nat.le_trans HB.out.size hb.size) (.cells #[.bool s4, .slice a4 n4 c4, .slice b4 m4 d4] 45))
               clear hr hb)
            | ((refine step_push rfl _ _ rfl (by rfl) PV.out (Nat.le_refl _) hz PR.out (by rfl) PB.out (by rw [hln.out]; omega) (by first | exact HB2.out.size | (have := HB2.out.size; simpa using this)) ?_)
               intro gp cp wp hvp hbp hcp
               have HB3 := hid (HB2.out.trans hbp)
               have HV3 := hid hvp
               have hzz := Nat.le_trans hz hz2
               have q01 := kept2 PV.out hcp G1.out hzz q01; have q11 := kept2 PV.out hcp G1.out hzz q11; have q21 := kept2 PV.out hcp G1.out hzz q21; have q02 := kept2 PV.out hcp G2.out hzz q02; have q12 := kept2 PV.out hcp G2.out hzz q12; have q22 := kept2 PV.out hcp G2.out hzz q22
               clear hvp hbp hcp))
        clear q01 q11 q21 q02 q12 q22
        go_wp2
        go_roundw
        case rel => exact ⟨k + 1, some ⟨gp, 0, none⟩, cp, by omega, by go_num, by have := HZ.out; rw [show min k os.length = k by omega], hid (by
          have h1 := HV3.out
          rw [take_map (by rw [HZ.out]; exact hlt) HOO.out, hln.out] at h1
          exact h1), HB3.out⟩
        case measure => simp [intOf]; omega
      · obtain rfl : k = K.length := by omega
        clear hbel
        have KZ := hid (l06Ok_R (w := w) (wr := wr) HF.out (by rw [HZ.out]; exact hkl) (by have h1 := hV.out; rwa [List.take_of_length_le (by rw [HZ.out]; exact Nat.le_refl _)] at h1) HB.out)
        go_wp2_with fail
        (with_reducible refine (KZ.out).mono ?_)
        rintro e w2 ⟨a5, n5, c5, rfl, hv5, hb5⟩
        have R := hid (show VecR false (vres os) w (.returned (.slice a5 n5 c5)) w2 from ⟨_, _, _, rfl, hv5, hb5⟩)
        clear hv5 hb5
        go_wp2
        go_ret
        exact R.out
  · have HR := hid (show vzip addF K L = [] by unfold vzip; rw [if_neg hne])
    obtain ⟨e1, e2⟩ := ne_facts hne
    rw [HR.out]
    have R := hid (show VecR false [] w (.returned (.slice none 0 0)) (w.alloc (.cells #[] 45)) from ⟨_, _, _, rfl, VK_nil _ _ _ _, B0.out⟩)
    go_enter Try.func25, Try.ntmps25
    go_wp2
    go_ret
    exact R.out
set_option maxRecDepth 100000 in
set_option maxHeartbeats 6400000 in
theorem spec_VecSub {p q : Bool} {a : Option Addr} {n c : Nat} {b : Option Addr} {m d : Nat} {K L : List Fq} {lo hi lo' hi' : Nat} (hK : Sm K) (hL : Sm L) (w : World) (h : VK p w (.slice a n c) K lo hi) (h' : VK q w (.slice b m d) L lo' hi') :
    Calls Try.prog 27 #[.slice a n c, .slice b m d] w (VecR false (vzip subF K L) w) := by
  have HV := hid h
  have HW := hid h'
  obtain rfl := h.num
  obtain rfl := h'.num
  clear h h'
  have hkl := hK.2
  have hll := hL.2
  have V0 := hid (VK_lit0 false (w := w) (lo := w.heap.size) (Nat.le_refl _))
  have B0 := hid (show Below w.heap.size w (w.alloc (.cells #[] 45)) from below_new')
  have S0 := hid (show (w.alloc (.cells #[] 45)).heap.size = w.heap.size + 1 by simp)
  by_cases hne : K.length = L.length
  · have HR := hid (show vzip subF K L = vres (zw subF K L) by unfold vzip; rw [if_pos hne])
    have HZ := hid (zw_len (f := subF) hne)
    have HF := hid (zw_fit fitO_sub K L)
    have HA := hid (fun k (h : k < K.length) (h' : k < L.length) (hz : k < (zw subF K L).length) => zw_at (f := subF) h h' hz)
    rw [HR.out]
    generalize zw subF K L = os at HZ HF HA ⊢
    clear HR
    have HN := hid hne
    rw [← hne] at HW ⊢
    clear hne
    go_enter Try.func27, Try.ntmps27
    go_wp2
    generalize w.alloc (.cells #[] 45) = w1 at V0 B0 S0 ⊢
    go_loopw [5, 15] (fun v i wr => ∃ (k : Nat) (a' : Option Addr) (c' : Nat), k ≤ K.length ∧ i = .int .i64 k ∧ v = .slice a' k c' ∧ Hid (VK false wr (.slice a' k c') ((os.take k).map fqo) w.heap.size wr.heap.size) ∧ Below w.heap.size w wr) (fun _ i _ => K.length - (intOf i).toNat)
    case atStart => exact ⟨0, _, 0, Nat.zero_le _, rfl, rfl, hid (V0.out.wide (Nat.le_refl _) (by rw [S0.out]; exact Nat.le_refl _)), B0.out⟩
    case round =>
      obtain ⟨k, a', c', hk, rfl, rfl, hV, hbel⟩ := hrel
      have HB := hid hbel
      by_cases hlt : k < K.length
      · have hlt2 : k < L.length := by rw [← HN.out]; exact hlt
        have X := hid (HV.out.old hbel)
        have Y := hid (HW.out.old hbel)
        clear hbel
        obtain ⟨g1, a31, n31, c31, b31, m31, d31, rfl, hg1, q01, q11, q21, R1⟩ := X.out.at hK hlt
        obtain ⟨⟨s1, A1, D1⟩, hf1⟩ : ∃ f, K[k]'(hlt) = f := ⟨_, rfl⟩
        simp only [hf1] at q01 R1
        have HF1 := hid hf1
        clear hf1
        obtain ⟨o1, ho1⟩ : ∃ o, Fq.o ⟨s1, A1, D1⟩ = o := ⟨_, rfl⟩
        have HO1 := hid (show (K[k]'(hlt)).o = o1 by rw [HF1.out, ho1])
        have RX1 := hid (show RA wr s1 (.slice a31 n31 c31) (.slice b31 m31 d31) o1 from ⟨A1, D1, R1, ho1⟩)
        clear ho1 R1
        obtain ⟨g2, a32, n32, c32, b32, m32, d32, rfl, hg2, q02, q12, q22, R2⟩ := Y.out.at hL hlt2
        obtain ⟨⟨s2, A2, D2⟩, hf2⟩ : ∃ f, L[k]'(hlt2) = f := ⟨_, rfl⟩
        simp only [hf2] at q02 R2
        have HF2 := hid hf2
        clear hf2
        obtain ⟨o2, ho2⟩ : ∃ o, Fq.o ⟨s2, A2, D2⟩ = o := ⟨_, rfl⟩
        have HO2 := hid (show (L[k]'(hlt2)).o = o2 by rw [HF2.out, ho2])
        have RX2 := hid (show RA wr s2 (.slice a32 n32 c32) (.slice b32 m32 d32) o2 from ⟨A2, D2, R2, ho2⟩)
        clear ho2 R2
        have HOO := hid (show os[k]'(by rw [HZ.out]; exact hlt) = bq subF o1 o2 by rw [HA.out k hlt hlt2 (by rw [HZ.out]; exact hlt), HO1.out, HO2.out])
        have hln := hid (show ((os.take k).map fqo).length = k by rw [List.length_map, List.length_take, HZ.out]; omega)
        have KF := hid (fun (W : World) (hb : Below wr.heap.size wr W) => ssub_o (w := W) (RX1.out.old hb) (RX2.out.old hb))
        have G1 := hid HV.out.blk.2
        have G2 := hid HW.out.blk.2
        have a1' : (0 : Int) ≤ k := by omega
        have a2 : (k : Int) < K.length := by omega
        have hz := HB.out.size
        have VD := hid (hV.out.old (Below_drew1 (Below.refl _ _)))
        have BD := hid (Below_drew1 HB.out)
        go_wp2_with fail
        go_region_held3 (fun w' => w'.cell? ⟨g1, k * 3, none⟩ = some (.bool s1) ∧ w'.cell? ⟨g1, k * 3 + 1, none⟩ = some (.slice a31 n31 c31) ∧ w'.cell? ⟨g1, k * 3 + 2, none⟩ = some (.slice b31 m31 d31) ∧ w'.cell? ⟨g2, k * 3, none⟩ = some (.bool s2) ∧ w'.cell? ⟨g2, k * 3 + 1, none⟩ = some (.slice a32 n32 c32) ∧ w'.cell? ⟨g2, k * 3 + 2, none⟩ = some (.slice b32 m32 d32)) (first | with_reducible exact ⟨q01, q11, q21, q02, q12, q22⟩ | go_keep)
          (first
            | (go_at_call 60; (with_reducible refine (KF.out _ (Below_drew1 (Below.refl _ _))).mono ?_); rintro e w2 ⟨s4, a4, n4, c4, b4, m4, d4, rfl, hr, hb⟩
               have q01 := (hb.cell (p := ⟨g1, k * 3, none⟩) hg1).trans q01; have q11 := (hb.cell (p := ⟨g1, k * 3 + 1, none⟩) hg1).trans q11; have q21 := (hb.cell (p := ⟨g1, k * 3 + 2, none⟩) hg1).trans q21; have q02 := (hb.cell (p := ⟨g2, k * 3, none⟩) hg2).trans q02; have q12 := (hb.cell (p := ⟨g2, k * 3 + 1, none⟩) hg2).trans q12; have q22 := (hb.cell (p := ⟨g2, k * 3 + 2, none⟩) hg2).trans q22
               have hz2 := hb.size
               have PV := hid ((VD.out.old hb).old (below_new' (o := .cells #[.bool s4, .slice a4 n4 c4, .slice b4 m4 d4] 45)))
               have PR := hid (hr.old (below_new' (o := .cells #[.bool s4, .slice a4 n4 c4, .slice b4 m4 d4] 45)))
               have PB := hid (heap_alloc_new w2 (.cells #[.bool s4, .slice a4 n4 c4, .slice b4 m4 d4] 45))
               have HB2 := hid ((BD.out.trans (hb.mono HB.out.size)).alloc (Nat.le_trans HB.out.size hb.size) (.cells #[.bool s4, .slice a4 n4 c4, .slice b4 m4 d4] 45))
               clear hr hb)
            | ((refine step_push rfl _ _ rfl (by rfl) PV.out (Nat.le_refl _) hz PR.out (by rfl) PB.out (by rw [hln.out]; omega) (by first | exact HB2.out.size | (have := HB2.out.size; simpa using this)) ?_)
               intro gp cp wp hvp hbp hcp
               have HB3 := hid (HB2.out.trans hbp)
               have HV3 := hid hvp
               have hzz := Nat.le_trans hz hz2
               have q01 := kept2 PV.out hcp G1.out hzz q01; have q11 := kept2 PV.out hcp G1.out hzz q11; have q21 := kept2 PV.out hcp G1.out hzz q21; have q02 := kept2 PV.out hcp G2.out hzz q02; have q12 := kept2 PV.out hcp G2.out hzz q12; have q22 := kept2 PV.out hcp G2.out hzz q22
               clear hvp hbp hcp))
        clear q01 q11 q21 q02 q12 q22
        go_wp2
        go_roundw
        case rel => exact ⟨k + 1, some ⟨gp, 0, none⟩, cp, by omega, by go_num, by have := HZ.out; rw [show min k os.length = k by omega], hid (by
          have h1 := HV3.out
          rw [take_map (by rw [HZ.out]; exact hlt) HOO.out, hln.out] at h1
          exact h1), HB3.out⟩
        case measure => simp [intOf]; omega
      · obtain rfl : k = K.length := by omega
        clear hbel
        have KZ := hid (l06Ok_R (w := w) (wr := wr) HF.out (by rw [HZ.out]; exact hkl) (by have h1 := hV.out; rwa [List.take_of_length_le (by rw [HZ.out]; exact Nat.le_refl _)] at h1) HB.out)
        go_wp2_with fail
        (with_reducible refine (KZ.out).mono ?_)
        rintro e w2 ⟨a5, n5, c5, rfl, hv5, hb5⟩
        have R := hid (show VecR false (vres os) w (.returned (.slice a5 n5 c5)) w2 from ⟨_, _, _, rfl, hv5, hb5⟩)
        clear hv5 hb5
        go_wp2
        go_ret
        exact R.out
  · have HR := hid (show vzip subF K L = [] by unfold vzip; rw [if_neg hne])
    obtain ⟨e1, e2⟩ := ne_facts hne
    rw [HR.out]
    have R := hid (show VecR false [] w (.returned (.slice none 0 0)) (w.alloc (.cells #[] 45)) from ⟨_, _, _, rfl, VK_nil _ _ _ _, B0.out⟩)
    go_enter Try.func27, Try.ntmps27
    go_wp2
    go_ret
    exact R.out
end Go.Proofs.Ytmghoedjcokhpaa
