import Derived.Test.YtjjainnafihkdaaGreatXh
import Derived.Test.YtjjainnafihkdaaGreatXw
import Derived.Deep.RegionHeld3
import Derived.Deep.RegionLaw
import Derived.Deep.DeepCutAuto
set_option maxRecDepth 100000
set_option maxHeartbeats 6400000
set_option linter.unusedVariables false
namespace Go.Proofs.YtjjainnafihkdaaGreat
open Go.RowKit
open Go.Lib (hid)
theorem szeroK_len {N : Nat} (h : N ≤ 40) : (zeroK (N : Int)).length = N := by rw [zeroK_yes h, List.length_replicate]
theorem spec_MatZero (r c : Int) (r0 : -9223372036854775808 ≤ r) (r1 : r ≤ 9223372036854775807) (c0 : -9223372036854775808 ≤ c) (c1 : c ≤ 9223372036854775807) (w : World) :
  Calls Tryz.prog 182 #[.int .i64 r, .int .i64 c] w (MatK false (matZ r c) w) := by
 have BW := hid (below_new' (w := w) (o := .cells #[] 42))
 have HS := hid (show (w.alloc (.cells #[] 42)).heap.size = w.heap.size + 1 by simp)
 have HR := hid (MR_lit0 false (w := w) (lo := w.heap.size) (Nat.le_refl _))
 by_cases hr : r < 0 ∨ 40 < r
 ·rw [matZ_no (.inl hr)]
  have KD := hid (fun W => l01In_n r 0 40 hr W)
  have R := hid (show MatK false [] w (.returned (.slice none 0 0)) (w.alloc (.cells #[] 42)) from ⟨_, _, _, rfl, MK_nil _ _ _ _, BW.out⟩)
  clear hr
  go_enter Tryz.func182, Tryz.ntmps182
  go_wp2_with fail
  (with_reducible refine (KD.out _).mono ?_)
  rintro e w2 ⟨rfl, rfl⟩
  go_wp2
  go_ret
  exact R.out
 ·obtain ⟨N, rfl⟩ : ∃ N : Nat, r = N := ⟨r.toNat, by omega⟩
  have hN : N ≤ 40 := by omega
  have KD := hid (fun W => l01In_y (N : Int) 0 40 (by omega) (by omega) W)
  by_cases hc : c < 0 ∨ 40 < c
  ·rw [matZ_no (.inr hc)]
   have KE := hid (fun W => l01In_n c 0 40 hc W)
   have R := hid (show MatK false [] w (.returned (.slice none 0 0)) (w.alloc (.cells #[] 42)) from ⟨_, _, _, rfl, MK_nil _ _ _ _, BW.out⟩)
   clear hr hc
   go_enter Tryz.func182, Tryz.ntmps182
   go_wp2_with fail
   (with_reducible refine (KD.out _).mono ?_)
   rintro e w2 ⟨rfl, rfl⟩
   go_wp2_with fail
   (with_reducible refine (KE.out _).mono ?_)
   rintro e w2 ⟨rfl, rfl⟩
   go_wp2
   go_ret
   exact R.out
  ·obtain ⟨C, rfl⟩ : ∃ C : Nat, c = C := ⟨c.toNat, by omega⟩
   have hC : C ≤ 40 := by omega
   have KE := hid (fun W => l01In_y (C : Int) 0 40 (by omega) (by omega) W)
   have KZ := hid (fun W => spec_VecZero (C : Int) (by omega) (by omega) W)
   have HZl := hid (szeroK_len hC)
   obtain ⟨RS, hRS⟩ : ∃ RS, RS = matZ N C := ⟨_, rfl⟩
   have HRS := hid (show RS = List.replicate N (zeroK C) by rw [hRS, matZ_yes hN hC, zeroK_yes hC])
   rw [← hRS]
   generalize zeroK C = Z at KZ HZl HRS
   clear hr hc hRS
   go_enter Tryz.func182, Tryz.ntmps182
   go_wp2_with fail
   (with_reducible refine (KD.out _).mono ?_)
   rintro e w2 ⟨rfl, rfl⟩
   go_wp2_with fail
   (with_reducible refine (KE.out _).mono ?_)
   rintro e w2 ⟨rfl, rfl⟩
   generalize w.alloc (.cells #[] 42) = w1 at BW HS HR ⊢
   go_wp2
   go_loopw [5] (fun v wr => ∃ (k : Nat) (a' : Option Addr) (c' : Nat) (R : List Rw), k ≤ N ∧ v = .slice a' k c' ∧ Hid (R.map Rw.K = List.replicate k Z) ∧ Hid (MR false wr (.slice a' k c') R w.heap.size wr.heap.size) ∧ Below w.heap.size w wr) (fun v _ => N - (match v with | .slice _ n _ => n | _ => 0))
   case atStart => exact ⟨0, some ⟨w.heap.size, 0, none⟩, 0, [], Nat.zero_le _, rfl, hid rfl, hid (HR.out.wide (Nat.le_refl _) (by rw [HS.out]; exact Nat.le_refl _)), BW.out⟩
   case round =>
    obtain ⟨k, a', c', R, hk, rfl, hK, hR, hbel⟩ := hrel
    have HB := hid hbel
    have hz := hbel.size
    clear hbel
    by_cases hlt : k < N
    ·have a2 : (k : Int) < N := by omega
     have HRl := hid (show R.length = k by have := congrArg List.length hK.out; simpa using this)
     go_wp2_with fail
     (with_reducible refine (KZ.out _).mono ?_)
     rintro e w2 ⟨a5, n5, c5, rfl, hv, hb⟩
     have HV := hid hv
     have hz2 := hb.size
     have HB2 := hid ((HB.out.trans (hb.mono hz)).alloc (Nat.le_trans hz hz2) (.cells #[.slice a5 n5 c5] 42))
     have PM := hid ((hR.out.old hb).old (below_new' (o := .cells #[.slice a5 n5 c5] 42)))
     have PV := hid (HV.out.old (below_new' (o := .cells #[.slice a5 n5 c5] 42)))
     have PB := hid (heap_alloc_new w2 (.cells #[.slice a5 n5 c5] 42))
     clear hv hb
     go_wp2_with (at_builtin; refine wpList_pushM rfl _ _ rfl rfl PM.out PV.out (Nat.le_refl _) hz2 (by simp) hz rfl PB.out (by rw [HRl.out]; omega) (by simp; omega) (n := k + 1) (by rw [HRl.out]) ?_)
     intro gp cp wp hvp hbp
     have HB7 := hid (HB2.out.trans hbp)
     have HV7 := hid hvp
     clear hvp hbp
     go_wp2
     go_roundw
     case rel => exact ⟨k + 1, some ⟨gp, 0, none⟩, cp, R ++ [⟨.slice a5 n5 c5, Z, wr.heap.size, w2.heap.size⟩], by omega, rfl, hid (by rw [List.map_append, hK.out, List.replicate_succ']; rfl), HV7, HB7.out⟩
     case measure => simp; omega
    ·obtain rfl : k = N := by omega
     have Rr := hid (show MatK false RS w (.returned (.slice a' k c')) wr from ⟨_, _, _, rfl, ⟨R, hR.out, by rw [hK.out, HRS.out]⟩, HB.out⟩)
     go_wp2
     go_ret
     exact Rr.out
structure RZ (w : World) (v : Value) (R : List Rw) (lo : Nat) (F : Nat → List Fq) : Prop where
 row : w.ownsRow lo 42 1 v R.length (R.map Rw.v)
 el : ∀ j (hj : j < R.length), VK false w R[j].v (F j) lo w.heap.size
 ne : ∀ i j (hi : i < R.length) (hj : j < R.length), i ≠ j → ∀ k, R[i].v.ownBlock = some k → R[j].v.ownBlock ≠ some k
theorem RZ.old {w w' : World} {v : Value} {R : List Rw} {lo : Nat} {F : Nat → List Fq} (h : RZ w v R lo F) (hb : Below w.heap.size w w') : RZ w' v R lo F :=
 ⟨own_block h.row fun k hk => hb.block k (h.row.lt k hk).2, fun j hj => ((h.el j hj).old hb).wide (Nat.le_refl _) hb.size, h.ne⟩
theorem RZ.of {w : World} {v : Value} {R : List Rw} {lo hi : Nat} (h : MR false w v R lo hi) (hh : hi ≤ w.heap.size) {F : Nat → List Fq} (hF : ∀ j (hj : j < R.length), R[j].K = F j) : RZ w v R lo F := by
 refine ⟨h.row, fun j hj => ?_, fun i j hi' hj hij k hk hk' => ?_⟩
 ·have e := h.el _ (List.getElem_mem hj)
  rw [← hF j hj]
  exact e.1.wide e.2.1 (by omega)
 ·have ei := h.el _ (List.getElem_mem hi')
  have ej := h.el _ (List.getElem_mem hj)
  obtain ⟨E1, h1, -⟩ := ei.1
  obtain ⟨E2, h2, -⟩ := ej.1
  have a1 := h1.lt k hk
  have a2 := h1.high k hk
  have b1 := h2.lt k hk'
  have b2 := h2.high k hk'
  have hp := List.pairwise_iff_getElem.1 h.ap
  rcases Nat.lt_or_gt_of_ne hij with hl | hl
  ·have := hp i j hi' hj hl; omega
  ·have := hp j i hj hi' hl; omega
theorem RZ.mw {w : World} {a : Option Addr} {n c : Nat} {R : List Rw} {lo : Nat} {F : Nat → List Fq} (h : RZ w (.slice a n c) R lo F) : MW w a n ((List.range R.length).map F) lo w.heap.size := by
 rcases h.row.2 with ⟨h1, h2⟩ | ⟨g, cap, cur, h1, h2, h3, h4, -⟩
 ·simp only [Value.slice.injEq] at h1
  refine ⟨by simp; omega, fun h0 => ?_⟩
  simp at h0; omega
 ·simp only [Value.slice.injEq] at h1
  obtain ⟨rfl, rfl, rfl⟩ := h1
  have hg := (Array.getElem?_eq_some_iff.1 h3).1
  refine ⟨by simp, fun h0 => ⟨g, 0, rfl, h2, hg, hg, fun i hi => ?_⟩⟩
  simp only [List.length_map, List.length_range] at hi
  have hc := h.row.cells (g := g) rfl i R[i].v (by simp [hi])
  rw [Go.WideShapes.add_plain, Nat.zero_add] at hc
  have hv := h.el i hi
  obtain ⟨b, c', e⟩ := hv.form
  rw [e] at hc hv
  simp only [List.getElem_map, List.getElem_range, Nat.zero_add]
  exact ⟨b, c', hc, hv.vw⟩
theorem RZ.put {w : World} {v : Value} {R : List Rw} {lo i k g n c : Nat} {F : Nat → List Fq} {s : Bool} {x y : Value} {o : Option Rat} {lo' : Nat} (h : RZ w v R lo F) (hi : i < R.length) (hv : R[i].v = .slice (some ⟨g, 0, none⟩) n c) (hk : k < (F i).length) (hr : RO false w lo' s x y o) (hl : lo ≤ lo') :
  RZ (((w.setCell ⟨g, k * 3, none⟩ (.bool s)).setCell ⟨g, k * 3 + 1, none⟩ x).setCell ⟨g, k * 3 + 2, none⟩ y) v R lo (fun j => if j = i then (F i).set k (fqo o) else F j) := by
 have hii := h.el i hi
 rw [hv] at hii
 have hsz : (((w.setCell ⟨g, k * 3, none⟩ (.bool s)).setCell ⟨g, k * 3 + 1, none⟩ x).setCell ⟨g, k * 3 + 2, none⟩ y).heap.size = w.heap.size := by simp only [size_set]
 obtain ⟨Ei, hEi, -⟩ := hii
 have blk : ∀ j, j ≠ g → (((w.setCell ⟨g, k * 3, none⟩ (.bool s)).setCell ⟨g, k * 3 + 1, none⟩ x).setCell ⟨g, k * 3 + 2, none⟩ y).heap[j]? = w.heap[j]? := fun j hj => by
  rw [Below.heap_setCell _ _ _ _ hj, Below.heap_setCell _ _ _ _ hj, Below.heap_setCell _ _ _ _ hj]
 refine ⟨own_block h.row fun j hj => blk j fun e => own_ne h.row hEi.row (by decide) j hj (by rw [e]; rfl), fun j hj => ?_, h.ne⟩
 rw [hsz]
 by_cases e : j = i
 ·subst e
  rw [if_pos rfl, hv]
  have hb := h.el j hi
  rw [hv] at hb
  obtain ⟨E, hE, hEk⟩ := hb
  have hs := hr.sg
  rw [← fqo_s] at hs
  subst hs
  have h1 := hr.i
  have h2 := hr.j
  rw [← fqo_A] at h1
  rw [← fqo_D] at h2
  generalize fqo o = f at h1 h2 ⊢
  have hk' : k < E.length := by rw [← keys_len, hEk]; exact hk
  have hro : ROw w x y f.A f.D lo' w.heap.size := ⟨⟨h1, fun k hk => (Ints_lt h1 k hk).2⟩, ⟨h2, fun k hk => (Ints_lt h2 k hk).2⟩⟩
  exact ⟨E.set k ⟨f, x, y⟩, hE.put (e := ⟨f, x, y⟩) hk' ⟨hro.a.wide hl (.inr (Nat.le_refl _)), hro.d.wide hl (.inr (Nat.le_refl _))⟩ (fun hp => by cases hp) (fun hp => by cases hp), by rw [← hEk, keys_set]⟩
 ·rw [if_neg e]
  obtain ⟨E, hE, hEk⟩ := h.el j hj
  have hne : ∀ k', R[j].v.ownBlock = some k' → k' ≠ g := fun k' hk' e' => h.ne j i hj hi e k' hk' (by rw [hv, e']; rfl)
  have keep : ∀ {y' : Value} {L : List Int}, Obj w y' L lo w.heap.size → Obj (((w.setCell ⟨g, k * 3, none⟩ (.bool s)).setCell ⟨g, k * 3 + 1, none⟩ x).setCell ⟨g, k * 3 + 2, none⟩ y) y' L lo w.heap.size := fun {y' L} ho =>
   ⟨Ints_block ho.ints fun k' hk' => blk k' fun e' => own_ne hEi.row ho.ints (by decide) g rfl (by rw [hk', e']), ho.high⟩
  exact ⟨E, ⟨own_block hE.row fun k' hk' => blk k' (hne k' hk'), hE.high, fun z hz => ⟨keep (hE.el z hz).a, keep (hE.el z hz).d⟩, hE.nd, hE.ap⟩, hEk⟩
def idF (N k j : Nat) : List Fq := if j < k then unitK (N : Int) (j : Int) else zeroK (N : Int)
theorem idF_step {N k : Nat} (hN : N ≤ 40) (hk : k < N) : (fun j => if j = k then (idF N k k).set k (fqo (some ((1 : Int) : Rat))) else idF N k j) = idF N (k + 1) := by
 funext j
 by_cases e : j = k
 ·subst e
  have hz : (zeroK (N : Int)).length = N := szeroK_len hN
  simp only [idF, if_pos (Nat.lt_succ_self j), if_neg (Nat.lt_irrefl j), unitK]
  rw [if_pos trivial, if_pos ⟨by omega, by rw [hz]; omega⟩, Int.toNat_natCast]
 ·simp only [if_neg e, idF]
  by_cases h : j < k
  ·rw [if_pos h, if_pos (by omega)]
  ·rw [if_neg h, if_neg (by omega)]
theorem spec_MatIdentity (n : Int) (n0 : -9223372036854775808 ≤ n) (n1 : n ≤ 9223372036854775807) (w : World) :
    Calls Tryz.prog 113 #[.int .i64 n] w (MatS (matI n) w) := by
  have KZ := hid (fun W => spec_MatZero n n n0 n1 n0 n1 W)
  by_cases hr : n < 0 ∨ 40 < n
  · rw [matI_no hr]
    rw [matZ_no (.inl hr)] at KZ
    go_enter Tryz.func113, Tryz.ntmps113
    go_wp2_with fail
    (with_reducible refine (KZ.out _).mono ?_)
    rintro e w2 ⟨a5, n5, c5, rfl, hv, hb⟩
    obtain rfl : n5 = 0 := hv.num
    have R := hid (show MatS [] w (.returned (.slice a5 0 c5)) w2 from ⟨_, _, _, rfl, MW_nil _ _ _ _, hb⟩)
    clear hv hb hr
    go_wp2
    go_loopw [10] (fun i wr => i = .int .i64 0 ∧ wr = w2) (fun _ _ => 0)
    case atStart => exact ⟨rfl, rfl⟩
    case round =>
      obtain ⟨rfl, rfl⟩ := hrel
      go_wp2
      go_ret
      exact R.out
  · obtain ⟨N, rfl⟩ : ∃ N : Nat, n = N := ⟨n.toNat, by omega⟩
    have hN : N ≤ 40 := by omega
    rw [matZ_yes hN hN, ← zeroK_yes hN] at KZ
    obtain ⟨RS, hRS⟩ : ∃ RS, RS = matI N := ⟨_, rfl⟩
    have HRS := hid (show RS = (List.range N).map (idF N N) by
      rw [hRS, matI_yes hN]
      apply List.map_congr_left
      intro j hj
      simp only [idF, if_pos (List.mem_range.1 hj)])
    rw [← hRS]
    clear hr hRS
    go_enter Tryz.func113, Tryz.ntmps113
    go_wp2_with fail
    (with_reducible refine (KZ.out _).mono ?_)
    rintro e w2 ⟨a5, n5, c5, rfl, hv, hb⟩
    obtain rfl : N = n5 := by have := hv.num; rw [List.length_replicate] at this; exact this.symm
    obtain ⟨R, hR, hRK⟩ := hv
    have hRl : R.length = N := by have := congrArg List.length hRK; simpa using this
    have HRl := hid hRl
    have HZ := hid (show RZ w2 (.slice a5 N c5) R w.heap.size (idF N 0) from RZ.of hR (Nat.le_refl _) fun j hj => by
      have h1 : (R.map Rw.K)[j]'(by rw [List.length_map]; exact hj) = zeroK (N : Int) := by simp only [hRK, List.getElem_replicate]
      rw [List.getElem_map] at h1
      rw [h1]
      simp only [idF, if_neg (Nat.not_lt_zero j)])
    have HB2 := hid hb
    clear hR hRK hb hRl
    go_wp2
    go_loopw [10] (fun i wr => ∃ k : Nat, k ≤ N ∧ i = .int .i64 k ∧ Hid (RZ wr (.slice a5 N c5) R w.heap.size (idF N k)) ∧ Below w.heap.size w wr) (fun i _ => N - (intOf i).toNat)
    case atStart => exact ⟨0, Nat.zero_le _, rfl, HZ, HB2.out⟩
    case round =>
      obtain ⟨k, hk, rfl, hA, hbel⟩ := hrel
      have HB := hid hbel
      have hz := hbel.size
      clear hbel
      by_cases hlt : k < N
      · have hkR := hid (show k < R.length by rw [HRl.out]; exact hlt)
        have hel := hA.out.el k hkR.out
        have hFl : (idF N k k).length = N := by simp only [idF, if_neg (Nat.lt_irrefl k)]; exact szeroK_len hN
        obtain ⟨b, cb, hform⟩ := hel.form
        rw [hFl] at hform
        have hel2 := hel
        rw [hform] at hel2
        obtain ⟨E, hE, hEk⟩ := hel2
        have hEl : E.length = N := by rw [← keys_len, hEk, hFl]
        obtain ⟨g, rfl, -, hg0, -, hg⟩ := hE.pos (by omega)
        have hrow := hA.out.row
        obtain ⟨G, rfl, hG0, hG, hq⟩ : ∃ G, a5 = some ⟨G, 0, none⟩ ∧ w.heap.size ≤ G ∧ G < wr.heap.size ∧ wr.cell? ⟨G, k, none⟩ = some (.slice (some ⟨g, 0, none⟩) N cb) := by
          rcases hrow.2 with ⟨-, h2⟩ | ⟨G, cap, cur, h1, h2, h3, h4, -⟩
          · rw [HRl.out] at h2; omega
          · simp only [Value.slice.injEq] at h1
            obtain ⟨rfl, -, rfl⟩ := h1
            have hc := hrow.cells (g := G) rfl k (R[k]'hkR.out).v (by rw [List.getElem?_map, List.getElem?_eq_getElem hkR.out]; rfl)
            rw [Go.WideShapes.add_plain, Nat.zero_add, hform] at hc
            exact ⟨G, rfl, h2, (Array.getElem?_eq_some_iff.1 h3).1, hc⟩
        have HFl := hid hFl
        have HF := hid hform
        have HV := hid hE
        have HEl := hid hEl
        have HG := hid hG
        have HG0 := hid hg0
        have hst := hid (idF_step hN hlt)
        have a1' : (0 : Int) ≤ k := by omega
        have a2 : (k : Int) < N := by omega
        have y0 : wr.drew.cell? ⟨G, k, none⟩ = some (.slice (some ⟨g, 0, none⟩) N cb) := hq
        clear hel hFl hform hE hEk hEl hrow hq hG hG0 hg0
        go_wp2_with fail
        go_region_law (first
          | (go_simp; go_at_call 91; (with_reducible refine (sint_o 1 (by decide) (by decide) _).mono ?_); rintro e w5 ⟨s5, a5', n5, c5', b5, m5, d5, rfl, hr, hb⟩
             have hbz := hid hb.size
             have VE := hid (HV.out.old (((Below_drew1 (Below.refl _ _))).trans hb))
             have f0 := VE.out.free (k * 3)
             have f1 := VE.out.free (k * 3 + 1)
             have f2 := VE.out.free (k * 3 + 2)
             have hcs := VE.out.cell (i := k) (by rw [HEl.out]; exact hlt)
             obtain ⟨p0, p1, p2⟩ := hcs
             have y0 := (hb.cell (p := ⟨G, k, none⟩) HG.out).trans y0
             have HP := hid ((hA.out.old (((Below_drew1 (Below.refl _ _))).trans hb)).put hkR.out HF.out (by rw [HFl.out]; exact hlt) hr (show w.heap.size ≤ wr.drew.heap.size from hz))
             have HB5 := hid (((((Below_drew1 HB.out).trans (hb.mono hz)).setCell (p := ⟨g, k * 3, none⟩) HG0.out (.bool s5)).setCell (p := ⟨g, k * 3 + 1, none⟩) HG0.out (.slice a5' n5 c5')).setCell (p := ⟨g, k * 3 + 2, none⟩) HG0.out (.slice b5 m5 d5))
             clear hr hb))
        all_goals
          go_wp2
          go_roundw
          case rel => exact ⟨k + 1, by omega, by go_num, hid (by rw [← hst.out]; exact HP.out), HB5.out⟩
          case measure => simp [intOf]; omega
      · obtain rfl : k = N := by omega
        have Rr := hid (show MatS RS w (.returned (.slice a5 k c5)) wr from ⟨_, _, _, rfl, by rw [HRS.out]; have := hA.out.mw; rwa [HRl.out] at this, HB.out⟩)
        go_wp2
        go_ret
        exact Rr.out
end Go.Proofs.YtjjainnafihkdaaGreat
