import Derived.Test.YtjjainnafihkdaaGreatZc
import Derived.Test.YtjjainnafihkdaaGreatZs
import Derived.Test.YtjjainnafihkdaaGreatYh
import Derived.Deep.RegionLaw
set_option maxRecDepth 100000
set_option maxHeartbeats 12800000
set_option linter.unusedVariables false
set_option linter.unusedSimpArgs false
namespace Go.Proofs.YtjjainnafihkdaaGreat
open Go.RowKit
open Go.Lib (hid)
section
variable {ops : Array Oper} {o : Oper} {a : Act} {W : World} {v : Value} {K : List Fq} {lo lo' hi cnt n c : Nat} {b : Option Addr} {xs : List Value}
theorem step_appW {KK : Act → World → Prop} {Q : Exit → Act → World → Prop} {E' : Prop} (hgd : o.guard = none) (s1 x1 : Operand)
  (ho : o.op = .call { callee := .builtin .append, args := #[s1, x1], argTypes := #[42, 42] }) (hs : a.eval s1 = v) (hv : W.ownsRow lo 62 3 v cnt xs) (hx : a.eval x1 = .slice b n c) (hT : VW W b n K lo' hi) (h0 : 0 < K.length)
  (hc : cnt ≤ 2097152) (hE : K.length ≤ 1048576) (hlw : lo ≤ W.heap.size) {m : Nat} (hm : m = cnt + K.length)
  (h : ∀ (g cap : Nat) (w' : World) (E : List El), keys E = K → (∀ e ∈ E, ROw W e.v e.u e.q.A e.q.D lo' hi) → w'.ownsRow lo 62 3 (.slice (some ⟨g, 0, none⟩) m cap) m (xs ++ flat E) → Below lo W w' → W.grownBy w' v.ownBlock → (v.ownBlock = some g ∨ g = W.heap.size) → KK (a.put o.dst (.slice (some ⟨g, 0, none⟩) m cap)) w') :
  if Region.wanted o (yielded ops a.tmps) = true then Oper.wp Tryz.prog o a W KK Q else E' := by
 obtain ⟨i0, hi0, hz0, hz1, hz2⟩ := info_parts infoRat
 obtain rfl := hT.num
 subst hm
 obtain ⟨E, hk, hro, hpos⟩ := hT.els
 have hEl : E.length = K.length := by rw [← hk, keys_len]
 obtain ⟨g, p, rfl, hg, hcell⟩ := hpos (by omega)
 refine step_append_lies W hgd s1 x1 42 ho lo 62 i0 _ 3 56 Tryz.underlying42 hi0 hz0 hz1 hz2 rfl (by decide) v cnt xs hs hv ⟨g, p, none⟩ K.length c (flat E) hx (by rw [flat_len, hEl]) (fun j z hj => by rw [Go.WideShapes.add_plain]; exact hcell j z hj) (flat_one_cell hro) (by omega) (by unfold maxLen; omega) (by omega) hlw W.heap.size rfl ?_
 intro g' cap' w' hrow' hgr hat hlt
 exact h g' cap' w' E hk hro hrow' ((Below.refl lo W).grown hgr hlw fun k hk => (hv.lt k hk).1) hgr hat
end
structure JX (w : World) (v : Value) (xs : List Value) (M : List (List Fq)) (lo : Nat) : Prop where
 row : w.ownsRow lo 42 1 v M.length xs
 len : xs.length = M.length
 el : ∀ k (h1 : k < M.length) (h2 : k < xs.length), VK false w xs[k] M[k] lo w.heap.size
 ne : ∀ i j (hi : i < xs.length) (hj : j < xs.length), i ≠ j → ∀ b, xs[i].ownBlock = some b → xs[j].ownBlock ≠ some b
theorem JX.old {w w' : World} {v : Value} {xs : List Value} {M : List (List Fq)} {lo : Nat} (h : JX w v xs M lo) (hb : Below w.heap.size w w') : JX w' v xs M lo :=
 ⟨own_block h.row fun k hk => hb.block k (h.row.lt k hk).2, h.len, fun k h1 h2 => ((h.el k h1 h2).old hb).wide (Nat.le_refl _) hb.size, h.ne⟩
theorem JX.of {w : World} {v : Value} {R : List Rw} {lo hi : Nat} (h : MR false w v R lo hi) (hh : hi ≤ w.heap.size) : JX w v (R.map Rw.v) (R.map Rw.K) lo := by
 refine ⟨by rw [List.length_map]; exact h.row, by simp, fun k h1 h2 => ?_, fun i j hi hj hne b h1 h2 => ?_⟩
 ·rw [List.length_map] at h1
  rw [List.getElem_map, List.getElem_map]
  have e := h.el _ (List.getElem_mem h1)
  exact e.1.wide e.2.1 (by omega)
 ·rw [List.length_map] at hi hj
  rw [List.getElem_map] at h1 h2
  have e1 := h.el _ (List.getElem_mem hi)
  have e2 := h.el _ (List.getElem_mem hj)
  obtain ⟨E1, v1, -⟩ := e1.1
  obtain ⟨E2, v2, -⟩ := e2.1
  have a1 := v1.lt b h1
  have a2 := v1.high b h1
  have b1 := v2.lt b h2
  have b2 := v2.high b h2
  have hp := List.pairwise_iff_getElem.1 h.ap
  rcases Nat.lt_or_gt_of_ne hne with hl | hl
  ·have := hp i j hi hj hl; omega
  ·have := hp j i hj hi hl; omega
theorem VK.grownO {w w' : World} {v x : Value} {K L : List Fq} {lo : Nat} (h : VK false w v K lo w.heap.size) (hx : VK false w x L lo w.heap.size) (hg : w.grownBy w' x.ownBlock) (hne : ∀ b, v.ownBlock = some b → x.ownBlock ≠ some b) : VK false w' v K lo w'.heap.size := by
 obtain ⟨E, h, e⟩ := h
 obtain ⟨F, hx, -⟩ := hx
 have ob : ∀ {y : Value} {L : List Int}, Obj w y L lo w.heap.size → Obj w' y L lo w'.heap.size := fun {y L} ho =>
  have hi := Ints_block ho.ints fun k hk => hg.block k (Ints_lt ho.ints k hk).2 fun e => own_ne hx.row ho.ints (by decide) k e.symm hk
  ⟨hi, fun k hk => (Ints_lt hi k hk).2⟩
 have hr : w'.ownsRow lo 62 3 v E.length (flat E) := own_block h.row fun k hk => hg.block k (h.lt k hk).2 fun e => hne k hk e.symm
 exact ⟨E, ⟨hr, fun k hk => (hr.lt k hk).2, fun x hx => ⟨ob (h.el x hx).a, ob (h.el x hx).d⟩, fun h => (by cases h), fun h => (by cases h)⟩, e⟩
theorem VK.appd {w w' : World} {x v' : Value} {K L : List Fq} {E E' : List El} {lo : Nat} (hE : VO false w x E lo w.heap.size) (hk : keys E = K) (hk' : keys E' = L) (hro : ∀ e ∈ E', ROw w e.v e.u e.q.A e.q.D lo w.heap.size) (hg : w.grownBy w' x.ownBlock) {m : Nat} (hm : m = K.length + L.length) (hrow : w'.ownsRow lo 62 3 v' m (flat E ++ flat E')) : VK false w' v' (K ++ L) lo w'.heap.size := by
 have ob : ∀ {y : Value} {L : List Int}, Obj w y L lo w.heap.size → Obj w' y L lo w'.heap.size := fun {y L} ho =>
  have hi := Ints_block ho.ints fun k hk => hg.block k (Ints_lt ho.ints k hk).2 fun e => own_ne hE.row ho.ints (by decide) k e.symm hk
  ⟨hi, fun k hk => (Ints_lt hi k hk).2⟩
 have hl : m = (E ++ E').length := by rw [hm, ← hk, ← hk', keys_len, keys_len, List.length_append]
 subst hl
 rw [← flat_append] at hrow
 exact ⟨E ++ E', ⟨hrow, fun k hk => (hrow.lt k hk).2, fun e he => by
  rcases List.mem_append.1 he with he | he
  ·exact ⟨ob (hE.el e he).a, ob (hE.el e he).d⟩
  ·exact ⟨ob (hro e he).a, ob (hro e he).d⟩, fun h => (by cases h), fun h => (by cases h)⟩, by rw [keys_append, hk, hk']⟩
theorem JX.kept {w w' : World} {v : Value} {xs : List Value} {M : List (List Fq)} {lo k : Nat} (h : JX w v xs M lo) (hk : k < xs.length) (hg : w.grownBy w' xs[k].ownBlock) : w'.ownsRow lo 42 1 v M.length xs := by
 obtain ⟨E, hE, -⟩ := h.el k (by have := h.len; omega) hk
 exact own_block h.row fun j hj => hg.block j (h.row.lt j hj).2 fun e => own_ne h.row hE.row (by decide) j hj e.symm
theorem JX.app {w w' : World} {G n cap : Nat} {xs : List Value} {M : List (List Fq)} {lo k : Nat} {v' : Value} {K' : List Fq} (h : JX w (.slice (some ⟨G, 0, none⟩) n cap) xs M lo) (hk : k < xs.length) (hg : w.grownBy w' xs[k].ownBlock) (hv' : VK false w' v' K' lo w'.heap.size) (hat : xs[k].ownBlock = v'.ownBlock ∨ v'.ownBlock = some w.heap.size) :
  JX (w'.setCell ⟨G, k, none⟩ v') (.slice (some ⟨G, 0, none⟩) n cap) (xs.set k v') (M.set k K') lo := by
 have hl := h.len
 have hn : n = M.length := by
  rcases h.row.2 with ⟨e, -⟩ | ⟨g, c', cur, e, -⟩
  ·cases e
  ·simp only [Value.slice.injEq] at e; exact e.2.1
 subst hn
 have row' := h.kept hk hg
 have hso := setCell_other w' G k v'
 have hz : (w'.setCell ⟨G, k, none⟩ v').heap.size = w'.heap.size := by simp
 refine ⟨?_, by simp [hl], fun i h1 h2 => ?_, fun i j hi hj hne b h1 h2 => ?_⟩
 ·rw [List.length_set]
  exact (World.ownsRow.stored row' k v').1
 ·rw [List.length_set] at h1 h2
  rw [hz, List.getElem_set, List.getElem_set]
  by_cases e : k = i
  ·rw [if_pos e, if_pos e]
   exact hv'.keepG row' hso
  ·rw [if_neg e, if_neg e]
   exact ((h.el i h1 h2).grownO (h.el k (by omega) hk) hg (h.ne i k h2 hk (fun e' => e e'.symm))).keepG row' hso
 ·rw [List.length_set] at hi hj
  rw [List.getElem_set] at h1 h2
  have hlt : ∀ q (hq : q < xs.length), xs[q].ownBlock = some b → b < w.heap.size := fun q hq e => by
   obtain ⟨E, hE, -⟩ := h.el q (by omega) hq
   exact (hE.lt b e).2
  by_cases e1 : k = i
  ·subst e1
   rw [if_pos rfl] at h1
   rw [if_neg hne] at h2
   rcases hat with e | e
   ·exact h.ne k j hk hj hne b (e.trans h1) h2
   ·have := hlt j hj h2
    rw [e] at h1
    have := Option.some.inj h1
    omega
  ·rw [if_neg e1] at h1
   by_cases e2 : k = j
   ·subst e2
    rw [if_pos rfl] at h2
    rcases hat with e | e
    ·exact h.ne i k hi hk hne b h1 (e.trans h2)
    ·have := hlt i hi h1
     rw [e] at h2
     have := Option.some.inj h2
     omega
   ·rw [if_neg e2] at h2
    exact h.ne i j hi hj hne b h1 h2
theorem JX.mw {w : World} {a : Option Addr} {n c : Nat} {xs : List Value} {M : List (List Fq)} {lo : Nat} (h : JX w (.slice a n c) xs M lo) : MW w a n M 0 w.heap.size :=
 JR.mw (w := w) (c := c) (lo := lo) ⟨xs, h.row, h.len, fun k hk => ⟨_, List.getElem?_eq_getElem (by have := h.len; omega), (h.el k hk (by have := h.len; omega)).top⟩⟩
theorem joinF_step {M O : List (List Fq)} {k : Nat} (h : M.length ≤ O.length) (hk : k < M.length) : ((joinF M O).take k ++ M.drop k).set k (M[k] ++ O[k]'(by omega)) = (joinF M O).take (k + 1) ++ M.drop (k + 1) := by
 have hl : ((joinF M O).take k).length = k := by rw [List.length_take, joinF_len h]; omega
 rw [List.set_append_right _ _ (by omega), hl, Nat.sub_self, List.drop_eq_getElem_cons hk, ka2, ← joinF_snoc h hk, List.append_assoc]; rfl
theorem l09Beside_any {a b : Option Addr} {n c m d : Nat} {M O : List (List Fq)} {lo hi lo' hi' : Nat} (hM : Sm2 M) (hO : Sm2 O) (hl : M.length ≤ O.length) (hpos : ∀ K ∈ O, 0 < K.length) (w : World) (h : MW w a n M lo hi) (h' : MW w b m O lo' hi') :
    Calls Tryz.prog 104 #[.slice a n c, .slice b m d] w (fun e w' => ∃ a n c, e = .returned (.slice a n c) ∧ MW w' a n (joinF M O) 0 w'.heap.size ∧ Below w.heap.size w w') := by
  have HW := hid h'
  have KC := hid (l08Copy_any (c := c) hM w h)
  obtain rfl := h.num
  obtain rfl := h'.num
  have hn := hM.2
  have hJl := joinF_len hl
  clear h h'
  go_enter Tryz.func104, Tryz.ntmps104
  go_wp2_with fail
  (with_reducible refine (KC.out).mono ?_)
  rintro e w1 ⟨a1, cap, R, rfl, hMR, hRK, hb⟩
  have HJ := hid (show JX w1 (.slice a1 M.length cap) (R.map Rw.v) M w.heap.size by have := JX.of hMR (Nat.le_refl _); rwa [hRK] at this)
  have HB := hid hb
  clear hMR hRK hb
  go_wp2
  go_loopw [11] (fun i wr => ∃ (k : Nat) (xs : List Value), k ≤ M.length ∧ i = .int .i64 k ∧ Hid (JX wr (.slice a1 M.length cap) xs ((joinF M O).take k ++ M.drop k) w.heap.size) ∧ Hid (Below w.heap.size w wr)) (fun i _ => M.length - (intOf i).toNat)
  case atStart => exact ⟨0, _, Nat.zero_le _, rfl, hid (by simpa using HJ.out), HB⟩
  case round =>
    obtain ⟨k, xs, hk, rfl, hJ, hB⟩ := hrel
    by_cases hlt : k < M.length
    · obtain ⟨C, hC⟩ : ∃ C, C = (joinF M O).take k ++ M.drop k := ⟨_, rfl⟩
      have hCl : C.length = M.length := by rw [hC, List.length_append, List.length_take, List.length_drop, hJl]; omega
      have hCk : C[k]'(by omega) = M[k] := by
        have : ∀ (l : List (List Fq)) (h : k < l.length), l = (joinF M O).take k ++ M.drop k → l[k] = M[k] := fun l h e => by
          subst e
          rw [List.getElem_append_right (by rw [List.length_take]; exact Nat.min_le_left _ _)]
          simp only [List.getElem_drop, List.length_take]
          congr 1
          omega
        exact this C _ hC
      have hst := joinF_step hl hlt
      rw [← hC] at hJ hst
      have hxl : xs.length = M.length := by rw [hJ.out.len, hCl]
      have hkx : k < xs.length := by omega
      obtain ⟨E, hE, hEk⟩ := hJ.out.el k (by omega) hkx
      rw [hCk] at hEk
      have hEl : E.length = M[k].length := by rw [← hEk, keys_len]
      have hrow := hJ.out.row
      rcases hrow.2 with ⟨h1, h2⟩ | ⟨G, cp, cur, h1, -⟩
      · omega
      · simp only [Value.slice.injEq] at h1
        obtain ⟨rfl, -, rfl⟩ := h1
        obtain ⟨g2, o2, b2, d2, rfl, hg2, q1, V2⟩ := (HW.out.old hB.out).at (k := k) (by omega)
        have q0 := hrow.cells (g := G) rfl k xs[k] (List.getElem?_eq_getElem hkx)
        rw [Go.WideShapes.add_plain, Nat.zero_add] at q0
        have hGl := (hrow.lt G rfl).2
        have hG0 := (hrow.lt G rfl).1
        have HJ := hid hJ.out
        have hSL := hO.at (k := k) (by omega)
        have hLp := hpos _ (List.getElem_mem (show k < O.length by omega))
        have hMk := (hM.at hlt).2
        have hOk := hSL.2
        obtain ⟨L, hL⟩ : ∃ L, O[k]'(by omega) = L := ⟨_, rfl⟩
        obtain ⟨Kk, hKk⟩ : ∃ Kk, M[k] = Kk := ⟨_, rfl⟩
        simp only [hL] at q1 V2 hSL hLp hOk hst
        rw [hKk] at hEk hEl hst hMk
        have HST := hid hst
        have HEK := hid hEk
        obtain ⟨x, hx⟩ : ∃ x, xs[k] = x := ⟨_, rfl⟩
        have HX := hid hx
        rw [hx] at q0 hE
        obtain ⟨ax, cx, rfl, hcx⟩ := hE.form
        rw [hEl] at q0 HX hcx
        have HE := hid hE
        rw [hEl] at HE
        have hbd := hid (Below_drew1 (Below.refl wr.heap.size wr))
        have KL := hid (l06Copy_any (c := d2) hSL wr.drew (V2.old hbd.out))
        have a1' : (0 : Int) ≤ k := by omega
        have a2' : (k : Int) < M.length := by omega
        have a3' : (k : Int) < O.length := by omega
        have hz := hid hB.out.size
        clear hC hCk hrow hE hEk hx hst hSL V2 hL hKk
        go_wp2_with fail
        go_region_law (first
          | (go_simp; go_at_call 90; (with_reducible refine (KL.out).mono ?_); rintro e w5 ⟨a5, n5, c5, rfl, hv, hb⟩
             have q0 := (hb.cell (p := ⟨G, k, none⟩) hGl).trans q0
             have q1 := (hb.cell (p := ⟨g2, o2 + k, none⟩) hg2).trans q1
             have HB5 := hid (hbd.out.trans hb)
             have HE5 := hid (HE.out.old HB5.out)
             have HV5 := hid hv.vw
             have hz5 := hid HB5.out.size
             clear hv hb)
          | (refine step_appW rfl _ _ rfl (by rfl) HE5.out.row (by rfl) HV5.out (by omega) (by omega) (by omega) (by have := hz5.out; have := hz.out; omega) (m := Kk.length + L.length) (by rw [hEl]) ?_; intro g6 c6 w6 E6 hk6 hro6 hr6 hb6 hg6 hat6
             have HJ6 := hid (HJ.out.old HB5.out)
             have HXX := hid HX.out
             have hr9 := hid (show w6.ownsRow w.heap.size 42 1 (.slice (some ⟨G, 0, none⟩) M.length cap) M.length xs by have h := HJ6.out.kept hkx (by rw [HXX.out]; exact hg6); rw [hCl] at h; exact h)
             have f0 := World.ownsRow.frozenAt hr9.out k
             have q9 := hr9.out.cells (g := G) rfl k xs[k] (List.getElem?_eq_getElem hkx)
             rw [Go.WideShapes.add_plain, Nat.zero_add] at q9
             have HAP := hid (HJ6.out.app (k := k) (w' := w6) (v' := .slice (some ⟨g6, 0, none⟩) (Kk.length + L.length) c6) (K' := Kk ++ L) hkx (by rw [HXX.out]; exact hg6) (VK.appd (HE5.out.wide (Nat.le_refl _) hz5.out) HEK.out hk6 (fun e he => ⟨(hro6 e he).a.wide hz.out (.inr (Nat.le_refl _)), (hro6 e he).d.wide hz.out (.inr (Nat.le_refl _))⟩) hg6 rfl hr6) (by rw [HXX.out]; rcases hat6 with e | e; exact .inl e; exact .inr (by rw [e]; rfl)))
             have HBN := hid (((hB.out.trans (HB5.out.mono hz.out)).trans hb6).setCell (p := ⟨G, k, none⟩) hG0 (.slice (some ⟨g6, 0, none⟩) (Kk.length + L.length) c6))
             clear hk6 hro6 hr6 hb6 hg6 hat6 q0 q1))
        all_goals
          go_wp2
          go_roundw
          case rel => exact ⟨k + 1, _, by omega, by go_num, hid (by have := HAP.out; rwa [HST.out] at this), HBN⟩
          case measure => simp [intOf]; omega
    · obtain rfl : k = M.length := by omega
      have R := hid (show ∃ a n c, (Ending.returned (.slice a1 M.length cap)) = .returned (.slice a n c) ∧ MW wr a n (joinF M O) 0 wr.heap.size ∧ Below w.heap.size w wr from ⟨_, _, _, rfl, by
        have := hJ.out.mw
        rwa [← hJl, List.take_length, hJl, List.drop_length, List.append_nil] at this, hB.out⟩)
      go_wp2
      go_ret
      exact R.out
end Go.Proofs.YtjjainnafihkdaaGreat
