import Derived.Test.YtjjainnafihkdaaGreatYu
import Derived.Test.YtjjainnafihkdaaGreatZc
import Derived.Deep.RegionHeld3
import Derived.Deep.DeepCutAuto
import Derived.IntWalk
set_option maxRecDepth 100000
set_option maxHeartbeats 12800000
set_option linter.unusedVariables false
set_option linter.unusedSimpArgs false
namespace Go.Proofs.YtjjainnafihkdaaGreat
open Go.RowKit
open Go.Lib (hid)
theorem apt_zero (x : El) : Apt x El0 := fun k _ h => by simp [El0, Value.ownBlock] at h
theorem VO.copyO {w w' : World} {g N d : Nat} {P X S Y : List El} {lo hi hi' : Nat} {cur : Array Value} (h : VO true w (.slice (some ⟨g, 0, none⟩) N d) (P ++ X ++ S) lo hi) (hY : ∀ e ∈ Y, ROw w' e.v e.u e.q.A e.q.D lo hi' ∧ NdE e) (hl : Y.length = X.length) (hhi : hi ≤ hi') (hap : (P ++ Y ++ S).Pairwise Apt)
  (hc : w.heap[g]? = some (.cells cur 62 (0, 0))) (hc' : w'.heap[g]? = some (.cells (cur.toList.take (P.length * 3) ++ flat Y ++ cur.toList.drop (P.length * 3 + (flat Y).length)).toArray 62 (0, 0)))
  (hb : ∀ k, k ≠ g → w'.heap[k]? = w.heap[k]?) : VO true w' (.slice (some ⟨g, 0, none⟩) N d) (P ++ Y ++ S) lo hi' := by
 have hln : (P ++ Y ++ S).length = (P ++ X ++ S).length := by simp only [List.length_append, hl]
 have keep : ∀ {y : Value} {L : List Int} {a b : Nat}, Obj w y L a b → Obj w' y L a b := fun ho =>
  ⟨Ints_block ho.ints fun k hk => hb k fun e => own_ne h.row ho.ints (by decide) k (by rw [e]; rfl) hk, ho.high⟩
 have inX : ∀ x, x ∈ P ∨ x ∈ S → x ∈ P ++ X ++ S := fun x hx => by
  rcases hx with hx | hx
  ·exact List.mem_append_left _ (List.mem_append_left _ hx)
  ·exact List.mem_append_right _ hx
 refine ⟨?_, fun k hk => Nat.lt_of_lt_of_le (h.high k hk) hhi, fun x hx => ?_, fun hp x hx => ?_, fun _ => hap⟩
 ·rcases h.row.2 with ⟨h1, -⟩ | ⟨g', cap, cur', h1, h2, h3, h4, h5, h6, h7⟩
  ·cases h1
  ·simp only [Value.slice.injEq, Option.some.injEq, Addr.mk.injEq, and_true] at h1
   obtain ⟨rfl, rfl, rfl⟩ := h1
   rw [hc] at h3
   simp only [Option.some.injEq, Go.Obj.cells.injEq, and_true] at h3
   subst h3
   have hcur : cur.toList = flat P ++ (flat X ++ (flat S ++ cur.toList.drop ((P ++ X ++ S).length * 3))) := by
    conv => lhs; rw [← List.take_append_drop ((P ++ X ++ S).length * 3) cur.toList, h7]
    simp only [flat_append, List.append_assoc]
   have hP : (flat P).length = P.length * 3 := flat_len P
   have hXY : (flat Y).length = (flat X).length := by rw [flat_len, flat_len, hl]
   have e1 : cur.toList.take (P.length * 3) = flat P := by rw [hcur, List.take_left' hP]
   have e2 : cur.toList.drop (P.length * 3 + (flat Y).length) = flat S ++ cur.toList.drop ((P ++ X ++ S).length * 3) := by
    conv => lhs; rw [hcur]
    rw [← List.append_assoc, List.drop_left' (by rw [List.length_append, hP, hXY])]
   rw [e1, e2] at hc'
   have hsz : cur.size = cur.toList.length := by simp
   refine ⟨by rw [flat_len], .inr ⟨g, d, _, by rw [hln], h2, hc', by rw [hln]; exact h4, h5, ?_, ?_⟩⟩
   ·rw [← h6, hsz]
    conv => rhs; rw [hcur]
    simp only [List.size_toArray, List.length_append, hXY]
    omega
   ·have e3 : (flat P ++ flat Y ++ (flat S ++ cur.toList.drop ((P ++ X ++ S).length * 3))).toArray.toList = flat (P ++ Y ++ S) ++ cur.toList.drop ((P ++ X ++ S).length * 3) := by
     simp only [flat_append, List.append_assoc]
    rw [e3, List.take_left' (by rw [flat_len])]
 ·rcases List.mem_append.1 hx with hx | hx
  ·rcases List.mem_append.1 hx with hx | hx
   ·have e := h.el x (inX x (.inl hx))
    exact ⟨(keep e.a).wide (Nat.le_refl _) (.inr hhi), (keep e.d).wide (Nat.le_refl _) (.inr hhi)⟩
   ·exact (hY x hx).1
  ·have e := h.el x (inX x (.inr hx))
   exact ⟨(keep e.a).wide (Nat.le_refl _) (.inr hhi), (keep e.d).wide (Nat.le_refl _) (.inr hhi)⟩
 ·rcases List.mem_append.1 hx with hx | hx
  ·rcases List.mem_append.1 hx with hx | hx
   ·exact h.nd rfl x (inX x (.inl hx))
   ·exact (hY x hx).2
  ·exact h.nd rfl x (inX x (.inr hx))
section
variable {ops : Array Oper} {o : Oper} {a : Act} {W : World} {v : Value} {g N c : Nat} {Es : List (List El)} {Z : List El} {lo hi B : Nat}
theorem wpList_pushA2 {rest : List Oper} {Q : Exit → Act → World → Prop} (hgd : o.guard = none) (s1 x1 : Operand)
  (ho : o.op = .call { callee := .builtin .append, args := #[s1, x1], argTypes := #[24, 24] }) (hs : a.eval s1 = v) (hv : MA W v g N c Es Z lo hi) {q : Nat} (hq : q = Es.length * c * 3)
  (hx : a.eval x1 = .slice (some ⟨B, 0, none⟩) 1 1) (hB : W.heap[B]? = some (.cells #[.slice (some ⟨g, q, none⟩) c c] 42 (0, 0))) (hlen : Es.length ≤ 1048576) (hlw : lo ≤ W.heap.size) {n : Nat} (hn : n = Es.length + 1)
  (h : ∀ (G cap : Nat) (w' : World), MB w' (.slice (some ⟨G, 0, none⟩) (Es.length + 1) cap) g N c Es Z lo (max hi w'.heap.size) → Below lo W w' → W.heap.size ≤ w'.heap.size → Keeps W w' → G < w'.heap.size → W.grownBy w' v.ownBlock → (v.ownBlock = some G ∨ G = W.heap.size) → wpList Tryz.prog ops Q rest (a.put o.dst (.slice (some ⟨G, 0, none⟩) n cap)) w') :
  wpList Tryz.prog ops Q (o :: rest) a W := by
 obtain ⟨i0, hi0, hz0, hz1, hz2⟩ := info_parts infoRow
 subst hq
 subst hn
 refine wpList_append_lies W hgd s1 x1 24 ho lo 42 i0 _ 1 24 Tryz.underlying24 hi0 hz0 hz1 hz2 rfl (by decide) v Es.length (rowsV g c Es.length) hs hv.row ⟨B, 0, none⟩ 1 1 [.slice (some ⟨g, Es.length * c * 3, none⟩) c c] hx rfl (World.news_of_block hB) ?_ (by decide) (by unfold maxLen; omega) (by omega) hlw W.heap.size rfl ?_
 ·intro u hu
  simp only [List.mem_cons, List.not_mem_nil, or_false] at hu
  rw [hu]; rfl
 ·intro G cap w' hrow hgr hat hlt
  refine h G cap w' ⟨?_, fun k hk => ?_, ?_, hv.len⟩ ((Below.refl lo W).grown hgr hlw fun k hk => (hv.row.lt k hk).1) hgr.size (fun p' v' E' l' h' hh => hh.grown hv.row hgr) hlt hgr hat
  ·rw [rowsV_succ]; exact hrow
  ·have : k = G := by simpa [Value.ownBlock] using hk.symm
   omega
  ·exact (hv.vo.grown hv.row hgr).wide (Nat.le_refl _) (by omega)
end
theorem buildMat_own {R C : Nat} (hR : R ≤ 40) (hC : C ≤ 40) (hC0 : ¬ C = 0) (fn : FuncId) (caps : Array Value) (F : Nat → List El) {lo : Nat} (w : World) (hcall : ∀ args W, (callFunc fn args).run Tryz.prog W = .ok (.enter fn args) W)
    (hlo : lo ≤ w.heap.size) (hFl : ∀ i, i < R → (F i).length = C)
    (hro : ∀ i, i < R → ∀ e ∈ F i, ROw w e.v e.u e.q.A e.q.D lo w.heap.size ∧ NdE e) (hap : ((List.range R).map F).flatten.Pairwise Apt)
    (HF : ∀ i, i < R → ∀ W, Below w.heap.size w W → Calls Tryz.prog fn (#[.int .i64 (i : Int)] ++ caps) W (fun e W' => Below W.heap.size W W' ∧ ∃ g o c, e = .returned (.slice (some ⟨g, o, none⟩) C c) ∧ g < w.heap.size ∧ ∀ j v, (flat (F i))[j]? = some v → w.cell? ⟨g, o + j, none⟩ = some v)) :
    Calls Tryz.prog 115 #[.int .i64 (R : Int), .int .i64 (C : Int), .func (.func fn) #[] caps] w (fun e w' => ∃ a n c, e = .returned (.slice a n c) ∧ MAK w' (.slice a n c) ((List.range R).map fun i => keys (F i)) lo w'.heap.size ∧ Below w.heap.size w w') := by
  obtain ⟨N, hN⟩ : ∃ N, N = R * C := ⟨_, rfl⟩
  have hNb : N ≤ 1600 := by rw [hN]; exact Nat.le_trans (Nat.mul_le_mul hR hC) (by decide)
  have hmul : IntKind.i64.wrap ((R : Int) * (C : Int)) = (N : Int) := by rw [← Int.natCast_mul, ← hN]; exact IntWalk.i64_in _ (by omega)
  have hmk := fun W => run_make_rowk (P := Tryz.prog) 42 62 (.agg #[.bool false, .slice none 0 0, .slice none 0 0]) #[.bool false, .slice none 0 0, .slice none 0 0] 3 56 Tryz.underlying42 infoRat rfl .i64 .i64 N (by omega) (by omega) W
  have HM := hid (VO_made (w := w) N (by unfold maxLen; omega))
  have HA := hid (show Below w.heap.size w (w.alloc (.cells (madeCells #[.bool false, .slice none 0 0, .slice none 0 0] (N * 3)) 62)) from (Below.refl _ _).alloc (Nat.le_refl _) _)
  have HS := hid (show (w.alloc (.cells (madeCells #[.bool false, .slice none 0 0, .slice none 0 0] (N * 3)) 62)).heap.size = w.heap.size + 1 by simp)
  have HN := hid hN
  have HFh := hid HF
  have HFL := hid hFl
  have HRO := hid hro
  have HAP := hid hap
  have HLO := hid hlo
  have HCL := hid hcall
  have HI := hid (show (Tryz.prog.info? 62).map (·.size) = some 3 from by obtain ⟨i, hi, h0, h1, h2⟩ := info_parts infoRat; rw [hi]; simp [h1])
  clear hN HF hcall hFl hro hap hlo
  obtain ⟨w0, hw0⟩ : ∃ w0, w0 = w := ⟨_, rfl⟩
  have HW0 := hid hw0
  clear hw0
  go_enter Tryz.func115, Tryz.ntmps115
  go_wp2
  clear hmk hmul
  generalize w.alloc (.cells (madeCells #[.bool false, .slice none 0 0, .slice none 0 0] (N * 3)) 62) = w1 at HM HA HS ⊢
  obtain ⟨g, hg⟩ : ∃ g, g = w.heap.size := ⟨_, rfl⟩
  have HG := hid hg
  rw [← hg] at HM HA HS
  rw [← hg]
  clear hg
  go_loopw [8, 18] (fun v i wr => ∃ (k : Nat) (a : Option Addr) (c' : Nat), k ≤ R ∧ i = .int .i64 k ∧ v = .slice a k c' ∧ Hid (MA wr (.slice a k c') g N C ((List.range k).map F) (List.replicate (N - k * C) El0) lo wr.heap.size) ∧ Hid (∀ j, (Value.slice a k c').ownBlock = some j → g ≤ j) ∧ Below g w wr ∧ g < wr.heap.size) (fun _ i _ => R - (intOf i).toNat)
  case atStart => exact ⟨0, none, 0, Nat.zero_le _, rfl, rfl, hid ⟨World.ownsRow_nil _ _ _ _, fun k hk => by simp [Value.ownBlock] at hk, by simpa using HM.out.wide (by rw [HG.out]; exact HLO.out) (by rw [HS.out]; exact Nat.le_refl _), fun E hE => by cases hE⟩, hid (fun j hj => by simp [Value.ownBlock] at hj), HA.out, by rw [HS.out]; omega⟩
  case round =>
    obtain ⟨k, a, c', hk, rfl, rfl, hA, hob, hbel, hgl⟩ := hrel
    have HB := hid hbel
    have HGL := hid hgl
    clear hbel hgl
    by_cases hlt : k < R
    · have KF := hid (HFh.out k hlt wr (HB.out.mono (by rw [HG.out]; exact Nat.le_refl _)))
      have a1' : (0 : Int) ≤ k := by omega
      have a2 : (k : Int) < R := by omega
      have HFC := hid (HFL.out k hlt)
      obtain ⟨Es, hEs0⟩ : ∃ Es, Es = (List.range k).map F := ⟨_, rfl⟩
      have HES := hid hEs0
      rw [← hEs0] at hA
      clear hEs0
      · skip
        have hkC := hid (show k * C + C ≤ N by have := HN.out; have h1 : (k + 1) * C ≤ R * C := Nat.mul_le_mul_right C hlt; rw [Nat.add_mul, Nat.one_mul] at h1; omega)
        obtain ⟨f, hf⟩ : ∃ f, f = k * C := ⟨_, rfl⟩
        rw [← hf] at hkC
        have HFf := hid hf
        have hm1 : IntKind.i64.wrap ((k : Int) * (C : Int)) = (f : Int) := by rw [← Int.natCast_mul, ← hf]; have := hkC.out; exact IntWalk.i64_in _ (by omega)
        have hm2 : IntKind.i64.wrap (((k : Int) + 1) * (C : Int)) = ((f + C : Nat) : Int) := by
          have e : ((k : Int) + 1) * (C : Int) = ((f + C : Nat) : Int) := by rw [Int.add_mul, ← Int.natCast_mul, ← hf, Int.one_mul]; omega
          rw [e]
          have := hkC.out
          exact IntWalk.i64_in _ (by omega)
        have hb1 : (f : Int) ≤ ((f + C : Nat) : Int) := by omega
        have hb2 : ((f + C : Nat) : Int) ≤ (N : Int) := by have := hkC.out; omega
        clear hf
        go_wp2_with fail
        rw [HCL.out, Oper.upon_enter]
        (with_reducible refine (KF.out).mono ?_)
        rintro e w2 ⟨hb, g5, o5, c5, rfl, hg5, hc5⟩
        have HC5 := hid hc5
        have HG5 := hid hg5
        have HB2 := hid (HB.out.trans (hb.mono (Nat.le_of_lt HGL.out)))
        have HA2 := hid (hA.out.old hb)
        have hgz2 : g < w2.heap.size := Nat.lt_of_lt_of_le HGL.out hb.size
        have hz2 := hb.size
        clear hc5 hg5 hb
        have HEs := hid (show Es.length = k by rw [HES.out]; simp)
        have PB := hid (heap_alloc_new w2 (.cells #[.slice (some ⟨g, f * 3, none⟩) C C] 42))
        have PA := hid (HA2.out.old (below_new' (o := .cells #[.slice (some ⟨g, f * 3, none⟩) C C] 42)))
        have hz1 : ¬ f + C = f := by omega
        go_wp2_with (at_builtin; refine wpList_pushA2 rfl _ _ rfl rfl PA.out (q := f * 3) (by rw [HEs.out, HFf.out]) rfl PB.out (by rw [HEs.out]; omega) (by have h1 := HLO.out; have h2 := HB2.out.size; simp; omega) (n := k + 1) (by rw [HEs.out]) ?_)
        intro G cap wp hmb hbp0 hszp hkeep hGl hgr hat
        have hbp := (Below.refl g (w2.alloc (.cells #[.slice (some ⟨g, f * 3, none⟩) C C] 42))).grown hgr (by simp; omega) (fun j hj => hob.out j hj)
        have HOB := hid (show ∀ j, (Value.slice (some ⟨G, 0, none⟩) (k + 1) cap).ownBlock = some j → g ≤ j from fun j hj => by
          have e : j = G := by simpa [Value.ownBlock] using hj.symm
          rcases hat with h | h
          · rw [e]; exact hob.out G h
          · rw [e, h]; simp; omega)
        clear hbp0 hgr hat
        have HX := hid hmb.cell
        rw [HEs.out] at HX
        have HROW := hid hmb.row
        rw [HEs.out] at HROW
        have HLEN := hid hmb.len
        have HBP := hid ((HB2.out.alloc (show g ≤ w2.heap.size by omega) (.cells #[.slice (some ⟨g, f * 3, none⟩) C C] 42)).trans hbp)
        have HWP := hid (show w2.heap.size < wp.heap.size by first | omega | (simp at hszp; omega))
        obtain ⟨E5, hE5⟩ : ∃ E5, E5 = F k := ⟨_, rfl⟩
        have hF5 := hE5
        have HVO := hid (hkeep _ _ _ _ _ PA.out.vo)
        have hl5 : E5.length = C := by rw [hE5]; exact HFC.out
        obtain ⟨cur, hcur, hcs, -⟩ := HVO.out.block_of
        have hPl := take_len' (c := C) (Es := Es) (k := Es.length) HLEN.out (Nat.le_refl _)
        rw [List.take_length, HEs.out, ← HFf.out] at hPl
        have hkc := hkC.out
        have hkf := HFf.out
        have hzz : List.replicate (N - k * C) El0 = List.replicate C El0 ++ List.replicate (N - (k + 1) * C) El0 := by
          rw [List.replicate_append_replicate, Nat.add_mul, Nat.one_mul, ← hkf]
          congr 1
          omega
        have hcp := run_copy_rk (P := Tryz.prog) wp 42 42 3 62 g (f * 3) C C ⟨g5, o5, none⟩ C c5 cur 62 (flat E5) 3 C Tryz.underlying42 HI.out hcur (Nat.min_self C)
          (by rw [flat_len, hl5]) (fun j v hj => by rw [Go.WideShapes.add_plain]; exact (HBP.out.cell (p := ⟨g5, o5 + j, none⟩) (by rw [HG.out]; exact HG5.out)).trans (HC5.out j v (by rw [← hE5]; exact hj))) (by
            rw [flat_len, hl5]
            rw [List.length_append, hPl, List.length_replicate] at hcs
            omega) (by rw [hE5]; exact flat_one_cell fun e he => (HRO.out k hlt e he).1)
        obtain ⟨W2, hW2⟩ : ∃ W2, W2 = wp.setRow g (cur.toList.take (f * 3) ++ flat E5 ++ cur.toList.drop (f * 3 + (flat E5).length)).toArray := ⟨_, rfl⟩
        rw [← hW2] at hcp
        have hsW : W2.heap.size = wp.heap.size := by rw [hW2]; simp
        have hoth : ∀ j, j ≠ g → W2.heap[j]? = wp.heap[j]? := fun j hj => by rw [hW2]; exact setRow_other _ _ _ _ hj
        have hvo2 := HVO.out
        rw [hzz, ← List.append_assoc] at hvo2
        have hB3 : Below g w W2 := by rw [hW2]; exact below_setRow HBP.out (Nat.le_refl _) _
        have hwW : w.heap.size ≤ W2.heap.size := hB3.size
        have hapk : (Es.flatten ++ E5 ++ List.replicate (N - (k + 1) * C) El0).Pairwise Apt := by
          refine List.pairwise_append.2 ⟨?_, ?_, fun x hx y hy => by rw [(List.mem_replicate.1 hy).2]; exact apt_zero x⟩
          · have h1 : Es.flatten ++ E5 = ((List.range (k + 1)).map F).flatten := by rw [HES.out, hE5, List.range_succ, List.map_append, List.flatten_append]; simp
            rw [h1]
            have h2 : List.range R = List.range (k + 1) ++ (List.range (R - (k + 1))).map (k + 1 + ·) := by
              have := @List.range_add (k + 1) (R - (k + 1))
              rwa [show k + 1 + (R - (k + 1)) = R by omega] at this
            have h3 := HAP.out
            rw [h2, List.map_append, List.flatten_append] at h3
            exact (List.pairwise_append.1 h3).1
          · rw [List.pairwise_iff_getElem]
            intro i j hi hj hij
            rw [List.getElem_replicate, List.getElem_replicate]
            exact apt_zero El0
        have hcopy := VO.copyO (w' := W2) (hi' := W2.heap.size) hvo2 (fun e he => by
          have h := HRO.out k hlt e (by rw [← hE5]; exact he)
          have hr := h.1.old (hB3.mono (by rw [HG.out]; exact Nat.le_refl _))
          exact ⟨⟨hr.a.wide (Nat.le_refl _) (.inr hwW), hr.d.wide (Nat.le_refl _) (.inr hwW)⟩, h.2⟩) (by rw [hl5, List.length_replicate]) (by have := HWP.out; omega) hapk hcur (by rw [hPl, hW2]; exact setRow_heap _ _ _ _ _ _ hcur) hoth
        have HMA := hid (show MA W2 (.slice (some ⟨G, 0, none⟩) (k + 1) cap) g N C (Es ++ [E5]) (List.replicate (N - (k + 1) * C) El0) lo W2.heap.size from
          ⟨by
            rw [List.length_append, HEs.out]
            exact own_block HROW.out fun j hj => hoth j fun e => own_ne HROW.out HVO.out.row (by decide) j hj (by rw [e]; rfl),
           fun j hj => by
            have : j = G := by simpa [Value.ownBlock] using hj.symm
            omega,
           by
            rw [List.flatten_append, List.flatten_cons, List.flatten_nil, List.append_nil]
            exact hcopy,
           fun E hE => by
            rcases List.mem_append.1 hE with hE | hE
            · exact HLEN.out E hE
            · rw [List.mem_singleton.1 hE]; exact hl5⟩)
        have HKK := hid (show Es ++ [E5] = (List.range (k + 1)).map F by rw [HES.out, hE5, List.range_succ, List.map_append]; rfl)
        rw [HKK.out] at HMA
        have HB3 := hid hB3
        have hgi : goInt C = .int .i64 (C : Int) := rfl
        rw [hgi] at hcp
        have hgW : g < W2.heap.size := by have := HWP.out; omega
        have q0 := HX.out
        rw [← hkf] at q0
        have HGW := hid hgW
        clear hmb hbp hszp hkeep hW2 hgi hcopy hvo2 hoth hzz hPl hkc hcs hcur hl5 hsW hkf hgW hB3 hwW hapk hE5 hF5
        go_wp2
        go_roundw
        case rel => exact ⟨k + 1, some ⟨G, 0, none⟩, cap, by omega, by go_num, rfl, HMA, HOB, HB3.out, HGW.out⟩
        case measure => simp [intOf]; omega
    · obtain rfl : k = R := by omega
      have R0 := hid (show ∃ a' n' c'', (Ending.returned (.slice a k c')) = .returned (.slice a' n' c'') ∧ MAK wr (.slice a' n' c'') ((List.range k).map fun i => keys (F i)) lo wr.heap.size ∧ Below w.heap.size w wr from
        ⟨a, k, c', rfl, .inr ⟨g, N, C, _, _, hA.out, by rw [List.map_map]; rfl⟩, by rw [← HG.out]; exact HB.out⟩)
      go_wp2
      go_ret
      exact R0.out
end Go.Proofs.YtjjainnafihkdaaGreat
