/- The rows of the bounds: the reference. -/
import Derived.Test.YteanocjkdehhgaaKr
import Derived.Test.YteanocjkdehhgaaKk
import Derived.Laws.AppendOwnNone
namespace Go.Proofs.Yteanocjkdehhgaa
open Go.RowKit
open Go.Lib (hid)
set_option linter.unusedVariables false

theorem RLO_lit0 {W : World} {g : Nat} (hg : W.heap.size = g) : RLO (W.alloc (.cells #[] 91)) (.slice (some ⟨g, 0, none⟩) 0 0) [] W.heap.size (W.alloc (.cells #[] 91)).heap.size := by
  subst hg
  refine ⟨⟨[], ⟨⟨rfl, .inr ⟨W.heap.size, 0, #[], rfl, Nat.le_refl _, heap_alloc_new W _, Nat.le_refl _, Nat.zero_le _, rfl, rfl⟩⟩, fun k hk => ?_, fun e he => (by cases he), fun e he => (by cases he), fun e he => (by cases he), List.Pairwise.nil⟩, rfl⟩, Nat.le_refl _⟩
  simp [Value.ownBlock] at hk ⊢
  omega
theorem RLO.len {w : World} {a : Option Addr} {n c lo hi : Nat} {L : List Wq} (h : RLO w (.slice a n c) L lo hi) : n = L.length := by
  obtain ⟨⟨E, h, rfl⟩, -⟩ := h
  rw [h.num, List.length_map]
theorem RLO.hi {w : World} {v : Value} {L : List Wq} {lo hi hi' : Nat} (h : RLO w v L lo hi) (h1 : hi ≤ hi') (h2 : hi' ≤ w.heap.size) : RLO w v L lo hi' := by
  obtain ⟨⟨E, h, e⟩, -⟩ := h
  exact ⟨⟨E, h.mono (Nat.le_refl _) fun k hk => ⟨hk.1, by have := hk.2; omega⟩, e⟩, h2⟩
theorem RLO.ret {w w0 W : World} {v : Value} {L : List Wq} (h : RLO w v L W.heap.size w.heap.size) (hl : w0.heap.size ≤ W.heap.size) : RLO w v L w0.heap.size w.heap.size := by
  obtain ⟨⟨E, h, e⟩, -⟩ := h
  exact ⟨⟨E, h.mono hl fun k hk => ⟨by have := hk.1; omega, hk.2⟩, e⟩, Nat.le_refl _⟩
set_option maxRecDepth 100000 in
set_option maxHeartbeats 6400000 in
theorem spec_BoundRows {x y z : Value} {C : List Cq} {K : List Tq} {R : List Wq} (hL : C.length ≤ 1048576) (hC : ∀ p ∈ C, p.A.length ≤ 1048576 ∧ p.D.length ≤ 1048576 ∧ p.F.length ≤ 1048576 ∧ p.G.length ≤ 1048576) (w : World) (h : MdW w x y z C K R) :
    Calls Try.prog 24 #[.agg #[x, y, z]] w (RSR (bndR C) w) := by
  obtain ⟨a1, c1, b1, d1, e1, f1, rfl, rfl, rfl⟩ := h.form
  have B := hid (below_new' (w := w) (o := .cells #[.slice a1 C.length c1, .slice b1 K.length d1, .slice e1 R.length f1] 51))
  have L1 := hid (LocA.new (w := w) (T := 51) (cs := #[.slice a1 C.length c1, .slice b1 K.length d1, .slice e1 R.length f1]))
  have H := hid h
  have HW := hid (show (w.alloc (.cells #[.slice a1 C.length c1, .slice b1 K.length d1, .slice e1 R.length f1] 51)).heap.size = w.heap.size + 1 by simp)
  clear h
  go_enter Try.func24, Try.ntmps24
  go_wp2
  generalize w.alloc (.cells #[.slice a1 C.length c1, .slice b1 K.length d1, .slice e1 R.length f1] 51) = W at B L1 HW ⊢
  go_loopw [3, 12] (fun v i wr => ∃ (k n' : Nat) (a' : Option Addr) (c' : Nat), k ≤ C.length ∧ i = .int .i64 k ∧ v = .slice a' n' c' ∧ Hid (RLO wr (.slice a' n' c') (lowR (C.take k) 0) W.heap.size wr.heap.size) ∧ Below W.heap.size W wr) (fun _ i _ => C.length - (intOf i).toNat)
  case atStart => exact ⟨0, 0, _, 0, Nat.zero_le _, rfl, rfl, hid (RLO_lit0 HW.out), below_new'⟩
  case round =>
    obtain ⟨k, n', a', c', hk, rfl, rfl, hS, hbel⟩ := hrel
    by_cases hlt : k < C.length
    · obtain ⟨g1, o1, v1, u1, x1, y1, rfl, hg1, q0, q1, q2, q3, q4, q5, q6, q7, R1⟩ := (H.out.old (B.out.trans (hbel.mono B.out.size))).c.at hlt
      have hs1 := hC _ (List.getElem_mem hlt)
      have HT := hid (lowR_next hlt)
      have hn := hS.out.len
      generalize C[k] = p1 at q0 q1 q2 q3 q4 q5 q6 q7 R1 hs1 HT
      obtain ⟨n, s, A, D, z, F, G, b⟩ := p1
      simp only at q0 q1 q2 q3 q4 q5 q6 q7 hs1 R1 HT
      obtain ⟨a3, c3, b3, d3, a4, c4, b4, d4, rfl, rfl, rfl, rfl⟩ := R1.form
      have BZ := hid (below_new' (w := wr) (o := .cells #[.string n, .bool s, .slice a3 A.length c3, .slice b3 D.length d3, .bool z, .slice a4 F.length c4, .slice b4 G.length d4, .bool b] 35))
      have L3 := hid (LocA.new (w := wr) (T := 35) (cs := #[.string n, .bool s, .slice a3 A.length c3, .slice b3 D.length d3, .bool z, .slice a4 F.length c4, .slice b4 G.length d4, .bool b]))
      have R2 := hid R1
      have HB := hid hbel
      have a1' : (0 : Int) ≤ k := by omega
      have a2' : (k : Int) < C.length := by omega
      have hW0 := hid (show (wr.alloc (.cells #[.string n, .bool s, .slice a3 A.length c3, .slice b3 D.length d3, .bool z, .slice a4 F.length c4, .slice b4 G.length d4, .bool b] 35)).heap.size = wr.heap.size + 1 by simp)
      have hl := hid (show (lowR (C.take k) 0).length ≤ 2097152 by rw [lowR_len, List.length_take]; omega)
      generalize hLs : lowR (C.take k) 0 = Ls at hS HT hn hl
      obtain rfl := hn
      clear R1 hbel hLs
      have KL := hid (fun (W : World) (hb : Below wr.heap.size wr W) => spec_l12Unit k 2 s W ((R2.out.old hb).rll hs1.1 hs1.2.1))
      clear hs1 R2 L3
      go_wp2_with fail
      generalize wr.alloc (.cells #[.string n, .bool s, .slice a3 A.length c3, .slice b3 D.length d3, .bool z, .slice a4 F.length c4, .slice b4 G.length d4, .bool b] 35) = W1 at BZ hW0 ⊢
      have hz1 := hid (show wr.heap.size ≤ W1.heap.size by have := hW0.out; omega)
      (with_reducible refine (KL.out _ BZ.out).mono ?_)
      rintro e w3 ⟨a6, c6, b6, d6, g6, f6, rfl, hr, g2⟩
      have M1 := hid hr
      have BZ := hid (BZ.out.trans (g2.mono BZ.out.size))
      have S3 := hid ((hS.out.old BZ.out))
      have hz2 := hid g2.size
      clear hr g2
      go_wp2_with (at_builtin; refine wpList_pushL (bndQ k 2 s A D) rfl _ _ rfl rfl S3.out rfl rfl M1.out hz1.out HB.out.size hz2.out (Nat.le_refl _) (by have := hl.out; omega) ?_)
      intro g7 c7 n7 w4 hn7 M7 B7
      have M7 := hid M7
      rw [← HT.out] at M7
      have B7 := hid (((HB.out.trans (BZ.out.mono HB.out.size)).alloc ((HB.out.trans (BZ.out.mono HB.out.size)).size) _).trans B7)
      obtain rfl := hn7
      go_wp2
      go_roundw
      case rel => exact ⟨k + 1, Ls.length + 1, some ⟨g7, 0, none⟩, c7, by omega, by go_num, rfl, M7, B7.out⟩
      case measure => simp [intOf]; omega
    · obtain rfl : k = C.length := by omega
      have hS := hS.out
      rw [List.take_of_length_le (Nat.le_refl _)] at hS
      have hn := hS.len
      have hS := hid hS
      have p0 := (L1.out.old hbel).c 0 (v := .slice a1 C.length c1) rfl
      have B2 := hid hbel
      have a3' : ¬ (C.length : Int) < C.length := by omega
      clear hbel
      obtain rfl := hn
      go_wp2_with fail
      rw [lowR_len]
      generalize wr = W2 at hS B2 p0 ⊢
      go_loopw [3, 28] (fun v i wr => ∃ (k n' : Nat) (a' : Option Addr) (c' : Nat), k ≤ C.length ∧ i = .int .i64 k ∧ v = .slice a' n' c' ∧ Hid (RLO wr (.slice a' n' c') (bndK C k) W.heap.size wr.heap.size) ∧ Below W.heap.size W wr) (fun _ i _ => C.length - (intOf i).toNat)
      case atStart => exact ⟨0, _, _, _, Nat.zero_le _, rfl, rfl, hid (by rw [bndK, List.take_zero, upR, List.append_nil, ← lowR_len C 0]; exact hS.out), B2.out⟩
      case round =>
        obtain ⟨k, n', a', c', hk, rfl, rfl, hS, hbel⟩ := hrel
        by_cases hlt : k < C.length
        · obtain ⟨g1, o1, v1, u1, x1, y1, rfl, hg1, q0, q1, q2, q3, q4, q5, q6, q7, R1⟩ := (H.out.old (B.out.trans (hbel.mono B.out.size))).c.at hlt
          have hs1 := hC _ (List.getElem_mem hlt)
          have HT := hid (bndK_next hlt)
          have hn := hS.out.len
          generalize C[k] = p1 at q0 q1 q2 q3 q4 q5 q6 q7 R1 hs1 HT
          obtain ⟨n, s, A, D, z, F, G, b⟩ := p1
          simp only at q0 q1 q2 q3 q4 q5 q6 q7 hs1 R1 HT
          obtain ⟨a3, c3, b3, d3, a4, c4, b4, d4, rfl, rfl, rfl, rfl⟩ := R1.form
          have BZ := hid (below_new' (w := wr) (o := .cells #[.string n, .bool s, .slice a3 A.length c3, .slice b3 D.length d3, .bool z, .slice a4 F.length c4, .slice b4 G.length d4, .bool b] 35))
          have L3 := hid (LocA.new (w := wr) (T := 35) (cs := #[.string n, .bool s, .slice a3 A.length c3, .slice b3 D.length d3, .bool z, .slice a4 F.length c4, .slice b4 G.length d4, .bool b]))
          have R2 := hid R1
          have HB := hid hbel
          have a1' : (0 : Int) ≤ k := by omega
          have a2' : (k : Int) < C.length := by omega
          have hW0 := hid (show (wr.alloc (.cells #[.string n, .bool s, .slice a3 A.length c3, .slice b3 D.length d3, .bool z, .slice a4 F.length c4, .slice b4 G.length d4, .bool b] 35)).heap.size = wr.heap.size + 1 by simp)
          have hl := hid (Nat.le_trans (bndK_len C hk) (show 2 * C.length ≤ 2097152 by omega))
          generalize hLs : bndK C k = Ls at hS HT hn hl
          obtain rfl := hn
          clear R1 hbel hLs
          have KL := hid (fun (W : World) (hb : Below wr.heap.size wr W) => spec_l12Unit k 1 z W ((R2.out.old hb).rlh hs1.2.2.1 hs1.2.2.2))
          have KU := hid (fun (W : World) (hb : Below wr.heap.size wr W) => spec_HasUpper n s z b hs1.2.2.1 hs1.2.2.2 W (R2.out.old hb))
          clear hs1 R2
          go_wp2_with fail
          generalize wr.alloc (.cells #[.string n, .bool s, .slice a3 A.length c3, .slice b3 D.length d3, .bool z, .slice a4 F.length c4, .slice b4 G.length d4, .bool b] 35) = W1 at BZ L3 hW0 ⊢
          (with_reducible refine (KU.out _ BZ.out).mono ?_)
          rintro e w2 ⟨rfl, g1⟩
          have hz1 := hid (show wr.heap.size ≤ w2.heap.size by have := g1.size; have := hW0.out; omega)
          have BZ := hid (BZ.out.trans (g1.mono BZ.out.size))
          have L3 := hid (L3.out.old g1)
          clear g1
          have y4 := L3.out.c 4 rfl
          have y5 := L3.out.c 5 rfl
          have y6 := L3.out.c 6 rfl
          cases hu : hasU z F G with
          | false =>
            have HT := hid (show bndK C (k + 1) = Ls by rw [HT.out]; simp [upQ, hu])
            clear hu
            have S3 := hid (hS.out.old BZ.out)
            go_wp2
            go_roundw
            case rel => exact ⟨k + 1, Ls.length, a', c', by omega, by go_num, rfl, hid (by rw [HT.out]; exact S3.out.hi BZ.out.size (Nat.le_refl _)), HB.out.trans (BZ.out.mono HB.out.size)⟩
            case measure => simp [intOf]; omega
          | true =>
            have HT := hid (show bndK C (k + 1) = Ls ++ [bndQ k 1 z F G] by rw [HT.out]; simp [upQ, hu])
            clear hu
            go_wp2_with fail
            (with_reducible refine (KL.out _ BZ.out).mono ?_)
            rintro e w3 ⟨a6, c6, b6, d6, g6, f6, rfl, hr, g2⟩
            have M1 := hid hr
            have BZ := hid (BZ.out.trans (g2.mono BZ.out.size))
            have S3 := hid ((hS.out.old BZ.out))
            have hz2 := hid g2.size
            clear hr g2
            go_wp2_with (at_builtin; refine wpList_pushL (bndQ k 1 z F G) rfl _ _ rfl rfl S3.out rfl rfl M1.out hz1.out HB.out.size hz2.out (Nat.le_refl _) (by have := hl.out; omega) ?_)
            intro g7 c7 n7 w4 hn7 M7 B7
            have M7 := hid M7
            rw [← HT.out] at M7
            have B7 := hid (((HB.out.trans (BZ.out.mono HB.out.size)).alloc ((HB.out.trans (BZ.out.mono HB.out.size)).size) _).trans B7)
            obtain rfl := hn7
            go_wp2
            go_roundw
            case rel => exact ⟨k + 1, Ls.length + 1, some ⟨g7, 0, none⟩, c7, by omega, by go_num, rfl, M7, B7.out⟩
            case measure => simp [intOf]; omega
        · obtain rfl : k = C.length := by omega
          have hS := hS.out
          rw [show bndK C C.length = bndR C by rw [bndK, bndR, List.take_of_length_le (Nat.le_refl _)]] at hS
          have hn := hS.len
          obtain rfl := hn
          have hS := hid hS
          have B3 := hid hbel
          clear hbel
          go_wp2
          go_ret
          exact ⟨_, _, rfl, hS.out.ret B.out.size, B.out.trans (B3.out.mono B.out.size)⟩
end Go.Proofs.Yteanocjkdehhgaa
