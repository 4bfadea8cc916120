/- The rows of the bounds: the program. -/
import Derived.Test.YteanocjkdehhgaaKq
import Derived.Test.YteanocjkdehhgaaKk
import Derived.Laws.AppendOwnNone
namespace Go.Proofs.Yteanocjkdehhgaa
open Go.RowKit
open Go.Lib (hid)
set_option linter.unusedVariables false

theorem parked {p : Prop} (h : Hid p) : p := h.out
def lowR : List Cq → Nat → List Wq
  | [], _ => []
  | p :: C, i => bndQ i 2 p.s p.A p.D :: lowR C (i + 1)
def upQ (p : Cq) (i : Nat) : List Wq := if hasU p.z p.F p.G then [bndQ i 1 p.z p.F p.G] else []
def upR : List Cq → Nat → List Wq
  | [], _ => []
  | p :: C, i => upQ p i ++ upR C (i + 1)
def bndR (C : List Cq) : List Wq := lowR C 0 ++ upR C 0
theorem lowR_app : ∀ (C D : List Cq) (i : Nat), lowR (C ++ D) i = lowR C i ++ lowR D (i + C.length)
  | [], D, i => rfl
  | p :: C, D, i => by
    simp only [List.cons_append, lowR, lowR_app C D (i + 1), List.length_cons]
    rw [show i + 1 + C.length = i + (C.length + 1) by omega]
theorem upR_app : ∀ (C D : List Cq) (i : Nat), upR (C ++ D) i = upR C i ++ upR D (i + C.length)
  | [], D, i => rfl
  | p :: C, D, i => by
    simp only [List.cons_append, upR, upR_app C D (i + 1), List.length_cons, List.append_assoc]
    rw [show i + 1 + C.length = i + (C.length + 1) by omega]
theorem lowR_len : ∀ (C : List Cq) (i : Nat), (lowR C i).length = C.length
  | [], _ => rfl
  | p :: C, i => by simp only [lowR, List.length_cons, lowR_len C (i + 1)]
theorem upR_len : ∀ (C : List Cq) (i : Nat), (upR C i).length ≤ C.length
  | [], _ => Nat.le_refl _
  | p :: C, i => by
    have := upR_len C (i + 1)
    have h2 : (upQ p i).length ≤ 1 := by unfold upQ; split <;> simp
    simp only [upR, List.length_cons, List.length_append]; omega
theorem lowR_next {C : List Cq} {k : Nat} (h : k < C.length) : lowR (C.take (k + 1)) 0 = lowR (C.take k) 0 ++ [bndQ k 2 C[k].s C[k].A C[k].D] := by
  rw [List.take_succ_eq_append_getElem h, lowR_app, List.length_take, Nat.min_eq_left (by omega), Nat.zero_add]; rfl
theorem upR_next {C : List Cq} {k : Nat} (h : k < C.length) : upR (C.take (k + 1)) 0 = upR (C.take k) 0 ++ upQ C[k] k := by
  rw [List.take_succ_eq_append_getElem h, upR_app, List.length_take, Nat.min_eq_left (by omega), Nat.zero_add]; simp only [upR, List.append_nil]
theorem bndR_len (C : List Cq) : (bndR C).length ≤ 2 * C.length := by
  have := upR_len C 0
  rw [bndR, List.length_append, lowR_len]; omega
/-- The rows so far in the second loop. -/
def bndK (C : List Cq) (k : Nat) : List Wq := lowR C 0 ++ upR (C.take k) 0
theorem bndK_len (C : List Cq) {k : Nat} (hk : k ≤ C.length) : (bndK C k).length ≤ 2 * C.length := by
  have := upR_len (C.take k) 0
  have h2 : (C.take k).length ≤ C.length := by rw [List.length_take]; omega
  rw [bndK, List.length_append, lowR_len]; omega
theorem bndK_next {C : List Cq} {k : Nat} (h : k < C.length) : bndK C (k + 1) = bndK C k ++ upQ C[k] k := by rw [bndK, bndK, upR_next h, List.append_assoc]
theorem RMO_nil (w : World) (lo hi : Nat) (h : hi ≤ w.heap.size) : RMO w (.slice none 0 0) [] lo hi := ⟨⟨[], GO_nil _ _ _, rfl⟩, h⟩
theorem RMO.len {w : World} {a : Option Addr} {n c lo hi : Nat} {L : List Wq} (h : RMO w (.slice a n c) L lo hi) : n = L.length := by
  obtain ⟨⟨E, h, rfl⟩, -⟩ := h
  rw [h.num, List.length_map]
theorem RMO.hi {w : World} {v : Value} {L : List Wq} {lo hi hi' : Nat} (h : RMO w v L lo hi) (h1 : hi ≤ hi') (h2 : hi' ≤ w.heap.size) : RMO w v L lo hi' := by
  obtain ⟨⟨E, h, e⟩, -⟩ := h
  exact ⟨⟨E, h.mono (Nat.le_refl _) fun k hk => ⟨hk.1, by have := hk.2; omega⟩, e⟩, h2⟩
theorem RMO.pos {w : World} {a : Option Addr} {n c lo hi : Nat} {q : Wq} (h : RMO w (.slice a n c) [q] lo hi) : ∃ g, a = some ⟨g, 0, none⟩ := by
  obtain ⟨⟨E, h, e⟩, -⟩ := h
  have : E.length = 1 := by have := congrArg List.length e; simpa using this
  obtain ⟨g, h1, -⟩ := h.pos (by omega)
  exact ⟨g, h1⟩
theorem RMO.ret {w w0 W : World} {v : Value} {L : List Wq} (h : RMO w v L W.heap.size w.heap.size) (hl : w0.heap.size ≤ W.heap.size) : RM w v L w0.heap.size (fun k => w0.heap.size ≤ k ∧ k < w.heap.size) := by
  obtain ⟨⟨E, h, e⟩, -⟩ := h
  exact ⟨E, h.mono hl fun k hk => ⟨by have := hk.1; omega, hk.2⟩, e⟩
theorem RMO.own {w : World} {v : Value} {L : List Wq} {lo hi : Nat} (h : RMO w v L lo hi) : ∃ m xs, w.ownsRow lo 91 5 v m xs := by
  obtain ⟨⟨E, h, e⟩, -⟩ := h
  exact ⟨_, _, h.row⟩
theorem impl_absentRows0 (c x : Int) (w : World) : Calls Try.prog 194 #[.agg #[], .int .i64 c, .int .i64 x] w (RetB (.slice none 0 0) w) := by
  have B := hid (below_new' (w := w) (o := .cells #[] 142))
  go_enter Try.func194, Try.ntmps194
  go_wp2
  go_ret
  exact ⟨rfl, B.out⟩
theorem mth_presentRows (v : Value) (w : World) : (method 319 140 v "loop.example/g00802/impl.rows").run Try.prog w = .ok (189, v) w := by kernel_rfl
theorem mth_absentRows (v : Value) (w : World) : (method 319 142 v "loop.example/g00802/impl.rows").run Try.prog w = .ok (194, v) w := by kernel_rfl
set_option maxRecDepth 100000 in
set_option maxHeartbeats 6400000 in
theorem impl_BoundRows {x y z : Value} {C : List Cq} {K : List Tq} {R : List Wq} (hL : C.length ≤ 1048576) (hC : ∀ p ∈ C, p.A.length ≤ 1048576 ∧ p.D.length ≤ 1048576 ∧ p.F.length ≤ 1048576 ∧ p.G.length ≤ 1048576) (w : World) (h : MdW w x y z C K R) :
    Calls Try.prog 25 #[.agg #[x, y, z]] w (RMR (bndR C) w) := by
  obtain ⟨a1, c1, b1, d1, e1, f1, rfl, rfl, rfl⟩ := h.form
  have B := hid (below_new' (w := w) (o := .cells #[.slice a1 C.length c1, .slice b1 K.length d1, .slice e1 R.length f1] 51))
  have L1 := hid (LocA.new (w := w) (T := 51) (cs := #[.slice a1 C.length c1, .slice b1 K.length d1, .slice e1 R.length f1]))
  have H := hid h
  clear h
  have hm1 := mth_presentRows
  have hm2 := mth_absentRows
  go_enter Try.func25, Try.ntmps25
  go_wp2
  generalize w.alloc (.cells #[.slice a1 C.length c1, .slice b1 K.length d1, .slice e1 R.length f1] 51) = W at B L1 ⊢
  go_loopw [3, 11] (fun v i wr => ∃ (k n' : Nat) (a' : Option Addr) (c' : Nat), k ≤ C.length ∧ i = .int .i64 k ∧ v = .slice a' n' c' ∧ Hid (RMO wr (.slice a' n' c') (lowR (C.take k) 0) W.heap.size wr.heap.size) ∧ Below W.heap.size W wr) (fun _ i _ => C.length - (intOf i).toNat)
  case atStart => exact ⟨0, 0, none, 0, Nat.zero_le _, rfl, rfl, hid (RMO_nil _ _ _ (Nat.le_refl _)), Below.refl _ _⟩
  case round =>
    obtain ⟨k, n', a', c', hk, rfl, rfl, hS, hbel⟩ := hrel
    by_cases hlt : k < C.length
    · obtain ⟨g1, o1, v1, u1, x1, y1, rfl, hg1, q0, q1, q2, q3, q4, q5, q6, q7, R1⟩ := (H.out.old (B.out.trans (hbel.mono B.out.size))).c.at hlt
      have hs1 := hC _ (List.getElem_mem hlt)
      have HT := hid (lowR_next hlt)
      have hn := hS.out.len
      generalize C[k] = p1 at q0 q1 q2 q3 q4 q5 q6 q7 R1 hs1 HT
      obtain ⟨n, s, A, D, z, F, G, b⟩ := p1
      simp only at q0 q1 q2 q3 q4 q5 q6 q7 hs1 R1 HT
      obtain ⟨a3, c3, b3, d3, a4, c4, b4, d4, rfl, rfl, rfl, rfl⟩ := R1.form
      have BZ := hid (below_new' (w := wr) (o := .cells #[.string n, .bool s, .slice a3 A.length c3, .slice b3 D.length d3, .bool z, .slice a4 F.length c4, .slice b4 G.length d4, .bool b] 35))
      have R2 := hid R1
      have HB := hid hbel
      have a1' : (0 : Int) ≤ k := by omega
      have a2' : (k : Int) < C.length := by omega
      have hW0 := hid (show (wr.alloc (.cells #[.string n, .bool s, .slice a3 A.length c3, .slice b3 D.length d3, .bool z, .slice a4 F.length c4, .slice b4 G.length d4, .bool b] 35)).heap.size = wr.heap.size + 1 by simp)
      have hl := hid (show (lowR (C.take k) 0).length ≤ 2097152 by rw [lowR_len, List.length_take]; omega)
      generalize hLs : lowR (C.take k) 0 = Ls at hS HT hn hl
      obtain rfl := hn
      clear R1 hbel hLs
      have KL := hid (fun (W : World) (hb : Below wr.heap.size wr W) => impl_lowerBound n s z b _ _ _ _ W (R2.out.old hb))
      have KP := hid (fun (W : World) (hb : Below wr.heap.size wr W) => impl_presentRows k 2 s W ((R2.out.old hb).rll hs1.1 hs1.2.1))
      clear hs1 R2
      go_wp2_with fail
      generalize wr.alloc (.cells #[.string n, .bool s, .slice a3 A.length c3, .slice b3 D.length d3, .bool z, .slice a4 F.length c4, .slice b4 G.length d4, .bool b] 35) = W1 at BZ hW0 ⊢
      (with_reducible refine (KL.out _ BZ.out).mono ?_)
      rintro e w2 ⟨rfl, g1⟩
      have hz1 := hid (show wr.heap.size ≤ w2.heap.size by have := g1.size; have := hW0.out; omega)
      have BZ := hid (BZ.out.trans (g1.mono BZ.out.size))
      clear g1
      go_wp2_with fail
      (with_reducible refine (KP.out _ BZ.out).mono ?_)
      rintro e w3 hpost
      obtain ⟨a6, c6, rfl, hM, g2⟩ := hpost
      have M1 := hid (show RMO w3 (.slice a6 1 c6) [bndQ k 2 s A D] w2.heap.size w3.heap.size from ⟨hM, Nat.le_refl _⟩)
      obtain ⟨g6, rfl⟩ := M1.out.pos
      have BZ := hid (BZ.out.trans (g2.mono BZ.out.size))
      have S3 := hid ((hS.out.old BZ.out))
      have hz2 := g2.size
      clear hM g2
      go_wp2_with (at_builtin; refine parked ?_)
      refine hid ?_
      refine wpList_appR rfl _ _ rfl rfl S3.out rfl M1.out hz1.out (Nat.zero_lt_one) (by have := hl.out; simp only [List.length_cons, List.length_nil]; omega) (HB.out.size) hz2 ?_
      intro g7 c7 n7 w4 hn7 M7 B7
      have M7 := hid M7
      rw [← HT.out] at M7
      have B7 := hid ((HB.out.trans (BZ.out.mono HB.out.size)).trans B7)
      have hn7 : n7 = Ls.length + 1 := hn7
      obtain rfl := hn7
      go_wp2
      go_roundw
      case rel => exact ⟨k + 1, Ls.length + 1, some ⟨g7, 0, none⟩, c7, by omega, by go_num, rfl, M7, B7.out⟩
      case measure => simp [intOf]; omega
    · obtain rfl : k = C.length := by omega
      have hS := hS.out
      rw [List.take_of_length_le (Nat.le_refl _)] at hS
      have hn := hS.len
      have hS := hid hS
      have p0 := (L1.out.old hbel).c 0 (v := .slice a1 C.length c1) rfl
      have B2 := hid hbel
      have a3' : ¬ (C.length : Int) < C.length := by omega
      clear hbel
      obtain rfl := hn
      go_wp2_with fail
      rw [lowR_len]
      generalize wr = W2 at hS B2 p0 ⊢
      go_loopw [3, 26] (fun v i wr => ∃ (k n' : Nat) (a' : Option Addr) (c' : Nat), k ≤ C.length ∧ i = .int .i64 k ∧ v = .slice a' n' c' ∧ Hid (RMO wr (.slice a' n' c') (bndK C k) W.heap.size wr.heap.size) ∧ Below W.heap.size W wr) (fun _ i _ => C.length - (intOf i).toNat)
      case atStart => exact ⟨0, _, _, _, Nat.zero_le _, rfl, rfl, hid (by rw [bndK, List.take_zero, upR, List.append_nil, ← lowR_len C 0]; exact hS.out), B2.out⟩
      case round =>
        obtain ⟨k, n', a', c', hk, rfl, rfl, hS, hbel⟩ := hrel
        by_cases hlt : k < C.length
        · obtain ⟨g1, o1, v1, u1, x1, y1, rfl, hg1, q0, q1, q2, q3, q4, q5, q6, q7, R1⟩ := (H.out.old (B.out.trans (hbel.mono B.out.size))).c.at hlt
          have hs1 := hC _ (List.getElem_mem hlt)
          have HT := hid (bndK_next hlt)
          have hn := hS.out.len
          generalize C[k] = p1 at q0 q1 q2 q3 q4 q5 q6 q7 R1 hs1 HT
          obtain ⟨n, s, A, D, z, F, G, b⟩ := p1
          simp only at q0 q1 q2 q3 q4 q5 q6 q7 hs1 R1 HT
          obtain ⟨a3, c3, b3, d3, a4, c4, b4, d4, rfl, rfl, rfl, rfl⟩ := R1.form
          have BZ := hid (below_new' (w := wr) (o := .cells #[.string n, .bool s, .slice a3 A.length c3, .slice b3 D.length d3, .bool z, .slice a4 F.length c4, .slice b4 G.length d4, .bool b] 35))
          have R2 := hid R1
          have HB := hid hbel
          have a1' : (0 : Int) ≤ k := by omega
          have a2' : (k : Int) < C.length := by omega
          have hW0 := hid (show (wr.alloc (.cells #[.string n, .bool s, .slice a3 A.length c3, .slice b3 D.length d3, .bool z, .slice a4 F.length c4, .slice b4 G.length d4, .bool b] 35)).heap.size = wr.heap.size + 1 by simp)
          have hl := hid (Nat.le_trans (bndK_len C hk) (show 2 * C.length ≤ 2097152 by omega))
          generalize hLs : bndK C k = Ls at hS HT hn hl
          obtain rfl := hn
          clear R1 hbel hLs
          have KU := hid (fun (W : World) (hb : Below wr.heap.size wr W) => impl_upperBound n s z b _ _ _ _ hs1.2.2.1 hs1.2.2.2 W (R2.out.old hb))
          have KP := hid (fun (W : World) (hb : Below wr.heap.size wr W) => impl_presentRows k 1 z W ((R2.out.old hb).rlh hs1.2.2.1 hs1.2.2.2))
          clear hs1 R2
          cases hu : hasU z F G with
          | false =>
            simp only [upV, hu, Bool.false_eq_true, if_false] at KU
            have HT := hid (show bndK C (k + 1) = Ls by rw [HT.out]; simp [upQ, hu])
            clear hu
            go_wp2_with fail
            generalize wr.alloc (.cells #[.string n, .bool s, .slice a3 A.length c3, .slice b3 D.length d3, .bool z, .slice a4 F.length c4, .slice b4 G.length d4, .bool b] 35) = W1 at BZ hW0 ⊢
            (with_reducible refine (KU.out _ BZ.out).mono ?_)
            rintro e w2 ⟨rfl, g1⟩
            have hz1 := hid (show wr.heap.size ≤ w2.heap.size by have := g1.size; have := hW0.out; omega)
            have BZ := hid (BZ.out.trans (g1.mono BZ.out.size))
            clear g1
            go_wp2_with fail
            (with_reducible refine (impl_absentRows0 _ _ _).mono ?_)
            rintro e w3 ⟨rfl, g2⟩
            have BZ := hid (BZ.out.trans (g2.mono BZ.out.size))
            have S3 := hid (hS.out.old BZ.out)
            obtain ⟨m3, xs3, hO⟩ := S3.out.own
            have HO := hid hO
            obtain ⟨i0, hi0, hz0, hz1', hz2'⟩ := info_parts infoRow
            have HI := hid hi0
            clear g2 hO hi0 hz0 hz1' hz2'
            go_wp2_with (at_builtin; refine wpList_append_own_none rfl _ _ 49 rfl W.heap.size 91 i0 5 Try.underlying49 HI.out _ _ _ rfl HO.out rfl ?_)
            go_roundw
            case rel => exact ⟨k + 1, Ls.length, a', c', by omega, by go_num, rfl, hid (by rw [HT.out]; exact S3.out.hi BZ.out.size (Nat.le_refl _)), HB.out.trans (BZ.out.mono HB.out.size)⟩
            case measure => simp [intOf]; omega
          | true =>
            simp only [upV, hu, if_true] at KU
            have HT := hid (show bndK C (k + 1) = Ls ++ [bndQ k 1 z F G] by rw [HT.out]; simp [upQ, hu])
            clear hu
            go_wp2_with fail
            generalize wr.alloc (.cells #[.string n, .bool s, .slice a3 A.length c3, .slice b3 D.length d3, .bool z, .slice a4 F.length c4, .slice b4 G.length d4, .bool b] 35) = W1 at BZ hW0 ⊢
            (with_reducible refine (KU.out _ BZ.out).mono ?_)
            rintro e w2 ⟨rfl, g1⟩
            have hz1 := hid (show wr.heap.size ≤ w2.heap.size by have := g1.size; have := hW0.out; omega)
            have BZ := hid (BZ.out.trans (g1.mono BZ.out.size))
            clear g1
            go_wp2_with fail
            (with_reducible refine (KP.out _ BZ.out).mono ?_)
            rintro e w3 hpost
            obtain ⟨a6, c6, rfl, hM, g2⟩ := hpost
            have M1 := hid (show RMO w3 (.slice a6 1 c6) [bndQ k 1 z F G] w2.heap.size w3.heap.size from ⟨hM, Nat.le_refl _⟩)
            obtain ⟨g6, rfl⟩ := M1.out.pos
            have BZ := hid (BZ.out.trans (g2.mono BZ.out.size))
            have S3 := hid ((hS.out.old BZ.out))
            have hz2 := g2.size
            clear hM g2
            go_wp2_with (at_builtin; refine parked ?_)
            refine hid ?_
            refine wpList_appR rfl _ _ rfl rfl S3.out rfl M1.out hz1.out (Nat.zero_lt_one) (by have := hl.out; simp only [List.length_cons, List.length_nil]; omega) (HB.out.size) hz2 ?_
            intro g7 c7 n7 w4 hn7 M7 B7
            have M7 := hid M7
            rw [← HT.out] at M7
            have B7 := hid ((HB.out.trans (BZ.out.mono HB.out.size)).trans B7)
            have hn7 : n7 = Ls.length + 1 := hn7
            obtain rfl := hn7
            go_wp2
            go_roundw
            case rel => exact ⟨k + 1, Ls.length + 1, some ⟨g7, 0, none⟩, c7, by omega, by go_num, rfl, M7, B7.out⟩
            case measure => simp [intOf]; omega
        · obtain rfl : k = C.length := by omega
          have hS := hS.out
          rw [show bndK C C.length = bndR C by rw [bndK, bndR, List.take_of_length_le (Nat.le_refl _)]] at hS
          have hn := hS.len
          obtain rfl := hn
          have hS := hid hS
          have B3 := hid hbel
          clear hbel
          go_wp2
          go_ret
          exact ⟨_, _, rfl, hS.out.ret B.out.size, B.out.trans (B3.out.mono B.out.size)⟩
end Go.Proofs.Yteanocjkdehhgaa
