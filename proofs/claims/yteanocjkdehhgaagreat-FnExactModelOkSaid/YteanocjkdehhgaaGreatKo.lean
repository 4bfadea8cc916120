import Derived.Test.YteanocjkdehhgaaGreatKn
import Derived.Test.YteanocjkdehhgaaGreatKp
import Derived.Test.YteanocjkdehhgaaGreatRwb
import Derived.Deep.RegionHeld3
set_option maxRecDepth 100000
set_option maxHeartbeats 6400000
set_option linter.unusedVariables false
set_option linter.unusedSimpArgs false
namespace Go.Proofs.YteanocjkdehhgaaGreat
open Go.RowKit
open Go.Lib (hid)
def colOk (q : Cq) : Bool := rok q.s q.A q.D && (!(hasU q.z q.F q.G) || rok q.z q.F q.G)
def rwOk (n : Int) (q : Wq) : Bool := rowOk q.K q.x q.s q.A q.D n
def mdOk (C : List Cq) (K : List Tq) (R : List Wq) : Bool := decide (1 ≤ C.length) && decide (C.length ≤ 8) && decide (R.length ≤ 10) && C.all colOk && R.all (rwOk C.length) && (gdN [] (nmsC C) && tok K C.length)
theorem all_stop {α : Type} {f : α → Bool} {L : List α} {k : Nat} (h : k < L.length) (e : f L[k] = false) : L.all f = false := by
 cases h0 : L.all f with
 | false => rfl
 |true =>
  have := List.all_eq_true.1 h0 _ (List.getElem_mem h)
  rw [e] at this
  cases this
theorem all_next {α : Type} {f : α → Bool} {L : List α} {k : Nat} (h : k < L.length) (h0 : (L.take k).all f = true) (e : f L[k] = true) : (L.take (k + 1)).all f = true := by
 rw [List.take_succ_eq_append_getElem h, List.all_append, h0]
 simp [e]
theorem mdOk_n {C : List Cq} {K : List Tq} {R : List Wq} (h : C.length = 0 ∨ 8 < C.length ∨ 10 < R.length ∨ C.all colOk = false ∨ R.all (rwOk C.length) = false ∨ gdN [] (nmsC C) = false ∨ tok K C.length = false) : mdOk C K R = false := by
 unfold mdOk
 rcases h with h | h | h | h | h | h | h
 ·rw [decide_eq_false (by omega : ¬ 1 ≤ C.length)]; rfl
 ·rw [decide_eq_false (by omega : ¬ C.length ≤ 8)]; simp
 ·rw [decide_eq_false (by omega : ¬ R.length ≤ 10)]; simp
 ·rw [h]; simp
 ·rw [h]; simp
 ·rw [h]; simp
 ·rw [h]; simp
theorem mdOk_y {C : List Cq} {K : List Tq} {R : List Wq} (h1 : 1 ≤ C.length) (h2 : C.length ≤ 8) (h3 : R.length ≤ 10) (h4 : C.all colOk = true) (h5 : R.all (rwOk C.length) = true) : mdOk C K R = (gdN [] (nmsC C) && tok K C.length) := by
 unfold mdOk
 rw [decide_eq_true h1, decide_eq_true h2, decide_eq_true h3, h4, h5]
 rfl
theorem impl_presentOk (s : Bool) {v u : Value} {A D : List Int} (w : World) (h : RL w v u A D) :
  Calls Tryz.prog 281 #[.agg #[.bool s, v, u]] w (RetB (.bool (rok s A D)) w) := by
 obtain ⟨a, c, b, d, rfl, rfl⟩ := h.form
 have B := hid (below_new' (w := w) (o := .cells #[.bool s, .slice a A.length c, .slice b D.length d] 167))
 have KO := hid (fun (W : World) (hb : Below w.heap.size w W) => impl_RatOk s _ _ A D W (h.old hb))
 generalize rok s A D = RR at KO ⊢
 go_enter Tryz.func281, Tryz.ntmps281
 go_wp2_with fail
 (with_reducible refine (KO.out _ B.out).mono ?_)
 rintro e w1 ⟨rfl, g1⟩
 have B := hid (B.out.trans (g1.mono B.out.size))
 clear g1
 go_wp2
 go_ret
 exact ⟨rfl, B.out⟩
theorem impl_TermsOk_md {y : Value} {K : List Tq} (hK : SmT K) (z : Int) (z0 : -9223372036854775808 ≤ z) (z1 : z ≤ 9223372036854775807) (W : World) (g : ∃ p lo hi, TK p W y K lo hi) : Calls Tryz.prog 87 #[y, .int .i64 z] W (RetB (.bool (tok K z)) W) := by
 obtain ⟨_, _, _, a1⟩ := g
 obtain ⟨a, c, rfl⟩ := a1.form
 exact impl_TermsOk hK z z0 z1 W a1
theorem spec_TermsOk_md {y : Value} {K : List Tq} (hK : SmT K) (z : Int) (z0 : -9223372036854775808 ≤ z) (z1 : z ≤ 9223372036854775807) (W : World) (g : ∃ p lo hi, TK p W y K lo hi) : Calls Tryz.prog 77 #[y, .int .i64 z] W (RetB (.bool (tok K z)) W) := by
 obtain ⟨_, _, _, a1⟩ := g
 obtain ⟨a, c, rfl⟩ := a1.form
 exact spec_TermsOk hK z z0 z1 W a1
theorem mth_presentOk (v : Value) (w : World) : (method 369 167 v "loop.example/g00802/impl.ok").run Tryz.prog w = .ok (281, v) w := by kernel_rfl
theorem mth_absentOk (v : Value) (w : World) : (method 369 169 v "loop.example/g00802/impl.ok").run Tryz.prog w = .ok (283, v) w := by kernel_rfl
theorem impl_absentOk (w : World) : Calls Tryz.prog 283 #[.agg #[]] w (RetB (.bool true) w) := by
 go_enter Tryz.func283, Tryz.ntmps283
 go_wp2
 go_ret
 exact ⟨rfl, by first | exact below_new' | exact Below.refl _ _⟩
theorem impl_ModelOk {x y z : Value} {C : List Cq} {K : List Tq} {R : List Wq} (hC : SmC C) (hn : ∀ q ∈ C, q.n.size ≤ 1048576) (hK : SmT K) (hR : SmR R) (w : World) (h : MdW w x y z C K R) :
  Calls Tryz.prog 16 #[.agg #[x, y, z]] w (RetB (.bool (mdOk C K R)) w) := by
 obtain ⟨a1, c1, b1, d1, e1, f1, rfl, rfl, rfl⟩ := h.form
 have hcl := hC.2
 have hrl := hR.2
 have B := hid (below_new' (w := w) (o := .cells #[.slice a1 C.length c1, .slice b1 K.length d1, .slice e1 R.length f1] 33))
 have L1 := hid (LocA.new (w := w) (T := 33) (cs := #[.slice a1 C.length c1, .slice b1 K.length d1, .slice e1 R.length f1]))
 have H := hid (h.old B.out)
 clear h
 obtain ⟨RR, hRR⟩ : ∃ RR, RR = mdOk C K R := ⟨_, rfl⟩
 rw [← hRR]
 have HRR := hid hRR
 clear hRR
 by_cases hbad : C.length = 0 ∨ 8 < C.length ∨ 10 < R.length
 case pos =>
  have hr : RR = false := by rw [HRR.out]; exact mdOk_n (by rcases hbad with h | h | h; exact .inl h; exact .inr (.inl h); exact .inr (.inr (.inl h)))
  subst hr
  by_cases h0 : C.length = 0
  ·have hb0 := hid (show C = [] from List.eq_nil_of_length_eq_zero h0)
   obtain rfl := hb0.out
   go_enter Tryz.func16, Tryz.ntmps16
   go_wp2
   go_ret
   exact ⟨rfl, B.out⟩
  ·have t0 : ((C.length : Int) == 0) = false := beq_eq_false_iff_ne.2 (by omega)
   by_cases h8 : 8 < C.length
   ·have t1 : (8 : Int) < C.length := by omega
    clear hbad h0 h8
    go_enter Tryz.func16, Tryz.ntmps16
    go_wp2
    go_ret
    exact ⟨rfl, B.out⟩
   ·have t1 : ¬ (8 : Int) < C.length := by omega
    have t2 : (10 : Int) < R.length := by omega
    clear hbad h0 h8
    go_enter Tryz.func16, Tryz.ntmps16
    go_wp2
    go_ret
    exact ⟨rfl, B.out⟩
 have t0 : ((C.length : Int) == 0) = false := beq_eq_false_iff_ne.2 (by omega)
 have t1 : ¬ (8 : Int) < C.length := by omega
 have t2 : ¬ (10 : Int) < R.length := by omega
 have HB0 := hid hbad
 clear hbad
 have hm1 := mth_presentOk
 have hm2 := mth_absentOk
 go_enter Tryz.func16, Tryz.ntmps16
 go_wp2
 generalize w.alloc (.cells #[.slice a1 C.length c1, .slice b1 K.length d1, .slice e1 R.length f1] 33) = W at B L1 H ⊢
 clear t0 t1 t2
 go_loopw [28] (fun i wr => ∃ k : Nat, k ≤ C.length ∧ i = .int .i64 k ∧ Hid ((C.take k).all colOk = true) ∧ Below W.heap.size W wr) (fun i _ => C.length - (Go.RowKit.intOf i).toNat)
 case atStart => exact ⟨0, Nat.zero_le _, rfl, hid rfl, Below.refl _ _⟩
 case round =>
  obtain ⟨k, hk, rfl, hA, hbel⟩ := hrel
  by_cases hlt : k < C.length
  ·obtain ⟨g1, o1, v1, u1, x1, y1, rfl, hg1, q0, q1, q2, q3, q4, q5, q6, q7, R1⟩ := (H.out.old hbel).c.at hlt
   have hs1 := hC.1 _ (List.getElem_mem hlt)
   have HX := hid (fun e => all_stop (f := colOk) hlt e)
   have HY := hid (fun e => all_next (f := colOk) hlt hA.out e)
   generalize C[k] = p1 at q0 q1 q2 q3 q4 q5 q6 q7 R1 hs1 HX HY
   obtain ⟨n, s, A, D, z, F, G, b⟩ := p1
   simp only at q0 q1 q2 q3 q4 q5 q6 q7 hs1 R1
   obtain ⟨a3, c3, b3, d3, a4, c4, b4, d4, rfl, rfl, rfl, rfl⟩ := R1.form
   have BZ := hid (below_new' (w := wr) (o := .cells #[.string n, .bool s, .slice a3 A.length c3, .slice b3 D.length d3, .bool z, .slice a4 F.length c4, .slice b4 G.length d4, .bool b] 85))
   have L3 := hid (LocA.new (w := wr) (T := 85) (cs := #[.string n, .bool s, .slice a3 A.length c3, .slice b3 D.length d3, .bool z, .slice a4 F.length c4, .slice b4 G.length d4, .bool b]))
   have KL := hid (fun (W : World) (hb : Below wr.heap.size wr W) => impl_lowerBound n s z b _ _ _ _ W (R1.old hb))
   have KU := hid (fun (W : World) (hb : Below wr.heap.size wr W) => impl_upperBound n s z b _ _ _ _ hs1.2.2.1 hs1.2.2.2 W (R1.old hb))
   have KO := hid (fun (W : World) (hb : Below wr.heap.size wr W) => impl_presentOk s W ((R1.old hb).rll hs1.1 hs1.2.1))
   have KP := hid (fun (W : World) (hb : Below wr.heap.size wr W) => impl_presentOk z W ((R1.old hb).rlh hs1.2.2.1 hs1.2.2.2))
   have HB := hid hbel
   have a1' : (0 : Int) ≤ k := by omega
   have a2' : (k : Int) < C.length := by omega
   have hW0 := hid (show (wr.alloc (.cells #[.string n, .bool s, .slice a3 A.length c3, .slice b3 D.length d3, .bool z, .slice a4 F.length c4, .slice b4 G.length d4, .bool b] 85)).heap.size = wr.heap.size + 1 by simp)
   clear hs1 R1 hbel
   go_wp2_with fail
   generalize wr.alloc (.cells #[.string n, .bool s, .slice a3 A.length c3, .slice b3 D.length d3, .bool z, .slice a4 F.length c4, .slice b4 G.length d4, .bool b] 85) = W1 at BZ L3 hW0 ⊢
   (with_reducible refine (KL.out _ BZ.out).mono ?_)
   rintro e w2 ⟨rfl, g1⟩
   have BZ := hid (BZ.out.trans (g1.mono BZ.out.size))
   have L3 := hid (L3.out.old g1)
   clear g1
   have HBT := hid (B.out.trans (HB.out.mono B.out.size))
   cases hl : rok s A D with
   |false =>
    have hr : RR = false := by rw [HRR.out]; exact mdOk_n (.inr (.inr (.inr (.inl (HX.out (by simp only [colOk, hl]; rfl))))))
    subst hr
    rw [hl] at KO
    clear hl
    go_wp2_with fail
    (with_reducible refine (KO.out _ BZ.out).mono ?_)
    rintro e w3 ⟨rfl, g1⟩
    have BZ := hid (BZ.out.trans (g1.mono BZ.out.size))
    have L3 := hid (L3.out.old g1)
    clear g1
    go_wp2
    go_ret
    exact ⟨rfl, HBT.out.trans (BZ.out.mono HBT.out.size)⟩
   |true =>
    rw [hl] at KO
    go_wp2_with fail
    (with_reducible refine (KO.out _ BZ.out).mono ?_)
    rintro e w3 ⟨rfl, g1⟩
    have BZ := hid (BZ.out.trans (g1.mono BZ.out.size))
    have L3 := hid (L3.out.old g1)
    clear g1
    have y0 := L3.out.c 0 rfl
    have y1 := L3.out.c 1 rfl
    have y2 := L3.out.c 2 rfl
    have y3 := L3.out.c 3 rfl
    have y4 := L3.out.c 4 rfl
    have y5 := L3.out.c 5 rfl
    have y6 := L3.out.c 6 rfl
    have y7 := L3.out.c 7 rfl
    cases hu : hasU z F G with
    |false =>
     simp only [upV, hu, Bool.false_eq_true, if_false] at KU
     have HU := hid hu
     clear hu
     go_wp2_with fail
     (with_reducible refine (KU.out _ BZ.out).mono ?_)
     rintro e w4 ⟨rfl, g1⟩
     have BZ := hid (BZ.out.trans (g1.mono BZ.out.size))
     have L3 := hid (L3.out.old g1)
     clear g1
     go_wp2_with fail
     (with_reducible refine (impl_absentOk _).mono ?_)
     rintro e w5 ⟨rfl, g1⟩
     have BZ := hid (BZ.out.trans (g1.mono BZ.out.size))
     clear g1 y0 y1 y2 y3 y4 y5 y6 y7
     clear q0 q1 q2 q3 q4 q5 q6 q7
     have hY := hid (HY.out (by simp only [colOk, hl, HU.out]; rfl))
     have HBN := (show Below W.heap.size W w5 from HB.out.trans (BZ.out.mono HB.out.size))
     go_wp2
     go_roundw
     case rel => exact ⟨k + 1, by omega, by go_num, hY, HBN⟩
     case measure => simp [Go.RowKit.intOf]; omega
    |true =>
     simp only [upV, hu, if_true] at KU
     have HU := hid hu
     clear hu
     cases hp : rok z F G with
     |false =>
      have hr : RR = false := by rw [HRR.out]; exact mdOk_n (.inr (.inr (.inr (.inl (HX.out (by simp only [colOk, hl, HU.out, hp]; rfl))))))
      subst hr
      rw [hp] at KP
      clear hp
      go_wp2_with fail
      (with_reducible refine (KU.out _ BZ.out).mono ?_)
      rintro e w4 ⟨rfl, g1⟩
      have BZ := hid (BZ.out.trans (g1.mono BZ.out.size))
      have L3 := hid (L3.out.old g1)
      clear g1
      go_wp2_with fail
      (with_reducible refine (KP.out _ BZ.out).mono ?_)
      rintro e w5 ⟨rfl, g1⟩
      have BZ := hid (BZ.out.trans (g1.mono BZ.out.size))
      have L3 := hid (L3.out.old g1)
      clear g1
      clear y0 y1 y2 y3 y4 y5 y6 y7
      go_wp2
      go_ret
      exact ⟨rfl, HBT.out.trans (BZ.out.mono HBT.out.size)⟩
     |true =>
      rw [hp] at KP
      go_wp2_with fail
      (with_reducible refine (KU.out _ BZ.out).mono ?_)
      rintro e w4 ⟨rfl, g1⟩
      have BZ := hid (BZ.out.trans (g1.mono BZ.out.size))
      have L3 := hid (L3.out.old g1)
      clear g1
      go_wp2_with fail
      (with_reducible refine (KP.out _ BZ.out).mono ?_)
      rintro e w5 ⟨rfl, g1⟩
      have BZ := hid (BZ.out.trans (g1.mono BZ.out.size))
      have L3 := hid (L3.out.old g1)
      clear g1
      clear y0 y1 y2 y3 y4 y5 y6 y7
      clear q0 q1 q2 q3 q4 q5 q6 q7
      have hY := hid (HY.out (by simp only [colOk, hl, HU.out, hp]; rfl))
      have HBN := (show Below W.heap.size W w5 from HB.out.trans (BZ.out.mono HB.out.size))
      go_wp2
      go_roundw
      case rel => exact ⟨k + 1, by omega, by go_num, hY, HBN⟩
      case measure => simp [Go.RowKit.intOf]; omega
  ·obtain rfl : k = C.length := by omega
   have hall : C.all colOk = true := by have := hA.out; rwa [List.take_length] at this
   have HALL := hid hall
   have B := hid (B.out.trans (hbel.mono B.out.size))
   have H := hid (H.out.old hbel)
   have L1 := hid (L1.out.old hbel)
   have q0 := L1.out.c 2 rfl
   clear hbel hall
   go_wp2
   clear q0
   obtain ⟨wo, rfl⟩ : ∃ wo, wo = wr := ⟨_, rfl⟩
   go_loopw [46] (fun i wr => ∃ k : Nat, k ≤ R.length ∧ i = .int .i64 k ∧ Hid ((R.take k).all (rwOk C.length) = true) ∧ Below wo.heap.size wo wr) (fun i _ => R.length - (Go.RowKit.intOf i).toNat)
   case atStart => exact ⟨0, Nat.zero_le _, rfl, hid rfl, Below.refl _ _⟩
   case round =>
    obtain ⟨k, hk, rfl, hA, hbel⟩ := hrel
    by_cases hlt : k < R.length
    ·obtain ⟨g1, o1, t1, v1, u1, rfl, hg1, q0, q1, q2, q3, q4, R1⟩ := (H.out.old hbel).r.at hlt
     have hs1 := hR.1 _ (List.getElem_mem hlt)
     have HX := hid (fun e => all_stop (f := rwOk C.length) hlt e)
     have HY := hid (fun e => all_next (f := rwOk C.length) hlt hA.out e)
     generalize R[k] = p1 at q0 q1 q2 q3 q4 R1 hs1 HX HY
     obtain ⟨K1, x1, s1, A1, D1⟩ := p1
     simp only at q0 q1 q2 q3 q4 hs1 R1
     obtain ⟨a3, c3, b3, d3, e3, f3, rfl, rfl, rfl⟩ := R1.form
     have BZ := hid (below_new' (w := wr) (o := .cells #[.slice a3 K1.length c3, .int .i64 x1, .bool s1, .slice b3 A1.length d3, .slice e3 D1.length f3] 77))
     have KE := hid (fun (W : World) (hb : Below wr.heap.size wr W) => impl_RowOk x1 s1 hs1.1 hs1.2.1 hs1.2.2 (C.length : Int) (by omega) (by omega) W (R1.old hb))
     have HB := hid hbel
     have HBT := hid (B.out.trans (hbel.mono B.out.size))
     have a1' : (0 : Int) ≤ k := by omega
     have a2' : (k : Int) < R.length := by omega
     clear hs1 R1 hbel
     cases hl : rowOk K1 x1 s1 A1 D1 C.length with
     |false =>
      have hr : RR = false := by rw [HRR.out]; exact mdOk_n (.inr (.inr (.inr (.inr (.inl (HX.out hl))))))
      subst hr
      rw [hl] at KE
      clear hl
      go_wp2_with fail
      (with_reducible refine (KE.out _ BZ.out).mono ?_)
      rintro e w2 ⟨rfl, g1⟩
      have BZ := hid (BZ.out.trans (g1.mono BZ.out.size))
      clear g1
      go_wp2
      go_ret
      exact ⟨rfl, HBT.out.trans (BZ.out.mono HBT.out.size)⟩
     |true =>
      rw [hl] at KE
      have hY := hid (HY.out hl)
      clear hl
      go_wp2_with fail
      (with_reducible refine (KE.out _ BZ.out).mono ?_)
      rintro e w2 ⟨rfl, g1⟩
      have BZ := hid (BZ.out.trans (g1.mono BZ.out.size))
      have HBN := (show Below wo.heap.size wo w2 from HB.out.trans (BZ.out.mono HB.out.size))
      clear g1 q0 q1 q2 q3 q4
      go_wp2
      go_roundw
      case rel => exact ⟨k + 1, by omega, by go_num, hY, HBN⟩
      case measure => simp [Go.RowKit.intOf]; omega
    ·obtain rfl : k = R.length := by omega
     have hallR : R.all (rwOk C.length) = true := by have := hA.out; rwa [List.take_length] at this
     have hval : RR = (gdN [] (nmsC C) && tok K C.length) := by rw [HRR.out]; exact mdOk_y (by have := HB0.out; omega) (by have := HB0.out; omega) (by have := HB0.out; omega) HALL.out hallR
     have HV := hid hval
     have hnl : (nmsC C).length ≤ 40 := by rw [nmsC_len]; have := HB0.out; omega
     have hnz : ∀ s ∈ nmsC C, s.size ≤ 1048576 := fun s hs => by obtain ⟨q, hq, rfl⟩ := List.mem_map.1 hs; exact hn q hq
     have B := hid (B.out.trans (hbel.mono B.out.size))
     have H := hid (H.out.old hbel)
     have L1 := hid (L1.out.old hbel)
     have KN := hid (fun (W : World) (g : MdW W (.slice a1 C.length c1) (.slice b1 K.length d1) (.slice e1 R.length f1) C K R) => impl_ColNames hC.2 W g)
     have KB := hid (fun (W : World) (v : Value) (lo hi : Nat) (g : StO W v (nmsC C) lo hi) => impl_columnsByName hnl hnz W g)
     have KT := hid (fun (W : World) (g : MdW W (.slice a1 C.length c1) (.slice b1 K.length d1) (.slice e1 R.length f1) C K R) => impl_TermsOk_md hK (C.length : Int) (by omega) (by omega) W g.t)
     have q0 := L1.out.c 0 rfl
     have q1 := L1.out.c 1 rfl
     have q2 := L1.out.c 2 rfl
     clear hval hbel hallR
     generalize gdN [] (nmsC C) = G1 at KB HV
     go_wp2_with fail
     (with_reducible refine (KN.out _ H.out).mono ?_)
     rintro e w2 ⟨an, cn, rfl, hst, g1⟩
     have HS := hid (StO.of hst)
     have H := hid (H.out.old g1)
     have L1 := hid (L1.out.old g1)
     have B := hid (B.out.trans (g1.mono B.out.size))
     clear g1 hst q0 q1 q2
     go_wp2_with fail
     (with_reducible refine (KB.out _ _ _ _ HS.out).mono ?_)
     rintro e w3 ⟨mm, rfl, g1⟩
     have H := hid (H.out.old g1)
     have L1 := hid (L1.out.old g1)
     have B := hid (B.out.trans (g1.mono B.out.size))
     have q1 := L1.out.c 1 rfl
     clear g1
     cases G1 with
     |false =>
      have hr : RR = false := by rw [HV.out]; rfl
      subst hr
      go_wp2
      go_ret
      exact ⟨rfl, B.out⟩
     |true =>
      have hr : RR = tok K C.length := by rw [HV.out, Bool.true_and]
      rw [← hr] at KT
      clear hr
      go_wp2_with fail
      (with_reducible refine (KT.out _ H.out).mono ?_)
      rintro e w4 ⟨rfl, g1⟩
      have B := hid (B.out.trans (g1.mono B.out.size))
      clear g1
      go_wp2
      go_ret
      exact ⟨rfl, B.out⟩
end Go.Proofs.YteanocjkdehhgaaGreat
