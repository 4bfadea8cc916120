/- The coefficient of a column. -/
import Derived.Test.YtnkcihcmkojdmaaTok
import Derived.Deep.RegionHeld3
import Derived.Deep.DeepCutAuto
namespace Go.Proofs.Ytnkcihcmkojdmaa
open Go.RowKit
open Go.Lib (hid)
set_option linter.unusedVariables false

/-- The coefficient of a column, as it stands. -/
def coefT (K : List Tq) (z : Int) : Fq := match K.find? fun t => t.c == z with | some t => t.f | none => fqo (some ((0 : Int) : Rat))
theorem coefT_yes {K : List Tq} {z : Int} {k : Nat} (h : k < K.length) (hA : ∀ j (h : j < K.length), j < k → K[j].c ≠ z) (hx : K[k].c = z) : coefT K z = K[k].f := by
  have : (K.find? fun t => t.c == z) = some K[k] := by
    rw [List.find?_eq_some_iff_getElem]
    refine ⟨by simpa using hx, k, h, rfl, fun j hj => ?_⟩
    have := hA j (by omega) hj
    simpa using this
  unfold coefT
  rw [this]
theorem coefT_no {K : List Tq} {z : Int} (hA : ∀ j (h : j < K.length), K[j].c ≠ z) : coefT K z = fqo (some ((0 : Int) : Rat)) := by
  have : (K.find? fun t => t.c == z) = none := by
    rw [List.find?_eq_none]
    intro t ht
    obtain ⟨j, hj, rfl⟩ := List.getElem_of_mem ht
    have := hA j hj
    simpa using this
  unfold coefT
  rw [this]
theorem coefT_sm {K : List Tq} (hK : SmT K) {z : Int} : (coefT K z).A.length ≤ 1048576 ∧ (coefT K z).D.length ≤ 1048576 := by
  unfold coefT
  split
  · next t e => exact hK.1 t (List.mem_of_find?_eq_some e)
  · obtain ⟨-, -, l1, l2⟩ := rval_parts (fitO_i64 (n := 0) (by decide) (by decide))
    rw [fqo_A, fqo_D]
    omega
theorem RF_out {p : Bool} {s : Bool} {A D : List Int} {w w4 : World} {a b : Option Addr} {c d B N : Nat} {T : TypeId} (hN : w.heap.size ≤ N) {cs : Array Value} (hL : LocA T w4 N cs) (hT : T ≠ 3) (hB : w.heap.size ≤ B) (h : RF p w4 B (.slice a A.length c) (.slice b D.length d) A D) (hb : Below w.heap.size w w4) :
    RatF p s A D w (.returned (.agg #[.bool s, .slice a A.length c, .slice b D.length d])) (((w4.setCell ⟨N, 0, none⟩ (.bool s)).setCell ⟨N, 1, none⟩ (.slice a A.length c)).setCell ⟨N, 2, none⟩ (.slice b D.length d)) := by
  have n1 := hL.ne hT h.i
  have n2 := hL.ne hT h.j
  exact ⟨a, c, b, d, rfl, ⟨Ints_base (Ints_set (Ints_set (Ints_set h.i n1) n1) n1) hB, Ints_base (Ints_set (Ints_set (Ints_set h.j n2) n2) n2) hB, h.nd, h.la, h.ld⟩, ((hb.setCell hN _).setCell hN _).setCell hN _⟩
set_option maxRecDepth 100000 in
set_option maxHeartbeats 6400000 in
theorem impl_TermsCoef {p : Bool} {a : Option Addr} {n c : Nat} {K : List Tq} {lo hi : Nat} (hK : SmT K) (z : Int) (w : World) (h : TK p w (.slice a n c) K lo hi) :
    Calls Try.prog 26 #[.slice a n c, .int .i64 z] w (RatF true (coefT K z).s (coefT K z).A (coefT K z).D w) := by
  have HV := hid h
  obtain rfl := h.num
  clear h
  have hkl := hK.2
  obtain ⟨⟨S1, R1, R2⟩, hC⟩ : ∃ f, coefT K z = f := ⟨_, rfl⟩
  rw [hC]
  have HC := hid hC
  clear hC
  have hrr := hid (show R1.length ≤ 1048576 ∧ R2.length ≤ 1048576 from by
    have h1 := coefT_sm hK (z := z)
    rw [HC.out] at h1
    exact h1)
  have LR := hid (LocA.new (w := w) (T := 43) (cs := #[.bool false, .slice none 0 0, .slice none 0 0]))
  have B0 := hid (below_new' (w := w) (o := .cells #[.bool false, .slice none 0 0, .slice none 0 0] 43))
  have V0 := hid (HV.out.old B0.out)
  go_enter Try.func26, Try.ntmps26
  go_wp2
  generalize w.alloc (.cells #[.bool false, .slice none 0 0, .slice none 0 0] 43) = w1 at LR B0 V0 ⊢
  obtain ⟨N, hN⟩ : ∃ N, N = w.heap.size := ⟨_, rfl⟩
  rw [← hN] at LR B0 ⊢
  have HN := hid hN
  clear hN
  have hNz := hid (show w.heap.size ≤ w1.heap.size from B0.out.size)
  go_loopw [9] (fun i wr => ∃ (k : Nat), k ≤ K.length ∧ i = .int .i64 k ∧ Hid (∀ j (h : j < K.length), j < k → K[j].c ≠ z) ∧ Hid (LocA 43 wr N #[.bool false, .slice none 0 0, .slice none 0 0]) ∧ Hid (Below w1.heap.size w1 wr)) (fun i _ => K.length - (intOf i).toNat)
  case atStart => exact ⟨0, Nat.zero_le _, rfl, hid (fun j h hj => absurd hj (by omega)), LR, hid (Below.refl _ _)⟩
  case round =>
    obtain ⟨k, hk, rfl, hA, hL, hbel⟩ := hrel
    have hNz := hid (Nat.le_trans hNz.out hbel.out.size)
    have HB0 := hid (show Below N w wr from B0.out.trans (hbel.out.mono (by rw [HN.out]; exact B0.out.size)))
    by_cases hlt : k < K.length
    · have V := hid (V0.out.old hbel.out)
      obtain ⟨g, a3, n3, c3, b3, m3, d3, rfl, hg, qc, q0, q1, q2, R⟩ := V.out.at hK hlt
      obtain ⟨⟨x, s, A, D⟩, hf⟩ : ∃ f, K[k]'(hlt) = f := ⟨_, rfl⟩
      simp only [hf] at qc q0 R
      have HF := hid hf
      clear hf
      obtain ⟨o, ho⟩ : ∃ o, Tq.o ⟨x, s, A, D⟩ = o := ⟨_, rfl⟩
      have HO := hid (show (K[k]'(hlt)).o = o by rw [HF.out, ho])
      have HX := hid (show (K[k]'(hlt)).c = x by rw [HF.out])
      have RX := hid (show RA wr s (.slice a3 n3 c3) (.slice b3 m3 d3) o from ⟨A, D, R, ho⟩)
      have RLX := hid R
      have RN := hid R.nums
      clear ho R
      have hws := hbel.out.size
      have HB := hid (hbel.out.alloc hws (.cells #[.int .i64 x, .bool s, .slice a3 n3 c3, .slice b3 m3 d3] 59))
      have LN := hid (hL.out.new1 (o := .cells #[.int .i64 x, .bool s, .slice a3 n3 c3, .slice b3 m3 d3] 59))
      have HNw := hid (show N ≤ wr.heap.size by rw [HN.out]; exact HB0.out.size)
      have HB1 := hid (HB0.out.alloc HNw.out (.cells #[.int .i64 x, .bool s, .slice a3 n3 c3, .slice b3 m3 d3] 59))
      have a1' : (0 : Int) ≤ k := by omega
      have a2 : (k : Int) < K.length := by omega
      by_cases hxz : x = z
      · have e1 := hid (show coefT K z = ⟨s, A, D⟩ from by
          rw [coefT_yes hlt (fun j h hj => hA.out j h hj) (by rw [HX.out]; exact hxz), HF.out]; rfl)
        have e2 : (⟨s, A, D⟩ : Fq) = ⟨S1, R1, R2⟩ := e1.out.symm.trans HC.out
        cases e2
        subst hxz
        have KC := hid (fun (W : World) (hb : Below wr.heap.size wr W) => copy_f (w := W) (s := S1) (RLX.out.old hb))
        clear hbel
        go_wp2_with fail
        (with_reducible refine (KC.out _ below_new').mono ?_)
        rintro e w2 ⟨a4, c4, b4, d4, rfl, hr, hb⟩
        have LN := hid (LN.out.old hb)
        have hsz := hb.size
        have hBz := HB1.out.size
        have HB2 := hid (HB1.out.trans (hb.mono (by rw [HN.out]; exact hBz)))
        have f0 := LN.out.f 0
        have f1 := LN.out.f 1
        have f2 := LN.out.f 2
        have p0 := LN.out.c 0 rfl
        have p1 := LN.out.c 1 rfl
        have p2 := LN.out.c 2 rfl
        have HR := hid hr
        clear hr hb qc q0 q1 q2
        go_wp2
        refine bodyPost_ret (v := .agg #[.bool S1, .slice a4 R1.length c4, .slice b4 R2.length d4]) (by simp [results, Try.results26, go_sem, p0, p1, p2]) rfl ?_
        exact RF_out (N := N) (by rw [HN.out]; exact Nat.le_refl _) LN.out (by decide) (by have := HN.out; have := hNz.out; simp at hsz; omega) HR.out (HN.out ▸ HB2.out)
      · have hxq : (x == z) = false := by simp [hxz]
        have LN2 := hid LN.out
        have HBB := hid HB.out
        clear hbel
        go_wp2
        go_roundw
        case rel => exact ⟨k + 1, by omega, by go_num, hid (fun j h hj => by
          rcases Nat.lt_or_eq_of_le (Nat.le_of_lt_succ hj) with hj' | rfl
          · exact hA.out j h hj'
          · rw [HX.out]; exact hxz), LN2, HBB⟩
        case measure => simp [intOf]; omega
    · have e1 := hid (show coefT K z = fqo (some ((0 : Int) : Rat)) from coefT_no fun j h => hA.out j h (by omega))
      have e2 := hid (e1.out.symm.trans HC.out)
      have HBw := hid HB0.out
      have LN := hid hL.out
      clear hbel
      go_wp2_with fail
      (with_reducible refine (int_o 0 (by decide) (by decide) _).mono ?_)
      rintro e w2 ⟨s2, a4, n4, c4, b4, m4, d4, rfl, hr, hb⟩
      have hrf := hr.rf
      have hsg := hr.sg
      rw [← fqo_s, e2.out] at hsg
      rw [e2.out] at hrf
      simp only at hsg hrf
      obtain ⟨x1, y1, e3, -⟩ := Ints_form hrf.i
      obtain ⟨x2, y2, e4, -⟩ := Ints_form hrf.j
      simp only [Value.slice.injEq] at e3 e4
      obtain ⟨rfl, rfl, rfl⟩ := e3
      obtain ⟨rfl, rfl, rfl⟩ := e4
      subst hsg
      have LN := hid (LN.out.old hb)
      have hsz := hb.size
      have hBz := HBw.out.size
      have HB2 := hid (HBw.out.trans (hb.mono (by rw [HN.out]; exact hBz)))
      have f0 := LN.out.f 0
      have f1 := LN.out.f 1
      have f2 := LN.out.f 2
      have p0 := LN.out.c 0 rfl
      have p1 := LN.out.c 1 rfl
      have p2 := LN.out.c 2 rfl
      have HR := hid hrf
      clear hr hrf hb
      go_wp2
      refine bodyPost_ret (v := .agg #[.bool s2, .slice a4 R1.length c4, .slice b4 R2.length d4]) (by simp [results, go_sem, p0, p1, p2, Try.results26]) rfl ?_
      exact RF_out (N := N) (by rw [HN.out]; exact Nat.le_refl _) LN.out (by decide) (by have := HN.out; have := hNz.out; omega) HR.out (HN.out ▸ HB2.out)
set_option maxRecDepth 100000 in
set_option maxHeartbeats 6400000 in
theorem spec_TermsCoef {p : Bool} {a : Option Addr} {n c : Nat} {K : List Tq} {lo hi : Nat} (hK : SmT K) (z : Int) (w : World) (h : TK p w (.slice a n c) K lo hi) :
    Calls Try.prog 25 #[.slice a n c, .int .i64 z] w (RatF false (coefT K z).s (coefT K z).A (coefT K z).D w) := by
  have HV := hid h
  obtain rfl := h.num
  clear h
  have hkl := hK.2
  obtain ⟨⟨S1, R1, R2⟩, hC⟩ : ∃ f, coefT K z = f := ⟨_, rfl⟩
  rw [hC]
  have HC := hid hC
  clear hC
  have hrr := hid (show R1.length ≤ 1048576 ∧ R2.length ≤ 1048576 from by
    have h1 := coefT_sm hK (z := z)
    rw [HC.out] at h1
    exact h1)
  have LR := hid (LocA.new (w := w) (T := 43) (cs := #[.bool false, .slice none 0 0, .slice none 0 0]))
  have B0 := hid (below_new' (w := w) (o := .cells #[.bool false, .slice none 0 0, .slice none 0 0] 43))
  have V0 := hid (HV.out.old B0.out)
  go_enter Try.func25, Try.ntmps25
  go_wp2
  generalize w.alloc (.cells #[.bool false, .slice none 0 0, .slice none 0 0] 43) = w1 at LR B0 V0 ⊢
  obtain ⟨N, hN⟩ : ∃ N, N = w.heap.size := ⟨_, rfl⟩
  rw [← hN] at LR B0 ⊢
  have HN := hid hN
  clear hN
  have hNz := hid (show w.heap.size ≤ w1.heap.size from B0.out.size)
  go_loopw [9] (fun i wr => ∃ (k : Nat), k ≤ K.length ∧ i = .int .i64 k ∧ Hid (∀ j (h : j < K.length), j < k → K[j].c ≠ z) ∧ Hid (LocA 43 wr N #[.bool false, .slice none 0 0, .slice none 0 0]) ∧ Hid (Below w1.heap.size w1 wr)) (fun i _ => K.length - (intOf i).toNat)
  case atStart => exact ⟨0, Nat.zero_le _, rfl, hid (fun j h hj => absurd hj (by omega)), LR, hid (Below.refl _ _)⟩
  case round =>
    obtain ⟨k, hk, rfl, hA, hL, hbel⟩ := hrel
    have hNz := hid (Nat.le_trans hNz.out hbel.out.size)
    have HB0 := hid (show Below N w wr from B0.out.trans (hbel.out.mono (by rw [HN.out]; exact B0.out.size)))
    by_cases hlt : k < K.length
    · have V := hid (V0.out.old hbel.out)
      obtain ⟨g, a3, n3, c3, b3, m3, d3, rfl, hg, qc, q0, q1, q2, R⟩ := V.out.at hK hlt
      obtain ⟨⟨x, s, A, D⟩, hf⟩ : ∃ f, K[k]'(hlt) = f := ⟨_, rfl⟩
      simp only [hf] at qc q0 R
      have HF := hid hf
      clear hf
      obtain ⟨o, ho⟩ : ∃ o, Tq.o ⟨x, s, A, D⟩ = o := ⟨_, rfl⟩
      have HO := hid (show (K[k]'(hlt)).o = o by rw [HF.out, ho])
      have HX := hid (show (K[k]'(hlt)).c = x by rw [HF.out])
      have RX := hid (show RA wr s (.slice a3 n3 c3) (.slice b3 m3 d3) o from ⟨A, D, R, ho⟩)
      have RLX := hid R
      have RN := hid R.nums
      clear ho R
      have hws := hbel.out.size
      have HB := hid (hbel.out.alloc hws (.cells #[.int .i64 x, .bool s, .slice a3 n3 c3, .slice b3 m3 d3] 59))
      have LN := hid (hL.out.new1 (o := .cells #[.int .i64 x, .bool s, .slice a3 n3 c3, .slice b3 m3 d3] 59))
      have HNw := hid (show N ≤ wr.heap.size by rw [HN.out]; exact HB0.out.size)
      have HB1 := hid (HB0.out.alloc HNw.out (.cells #[.int .i64 x, .bool s, .slice a3 n3 c3, .slice b3 m3 d3] 59))
      have a1' : (0 : Int) ≤ k := by omega
      have a2 : (k : Int) < K.length := by omega
      by_cases hxz : x = z
      · have e1 := hid (show coefT K z = ⟨s, A, D⟩ from by
          rw [coefT_yes hlt (fun j h hj => hA.out j h hj) (by rw [HX.out]; exact hxz), HF.out]; rfl)
        have e2 : (⟨s, A, D⟩ : Fq) = ⟨S1, R1, R2⟩ := e1.out.symm.trans HC.out
        cases e2
        subst hxz
        have KC := hid (fun (W : World) (hb : Below wr.heap.size wr W) => scopy_f (w := W) (s := S1) (RLX.out.old hb))
        clear hbel
        go_wp2_with fail
        (with_reducible refine (KC.out _ below_new').mono ?_)
        rintro e w2 ⟨a4, c4, b4, d4, rfl, hr, hb⟩
        have LN := hid (LN.out.old hb)
        have hsz := hb.size
        have hBz := HB1.out.size
        have HB2 := hid (HB1.out.trans (hb.mono (by rw [HN.out]; exact hBz)))
        have f0 := LN.out.f 0
        have f1 := LN.out.f 1
        have f2 := LN.out.f 2
        have p0 := LN.out.c 0 rfl
        have p1 := LN.out.c 1 rfl
        have p2 := LN.out.c 2 rfl
        have HR := hid hr
        clear hr hb qc q0 q1 q2
        go_wp2
        refine bodyPost_ret (v := .agg #[.bool S1, .slice a4 R1.length c4, .slice b4 R2.length d4]) (by simp [results, Try.results25, go_sem, p0, p1, p2]) rfl ?_
        exact RF_out (N := N) (by rw [HN.out]; exact Nat.le_refl _) LN.out (by decide) (by have := HN.out; have := hNz.out; simp at hsz; omega) HR.out (HN.out ▸ HB2.out)
      · have hxq : (x == z) = false := by simp [hxz]
        have LN2 := hid LN.out
        have HBB := hid HB.out
        clear hbel
        go_wp2
        go_roundw
        case rel => exact ⟨k + 1, by omega, by go_num, hid (fun j h hj => by
          rcases Nat.lt_or_eq_of_le (Nat.le_of_lt_succ hj) with hj' | rfl
          · exact hA.out j h hj'
          · rw [HX.out]; exact hxz), LN2, HBB⟩
        case measure => simp [intOf]; omega
    · have e1 := hid (show coefT K z = fqo (some ((0 : Int) : Rat)) from coefT_no fun j h => hA.out j h (by omega))
      have e2 := hid (e1.out.symm.trans HC.out)
      have HBw := hid HB0.out
      have LN := hid hL.out
      clear hbel
      go_wp2_with fail
      (with_reducible refine (sint_o 0 (by decide) (by decide) _).mono ?_)
      rintro e w2 ⟨s2, a4, n4, c4, b4, m4, d4, rfl, hr, hb⟩
      have hrf := hr.rf
      have hsg := hr.sg
      rw [← fqo_s, e2.out] at hsg
      rw [e2.out] at hrf
      simp only at hsg hrf
      obtain ⟨x1, y1, e3, -⟩ := Ints_form hrf.i
      obtain ⟨x2, y2, e4, -⟩ := Ints_form hrf.j
      simp only [Value.slice.injEq] at e3 e4
      obtain ⟨rfl, rfl, rfl⟩ := e3
      obtain ⟨rfl, rfl, rfl⟩ := e4
      subst hsg
      have LN := hid (LN.out.old hb)
      have hsz := hb.size
      have hBz := HBw.out.size
      have HB2 := hid (HBw.out.trans (hb.mono (by rw [HN.out]; exact hBz)))
      have f0 := LN.out.f 0
      have f1 := LN.out.f 1
      have f2 := LN.out.f 2
      have p0 := LN.out.c 0 rfl
      have p1 := LN.out.c 1 rfl
      have p2 := LN.out.c 2 rfl
      have HR := hid hrf
      clear hr hrf hb
      go_wp2
      refine bodyPost_ret (v := .agg #[.bool s2, .slice a4 R1.length c4, .slice b4 R2.length d4]) (by simp [results, go_sem, p0, p1, p2, Try.results25]) rfl ?_
      exact RF_out (N := N) (by rw [HN.out]; exact Nat.le_refl _) LN.out (by decide) (by have := HN.out; have := hNz.out; omega) HR.out (HN.out ▸ HB2.out)
end Go.Proofs.Ytnkcihcmkojdmaa
