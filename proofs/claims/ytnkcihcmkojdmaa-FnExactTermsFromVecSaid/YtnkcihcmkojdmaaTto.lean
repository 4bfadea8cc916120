/- The vector of the coefficients. -/
import Derived.Test.YtnkcihcmkojdmaaTos
import Derived.Test.YtnkcihcmkojdmaaTct
import Derived.Deep.RegionLaw
import Derived.Deep.RegionHeld3
import Derived.Deep.DeepCutAuto
namespace Go.Proofs.Ytnkcihcmkojdmaa
open Go.RowKit
open Go.Lib (hid)
set_option linter.unusedVariables false

/-- The vector of the coefficients. -/
def setT (V : List Fq) (K : List Tq) : List Fq := K.foldl (fun V t => V.set t.c.toNat t.f) V
theorem setT_len : ∀ (K : List Tq) (V : List Fq), (setT V K).length = V.length
  | [], V => rfl
  | t :: K, V => by
    show (setT (V.set t.c.toNat t.f) K).length = _
    rw [setT_len K, List.length_set]
theorem setT_take {K : List Tq} {k : Nat} (h : k < K.length) (V : List Fq) : setT V (K.take (k + 1)) = (setT V (K.take k)).set K[k].c.toNat K[k].f := by
  unfold setT
  rw [List.take_succ_eq_append_getElem h, List.foldl_append]; rfl
def toV (K : List Tq) (n : Int) : List Fq := if tok K n = true then setT (zeroK n) K else []
theorem Fq_n_fqo {f : Fq} (h : f.o.isSome = true) : f.n ≤ 49 := by
  rw [fq_form h]
  exact fqo_n (fitO_o f)
theorem setT_n : ∀ (K : List Tq) (V : List Fq), (∀ t ∈ K, t.f.n ≤ 49) → (∀ f ∈ V, f.n ≤ 49) → ∀ f ∈ setT V K, f.n ≤ 49
  | [], V, _, h => h
  | t :: K, V, hK, h => setT_n K _ (fun u hu => hK u (List.mem_cons_of_mem _ hu)) fun f hf => by
    rcases List.mem_or_eq_of_mem_set hf with hf | rfl
    · exact h f hf
    · exact hK t (List.mem_cons_self ..)
theorem szK_mul : ∀ (V : List Fq), (∀ f ∈ V, f.n ≤ 49) → szK V ≤ V.length * 49
  | [], _ => by simp [szK]
  | f :: V, h => by
    have h1 := h f (List.mem_cons_self ..)
    have h2 := szK_mul V fun g hg => h g (List.mem_cons_of_mem _ hg)
    simp only [szK, List.length_cons]
    omega
theorem zeroK_n (n : Int) : ∀ f ∈ zeroK n, f.n ≤ 49 := fun f hf => by
  unfold zeroK at hf
  split at hf
  · rw [(List.mem_replicate.1 hf).2]; exact fqo_n fitO_zero
  · cases hf
theorem toV_sz (K : List Tq) (n : Int) : szK (toV K n) ≤ 2000 := by
  unfold toV
  split
  · next h =>
    have h1 := szK_mul (setT (zeroK n) K) (setT_n K _ (fun t ht => by
      obtain ⟨k, hk, rfl⟩ := List.getElem_of_mem ht
      obtain ⟨-, -, x, e, -⟩ := tok_at h hk
      exact Fq_n_fqo (by rw [Tq.f_o, e]; rfl)) (zeroK_n n))
    rw [setT_len] at h1
    have := zeroK_len n
    omega
  · simp [szK]
theorem RF.ro {p : Bool} {w : World} {lo : Nat} {s : Bool} {v u : Value} {A D : List Int} {x : Rat} (h : RF p w lo v u A D) (e : rval s A D = some x) : RO p w lo s v u (some x) ∧ fqo (some x) = ⟨s, A, D⟩ := by
  obtain ⟨h1, h2, h3⟩ := rval_lists e
  refine ⟨⟨h1.symm, ?_, ?_, h.nd, by rw [← e]; exact fitO_rval s A D⟩, ?_⟩
  · show Ints w lo v (gzl x.num)
    rw [h2]; exact h.i
  · show Ints w lo u (gzl (x.den : Int))
    rw [h3]; exact h.j
  · simp only [fqo, qn, qd, h1, h2, h3]
set_option maxRecDepth 100000 in
set_option maxHeartbeats 6400000 in
theorem impl_TermsToVec {p : Bool} {a : Option Addr} {n c : Nat} {K : List Tq} {lo hi : Nat} (hK : SmT K) (z : Int) (z0 : -9223372036854775808 ≤ z) (z1 : z ≤ 9223372036854775807) (w : World) (h : TK p w (.slice a n c) K lo hi) :
    Calls Try.prog 23 #[.slice a n c, .int .i64 z] w (VecR true (toV K z) w) := by
  have HV := hid h
  obtain rfl := h.num
  clear h
  have hkl := hK.2
  have KO := hid (impl_TermsOk hK z z0 z1 w HV.out)
  have KZ := hid (fun W => impl_VecZero z z0 z1 W)
  obtain ⟨RR, hRR⟩ : ∃ RR, RR = toV K z := ⟨_, rfl⟩
  rw [← hRR]
  have HRR := hid hRR
  clear hRR
  cases hk : tok K z with
  | false =>
    rw [hk] at KO
    have HN := hid (show RR = [] by rw [HRR.out, toV, hk]; rfl)
    rw [HN.out]
    clear hk
    go_enter Try.func23, Try.ntmps23
    go_wp2_with fail
    (with_reducible refine (KO.out).mono ?_)
    rintro e w1 ⟨rfl, hb⟩
    have HB := hid hb
    clear hb
    go_wp2
    go_ret
    exact ⟨none, 0, 0, rfl, VK_nil _ _ _ _, HB.out⟩
  | true =>
    rw [hk] at KO
    obtain ⟨t0, t1, -⟩ := tok_parts hk
    have HN := hid (show RR = setT (zeroK z) K by rw [HRR.out, toV, hk]; rfl)
    rw [HN.out]
    clear HN
    have HT := hid (fun k (h : k < K.length) => tok_at hk h)
    have hL := hid (show (zeroK z).length = z.toNat by obtain ⟨N, hN⟩ : ∃ N : Nat, z = N := ⟨z.toNat, by omega⟩; rw [hN, zeroK_yes (by omega)]; simp)
    have HSM := hid (fun (V : List Fq) (h : ∀ f ∈ V, f.n ≤ 49) (hl : V.length ≤ 40) => (Sm.of (Nat.le_trans (szK_mul V h) (Nat.le_trans (Nat.mul_le_mul_right 49 hl) (by decide))) : Sm V))
    have HNN := hid (fun k => setT_n (K.take k) (zeroK z) (fun t ht => by
      obtain ⟨j, hj, rfl⟩ := List.getElem_of_mem (List.mem_of_mem_take ht)
      obtain ⟨-, -, x, e, -⟩ := tok_at hk hj
      exact Fq_n_fqo (by rw [Tq.f_o, e]; rfl)) (zeroK_n z))
    clear hk
    generalize zeroK z = Z0 at KZ hL HNN ⊢
    go_enter Try.func23, Try.ntmps23
    go_wp2_with fail
    (with_reducible refine (KO.out).mono ?_)
    rintro e w1 ⟨rfl, hb1⟩
    go_wp2_with fail
    (with_reducible refine (KZ.out _).mono ?_)
    rintro e w2 ⟨av, nv, cv, rfl, hv, hb⟩
    have HB := hid (hb1.trans (hb.mono hb1.size))
    have hz1 := hb1.size
    have VV := hid (hv.wide (lo' := w.heap.size) hz1 (Nat.le_refl _))
    obtain rfl := hv.num
    clear hv hb hb1
    go_wp2
    go_loopw [16] (fun i wr => ∃ (k : Nat), k ≤ K.length ∧ i = .int .i64 k ∧ Hid (VK true wr (.slice av Z0.length cv) (setT Z0 (K.take k)) w.heap.size wr.heap.size) ∧ Hid (Below w.heap.size w wr)) (fun i _ => K.length - (intOf i).toNat)
    case atStart => exact ⟨0, Nat.zero_le _, rfl, VV, HB⟩
    case round =>
      obtain ⟨k, hk, rfl, hV, HB⟩ := hrel
      by_cases hlt : k < K.length
      · have X := hid (HV.out.old HB.out)
        obtain ⟨g, a3, n3, c3, b3, m3, d3, rfl, hg, qc, q0, q1, q2, R⟩ := X.out.at hK hlt
        obtain ⟨⟨x, s, A, D⟩, hf⟩ : ∃ f, K[k]'(hlt) = f := ⟨_, rfl⟩
        simp only [hf] at qc q0 R
        have HF := hid hf
        clear hf
        obtain ⟨o, ho⟩ : ∃ o, Tq.o ⟨x, s, A, D⟩ = o := ⟨_, rfl⟩
        have HO := hid (show (K[k]'(hlt)).o = o by rw [HF.out, ho])
        have HX := hid (show (K[k]'(hlt)).c = x by rw [HF.out])
        have RX := hid (show RA wr s (.slice a3 n3 c3) (.slice b3 m3 d3) o from ⟨A, D, R, ho⟩)
        have RLX := hid R
        have RN := hid R.nums
        clear ho R
        have hx := HT.out k hlt
        rw [HX.out, HO.out] at hx
        obtain ⟨j, hj⟩ : ∃ j : Nat, x = j := ⟨x.toNat, by omega⟩
        subst hj
        obtain ⟨y, ho, hy0⟩ := hx.2.2
        subst ho
        have hjz : j < Z0.length := by rw [hL.out]; omega
        clear hx
        obtain ⟨ob, hob⟩ : ∃ ob, ob = (Go.Obj.cells #[.int .i64 (j : Int), .bool s, .slice a3 n3 c3, .slice b3 m3 d3] 59) := ⟨_, rfl⟩
        have hBW := hid (show Below wr.heap.size wr (wr.alloc ob).drew from Below_drew1 below_new')
        have hBZ := hid (show (wr.alloc ob).drew.heap.size = wr.heap.size + 1 by show (wr.alloc ob).heap.size = _; simp)
        have KC := hid (copy_f (w := (wr.alloc ob).drew) (s := s) (RLX.out.old hBW.out))
        have hjs : j < (setT Z0 (K.take k)).length := by rw [setT_len]; exact hjz
        have HBD := hid (HB.out.trans (hBW.out.mono HB.out.size))
        have LT := hid (show LocA 59 (wr.alloc ob).drew wr.heap.size #[.int .i64 (j : Int), .bool s, .slice a3 n3 c3, .slice b3 m3 d3] by rw [hob]; exact LocA.new)
        have VD := hid (hV.out.old hBW.out)
        have hSM := hid (HSM.out _ (HNN.out k) (by rw [setT_len]; have := hL.out; omega))
        obtain ⟨gv, -, -, -, -, -, -, eav, -⟩ := hV.out.at hSM.out hjs
        have y0 := LT.out.c 0 rfl
        have y1 := LT.out.c 1 rfl
        have y2 := LT.out.c 2 rfl
        have y3 := LT.out.c 3 rfl
        have a1' : (0 : Int) ≤ k := by omega
        have a2 : (k : Int) < K.length := by omega
        have a3 : (0 : Int) ≤ j := by omega
        have a4' : (j : Int) < Z0.length := by omega
        have HOB := hid hob
        clear hob
        subst eav
        go_wp2_with fail
        rw [← HOB.out]
        clear qc q0 q1 q2
        go_region_law (first
          | (go_simp; go_at_call 48; (with_reducible refine (KC.out).mono ?_); rintro e w5 ⟨a5, c5, b5, d5, rfl, hr, hb⟩
             have VE := hid (VD.out.old hb)
             have LT := hid (LT.out.old hb)
             have y0 := LT.out.c 0 rfl
             have y1 := LT.out.c 1 rfl
             have y2 := LT.out.c 2 rfl
             have y3 := LT.out.c 3 rfl
             have HBE := hid (HBD.out.trans (hb.mono HBD.out.size))
             have hbz := hid hb.size
             have hro := hr.ro (s := s) (x := y) (by rw [← HO.out, HF.out]; rfl)
             have HRO := hid hro
             have f0 := VE.out.free (j * 3)
             have f1 := VE.out.free (j * 3 + 1)
             have f2 := VE.out.free (j * 3 + 2)
             have hcs := VE.out.at hSM.out hjs
             obtain ⟨gw, x31, x32, x33, x34, x35, x36, eg, -, p0, p1, p2, -⟩ := hcs
             have egv : gv = gw := by simpa using eg
             subst egv
             clear hr hb hro eg))
        all_goals
          have hz5 := hbz.out
          have hz6 := hBZ.out
          have HP := hid (VE.out.put hjs HRO.out.1 (by omega) (by have := HB.out.size; omega) (by omega))
          have hg := hid (show w.heap.size ≤ gv by obtain ⟨E, hE, -⟩ := VE.out; exact (hE.lt gv rfl).1)
          have HBN := hid (((HBE.out.setCell (p := ⟨gv, j * 3, none⟩) hg.out (.bool s)).setCell (p := ⟨gv, j * 3 + 1, none⟩) hg.out (.slice a5 A.length c5)).setCell (p := ⟨gv, j * 3 + 2, none⟩) hg.out (.slice b5 D.length d5))
          go_wp2
          go_roundw
          case rel => exact ⟨k + 1, by omega, by go_num, hid (by
            rw [setT_take hlt, HX.out, HF.out, Int.toNat_natCast, show Tq.f ⟨(j : Int), s, A, D⟩ = ⟨s, A, D⟩ from rfl, ← HRO.out.2]
            simpa [size_set] using HP.out), HBN⟩
          case measure => simp [intOf]; omega
      · obtain rfl : k = K.length := by omega
        go_wp2
        go_ret
        have h1 := hV.out
        rw [List.take_length] at h1
        exact ⟨_, _, _, rfl, h1, HB.out⟩
set_option maxRecDepth 100000 in
set_option maxHeartbeats 6400000 in
theorem spec_TermsToVec {p : Bool} {a : Option Addr} {n c : Nat} {K : List Tq} {lo hi : Nat} (hK : SmT K) (z : Int) (z0 : -9223372036854775808 ≤ z) (z1 : z ≤ 9223372036854775807) (w : World) (h : TK p w (.slice a n c) K lo hi) :
    Calls Try.prog 22 #[.slice a n c, .int .i64 z] w (VecR false (toV K z) w) := by
  have HV := hid h
  obtain rfl := h.num
  clear h
  have hkl := hK.2
  have KO := hid (spec_TermsOk hK z z0 z1 w HV.out)
  have KZ := hid (fun W => spec_VecZero z z0 z1 W)
  obtain ⟨RR, hRR⟩ : ∃ RR, RR = toV K z := ⟨_, rfl⟩
  rw [← hRR]
  have HRR := hid hRR
  clear hRR
  cases hk : tok K z with
  | false =>
    rw [hk] at KO
    have HN := hid (show RR = [] by rw [HRR.out, toV, hk]; rfl)
    rw [HN.out]
    clear hk
    go_enter Try.func22, Try.ntmps22
    go_wp2_with fail
    (with_reducible refine (KO.out).mono ?_)
    rintro e w1 ⟨rfl, hb⟩
    have HB := hid hb
    clear hb
    go_wp2
    go_ret
    exact ⟨none, 0, 0, rfl, VK_nil _ _ _ _, HB.out⟩
  | true =>
    rw [hk] at KO
    obtain ⟨t0, t1, -⟩ := tok_parts hk
    have HN := hid (show RR = setT (zeroK z) K by rw [HRR.out, toV, hk]; rfl)
    rw [HN.out]
    clear HN
    have HT := hid (fun k (h : k < K.length) => tok_at hk h)
    have hL := hid (show (zeroK z).length = z.toNat by obtain ⟨N, hN⟩ : ∃ N : Nat, z = N := ⟨z.toNat, by omega⟩; rw [hN, zeroK_yes (by omega)]; simp)
    have HSM := hid (fun (V : List Fq) (h : ∀ f ∈ V, f.n ≤ 49) (hl : V.length ≤ 40) => (Sm.of (Nat.le_trans (szK_mul V h) (Nat.le_trans (Nat.mul_le_mul_right 49 hl) (by decide))) : Sm V))
    have HNN := hid (fun k => setT_n (K.take k) (zeroK z) (fun t ht => by
      obtain ⟨j, hj, rfl⟩ := List.getElem_of_mem (List.mem_of_mem_take ht)
      obtain ⟨-, -, x, e, -⟩ := tok_at hk hj
      exact Fq_n_fqo (by rw [Tq.f_o, e]; rfl)) (zeroK_n z))
    clear hk
    generalize zeroK z = Z0 at KZ hL HNN ⊢
    go_enter Try.func22, Try.ntmps22
    go_wp2_with fail
    (with_reducible refine (KO.out).mono ?_)
    rintro e w1 ⟨rfl, hb1⟩
    go_wp2_with fail
    (with_reducible refine (KZ.out _).mono ?_)
    rintro e w2 ⟨av, nv, cv, rfl, hv, hb⟩
    have HB := hid (hb1.trans (hb.mono hb1.size))
    have hz1 := hb1.size
    have VV := hid (hv.wide (lo' := w.heap.size) hz1 (Nat.le_refl _))
    obtain rfl := hv.num
    clear hv hb hb1
    go_wp2
    go_loopw [16] (fun i wr => ∃ (k : Nat), k ≤ K.length ∧ i = .int .i64 k ∧ Hid (VK false wr (.slice av Z0.length cv) (setT Z0 (K.take k)) w.heap.size wr.heap.size) ∧ Hid (Below w.heap.size w wr)) (fun i _ => K.length - (intOf i).toNat)
    case atStart => exact ⟨0, Nat.zero_le _, rfl, VV, HB⟩
    case round =>
      obtain ⟨k, hk, rfl, hV, HB⟩ := hrel
      by_cases hlt : k < K.length
      · have X := hid (HV.out.old HB.out)
        obtain ⟨g, a3, n3, c3, b3, m3, d3, rfl, hg, qc, q0, q1, q2, R⟩ := X.out.at hK hlt
        obtain ⟨⟨x, s, A, D⟩, hf⟩ : ∃ f, K[k]'(hlt) = f := ⟨_, rfl⟩
        simp only [hf] at qc q0 R
        have HF := hid hf
        clear hf
        obtain ⟨o, ho⟩ : ∃ o, Tq.o ⟨x, s, A, D⟩ = o := ⟨_, rfl⟩
        have HO := hid (show (K[k]'(hlt)).o = o by rw [HF.out, ho])
        have HX := hid (show (K[k]'(hlt)).c = x by rw [HF.out])
        have RX := hid (show RA wr s (.slice a3 n3 c3) (.slice b3 m3 d3) o from ⟨A, D, R, ho⟩)
        have RLX := hid R
        have RN := hid R.nums
        clear ho R
        have hx := HT.out k hlt
        rw [HX.out, HO.out] at hx
        obtain ⟨j, hj⟩ : ∃ j : Nat, x = j := ⟨x.toNat, by omega⟩
        subst hj
        obtain ⟨y, ho, hy0⟩ := hx.2.2
        subst ho
        have hjz : j < Z0.length := by rw [hL.out]; omega
        clear hx
        obtain ⟨ob, hob⟩ : ∃ ob, ob = (Go.Obj.cells #[.int .i64 (j : Int), .bool s, .slice a3 n3 c3, .slice b3 m3 d3] 59) := ⟨_, rfl⟩
        have hBW := hid (show Below wr.heap.size wr (wr.alloc ob).drew from Below_drew1 below_new')
        have hBZ := hid (show (wr.alloc ob).drew.heap.size = wr.heap.size + 1 by show (wr.alloc ob).heap.size = _; simp)
        have KC := hid (scopy_f (w := (wr.alloc ob).drew) (s := s) (RLX.out.old hBW.out))
        have hjs : j < (setT Z0 (K.take k)).length := by rw [setT_len]; exact hjz
        have HBD := hid (HB.out.trans (hBW.out.mono HB.out.size))
        have LT := hid (show LocA 59 (wr.alloc ob).drew wr.heap.size #[.int .i64 (j : Int), .bool s, .slice a3 n3 c3, .slice b3 m3 d3] by rw [hob]; exact LocA.new)
        have VD := hid (hV.out.old hBW.out)
        have hSM := hid (HSM.out _ (HNN.out k) (by rw [setT_len]; have := hL.out; omega))
        obtain ⟨gv, -, -, -, -, -, -, eav, -⟩ := hV.out.at hSM.out hjs
        have y0 := LT.out.c 0 rfl
        have y1 := LT.out.c 1 rfl
        have y2 := LT.out.c 2 rfl
        have y3 := LT.out.c 3 rfl
        have a1' : (0 : Int) ≤ k := by omega
        have a2 : (k : Int) < K.length := by omega
        have a3 : (0 : Int) ≤ j := by omega
        have a4' : (j : Int) < Z0.length := by omega
        have HOB := hid hob
        clear hob
        subst eav
        go_wp2_with fail
        rw [← HOB.out]
        clear qc q0 q1 q2
        go_region_law (first
          | (go_simp; go_at_call 45; (with_reducible refine (KC.out).mono ?_); rintro e w5 ⟨a5, c5, b5, d5, rfl, hr, hb⟩
             have VE := hid (VD.out.old hb)
             have LT := hid (LT.out.old hb)
             have y0 := LT.out.c 0 rfl
             have y1 := LT.out.c 1 rfl
             have y2 := LT.out.c 2 rfl
             have y3 := LT.out.c 3 rfl
             have HBE := hid (HBD.out.trans (hb.mono HBD.out.size))
             have hbz := hid hb.size
             have hro := hr.ro (s := s) (x := y) (by rw [← HO.out, HF.out]; rfl)
             have HRO := hid hro
             have f0 := VE.out.free (j * 3)
             have f1 := VE.out.free (j * 3 + 1)
             have f2 := VE.out.free (j * 3 + 2)
             have hcs := VE.out.at hSM.out hjs
             obtain ⟨gw, x31, x32, x33, x34, x35, x36, eg, -, p0, p1, p2, -⟩ := hcs
             have egv : gv = gw := by simpa using eg
             subst egv
             clear hr hb hro eg))
        all_goals
          have hz5 := hbz.out
          have hz6 := hBZ.out
          have HP := hid (VE.out.put hjs HRO.out.1 (by omega) (by have := HB.out.size; omega) (by omega))
          have hg := hid (show w.heap.size ≤ gv by obtain ⟨E, hE, -⟩ := VE.out; exact (hE.lt gv rfl).1)
          have HBN := hid (((HBE.out.setCell (p := ⟨gv, j * 3, none⟩) hg.out (.bool s)).setCell (p := ⟨gv, j * 3 + 1, none⟩) hg.out (.slice a5 A.length c5)).setCell (p := ⟨gv, j * 3 + 2, none⟩) hg.out (.slice b5 D.length d5))
          go_wp2
          go_roundw
          case rel => exact ⟨k + 1, by omega, by go_num, hid (by
            rw [setT_take hlt, HX.out, HF.out, Int.toNat_natCast, show Tq.f ⟨(j : Int), s, A, D⟩ = ⟨s, A, D⟩ from rfl, ← HRO.out.2]
            simpa [size_set] using HP.out), HBN⟩
          case measure => simp [intOf]; omega
      · obtain rfl : k = K.length := by omega
        go_wp2
        go_ret
        have h1 := hV.out
        rw [List.take_length] at h1
        exact ⟨_, _, _, rfl, h1, HB.out⟩
end Go.Proofs.Ytnkcihcmkojdmaa
