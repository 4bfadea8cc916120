/- Merged: Tfv Tlf. -/
import Derived.Test.YtnkcihcmkojdmaaTct
import Derived.Test.YtnkcihcmkojdmaaTto
import Derived.Carry
import Derived.Deep.RegionHeld3
import Derived.Deep.DeepCutAuto
/- The terms of a vector. -/
namespace Go.Proofs.Ytnkcihcmkojdmaa
open Go.RowKit
open Go.Lib (hid)
set_option linter.unusedVariables false

/-- The terms of a vector. -/
def fromF : Nat → List Fq → List Tq
  | _, [] => []
  | i, f :: V => (if nz f.o = true then [⟨(i : Int), f.s, f.A, f.D⟩] else []) ++ fromF (i + 1) V
def fromV (V : List Fq) : List Tq := if oks (vals V) = true then fromF 0 V else []
theorem fromF_append : ∀ (i : Nat) (V W : List Fq), fromF i (V ++ W) = fromF i V ++ fromF (i + V.length) W
  | i, [], W => by simp [fromF]
  | i, f :: V, W => by
    rw [List.cons_append, fromF, fromF_append (i + 1) V W, fromF, List.append_assoc, List.length_cons, show i + 1 + V.length = i + (V.length + 1) by omega]
theorem fromF_take {V : List Fq} {k : Nat} (h : k < V.length) : fromF 0 (V.take (k + 1)) = fromF 0 (V.take k) ++ (if nz V[k].o = true then [⟨(k : Int), V[k].s, V[k].A, V[k].D⟩] else []) := by
  rw [List.take_succ_eq_append_getElem h, fromF_append]
  simp only [fromF, List.append_nil, Nat.zero_add, List.length_take]
  rw [show min k V.length = k by omega]
theorem fromF_len : ∀ (i : Nat) (V : List Fq), (fromF i V).length ≤ V.length
  | _, [] => Nat.le_refl _
  | i, f :: V => by
    have := fromF_len (i + 1) V
    rw [fromF, List.length_append, List.length_cons]
    split
    · simp; omega
    · simp; omega
theorem szT_mul : ∀ (K : List Tq), (∀ t ∈ K, t.n ≤ 50) → szT K ≤ K.length * 50
  | [], _ => by simp [szT]
  | f :: V, h => by
    have h1 := h f (List.mem_cons_self ..)
    have h2 := szT_mul V fun g hg => h g (List.mem_cons_of_mem _ hg)
    simp only [szT, List.length_cons]
    omega
theorem Tq_n_nz {t : Tq} (h : nz t.o = true) : t.n ≤ 50 := by
  rw [tq_form (nz_isSome h)]
  exact tqo_n _ (fitO_ot t)
theorem fromF_nz : ∀ (i : Nat) (V : List Fq), ∀ t ∈ fromF i V, nz t.o = true
  | _, [], t, h => by cases h
  | i, f :: V, t, h => by
    rw [fromF] at h
    rcases List.mem_append.1 h with h | h
    · split at h
      · next hn => rw [List.mem_singleton.1 h]; exact hn
      · cases h
    · exact fromF_nz (i + 1) V t h
theorem fromV_sz (V : List Fq) : szT (fromV V) ≤ 2000 := by
  unfold fromV
  split
  · next h =>
    have h1 := szT_mul _ fun t ht => Tq_n_nz (fromF_nz 0 V t ht)
    have h2 := fromF_len 0 V
    simp only [oks, Bool.and_eq_true, decide_eq_true_eq] at h
    have h3 := h.1
    rw [vals_len] at h3
    omega
  · simp [szT]
/-- The map after the first elements of a vector. -/
def vecG (V : List Fq) : Int → Option Fq := fun x => if 0 ≤ x then V[x.toNat]? else none
theorem vecG_take {V : List Fq} {k : Nat} (h : k < V.length) : ∀ x, vecG (V.take (k + 1)) x = updG (vecG (V.take k)) (k : Int) V[k] x := by
  intro x
  show (if 0 ≤ x then (V.take (k + 1))[x.toNat]? else none) = (if x = (k : Int) then some V[k] else (if 0 ≤ x then (V.take k)[x.toNat]? else none))
  by_cases hx : x = (k : Int)
  · subst hx
    rw [if_pos rfl, if_pos (by omega), Int.toNat_natCast, List.getElem?_take_of_lt (by omega), List.getElem?_eq_getElem h]
  · rw [if_neg hx]
    by_cases h0 : 0 ≤ x
    · rw [if_pos h0, if_pos h0, List.getElem?_take, List.getElem?_take]
      by_cases h1 : x.toNat < k
      · rw [if_pos (by omega), if_pos h1]
      · rw [if_neg (by omega), if_neg h1]
    · rw [if_neg h0, if_neg h0]
def colsN (n : Nat) : List Int := (List.range n).map fun (i : Nat) => (i : Int)
theorem cols_vec {V : List Fq} (h : V.length ≤ 40) : ColsOf (vecG V) (colsN V.length) := by
  refine ⟨?_, fun x => ?_⟩
  · unfold Asc colsN
    rw [List.pairwise_map]
    exact List.pairwise_lt_range.imp fun h => by omega
  · unfold colsN vecG I64
    rw [List.mem_map]
    constructor
    · rintro ⟨i, hi, rfl⟩
      rw [List.mem_range] at hi
      refine ⟨by omega, ?_⟩
      rw [if_pos (by omega), Int.toNat_natCast, List.getElem?_eq_getElem hi]; rfl
    · rintro ⟨-, hs⟩
      by_cases h0 : 0 ≤ x
      · rw [if_pos h0] at hs
        have : x.toNat < V.length := by
          apply Decidable.byContradiction
          intro hn
          rw [List.getElem?_eq_none (by omega)] at hs
          cases hs
        exact ⟨x.toNat, List.mem_range.2 this, by omega⟩
      · rw [if_neg h0] at hs; cases hs
theorem coll_vec {V : List Fq} (h : V.length ≤ 40) (hs : oks (vals V) = true) : collG (colsN V.length) (vecG V) = fromV V := by
  have hval : ∀ k (hk : k < V.length), vecG V (k : Int) = some V[k] := fun k hk => by
    unfold vecG
    rw [if_pos (by omega), Int.toNat_natCast, List.getElem?_eq_getElem hk]
  have hok := hs
  simp only [oks, Bool.and_eq_true, List.all_eq_true] at hok
  rw [allG_take, fromV, if_pos hs]
  · have key : ∀ n, n ≤ V.length → (colsN n).flatMap (pickG (vecG V)) = fromF 0 (V.take n) := by
      intro n
      induction n with
      | zero => intro _; rfl
      | succ n ih =>
        intro hn
        have ih := ih (by omega)
        rw [fromF_take (by omega), ← ih]
        unfold colsN
        rw [List.range_succ, List.map_append, List.flatMap_append]
        congr 1
        simp only [List.map_cons, List.map_nil, List.flatMap_cons, List.flatMap_nil, List.append_nil]
        unfold pickG
        rw [hval n (by omega)]
    have := key V.length (Nat.le_refl _)
    rwa [List.take_length] at this
  · intro k hk
    have hk' : k < V.length := by unfold colsN at hk; simpa using hk
    have e : (colsN V.length)[k] = (k : Int) := by
      rw [List.getElem_eq_iff]
      unfold colsN
      rw [List.getElem?_map, List.getElem?_range hk']; rfl
    rw [e]
    unfold okG
    rw [hval k hk']
    exact hok.2 _ (List.mem_map_of_mem (List.getElem_mem hk'))
set_option maxRecDepth 100000 in
set_option maxHeartbeats 6400000 in
theorem impl_TermsFromVec {p : Bool} {a : Option Addr} {n c : Nat} {V : List Fq} {lo hi : Nat} (hK : Sm V) (w : World) (h : VK p w (.slice a n c) V lo hi) :
    Calls Try.prog 17 #[.slice a n c] w (TerR true (fromV V) w) := by
  have HV := hid h
  obtain rfl := h.num
  clear h
  have hkl := hK.2
  have KO := hid (impl_VecOk hK w HV.out)
  obtain ⟨RR, hRR⟩ : ∃ RR, RR = fromV V := ⟨_, rfl⟩
  rw [← hRR]
  have HRR := hid hRR
  clear hRR
  have hmm := @run_makeMap Try.prog
  cases hk : oks (vals V) with
  | false =>
    rw [hk] at KO
    have HN := hid (show RR = [] by rw [HRR.out, fromV, hk]; rfl)
    rw [HN.out]
    clear hk hmm
    go_enter Try.func17, Try.ntmps17
    go_wp2_with fail
    (with_reducible refine (KO.out).mono ?_)
    rintro e w1 ⟨rfl, hb⟩
    have HB := hid hb
    clear hb
    go_wp2
    go_ret
    exact ⟨none, 0, 0, rfl, TK_nil _ _ _ _, HB.out⟩
  | true =>
    rw [hk] at KO
    have h40 : V.length ≤ 40 := by
      simp only [oks, Bool.and_eq_true, decide_eq_true_eq] at hk
      have := hk.1
      rwa [vals_len] at this
    have HC := hid (fun L (hl : ColsOf (vecG V) L) => (by rw [hl.eq (cols_vec h40), coll_vec h40 hk, HRR.out] : collG L (vecG V) = RR))
    have HOK := hid hk
    clear hk
    go_enter Try.func17, Try.ntmps17
    go_wp2_with fail
    (with_reducible refine (KO.out).mono ?_)
    rintro e w1 ⟨rfl, hb1⟩
    have HB1 := hid hb1
    have HM0 := hid (CO_made w1 (lo := w.heap.size) hb1.size)
    have HB2 := hid (show Below w.heap.size w (w1.alloc (.map #[] 0)) from hb1.alloc hb1.size _)
    have hz := hb1.size
    have HZ2 := hid (show (w1.alloc (.map #[] 0)).heap.size = w1.heap.size + 1 by simp)
    clear hb1
    go_wp2
    clear hmm
    obtain ⟨b, hb⟩ : ∃ b, b = w1.heap.size := ⟨_, rfl⟩
    rw [← hb] at HM0 HZ2 ⊢
    clear hb
    generalize w1.alloc (.map #[] 0) = w2 at HM0 HB2 HZ2 ⊢
    go_loopw [12] (fun i wr => ∃ (k : Nat), k ≤ V.length ∧ i = .int .i64 k ∧ Hid (∃ E, CO wr b k E w.heap.size wr.heap.size ∧ ∀ x, (E x).map El.q = vecG (V.take k) x) ∧ Hid (Below w.heap.size w wr)) (fun i _ => V.length - (intOf i).toNat)
    case atStart => exact ⟨0, Nat.zero_le _, rfl, hid ⟨_, HM0.out.wide (by rw [HZ2.out]; exact Nat.le_refl _), fun x => by unfold vecG; simp⟩, HB2⟩
    case round =>
      obtain ⟨k, hk, rfl, hE, hB⟩ := hrel
      by_cases hlt : k < V.length
      · have X := hid (HV.out.old hB.out)
        obtain ⟨g, a3, n3, c3, b3, m3, d3, rfl, hg, q0, q1, q2, R⟩ := X.out.at hK hlt
        obtain ⟨⟨s, A, D⟩, hf⟩ : ∃ f, V[k]'(hlt) = f := ⟨_, rfl⟩
        simp only [hf] at q0 R
        have HF := hid hf
        clear hf
        have HB := hid (hB.out.alloc hB.out.size (.cells #[.bool s, .slice a3 n3 c3, .slice b3 m3 d3] 43))
        have KC := hid (fun (W : World) (hb : Below wr.heap.size wr W) => copy_f (w := W) (s := s) (R.old hb))
        obtain ⟨E, hco, hq⟩ := hE.out
        have HCO := hid (hco.old (below_new' (o := .cells #[.bool s, .slice a3 n3 c3, .slice b3 m3 d3] 43)))
        have HQ := hid hq
        have a1' : (0 : Int) ≤ k := by omega
        have a2 : (k : Int) < V.length := by omega
        have hwz := hB.out.size
        clear R hco hq
        go_wp2_with fail
        (with_reducible refine (KC.out _ below_new').mono ?_)
        rintro e w3 ⟨a4, c4, b4, d4, rfl, hr, hb⟩
        have HCO := hid (HCO.out.old hb)
        have HB := hid (HB.out.trans (hb.mono HB.out.size))
        have HR := hid hr
        have hz3 := hb.size
        have hz4 : (wr.alloc (.cells #[.bool s, .slice a3 n3 c3, .slice b3 m3 d3] 43)).heap.size = wr.heap.size + 1 := by simp
        have HI64 := hid (show I64 (k : Int) from ⟨by omega, by omega⟩)
        have hmi := hid HCO.out.mi
        clear hr hb q0 q1 q2
        go_wp2_with (first | (at_mapUpdate; refine wpList_storeM rfl _ _ _ rfl rfl hmi.out (by omega) (k : Int) HI64.out rfl ⟨⟨s, A, D⟩, .slice a4 A.length c4, .slice b4 D.length d4⟩ s a4 A.length c4 b4 D.length d4 rfl rfl ?_))
        intro wm hmm2 hgm
        have HCM := hid (HCO.out.put (w'' := w) HR.out (by omega) (by omega) hmm2 hgm)
        have HBM := hid (HB.out.grown hgm HB.out.size fun j hj => by cases hj; exact HCO.out.low)
        clear hmm2 hgm hz4
        go_wp2
        go_roundw
        case rel => exact ⟨k + 1, by omega, by go_num, hid ⟨_, HCM.out, fun x => by rw [updG_of HQ.out, vecG_take hlt, HF.out]⟩, HBM⟩
        case measure => simp [intOf]; omega
      · obtain rfl : k = V.length := by omega
        obtain ⟨E, hco, hq⟩ := hE.out
        rw [List.take_length] at hq
        have KT := hid (impl_terms (by omega) wr hco hq (Nat.le_refl _) hB.out.size)
        clear hco hq
        go_wp2_with fail
        (with_reducible refine (KT.out).mono ?_)
        rintro e w3 ⟨L, hcl, a4, m4, c4, rfl, htk, hb⟩
        have HTK := hid htk
        have HE := hid (HC.out L hcl)
        have HB := hid (hB.out.trans (hb.mono hB.out.size))
        clear htk hb hcl
        go_wp2
        go_ret
        exact ⟨_, _, _, rfl, by have := HTK.out; rwa [HE.out] at this, HB.out⟩
set_option maxRecDepth 100000 in
set_option maxHeartbeats 6400000 in
theorem spec_TermsFromVec {p : Bool} {a : Option Addr} {n c : Nat} {V : List Fq} {lo hi : Nat} (hK : Sm V) (w : World) (h : VK p w (.slice a n c) V lo hi) :
    Calls Try.prog 15 #[.slice a n c] w (TerR false (fromV V) w) := by
  have HV := hid h
  obtain rfl := h.num
  clear h
  have hkl := hK.2
  have V0 := hid (TK_lit0 false (w := w) (lo := w.heap.size) (Nat.le_refl _))
  have B0 := hid (show Below w.heap.size w (w.alloc (.cells #[] 59)) from below_new')
  have S0 := hid (show (w.alloc (.cells #[] 59)).heap.size = w.heap.size + 1 by simp)
  have KO := hid (fun (W : World) (hb : Below w.heap.size w W) => spec_VecOk hK W (HV.out.old hb))
  obtain ⟨RR, hRR⟩ : ∃ RR, RR = fromV V := ⟨_, rfl⟩
  rw [← hRR]
  have HRR := hid hRR
  clear hRR
  cases hk : oks (vals V) with
  | false =>
    rw [hk] at KO
    have HN := hid (show RR = [] by rw [HRR.out, fromV, hk]; rfl)
    rw [HN.out]
    clear hk
    go_enter Try.func15, Try.ntmps15
    go_wp2_with fail
    (with_reducible refine (KO.out _ B0.out).mono ?_)
    rintro e w1 ⟨rfl, hb⟩
    have HB := hid (B0.out.trans (hb.mono B0.out.size))
    clear hb
    go_wp2
    go_ret
    exact ⟨none, 0, 0, rfl, TK_nil _ _ _ _, HB.out⟩
  | true =>
    rw [hk] at KO
    have h40 : V.length ≤ 40 := by
      simp only [oks, Bool.and_eq_true, decide_eq_true_eq] at hk
      have := hk.1
      rwa [vals_len] at this
    have HN := hid (show RR = fromF 0 V by rw [HRR.out, fromV, hk]; rfl)
    rw [HN.out]
    have HOK := hid (fun k (h : k < V.length) => (by
      simp only [oks, Bool.and_eq_true, List.all_eq_true] at hk
      exact hk.2 _ (List.mem_map_of_mem (List.getElem_mem h)) : V[k].o.isSome = true))
    clear hk
    go_enter Try.func15, Try.ntmps15
    go_wp2_with fail
    (with_reducible refine (KO.out _ B0.out).mono ?_)
    rintro e w1 ⟨rfl, hb1⟩
    have V1 := hid ((V0.out.old hb1).wide (Nat.le_refl _) (show w.heap.size + 1 ≤ w1.heap.size by have := hb1.size; rw [S0.out] at this; exact this))
    have HB := hid (B0.out.trans (hb1.mono B0.out.size))
    clear hb1
    go_wp2
    go_loopw [3, 12] (fun v i wr => ∃ (k : Nat) (x : Option Addr) (m y : Nat), k ≤ V.length ∧ i = .int .i64 k ∧ v = .slice x m y ∧ Hid (TK false wr (.slice x m y) (fromF 0 (V.take k)) w.heap.size wr.heap.size) ∧ Hid (Below w.heap.size w wr)) (fun _ i _ => V.length - (intOf i).toNat)
    case atStart => exact ⟨0, _, 0, _, Nat.zero_le _, rfl, rfl, V1, HB⟩
    case round =>
      obtain ⟨k, x0, m0, y0, hk, rfl, rfl, hT, hB⟩ := hrel
      by_cases hlt : k < V.length
      · have X := hid (HV.out.old hB.out)
        obtain ⟨g, a3, n3, c3, b3, m3, d3, rfl, hg, q0, q1, q2, R⟩ := X.out.at hK hlt
        obtain ⟨⟨s, A, D⟩, hf⟩ : ∃ f, V[k]'(hlt) = f := ⟨_, rfl⟩
        simp only [hf] at q0 R
        have HF := hid hf
        clear hf
        have hno := HOK.out k hlt
        rw [HF.out] at hno
        have hmg := tq_mag (x := 0) (s := s) (A := A) (D := D) (o := Fq.o ⟨s, A, D⟩) rfl hno
        obtain ⟨y, ho⟩ := Option.isSome_iff_exists.1 hno
        have HO := hid ho
        have hn3 := R.nums.1
        rw [← hn3] at hmg
        have HB := hid (hB.out.alloc hB.out.size (.cells #[.bool s, .slice a3 n3 c3, .slice b3 m3 d3] 43))
        have HT1 := hid (hT.out.old (below_new' (o := .cells #[.bool s, .slice a3 n3 c3, .slice b3 m3 d3] 43)))
        have LB := hid (LocA.new (w := wr) (T := 43) (cs := #[.bool s, .slice a3 n3 c3, .slice b3 m3 d3]))
        have KC := hid (fun (W : World) (hb : Below wr.heap.size wr W) => scopy_f (w := W) (s := s) (R.old hb))
        have HTK := hid (fromF_take hlt)
        have a1' : (0 : Int) ≤ k := by omega
        have a2 : (k : Int) < V.length := by omega
        have hwz := hB.out.size
        have hlen := hid (show (fromF 0 (V.take k)).length ≤ 1048576 by have := fromF_len 0 (V.take k); rw [List.length_take] at this; omega)
        have HR0 := hid R
        have HN3 := hid hn3
        clear R ho hno hn3
        by_cases h0 : n3 = 0
        · have hz := hid (hmg.1 h0)
          clear hmg HN3
          subst h0
          go_wp2
          go_roundw
          case rel => exact ⟨k + 1, x0, m0, y0, by omega, by go_num, rfl, hid (by rw [HTK.out, HF.out, hz.out]; simp only [Bool.false_eq_true, if_false, List.append_nil]; exact HT1.out.wide (Nat.le_refl _) (by simp)), HB⟩
          case measure => simp [intOf]; omega
        · have hpos : (0 : Int) < n3 := by omega
          have hz := hid (show nz (Fq.o ⟨s, A, D⟩) = true by cases e : nz (Fq.o ⟨s, A, D⟩) with
            | true => rfl
            | false => exact absurd (hmg.2 e) h0)
          clear hmg h0
          go_wp2_with fail
          (with_reducible refine (KC.out _ below_new').mono ?_)
          rintro e w3 ⟨a4, c4, b4, d4, rfl, hr, hb⟩
          have hro := hr.ro (s := s) (x := y) HO.out
          have HRO := hid hro.1
          have HFQ := hid hro.2
          have HT2 := hid (HT1.out.old hb)
          have hz3 := hb.size
          have hz4 : (wr.alloc (.cells #[.bool s, .slice a3 n3 c3, .slice b3 m3 d3] 43)).heap.size = wr.heap.size + 1 := by simp
          have HB2 := hid ((HB.out.trans (hb.mono HB.out.size)).alloc (Nat.le_trans HB.out.size hb.size) (.cells #[.int .i64 (k : Int), .bool s, .slice a4 A.length c4, .slice b4 D.length d4] 59))
          have HT3 := hid (HT2.out.old (below_new' (o := .cells #[.int .i64 (k : Int), .bool s, .slice a4 A.length c4, .slice b4 D.length d4] 59)))
          have HR3 := hid (HRO.out.old (below_new' (o := .cells #[.int .i64 (k : Int), .bool s, .slice a4 A.length c4, .slice b4 D.length d4] 59)))
          have PB := hid (heap_alloc_new w3 (.cells #[.int .i64 (k : Int), .bool s, .slice a4 A.length c4, .slice b4 D.length d4] 59))
          have hl1 : wr.heap.size ≤ (wr.alloc (.cells #[.bool s, .slice a3 n3 c3, .slice b3 m3 d3] 43)).heap.size := by omega
          have hl2 : w.heap.size ≤ (wr.alloc (.cells #[.bool s, .slice a3 n3 c3, .slice b3 m3 d3] 43)).heap.size := by omega
          clear hr hb hro q0 q1 q2
          go_wp2_with (at_builtin; refine wpList_pushT rfl _ _ rfl rfl HT3.out hl1 hl2 HR3.out rfl PB.out hlen.out HB2.out.size ?_)
          intro gp cp wp hvp hbp
          have HB3 := hid (HB2.out.trans hbp)
          have HV3 := hid hvp
          clear hvp hbp hz4
          go_wp2
          go_roundw
          case rel => exact ⟨k + 1, some ⟨gp, 0, none⟩, _, cp, by omega, by go_num, rfl, hid (by
            rw [HTK.out, HF.out, hz.out]
            have h1 := HV3.out
            rw [show tqo (k : Int) (some y) = ⟨(k : Int), s, A, D⟩ from by
              have h2 := HFQ.out
              simp only [fqo, Fq.mk.injEq] at h2
              simp only [tqo, h2.1, h2.2.1, h2.2.2]] at h1
            simp only [if_true]
            exact h1), HB3⟩
          case measure => simp [intOf]; omega
      · obtain rfl : k = V.length := by omega
        go_wp2
        go_ret
        have h1 := hT.out
        rw [List.take_length] at h1
        exact ⟨_, _, _, rfl, h1, hB.out⟩
end Go.Proofs.Ytnkcihcmkojdmaa

/- The law TermsFromVec. -/
namespace Go.Proofs.Ytnkcihcmkojdmaa
open Go.RowKit
open Go.Lib (hid)
set_option linter.unusedVariables false

set_option maxRecDepth 100000 in
set_option maxHeartbeats 25600000 in
theorem law_TermsFromVec (a : Option Addr) (n c : Nat) (K : List Fq) (hnK : n ≤ maxLen) (hmK : ∀ f ∈ K, f.A.length ≤ maxLen ∧ f.D.length ≤ maxLen) (w : World) (rK : VCame w w.heap.size a n K) :
    Calls Try.prog 4 #[.slice a n c] w (RetB (.bool true) w) := by
  have B := hid (Below.refl w.heap.size w)
  have rK := hid rK
  by_cases hsK : (szK K : Int) ≤ 1048576
  case neg =>
    go_enter Try.func4, Try.ntmps4
    obtain ⟨w0, hw0⟩ : ∃ w0, w0 = w := ⟨_, rfl⟩
    rw [← hw0] at B rK ⊢
    clear hw0
    go_wp2_with fail
    (with_reducible refine (szRatS_no _ _ _ _ K (1048576) hnK hmK (by omega) (by omega) (by omega) _ rK.out).mono ?_)
    rintro e w1 ⟨rfl, b1⟩
    have t1 : w0.heap.size ≤ w1.heap.size := by have := b1.size; omega
    have rK := hid (rK.out.old b1)
    have B := hid (B.out.trans (b1.mono B.out.size))
    clear b1
    go_wp2
    go_ret
    exact ⟨rfl, B.out⟩
  have hSK : Sm K := Sm.of (by omega)
  have hslK : szK K ≤ 1048576 := by omega
  obtain ⟨RR, hRR⟩ : ∃ RR, RR = fromV K := ⟨_, rfl⟩
  have hrs : szT RR ≤ 2000 := by rw [hRR]; exact fromV_sz K
  have HRR := hid hRR
  clear hRR
  go_enter Try.func4, Try.ntmps4
  obtain ⟨w0, hw0⟩ : ∃ w0, w0 = w := ⟨_, rfl⟩
  rw [← hw0] at B rK ⊢
  clear hw0
  go_wp2_with fail
  (with_reducible refine (szRatS_yes _ _ _ _ K (1048576) (by omega) (by omega) _ rK.out).mono ?_)
  rintro e w1 ⟨rfl, b1⟩
  have t1 : w0.heap.size ≤ w1.heap.size := by have := b1.size; omega
  have rK := hid (rK.out.old b1)
  have B := hid (B.out.trans (b1.mono B.out.size))
  clear b1
  go_wp2_with fail
  (with_reducible refine (toRatS_came _ _ _ _ K (by omega) _ rK.out).mono ?_)
  rintro e w2 ⟨a2, n2, c2, rfl, i1, b1⟩
  have t2 : w1.heap.size ≤ w2.heap.size := by have := b1.size; omega
  have rK := hid (rK.out.old b1)
  have B := hid (B.out.trans (b1.mono B.out.size))
  have TK := hid i1
  clear i1 b1
  have KR := hid (spec_TermsFromVec hSK w2 TK.out)
  rw [← HRR.out] at KR
  go_wp2_with fail
  (with_reducible refine (KR.out).mono ?_)
  rintro e w3 ⟨a3, n3, c3, rfl, i1, b1⟩
  have t3 : w2.heap.size ≤ w3.heap.size := by have := b1.size; omega
  have rK := hid (rK.out.old b1)
  have TK := hid (TK.out.old b1)
  have B := hid (B.out.trans (b1.mono B.out.size))
  have W0 := hid i1
  clear i1 b1
  clear KR
  go_wp2_with fail
  (with_reducible refine (toRatS_came _ _ _ _ K (by omega) _ rK.out).mono ?_)
  rintro e w4 ⟨a4, n4, c4, rfl, i1, b1⟩
  have t4 : w3.heap.size ≤ w4.heap.size := by have := b1.size; omega
  have rK := hid (rK.out.old b1)
  have W0 := hid (W0.out.old b1)
  have B := hid (B.out.trans (b1.mono B.out.size))
  have XK := hid i1
  clear i1 b1
  have KR := hid (impl_TermsFromVec hSK w4 XK.out)
  rw [← HRR.out] at KR
  go_wp2_with fail
  (with_reducible refine (KR.out).mono ?_)
  rintro e w5 ⟨a5, n5, c5, rfl, i1, b1⟩
  have t5 : w4.heap.size ≤ w5.heap.size := by have := b1.size; omega
  have rK := hid (rK.out.old b1)
  have W0 := hid (W0.out.old b1)
  have XK := hid (XK.out.old b1)
  have B := hid (B.out.trans (b1.mono B.out.size))
  have G0 := hid i1
  clear i1 b1
  clear KR
  go_wp2_with fail
  (with_reducible refine (eqTermS_k (by omega) _ G0.out W0.out).mono ?_)
  rintro e w6 ⟨rfl, b1⟩
  have t6 : w5.heap.size ≤ w6.heap.size := by have := b1.size; omega
  have rK := hid (rK.out.old b1)
  have W0 := hid (W0.out.old b1)
  have XK := hid (XK.out.old b1)
  have G0 := hid (G0.out.old b1)
  have B := hid (B.out.trans (b1.mono B.out.size))
  clear b1
  go_wp2_with fail
  (with_reducible refine (toRatS_came _ _ _ _ K (by omega) _ rK.out).mono ?_)
  rintro e w7 ⟨a7, n7, c7, rfl, i1, b1⟩
  have t7 : w6.heap.size ≤ w7.heap.size := by have := b1.size; omega
  have rK := hid (rK.out.old b1)
  have W0 := hid (W0.out.old b1)
  have XK := hid (XK.out.old b1)
  have G0 := hid (G0.out.old b1)
  have B := hid (B.out.trans (b1.mono B.out.size))
  have TK := hid i1
  clear i1 b1
  go_wp2_with fail
  (with_reducible refine (eqRatS_k (by omega) _ XK.out TK.out).mono ?_)
  rintro e w8 ⟨rfl, b1⟩
  have t8 : w7.heap.size ≤ w8.heap.size := by have := b1.size; omega
  have rK := hid (rK.out.old b1)
  have W0 := hid (W0.out.old b1)
  have XK := hid (XK.out.old b1)
  have G0 := hid (G0.out.old b1)
  have TK := hid (TK.out.old b1)
  have B := hid (B.out.trans (b1.mono B.out.size))
  clear b1
  go_wp2_with fail
  (with_reducible refine (markRatS_k (m := 1) (by omega) (by omega) (by omega) _ XK.out).mono ?_)
  rintro e w9 ⟨rfl, o1, b1⟩
  have t9 : w8.heap.size ≤ w9.heap.size := by have := b1.size; omega
  have XK := hid o1
  have rK := hid (rK.out.onlyG b1 (by omega))
  have W0 := hid (W0.out.onlyG b1 (by omega))
  have G0 := hid (G0.out.onlyG b1 (by omega))
  have B := hid (in_onlyG B.out b1 (by omega))
  clear o1 b1
  have hm0 : ¬ 1 + (szK K : Int) < 0 := by omega
  go_wp2_with fail
  (with_reducible refine (eqTermS_k (by omega) _ G0.out W0.out).mono ?_)
  rintro e w10 ⟨rfl, b1⟩
  have t10 : w9.heap.size ≤ w10.heap.size := by have := b1.size; omega
  have rK := hid (rK.out.old b1)
  have W0 := hid (W0.out.old b1)
  have XK := hid (XK.out.old b1)
  have G0 := hid (G0.out.old b1)
  have B := hid (B.out.trans (b1.mono B.out.size))
  clear b1
  go_wp2_with fail
  (with_reducible refine (markTermS_k (m := 1) (by omega) (by omega) (by omega) _ G0.out).mono ?_)
  rintro e w11 ⟨rfl, o1, b1⟩
  have t11 : w10.heap.size ≤ w11.heap.size := by have := b1.size; omega
  have G0 := hid o1
  have rK := hid (rK.out.onlyG b1 (by omega))
  have W0 := hid (W0.out.onlyG b1 (by omega))
  have B := hid (in_onlyG B.out b1 (by omega))
  clear o1 b1
  have hq0 : ¬ 1 + (szT RR : Int) < 0 := by omega
  go_wp2_with fail
  (with_reducible refine (heldTermS_k (m := 1) (by omega) (by omega) (by omega) _ G0.out).mono ?_)
  rintro e w12 ⟨rfl, b1⟩
  have t12 : w11.heap.size ≤ w12.heap.size := by have := b1.size; omega
  have rK := hid (rK.out.old b1)
  have W0 := hid (W0.out.old b1)
  have G0 := hid (G0.out.old b1)
  have B := hid (B.out.trans (b1.mono B.out.size))
  clear b1
  go_wp2_with fail
  (with_reducible refine (toRatS_came _ _ _ _ K (by omega) _ rK.out).mono ?_)
  rintro e w13 ⟨a13, n13, c13, rfl, i1, b1⟩
  have t13 : w12.heap.size ≤ w13.heap.size := by have := b1.size; omega
  have rK := hid (rK.out.old b1)
  have W0 := hid (W0.out.old b1)
  have G0 := hid (G0.out.old b1)
  have B := hid (B.out.trans (b1.mono B.out.size))
  have YK := hid i1
  clear i1 b1
  have KR := hid (impl_TermsFromVec hSK w13 YK.out)
  rw [← HRR.out] at KR
  go_wp2_with fail
  (with_reducible refine (KR.out).mono ?_)
  rintro e w14 ⟨a14, n14, c14, rfl, i1, b1⟩
  have t14 : w13.heap.size ≤ w14.heap.size := by have := b1.size; omega
  have rK := hid (rK.out.old b1)
  have W0 := hid (W0.out.old b1)
  have G0 := hid (G0.out.old b1)
  have YK := hid (YK.out.old b1)
  have B := hid (B.out.trans (b1.mono B.out.size))
  have H0 := hid i1
  clear i1 b1
  clear KR
  go_wp2_with fail
  (with_reducible refine (eqTermS_k (by omega) _ H0.out W0.out).mono ?_)
  rintro e w15 ⟨rfl, b1⟩
  have t15 : w14.heap.size ≤ w15.heap.size := by have := b1.size; omega
  have rK := hid (rK.out.old b1)
  have W0 := hid (W0.out.old b1)
  have G0 := hid (G0.out.old b1)
  have H0 := hid (H0.out.old b1)
  have B := hid (B.out.trans (b1.mono B.out.size))
  clear b1
  go_wp2_with fail
  (with_reducible refine (heldTermS_k (m := 1) (by omega) (by omega) (by omega) _ G0.out).mono ?_)
  rintro e w16 ⟨rfl, b1⟩
  have t16 : w15.heap.size ≤ w16.heap.size := by have := b1.size; omega
  have rK := hid (rK.out.old b1)
  have W0 := hid (W0.out.old b1)
  have G0 := hid (G0.out.old b1)
  have H0 := hid (H0.out.old b1)
  have B := hid (B.out.trans (b1.mono B.out.size))
  clear b1
  go_wp2
  go_ret
  exact ⟨rfl, B.out⟩
end Go.Proofs.Ytnkcihcmkojdmaa
