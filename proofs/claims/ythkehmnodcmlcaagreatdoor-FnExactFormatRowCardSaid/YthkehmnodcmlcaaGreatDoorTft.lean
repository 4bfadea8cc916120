/- The text of a list of terms (the program and the reference). -/
import Derived.Test.YthkehmnodcmlcaaGreatDoorTok
import Derived.Test.YthkehmnodcmlcaaGreatDoorTos
import Derived.Test.YthkehmnodcmlcaaGreatDoorVfm
import Derived.Test.YthkehmnodcmlcaaGreatDoorDtx
import Derived.Deep.AppendLies
import Derived.Deep.RegionHeld3
import Derived.Deep.DeepCutAuto
namespace Go.Proofs.YthkehmnodcmlcaaGreatDoor
open Go.RowKit
open Go.Lib (hid)
set_option linter.unusedVariables false

/-- The text of a term. -/
def Tq.x (N : List ByteArray) (t : Tq) : ByteArray := (fmtR t.s t.A t.D ++ ByteArray.mk #[42]) ++ N.getD t.c.toNat (ByteArray.mk #[])
def ttx (N : List ByteArray) (K : List Tq) : List ByteArray := K.map (Tq.x N)
theorem ttx_len (N : List ByteArray) (K : List Tq) : (ttx N K).length = K.length := by simp [ttx]
theorem Tqx_size {N : List ByteArray} (hN : ∀ x ∈ N, x.size ≤ 1048576) (t : Tq) : (Tq.x N t).size ≤ 1051179 := by
  unfold Tq.x
  rw [ByteArray.size_append, ByteArray.size_append]
  have h1 := fmtR_size (s := t.s) (A := t.A) (D := t.D)
  have h2 : (N.getD t.c.toNat (ByteArray.mk #[])).size ≤ 1048576 := by
    by_cases h : t.c.toNat < N.length
    · rw [List.getD_eq_getElem?_getD, List.getElem?_eq_getElem h]
      exact hN _ (List.getElem_mem h)
    · rw [List.getD_eq_getElem?_getD, List.getElem?_eq_none (by omega)]
      exact Nat.zero_le _
  have h3 : (ByteArray.mk #[42]).size = 1 := rfl
  omega
theorem ttx_sum {N : List ByteArray} (hN : ∀ x ∈ N, x.size ≤ 1048576) : ∀ K : List Tq, sumSz (ttx N K) ≤ K.length * 1051179
  | [] => by simp [ttx, sumSz]
  | f :: K => by
    have h1 := ttx_sum hN K
    have h2 := Tqx_size hN f
    simp only [ttx, List.map_cons, sumSz, List.length_cons] at h1 ⊢
    omega
theorem ttx_take {N : List ByteArray} {K : List Tq} {k : Nat} (h : k < K.length) : ttx N (K.take k) ++ [Tq.x N K[k]] = ttx N (K.take (k + 1)) := by
  unfold ttx
  rw [List.take_succ_eq_append_getElem h, List.map_append]; rfl
/-- The text of a list of terms (the empty text stands for a list that is none). -/
def fmtT (K : List Tq) (N : List ByteArray) : ByteArray := if tok K (N.length : Int) = true then (if K.length = 0 then ByteArray.mk #[48] else joinK (ttx N K) (ByteArray.mk #[32, 43, 32]) K.length) else ByteArray.mk #[]
section
variable {ops : Array Oper} {o : Oper} {a : Act} {W : World} {v : Value} {Ls : List ByteArray} {lo B : Nat} {t : ByteArray}
set_option maxRecDepth 100000 in
/-- THE APPEND of a string, at a step of a region that draws. -/
theorem step_pushS {K : Act → World → Prop} {Q : Exit → Act → World → Prop} {E' : Prop} (hgd : o.guard = none) (s1 x1 : Operand)
    (ho : o.op = .call { callee := .builtin .append, args := #[s1, x1], argTypes := #[30, 30] }) (hs : a.eval s1 = v) (hv : Strs W 9 lo v Ls)
    (hx : a.eval x1 = .slice (some ⟨B, 0, none⟩) 1 1) (hB : W.heap[B]? = some (.cells #[.string t] 9 (0, 0))) (hlen : Ls.length ≤ 1048576) (hlw : lo ≤ W.heap.size) {n : Nat} (hn : n = Ls.length + 1)
    (h : ∀ (g cap : Nat) (w' : World), Strs w' 9 lo (.slice (some ⟨g, 0, none⟩) n cap) (Ls ++ [t]) → Below lo W w' → (∀ k, k < W.heap.size → some k ≠ v.ownBlock → w'.heap[k]? = W.heap[k]?) → K (a.put o.dst (.slice (some ⟨g, 0, none⟩) n cap)) w') :
    if Region.wanted o (yielded ops a.tmps) = true then Oper.wp Tryz.prog o a W K Q else E' := by
  subst hn
  obtain ⟨i0, hi0, hz0, hz1, hz2⟩ := info_parts Tryz.info9
  refine step_append_lies W hgd s1 x1 30 ho lo 9 i0 _ 1 16 Tryz.underlying30 hi0 hz0 hz1 hz2 rfl (by decide) v Ls.length (Ls.map Value.string) hs hv ⟨B, 0, none⟩ 1 1 [.string t] hx rfl (World.news_of_block hB) ?_ (by decide) (by unfold maxLen; omega) (by omega) hlw W.heap.size rfl ?_
  · intro u hu
    simp only [List.mem_cons, List.not_mem_nil, or_false] at hu
    rcases hu with rfl
    rfl
  · intro g cap w' hrow hgr _ hlt
    exact h g cap w' (Strs_snoc rfl rfl hrow) ((Below.refl lo W).grown hgr hlw fun k hk => (World.ownsRow.lt hv k hk).1) hgr.block
end
theorem keptS {w2 wp : World} {ob : Go.Obj} {v x : Value} {g i : Nat} (hcp : ∀ k, k < (w2.alloc ob).heap.size → some k ≠ v.ownBlock → wp.heap[k]? = (w2.alloc ob).heap[k]?) (hg : g < w2.heap.size) (hn : some g ≠ v.ownBlock)
    (q : w2.cell? ⟨g, i, none⟩ = some x) : wp.cell? ⟨g, i, none⟩ = some x := by
  have h1 : wp.cell? ⟨g, i, none⟩ = (w2.alloc ob).cell? ⟨g, i, none⟩ := World.cell?_of_block (w := w2.alloc ob) (hcp g (by simp; omega) hn)
  exact h1.trans (((below_new' (w := w2) (o := ob)).cell (p := ⟨g, i, none⟩) hg).trans q)
set_option maxRecDepth 100000 in
set_option maxHeartbeats 800000 in
theorem spec_Join_w (g c : Nat) (L : List ByteArray) (sep : ByteArray) (w : World) (hc : ∀ i (h : i < L.length), w.cell? ⟨g, i, none⟩ = some (.string L[i])) (hn : L.length ≤ 1048576) (hs : sumSz L ≤ 67108864) (hsep : sep.size ≤ 1048576) :
    Calls Tryz.prog 60 #[.slice (some ⟨g, 0, none⟩) L.length c, .string sep] w fun e w' => e = .returned (.string (joinK L sep L.length)) ∧ w = w' := by
  have HC := hid hc
  clear hc
  go_enter Tryz.func60, Tryz.ntmps60
  go_wp2
  go_loop [5, 10] (fun x i => ∃ (k : Nat), k ≤ L.length ∧ i = .int .i64 k ∧ x = .string (joinK L sep k)) (fun _ i => L.length - (intOf i).toNat)
  case atStart => exact ⟨0, Nat.zero_le _, rfl, rfl⟩
  case round =>
    obtain ⟨k, hk, rfl, rfl⟩ := hrel
    by_cases hlt : k < L.length
    · have hck := HC.out k hlt
      have a1 : (0 : Int) ≤ k := by omega
      have a2 : (k : Int) < L.length := by omega
      have hz : (joinK L sep k).size ≤ 1099578736640 := by
        have h1 := joinK_size (L := L) (sep := sep) k hk
        have h2 := sumSz_take_le L k
        have h3 : k * sep.size ≤ 1048576 * 1048576 := Nat.mul_le_mul (by omega) hsep
        omega
      have hx : L[k].size ≤ 67108864 := by
        have h1 := sumSz_take hlt
        have h2 := sumSz_take_le L (k + 1)
        omega
      by_cases h0 : k = 0
      · subst h0
        have hj := hid (joinK_first L sep hlt)
        go_wp2
        go_round
        case rel => exact ⟨1, by omega, by first | rfl | go_num, by rw [hj.out]; rfl⟩
        case measure => simp [intOf]; omega
      · have hj := hid (joinK_next (sep := sep) hlt (by omega))
        have h1 : (0 : Int) < k := by omega
        go_wp2
        go_round
        case rel => exact ⟨k + 1, by omega, by go_num, by rw [hj.out]⟩
        case measure => simp [intOf]; omega
    · obtain rfl : k = L.length := by omega
      go_wp2
      go_ret
      exact ⟨rfl, rfl⟩
set_option maxRecDepth 100000 in
set_option maxHeartbeats 800000 in
theorem impl_Join_w (g c : Nat) (L : List ByteArray) (sep : ByteArray) (w : World) (hc : ∀ i (h : i < L.length), w.cell? ⟨g, i, none⟩ = some (.string L[i])) (hg : g < w.heap.size) (hcap : L.length ≤ c) (hn : L.length ≤ 1048576) (hs : sumSz L ≤ 67108864) (hsep : sep.size ≤ 1048576) :
    Calls Tryz.prog 68 #[.slice (some ⟨g, 0, none⟩) L.length c, .string sep] w fun e w' => e = .returned (.string (joinK L sep L.length)) ∧ Below w.heap.size w w' := by
  have K := hid (joinParts_any g c L sep w (fun j x hj => by
    obtain ⟨hlt, rfl⟩ := List.getElem?_eq_some_iff.1 hj
    rw [Nat.zero_add]; exact hc j hlt) hg hcap (by omega) (by
    have h1 := joinL_len L sep
    have h3 : L.length * sep.size ≤ 1048576 * 1048576 := Nat.mul_le_mul hn hsep
    omega))
  have HJ := hid (joinK_all L sep)
  clear hc
  go_enter Tryz.func68, Tryz.ntmps68
  go_wp2_with fail
  refine K.out.mono ?_
  rintro e w1 ⟨rfl, hb⟩
  go_wp2_with fail
  go_ret
  rw [HJ.out]
  exact ⟨rfl, hb⟩
set_option maxRecDepth 100000 in
set_option maxHeartbeats 6400000 in
theorem impl_FormatTerms {p : Bool} {a : Option Addr} {n c : Nat} {K : List Tq} {lo hi gN cN : Nat} {N : List ByteArray} (hK : SmT K) (hN : N.length ≤ 1048576) (hNs : ∀ x ∈ N, x.size ≤ 1048576) (w : World) (h : TK p w (.slice a n c) K lo hi) (hg : gN < w.heap.size) (hc : ∀ i (h : i < N.length), w.cell? ⟨gN, i, none⟩ = some (.string N[i])) (hp : Pow10 w) :
    Calls Tryz.prog 33 #[.slice a n c, .slice (some ⟨gN, 0, none⟩) N.length cN] w (StrP (fmtT K N) w) := by
  have HV := hid h
  have HC := hid hc
  have HNS := hid hNs
  obtain rfl := h.num
  clear h hc hNs
  have hkl := hK.2
  have HP := hid hp
  clear hp
  have KO := hid (impl_TermsOk hK (N.length : Int) (by omega) (by omega) w HV.out)
  cases hok : tok K (N.length : Int) with
  | false =>
    have e : fmtT K N = ByteArray.mk #[] := by unfold fmtT; rw [if_neg (by rw [hok]; decide)]
    rw [e]
    rw [hok] at KO
    clear e hok
    go_enter Tryz.func33, Tryz.ntmps33
    go_wp2_with fail
    (with_reducible refine (KO.out).mono ?_)
    rintro e w2 ⟨rfl, hb⟩
    have HB := hid hb
    clear hb
    go_wp2
    go_ret
    exact ⟨rfl, HB.out⟩
  | true =>
    have h40 := tok_len hok
    have HOK := hid hok
    rw [hok] at KO
    clear hok
    by_cases h0 : K.length = 0
    · have e : fmtT K N = ByteArray.mk #[48] := by unfold fmtT; rw [if_pos HOK.out, if_pos h0]
      rw [e]
      rw [h0] at KO ⊢
      clear e h0 HOK
      go_enter Tryz.func33, Tryz.ntmps33
      go_wp2_with fail
      (with_reducible refine (KO.out).mono ?_)
      rintro e w2 ⟨rfl, hb⟩
      have HB := hid hb
      clear hb
      go_wp2
      go_ret
      exact ⟨rfl, HB.out⟩
    · have e : fmtT K N = joinK (ttx N K) (ByteArray.mk #[32, 43, 32]) K.length := by unfold fmtT; rw [if_pos HOK.out, if_neg h0]
      obtain ⟨T0, hT0⟩ : ∃ T, T = fmtT K N := ⟨_, rfl⟩
      rw [← hT0]
      have HT0 := hid (hT0.trans e)
      have e0 : ((K.length : Int) == 0) = false := beq_eq_false_iff_ne.2 (by omega)
      have hp0 : 0 < K.length := by omega
      clear e hT0 h0
      go_enter Tryz.func33, Tryz.ntmps33
      go_wp2_with fail
      (with_reducible refine (KO.out).mono ?_)
      rintro e w1 ⟨rfl, hb⟩
      have HB1 := hid hb
      clear hb
      go_wp2
      go_loopw [5, 18] (fun v i wr => ∃ (k : Nat) (a' : Option Addr) (c' : Nat), k ≤ K.length ∧ i = .int .i64 k ∧ v = .slice a' k c' ∧ Hid (Strs wr 9 w.heap.size (.slice a' k c') (ttx N (K.take k))) ∧ Below w.heap.size w wr) (fun _ i _ => K.length - (intOf i).toNat)
      case atStart => exact ⟨0, _, 0, Nat.zero_le _, rfl, rfl, hid (Strs_nil _ _ _), HB1.out⟩
      case round =>
        obtain ⟨k, a', c', hk, rfl, rfl, hS, hbel⟩ := hrel
        by_cases hlt : k < K.length
        · have V := hid (HV.out.old hbel)
          obtain ⟨g, a3, n3, c3, b3, m3, d3, rfl, hg1, qc, q0, q1, q2, R⟩ := V.out.at hK hlt
          have hcol := tok_at HOK.out hlt
          obtain ⟨⟨x1, s, A, D⟩, hf⟩ : ∃ f, K[k]'(hlt) = f := ⟨_, rfl⟩
          simp only [hf] at qc q0 q1 q2 R hcol
          obtain ⟨ci, rfl⟩ : ∃ ci : Nat, x1 = (ci : Int) := ⟨x1.toNat, by omega⟩
          have hci : ci < N.length := by omega
          have HF := hid hf
          clear hf hcol
          have hz := hbel.size
          have qn0 := HC.out ci hci
          obtain ⟨nm, hnm⟩ : ∃ x, N[ci]'(hci) = x := ⟨_, rfl⟩
          rw [hnm] at qn0
          have hgr : gN < wr.heap.size := by omega
          have hnz : nm.size ≤ 1048576 := by rw [← hnm]; exact HNS.out _ (List.getElem_mem hci)
          have hfz : (fmtR s A D).size ≤ 2602 := fmtR_size
          obtain ⟨tx, htx⟩ : ∃ tx, tx = fmtR s A D := ⟨_, rfl⟩
          rw [← htx] at hfz
          have HTE := hid (show Tq.x N ⟨(ci : Int), s, A, D⟩ = (tx ++ ByteArray.mk #[42]) ++ nm by
            unfold Tq.x
            show (fmtR s A D ++ ByteArray.mk #[42]) ++ N.getD ((ci : Int).toNat) (ByteArray.mk #[]) = _
            rw [Int.toNat_natCast, List.getD_eq_getElem?_getD, List.getElem?_eq_getElem hci, hnm, ← htx]
            rfl)
          have HTX := hid (ttx_take (N := N) hlt)
          rw [HF.out, HTE.out] at HTX
          have hsn := hid (show (ttx N (K.take k)).length = k by rw [ttx_len, List.length_take]; omega)
          obtain ⟨Lk, hLk⟩ : ∃ L, L = ttx N (K.take k) := ⟨_, rfl⟩
          rw [← hLk] at hS HTX hsn
          clear hLk
          have KF := hid (fun (U : World) (hb : Below wr.heap.size wr U) (hp : Pow10 U) => impl_FormatRat s (.slice a3 n3 c3) (.slice b3 m3 d3) A D U (R.old hb) hp)
          rw [← htx] at KF
          clear htx R hnm
          have a1' : (0 : Int) ≤ k := by omega
          have a2 : (k : Int) < K.length := by omega
          have a3' : (0 : Int) ≤ ci := by omega
          have a4 : (ci : Int) < N.length := by omega
          have LV := hid (LocA.new (w := wr) (T := 73) (cs := #[.int .i64 ci, .bool s, .slice a3 n3 c3, .slice b3 m3 d3]))
          have qn := ((below_new' (w := wr) (o := .cells #[.int .i64 ci, .bool s, .slice a3 n3 c3, .slice b3 m3 d3] 73)).cell (p := ⟨gN, ci, none⟩) hgr).trans ((hbel.cell (p := ⟨gN, ci, none⟩) hg).trans qn0)
          have HB1 := hid (hbel.alloc hz (.cells #[.int .i64 ci, .bool s, .slice a3 n3 c3, .slice b3 m3 d3] 73))
          have S1 := hid (Strs_old hS.out (below_new' (o := .cells #[.int .i64 ci, .bool s, .slice a3 n3 c3, .slice b3 m3 d3] 73)))
          have HPW := hid ((HP.out.old hbel).old (below_new' (o := .cells #[.int .i64 ci, .bool s, .slice a3 n3 c3, .slice b3 m3 d3] 73)))
          have HN := hid (below_new' (w := wr) (o := .cells #[.int .i64 ci, .bool s, .slice a3 n3 c3, .slice b3 m3 d3] 73))
          have z1 : (wr.alloc (.cells #[.int .i64 ci, .bool s, .slice a3 n3 c3, .slice b3 m3 d3] 73)).heap.size = wr.heap.size + 1 := by simp
          have S0' := hS
          clear hS qn0 hbel
          go_wp2_with fail
          have p0 := LV.out.c 0 (v := .int .i64 ci) rfl
          have p1 := LV.out.c 1 (v := .bool s) rfl
          have p2 := LV.out.c 2 (v := .slice a3 n3 c3) rfl
          have p3 := LV.out.c 3 (v := .slice b3 m3 d3) rfl
          clear qc q0 q1 q2 LV
          generalize wr.alloc (.cells #[.int .i64 ci, .bool s, .slice a3 n3 c3, .slice b3 m3 d3] 73) = W1 at p0 p1 p2 p3 qn HB1 S1 HPW HN z1 ⊢
          have f1 : tx.size ≤ 9223372036854775806 := by omega
          have f2 : (9223372036854775806 < tx.size) = False := eq_false (by omega)
          have f3 : (9223372036854775807 < tx.size + 1) = False := eq_false (by omega)
          have f4 : tx.size + 1 + nm.size ≤ 9223372036854775807 := by omega
          have f5 : (9223372036854775807 < tx.size + 1 + nm.size) = False := eq_false (by omega)
          go_region_held3 (fun w' => w'.cell? ⟨wr.heap.size, 0, none⟩ = some (.int .i64 ci) ∧ w'.cell? ⟨wr.heap.size, 1, none⟩ = some (.bool s) ∧ w'.cell? ⟨wr.heap.size, 2, none⟩ = some (.slice a3 n3 c3) ∧ w'.cell? ⟨wr.heap.size, 3, none⟩ = some (.slice b3 m3 d3) ∧ w'.cell? ⟨gN, ci, none⟩ = some (.string nm)) (first | with_reducible exact ⟨p0, p1, p2, p3, qn⟩ | exact ⟨p0, p1, p2, p3, qn⟩ | go_keep)
            (first
              | (go_at_call 35; (with_reducible refine (KF.out _ (HN.out.trans (Below_drew1 (Below.refl _ _))) (HPW.out.old (Below_drew1 (Below.refl _ _)))).mono ?_); rintro e w5 ⟨rfl, hb⟩
                 have hb5 : Below W1.heap.size W1 w5 := (Below_drew1 (Below.refl _ _)).trans hb
                 have hz5 := hb5.size
                 have p0 := (hb5.cell (p := ⟨wr.heap.size, 0, none⟩) (show wr.heap.size < W1.heap.size by omega)).trans p0
                 have p1 := (hb5.cell (p := ⟨wr.heap.size, 1, none⟩) (show wr.heap.size < W1.heap.size by omega)).trans p1
                 have p2 := (hb5.cell (p := ⟨wr.heap.size, 2, none⟩) (show wr.heap.size < W1.heap.size by omega)).trans p2
                 have p3 := (hb5.cell (p := ⟨wr.heap.size, 3, none⟩) (show wr.heap.size < W1.heap.size by omega)).trans p3
                 have qn := (hb5.cell (p := ⟨gN, ci, none⟩) (show gN < W1.heap.size by omega)).trans qn
                 have S2 := hid (Strs_old (Strs_old S1.out hb5) (below_new' (o := .cells #[.string ((tx ++ ByteArray.mk #[42]) ++ nm)] 9)))
                 have PB := hid (heap_alloc_new w5 (.cells #[.string ((tx ++ ByteArray.mk #[42]) ++ nm)] 9))
                 have HB2 := hid ((HB1.out.trans (hb5.mono (by omega))).alloc (by omega) (.cells #[.string ((tx ++ ByteArray.mk #[42]) ++ nm)] 9))
                 clear hb hb5)
              | ((refine step_pushS rfl _ _ rfl (by rfl) S2.out (by rfl) PB.out (by rw [hsn.out]; omega) (by have h1 := HB2.out.size; simpa using h1) (n := k + 1) (by rw [hsn.out]) ?_)
                 intro gp cp wp hvp hbp hcp
                 have HB3 := hid (HB2.out.trans hbp)
                 have HV3 := hid hvp
                 have hne : ∀ j, (j < w.heap.size ∨ wr.heap.size ≤ j) → some j ≠ (Value.slice a' k c').ownBlock := fun j hj e => by
                   have h2 := World.ownsRow.lt S0'.out j e.symm
                   omega
                 have p0 := keptS hcp (by omega) (hne _ (.inr (Nat.le_refl _))) p0
                 have p1 := keptS hcp (by omega) (hne _ (.inr (Nat.le_refl _))) p1
                 have p2 := keptS hcp (by omega) (hne _ (.inr (Nat.le_refl _))) p2
                 have p3 := keptS hcp (by omega) (hne _ (.inr (Nat.le_refl _))) p3
                 have qn := keptS hcp (by omega) (hne _ (.inl hg)) qn
                 clear hvp hbp hcp hne))
          clear p0 p1 p2 p3 qn
          rw [HTX.out] at HV3
          go_wp2
          go_roundw
          case rel => exact ⟨k + 1, some ⟨gp, 0, none⟩, cp, by omega, by go_num, rfl, HV3, HB3.out⟩
          case measure => simp [intOf]; omega
        · obtain rfl : k = K.length := by omega
          have HB := hid hbel
          have S1 := hS.out
          rw [List.take_of_length_le (Nat.le_refl _)] at S1
          obtain ⟨hn, hgx, hcx⟩ := Strs_sh S1
          rw [ttx_len] at hgx hcx
          obtain ⟨g, rfl, hgl⟩ := hgx hp0
          have hsum := ttx_sum HNS.out K
          have KJ := hid (impl_Join_w g c' (ttx N K) (ByteArray.mk #[32, 43, 32]) wr (fun i hi => Strs_cell S1 hi) hgl (by rw [ttx_len]; exact hcx) (by rw [ttx_len]; omega) (by omega) (by decide))
          rw [ttx_len, ← HT0.out] at KJ
          clear S1 hn hgx hcx hsum hgl hbel
          go_wp2_with fail
          (with_reducible refine (KJ.out).mono ?_)
          rintro e w2 ⟨rfl, hb⟩
          have HB2 := hid (HB.out.trans (hb.mono HB.out.size))
          clear hb
          go_wp2
          go_ret
          exact ⟨rfl, HB2.out⟩
set_option maxRecDepth 100000 in
set_option maxHeartbeats 6400000 in
theorem spec_FormatTerms {p : Bool} {a : Option Addr} {n c : Nat} {K : List Tq} {lo hi gN cN : Nat} {N : List ByteArray} (hK : SmT K) (hN : N.length ≤ 1048576) (hNs : ∀ x ∈ N, x.size ≤ 1048576) (w : World) (h : TK p w (.slice a n c) K lo hi) (hg : gN < w.heap.size) (hc : ∀ i (h : i < N.length), w.cell? ⟨gN, i, none⟩ = some (.string N[i])) :
    Calls Tryz.prog 27 #[.slice a n c, .slice (some ⟨gN, 0, none⟩) N.length cN] w (StrP (fmtT K N) w) := by
  have HV := hid h
  have HC := hid hc
  have HNS := hid hNs
  obtain rfl := h.num
  clear h hc hNs
  have hkl := hK.2
  have KO := hid (spec_TermsOk hK (N.length : Int) (by omega) (by omega) w HV.out)
  cases hok : tok K (N.length : Int) with
  | false =>
    have e : fmtT K N = ByteArray.mk #[] := by unfold fmtT; rw [if_neg (by rw [hok]; decide)]
    rw [e]
    rw [hok] at KO
    clear e hok
    go_enter Tryz.func27, Tryz.ntmps27
    go_wp2_with fail
    (with_reducible refine (KO.out).mono ?_)
    rintro e w2 ⟨rfl, hb⟩
    have HB := hid hb
    clear hb
    go_wp2
    go_ret
    exact ⟨rfl, HB.out⟩
  | true =>
    have h40 := tok_len hok
    have HOK := hid hok
    rw [hok] at KO
    clear hok
    obtain ⟨T0, hT0⟩ : ∃ T, T = fmtT K N := ⟨_, rfl⟩
    rw [← hT0]
    have HT0 := hid hT0
    clear hT0
    by_cases hx0 : True
    · clear hx0
      go_enter Tryz.func27, Tryz.ntmps27
      go_wp2_with fail
      (with_reducible refine (KO.out).mono ?_)
      rintro e w1 ⟨rfl, hb⟩
      have S0 := hid (Strs_made (w := w1) (B := w1.heap.size) rfl)
      have HB1 := hid (hb.alloc hb.size (.cells #[] 9))
      have hz1 := hb.size
      clear hb
      go_wp2
      generalize w1.alloc (.cells #[] 9) = W1 at S0 HB1 ⊢
      go_loopw [5, 16] (fun v i wr => ∃ (k : Nat) (a' : Option Addr) (c' : Nat), k ≤ K.length ∧ i = .int .i64 k ∧ v = .slice a' k c' ∧ Hid (Strs wr 9 w.heap.size (.slice a' k c') (ttx N (K.take k))) ∧ Below w.heap.size w wr) (fun _ i _ => K.length - (intOf i).toNat)
      case atStart => exact ⟨0, _, 0, Nat.zero_le _, rfl, rfl, hid (Strs_base S0.out hz1), HB1.out⟩
      case round =>
        obtain ⟨k, a', c', hk, rfl, rfl, hS, hbel⟩ := hrel
        by_cases hlt : k < K.length
        · have V := hid (HV.out.old hbel)
          obtain ⟨g, a3, n3, c3, b3, m3, d3, rfl, hg1, qc, q0, q1, q2, R⟩ := V.out.at hK hlt
          have hcol := tok_at HOK.out hlt
          obtain ⟨⟨x1, s, A, D⟩, hf⟩ : ∃ f, K[k]'(hlt) = f := ⟨_, rfl⟩
          simp only [hf] at qc q0 q1 q2 R hcol
          obtain ⟨ci, rfl⟩ : ∃ ci : Nat, x1 = (ci : Int) := ⟨x1.toNat, by omega⟩
          have hci : ci < N.length := by omega
          have HF := hid hf
          clear hf hcol
          have hz := hbel.size
          have qn0 := HC.out ci hci
          obtain ⟨nm, hnm⟩ : ∃ x, N[ci]'(hci) = x := ⟨_, rfl⟩
          rw [hnm] at qn0
          have hgr : gN < wr.heap.size := by omega
          have hnz : nm.size ≤ 1048576 := by rw [← hnm]; exact HNS.out _ (List.getElem_mem hci)
          have hfz : (fmtR s A D).size ≤ 2602 := fmtR_size
          obtain ⟨tx, htx⟩ : ∃ tx, tx = fmtR s A D := ⟨_, rfl⟩
          rw [← htx] at hfz
          have HTE := hid (show Tq.x N ⟨(ci : Int), s, A, D⟩ = (tx ++ ByteArray.mk #[42]) ++ nm by
            unfold Tq.x
            show (fmtR s A D ++ ByteArray.mk #[42]) ++ N.getD ((ci : Int).toNat) (ByteArray.mk #[]) = _
            rw [Int.toNat_natCast, List.getD_eq_getElem?_getD, List.getElem?_eq_getElem hci, hnm, ← htx]
            rfl)
          have HTX := hid (ttx_take (N := N) hlt)
          rw [HF.out, HTE.out] at HTX
          have hsn := hid (show (ttx N (K.take k)).length = k by rw [ttx_len, List.length_take]; omega)
          obtain ⟨Lk, hLk⟩ : ∃ L, L = ttx N (K.take k) := ⟨_, rfl⟩
          rw [← hLk] at hS HTX hsn
          clear hLk
          have KF := hid (fun (U : World) (hb : Below wr.heap.size wr U) => spec_FormatRat s (.slice a3 n3 c3) (.slice b3 m3 d3) A D U (R.old hb))
          rw [← htx] at KF
          clear htx R hnm
          have a1' : (0 : Int) ≤ k := by omega
          have a2 : (k : Int) < K.length := by omega
          have a3' : (0 : Int) ≤ ci := by omega
          have a4 : (ci : Int) < N.length := by omega
          have LV := hid (LocA.new (w := wr) (T := 73) (cs := #[.int .i64 ci, .bool s, .slice a3 n3 c3, .slice b3 m3 d3]))
          have qn := ((below_new' (w := wr) (o := .cells #[.int .i64 ci, .bool s, .slice a3 n3 c3, .slice b3 m3 d3] 73)).cell (p := ⟨gN, ci, none⟩) hgr).trans ((hbel.cell (p := ⟨gN, ci, none⟩) hg).trans qn0)
          have HB1 := hid (hbel.alloc hz (.cells #[.int .i64 ci, .bool s, .slice a3 n3 c3, .slice b3 m3 d3] 73))
          have S1 := hid (Strs_old hS.out (below_new' (o := .cells #[.int .i64 ci, .bool s, .slice a3 n3 c3, .slice b3 m3 d3] 73)))
          have HN := hid (below_new' (w := wr) (o := .cells #[.int .i64 ci, .bool s, .slice a3 n3 c3, .slice b3 m3 d3] 73))
          have z1 : (wr.alloc (.cells #[.int .i64 ci, .bool s, .slice a3 n3 c3, .slice b3 m3 d3] 73)).heap.size = wr.heap.size + 1 := by simp
          have S0' := hS
          clear hS qn0 hbel
          go_wp2_with fail
          have p0 := LV.out.c 0 (v := .int .i64 ci) rfl
          have p1 := LV.out.c 1 (v := .bool s) rfl
          have p2 := LV.out.c 2 (v := .slice a3 n3 c3) rfl
          have p3 := LV.out.c 3 (v := .slice b3 m3 d3) rfl
          clear qc q0 q1 q2 LV
          generalize wr.alloc (.cells #[.int .i64 ci, .bool s, .slice a3 n3 c3, .slice b3 m3 d3] 73) = W1 at p0 p1 p2 p3 qn HB1 S1 HN z1 ⊢
          have f1 : tx.size ≤ 9223372036854775806 := by omega
          have f2 : (9223372036854775806 < tx.size) = False := eq_false (by omega)
          have f3 : (9223372036854775807 < tx.size + 1) = False := eq_false (by omega)
          have f4 : tx.size + 1 + nm.size ≤ 9223372036854775807 := by omega
          have f5 : (9223372036854775807 < tx.size + 1 + nm.size) = False := eq_false (by omega)
          go_region_held3 (fun w' => w'.cell? ⟨wr.heap.size, 0, none⟩ = some (.int .i64 ci) ∧ w'.cell? ⟨wr.heap.size, 1, none⟩ = some (.bool s) ∧ w'.cell? ⟨wr.heap.size, 2, none⟩ = some (.slice a3 n3 c3) ∧ w'.cell? ⟨wr.heap.size, 3, none⟩ = some (.slice b3 m3 d3) ∧ w'.cell? ⟨gN, ci, none⟩ = some (.string nm)) (first | with_reducible exact ⟨p0, p1, p2, p3, qn⟩ | exact ⟨p0, p1, p2, p3, qn⟩ | go_keep)
            (first
              | (go_at_call 29; (with_reducible refine (KF.out _ (HN.out.trans (Below_drew1 (Below.refl _ _)))).mono ?_); rintro e w5 ⟨rfl, hb⟩
                 have hb5 : Below W1.heap.size W1 w5 := (Below_drew1 (Below.refl _ _)).trans hb
                 have hz5 := hb5.size
                 have p0 := (hb5.cell (p := ⟨wr.heap.size, 0, none⟩) (show wr.heap.size < W1.heap.size by omega)).trans p0
                 have p1 := (hb5.cell (p := ⟨wr.heap.size, 1, none⟩) (show wr.heap.size < W1.heap.size by omega)).trans p1
                 have p2 := (hb5.cell (p := ⟨wr.heap.size, 2, none⟩) (show wr.heap.size < W1.heap.size by omega)).trans p2
                 have p3 := (hb5.cell (p := ⟨wr.heap.size, 3, none⟩) (show wr.heap.size < W1.heap.size by omega)).trans p3
                 have qn := (hb5.cell (p := ⟨gN, ci, none⟩) (show gN < W1.heap.size by omega)).trans qn
                 have S2 := hid (Strs_old (Strs_old S1.out hb5) (below_new' (o := .cells #[.string ((tx ++ ByteArray.mk #[42]) ++ nm)] 9)))
                 have PB := hid (heap_alloc_new w5 (.cells #[.string ((tx ++ ByteArray.mk #[42]) ++ nm)] 9))
                 have HB2 := hid ((HB1.out.trans (hb5.mono (by omega))).alloc (by omega) (.cells #[.string ((tx ++ ByteArray.mk #[42]) ++ nm)] 9))
                 clear hb hb5)
              | ((refine step_pushS rfl _ _ rfl (by rfl) S2.out (by rfl) PB.out (by rw [hsn.out]; omega) (by have h1 := HB2.out.size; simpa using h1) (n := k + 1) (by rw [hsn.out]) ?_)
                 intro gp cp wp hvp hbp hcp
                 have HB3 := hid (HB2.out.trans hbp)
                 have HV3 := hid hvp
                 have hne : ∀ j, (j < w.heap.size ∨ wr.heap.size ≤ j) → some j ≠ (Value.slice a' k c').ownBlock := fun j hj e => by
                   have h2 := World.ownsRow.lt S0'.out j e.symm
                   omega
                 have p0 := keptS hcp (by omega) (hne _ (.inr (Nat.le_refl _))) p0
                 have p1 := keptS hcp (by omega) (hne _ (.inr (Nat.le_refl _))) p1
                 have p2 := keptS hcp (by omega) (hne _ (.inr (Nat.le_refl _))) p2
                 have p3 := keptS hcp (by omega) (hne _ (.inr (Nat.le_refl _))) p3
                 have qn := keptS hcp (by omega) (hne _ (.inl hg)) qn
                 clear hvp hbp hcp hne))
          clear p0 p1 p2 p3 qn
          rw [HTX.out] at HV3
          go_wp2
          go_roundw
          case rel => exact ⟨k + 1, some ⟨gp, 0, none⟩, cp, by omega, by go_num, rfl, HV3, HB3.out⟩
          case measure => simp [intOf]; omega
        · obtain rfl : k = K.length := by omega
          have HB := hid hbel
          have S1 := hS.out
          rw [List.take_of_length_le (Nat.le_refl _)] at S1
          by_cases h0 : K.length = 0
          · have e : fmtT K N = ByteArray.mk #[48] := by unfold fmtT; rw [if_pos HOK.out, if_pos h0]
            have HE := hid (HT0.out.trans e)
            clear e S1 hbel hS HT0
            rw [h0]
            go_wp2
            go_ret
            exact ⟨by rw [HE.out]; rfl, HB.out⟩
          · have e : fmtT K N = joinK (ttx N K) (ByteArray.mk #[32, 43, 32]) K.length := by unfold fmtT; rw [if_pos HOK.out, if_neg h0]
            have HE := hid (HT0.out.trans e)
            have e0 : ((K.length : Int) == 0) = false := beq_eq_false_iff_ne.2 (by omega)
            have hp0 : 0 < K.length := by omega
            obtain ⟨hn, hgx, hcx⟩ := Strs_sh S1
            rw [ttx_len] at hgx hcx
            obtain ⟨g, rfl, hgl⟩ := hgx hp0
            have hsum := ttx_sum HNS.out K
            have KJ := hid (spec_Join_w g c' (ttx N K) (ByteArray.mk #[32, 43, 32]) wr (fun i hi => Strs_cell S1 hi) (by rw [ttx_len]; omega) (by omega) (by decide))
            rw [ttx_len, ← HE.out] at KJ
            clear S1 hn hgx hcx hsum hgl hbel e h0
            go_wp2_with fail
            (with_reducible refine (KJ.out).mono ?_)
            rintro e w2 ⟨rfl, hb⟩
            have HB2 := hid HB.out
            go_wp2
            go_ret
            exact ⟨rfl, by first | exact HB2.out | (rw [← hb]; exact HB2.out)⟩
    · exact absurd trivial hx0
end Go.Proofs.YthkehmnodcmlcaaGreatDoor
