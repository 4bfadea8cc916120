/- The text of a vector (the program and the reference). -/
import Derived.Test.YtmghoedjcokhpaaGreatDoorVf
import Derived.Test.YtmghoedjcokhpaaGreatDoorDcq
import Derived.Test.YtmghoedjcokhpaaGreatDoorDtx
import Derived.Test.YtmghoedjcokhpaaGreatDoorFnb
import Derived.Deep.RegionHeld3
import Derived.Deep.DeepCutAuto
namespace Go.Proofs.YtmghoedjcokhpaaGreatDoor
open Go.RowKit
open Go.Lib (hid)
set_option linter.unusedVariables false

theorem fmtR_size {s : Bool} {A D : List Int} : (fmtR s A D).size ≤ 2602 := by
  unfold fmtR
  split
  · split
    · have := fmtB_size (s := s) (A := A); omega
    · rw [ByteArray.size_append, ByteArray.size_append]
      have h1 := fmtB_size (s := s) (A := A)
      have h2 := formatL_size (L := D)
      show _ + 1 + _ ≤ _
      omega
  · show 0 ≤ 2602; omega
def Fq.t (f : Fq) : ByteArray := fmtR f.s f.A f.D
def txs (K : List Fq) : List ByteArray := K.map Fq.t
theorem txs_len (K : List Fq) : (txs K).length = K.length := by simp [txs]
theorem txs_sum : ∀ K : List Fq, sumSz (txs K) ≤ K.length * 2602
  | [] => by simp [txs, sumSz]
  | f :: K => by
    have h1 := txs_sum K
    have h2 : (Fq.t f).size ≤ 2602 := fmtR_size
    simp only [txs, List.map_cons, sumSz, List.length_cons] at h1 ⊢
    omega
theorem txs_take {K : List Fq} {k : Nat} (h : k < K.length) : txs (K.take k) ++ [K[k].t] = txs (K.take (k + 1)) := by
  unfold txs
  rw [List.take_succ_eq_append_getElem h, List.map_append]; rfl
/-- The text of a vector (the empty text stands for a list that is none). -/
def fmtV (K : List Fq) : ByteArray := if oks (vals K) = true then (if K.length = 0 then ByteArray.mk #[45] else joinK (txs K) (ByteArray.mk #[32]) K.length) else ByteArray.mk #[]
theorem Strs_old {w w' : World} {E B : Nat} {v : Value} {L : List ByteArray} (h : Strs w E B v L) (hb : Below w.heap.size w w') : Strs w' E B v L := Strs_below h hb fun k hk => (World.ownsRow.lt h k hk).2
theorem Strs_sh {w : World} {E B n c : Nat} {a : Option Addr} {L : List ByteArray} (h : Strs w E B (.slice a n c) L) : n = L.length ∧ (0 < L.length → ∃ g, a = some ⟨g, 0, none⟩ ∧ g < w.heap.size) ∧ L.length ≤ c := by
  rcases h.2 with ⟨h1, h2⟩ | ⟨g, cap, cur, h1, h2, h3, h4, -⟩
  · simp only [Value.slice.injEq] at h1
    exact ⟨by omega, fun h0 => by omega, by omega⟩
  · simp only [Value.slice.injEq] at h1
    exact ⟨h1.2.1, fun _ => ⟨g, h1.1, (Array.getElem?_eq_some_iff.1 h3).1⟩, by rw [h1.2.2]; exact h4⟩
set_option maxRecDepth 100000 in
set_option maxHeartbeats 6400000 in
theorem impl_FormatVec {p : Bool} {a : Option Addr} {n c : Nat} {K : List Fq} {lo hi : Nat} (hK : Sm K) (w : World) (h : VK p w (.slice a n c) K lo hi) (hp : Pow10 w) :
    Calls Tryz.prog 9 #[.slice a n c] w (StrP (fmtV K) w) := by
  have HV := hid h
  obtain rfl := h.num
  clear h
  have hkl := hK.2
  have HP := hid hp
  clear hp
  have KO := hid (impl_VecOk hK w HV.out)
  obtain ⟨i9, hi, hz0, hz1, hz2⟩ := info_parts Tryz.info9
  have HI := hid hi
  have HZ0 := hid hz0
  have HZ1 := hid hz1
  have HZ2 := hid hz2
  clear hi hz0 hz1 hz2
  cases hok : oks (vals K) with
  | false =>
    have e : fmtV K = ByteArray.mk #[] := by unfold fmtV; rw [if_neg (by rw [hok]; decide)]
    rw [e]
    rw [hok] at KO
    clear e hok
    go_enter Tryz.func9, Tryz.ntmps9
    go_wp2_with fail
    (with_reducible refine (KO.out).mono ?_)
    rintro e w2 ⟨rfl, hb⟩
    have HB := hid hb
    clear hb
    go_wp2
    go_ret
    exact ⟨rfl, HB.out⟩
  | true =>
    have h40 : K.length ≤ 40 := by
      simp only [oks, Bool.and_eq_true, decide_eq_true_eq] at hok
      have := hok.1
      rwa [vals_len] at this
    rw [hok] at KO
    by_cases h0 : K.length = 0
    · have e : fmtV K = ByteArray.mk #[45] := by unfold fmtV; rw [if_pos hok, if_pos h0]
      rw [e]
      rw [h0] at KO ⊢
      clear e hok h0
      go_enter Tryz.func9, Tryz.ntmps9
      go_wp2_with fail
      (with_reducible refine (KO.out).mono ?_)
      rintro e w2 ⟨rfl, hb⟩
      have HB := hid hb
      clear hb
      go_wp2
      go_ret
      exact ⟨rfl, HB.out⟩
    · have e : fmtV K = joinK (txs K) (ByteArray.mk #[32]) K.length := by unfold fmtV; rw [if_pos hok, if_neg h0]
      obtain ⟨T0, hT0⟩ : ∃ T, T = fmtV K := ⟨_, rfl⟩
      rw [← hT0]
      have HT0 := hid (hT0.trans e)
      have e0 : ((K.length : Int) == 0) = false := beq_eq_false_iff_ne.2 (by omega)
      have hp0 : 0 < K.length := by omega
      clear e hok hT0 h0
      go_enter Tryz.func9, Tryz.ntmps9
      go_wp2_with fail
      (with_reducible refine (KO.out).mono ?_)
      rintro e w1 ⟨rfl, hb⟩
      have HB1 := hid hb
      clear hb
      go_wp2
      go_loopw [3, 14] (fun v i wr => ∃ (k : Nat) (a' : Option Addr) (c' : Nat), k ≤ K.length ∧ i = .int .i64 k ∧ v = .slice a' k c' ∧ Hid (Strs wr 9 w.heap.size (.slice a' k c') (txs (K.take k))) ∧ Below w.heap.size w wr) (fun _ i _ => K.length - (intOf i).toNat)
      case atStart => exact ⟨0, _, 0, Nat.zero_le _, rfl, rfl, hid (Strs_nil _ _ _), HB1.out⟩
      case round =>
        obtain ⟨k, a', c', hk, rfl, rfl, hS, hbel⟩ := hrel
        by_cases hlt : k < K.length
        · have V := hid (HV.out.old hbel)
          obtain ⟨g, a3, n3, c3, b3, m3, d3, rfl, hg, q0, q1, q2, R⟩ := V.out.at hK hlt
          obtain ⟨⟨s, A, D⟩, hf⟩ : ∃ f, K[k]'(hlt) = f := ⟨_, rfl⟩
          simp only [hf] at q0 R
          have HF := hid hf
          clear hf
          have HB := hid (hbel.alloc hbel.size (.cells #[.bool s, .slice a3 n3 c3, .slice b3 m3 d3] 40))
          have hz := hbel.size
          have HTX := hid (txs_take hlt)
          rw [HF.out] at HTX
          have KF := hid (fun (W : World) (hb : Below wr.heap.size wr W) (hp : Pow10 W) => impl_FormatRat s (.slice a3 n3 c3) (.slice b3 m3 d3) A D W (R.old hb) hp)
          have hsn := hid (show (txs (K.take k)).length = k by rw [txs_len, List.length_take]; omega)
          have S1 := hid (Strs_old hS.out (below_new' (o := .cells #[.bool s, .slice a3 n3 c3, .slice b3 m3 d3] 40)))
          have HPW := hid ((HP.out.old hbel).old (below_new' (o := .cells #[.bool s, .slice a3 n3 c3, .slice b3 m3 d3] 40)))
          have a1' : (0 : Int) ≤ k := by omega
          have a2 : (k : Int) < K.length := by omega
          obtain ⟨tx, htx⟩ : ∃ tx, tx = fmtR s A D := ⟨_, rfl⟩
          have HTE := hid (show Fq.t ⟨s, A, D⟩ = tx from htx.symm)
          rw [← htx] at KF
          rw [HTE.out] at HTX
          clear hbel R htx
          go_wp2_with fail
          (with_reducible refine (KF.out _ below_new' HPW.out).mono ?_)
          rintro e w2 ⟨rfl, hb⟩
          have HB2 := hid (HB.out.trans (hb.mono HB.out.size))
          have S2 := hid (Strs_old S1.out hb)
          clear hb q0 q1 q2
          obtain ⟨Lk, hLk⟩ : ∃ L, L = txs (K.take k) := ⟨_, rfl⟩
          rw [← hLk] at S2 HTX hsn
          have HLk := hid hLk
          clear hLk
          go_wp2_with (at_builtin; refine wpList_append_own _ rfl _ _ 66 rfl w.heap.size 9 i9 (.string ByteArray.empty) 1 16 Tryz.underlying66 HI.out HZ0.out HZ1.out HZ2.out rfl (by decide) _ _ _ rfl (World.ownsRow.alloc (show w2.ownsRow w.heap.size 9 1 (.slice a' k c') Lk.length (Lk.map Value.string) from S2.out) _) ⟨w2.heap.size, 0, none⟩ 1 1 [.string tx] rfl rfl ?c1 ?c2 ?c3 ?c4 ?c5 ?_)
          case c1 => exact cell_one_new _ _ _
          case c2 => intro u hu; simp at hu; subst hu; rfl
          case c3 => rw [hsn.out]; unfold maxLen; omega
          case c4 => rw [hsn.out]; omega
          case c5 => have := HB2.out.size; simp; omega
          intro v' w3 hown' hgrow _
          have R3 := Strs_app (x := tx) S2.out HB2.out HB2.out.size hown' hgrow
          have HB3 := hid R3.2
          have S3 := hid R3.1
          rw [HTX.out] at S3
          obtain ⟨a6, n6, c6, rfl⟩ : ∃ a n c, v' = .slice a n c := by
            rcases hown'.2 with ⟨h1, -⟩ | ⟨g, cap, cur, h1, -⟩
            · exact ⟨_, _, _, h1⟩
            · exact ⟨_, _, _, h1⟩
          have hn6 := (Strs_sh S3.out).1
          have hn7 : n6 = k + 1 := by rw [hn6, txs_len, List.length_take]; omega
          subst hn7
          clear R3 hown' hgrow hn6
          go_wp2
          go_roundw
          case rel => exact ⟨k + 1, a6, c6, by omega, by go_num, rfl, S3, HB3.out⟩
          case measure => simp [intOf]; omega
        · obtain rfl : k = K.length := by omega
          have HB := hid hbel
          have S1 := hS.out
          rw [List.take_of_length_le (Nat.le_refl _)] at S1
          obtain ⟨hn, hg, hc⟩ := Strs_sh S1
          rw [txs_len] at hg hc
          obtain ⟨g, rfl, hgl⟩ := hg hp0
          have hsum := txs_sum K
          have KJ := hid (impl_Join g c' (txs K) (ByteArray.mk #[32]) wr (fun i hi => Strs_cell S1 hi) hgl (by rw [txs_len]; exact hc) (by rw [txs_len]; omega) (by omega) (by decide))
          rw [txs_len, ← HT0.out] at KJ
          clear S1 hn hg hc hsum hgl hbel
          go_wp2_with fail
          (with_reducible refine (KJ.out).mono ?_)
          rintro e w2 ⟨rfl, hb⟩
          have HB2 := hid (HB.out.trans (hb.mono HB.out.size))
          clear hb
          go_wp2
          go_ret
          exact ⟨rfl, HB2.out⟩
set_option maxRecDepth 100000 in
set_option maxHeartbeats 6400000 in
theorem spec_FormatVec {p : Bool} {a : Option Addr} {n c : Nat} {K : List Fq} {lo hi : Nat} (hK : Sm K) (w : World) (h : VK p w (.slice a n c) K lo hi) :
    Calls Tryz.prog 7 #[.slice a n c] w (StrP (fmtV K) w) := by
  have HV := hid h
  obtain rfl := h.num
  clear h
  have hkl := hK.2
  have KO := hid (spec_VecOk hK w HV.out)
  obtain ⟨i9, hi, hz0, hz1, hz2⟩ := info_parts Tryz.info9
  have HI := hid hi
  have HZ0 := hid hz0
  have HZ1 := hid hz1
  have HZ2 := hid hz2
  clear hi hz0 hz1 hz2
  cases hok : oks (vals K) with
  | false =>
    have e : fmtV K = ByteArray.mk #[] := by unfold fmtV; rw [if_neg (by rw [hok]; decide)]
    rw [e]
    rw [hok] at KO
    clear e hok
    go_enter Tryz.func7, Tryz.ntmps7
    go_wp2_with fail
    (with_reducible refine (KO.out).mono ?_)
    rintro e w2 ⟨rfl, hb⟩
    have HB := hid hb
    clear hb
    go_wp2
    go_ret
    exact ⟨rfl, HB.out⟩
  | true =>
    have h40 : K.length ≤ 40 := by
      simp only [oks, Bool.and_eq_true, decide_eq_true_eq] at hok
      have := hok.1
      rwa [vals_len] at this
    rw [hok] at KO
    by_cases h0 : K.length = 0
    · have e : fmtV K = ByteArray.mk #[45] := by unfold fmtV; rw [if_pos hok, if_pos h0]
      rw [e]
      rw [h0] at KO ⊢
      clear e hok h0
      go_enter Tryz.func7, Tryz.ntmps7
      go_wp2_with fail
      (with_reducible refine (KO.out).mono ?_)
      rintro e w2 ⟨rfl, hb⟩
      have HB := hid hb
      clear hb
      go_wp2
      go_ret
      exact ⟨rfl, HB.out⟩
    · have e : fmtV K = joinK (txs K) (ByteArray.mk #[32]) K.length := by unfold fmtV; rw [if_pos hok, if_neg h0]
      obtain ⟨T0, hT0⟩ : ∃ T, T = fmtV K := ⟨_, rfl⟩
      rw [← hT0]
      have HT0 := hid (hT0.trans e)
      have e0 : ((K.length : Int) == 0) = false := beq_eq_false_iff_ne.2 (by omega)
      have hp0 : 0 < K.length := by omega
      clear e hok hT0 h0
      go_enter Tryz.func7, Tryz.ntmps7
      go_wp2_with fail
      (with_reducible refine (KO.out).mono ?_)
      rintro e w1 ⟨rfl, hb⟩
      have S0 := hid (Strs_made (w := w1) (B := w1.heap.size) rfl)
      have HB1 := hid (hb.alloc hb.size (.cells #[] 9))
      have hz1 := hb.size
      clear hb
      go_wp2
      generalize w1.alloc (.cells #[] 9) = W1 at S0 HB1 ⊢
      go_loopw [3, 15] (fun v i wr => ∃ (k : Nat) (a' : Option Addr) (c' : Nat), k ≤ K.length ∧ i = .int .i64 k ∧ v = .slice a' k c' ∧ Hid (Strs wr 9 w.heap.size (.slice a' k c') (txs (K.take k))) ∧ Below w.heap.size w wr) (fun _ i _ => K.length - (intOf i).toNat)
      case atStart => exact ⟨0, _, 0, Nat.zero_le _, rfl, rfl, hid (Strs_base S0.out hz1), HB1.out⟩
      case round =>
        obtain ⟨k, a', c', hk, rfl, rfl, hS, hbel⟩ := hrel
        by_cases hlt : k < K.length
        · have V := hid (HV.out.old hbel)
          obtain ⟨g, a3, n3, c3, b3, m3, d3, rfl, hg, q0, q1, q2, R⟩ := V.out.at hK hlt
          obtain ⟨⟨s, A, D⟩, hf⟩ : ∃ f, K[k]'(hlt) = f := ⟨_, rfl⟩
          simp only [hf] at q0 R
          have HF := hid hf
          clear hf
          have HB := hid (hbel.alloc hbel.size (.cells #[.bool s, .slice a3 n3 c3, .slice b3 m3 d3] 40))
          have hz := hbel.size
          have HTX := hid (txs_take hlt)
          rw [HF.out] at HTX
          have KF := hid (fun (W : World) (hb : Below wr.heap.size wr W) => spec_FormatRat s (.slice a3 n3 c3) (.slice b3 m3 d3) A D W (R.old hb))
          have hsn := hid (show (txs (K.take k)).length = k by rw [txs_len, List.length_take]; omega)
          have S1 := hid (Strs_old hS.out (below_new' (o := .cells #[.bool s, .slice a3 n3 c3, .slice b3 m3 d3] 40)))
          have a1' : (0 : Int) ≤ k := by omega
          have a2 : (k : Int) < K.length := by omega
          obtain ⟨tx, htx⟩ : ∃ tx, tx = fmtR s A D := ⟨_, rfl⟩
          have HTE := hid (show Fq.t ⟨s, A, D⟩ = tx from htx.symm)
          rw [← htx] at KF
          rw [HTE.out] at HTX
          clear hbel R htx
          go_wp2_with fail
          (with_reducible refine (KF.out _ below_new').mono ?_)
          rintro e w2 ⟨rfl, hb⟩
          have HB2 := hid (HB.out.trans (hb.mono HB.out.size))
          have S2 := hid (Strs_old S1.out hb)
          clear hb q0 q1 q2
          obtain ⟨Lk, hLk⟩ : ∃ L, L = txs (K.take k) := ⟨_, rfl⟩
          rw [← hLk] at S2 HTX hsn
          have HLk := hid hLk
          clear hLk
          go_wp2_with (at_builtin; refine wpList_append_own _ rfl _ _ 66 rfl w.heap.size 9 i9 (.string ByteArray.empty) 1 16 Tryz.underlying66 HI.out HZ0.out HZ1.out HZ2.out rfl (by decide) _ _ _ rfl (World.ownsRow.alloc (show w2.ownsRow w.heap.size 9 1 (.slice a' k c') Lk.length (Lk.map Value.string) from S2.out) _) ⟨w2.heap.size, 0, none⟩ 1 1 [.string tx] rfl rfl ?c1 ?c2 ?c3 ?c4 ?c5 ?_)
          case c1 => exact cell_one_new _ _ _
          case c2 => intro u hu; simp at hu; subst hu; rfl
          case c3 => rw [hsn.out]; unfold maxLen; omega
          case c4 => rw [hsn.out]; omega
          case c5 => have := HB2.out.size; simp; omega
          intro v' w3 hown' hgrow _
          have R3 := Strs_app (x := tx) S2.out HB2.out HB2.out.size hown' hgrow
          have HB3 := hid R3.2
          have S3 := hid R3.1
          rw [HTX.out] at S3
          obtain ⟨a6, n6, c6, rfl⟩ : ∃ a n c, v' = .slice a n c := by
            rcases hown'.2 with ⟨h1, -⟩ | ⟨g, cap, cur, h1, -⟩
            · exact ⟨_, _, _, h1⟩
            · exact ⟨_, _, _, h1⟩
          have hn6 := (Strs_sh S3.out).1
          have hn7 : n6 = k + 1 := by rw [hn6, txs_len, List.length_take]; omega
          subst hn7
          clear R3 hown' hgrow hn6
          go_wp2
          go_roundw
          case rel => exact ⟨k + 1, a6, c6, by omega, by go_num, rfl, S3, HB3.out⟩
          case measure => simp [intOf]; omega
        · obtain rfl : k = K.length := by omega
          have HB := hid hbel
          have S1 := hS.out
          rw [List.take_of_length_le (Nat.le_refl _)] at S1
          obtain ⟨hn, hg, hc⟩ := Strs_sh S1
          rw [txs_len] at hg hc
          obtain ⟨g, rfl, hgl⟩ := hg hp0
          have hsum := txs_sum K
          have KJ := hid (spec_Join g c' (txs K) (ByteArray.mk #[32]) wr (fun i hi => Strs_cell S1 hi) (by rw [txs_len]; omega) (by omega) (by decide))
          rw [txs_len, ← HT0.out] at KJ
          clear S1 hn hg hc hsum hgl hbel
          go_wp2_with fail
          (with_reducible refine (KJ.out).mono ?_)
          rintro e w2 ⟨rfl, hb⟩
          have HB2 := hid HB.out
          go_wp2
          go_ret
          exact ⟨rfl, by first | exact HB2.out | (rw [← hb]; exact HB2.out)⟩
end Go.Proofs.YtmghoedjcokhpaaGreatDoor
