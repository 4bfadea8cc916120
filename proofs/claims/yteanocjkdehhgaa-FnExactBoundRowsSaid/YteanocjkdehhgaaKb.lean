/- The laws' helpers on slices of rows' structs: sizes, copies, equality. -/
import Derived.Test.YteanocjkdehhgaaKa
import Derived.Deep.RegionHeld3
namespace Go.Proofs.Yteanocjkdehhgaa
open Go.RowKit
open Go.Lib (hid)
set_option linter.unusedVariables false

set_option maxRecDepth 100000 in
set_option maxHeartbeats 6400000 in
theorem szRowS_yes (a0 : Option Addr) (n0 c0 h : Nat) (L : List Wq) (z0 : Int) (h0 : (tot Wq.m L : Int) ≤ z0) (h1 : z0 ≤ 1048576) (w : World) (hc : RCame w h a0 n0 L) :
    Calls Try.prog 47 #[.slice a0 n0 c0, .int .i64 z0] w (RetB (.int .i64 (z0 - (tot Wq.m L : Int))) w) := by
  have HC := hid hc
  obtain rfl := hc.1
  clear hc
  have hl := tot_len Wq.m1 L
  go_enter Try.func47, Try.ntmps47
  go_wp2
  go_loopw [1, 5] (fun x i wr => ∃ (k : Nat) (y : Int), k ≤ L.length ∧ i = .int .i64 k ∧ x = .int .i64 y ∧ Hid (y = z0 - (L.length : Int) - ((tot Wq.m (L.take k) : Int) - (k : Int))) ∧ Below w.heap.size w wr) (fun _ i _ => L.length - (intOf i).toNat)
  case atStart => exact ⟨0, z0 - (L.length : Int), Nat.zero_le _, rfl, rfl, hid (by simp [tot]), Below.refl _ _⟩
  case round =>
    obtain ⟨k, y, hk, rfl, rfl, hy, hbel⟩ := hrel
    by_cases hlt : k < L.length
    · obtain ⟨g, o, rfl, -, hg, hce⟩ := HC.out.2 (by omega)
      have hE := (hce k hlt).old hbel hg
      have hs := tot_take Wq.m hlt
      have hle := tot_more Wq.m1 hlt
      clear hce
      generalize L[k] = f at hE hs hle
      obtain ⟨K, x, s, A, D⟩ := f
      obtain ⟨a1, c1, b1, d1, e1, k1, q0, q1, q2, q3, q4, hcr⟩ := hE.ex
      simp only [Wq.m] at hs hle q0 q1 q2 q3 q4
      have HS := hid hs
      have hy1 : y ≤ 1048576 := by have := hy.out; have := tot_len Wq.m1 (L.take k); rw [List.length_take] at this; omega
      have hy2 : (szU K : Int) + (A.length : Int) + (D.length : Int) ≤ y := by have := hy.out; omega
      have HCR := hid hcr
      have HB := hid hbel
      have KS := hid (fun (W : World) (hb : Below wr.heap.size wr W) => szRow_yes a1 K.length c1 x s b1 A.length d1 e1 D.length k1 h K y hy2 hy1 W (hcr.t.old hb))
      have hy3 : ¬ y - (szU K : Int) - A.length - D.length < 0 := by omega
      have a1' : (0 : Int) ≤ k := by omega
      have a2' : (k : Int) < L.length := by omega
      clear hs hE hbel hcr
      go_wp2_with fail
      (with_reducible refine (KS.out _ (Below.refl _ _)).mono ?_)
      rintro e w1 ⟨rfl, b1⟩
      have HB := hid (HB.out.trans (b1.mono HB.out.size))
      clear b1 q0 q1 q2 q3 q4
      go_wp2
      go_roundw
      case rel => exact ⟨k + 1, y - (szU K : Int) - A.length - D.length, by omega, by go_num, rfl, hid (by have := hy.out; have := HS.out; omega), HB.out⟩
      case measure => simp [intOf]; omega
    · obtain rfl : k = L.length := by omega
      have HY := hid hbel
      clear hbel
      go_wp2
      go_ret
      exact ⟨ret_in (by have := hy.out; rw [List.take_length] at this; omega), HY.out⟩
set_option maxRecDepth 100000 in
set_option maxHeartbeats 6400000 in
theorem szRowS_no (a0 : Option Addr) (n0 c0 h : Nat) (L : List Wq) (z0 : Int) (hn : n0 ≤ maxLen) (hK : ∀ f ∈ L, f.K.length ≤ maxLen ∧ (∀ g ∈ f.K, g.A.length ≤ maxLen ∧ g.D.length ≤ maxLen) ∧ f.A.length ≤ maxLen ∧ f.D.length ≤ maxLen) (h0 : z0 < (tot Wq.m L : Int)) (hz : 0 ≤ z0) (h1 : z0 ≤ 1048576) (w : World) (hc : RCame w h a0 n0 L) :
    Calls Try.prog 47 #[.slice a0 n0 c0, .int .i64 z0] w (RetB (.int .i64 (-1)) w) := by
  have HC := hid hc
  have HK := hid hK
  obtain rfl := hc.1
  clear hc hK
  unfold maxLen at hn
  by_cases hzl : z0 < (L.length : Int)
  · go_enter Try.func47, Try.ntmps47
    go_wp2
    go_ret
    exact ⟨rfl, Below.refl _ _⟩
  go_enter Try.func47, Try.ntmps47
  go_wp2
  go_loopw [1, 5] (fun x i wr => ∃ (k : Nat) (y : Int), k ≤ L.length ∧ i = .int .i64 k ∧ x = .int .i64 y ∧ Hid (y = z0 - (L.length : Int) - ((tot Wq.m (L.take k) : Int) - (k : Int)) ∧ 0 ≤ y) ∧ Below w.heap.size w wr) (fun _ i _ => L.length - (intOf i).toNat)
  case atStart => exact ⟨0, z0 - (L.length : Int), Nat.zero_le _, rfl, rfl, hid ⟨by simp [tot], by omega⟩, Below.refl _ _⟩
  case round =>
    obtain ⟨k, y, hk, rfl, rfl, hy, hbel⟩ := hrel
    by_cases hlt : k < L.length
    · obtain ⟨g, o, rfl, -, hg, hce⟩ := HC.out.2 (by omega)
      have hE := (hce k hlt).old hbel hg
      have hs := tot_take Wq.m hlt
      have hm := HK.out _ (List.getElem_mem hlt)
      clear hce
      generalize L[k] = f at hE hs hm
      obtain ⟨K, x, s, A, D⟩ := f
      obtain ⟨a1, c1, b1, d1, e1, k1, q0, q1, q2, q3, q4, hcr⟩ := hE.ex
      simp only [Wq.m] at hs hm q0 q1 q2 q3 q4
      have HS := hid hs
      have hy0 : 0 ≤ y := hy.out.2
      have hkz := tot_len Wq.m1 (L.take k)
      rw [List.length_take] at hkz
      have hy1 : y ≤ 1048576 := by have := hy.out.1; omega
      have HB := hid hbel
      have a1' : (0 : Int) ≤ k := by omega
      have a2' : (k : Int) < L.length := by omega
      clear hs hE hbel
      by_cases hfit : (szU K : Int) + (A.length : Int) + (D.length : Int) ≤ y
      · have KS := hid (fun (W : World) (hb : Below wr.heap.size wr W) => szRow_yes a1 K.length c1 x s b1 A.length d1 e1 D.length k1 h K y hfit hy1 W (hcr.t.old hb))
        have hy3 : ¬ y - (szU K : Int) - A.length - D.length < 0 := by omega
        clear hm hcr
        go_wp2_with fail
        (with_reducible refine (KS.out _ (Below.refl _ _)).mono ?_)
        rintro e w1 ⟨rfl, b1⟩
        have HB := hid (HB.out.trans (b1.mono HB.out.size))
        clear b1 q0 q1 q2 q3 q4
        go_wp2
        go_roundw
        case rel => exact ⟨k + 1, y - (szU K : Int) - A.length - D.length, by omega, by go_num, rfl, hid ⟨by have := hy.out.1; have := HS.out; omega, by omega⟩, HB.out⟩
        case measure => simp [intOf]; omega
      · have KS := hid (fun (W : World) (hb : Below wr.heap.size wr W) => szRow_no a1 K.length c1 x s b1 A.length d1 e1 D.length k1 h K y hm.1 hm.2.1 hm.2.2.1 hm.2.2.2 (by omega) hy0 hy1 W (hcr.t.old hb))
        clear hm hcr
        go_wp2_with fail
        (with_reducible refine (KS.out _ (Below.refl _ _)).mono ?_)
        rintro e w1 ⟨rfl, b1⟩
        have HB := hid (HB.out.trans (b1.mono HB.out.size))
        clear b1 q0 q1 q2 q3 q4
        go_wp2
        go_ret
        exact ⟨rfl, HB.out⟩
    · exfalso
      obtain rfl : k = L.length := by omega
      have := hy.out
      rw [List.take_length] at this
      omega
theorem infoEr : (Try.prog.info? 91).map (fun i => (i.zero, i.size, i.bytes)) = some (some (.agg #[.slice none 0 0, .int .i64 0, .bool false, .slice none 0 0, .slice none 0 0]), 5, 88) := by kernel_rfl
def Er0 : Er := ⟨⟨[], 0, false, [], []⟩, .slice none 0 0, .slice none 0 0, .slice none 0 0, 0, 0⟩
/-- A slice of a call's own is returned: it holds L. -/
def RMR (L : List Wq) (w : World) (e : Ending) (w' : World) : Prop := ∃ a c, e = .returned (.slice a L.length c) ∧ RM w' (.slice a L.length c) L w.heap.size (fun k => w.heap.size ≤ k ∧ k < w'.heap.size) ∧ Below w.heap.size w w'
set_option maxRecDepth 100000 in
set_option maxHeartbeats 6400000 in
theorem toRowS_came (a0 : Option Addr) (n0 c0 h : Nat) (L : List Wq) (hK : tot Wq.m L ≤ 1048576) (w : World) (hc : RCame w h a0 n0 L) :
    Calls Try.prog 50 #[.slice a0 n0 c0] w (RMR L w) := by
  have HC := hid hc
  obtain rfl := hc.1
  clear hc
  have hl := tot_len Wq.m1 L
  go_enter Try.func50, Try.ntmps50
  have hmk := fun W => run_make_rowk (P := Try.prog) 49 91 (.agg #[.slice none 0 0, .int .i64 0, .bool false, .slice none 0 0, .slice none 0 0]) #[.slice none 0 0, .int .i64 0, .bool false, .slice none 0 0, .slice none 0 0] 5 88 Try.underlying49 infoEr rfl .i64 .i64 L.length (by omega) (by omega) W
  have HM := hid (show GO kdR 91 (w.alloc (.cells (madeCells #[.slice none 0 0, .int .i64 0, .bool false, .slice none 0 0, .slice none 0 0] (L.length * 5)) 91)) (.slice (some ⟨w.heap.size, 0, none⟩) L.length L.length) (List.replicate L.length Er0) w.heap.size (fun k => w.heap.size ≤ k ∧ k < w.heap.size + 1) from
    GO_made (D := kdR) L.length (by unfold maxLen; omega) (by decide) rfl ⟨Nat.le_refl _, Nat.lt_succ_self _⟩ (fun W => ⟨⟨⟨[], TO_nil _ _ _ _, rfl, fun e he => by cases he⟩, ⟨⟨Ints_nil _ _, fun k hk => by simp [Er0, Value.ownBlock] at hk⟩, ⟨Ints_nil _ _, fun k hk => by simp [Er0, Value.ownBlock] at hk⟩, fun k hk => by simp [Er0, Value.ownBlock] at hk⟩⟩, Nat.zero_le _⟩) (fun k hk => by simp [kdR, Er0] at hk))
  have HA := hid (show Below w.heap.size w (w.alloc (.cells (madeCells #[.slice none 0 0, .int .i64 0, .bool false, .slice none 0 0, .slice none 0 0] (L.length * 5)) 91)) from (Below.refl _ _).alloc (Nat.le_refl _) _)
  have HS := hid (show w.heap.size < (w.alloc (.cells (madeCells #[.slice none 0 0, .int .i64 0, .bool false, .slice none 0 0, .slice none 0 0] (L.length * 5)) 91)).heap.size by simp)
  go_wp2
  clear hmk
  generalize w.alloc (.cells (madeCells #[.slice none 0 0, .int .i64 0, .bool false, .slice none 0 0, .slice none 0 0] (L.length * 5)) 91) = w1 at HM HA HS ⊢
  obtain ⟨g, hg⟩ : ∃ g, g = w.heap.size := ⟨_, rfl⟩
  have HG := hid hg
  rw [← hg] at HM HA HS
  rw [← hg]
  clear hg
  go_loopw [4] (fun i wr => ∃ (k : Nat) (E : List Er), k ≤ L.length ∧ i = .int .i64 k ∧ Hid (E.map Er.q = L.take k) ∧ Hid (GO kdR 91 wr (.slice (some ⟨g, 0, none⟩) L.length L.length) (E ++ List.replicate (L.length - k) Er0) g (fun k => g ≤ k ∧ k < wr.heap.size)) ∧ Below g w wr) (fun i _ => L.length - (intOf i).toNat)
  case atStart => exact ⟨0, [], Nat.zero_le _, rfl, hid rfl, hid (by simpa using HM.out.mono (Nat.le_refl _) (fun k hk => ⟨hk.1, by have := HS.out; omega⟩)), HA.out⟩
  case round =>
    obtain ⟨k, E, hk, rfl, hE, hV, hbel⟩ := hrel
    have hEl := hid (show E.length = k by have := congrArg List.length hE.out; rw [List.length_map, List.length_take] at this; omega)
    by_cases hlt : k < L.length
    · obtain ⟨g1, o1, rfl, -, hg1, hce⟩ := HC.out.2 (by omega)
      have hEx := (hce k hlt).old (hbel.mono (by rw [HG.out]; exact Nat.le_refl _)) hg1
      have hn1 := tot_at Wq.m hlt
      have htk := hid (List.take_succ_eq_append_getElem hlt)
      clear hce
      generalize L[k] = f at hEx hn1 htk
      obtain ⟨K, x, s, A, D⟩ := f
      obtain ⟨a1, c1, b1, d1, e1, k1, q0, q1, q2, q3, q4, hcr⟩ := hEx.ex
      simp only [Wq.m] at hn1 q0 q1 q2 q3 q4 hcr
      have KT := hid (fun (W : World) (hb : Below wr.heap.size wr W) => toRow_came a1 K.length c1 x s b1 A.length d1 e1 D.length k1 h K A D (by omega) (by omega) (by omega) W (hcr.old hb))
      have HB := hid hbel
      have hpos := hid (show 0 < (E ++ List.replicate (L.length - k) Er0).length by simp; omega)
      have hgw := hid (hV.out.pos (a := some ⟨g, 0, none⟩) hpos.out)
      have a1' : (0 : Int) ≤ k := by omega
      have a2' : (k : Int) < L.length := by omega
      clear hcr hEx hbel
      go_wp2_with fail
      (with_reducible refine (KT.out _ (Below.refl _ _)).mono ?_)
      rintro e w2 ⟨a3, c3, b3, d3, g3, f3, mi, rfl, hO, hb⟩
      have hsz := hid hb.size
      have HO := hid hO
      have HB := hid (HB.out.trans (hb.mono (by rw [HG.out]; exact HB.out.size)))
      have hV2 := hid ((hV.out.old hb).mono (Nat.le_refl _) (S' := fun k => g ≤ k ∧ k < w2.heap.size) (fun k hk => ⟨hk.1, Nat.lt_of_lt_of_le hk.2 hsz.out⟩))
      have hlen2 := hid (show (E ++ List.replicate (L.length - k) Er0).length = L.length by simp [hEl.out]; omega)
      have hki := hid (show k < (E ++ List.replicate (L.length - k) Er0).length by rw [hlen2.out]; omega)
      have hgz := hid (show g < wr.heap.size from by obtain ⟨g', e1, -, -, -, e2⟩ := hgw.out; cases e1; exact e2)
      have rr0 := show w2.cell? ⟨g, k * 5, none⟩ = some _ from hV2.out.cell hki.out 0 rfl
      have rr1 := show w2.cell? ⟨g, k * 5 + 1, none⟩ = some _ from hV2.out.cell hki.out 1 rfl
      have rr2 := show w2.cell? ⟨g, k * 5 + 2, none⟩ = some _ from hV2.out.cell hki.out 2 rfl
      have rr3 := show w2.cell? ⟨g, k * 5 + 3, none⟩ = some _ from hV2.out.cell hki.out 3 rfl
      have rr4 := show w2.cell? ⟨g, k * 5 + 4, none⟩ = some _ from hV2.out.cell hki.out 4 rfl
      have fr0 := hV2.out.free (k * 5)
      have fr1 := hV2.out.free (k * 5 + 1)
      have fr2 := hV2.out.free (k * 5 + 2)
      have fr3 := hV2.out.free (k * 5 + 3)
      have fr4 := hV2.out.free (k * 5 + 4)
      have hput := hid (hV2.out.puts hki.out (⟨⟨K, x, s, A, D⟩, .slice a3 K.length c3, .slice b3 A.length d3, .slice g3 D.length f3, wr.heap.size, w2.heap.size⟩ : Er) ⟨hO.g, Nat.le_refl _⟩ (fun k hk => by have := hgz.out; have := hsz.out; simp only [kdR] at hk; omega) (fun hk => by have := hgz.out; simp only [kdR] at hk; omega)
        (fun j hj hne k h1 h2 => by have h3 := kdR.lt (hV.out.el _ (List.getElem_mem hj)) k h1; simp only [kdR] at h2; omega))
      have hset := hid (show (E ++ List.replicate (L.length - k) Er0).set k (⟨⟨K, x, s, A, D⟩, .slice a3 K.length c3, .slice b3 A.length d3, .slice g3 D.length f3, wr.heap.size, w2.heap.size⟩ : Er) = (E ++ [(⟨⟨K, x, s, A, D⟩, .slice a3 K.length c3, .slice b3 A.length d3, .slice g3 D.length f3, wr.heap.size, w2.heap.size⟩ : Er)]) ++ List.replicate (L.length - (k + 1)) Er0 by
        rw [List.set_append_right k _ (by rw [hEl.out]; exact Nat.le_refl _), hEl.out, Nat.sub_self, show L.length - k = (L.length - (k + 1)) + 1 by omega, List.replicate_succ, List.set_cons_zero, List.append_assoc]; rfl)
      have HB2 := hid ((((((HB.out).setCell (p := ⟨g, k * 5, none⟩) (Nat.le_refl _) (.slice a3 K.length c3)).setCell (p := ⟨g, k * 5 + 1, none⟩) (Nat.le_refl _) (.int .i64 x)).setCell (p := ⟨g, k * 5 + 2, none⟩) (Nat.le_refl _) (.bool s)).setCell (p := ⟨g, k * 5 + 3, none⟩) (Nat.le_refl _) (.slice b3 A.length d3)).setCell (p := ⟨g, k * 5 + 4, none⟩) (Nat.le_refl _) (.slice g3 D.length f3))
      clear hb hO q0 q1 q2 q3 q4
      go_wp2
      go_roundw
      case rel =>
        refine ⟨k + 1, E ++ [(⟨⟨K, x, s, A, D⟩, .slice a3 K.length c3, .slice b3 A.length d3, .slice g3 D.length f3, wr.heap.size, w2.heap.size⟩ : Er)], by omega, by go_num, hid ?_, hid ?_, HB2.out⟩
        · rw [List.map_append, hE.out, htk.out]; rfl
        · rw [← hset.out]; simpa only [setW, kdR, Er.cs, size_set] using hput.out
      case measure => simp [intOf]; omega
    · obtain rfl : k = L.length := by omega
      have HB := hid hbel
      clear hbel
      go_wp2
      go_ret
      have h1 := hV.out
      rw [Nat.sub_self, List.replicate_zero, List.append_nil] at h1
      have h2 := hE.out
      rw [List.take_length] at h2
      have h3 := HG.out
      subst h3
      exact ⟨_, _, rfl, ⟨E, h1, h2⟩, HB.out⟩
set_option maxRecDepth 100000 in
set_option maxHeartbeats 6400000 in
theorem eqRowS_k {v1 v2 : Value} {L : List Wq} (hK : tot Wq.n L ≤ 33554432) (hK3 : ∀ q ∈ L, szT q.K ≤ 4194304) (w : World) (o1 : RS w v1 L) (o2 : RS w v2 L) :
    Calls Try.prog 26 #[v1, v2] w (RetB (.bool true) w) := by
  have HK := hid hK
  have HK3 := hid hK3
  have hsz := tot_len Wq.n1 L
  have O1 := hid o1
  have O2 := hid o2
  obtain ⟨a1, c1, rfl⟩ := o1.form
  obtain ⟨a2, c2, rfl⟩ := o2.form
  clear o1 o2 hK hK3
  go_enter Try.func26, Try.ntmps26
  go_wp2
  go_loopw [5] (fun i wr => ∃ (k : Nat), k ≤ L.length ∧ i = .int .i64 k ∧ Below w.heap.size w wr) (fun i _ => L.length - (intOf i).toNat)
  case atStart => exact ⟨0, Nat.zero_le _, rfl, Below.refl _ _⟩
  case round =>
    obtain ⟨k, hk, rfl, hbel⟩ := hrel
    by_cases hlt : k < L.length
    · obtain ⟨g1, o1, t1, v1, u1, rfl, hg1, q0, q1, q2, q3, q4, R1⟩ := (O1.out.old hbel).at hlt
      obtain ⟨g2, o2, t2, v2, u2, rfl, hg2, q5, q6, q7, q8, q9, R2⟩ := (O2.out.old hbel).at hlt
      have hn := tot_at Wq.n hlt
      have hKv := HK.out
      have h3 := HK3.out _ (List.getElem_mem hlt)
      generalize L[k] = f at q0 q1 q2 q3 q4 q5 q6 q7 q8 q9 R1 R2 hn h3
      obtain ⟨K, x, s, A, D⟩ := f
      simp only [Wq.n] at hn q0 q1 q2 q3 q4 q5 q6 q7 q8 q9 R1 R2 h3
      obtain ⟨a3, c3, b3, d3, e3, f3, rfl, rfl, rfl⟩ := R1.form
      obtain ⟨a4, c4, b4, d4, e4, f4, rfl, rfl, rfl⟩ := R2.form
      have KE := hid (fun (W : World) (hb : Below wr.heap.size wr W) => eqRow_k x s (K := K) (A := A) (D := D) (by omega) (by omega) (by omega) W (R1.old hb) (R2.old hb))
      have HB := hid hbel
      have a1' : (0 : Int) ≤ k := by omega
      have a2' : (k : Int) < L.length := by omega
      clear R1 R2 hbel hn h3
      go_wp2_with fail
      go_region_held3 (fun w' => w'.cell? ⟨g1, o1 + k * 5, none⟩ = some (.slice a3 K.length c3) ∧ w'.cell? ⟨g1, o1 + k * 5 + 1, none⟩ = some (.int .i64 x) ∧ w'.cell? ⟨g1, o1 + k * 5 + 2, none⟩ = some (.bool s) ∧ w'.cell? ⟨g1, o1 + k * 5 + 3, none⟩ = some (.slice b3 A.length d3) ∧ w'.cell? ⟨g1, o1 + k * 5 + 4, none⟩ = some (.slice e3 D.length f3) ∧ w'.cell? ⟨g2, o2 + k * 5, none⟩ = some (.slice a4 K.length c4) ∧ w'.cell? ⟨g2, o2 + k * 5 + 1, none⟩ = some (.int .i64 x) ∧ w'.cell? ⟨g2, o2 + k * 5 + 2, none⟩ = some (.bool s) ∧ w'.cell? ⟨g2, o2 + k * 5 + 3, none⟩ = some (.slice b4 A.length d4) ∧ w'.cell? ⟨g2, o2 + k * 5 + 4, none⟩ = some (.slice e4 D.length f4)) (first | exact ⟨q0, q1, q2, q3, q4, q5, q6, q7, q8, q9⟩ | go_keep)
        (first | (go_at_call 59; (with_reducible refine (KE.out _ (Below_drew1 (Below.refl _ _))).mono ?_); rintro e w2 ⟨rfl, hb⟩; have HB2 := hid ((Below_drew1 HB.out).trans (hb.mono HB.out.size)); have q0 := (hb.cell (p := ⟨g1, o1 + k * 5, none⟩) hg1).trans q0; have q1 := (hb.cell (p := ⟨g1, o1 + k * 5 + 1, none⟩) hg1).trans q1; have q2 := (hb.cell (p := ⟨g1, o1 + k * 5 + 2, none⟩) hg1).trans q2; have q3 := (hb.cell (p := ⟨g1, o1 + k * 5 + 3, none⟩) hg1).trans q3; have q4 := (hb.cell (p := ⟨g1, o1 + k * 5 + 4, none⟩) hg1).trans q4; have q5 := (hb.cell (p := ⟨g2, o2 + k * 5, none⟩) hg2).trans q5; have q6 := (hb.cell (p := ⟨g2, o2 + k * 5 + 1, none⟩) hg2).trans q6; have q7 := (hb.cell (p := ⟨g2, o2 + k * 5 + 2, none⟩) hg2).trans q7; have q8 := (hb.cell (p := ⟨g2, o2 + k * 5 + 3, none⟩) hg2).trans q8; have q9 := (hb.cell (p := ⟨g2, o2 + k * 5 + 4, none⟩) hg2).trans q9; clear hb))
      clear q0 q1 q2 q3 q4 q5 q6 q7 q8 q9
      go_wp2
      go_roundw
      case rel => exact ⟨k + 1, by omega, by go_num, HB2.out⟩
      case measure => simp [intOf]; omega
    · have HB := hid hbel
      clear hbel
      go_wp2
      go_ret
      exact ⟨rfl, HB.out⟩
end Go.Proofs.Yteanocjkdehhgaa
