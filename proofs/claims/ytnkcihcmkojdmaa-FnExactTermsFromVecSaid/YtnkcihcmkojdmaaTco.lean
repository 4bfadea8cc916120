/- The columns of a list of terms. -/
import Derived.Test.YtnkcihcmkojdmaaTok
import Derived.Deep.RegionHeld3
import Derived.Deep.DeepCutAuto
namespace Go.Proofs.Ytnkcihcmkojdmaa
open Go.RowKit
open Go.Lib (hid)
set_option linter.unusedVariables false

section
variable {ops : Array Oper} {o : Oper} {a : Act} {W : World} {v : Value} {L : List Int} {lo B : Nat} {x : Int}
/-- THE APPEND of a number to an own slice of numbers. -/
theorem wpList_pushI {rest : List Oper} {Q : Exit → Act → World → Prop} (hgd : o.guard = none) (s1 x1 : Operand)
    (ho : o.op = .call { callee := .builtin .append, args := #[s1, x1], argTypes := #[39, 39] }) (hs : a.eval s1 = v) (hv : Ints W lo v L)
    (hx : a.eval x1 = .slice (some ⟨B, 0, none⟩) 1 1) (hB : W.heap[B]? = some (.cells #[.int .i64 x] 3 (0, 0))) (hlen : L.length ≤ 1048576) (hlw : lo ≤ W.heap.size)
    (h : ∀ (g cap : Nat) (w' : World), Ints w' lo (.slice (some ⟨g, 0, none⟩) (L.length + 1) cap) (L ++ [x]) → Below lo W w' → W.grownBy w' v.ownBlock → wpList Try.prog ops Q rest (a.put o.dst (.slice (some ⟨g, 0, none⟩) (L.length + 1) cap)) w') :
    wpList Try.prog ops Q (o :: rest) a W := by
  obtain ⟨i0, hi0, hz0, hz1, hz2⟩ := info_parts Try.info3
  refine wpList_append_lies W hgd s1 x1 39 ho lo 3 i0 _ 1 8 Try.underlying39 hi0 hz0 hz1 hz2 rfl (by decide) v L.length (L.map (Value.int .i64)) hs hv ⟨B, 0, none⟩ 1 1 [.int .i64 x] hx rfl (World.news_of_block hB) ?_ (by decide) (by unfold maxLen; omega) (by omega) hlw W.heap.size rfl ?_
  · intro u hu
    rw [List.mem_singleton.1 hu]; rfl
  · intro g cap w' hrow hgr _ hlt
    refine h g cap w' ?_ ((Below.refl lo W).grown hgr hlw fun k hk => (Ints_lt hv k hk).1) hgr
    have e : L.map (Value.int .i64) ++ [.int .i64 x] = (L ++ [x]).map (Value.int .i64) := by simp
    rw [e] at hrow
    unfold Ints
    rw [List.length_append]
    exact hrow
end
theorem Ints_nilT (w : World) (lo : Nat) : Ints w lo (.slice none 0 0) [] := Ints_nil _ _
theorem Ints_litT {w : World} {lo : Nat} (hl : lo ≤ w.heap.size) : Ints (w.alloc (.cells #[] 3)) lo (.slice (some ⟨w.heap.size, 0, none⟩) 0 0) [] := Ints_lit (heap_alloc_new w _) hl
def IntsR (L : List Int) (w : World) (e : Ending) (w' : World) : Prop := ∃ v, e = .returned v ∧ Ints w' w.heap.size v L ∧ Below w.heap.size w w'
theorem cT_take {K : List Tq} {k : Nat} (h : k < K.length) : (K.take (k + 1)).map Tq.c = (K.take k).map Tq.c ++ [K[k].c] := by
  rw [List.take_succ_eq_append_getElem h, List.map_append]; rfl
set_option maxRecDepth 100000 in
set_option maxHeartbeats 6400000 in
theorem impl_TermsCols {p : Bool} {a : Option Addr} {n c : Nat} {K : List Tq} {lo hi : Nat} (hK : SmT K) (w : World) (h : TK p w (.slice a n c) K lo hi) :
    Calls Try.prog 31 #[.slice a n c] w (IntsR (K.map Tq.c) w) := by
  have HV := hid h
  obtain rfl := h.num
  clear h
  have hkl := hK.2

  go_enter Try.func31, Try.ntmps31
  go_wp2

  go_loopw [3, 8] (fun v i wr => ∃ (k : Nat) (x : Option Addr) (y : Nat), k ≤ K.length ∧ i = .int .i64 k ∧ v = .slice x k y ∧ Hid (Ints wr w.heap.size (.slice x k y) ((K.take k).map Tq.c)) ∧ Below w.heap.size w wr) (fun _ i _ => K.length - (intOf i).toNat)
  case atStart => exact ⟨0, none, 0, Nat.zero_le _, rfl, rfl, hid (Ints_nilT _ _), Below.refl _ _⟩
  case round =>
    obtain ⟨k, x0, y0, hk, rfl, rfl, hI, hbel⟩ := hrel
    have hlk := hid (show ((K.take k).map Tq.c).length = k by rw [List.length_map, List.length_take]; omega)
    by_cases hlt : k < K.length
    · have V := hid (HV.out.old hbel)
      obtain ⟨g, a3, n3, c3, b3, m3, d3, rfl, hg, qc, q0, q1, q2, R⟩ := V.out.at hK hlt
      obtain ⟨⟨x, s, A, D⟩, hf⟩ : ∃ f, K[k]'(hlt) = f := ⟨_, rfl⟩
      simp only [hf] at qc q0 R
      have HF := hid hf
      clear hf
      obtain ⟨o, ho⟩ : ∃ o, Tq.o ⟨x, s, A, D⟩ = o := ⟨_, rfl⟩
      have HO := hid (show (K[k]'(hlt)).o = o by rw [HF.out, ho])
      have HX := hid (show (K[k]'(hlt)).c = x by rw [HF.out])
      have RX := hid (show RA wr s (.slice a3 n3 c3) (.slice b3 m3 d3) o from ⟨A, D, R, ho⟩)
      have RLX := hid R
      have RN := hid R.nums
      clear ho R
      have HB := hid hbel
      have a1' : (0 : Int) ≤ k := by omega
      have a2 : (k : Int) < K.length := by omega
      have hws := hbel.size
      clear hbel
      have HI1 := hid (Ints_old hI.out (Below.alloc (below_new' (o := .cells #[.int .i64 x, .bool s, .slice a3 n3 c3, .slice b3 m3 d3] 59)) (by simp) (.cells #[.int .i64 x] 3)))
      have HB1 := hid ((HB.out.alloc hws (.cells #[.int .i64 x, .bool s, .slice a3 n3 c3, .slice b3 m3 d3] 59)).alloc (by simp; omega) (.cells #[.int .i64 x] 3))
      have PB := hid (heap_alloc_new (wr.alloc (.cells #[.int .i64 x, .bool s, .slice a3 n3 c3, .slice b3 m3 d3] 59)) (.cells #[.int .i64 x] 3))
      obtain ⟨L0, hL0⟩ : ∃ L0, L0 = (K.take k).map Tq.c := ⟨_, rfl⟩
      have HL0 := hid hL0
      rw [← hL0] at HI1 hlk
      clear hL0
      have hl0 := hlk.out
      clear hlk
      subst hl0
      go_wp2_with (at_builtin; refine wpList_pushI rfl _ _ rfl rfl HI1.out rfl (by simpa using PB.out) (by omega) (by simp; omega) ?_)
      intro gp cp wp hvp hbp hgr
      have HB2 := hid (HB1.out.trans hbp)
      have HI2 := hid hvp
      clear hvp hbp hgr
      go_wp2
      go_roundw
      case rel => exact ⟨L0.length + 1, some ⟨gp, 0, none⟩, cp, by omega, by go_num, by simp, hid (by rw [cT_take hlt, HX.out, ← HL0.out]; exact HI2.out), HB2.out⟩
      case measure => simp [intOf]; omega
    · obtain rfl : k = K.length := by omega
      have HB := hid hbel
      clear hbel
      go_wp2
      go_ret
      have h1 := hI.out
      rw [List.take_length] at h1
      exact ⟨_, rfl, h1, HB.out⟩
set_option maxRecDepth 100000 in
set_option maxHeartbeats 6400000 in
theorem spec_TermsCols {p : Bool} {a : Option Addr} {n c : Nat} {K : List Tq} {lo hi : Nat} (hK : SmT K) (w : World) (h : TK p w (.slice a n c) K lo hi) :
    Calls Try.prog 30 #[.slice a n c] w (IntsR (K.map Tq.c) w) := by
  have HV := hid h
  obtain rfl := h.num
  clear h
  have hkl := hK.2
  have I0 := hid (Ints_litT (w := w) (lo := w.heap.size) (Nat.le_refl _))
  have B0 := hid (show Below w.heap.size w (w.alloc (.cells #[] 3)) from below_new')
  go_enter Try.func30, Try.ntmps30
  go_wp2
  generalize w.alloc (.cells #[] 3) = w1 at I0 B0 ⊢
  go_loopw [3, 9] (fun v i wr => ∃ (k : Nat) (x : Option Addr) (y : Nat), k ≤ K.length ∧ i = .int .i64 k ∧ v = .slice x k y ∧ Hid (Ints wr w.heap.size (.slice x k y) ((K.take k).map Tq.c)) ∧ Below w.heap.size w wr) (fun _ i _ => K.length - (intOf i).toNat)
  case atStart => exact ⟨0, _, 0, Nat.zero_le _, rfl, rfl, hid I0.out, B0.out⟩
  case round =>
    obtain ⟨k, x0, y0, hk, rfl, rfl, hI, hbel⟩ := hrel
    have hlk := hid (show ((K.take k).map Tq.c).length = k by rw [List.length_map, List.length_take]; omega)
    by_cases hlt : k < K.length
    · have V := hid (HV.out.old hbel)
      obtain ⟨g, a3, n3, c3, b3, m3, d3, rfl, hg, qc, q0, q1, q2, R⟩ := V.out.at hK hlt
      obtain ⟨⟨x, s, A, D⟩, hf⟩ : ∃ f, K[k]'(hlt) = f := ⟨_, rfl⟩
      simp only [hf] at qc q0 R
      have HF := hid hf
      clear hf
      obtain ⟨o, ho⟩ : ∃ o, Tq.o ⟨x, s, A, D⟩ = o := ⟨_, rfl⟩
      have HO := hid (show (K[k]'(hlt)).o = o by rw [HF.out, ho])
      have HX := hid (show (K[k]'(hlt)).c = x by rw [HF.out])
      have RX := hid (show RA wr s (.slice a3 n3 c3) (.slice b3 m3 d3) o from ⟨A, D, R, ho⟩)
      have RLX := hid R
      have RN := hid R.nums
      clear ho R
      have HB := hid hbel
      have a1' : (0 : Int) ≤ k := by omega
      have a2 : (k : Int) < K.length := by omega
      have hws := hbel.size
      clear hbel
      have HI1 := hid (Ints_old hI.out (Below.alloc (below_new' (o := .cells #[.int .i64 x, .bool s, .slice a3 n3 c3, .slice b3 m3 d3] 59)) (by simp) (.cells #[.int .i64 x] 3)))
      have HB1 := hid ((HB.out.alloc hws (.cells #[.int .i64 x, .bool s, .slice a3 n3 c3, .slice b3 m3 d3] 59)).alloc (by simp; omega) (.cells #[.int .i64 x] 3))
      have PB := hid (heap_alloc_new (wr.alloc (.cells #[.int .i64 x, .bool s, .slice a3 n3 c3, .slice b3 m3 d3] 59)) (.cells #[.int .i64 x] 3))
      obtain ⟨L0, hL0⟩ : ∃ L0, L0 = (K.take k).map Tq.c := ⟨_, rfl⟩
      have HL0 := hid hL0
      rw [← hL0] at HI1 hlk
      clear hL0
      have hl0 := hlk.out
      clear hlk
      subst hl0
      go_wp2_with (at_builtin; refine wpList_pushI rfl _ _ rfl rfl HI1.out rfl (by simpa using PB.out) (by omega) (by simp; omega) ?_)
      intro gp cp wp hvp hbp hgr
      have HB2 := hid (HB1.out.trans hbp)
      have HI2 := hid hvp
      clear hvp hbp hgr
      go_wp2
      go_roundw
      case rel => exact ⟨L0.length + 1, some ⟨gp, 0, none⟩, cp, by omega, by go_num, by simp, hid (by rw [cT_take hlt, HX.out, ← HL0.out]; exact HI2.out), HB2.out⟩
      case measure => simp [intOf]; omega
    · obtain rfl : k = K.length := by omega
      have HB := hid hbel
      clear hbel
      go_wp2
      go_ret
      have h1 := hI.out
      rw [List.take_length] at h1
      exact ⟨_, rfl, h1, HB.out⟩
end Go.Proofs.Ytnkcihcmkojdmaa
