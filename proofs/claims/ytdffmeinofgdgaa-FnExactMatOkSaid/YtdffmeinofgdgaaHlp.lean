/- The helpers of the exact laws over slices of ints: a copy, two that hold the same are equal, what was marked is held. -/
import Derived.Test.YtdffmeinofgdgaaMem
namespace Go.Proofs.Ytdffmeinofgdgaa
open Go.RowKit
open Go.Lib (hid)

def Drawn (r : Value) (w : World) (e : Ending) (w' : World) : Prop := e = .returned r ∧ ∃ d, w' = w.drewN d

set_option maxRecDepth 100000 in
set_option maxHeartbeats 800000 in
theorem eqIntS_same (a1 a2 : Option Addr) (n1 n2 c1 c2 : Nat) (L : List Int) (hL : L.length ≤ 1073741824) (w : World) (h1 : RowI w a1 n1 L) (h2 : RowI w a2 n2 L) :
    Calls Try.prog 25 #[.slice a1 n1 c1, .slice a2 n2 c2] w (Drawn (.bool true) w) := by
  obtain ⟨rfl, H1⟩ := h1
  obtain ⟨rfl, H2⟩ := h2
  have G1 := hid H1
  have G2 := hid H2
  clear H1 H2
  go_enter Try.func25, Try.ntmps25
  go_wp2
  go_loopw [5] (fun i wr => ∃ (k d : Nat), k ≤ L.length ∧ i = .int .i64 k ∧ wr = w.drewN d) (fun i _ => L.length - (intOf i).toNat)
  case atStart => exact ⟨0, 0, Nat.zero_le _, rfl, rfl⟩
  case round =>
    obtain ⟨k, d, hk, rfl, rfl⟩ := hrel
    by_cases hlt : k < L.length
    · obtain ⟨g1, o1, rfl, _, hc1⟩ := G1.out (by omega)
      obtain ⟨g2, o2, rfl, _, hc2⟩ := G2.out (by omega)
      clear G1 G2
      have q1 := hc1 k hlt
      have q2 := hc2 k hlt
      clear hc1 hc2
      have a1 : (0 : Int) ≤ k := by omega
      have a2 : (k : Int) < L.length := by omega
      go_wp2
      go_quiet (fail)
      go_wp2
      go_roundw
      case rel => exact ⟨k + 1, d + nq, by omega, by go_num, by first | rfl | exact World.drewN_drewN _ _ _⟩
      case measure => simp [intOf]; omega
    · go_wp2
      go_ret
      exact ⟨rfl, d, rfl⟩

def marks (n : Nat) (m : Int) : List Int := (List.range n).map fun i : Nat => m + (i : Int)
theorem marks_len (n : Nat) (m : Int) : (marks n m).length = n := by simp [marks]
theorem marks_at {n i : Nat} {m : Int} (h : i < (marks n m).length) : (marks n m)[i] = m + (i : Int) := by simp [marks]
/-- The list L with its first k places marked. -/
def marked (L : List Int) (m : Int) (k : Nat) : List Int := marks k m ++ L.drop k
theorem marked_zero (L : List Int) (m : Int) : marked L m 0 = L := by simp [marked, marks]
theorem marked_len {L : List Int} {m : Int} {k : Nat} (h : k ≤ L.length) : (marked L m k).length = L.length := by simp [marked, marks_len]; omega
theorem marked_all (L : List Int) (m : Int) : marked L m L.length = marks L.length m := by simp [marked]
theorem marked_set {L : List Int} {m : Int} {k : Nat} (h : k < L.length) : (marked L m k).set k (m + (k : Int)) = marked L m (k + 1) := by
  apply List.ext_getElem
  · simp [marked, marks_len]; omega
  · intro i h1 h2
    by_cases e : i = k
    · subst e
      simp [marked, marks]
    · rw [List.getElem_set_ne (Ne.symm e)]
      simp only [marked, List.getElem_append, marks_len]
      by_cases h3 : i < k
      · have h4 : i < k + 1 := by omega
        simp [marks, h3, h4]
      · have h4 : ¬ i < k + 1 := by omega
        simp only [h3, h4, dif_neg, not_false_eq_true, List.getElem_drop]
        congr 1; omega

def MarkP (B : Nat) (v : Value) (n : Nat) (m : Int) (S : Nat → Prop) (w : World) (e : Ending) (w' : World) : Prop := e = .returned (.int .i64 (m + n)) ∧ Ints w' B v (marks n m) ∧ Only S w w'

set_option maxRecDepth 100000 in
set_option maxHeartbeats 800000 in
theorem markIntS_any (B : Nat) (v : Value) (L : List Int) (m : Int) (hL : L.length ≤ 1073741000) (m0 : 0 ≤ m) (m1 : m ≤ 1073741000) (S : Nat → Prop) (w : World) (hw : Ints w B v L) (hS : ∀ k, v.ownBlock = some k → S k) :
    Calls Try.prog 26 #[v, .int .i64 m] w (MarkP B v L.length m S w) := by
  have HW := hid hw
  have HS := hid hS
  obtain ⟨a, c, rfl, hc, -, -⟩ := Ints_form hw
  clear hw hS
  go_enter Try.func26, Try.ntmps26
  go_wp2
  go_loopw [1, 5] (fun x i wr => ∃ (k : Nat), k ≤ L.length ∧ i = .int .i64 k ∧ x = .int .i64 (m + k) ∧ Ints wr B (.slice a L.length c) (marked L m k) ∧ Only S w wr) (fun _ i _ => L.length - (intOf i).toNat)
  case atStart => exact ⟨0, Nat.zero_le _, rfl, by simp, by rw [marked_zero]; exact HW.out, Only.refl _ _⟩
  case round =>
    obtain ⟨k, hk, rfl, rfl, hown, hbel⟩ := hrel
    by_cases hlt : k < L.length
    · have a1 : (0 : Int) ≤ k := by omega
      have a2 : (k : Int) < L.length := by omega
      have hl := marked_len (L := L) (m := m) (k := k) (by omega)
      rcases Ints_cases hown with ⟨-, h0⟩ | ⟨g, c', he, -⟩
      · rw [h0] at hl; simp at hl; omega
      obtain ⟨rfl, -, rfl⟩ : a = some ⟨g, 0, none⟩ ∧ L.length = (marked L m k).length ∧ c = c' := by simpa using he
      clear he
      have hSg := HS.out g rfl
      have hcell := Ints_cell hown (i := k) (by omega)
      have hfree := Ints_free hown k
      have hst := hid (Ints_store hown (i := k) (m + (k : Int)))
      have hbel := hid (hbel.setCell (p := ⟨g, k, none⟩) hSg (.int .i64 (m + (k : Int))))
      clear hown
      go_wp2
      go_roundw
      case rel =>
        have hs := hst.out
        rw [marked_set hlt] at hs
        exact ⟨k + 1, by omega, by go_num, by rw [show ((k + 1 : Nat) : Int) = (k : Int) + 1 by omega, Int.add_assoc], hs, hbel.out⟩
      case measure => simp [intOf]; omega
    · obtain rfl : k = L.length := by omega
      go_wp2
      go_ret
      rw [marked_all] at hown
      exact ⟨rfl, hown, hbel⟩

set_option maxRecDepth 100000 in
set_option maxHeartbeats 800000 in
theorem heldIntS_any (a : Option Addr) (c n : Nat) (m : Int) (hn : n ≤ 1073741000) (m0 : 0 ≤ m) (m1 : m ≤ 1073741000) (w : World) (hw : RowI w a n (marks n m)) :
    Calls Try.prog 60 #[.slice a n c, .int .i64 m] w (Drawn (.int .i64 (m + n)) w) := by
  have HW := hid hw.2
  clear hw
  go_enter Try.func60, Try.ntmps60
  go_wp2
  go_loopw [1, 5] (fun x i wr => ∃ (k d : Nat), k ≤ n ∧ i = .int .i64 k ∧ x = .int .i64 (m + k) ∧ wr = w.drewN d) (fun _ i _ => n - (intOf i).toNat)
  case atStart => exact ⟨0, 0, Nat.zero_le _, rfl, by simp, rfl⟩
  case round =>
    obtain ⟨k, d, hk, rfl, rfl, rfl⟩ := hrel
    by_cases hlt : k < n
    · obtain ⟨g, o, rfl, -, hc⟩ := HW.out (by rw [marks_len]; omega)
      have a1 : (0 : Int) ≤ k := by omega
      have a2 : (k : Int) < n := by omega
      have q1 := hc k (by rw [marks_len]; omega)
      rw [marks_at] at q1
      clear hc
      go_wp2
      first
        | go_quiet (fail)
          go_wp2
        | skip
      go_roundw
      case rel =>
        exact ⟨k + 1, d, by omega, by go_num, by rw [show ((k + 1 : Nat) : Int) = (k : Int) + 1 by omega, Int.add_assoc], rfl⟩
      case measure => simp [intOf]; omega
    · obtain rfl : k = n := by omega
      go_wp2
      go_ret
      exact ⟨rfl, d, rfl⟩

set_option maxRecDepth 100000 in
set_option maxHeartbeats 800000 in
theorem toIntS_any (a : Option Addr) (n c : Nat) (L : List Int) (hL : L.length ≤ 1073741824) (w : World) (h1 : RowI w a n L) :
    Calls Try.prog 23 #[.slice a n c] w (OwnP L w) := by
  obtain ⟨rfl, H1⟩ := h1
  have G1 := hid H1
  clear H1
  go_enter Try.func23, Try.ntmps23
  have hmk := fun W => run_make_row' (P := Try.prog) 35 3 (.int .i64 0) 8 Try.underlying35 Try.info3 rfl .i64 .i64 L.length (by omega) (by omega) W
  have ha : Below w.heap.size w (w.alloc (.cells (madeCells #[.int .i64 0] L.length) 3)) := (Below.refl _ _).alloc (Nat.le_refl _) _
  have HM := hid (Ints_made (w := w) (Nat.le_refl _) L.length (by unfold maxLen; omega))
  have HA := hid ha
  clear ha
  go_wp2
  clear hmk
  generalize w.alloc (.cells (madeCells #[.int .i64 0] L.length) 3) = w1 at HM HA ⊢
  obtain ⟨g, hg⟩ : ∃ g, g = w.heap.size := ⟨_, rfl⟩
  have HG := hid hg
  rw [← hg] at HM HA
  rw [← hg]
  clear hg
  go_loopw [4] (fun i wr => ∃ (k : Nat), k ≤ L.length ∧ i = .int .i64 k ∧ Ints wr g (.slice (some ⟨g, 0, none⟩) L.length L.length) (L.take k ++ List.replicate (L.length - k) 0) ∧ Below g w wr) (fun i _ => L.length - (intOf i).toNat)
  case atStart => exact ⟨0, Nat.zero_le _, rfl, by simpa using HM.out, HA.out⟩
  case round =>
    obtain ⟨k, hk, rfl, hown, hbel⟩ := hrel
    by_cases hlt : k < L.length
    · obtain ⟨g1, o1, rfl, hg1, hc1⟩ := G1.out (by omega)
      have q1 : wr.cell? ⟨g1, o1 + k, none⟩ = some (.int .i64 L[k]) := (hbel.cell (p := ⟨g1, o1 + k, none⟩) (by have := HG.out; simp; omega)).trans (hc1 k hlt)
      clear hc1
      have a1 : (0 : Int) ≤ k := by omega
      have a2 : (k : Int) < L.length := by omega
      have hl : (L.take k ++ List.replicate (L.length - k) 0).length = L.length := by simp; omega
      have hcell := Ints_cell hown (i := k) (by omega)
      have hfree := Ints_free hown k
      have hst := hid (Ints_store hown (i := k) L[k])
      have hbel := hid (hbel.setCell (p := ⟨g, k, none⟩) (Nat.le_refl _) (.int .i64 L[k]))
      clear hown
      go_wp2
      go_roundw
      case rel =>
        have hs := hst.out
        have e : (L.take k ++ List.replicate (L.length - k) 0).set k L[k] = L.take (k + 1) ++ List.replicate (L.length - (k + 1)) 0 := by
          apply List.ext_getElem
          · simp; omega
          · intro i h1 h2
            simp only [List.getElem_set, List.getElem_append, List.length_take, List.getElem_take, List.getElem_replicate]
            split
            · next e => subst e; rw [dif_pos (by omega)]
            · by_cases h3 : i < k
              · rw [dif_pos (by omega), dif_pos (by omega)]
              · rw [dif_neg (by omega), dif_neg (by omega)]
        rw [e] at hs
        exact ⟨k + 1, by omega, by go_num, hs, hbel.out⟩
      case measure => simp [intOf]; omega
    · obtain rfl : k = L.length := by omega
      go_wp2
      go_ret
      have hs := hown
      rw [List.take_length, Nat.sub_self, List.replicate_zero, List.append_nil] at hs
      exact OwnP_mk HG.out rfl hs hbel
end Go.Proofs.Ytdffmeinofgdgaa
