/- Vectors of zeros and of one 1 (the program). -/
import Derived.Test.YtamhmpjadnfpdaaGreatVf
import Derived.Deep.RegionHeld3
import Derived.Deep.DeepCutAuto
namespace Go.Proofs.YtamhmpjadnfpdaaGreat
open Go.RowKit
open Go.Lib (hid)
set_option linter.unusedVariables false

/-- A vector of n zeros, if there is one. -/
def zeroK (n : Int) : List Fq := if 0 ≤ n ∧ n ≤ 40 then List.replicate n.toNat (fqo (some ((0 : Int) : Rat))) else []
theorem zeroK_yes {N : Nat} (h : N ≤ 40) : zeroK (N : Int) = List.replicate N (fqo (some ((0 : Int) : Rat))) := by
  unfold zeroK; rw [if_pos ⟨by omega, by omega⟩]; rfl
theorem zeroK_no {n : Int} (h : n < 0 ∨ 40 < n) : zeroK n = [] := by
  unfold zeroK; rw [if_neg (by omega)]
def unitK (n i : Int) : List Fq := if 0 ≤ i ∧ i < (zeroK n).length then (zeroK n).set i.toNat (fqo (some ((1 : Int) : Rat))) else []
theorem rep_snoc {α : Type} (k : Nat) (x : α) : List.replicate k x ++ [x] = List.replicate (k + 1) x := List.replicate_succ'.symm
set_option maxRecDepth 100000 in
set_option maxHeartbeats 6400000 in
theorem impl_VecZero (n : Int) (n0 : -9223372036854775808 ≤ n) (n1 : n ≤ 9223372036854775807) (w : World) :
    Calls Tryz.prog 57 #[.int .i64 n] w (VecR true (zeroK n) w) := by
  by_cases hno : n < 0 ∨ 40 < n
  · rw [zeroK_no hno]
    have R := hid (show VecR true [] w (.returned (.slice none 0 0)) w from ⟨_, _, _, rfl, VK_nil _ _ _ _, Below.refl _ _⟩)
    rcases hno with h | h
    · go_enter Tryz.func57, Tryz.ntmps57
      go_wp2
      go_ret
      exact R.out
    · have h0 : ¬ n < 0 := by omega
      go_enter Tryz.func57, Tryz.ntmps57
      go_wp2
      go_ret
      exact R.out
  · obtain ⟨N, rfl⟩ : ∃ N : Nat, n = N := ⟨n.toNat, by omega⟩
    have hN : N ≤ 40 := by omega
    rw [zeroK_yes hN]
    have h0 : ¬ (N : Int) < 0 := by omega
    have h4 : ¬ (40 : Int) < N := by omega
    clear hno n0 n1
    go_enter Tryz.func57, Tryz.ntmps57
    go_wp2
    go_loopw [3, 11] (fun v i wr => ∃ (k : Nat) (a : Option Addr) (c : Nat), k ≤ N ∧ i = .int .i64 k ∧ v = .slice a k c ∧ Hid (VK true wr (.slice a k c) (List.replicate k (fqo (some ((0 : Int) : Rat)))) w.heap.size wr.heap.size) ∧ Below w.heap.size w wr) (fun _ i _ => N - (intOf i).toNat)
    case atStart => exact ⟨0, none, 0, Nat.zero_le _, rfl, rfl, hid (VK_nil _ _ _ _), Below.refl _ _⟩
    case round =>
      obtain ⟨k, a, c, hk, rfl, rfl, hV, hbel⟩ := hrel
      have HB := hid hbel
      clear hbel
      by_cases hlt : k < N
      · have a1' : (0 : Int) ≤ k := by omega
        have a2 : (k : Int) < N := by omega
        go_wp2_with fail
        (with_reducible refine (int_o 0 (by decide) (by decide) _).mono ?_)
        rintro e w2 ⟨s2, a2', n2, c2, b2, m2, d2, rfl, hr, hb⟩
        have V2 := hid (hV.out.old hb)
        have R2 := hid hr
        have HB2 := hid ((HB.out.trans (hb.mono HB.out.size)).alloc (Nat.le_trans HB.out.size hb.size) (.cells #[.bool s2, .slice a2' n2 c2, .slice b2 m2 d2] 49))
        have hz := HB.out.size
        have hz2 := hb.size
        clear hr hb
        have PV := hid (V2.out.old (below_new' (o := .cells #[.bool s2, .slice a2' n2 c2, .slice b2 m2 d2] 49)))
        have PR := hid (R2.out.old (below_new' (o := .cells #[.bool s2, .slice a2' n2 c2, .slice b2 m2 d2] 49)))
        have PB := hid (heap_alloc_new w2 (.cells #[.bool s2, .slice a2' n2 c2, .slice b2 m2 d2] 49))
        have hlp := hlt
        go_wp2_with (at_builtin; refine wpList_push rfl _ _ rfl rfl PV.out (Nat.le_refl _) (by omega) PR.out rfl PB.out (by simp; omega) (by simp; omega) ?_)
        intro gp cp wp hvp hbp
        have HB3 := hid (HB2.out.trans hbp)
        have HV3 := hid hvp
        clear hvp hbp
        go_wp2
        go_roundw
        case rel => exact ⟨k + 1, some ⟨gp, 0, none⟩, cp, by omega, by go_num, by simp, hid (by simpa [rep_snoc] using HV3.out), HB3.out⟩
        case measure => simp [intOf]; omega
      · obtain rfl : k = N := by omega
        go_wp2
        go_ret
        exact ⟨_, _, _, rfl, hV.out, HB.out⟩
end Go.Proofs.YtamhmpjadnfpdaaGreat
