/- A quotient's limb taken out, and the remainder. -/
import Derived.Test.YtdlkiklhffafhabDoorEsy
import Derived.Test.YtdlkiklhffafhabDoorImq
namespace Go.Proofs.YtdlkiklhffafhabDoor
open Go.RowKit
open Go.Lib (hid)
set_option linter.unusedVariables false
variable {Q : Rest}

theorem drop_row {w : World} {g n c : Nat} {L : List Int} (h : Ints w 0 (.slice (some ⟨g, 0, none⟩) n c) L) (s : Nat) (hg : g < w.heap.size) : RowI w (some ⟨g, s, none⟩) (L.length - s) (L.drop s) :=
  ⟨by simp, fun h0 => ⟨g, s, rfl, hg, fun i hi => by
    rw [List.length_drop] at hi
    rw [List.getElem_drop]
    exact Ints_cell h (by omega)⟩⟩
theorem cont_iff {L M : List Int} {s : Nat} (hL : Lim L) (hs : s ≤ L.length) : val M ≤ val (L.drop s) ↔ val M * pw s ≤ val L := by
  have e := val_split L hs
  have t := take_lt hL s
  have p := pw_pos s
  have f : pw s * val (L.drop s) = val (L.drop s) * pw s := Int.mul_comm _ _
  constructor
  · intro h
    have := Int.mul_le_mul_of_nonneg_right h (show 0 ≤ pw s by omega)
    omega
  · intro h
    have h2 : val M * pw s < (val (L.drop s) + 1) * pw s := by rw [Int.add_mul]; omega
    have := Int.lt_of_mul_lt_mul_right h2 (by omega)
    omega
theorem cont_no {L M : List Int} {s : Nat} (hL : Lim L) (hM : Can M) (hne : M ≠ []) (hs : L.length < s) : ¬ val M * pw s ≤ val L := by
  have h1 := val_lt hL
  have h2 := pw_le (m := L.length) (n := s) (by omega)
  have h3 := Can_ge hM hne
  have h4 := pw_pos (M.length - 1)
  have h5 : 1 * pw s ≤ val M * pw s := Int.mul_le_mul_of_nonneg_right (by omega) (by have := pw_pos s; omega)
  omega
theorem cmp_ge {A M : List Int} (hA : Can A) (hM : Can M) : 0 ≤ cmpL A M ↔ val M ≤ val A := by
  rw [cmpL_val hA hM]
  rcases sgn_cases (val A - val M) with ⟨a, b⟩ | ⟨a, b⟩ | ⟨a, b⟩ <;> rw [b] <;> constructor <;> intro _ <;> omega

set_option maxRecDepth 100000 in
set_option maxHeartbeats 1600000 in
theorem contains_any (S : Nat → Prop) (N : Nat) (v : Value) (L M : List Int) (am : Option Addr) (nm cm : Nat) (s : Nat) (hs : s ≤ 100000) (hl : L.length ≤ 100000) (hm : M.length ≤ 100000) (hL : Can L) (hM : Can M) (hne : M ≠ [])
    (w : World) (h : IsNat Q w S N v L) (hr : RowI w am nm M) :
    Calls Tryd.prog 74 #[.pointer (some ⟨N, 0, none⟩), .slice am nm cm, .int .i64 s] w (Drew (.bool (decide (val M * pw s ≤ val L))) w) := by
  obtain ⟨b, hb⟩ : ∃ b, b = decide (val M * pw s ≤ val L) := ⟨_, rfl⟩
  have HB := hid hb
  rw [← hb]
  clear hb
  have hc := h.cell
  have HI := hid h.ints
  by_cases hsl : L.length < s
  · have hE := hid (HB.out.trans (decide_eq_false (cont_no hL.1 hM hne hsl)))
    obtain ⟨a, c, rfl, -, -, -⟩ := Ints_form h.ints
    have h1 : ¬ (s : Int) ≤ L.length := by omega
    clear h hr hL hM hne
    go_enter Tryd.func74, Tryd.ntmps74
    go_wp2
    go_ret
    exact ⟨ret_bool hE.out.symm, 0, rfl⟩
  have h1 : (s : Int) ≤ L.length := by omega
  have hdc := hid (cmp_ge (Can_drop hL s) hM)
  have hci := hid (cont_iff (M := M) hL.1 (show s ≤ L.length by omega))
  have key : ∀ z : Int, z = cmpL (L.drop s) M → (0 ≤ z ∧ b = true ∨ z < 0 ∧ b = false) := by
    intro z hz
    subst hz
    by_cases h0 : 0 ≤ cmpL (L.drop s) M
    · exact .inl ⟨h0, HB.out.trans (decide_eq_true (hci.out.1 (hdc.out.1 h0)))⟩
    · exact .inr ⟨by omega, HB.out.trans (decide_eq_false (fun hh => h0 (hdc.out.2 (hci.out.2 hh))))⟩
  have KEY := hid key
  clear key
  have hdl : (L.drop s).length ≤ 1073741824 := by rw [List.length_drop]; omega
  rcases Ints_cases h.ints with ⟨rfl, rfl⟩ | ⟨g, c, rfl, -, hg, hcl⟩
  · obtain rfl : s = 0 := by simp at hsl; omega
    have KC := hid (compareLimbs_any none am 0 nm 0 cm [] M (by decide) (by omega) w (RowI_nil _ _) hr)
    rw [show (([] : List Int).drop 0) = [] from rfl] at KEY
    clear h hr hL hM hne HI
    go_enter Tryd.func74, Tryd.ntmps74
    go_wp2_with fail
    refine KC.out.mono ?_
    rintro e w1 ⟨rfl, d, rfl⟩
    obtain ⟨z, hz⟩ : ∃ z, z = cmpL [] M := ⟨_, rfl⟩
    have K2 := hid (KEY.out z hz)
    rw [← hz]
    clear hz
    rcases K2.out with ⟨hz, hE⟩ | ⟨hz, hE⟩
    · have hE := hid hE
      go_wp2
      go_ret
      exact ⟨ret_bool hE.out.symm, d, rfl⟩
    · have hE := hid hE
      have hz' : ¬ 0 ≤ z := by omega
      go_wp2
      go_ret
      exact ⟨ret_bool (by rw [hE.out]; first | rfl | exact decide_eq_false (by omega)), d, rfl⟩
  · have hcs : (s : Int) ≤ c := by omega
    have hts : ((s : Nat) : Int).toNat = s := by omega
    have hs0 : (0 : Int) ≤ s := by omega
    by_cases hce : c = s
    · subst hce
      have hlc : L.length = c := by omega
      have hdn : L.drop c = [] := List.drop_eq_nil_of_le (by omega)
      have KC := hid (compareLimbs_any (some ⟨g, 0, none⟩) am 0 nm 0 cm [] M (by decide) (by omega) w (RowI_nil _ _) hr)
      rw [hdn] at KEY
      have hl0 : L.length - c = 0 := by omega
      have HLC := hid hlc
      clear h hr hL hM hne HI hdn hlc
      go_enter Tryd.func74, Tryd.ntmps74
      go_wp2_with fail
      refine KC.out.mono ?_
      rintro e w1 ⟨rfl, d, rfl⟩
      obtain ⟨z, hz⟩ : ∃ z, z = cmpL [] M := ⟨_, rfl⟩
      have K2 := hid (KEY.out z hz)
      rw [← hz]
      clear hz
      rcases K2.out with ⟨hz, hE⟩ | ⟨hz, hE⟩
      · have hE := hid hE
        go_wp2
        go_ret
        exact ⟨ret_bool hE.out.symm, d, rfl⟩
      · have hE := hid hE
        have hz' : ¬ 0 ≤ z := by omega
        go_wp2
        go_ret
        exact ⟨ret_bool (by rw [hE.out]; first | rfl | exact decide_eq_false (by omega)), d, rfl⟩
    · have hce' : ¬ (c : Int) = s := by omega
      have KC := hid (fun cc => compareLimbs_any (some ⟨g, s, none⟩) am (L.length - s) nm cc cm (L.drop s) M hdl (by omega) w (drop_row HI.out s hg) hr)
      clear h hr hL hM hne HI
      go_enter Tryd.func74, Tryd.ntmps74
      go_wp2_with fail
      refine (KC.out _).mono ?_
      rintro e w1 ⟨rfl, d, rfl⟩
      obtain ⟨z, hz⟩ : ∃ z, z = cmpL (L.drop s) M := ⟨_, rfl⟩
      have K2 := hid (KEY.out z hz)
      rw [← hz]
      clear hz
      rcases K2.out with ⟨hz, hE⟩ | ⟨hz, hE⟩
      · have hE := hid hE
        go_wp2
        go_ret
        exact ⟨ret_bool hE.out.symm, d, rfl⟩
      · have hE := hid hE
        have hz' : ¬ 0 ≤ z := by omega
        go_wp2
        go_ret
        exact ⟨ret_bool (by rw [hE.out]; first | rfl | exact decide_eq_false (by omega)), d, rfl⟩
end Go.Proofs.YtdlkiklhffafhabDoor
