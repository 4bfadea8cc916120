/- ParseNat: the reference's and the program's walks, and the law's. -/
import Derived.Test.YtmghoedjcokhpaaGreatDoorPna
import Derived.Test.YtmghoedjcokhpaaGreatDoorFna
namespace Go.Proofs.YtmghoedjcokhpaaGreatDoor
open Go.RowKit
open Go.Lib (hid)
set_option linter.unusedVariables false

def ParseP (L : List Int) (b : Bool) (w : World) (e : Ending) (w' : World) : Prop := ∃ v, e = .returned (.tuple #[v, .bool b]) ∧ Ints w' w.heap.size v L ∧ Below w.heap.size w w'
theorem ParseP_mk {L M : List Int} {b c : Bool} {w w' : World} {v : Value} {B : Nat} (hB : B = w.heap.size) (hL : M = L) (hb : c = b) (hI : Ints w' B v M) (hbl : Below B w w') : ParseP L b w (.returned (.tuple #[v, .bool c])) w' := by
  subst hB; subst hL; subst hb; exact ⟨v, rfl, hI, hbl⟩
theorem below_new {w : World} {o : Go.Obj} : Below w.heap.size w (w.alloc o) := (Below.refl _ _).alloc (Nat.le_refl _) _

set_option maxRecDepth 100000 in
set_option maxHeartbeats 3200000 in
theorem spec_ParseNat (s : ByteArray) (hs : s.size ≤ 1048576) (w : World) : Calls Tryz.prog 78 #[.string s] w (ParseP (parseR s) (parseB s) w) := by
  have K := hid (spec_IsDigits s (by unfold maxLen; omega) w)
  obtain ⟨R, hR⟩ : ∃ R, R = parseR s := ⟨_, rfl⟩
  obtain ⟨b, hb⟩ : ∃ b, b = parseB s := ⟨_, rfl⟩
  have HR := hid hR
  have HB := hid hb
  rw [← hR, ← hb]
  clear hR hb
  cases hd : digs s with
  | false =>
    have hE := hid (parseB_digs hd)
    have hE2 := hid (parse_no hE.out)
    rw [hd] at K
    clear hd
    go_enter Tryz.func78, Tryz.ntmps78
    go_wp2_with fail
    refine K.out.mono ?_
    rintro e w1 ⟨rfl, rfl⟩
    go_wp2
    go_ret2
    exact ParseP_mk rfl (by rw [HR.out, hE2.out]) (by rw [HB.out, hE.out]) (Ints_nil _ _) (Below.refl _ _)
  | true =>
    have HD := hid hd
    have hp0 := digs_pos hd
    have hq0 : (0 : Int) < s.size := by omega
    rw [hd] at K
    clear hd
    by_cases h540 : 540 < s.size
    · have hE := hid (parseB_long h540)
      have hE2 := hid (parse_no hE.out)
      have h540' : (540 : Int) < s.size := by omega
      go_enter Tryz.func78, Tryz.ntmps78
      go_wp2_with fail
      refine K.out.mono ?_
      rintro e w1 ⟨rfl, rfl⟩
      go_wp2
      go_ret2
      exact ParseP_mk rfl (by rw [HR.out, hE2.out]) (by rw [HB.out, hE.out]) (Ints_nil _ _) (Below.refl _ _)
    have h540' : (s.size : Int) ≤ 540 := by omega
    by_cases hz : 1 < s.size ∧ s[0].toNat = 48
    · obtain ⟨hz1, hz2⟩ := hz
      have hE := hid (parseB_zero hz1 hz2)
      have hE2 := hid (parse_no hE.out)
      have hz1' : (1 : Int) < s.size := by omega
      have hz3 : ((s[0].toNat : Int) == 48) = true := by simp [hz2]
      clear hz2
      go_enter Tryz.func78, Tryz.ntmps78
      go_wp2_with fail
      refine K.out.mono ?_
      rintro e w1 ⟨rfl, rfl⟩
      go_wp2
      go_ret2
      exact ParseP_mk rfl (by rw [HR.out, hE2.out]) (by rw [HB.out, hE.out]) (Ints_nil _ _) (Below.refl _ _)
    · have hE := hid (parseB_yes HD.out (by omega) (by
        by_cases h1 : s.size ≤ 1
        · exact .inl h1
        · exact .inr fun _ e => hz ⟨by omega, e⟩))
      have hE2 := hid (parseR_yes hE.out)
      obtain ⟨i3, hi3, hz0, hz1, hz2⟩ := info_parts Tryz.info3
      have hcase : (s.size : Int) ≤ 1 ∨ (1 < (s.size : Int) ∧ ((s[0].toNat : Int) == 48) = false) := by
        by_cases h1 : s.size ≤ 1
        · exact .inl (by omega)
        · refine .inr ⟨by omega, ?_⟩
          simp
          intro e
          exact hz ⟨by omega, by omega⟩
      clear hz
      obtain ⟨B, hBB⟩ : ∃ B, B = w.heap.size := ⟨_, rfl⟩
      have HBB := hid hBB
      clear hBB
      have I0 := hid (Ints_lit0 (w := w) (B := B) HBB.out)
      have B0 := hid (show Below B w (w.alloc (.cells #[] 3)) by rw [HBB.out]; exact below_new)
      rcases hcase with hcase | ⟨hc1, hc2⟩
      all_goals
        go_enter Tryz.func78, Tryz.ntmps78
        go_wp2_with fail
        refine K.out.mono ?_
        rintro e w1 ⟨rfl, rfl⟩
        go_wp2
        go_loopw [4, 5] (fun out x wr => ∃ (e : Nat) (z : Int) (P : List Int), x = .int .i64 z ∧ z ≤ e ∧ (e : Int) ≤ max z 0 ∧ -9 ≤ z ∧ e ≤ s.size ∧ Ints wr B out P ∧ Hid (Lim P) ∧ Hid (P ++ rest s e = rest s s.size) ∧ Below B w wr) (fun _ x _ => (intOf x).toNat)
        case atStart => exact ⟨s.size, s.size, [], rfl, by omega, by omega, by omega, Nat.le_refl _, I0.out, hid Lim_nil, hid rfl, B0.out⟩
        case round =>
          clear I0 B0
          obtain ⟨e, z, P, rfl, ze, ez, z9, he, hI, hPL, hPr, hBl⟩ := hrel
          have HI := hid hI
          have HBL := hid hBl
          have hb0 := hid (show B ≤ wr.heap.size by have := hBl.size; have := HBB.out; omega)
          have hPl := rest_part hPr.out
          have hPl2 : P.length ≤ 1000000 := by omega
          clear hI hBl hPl
          by_cases hz0' : 0 < z
          · obtain rfl : z = e := by omega
            have he0 : e ≠ 0 := by omega
            have HST := hid (rest_step hPr.out he0)
            have hsm := seg_small HD.out he (show e - 9 ≤ e by omega) (by omega)
            obtain ⟨f, hf⟩ : ∃ f, f = e - 9 := ⟨_, rfl⟩
            have hfe : f ≤ e := by omega
            have hf9 : e ≤ f + 9 := by omega
            rw [← hf] at HST hsm
            have HF := hid hf
            by_cases h9 : e < 9
            · have HIE := hid (show f = 0 by have := HF.out; omega)
              have h9' : (e : Int) - 9 < 0 := by omega
              clear hf
              go_wp2
              go_loop [7, 8] (fun y x => ∃ (i : Nat), f ≤ i ∧ i ≤ e ∧ x = .int .i64 i ∧ y = .int .i64 (seg s f i)) (fun _ x => e - (intOf x).toNat)
              case atStart => exact ⟨f, Nat.le_refl _, hfe, congrArg (Value.int .i64) (by have := HIE.out; omega), by simp [seg_zero]⟩
              case round =>
                obtain ⟨i, hfi, hi, rfl, rfl⟩ := hrel
                by_cases hie : i < e
                · have his : i < s.size := by omega
                  have hdg := isD_of HD.out his
                  have hsg := hid (seg_step (s := s) hfi his)
                  have hlt := seg_small HD.out (show i ≤ s.size by omega) hfi (by omega)
                  obtain ⟨n, hn⟩ : ∃ n, n = seg s f i := ⟨_, rfl⟩
                  rw [← hn] at hsg hlt ⊢
                  clear hn
                  obtain ⟨d, hdd⟩ : ∃ d, d = s[i].toNat := ⟨_, rfl⟩
                  have hdd' : s[i].toNat = d := hdd.symm
                  have hx1 : (0 : Int) ≤ i := by omega
                  have hx2 : (i : Int) < s.size := by omega
                  have hx3 : (i : Int) < e := by omega
                  rw [hdd'] at hsg hdg
                  clear hdd
                  go_wp2
                  go_round
                  case rel => exact ⟨i + 1, by omega, by omega, by go_num, congrArg (Value.int .i64) (by rw [hsg.out]; omega)⟩
                  case measure => simp [intOf]; omega
                · obtain rfl : i = e := by omega
                  obtain ⟨n, hn⟩ : ∃ n, n = seg s f i := ⟨_, rfl⟩
                  rw [← hn] at HST hsm ⊢
                  clear hn
                  go_wp2_with (at_builtin; refine wpList_append_own _ rfl _ _ 34 rfl B 3 i3 (.int .i64 0) 1 8 Tryz.underlying34 hi3 hz0 hz1 hz2 rfl (by decide) _ _ _ rfl (World.ownsRow.alloc (show wr.ownsRow B 3 1 u4 _ _ from HI.out) _) ⟨wr.heap.size, 0, none⟩ 1 1 [.int .i64 (n : Int)] rfl rfl ?_ ?_ ?_ ?_ ?_ ?_)
                  any_goals (first | rfl | exact cell_one_new _ _ _ | (intro u hu; simp at hu; subst hu; rfl) | (unfold maxLen; omega) | omega | (have := hb0.out; simp; omega))
                  intro v' w1 hown' hgrow _
                  have R := hid (Ints_app HI.out HBL.out hb0.out hown' hgrow)
                  clear hown' hgrow
                  go_wp2
                  go_roundw
                  case rel =>
                    have hff := HF.out
                    exact ⟨f, (i : Int) - 9, P ++ [(n : Int)], rfl, by omega, by omega, by omega, by omega, R.out.1, hid (Lim_append hPL.out (Lim_one (by omega) (by omega))), hid (by rw [hff]; rw [hff] at HST; exact HST.out), R.out.2⟩
                  case measure => simp [intOf]; omega
            · try (exfalso; omega)
              all_goals
                have HIE := hid (show (f : Int) = (e : Int) - 9 by have := HF.out; omega)
                have h9' : ¬ (e : Int) - 9 < 0 := by omega
                clear hf
                go_wp2
                go_loop [7, 8] (fun y x => ∃ (i : Nat), f ≤ i ∧ i ≤ e ∧ x = .int .i64 i ∧ y = .int .i64 (seg s f i)) (fun _ x => e - (intOf x).toNat)
                case atStart => exact ⟨f, Nat.le_refl _, hfe, congrArg (Value.int .i64) (by have := HIE.out; omega), by simp [seg_zero]⟩
                case round =>
                  obtain ⟨i, hfi, hi, rfl, rfl⟩ := hrel
                  by_cases hie : i < e
                  · have his : i < s.size := by omega
                    have hdg := isD_of HD.out his
                    have hsg := hid (seg_step (s := s) hfi his)
                    have hlt := seg_small HD.out (show i ≤ s.size by omega) hfi (by omega)
                    obtain ⟨n, hn⟩ : ∃ n, n = seg s f i := ⟨_, rfl⟩
                    rw [← hn] at hsg hlt ⊢
                    clear hn
                    obtain ⟨d, hdd⟩ : ∃ d, d = s[i].toNat := ⟨_, rfl⟩
                    have hdd' : s[i].toNat = d := hdd.symm
                    have hx1 : (0 : Int) ≤ i := by omega
                    have hx2 : (i : Int) < s.size := by omega
                    have hx3 : (i : Int) < e := by omega
                    rw [hdd'] at hsg hdg
                    clear hdd
                    go_wp2
                    go_round
                    case rel => exact ⟨i + 1, by omega, by omega, by go_num, congrArg (Value.int .i64) (by rw [hsg.out]; omega)⟩
                    case measure => simp [intOf]; omega
                  · obtain rfl : i = e := by omega
                    obtain ⟨n, hn⟩ : ∃ n, n = seg s f i := ⟨_, rfl⟩
                    rw [← hn] at HST hsm ⊢
                    clear hn
                    go_wp2_with (at_builtin; refine wpList_append_own _ rfl _ _ 34 rfl B 3 i3 (.int .i64 0) 1 8 Tryz.underlying34 hi3 hz0 hz1 hz2 rfl (by decide) _ _ _ rfl (World.ownsRow.alloc (show wr.ownsRow B 3 1 u4 _ _ from HI.out) _) ⟨wr.heap.size, 0, none⟩ 1 1 [.int .i64 (n : Int)] rfl rfl ?_ ?_ ?_ ?_ ?_ ?_)
                    any_goals (first | rfl | exact cell_one_new _ _ _ | (intro u hu; simp at hu; subst hu; rfl) | (unfold maxLen; omega) | omega | (have := hb0.out; simp; omega))
                    intro v' w1 hown' hgrow _
                    have R := hid (Ints_app HI.out HBL.out hb0.out hown' hgrow)
                    clear hown' hgrow
                    go_wp2
                    go_roundw
                    case rel =>
                      have hff := HF.out
                      exact ⟨f, (i : Int) - 9, P ++ [(n : Int)], rfl, by omega, by omega, by omega, by omega, R.out.1, hid (Lim_append hPL.out (Lim_one (by omega) (by omega))), hid (by rw [hff]; rw [hff] at HST; exact HST.out), R.out.2⟩
                    case measure => simp [intOf]; omega
          · obtain rfl : e = 0 := by omega
            have hE3 := hid (show P = rest s s.size by have := hPr.out; rwa [rest_zero, List.append_nil] at this)
            have hpl3 : P.length ≤ 1073741824 := by omega
            go_wp2_with fail
            refine (l02Trim_own _ u4 P hpl3 hPL.out wr HI.out).mono ?_
            rintro e w2 ⟨⟨u, rfl, hU, -⟩, rfl⟩
            have HU := hid hU
            clear hU
            go_wp2
            go_ret2
            exact ParseP_mk HBB.out (by rw [HR.out, hE2.out, hE3.out]) (by rw [HB.out, hE.out]) HU.out HBL.out
end Go.Proofs.YtmghoedjcokhpaaGreatDoor
