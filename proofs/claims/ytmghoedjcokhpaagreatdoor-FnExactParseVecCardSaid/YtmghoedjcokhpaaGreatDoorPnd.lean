/- ParseNat: the program's walk, and the law's. -/
import Derived.Test.YtmghoedjcokhpaaGreatDoorPnb
import Derived.Lib.AtoiErrMem
namespace Go.Proofs.YtmghoedjcokhpaaGreatDoor
open Go.RowKit
open Go.Lib (hid)
set_option linter.unusedVariables false

def AtoiP (n : Int) (w : World) (e : Ending) (w' : World) : Prop := e = .returned (.tuple #[.int .i64 n, .nilIface]) ∧ Below w.heap.size w w'
theorem atoi_part {s : ByteArray} (h : digs s = true) {f e : Nat} (hf : f < e) (he : e ≤ s.size) (h9 : e ≤ f + 9) (w : World) : Calls Tryz.prog 50 #[.string (s.extract f e)] w (AtoiP (seg s f e) w) := by
  have hz : (s.extract f e).size ≤ 18 := by
    have : (s.extract f e).data.toList.length = (s.extract f e).size := size_len _
    rw [part_list] at this
    simp only [List.length_take, List.length_drop] at this
    omega
  refine (Tryz.strconv_Atoi (s.extract f e) (seg s f e) hz (part_atoi h hf he) w).mono ?_
  rintro e w' ⟨he, t, rfl⟩
  exact ⟨he, Lib.bytesWorld_below w 5 t⟩
theorem zero_text {s : ByteArray} (h : s.size = 1) (h0 : s[0].toNat = 48) : s = ByteArray.mk #[48] := by
  have e : s[0] = 48 := UInt8.toNat_inj.mp (by simpa using h0)
  apply ByteArray.ext
  apply Array.ext
  · simpa using h
  · intro i h1 h2
    have : i = 0 := by simp at h2; omega
    subst this
    exact e

set_option maxRecDepth 100000 in
set_option maxHeartbeats 3200000 in
theorem impl_ParseNat (s : ByteArray) (hs : s.size ≤ 1048576) (w : World) : Calls Tryz.prog 18 #[.string s] w (ParseP (parseR s) (parseB s) w) := by
  have K := hid (impl_IsDigits s w)
  obtain ⟨R, hR⟩ : ∃ R, R = parseR s := ⟨_, rfl⟩
  obtain ⟨b, hb⟩ : ∃ b, b = parseB s := ⟨_, rfl⟩
  have HR := hid hR
  have HB := hid hb
  rw [← hR, ← hb]
  clear hR hb
  by_cases hz : s = ByteArray.mk #[48]
  · subst hz
    have hE := hid parse_zero
    clear K
    go_enter Tryz.func18, Tryz.ntmps18
    go_wp2
    go_ret2
    exact ParseP_mk rfl (by rw [HR.out, hE.out.2]) (by rw [HB.out, hE.out.1]) (Ints_nil _ _) (Below.refl _ _)
  have HZ := hid hz
  have z1 : (s.toList == [48]) = false := by
    rw [ByteArray.toList_eq]
    exact beq_eq_false_iff_ne.2 fun h => hz (ByteArray.ext (Array.toList_inj.1 h))
  by_cases h540 : 540 < s.size
  · have hE := hid (parseB_long h540)
    have hE2 := hid (parse_no hE.out)
    have h540' : (540 : Int) < s.size := by omega
    clear K
    go_enter Tryz.func18, Tryz.ntmps18
    go_wp2
    go_ret2
    exact ParseP_mk rfl (by rw [HR.out, hE2.out]) (by rw [HB.out, hE.out]) (Ints_nil _ _) (Below.refl _ _)
  have h540' : ¬ (540 : Int) < s.size := by omega
  cases hd : digs s with
  | false =>
    have hE := hid (parseB_digs hd)
    have hE2 := hid (parse_no hE.out)
    rw [hd] at K
    clear hd
    go_enter Tryz.func18, Tryz.ntmps18
    go_wp2_with fail
    refine K.out.mono ?_
    rintro e w1 ⟨rfl, pos, rfl⟩
    have hb1 : Below w.heap.size w (w.iter s pos) := (Below.refl _ _).alloc (Nat.le_refl _) _
    go_wp2
    go_ret2
    exact ParseP_mk rfl (by rw [HR.out, hE2.out]) (by rw [HB.out, hE.out]) (Ints_nil _ _) hb1
  | true =>
    have HD := hid hd
    have hp0 := digs_pos hd
    have hq0 : (0 : Int) < s.size := by omega
    rw [hd] at K
    clear hd
    by_cases h48 : s[0].toNat = 48
    · have hz1 : 1 < s.size := by
        rcases Nat.lt_or_ge 1 s.size with h | h
        · exact h
        · exact absurd (zero_text (by omega) h48) hz
      have hE := hid (parseB_zero hz1 h48)
      have hE2 := hid (parse_no hE.out)
      have hz3 : ((s[0].toNat : Int) == 48) = true := by simp [h48]
      clear h48
      go_enter Tryz.func18, Tryz.ntmps18
      go_wp2_with fail
      refine K.out.mono ?_
      rintro e w1 ⟨rfl, pos, rfl⟩
      have hb1 : Below w.heap.size w (w.iter s pos) := (Below.refl _ _).alloc (Nat.le_refl _) _
      go_wp2
      go_ret2
      exact ParseP_mk rfl (by rw [HR.out, hE2.out]) (by rw [HB.out, hE.out]) (Ints_nil _ _) hb1
    · have hE := hid (parseB_yes HD.out (by omega) (.inr fun _ => h48))
      have hE2 := hid (parseR_plain HD.out hE.out (fun e => h48 (by rw [e]; rfl)))
      obtain ⟨i3, hi3, hz0, hz1, hz2⟩ := info_parts Tryz.info3
      have hz3 : ((s[0].toNat : Int) == 48) = false := by
        simp
        intro e
        exact h48 (by omega)
      clear h48 hz
      obtain ⟨B, hBB⟩ : ∃ B, B = w.heap.size := ⟨_, rfl⟩
      have HBB := hid hBB
      clear hBB
      go_enter Tryz.func18, Tryz.ntmps18
      go_wp2_with fail
      refine K.out.mono ?_
      rintro e w1 ⟨rfl, pos, rfl⟩
      have B0 := hid (show Below B w (w.iter s pos) by rw [HBB.out]; exact (Below.refl _ _).alloc (Nat.le_refl _) _)
      generalize w.iter s pos = w1 at B0 ⊢
      go_wp2
      clear z1
      go_loopw [4, 5] (fun out x wr => ∃ (e : Nat) (z : Int) (P : List Int), x = .int .i64 z ∧ z ≤ e ∧ (e : Int) ≤ max z 0 ∧ -9 ≤ z ∧ e ≤ s.size ∧ Ints wr B out P ∧ Hid (P ++ rest s e = rest s s.size) ∧ Below B w wr) (fun _ x _ => (intOf x).toNat)
      case atStart => exact ⟨s.size, s.size, [], rfl, by omega, by omega, by omega, Nat.le_refl _, Ints_nil _ _, hid rfl, B0.out⟩
      case round =>
        clear B0
        obtain ⟨e, z, P, rfl, ze, ez, z9, he, hI, hPr, hBl⟩ := hrel
        have HI := hid hI
        have HBL := hid hBl
        have hb0 := hid (show B ≤ wr.heap.size by have := hBl.size; have := HBB.out; omega)
        have hPl := rest_part hPr.out
        have hPl2 : P.length ≤ 1000000 := by omega
        clear hI hBl hPl
        by_cases hz0' : 0 < z
        · obtain rfl : z = e := by omega
          have he0 : e ≠ 0 := by omega
          have HST := hid (rest_step hPr.out he0)
          obtain ⟨f, hf⟩ : ∃ f, f = e - 9 := ⟨_, rfl⟩
          have hfe : f < e := by omega
          have hf9 : e ≤ f + 9 := by omega
          rw [← hf] at HST
          have HF := hid hf
          have KA := hid (fun W => atoi_part HD.out hfe he hf9 W)
          obtain ⟨n, hn⟩ : ∃ n, n = seg s f e := ⟨_, rfl⟩
          have hn9 := seg_small HD.out he (Nat.le_of_lt hfe) (by omega)
          rw [← hn] at HST KA hn9
          clear hn
          have hmx : max (0 : Int) ((e : Int) - 9) = f := by omega
          have hfn : ((f : Nat) : Int).toNat = f := by omega
          have hen : ((e : Nat) : Int).toNat = e := by omega
          have hf0 : (0 : Int) ≤ f := by omega
          have hfe' : (f : Int) ≤ e := by omega
          have hes : (e : Int) ≤ s.size := by omega
          clear hf
          go_wp2_with fail
          refine (KA.out wr).mono ?_
          rintro e' w2 ⟨rfl, b2⟩
          have HI := hid (Ints_below HI.out b2 (fun k hk => (Ints_lt HI.out k hk).2))
          have HBL := hid (HBL.out.trans (b2.mono hb0.out))
          have hb0 := hid (show B ≤ w2.heap.size by have := b2.size; have := hb0.out; omega)
          clear b2 hmx
          go_wp2_with (at_builtin; refine wpList_append_own _ rfl _ _ 34 rfl B 3 i3 (.int .i64 0) 1 8 Tryz.underlying34 hi3 hz0 hz1 hz2 rfl (by decide) _ _ _ rfl (World.ownsRow.alloc (show w2.ownsRow B 3 1 u4 _ _ from HI.out) _) ⟨w2.heap.size, 0, none⟩ 1 1 [.int .i64 (n : Int)] rfl rfl ?_ ?_ ?_ ?_ ?_ ?_)
          any_goals (first | rfl | exact cell_one_new _ _ _ | (intro u hu; simp at hu; subst hu; rfl) | (unfold maxLen; omega) | omega | (have := hb0.out; simp; omega))
          intro v' w3 hown' hgrow _
          have R := hid (Ints_app HI.out HBL.out hb0.out hown' hgrow)
          clear hown' hgrow
          go_wp2
          go_roundw
          case rel =>
            have hff := HF.out
            exact ⟨f, (e : Int) - 9, P ++ [(n : Int)], rfl, by omega, by omega, by omega, by omega, R.out.1, hid (by rw [hff]; rw [hff] at HST; exact HST.out), R.out.2⟩
          case measure => simp [intOf]; omega
        · obtain rfl : e = 0 := by omega
          have hE3 := hid (show P = rest s s.size by have := hPr.out; rwa [rest_zero, List.append_nil] at this)
          go_wp2
          go_ret2
          exact ParseP_mk HBB.out (by rw [HR.out, hE2.out, hE3.out]) (by rw [HB.out, hE.out]) HI.out HBL.out

theorem parseR_len {s : ByteArray} : (parseR s).length ≤ 1000000 := by
  cases h : parseB s with
  | false => rw [parse_no h]; simp
  | true =>
    rw [parseR_yes h]
    have hs : s.size ≤ 540 := by
      unfold parseB at h
      simp only [Bool.and_eq_true, decide_eq_true_eq] at h
      exact h.1.2
    have hd : digs s = true := by
      unfold parseB at h
      simp only [Bool.and_eq_true, decide_eq_true_eq] at h
      exact h.1.1
    have h1 := rest_len s s.size
    refine Nat.le_trans ((Can_len (Can_rep _) (k := (rest s s.size).length)).2 ?_) (by omega)
    rw [val_rep]
    have h2 := val_lt (rest_lim hd s.size (Nat.le_refl _))
    have h3 := val_nonneg (rest_lim hd s.size (Nat.le_refl _))
    omega

end Go.Proofs.YtmghoedjcokhpaaGreatDoor
