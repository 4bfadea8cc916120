/- ParseInt of the program: it returns the int whose numeral the text is, or says that there is none; the law's walk. -/
import Derived.Test.YthkhnifgkcgkmaaDoorPar
import Derived.Lib.SmallJoins
import Derived.Lib.AtoiAllCases
namespace Go.Proofs.YthkhnifgkcgkmaaDoor
open Go.RowKit
open Go.Lib (hid)

/-- Package-level variable number g holds an error or nil. -/
def ErrCell (w : World) (g : Nat) : Prop := ∃ ev, w.cell? ⟨g, 0, none⟩ = some ev ∧ (ev = .nilIface ∨ ∃ te pe, ev = .iface te pe)
theorem ErrCell_below {w w' : World} {g : Nat} (h : ErrCell w g) (hb : Below w.heap.size w w') : ErrCell w' g := by
  obtain ⟨ev, hc, he⟩ := h
  exact ⟨ev, (hb.cell (p := ⟨g, 0, none⟩) (World.block_lt_of_cell? w _ hc)).trans hc, he⟩

def AtoiPost (s : ByteArray) (w : World) (e : Ending) (w' : World) : Prop :=
  (∃ v, inR v ∧ Lib.atoiAll s.data.toList = .ok v ∧ e = .returned (.tuple #[.int .i64 v, .nilIface]) ∧ Below w.heap.size w w') ∨
  ((∀ v, Lib.atoiAll s.data.toList ≠ .ok v) ∧ ∃ (n : Int) (p : Value), e = .returned (.tuple #[.int .i64 n, .iface 70 p]) ∧ Below w.heap.size w w')
theorem atoi_any (s : ByteArray) (hs : s.size ≤ 1048576) (w : World) (e0 : ErrCell w 0) (e1 : ErrCell w 1) : Calls Tryd.prog 25 #[.string s] w (AtoiPost s w) := by
  cases h : Lib.atoiAll s.data.toList
  case ok v =>
    refine (Tryd.strconv_Atoi_ok s (by omega) v h w).mono fun e w' hh => .inl ⟨v, Lib.atoiAll_bounds h, h, hh.1, ?_⟩
    rcases hh.2 with rfl | ⟨t, rfl⟩
    · exact Below.refl _ _
    · exact Joins.below_bytesWorld _ _ _ _ (Nat.le_refl _)
  case range =>
    obtain ⟨ev, hc, he⟩ := e1
    refine (Tryd.strconv_Atoi_range s (by omega) h ev w hc he).mono fun e w' hh => .inr ⟨fun v hv => ?_, ?_⟩
    · rw [hv] at h; cases h
    · obtain ⟨N, h1, _, _, h4⟩ := hh
      exact ⟨_, _, h1, h4⟩
  obtain ⟨ev, hc, he⟩ := e0
  refine (Any.strconv_Atoi_syntax Tryd.laysC172 s (by omega) h ev w hc he).mono fun e w' hh => .inr ⟨fun v hv => ?_, ?_⟩
  · rw [hv] at h; cases h
  · obtain ⟨N, h1, _, _, h4⟩ := hh
    exact ⟨_, _, h1, h4⟩
theorem none_atoi {s : ByteArray} (h : ∀ v, Lib.atoiAll s.data.toList ≠ .ok v) : PIok s 0 false :=
  .inr ⟨rfl, rfl, fun v hv hs => h v (by rw [hs]; exact atoi_itoa hv)⟩
theorem none_other {s : ByteArray} {v : Int} (h : Lib.atoiAll s.data.toList = .ok v) (hne : bts (Lib.itoa v) ≠ s) : PIok s 0 false :=
  .inr ⟨rfl, rfl, fun u hu hs => by
    have h1 : Lib.atoiAll s.data.toList = .ok u := by rw [hs]; exact atoi_itoa hu
    rw [h] at h1
    injection h1 with h2
    exact hne (by rw [h2]; exact hs.symm)⟩

set_option maxRecDepth 100000 in
set_option maxHeartbeats 1600000 in
theorem impl_ParseInt (s : ByteArray) (hs : s.size ≤ 1048576) (w : World) (e0 : ErrCell w 0) (e1 : ErrCell w 1) (hp : Pow10 w) (hg : 3 < w.heap.size) : Calls Tryd.prog 16 #[.string s] w (PIPost s w) := by
  have KA := hid (atoi_any s hs w e0 e1)
  have HP := hid hp
  clear e0 e1 hp
  go_enter Tryd.func16, Tryd.ntmps16
  go_wp2_with fail
  refine KA.out.mono ?_
  rintro e w1 (⟨v, hv, ha, rfl, hb⟩ | ⟨hno, n, p, rfl, hb⟩)
  · have hp1 : Pow10 w1 := var?_below hb gPow (by omega) HP.out
    have KF := hid (impl_FormatInt v hv.1 hv.2 w1 hp1)
    clear hp1
    obtain ⟨R, hR⟩ : ∃ R, R = bts (Lib.itoa v) := ⟨_, rfl⟩
    rw [← hR] at KF
    have HV := hid hv
    have HA := hid ha
    clear hv ha
    by_cases heq : R = s
    · have HE := hid (some_here (s := s) (n := v) HV.out (by rw [← hR]; exact heq))
      have hqq : (R.toList == s.toList) = true := by rw [heq]; simp
      clear hR heq
      go_wp2_with fail
      refine KF.out.mono ?_
      rintro e w2 ⟨rfl, hb2⟩
      go_wp2_with fail
      go_ret2
      exact ⟨_, true, rfl, HE.out, hb.trans (hb2.mono hb.size)⟩
    · have HE := hid (none_other HA.out (by rw [← hR]; exact heq))
      have hqq : (R.toList == s.toList) = false := by
        rw [ByteArray.toList_eq, ByteArray.toList_eq]
        simp only [beq_eq_false_iff_ne, ne_eq]
        exact fun h => heq (WideShapes.bytes_inj h)
      clear hR heq
      go_wp2_with fail
      refine KF.out.mono ?_
      rintro e w2 ⟨rfl, hb2⟩
      go_wp2_with fail
      go_ret2
      exact ⟨0, false, rfl, HE.out, hb.trans (hb2.mono hb.size)⟩
  · have HN := hid (none_atoi hno)
    clear hno
    go_wp2_with fail
    go_ret2
    exact ⟨0, false, rfl, HN.out, hb⟩

set_option maxRecDepth 100000 in
set_option maxHeartbeats 1600000 in
theorem law_ParseInt (s : ByteArray) (w : World) (e0 : ErrCell w 0) (e1 : ErrCell w 1) (hp : Pow10 w) (hg : 3 < w.heap.size) :
    Calls Tryd.prog 5 #[.string s] w fun e w' => e = .returned (.bool true) ∧ Below w.heap.size w w' := by
  by_cases hs : 1048576 < (s.size : Int)
  · clear e0 e1 hp
    go_enter Tryd.func5, Tryd.ntmps5
    go_wp2_with fail
    go_ret
    exact ⟨rfl, Below.refl _ _⟩
  · have K1 := hid (spec_ParseInt s (by omega) w)
    have K2 := fun (w : World) (a : ErrCell w 0) (b : ErrCell w 1) (c : Pow10 w) (d : 3 < w.heap.size) => hid (impl_ParseInt s (by omega) w a b c d)
    have H0 := hid e0
    have H1 := hid e1
    have HP := hid hp
    clear e0 e1 hp
    go_enter Tryd.func5, Tryd.ntmps5
    go_wp2_with fail
    refine K1.out.mono ?_
    rintro e w1 ⟨r, b, rfl, hok, hb1⟩
    have hok1 := hid hok
    clear hok
    have q2 := hid (K2 w1 (ErrCell_below H0.out hb1) (ErrCell_below H1.out hb1) (var?_below hb1 gPow (by omega) HP.out) (Nat.lt_of_lt_of_le hg hb1.size)).out
    clear K2
    go_wp2_with fail
    refine q2.out.mono ?_
    rintro e w2 ⟨r2, b2, rfl, hok2, hb2⟩
    obtain ⟨rfl, rfl⟩ := PIok_one hok1.out hok2
    clear hok2
    go_wp2_with fail
    go_ret
    exact ⟨rfl, hb1.trans (hb2.mono hb1.size)⟩
end Go.Proofs.YthkhnifgkcgkmaaDoor
