/- Merged: Nmt Par ParI. -/
import Derived.Test.YtmghoedjcokhpaaGreatDoorDtx
import Derived.Lib.AtoiAll
import Derived.Lib.AtoiAllCases
import Derived.Test.YtmghoedjcokhpaaGreatDoorDig
import Derived.WalkSpells
import Derived.Lib.SmallJoins
/- Decimal numerals: what the digits spell, and when a text is the numeral of an int. No program text. -/
namespace Go.Proofs.YtmghoedjcokhpaaGreatDoor
open Go.RowKit
open Go.Lib (hid)

def isD (c : UInt8) : Prop := 48 ≤ c.toNat ∧ c.toNat ≤ 57
def valFrom (a : Nat) (l : List UInt8) : Nat := l.foldl (fun acc c => acc * 10 + (c.toNat - 48)) a
def valL (l : List UInt8) : Nat := valFrom 0 l
theorem valL_snoc (l : List UInt8) (c : UInt8) : valL (l ++ [c]) = valL l * 10 + (c.toNat - 48) := by
  simp [valL, valFrom]
theorem valFrom_ge (l : List UInt8) : ∀ a, a ≤ valFrom a l := by
  induction l with
  | nil => intro a; exact Nat.le_refl _
  | cons c r ih => intro a; have := ih (a * 10 + (c.toNat - 48)); show a ≤ valFrom (a * 10 + (c.toNat - 48)) r; omega
theorem valL_take_le (l : List UInt8) (k : Nat) : valL (l.take k) ≤ valL l := by
  have h : valL l = valFrom (valL (l.take k)) (l.drop k) := by
    unfold valL valFrom
    rw [← List.foldl_append, List.take_append_drop]
  rw [h]
  exact valFrom_ge _ _
theorem dig1_is {u : Nat} (h : u < 10) : (dig1 (48 + (u : Int))).toNat = 48 + u := by
  simp [dig1]; omega
theorem valL_dec (u : Nat) : valL (Lib.decDigits u) = u := by
  induction u using Nat.strongRecOn with
  | _ u ih =>
    by_cases h : u < 10
    · rw [dec_small h]
      show 0 * 10 + ((dig1 (48 + (u : Int))).toNat - 48) = u
      rw [dig1_is h]; omega
    · rw [dec_big h, valL_snoc, ih (u / 10) (by omega), dig1_is (by omega)]
      omega
theorem dec_digits (u : Nat) : ∀ c ∈ Lib.decDigits u, isD c := by
  induction u using Nat.strongRecOn with
  | _ u ih =>
    by_cases h : u < 10
    · rw [dec_small h]
      intro c hc
      simp at hc
      subst hc
      have := dig1_is h
      unfold isD; omega
    · rw [dec_big h]
      intro c hc
      rw [List.mem_append] at hc
      rcases hc with hc | hc
      · exact ih (u / 10) (by omega) c hc
      · simp at hc
        subst hc
        have := dig1_is (u := u % 10) (by omega)
        unfold isD; simp at this ⊢; omega
theorem dec_ne (u : Nat) : Lib.decDigits u ≠ [] := by
  intro h
  have := Lib.decDigits_length u
  have h2 := Lib.nDigits_pos u
  rw [h] at this
  simp at this; omega
theorem dec_len19 (u : Nat) (h : u ≤ 9223372036854775808) : (Lib.decDigits u).length ≤ 19 := by
  rw [Lib.decDigits_length]
  rcases Nat.lt_or_ge (Lib.nDigits u) 20 with h1 | h1
  · omega
  · have h2 : ∀ k u, k + 1 ≤ Lib.nDigits u → 10 ^ k ≤ u ∨ k = 0 := by
      intro k
      induction k with
      | zero => intro u _; exact .inr rfl
      | succ k ih =>
        intro u hu
        left
        by_cases hb : u < 10
        · rw [Lib.nDigits_small hb] at hu; omega
        · rw [Lib.nDigits_big hb] at hu
          rcases ih (u / 10) (by omega) with h3 | h3
          · rw [Nat.pow_succ]; omega
          · subst h3; omega
    rcases h2 19 u (by omega) with h3 | h3 <;> omega

theorem parse_digits (l : List UInt8) : ∀ a, (∀ c ∈ l, isD c) → valFrom a l ≤ 9223372036854775808 → Lib.parseUint10 a l = .ok (valFrom a l) := by
  induction l with
  | nil => intro a _ _; rfl
  | cons c r ih =>
    intro a hd hv
    have hc := hd c (by simp)
    have hge := valFrom_ge r (a * 10 + (c.toNat - 48))
    have hv' : valFrom (a * 10 + (c.toNat - 48)) r ≤ 9223372036854775808 := hv
    unfold isD at hc
    rw [Lib.parseUint10, if_pos hc, if_neg (by omega), if_neg (by omega)]
    exact ih _ (fun x hx => hd x (by simp [hx])) hv'
theorem mag_dec {u : Nat} (h : u ≤ 9223372036854775808) : Lib.parseMag (Lib.decDigits u) = .ok u := by
  unfold Lib.parseMag
  rw [if_neg (dec_ne u), parse_digits _ 0 (dec_digits u) (by show valL _ ≤ _; rw [valL_dec]; exact h)]
  show Lib.NumEnd.ok (valL _) = _
  rw [valL_dec]
def inR (v : Int) : Prop := -9223372036854775808 ≤ v ∧ v ≤ 9223372036854775807
theorem dec_head {u : Nat} {c : UInt8} {r : List UInt8} (h : Lib.decDigits u = c :: r) : isD c := dec_digits u c (by rw [h]; simp)
theorem atoi_itoa {v : Int} (h : inR v) : Lib.atoiAll (Lib.itoa v) = .ok v := by
  unfold inR at h
  unfold Lib.itoa
  by_cases hn : v < 0
  · rw [if_pos hn, Lib.atoiAll]
    have h45 : (45 : UInt8).toNat = 45 := rfl
    simp only [h45, or_true, if_true]
    rw [mag_dec (by omega)]
    simp only [not_true_eq_false, false_and, if_false, true_and]
    rw [if_neg (by omega)]
    congr 1
    omega
  · rw [if_neg hn]
    cases hd : Lib.decDigits v.toNat with
    | nil => exact absurd hd (dec_ne _)
    | cons c r =>
      have hc := dec_head hd
      unfold isD at hc
      rw [Lib.atoiAll_plain c r (by omega) (by omega), ← hd, mag_dec (by omega)]
      simp only [Lib.signless]
      rw [if_neg (by omega)]
      congr 1
      exact Int.toNat_of_nonneg (by omega)
theorem itoa_inj {v u : Int} (hv : inR v) (hu : inR u) (h : Lib.itoa v = Lib.itoa u) : v = u := by
  have h1 := atoi_itoa hv
  have h2 := atoi_itoa hu
  rw [h, h2] at h1
  injection h1 with h3
  exact h3.symm
end Go.Proofs.YtmghoedjcokhpaaGreatDoor

/- ParseInt of the reference: it returns the int whose numeral the text is, or says that there is none. -/
namespace Go.Proofs.YtmghoedjcokhpaaGreatDoor
open Go.RowKit
open Go.Lib (hid)

def PIok (s : ByteArray) (r : Int) (b : Bool) : Prop := (b = true ∧ inR r ∧ s = bts (Lib.itoa r)) ∨ (b = false ∧ r = 0 ∧ ∀ v, inR v → s ≠ bts (Lib.itoa v))
theorem PIok_one {s : ByteArray} {r r' : Int} {b b' : Bool} (h : PIok s r b) (h' : PIok s r' b') : r = r' ∧ b = b' := by
  rcases h with ⟨rfl, h1, h2⟩ | ⟨rfl, rfl, h2⟩ <;> rcases h' with ⟨rfl, h3, h4⟩ | ⟨rfl, rfl, h4⟩
  · refine ⟨itoa_inj h1 h3 ?_, rfl⟩
    have h5 := h2.symm.trans h4
    unfold bts at h5
    injection h5 with h6
    simpa using h6
  · exact absurd h2 (h4 _ h1)
  · exact absurd h4 (h2 _ h3)
  · exact ⟨rfl, rfl⟩
def PIPost (s : ByteArray) (w : World) (e : Ending) (w' : World) : Prop := ∃ (r : Int) (b : Bool), e = .returned (.tuple #[.int .i64 r, .bool b]) ∧ PIok s r b ∧ Below w.heap.size w w'

/-- The sign and what stands behind it. -/
def Parts (s : ByteArray) (neg : Bool) (t : ByteArray) : Prop := ∀ v, inR v → s = bts (Lib.itoa v) → (neg = true ↔ v < 0) ∧ t.data.toList = Lib.decDigits v.natAbs
theorem parts_neg {s : ByteArray} (h0 : 0 < s.size) (h : s[0].toNat = 45) : Parts s true (s.extract 1 s.size) := by
  intro v hv hs
  have hl : s.data.toList = Lib.itoa v := by rw [hs]; rfl
  have hcons : ∃ r, s.data.toList = s[0] :: r := by
    cases hd : s.data.toList with
    | nil => have : s.data.toList.length = s.size := by simp
             rw [hd] at this; simp at this; omega
    | cons c r =>
      refine ⟨r, ?_⟩
      have : s[0] = s.data.toList[0]'(by rw [hd]; simp) := rfl
      rw [this]; simp [hd]
  obtain ⟨r, hr⟩ := hcons
  have hx : (s.extract 1 s.size).data.toList = r := by
    have : (s.extract 1 s.size).data.toList = s.data.toList.drop 1 := by
      rw [ByteArray.data_extract, Array.toList_extract, List.extract_eq_take_drop]
      rw [List.take_of_length_le (by simp)]
    rw [this, hr]; rfl
  by_cases hn : v < 0
  · refine ⟨⟨fun _ => hn, fun _ => rfl⟩, ?_⟩
    rw [Lib.itoa, if_pos hn, hr] at hl
    injection hl with _ h2
    rw [hx, h2]
  · exfalso
    rw [Lib.itoa, if_neg hn, hr] at hl
    have := dec_head hl.symm
    unfold isD at this; omega
theorem parts_pos {s : ByteArray} (h : ∀ h0 : 0 < s.size, s[0].toNat ≠ 45) : Parts s false s := by
  intro v hv hs
  have hl : s.data.toList = Lib.itoa v := by rw [hs]; rfl
  by_cases hn : v < 0
  · exfalso
    rw [Lib.itoa, if_pos hn] at hl
    have hlen : s.data.toList.length = s.size := by simp
    have h0 : 0 < s.size := by rw [← hlen, hl]; simp
    have h1 : s[0] = s.data.toList[0]'(by rw [hlen]; exact h0) := rfl
    have h2 : s[0] = 45 := by rw [h1]; simp [hl]
    exact h h0 (by rw [h2]; rfl)
  · refine ⟨⟨(fun e => Bool.noConfusion e), fun e => absurd e hn⟩, ?_⟩
    rw [hl, Lib.itoa, if_neg hn]
    congr 1; omega

theorem digs_list {t : ByteArray} {u : Nat} (h : t.data.toList = Lib.decDigits u) : digs t = true := by
  have hlen : t.data.toList.length = t.size := by simp
  have h0 : 0 < t.size := by
    have := dec_ne u
    rw [← h] at this
    rw [← hlen]
    exact List.length_pos_iff.mpr this
  rw [digs_true (fun j hj => ?_)]
  · exact decide_eq_true h0
  · have hm : t[j] ∈ Lib.decDigits u := by
      rw [← h]
      have : t[j] = t.data.toList[j]'(by rw [hlen]; exact hj) := rfl
      rw [this]; exact List.getElem_mem _
    have := dec_digits u _ hm
    unfold isD at this
    exact digAt_yes hj (by omega) (by omega)
theorem digs_at {t : ByteArray} (h : digs t = true) {k : Nat} (hk : k < t.size) : 48 ≤ (t[k].toNat : Int) ∧ (t[k].toNat : Int) ≤ 57 := by
  unfold digs at h
  simp only [Bool.and_eq_true, decide_eq_true_eq] at h
  have := h.2 k hk
  simp [digAt, hk, isDigB] at this
  omega
theorem size_len (t : ByteArray) : t.data.toList.length = t.size := by simp
def valT (t : ByteArray) (k : Nat) : Nat := valL (t.data.toList.take k)
theorem valT_succ {t : ByteArray} {k : Nat} (hk : k < t.size) : valT t (k + 1) = valT t k * 10 + (t[k].toNat - 48) := by
  unfold valT
  rw [List.take_succ_eq_append_getElem (by rw [size_len]; exact hk), valL_snoc]
  rfl
/-- Nothing is the numeral, by what a part of the digits says. -/
theorem none_digs {s t : ByteArray} {neg : Bool} (hp : Parts s neg t) (h : digs t = false) : PIok s 0 false :=
  .inr ⟨rfl, rfl, fun v hv hs => by have := (hp v hv hs).2; rw [digs_list this] at h; cases h⟩
theorem none_long {s t : ByteArray} {neg : Bool} (hp : Parts s neg t) (h : 19 < t.size) : PIok s 0 false :=
  .inr ⟨rfl, rfl, fun v hv hs => by
    have h1 := (hp v hv hs).2
    unfold inR at hv
    have h2 := dec_len19 v.natAbs (by omega)
    rw [← h1, size_len] at h2; omega⟩
theorem val_of {t : ByteArray} {u : Nat} (h : t.data.toList = Lib.decDigits u) : valT t t.size = u := by
  unfold valT
  rw [List.take_of_length_le (by rw [size_len]; exact Nat.le_refl _), h, valL_dec]
theorem valT_le (t : ByteArray) (k : Nat) : valT t k ≤ valT t t.size := by
  unfold valT
  rw [List.take_of_length_le (l := t.data.toList) (i := t.size) (by rw [size_len]; exact Nat.le_refl _)]
  exact valL_take_le _ _
theorem none_big {s t : ByteArray} {neg : Bool} {k : Nat} (hp : Parts s neg t) (h : 9223372036854775808 < valT t k) : PIok s 0 false :=
  .inr ⟨rfl, rfl, fun v hv hs => by
    have h1 := val_of (hp v hv hs).2
    have h2 := valT_le t k
    unfold inR at hv; omega⟩
theorem none_edge {s t : ByteArray} (hp : Parts s false t) (h : valT t t.size = 9223372036854775808) : PIok s 0 false :=
  .inr ⟨rfl, rfl, fun v hv hs => by
    have h1 := val_of (hp v hv hs).2
    have h2 := (hp v hv hs).1
    have h3 : ¬ v < 0 := fun e => by have := h2.mpr e; cases this
    unfold inR at hv; omega⟩
theorem none_neg {s t : ByteArray} {n : Int} (hp : Parts s true t) (hn : n = -(valT t t.size : Int)) (hne : bts (Lib.itoa n) ≠ s) : PIok s 0 false :=
  .inr ⟨rfl, rfl, fun v hv hs => by
    have h1 := val_of (hp v hv hs).2
    have h2 := (hp v hv hs).1.mp rfl
    exact hne (by rw [hs, show n = v by omega])⟩
theorem none_pos {s t : ByteArray} {n : Int} (hp : Parts s false t) (hn : n = (valT t t.size : Int)) (hne : bts (Lib.itoa n) ≠ s) : PIok s 0 false :=
  .inr ⟨rfl, rfl, fun v hv hs => by
    have h1 := val_of (hp v hv hs).2
    have h2 := (hp v hv hs).1
    have h3 : ¬ v < 0 := fun e => by have := h2.mpr e; cases this
    exact hne (by rw [hs, show n = v by omega])⟩
theorem some_here {s : ByteArray} {n : Int} (hr : inR n) (h : bts (Lib.itoa n) = s) : PIok s n true := .inl ⟨rfl, hr, h.symm⟩

end Go.Proofs.YtmghoedjcokhpaaGreatDoor

/- ParseInt of the program: it returns the int whose numeral the text is, or says that there is none; the law's walk. -/
namespace Go.Proofs.YtmghoedjcokhpaaGreatDoor
open Go.RowKit
open Go.Lib (hid)

/-- Package-level variable number g holds an error or nil. -/
def ErrCell (w : World) (g : Nat) : Prop := ∃ ev, w.cell? ⟨g, 0, none⟩ = some ev ∧ (ev = .nilIface ∨ ∃ te pe, ev = .iface te pe)
theorem ErrCell_below {w w' : World} {g : Nat} (h : ErrCell w g) (hb : Below w.heap.size w w') : ErrCell w' g := by
  obtain ⟨ev, hc, he⟩ := h
  exact ⟨ev, (hb.cell (p := ⟨g, 0, none⟩) (World.block_lt_of_cell? w _ hc)).trans hc, he⟩

def AtoiPost (s : ByteArray) (w : World) (e : Ending) (w' : World) : Prop :=
  (∃ v, inR v ∧ Lib.atoiAll s.data.toList = .ok v ∧ e = .returned (.tuple #[.int .i64 v, .nilIface]) ∧ Below w.heap.size w w') ∨
  ((∀ v, Lib.atoiAll s.data.toList ≠ .ok v) ∧ ∃ (n : Int) (p : Value), e = .returned (.tuple #[.int .i64 n, .iface 127 p]) ∧ Below w.heap.size w w')
theorem atoi_any (s : ByteArray) (hs : s.size ≤ 1048576) (w : World) (e0 : ErrCell w 0) (e1 : ErrCell w 1) : Calls Tryz.prog 50 #[.string s] w (AtoiPost s w) := by
  cases h : Lib.atoiAll s.data.toList
  case ok v =>
    refine (Tryz.strconv_Atoi_ok s (by omega) v h w).mono fun e w' hh => .inl ⟨v, Lib.atoiAll_bounds h, h, hh.1, ?_⟩
    rcases hh.2 with rfl | ⟨t, rfl⟩
    · exact Below.refl _ _
    · exact Joins.below_bytesWorld _ _ _ _ (Nat.le_refl _)
  case range =>
    obtain ⟨ev, hc, he⟩ := e1
    refine (Tryz.strconv_Atoi_range s (by omega) h ev w hc he).mono fun e w' hh => .inr ⟨fun v hv => ?_, ?_⟩
    · rw [hv] at h; cases h
    · obtain ⟨N, h1, _, _, h4⟩ := hh
      exact ⟨_, _, h1, h4⟩
  obtain ⟨ev, hc, he⟩ := e0
  refine (Any.strconv_Atoi_syntax Tryz.laysC172 s (by omega) h ev w hc he).mono fun e w' hh => .inr ⟨fun v hv => ?_, ?_⟩
  · rw [hv] at h; cases h
  · obtain ⟨N, h1, _, _, h4⟩ := hh
    exact ⟨_, _, h1, h4⟩
theorem none_atoi {s : ByteArray} (h : ∀ v, Lib.atoiAll s.data.toList ≠ .ok v) : PIok s 0 false :=
  .inr ⟨rfl, rfl, fun v hv hs => h v (by rw [hs]; exact atoi_itoa hv)⟩
theorem none_other {s : ByteArray} {v : Int} (h : Lib.atoiAll s.data.toList = .ok v) (hne : bts (Lib.itoa v) ≠ s) : PIok s 0 false :=
  .inr ⟨rfl, rfl, fun u hu hs => by
    have h1 : Lib.atoiAll s.data.toList = .ok u := by rw [hs]; exact atoi_itoa hu
    rw [h] at h1
    injection h1 with h2
    exact hne (by rw [h2]; exact hs.symm)⟩

set_option maxRecDepth 100000 in
set_option maxHeartbeats 1600000 in
theorem impl_ParseInt (s : ByteArray) (hs : s.size ≤ 1048576) (w : World) (e0 : ErrCell w 0) (e1 : ErrCell w 1) (hp : Pow10 w) (hg : 3 < w.heap.size) : Calls Tryz.prog 25 #[.string s] w (PIPost s w) := by
  have KA := hid (atoi_any s hs w e0 e1)
  have HP := hid hp
  clear e0 e1 hp
  go_enter Tryz.func25, Tryz.ntmps25
  go_wp2_with fail
  refine KA.out.mono ?_
  rintro e w1 (⟨v, hv, ha, rfl, hb⟩ | ⟨hno, n, p, rfl, hb⟩)
  · have hp1 : Pow10 w1 := var?_below hb gPow (by omega) HP.out
    have KF := hid (impl_FormatInt v hv.1 hv.2 w1 hp1)
    clear hp1
    obtain ⟨R, hR⟩ : ∃ R, R = bts (Lib.itoa v) := ⟨_, rfl⟩
    rw [← hR] at KF
    have HV := hid hv
    have HA := hid ha
    clear hv ha
    by_cases heq : R = s
    · have HE := hid (some_here (s := s) (n := v) HV.out (by rw [← hR]; exact heq))
      have hqq : (R.toList == s.toList) = true := by rw [heq]; simp
      clear hR heq
      go_wp2_with fail
      refine KF.out.mono ?_
      rintro e w2 ⟨rfl, hb2⟩
      go_wp2_with fail
      go_ret2
      exact ⟨_, true, rfl, HE.out, hb.trans (hb2.mono hb.size)⟩
    · have HE := hid (none_other HA.out (by rw [← hR]; exact heq))
      have hqq : (R.toList == s.toList) = false := by
        rw [ByteArray.toList_eq, ByteArray.toList_eq]
        simp only [beq_eq_false_iff_ne, ne_eq]
        exact fun h => heq (WideShapes.bytes_inj h)
      clear hR heq
      go_wp2_with fail
      refine KF.out.mono ?_
      rintro e w2 ⟨rfl, hb2⟩
      go_wp2_with fail
      go_ret2
      exact ⟨0, false, rfl, HE.out, hb.trans (hb2.mono hb.size)⟩
  · have HN := hid (none_atoi hno)
    clear hno
    go_wp2_with fail
    go_ret2
    exact ⟨0, false, rfl, HN.out, hb⟩

end Go.Proofs.YtmghoedjcokhpaaGreatDoor
