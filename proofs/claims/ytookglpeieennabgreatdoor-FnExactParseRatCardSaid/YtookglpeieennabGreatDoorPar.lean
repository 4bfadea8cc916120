/- ParseInt of the reference: it returns the int whose numeral the text is, or says that there is none. -/
import Derived.Test.YtookglpeieennabGreatDoorNmt
import Derived.Test.YtookglpeieennabGreatDoorDig
import Derived.Test.YtookglpeieennabGreatDoorDtx
import Derived.WalkSpells
namespace Go.Proofs.YtookglpeieennabGreatDoor
open Go.RowKit
open Go.Lib (hid)

def PIok (s : ByteArray) (r : Int) (b : Bool) : Prop := (b = true ∧ inR r ∧ s = bts (Lib.itoa r)) ∨ (b = false ∧ r = 0 ∧ ∀ v, inR v → s ≠ bts (Lib.itoa v))
theorem PIok_one {s : ByteArray} {r r' : Int} {b b' : Bool} (h : PIok s r b) (h' : PIok s r' b') : r = r' ∧ b = b' := by
  rcases h with ⟨rfl, h1, h2⟩ | ⟨rfl, rfl, h2⟩ <;> rcases h' with ⟨rfl, h3, h4⟩ | ⟨rfl, rfl, h4⟩
  · refine ⟨itoa_inj h1 h3 ?_, rfl⟩
    have h5 := h2.symm.trans h4
    unfold bts at h5
    injection h5 with h6
    simpa using h6
  · exact absurd h2 (h4 _ h1)
  · exact absurd h4 (h2 _ h3)
  · exact ⟨rfl, rfl⟩
def PIPost (s : ByteArray) (w : World) (e : Ending) (w' : World) : Prop := ∃ (r : Int) (b : Bool), e = .returned (.tuple #[.int .i64 r, .bool b]) ∧ PIok s r b ∧ Below w.heap.size w w'

/-- The sign and what stands behind it. -/
def Parts (s : ByteArray) (neg : Bool) (t : ByteArray) : Prop := ∀ v, inR v → s = bts (Lib.itoa v) → (neg = true ↔ v < 0) ∧ t.data.toList = Lib.decDigits v.natAbs
theorem parts_neg {s : ByteArray} (h0 : 0 < s.size) (h : s[0].toNat = 45) : Parts s true (s.extract 1 s.size) := by
  intro v hv hs
  have hl : s.data.toList = Lib.itoa v := by rw [hs]; rfl
  have hcons : ∃ r, s.data.toList = s[0] :: r := by
    cases hd : s.data.toList with
    | nil => have : s.data.toList.length = s.size := by simp
             rw [hd] at this; simp at this; omega
    | cons c r =>
      refine ⟨r, ?_⟩
      have : s[0] = s.data.toList[0]'(by rw [hd]; simp) := rfl
      rw [this]; simp [hd]
  obtain ⟨r, hr⟩ := hcons
  have hx : (s.extract 1 s.size).data.toList = r := by
    have : (s.extract 1 s.size).data.toList = s.data.toList.drop 1 := by
      rw [ByteArray.data_extract, Array.toList_extract, List.extract_eq_take_drop]
      rw [List.take_of_length_le (by simp)]
    rw [this, hr]; rfl
  by_cases hn : v < 0
  · refine ⟨⟨fun _ => hn, fun _ => rfl⟩, ?_⟩
    rw [Lib.itoa, if_pos hn, hr] at hl
    injection hl with _ h2
    rw [hx, h2]
  · exfalso
    rw [Lib.itoa, if_neg hn, hr] at hl
    have := dec_head hl.symm
    unfold isD at this; omega
theorem parts_pos {s : ByteArray} (h : ∀ h0 : 0 < s.size, s[0].toNat ≠ 45) : Parts s false s := by
  intro v hv hs
  have hl : s.data.toList = Lib.itoa v := by rw [hs]; rfl
  by_cases hn : v < 0
  · exfalso
    rw [Lib.itoa, if_pos hn] at hl
    have hlen : s.data.toList.length = s.size := by simp
    have h0 : 0 < s.size := by rw [← hlen, hl]; simp
    have h1 : s[0] = s.data.toList[0]'(by rw [hlen]; exact h0) := rfl
    have h2 : s[0] = 45 := by rw [h1]; simp [hl]
    exact h h0 (by rw [h2]; rfl)
  · refine ⟨⟨(fun e => Bool.noConfusion e), fun e => absurd e hn⟩, ?_⟩
    rw [hl, Lib.itoa, if_neg hn]
    congr 1; omega

theorem digs_list {t : ByteArray} {u : Nat} (h : t.data.toList = Lib.decDigits u) : digs t = true := by
  have hlen : t.data.toList.length = t.size := by simp
  have h0 : 0 < t.size := by
    have := dec_ne u
    rw [← h] at this
    rw [← hlen]
    exact List.length_pos_iff.mpr this
  rw [digs_true (fun j hj => ?_)]
  · exact decide_eq_true h0
  · have hm : t[j] ∈ Lib.decDigits u := by
      rw [← h]
      have : t[j] = t.data.toList[j]'(by rw [hlen]; exact hj) := rfl
      rw [this]; exact List.getElem_mem _
    have := dec_digits u _ hm
    unfold isD at this
    exact digAt_yes hj (by omega) (by omega)
theorem digs_at {t : ByteArray} (h : digs t = true) {k : Nat} (hk : k < t.size) : 48 ≤ (t[k].toNat : Int) ∧ (t[k].toNat : Int) ≤ 57 := by
  unfold digs at h
  simp only [Bool.and_eq_true, decide_eq_true_eq] at h
  have := h.2 k hk
  simp [digAt, hk, isDigB] at this
  omega
theorem size_len (t : ByteArray) : t.data.toList.length = t.size := by simp
def valT (t : ByteArray) (k : Nat) : Nat := valL (t.data.toList.take k)
theorem valT_succ {t : ByteArray} {k : Nat} (hk : k < t.size) : valT t (k + 1) = valT t k * 10 + (t[k].toNat - 48) := by
  unfold valT
  rw [List.take_succ_eq_append_getElem (by rw [size_len]; exact hk), valL_snoc]
  rfl
/-- Nothing is the numeral, by what a part of the digits says. -/
theorem none_digs {s t : ByteArray} {neg : Bool} (hp : Parts s neg t) (h : digs t = false) : PIok s 0 false :=
  .inr ⟨rfl, rfl, fun v hv hs => by have := (hp v hv hs).2; rw [digs_list this] at h; cases h⟩
theorem none_long {s t : ByteArray} {neg : Bool} (hp : Parts s neg t) (h : 19 < t.size) : PIok s 0 false :=
  .inr ⟨rfl, rfl, fun v hv hs => by
    have h1 := (hp v hv hs).2
    unfold inR at hv
    have h2 := dec_len19 v.natAbs (by omega)
    rw [← h1, size_len] at h2; omega⟩
theorem val_of {t : ByteArray} {u : Nat} (h : t.data.toList = Lib.decDigits u) : valT t t.size = u := by
  unfold valT
  rw [List.take_of_length_le (by rw [size_len]; exact Nat.le_refl _), h, valL_dec]
theorem valT_le (t : ByteArray) (k : Nat) : valT t k ≤ valT t t.size := by
  unfold valT
  rw [List.take_of_length_le (l := t.data.toList) (i := t.size) (by rw [size_len]; exact Nat.le_refl _)]
  exact valL_take_le _ _
theorem none_big {s t : ByteArray} {neg : Bool} {k : Nat} (hp : Parts s neg t) (h : 9223372036854775808 < valT t k) : PIok s 0 false :=
  .inr ⟨rfl, rfl, fun v hv hs => by
    have h1 := val_of (hp v hv hs).2
    have h2 := valT_le t k
    unfold inR at hv; omega⟩
theorem none_edge {s t : ByteArray} (hp : Parts s false t) (h : valT t t.size = 9223372036854775808) : PIok s 0 false :=
  .inr ⟨rfl, rfl, fun v hv hs => by
    have h1 := val_of (hp v hv hs).2
    have h2 := (hp v hv hs).1
    have h3 : ¬ v < 0 := fun e => by have := h2.mpr e; cases this
    unfold inR at hv; omega⟩
theorem none_neg {s t : ByteArray} {n : Int} (hp : Parts s true t) (hn : n = -(valT t t.size : Int)) (hne : bts (Lib.itoa n) ≠ s) : PIok s 0 false :=
  .inr ⟨rfl, rfl, fun v hv hs => by
    have h1 := val_of (hp v hv hs).2
    have h2 := (hp v hv hs).1.mp rfl
    exact hne (by rw [hs, show n = v by omega])⟩
theorem none_pos {s t : ByteArray} {n : Int} (hp : Parts s false t) (hn : n = (valT t t.size : Int)) (hne : bts (Lib.itoa n) ≠ s) : PIok s 0 false :=
  .inr ⟨rfl, rfl, fun v hv hs => by
    have h1 := val_of (hp v hv hs).2
    have h2 := (hp v hv hs).1
    have h3 : ¬ v < 0 := fun e => by have := h2.mpr e; cases this
    exact hne (by rw [hs, show n = v by omega])⟩
theorem some_here {s : ByteArray} {n : Int} (hr : inR n) (h : bts (Lib.itoa n) = s) : PIok s n true := .inl ⟨rfl, hr, h.symm⟩

end Go.Proofs.YtookglpeieennabGreatDoor
