/- PadZeros, the reference's and the program's, answer the same. -/
import Derived.Test.YtleechafachkaaaDoorShelf
import Derived.WalkKit
import Derived.Lib.Hide
import Derived.WalkSmall
namespace Go.Proofs.YtleechafachkaaaDoor
open Go.RowKit
open Go.Lib (hid)

def padK (s : ByteArray) : Nat → ByteArray
  | 0 => s
  | k + 1 => ByteArray.mk #[48] ++ padK s k
theorem padK_size (s : ByteArray) : ∀ k, (padK s k).size = k + s.size
  | 0 => by simp [padK]
  | k + 1 => by rw [padK, ByteArray.size_append', padK_size s k]; show 1 + _ = _; omega
theorem padK_is (s : ByteArray) : ∀ k, padK s k = ⟨(List.replicate k 48 ++ s.data.toList).toArray⟩
  | 0 => by simp [padK]
  | k + 1 => by
    rw [padK, padK_is s k]
    exact (ByteArray.mk_append_mk [48] _).trans (by simp [List.replicate_succ])
/-- What PadZeros returns. -/
def padded (s : ByteArray) (n : Int) : ByteArray := if (s.size : Int) < n ∧ n ≤ 2000 then padK s (n.toNat - s.size) else s
theorem padded_no {s : ByteArray} {n : Int} (h : n ≤ s.size ∨ 2000 < n) : padded s n = s := if_neg (by omega)
theorem padded_yes {s : ByteArray} {n : Int} (h : (s.size : Int) < n) (h' : n ≤ 2000) : padded s n = padK s (n.toNat - s.size) := if_pos ⟨h, h'⟩
theorem retp_str {a b : ByteArray} (h : a = b) : Ending.returned (.string a) = .returned (.string b) := by rw [h]

set_option maxHeartbeats 800000 in
theorem spec_PadZeros (s : ByteArray) (n : Int) (hs : s.size ≤ 1048576) (w : World) :
    Calls Tryd.prog 71 #[.string s, .int .i64 n] w fun e w' => e = .returned (.string (padded s n)) ∧ w = w' := by
  by_cases h1 : 2000 < n
  · go_enter Tryd.func71, Tryd.ntmps71
    go_wp2
    go_ret
    exact ⟨retp_str (padded_no (.inr h1)).symm, rfl⟩
  · go_enter Tryd.func71, Tryd.ntmps71
    go_wp2
    go_loop [0] (fun x => ∃ k : Nat, x = .string (padK s k) ∧ (k = 0 ∨ (k : Int) + s.size ≤ n)) (fun x => match x with | .string b => n.toNat - b.size | _ => 0)
    case atStart => exact ⟨0, rfl, .inl rfl⟩
    case round =>
      obtain ⟨k, rfl, hk⟩ := hrel
      have hz := padK_size s k
      have HZ := hid hz
      by_cases h2 : ((padK s k).size : Int) < n
      · rw [hz] at h2
        clear hz
        have h3 : ((padK s k).size : Int) < n := by rw [HZ.out]; exact h2
        have h4 : (padK s k).size ≤ 2000 := by omega
        go_wp2
        go_round
        case rel => exact ⟨k + 1, rfl, .inr (by omega)⟩
        case measure =>
          have hx : (ByteArray.mk #[48] ++ padK s k).size = (padK s k).size + 1 := by rw [ByteArray.size_append']; show 1 + _ = _; omega
          have hn : (n.toNat : Int) = n := by omega
          simp [hx]; omega
      · clear hz
        go_wp2
        go_ret
        rw [HZ.out] at h2
        refine ⟨retp_str ?_, rfl⟩
        by_cases h3 : (s.size : Int) < n
        · rw [padded_yes h3 (by omega)]
          congr 1; omega
        · rw [padded_no (by omega)]
          obtain rfl : k = 0 := by omega
          rfl

theorem rep_is : ∀ c, Lib.repeatL [48] c = List.replicate c 48
  | 0 => rfl
  | c + 1 => by rw [Lib.repeatL, rep_is c]; rfl
theorem join_two (x y : List UInt8) : Lib.join [x, y] [] = x ++ y := by
  rw [Lib.join_cons]; simp [Lib.joinTail]

def JoinedPost (L : List ByteArray) (sep : ByteArray) (w : World) (e : Ending) (w' : World) : Prop :=
  e = .returned (.string ⟨(Lib.join (L.map (·.data.toList)) sep.data.toList).toArray⟩) ∧ Below w.heap.size w w'

set_option maxHeartbeats 800000 in
theorem joinParts_any (g c : Nat) (L : List ByteArray) (sep : ByteArray) (w : World) (hc : ∀ (j : Nat) x, L[j]? = some x → w.cell? ⟨g, 0 + j, none⟩ = some (.string x)) (hg : g < w.heap.size) (hcap : L.length ≤ c)
    (hN : L.length ≤ 140737488355328) (hlen : (Lib.join (L.map (·.data.toList)) sep.data.toList).length ≤ 140737488355328) :
    Calls Tryd.prog 80 #[.string sep, .slice (some ⟨g, 0, none⟩) L.length c] w (JoinedPost L sep w) := by
  have K := hid (Tryd.strings_Join g 0 c L sep w hc hg hN hcap hlen)
  clear hc hlen
  go_enter Tryd.func80, Tryd.ntmps80
  go_wp2_with fail
  refine K.out.mono ?_
  rintro e w1 ⟨rfl, hb⟩
  go_wp2_with fail
  go_ret
  exact ⟨rfl, hb⟩

set_option maxHeartbeats 800000 in
theorem impl_PadZeros (s : ByteArray) (n : Int) (hs : s.size ≤ 1048576) (w : World) :
    Calls Tryd.prog 60 #[.string s, .int .i64 n] w fun e w' => e = .returned (.string (padded s n)) ∧ Below w.heap.size w w' := by
  by_cases h1 : n ≤ s.size
  · go_enter Tryd.func60, Tryd.ntmps60
    go_wp2
    go_ret
    exact ⟨retp_str (padded_no (.inl h1)).symm, Below.refl _ _⟩
  · by_cases h2 : 2000 < n
    · go_enter Tryd.func60, Tryd.ntmps60
      go_wp2
      go_ret
      exact ⟨retp_str (padded_no (.inr h2)).symm, Below.refl _ _⟩
    · obtain ⟨c, hc⟩ : ∃ c : Nat, n - s.size = (c : Int) := ⟨(n - s.size).toNat, by omega⟩
      have hc2 : c ≤ 2000 := by omega
      obtain ⟨r, hr⟩ : ∃ r : ByteArray, r = ⟨(List.replicate c 48).toArray⟩ := ⟨_, rfl⟩
      have KR : Calls Tryd.prog 81 #[.string (ByteArray.mk #[48]), .int .i64 (n - s.size)] w fun e w' => e = .returned (.string r) ∧ Below w.heap.size w w' := by
        rw [hc, hr, ← rep_is]
        exact Tryd.strings_Repeat (ByteArray.mk #[48]) c w (by omega) (by show 1 * c ≤ _; omega)
      have hfin : (⟨(Lib.join ([r, s].map (·.data.toList)) (ByteArray.mk #[]).data.toList).toArray⟩ : ByteArray) = padded s n := by
        rw [padded_yes (by omega) (by omega), padK_is]
        have e : ([r, s].map (·.data.toList)) = [r.data.toList, s.data.toList] := rfl
        rw [e]
        have e2 : (ByteArray.mk #[]).data.toList = ([] : List UInt8) := rfl
        rw [e2, join_two, hr, show n.toNat - s.size = c by omega]
      have hlen : (Lib.join ([r, s].map (·.data.toList)) (ByteArray.mk #[]).data.toList).length ≤ 140737488355328 := by
        have e : ([r, s].map (·.data.toList)) = [r.data.toList, s.data.toList] := rfl
        rw [e]
        have e2 : (ByteArray.mk #[]).data.toList = ([] : List UInt8) := rfl
        rw [e2, join_two, hr]
        have : s.data.toList.length = s.size := by simp
        simp; omega
      have HR := hid KR
      have HF := hid hfin
      have HL := hid hlen
      clear hr KR hfin hlen hc
      go_enter Tryd.func60, Tryd.ntmps60
      go_wp2_with fail
      refine HR.out.mono ?_
      rintro e w1 ⟨rfl, hb1⟩
      go_wp2_with fail
      refine (joinParts_any w1.heap.size 2 [r, s] (ByteArray.mk #[]) _ ?_ (by simp) (by simp) (by simp) HL.out).mono ?_
      · intro j x hj
        match j, hj with
        | 0, hj => simp at hj; subst hj; exact cell_two_new w1 (.string r) (.string s) 9 0 (.string r) rfl
        | 1, hj => simp at hj; subst hj; exact cell_two_new w1 (.string r) (.string s) 9 1 (.string s) rfl
        | j + 2, hj => simp at hj
      rintro e w2 ⟨rfl, hb2⟩
      go_wp2_with fail
      go_ret
      exact ⟨retp_str HF.out, (hb1.alloc hb1.size _).trans (hb2.mono (by have := hb1.size; simp; omega))⟩
end Go.Proofs.YtleechafachkaaaDoor
