/- Merged: Cur Mk Mw Mr Mt Mu. -/
import Derived.Test.YtdffmeinofgdgaaGreatProg
import Derived.WalkKit
import Derived.Lib.Hide
import Derived.Laws.Bits128
import Derived.Deep.QuietTactic
import Derived.BigQuiet
import Derived.WalkSmall
import Derived.Test.YtdffmeinofgdgaaGreatBas
import Derived.Test.YtdffmeinofgdgaaGreatImm
import Derived.Test.YtdffmeinofgdgaaGreatWsm
import Derived.Maps.AppendAt
import Derived.Test.YtdffmeinofgdgaaGreatSws
import Derived.Deep.RegionHeld3
import Derived.Deep.DeepCutAuto
/- The draws of the laws: the cursor over the code's bytes; a draw is a function of the bytes. -/
namespace Go.Proofs.YtdffmeinofgdgaaGreat
open Go.RowKit
open Go.Lib (hid)

theorem i64_mask30 (n : Int) : bits .and .i64 n 1073741823 = n % 1073741824 := by
  have h : (BitVec.ofInt 64 1073741823).toNat = 2 ^ 30 - 1 := by decide
  have key : (BitVec.ofInt 64 n &&& BitVec.ofInt 64 1073741823).toNat = (n % ((2 ^ 64 : Nat) : Int)).toNat % 2 ^ 30 := by
    rw [BitVec.toNat_and, BitVec.toNat_ofInt, h, Nat.and_two_pow_sub_one_eq_mod]
  show IntKind.i64.wrap ((BitVec.ofInt 64 n &&& BitVec.ofInt 64 1073741823).toNat : Nat) = n % 1073741824
  rw [key, IntKind.wrap_i64]
  omega
theorem i64_mask8 (n : Int) : bits .and .i64 n 255 = n % 256 := by
  have h : (BitVec.ofInt 64 255).toNat = 2 ^ 8 - 1 := by decide
  have key : (BitVec.ofInt 64 n &&& BitVec.ofInt 64 255).toNat = (n % ((2 ^ 64 : Nat) : Int)).toNat % 2 ^ 8 := by
    rw [BitVec.toNat_and, BitVec.toNat_ofInt, h, Nat.and_two_pow_sub_one_eq_mod]
  show IntKind.i64.wrap ((BitVec.ofInt 64 n &&& BitVec.ofInt 64 255).toNat : Nat) = n % 256
  rw [key, IntKind.wrap_i64]
  omega

/-- A slice of bytes that came in: its elements are Z. -/
def ByteRow (w : World) (a : Option Addr) (n : Nat) (Z : List Int) : Prop :=
  n = Z.length ∧ (∀ z ∈ Z, 0 ≤ z ∧ z ≤ 255) ∧ (0 < Z.length → ∃ g o, a = some ⟨g, o, none⟩ ∧ g < w.heap.size ∧ ∀ i (h : i < Z.length), w.cell? ⟨g, o + i, none⟩ = some (.int .u8 Z[i]))
theorem ByteRow_below {w w' : World} {a : Option Addr} {n : Nat} {Z : List Int} (h : ByteRow w a n Z) (hb : Below w.heap.size w w') : ByteRow w' a n Z := by
  refine ⟨h.1, h.2.1, fun h0 => ?_⟩
  obtain ⟨g, o, e, hg, hc⟩ := h.2.2 h0
  exact ⟨g, o, e, Nat.lt_of_lt_of_le hg hb.size, fun i hi => (hb.cell (p := ⟨g, o + i, none⟩) hg).trans (hc i hi)⟩

/-- The hash after k bytes. -/
def hashTo (Z : List Int) : Nat → Int
  | 0 => 1948 + Z.length
  | k + 1 => (hashTo Z k * 53 + Z.getD k 0 + 7) % 1073741824
def hashed (Z : List Int) : Int := hashTo Z (min Z.length 4000)
theorem hashTo_le {Z : List Int} (h : Z.length ≤ 1048576) : ∀ k, 0 ≤ hashTo Z k ∧ hashTo Z k ≤ 1073741824
  | 0 => by simp only [hashTo]; omega
  | k + 1 => by simp only [hashTo]; omega
theorem hashTo_step {Z : List Int} {k : Nat} (h : k < Z.length) : hashTo Z (k + 1) = (hashTo Z k * 53 + Z[k] + 7) % 1073741824 := by
  simp [hashTo, h]

/-- The cursor as the call lays it: the bytes, where it stands, the hash. -/
def curCells (a : Option Addr) (n c : Nat) (i h : Int) : Array Value := #[.slice a n c, .int .i64 i, .int .i64 h]

set_option maxRecDepth 100000 in
set_option maxHeartbeats 800000 in
theorem l01New_any (a : Option Addr) (n c : Nat) (Z : List Int) (hZ : Z.length ≤ 1048576) (w : World) (hr : ByteRow w a n Z) :
    Calls Tryz.prog 31 #[.slice a n c] w fun e w' => e = .returned (.pointer (some ⟨w.heap.size, 0, none⟩)) ∧ w' = w.alloc (.cells #[.slice a n c, .int .i64 0, .int .i64 (hashed Z)] 52) := by
  obtain ⟨rfl, hz, hr⟩ := hr
  have HR := hid hr
  have HZ := hid hz
  have HL := fun k => hashTo_le hZ k
  have HL := hid HL
  clear hr hz
  go_enter Tryz.func31, Tryz.ntmps31
  go_wp2_with fail
  go_loop [3, 4] (fun h i => ∃ (k : Nat) (x : Int), k ≤ Z.length ∧ k ≤ 4000 ∧ i = .int .i64 k ∧ h = .int .i64 x ∧ 0 ≤ x ∧ x ≤ 1073741824 ∧ Hid (x = hashTo Z k)) (fun _ i => Z.length - (intOf i).toNat)
  case atStart => exact ⟨0, _, Nat.zero_le _, by omega, rfl, rfl, by omega, by omega, hid rfl⟩
  case round =>
    obtain ⟨k, x, hk, hk2, rfl, rfl, hx0, hx1, hx⟩ := hrel
    by_cases hlt : k < Z.length
    · by_cases h4 : k < 4000
      · obtain ⟨g, o, rfl, hg, hc⟩ := HR.out (by omega)
        have hck := hc k hlt
        have hzk := HZ.out Z[k] (List.getElem_mem hlt)
        have HS := hid (hashTo_step hlt)
        clear hc
        have a1 : (0 : Int) ≤ k := by omega
        have a2 : (k : Int) < Z.length := by omega
        have a3 : (k : Int) < 4000 := by omega
        have hm := i64_mask30 (x * 53 + Z[k] + 7)
        go_wp2_with fail
        go_round
        case rel => exact ⟨k + 1, _, by omega, by omega, by go_num, rfl, by omega, by omega, hid (by rw [HS.out, ← hx.out])⟩
        case measure => simp [intOf]; omega
      · have a3 : ¬ (k : Int) < 4000 := by omega
        have a2 : (k : Int) < Z.length := by omega
        have HE := hid (show x = hashed Z by rw [hx.out]; unfold hashed; congr 1; omega)
        go_wp2_with fail
        go_ret
        rw [← HE.out]
        exact ⟨rfl, rfl⟩
    · have HE := hid (show x = hashed Z by rw [hx.out]; unfold hashed; congr 1; omega)
      go_wp2_with fail
      go_ret
      rw [← HE.out]
      exact ⟨rfl, rfl⟩

/-- The draw of a byte: what the hash turns into, and the byte. -/
def hashNext (h : Int) : Int := wrap64 (wrap64 (h * 6364136223846793005) + 1442695040888963407)

/-- Block N is the cursor: the bytes, where it stands, the hash. -/
def IsCur (w : World) (N : Nat) (a : Option Addr) (n c : Nat) (i : Nat) (h : Int) : Prop := w.heap[N]? = some (.cells #[.slice a n c, .int .i64 i, .int .i64 h] 52 (0, 0))
theorem IsCur_facts {w : World} {N : Nat} {a : Option Addr} {n c i : Nat} {h : Int} (hN : IsCur w N a n c i h) :
    w.cell? ⟨N, 0, none⟩ = some (.slice a n c) ∧ w.cell? ⟨N, 1, none⟩ = some (.int .i64 i) ∧ w.cell? ⟨N, 2, none⟩ = some (.int .i64 h) ∧ w.frozen? ⟨N, 1, none⟩ = false ∧ w.frozen? ⟨N, 2, none⟩ = false := by
  unfold IsCur at hN
  refine ⟨?_, ?_, ?_, ?_, ?_⟩ <;> simp [World.cell?, World.frozen?, hN]
theorem IsCur_hash {w : World} {N : Nat} {a : Option Addr} {n c i : Nat} {h : Int} (hN : IsCur w N a n c i h) (h' : Int) : IsCur (w.setCell ⟨N, 2, none⟩ (.int .i64 h')) N a n c i h' := by
  unfold IsCur at hN ⊢
  simp [World.setCell, Array.getElem?_modify, hN]
theorem IsCur_next {w : World} {N : Nat} {a : Option Addr} {n c i : Nat} {h : Int} (hN : IsCur w N a n c i h) (i' : Nat) : IsCur (w.setCell ⟨N, 1, none⟩ (.int .i64 i')) N a n c i' h := by
  unfold IsCur at hN ⊢
  simp [World.setCell, Array.getElem?_modify, hN]
theorem IsCur_drewN {w : World} {N : Nat} {a : Option Addr} {n c i : Nat} {h : Int} (hN : IsCur w N a n c i h) (d : Nat) : IsCur (w.drewN d) N a n c i h := hN
theorem ByteRow_drewN {w : World} {a : Option Addr} {n : Nat} {Z : List Int} (h : ByteRow w a n Z) (d : Nat) : ByteRow (w.drewN d) a n Z := h

/-- The byte that the hash gives; the draw's byte; where the cursor stands behind the draw. -/
def hashByte (h : Int) : Int := bits BinOp.and IntKind.i64 (bits BinOp.xor IntKind.i64 (h / 8589934592) (h / 35184372088832)) 255
theorem hashByte_le (h : Int) : 0 ≤ hashByte h ∧ hashByte h ≤ 255 := by
  unfold hashByte; rw [i64_mask8]; omega
def drawB (Z : List Int) (i : Nat) (h : Int) : Int := if i < Z.length then (hashByte (hashNext h) + Z.getD i 0) % 256 else hashByte (hashNext h)
def drawI (Z : List Int) (i : Nat) : Nat := if i < Z.length then i + 1 else i
theorem drawB_le (Z : List Int) (i : Nat) (h : Int) : 0 ≤ drawB Z i h ∧ drawB Z i h ≤ 255 := by
  unfold drawB
  split
  · omega
  · exact hashByte_le _
theorem drawB_yes {Z : List Int} {i : Nat} {h : Int} (hi : i < Z.length) : drawB Z i h = (hashByte (hashNext h) + Z[i]) % 256 := by
  simp [drawB, hi]
theorem drawB_no {Z : List Int} {i : Nat} {h : Int} (hi : ¬ i < Z.length) : drawB Z i h = hashByte (hashNext h) := by
  simp only [drawB, if_neg hi]

def DrawPost (N : Nat) (a : Option Addr) (n c i : Nat) (Z : List Int) (h : Int) (w : World) (e : Ending) (w' : World) : Prop :=
  e = .returned (.int .i64 (drawB Z i h)) ∧ IsCur w' N a n c (drawI Z i) (hashNext h) ∧ Below N w w'

set_option maxRecDepth 100000 in
set_option maxHeartbeats 1600000 in
theorem l01Byte_any (N : Nat) (a : Option Addr) (n c i : Nat) (Z : List Int) (h : Int) (hZ : Z.length ≤ 1048576) (w : World) (hr : ByteRow w a n Z) (hN : IsCur w N a n c i h) (hi : i ≤ Z.length)
    (hg0 : ∀ g o, a = some ⟨g, o, none⟩ → 0 < Z.length → g < N) :
    Calls Tryz.prog 112 #[.pointer (some ⟨N, 0, none⟩)] w (DrawPost N a n c i Z h w) := by
  obtain ⟨c0, c1, c2, f1, f2⟩ := IsCur_facts hN
  have HN := hid (IsCur_hash hN (hashNext h))
  have HB := hid ((Below.refl N w).setCell (p := ⟨N, 2, none⟩) (Nat.le_refl _) (.int .i64 (hashNext h)))
  have HR := hid hr
  have HG := hid hg0
  clear hr hN hg0
  go_enter Tryz.func112, Tryz.ntmps112
  go_wp2_with fail
  have ew : w.setCell ⟨N, 2, none⟩ (.int .i64 (wrap64 (wrap64 (h * 6364136223846793005) + 1442695040888963407))) = w.setCell ⟨N, 2, none⟩ (.int .i64 (hashNext h)) := rfl
  rw [ew]
  generalize w.setCell ⟨N, 2, none⟩ (.int .i64 (hashNext h)) = w1 at HN HB ⊢
  clear ew c0 c1 c2 f1 f2
  obtain ⟨c0, c1, c2, f1, f2⟩ := IsCur_facts HN.out
  obtain ⟨h', hh'⟩ : ∃ h', h' = hashNext h := ⟨_, rfl⟩
  have HH := hid hh'
  rw [← hh'] at c2 HN
  clear hh'
  go_quiet (fail)
  go_wp2_with fail
  have hx := hashByte_le h'
  have ex : bits BinOp.and IntKind.i64 (bits BinOp.xor IntKind.i64 (h' / 8589934592) (h' / 35184372088832)) 255 = hashByte h' := rfl
  rw [ex]
  obtain ⟨x, hxx⟩ : ∃ x, x = hashByte h' := ⟨_, rfl⟩
  have HX := hid hxx
  rw [← hxx] at hx ⊢
  clear ex hxx
  by_cases hlt : i < Z.length
  · obtain ⟨rfl, hz, hrow⟩ := HR.out
    obtain ⟨g, o, rfl, hg, hc⟩ := hrow (by omega)
    have hgN := HG.out g o rfl (by omega)
    have hzi := hz Z[i] (List.getElem_mem hlt)
    have hci : w1.cell? ⟨g, o + i, none⟩ = some (.int .u8 Z[i]) := (HB.out.cell (p := ⟨g, o + i, none⟩) hgN).trans (hc i hlt)
    clear hz hrow hc
    have a1 : (0 : Int) ≤ i := by omega
    have a2 : (i : Int) < Z.length := by omega
    have hm8 := i64_mask8 (x + Z[i])
    have HD := hid (drawB_yes (h := h) hlt)
    have HI := hid (show drawI Z i = i + 1 by simp [drawI, hlt])
    go_quiet (fail)
    go_wp2_with fail
    go_quiet (fail)
    go_wp2_with fail
    go_ret
    refine ⟨?_, ?_, ?_⟩
    · rw [HD.out, ← HH.out, ← HX.out]; rfl
    · rw [HI.out, ← HH.out]
      have hx := IsCur_next HN.out (i + 1)
      unfold IsCur at hx ⊢
      exact hx
    · have hb := HB.out.setCell (p := ⟨N, 1, none⟩) (Nat.le_refl _) (.int .i64 ((i : Int) + 1))
      exact ⟨hb.os, hb.tape, hb.output, hb.size, hb.block⟩
  · have a2 : ¬ (i : Int) < Z.length := by omega
    have en := HR.out.1
    subst en
    have HD := hid (drawB_no (h := h) hlt)
    have HI := hid (show drawI Z i = i by simp [drawI, hlt])
    go_quiet (fail)
    go_wp2_with fail
    go_ret
    refine ⟨?_, ?_, ?_⟩
    · rw [HD.out, ← HH.out, ← HX.out]; rfl
    · rw [HI.out, ← HH.out]
      have hx := HN.out
      unfold IsCur at hx ⊢
      exact hx
    · have hb := HB.out
      exact ⟨hb.os, hb.tape, hb.output, hb.size, hb.block⟩

def BelowPost (N : Nat) (a : Option Addr) (n c i : Nat) (Z : List Int) (h m : Int) (w : World) (e : Ending) (w' : World) : Prop :=
  e = .returned (.int .i64 (drawB Z i h % m)) ∧ IsCur w' N a n c (drawI Z i) (hashNext h) ∧ Below N w w'

set_option maxRecDepth 100000 in
set_option maxHeartbeats 800000 in
theorem l01Below_small (N : Nat) (a : Option Addr) (n c i : Nat) (Z : List Int) (h m : Int) (hZ : Z.length ≤ 1048576) (w : World) (hr : ByteRow w a n Z) (hN : IsCur w N a n c i h) (hi : i ≤ Z.length)
    (hg0 : ∀ g o, a = some ⟨g, o, none⟩ → 0 < Z.length → g < N) (m0 : 0 < m) (m1 : m ≤ 256) :
    Calls Tryz.prog 87 #[.pointer (some ⟨N, 0, none⟩), .int .i64 m] w (BelowPost N a n c i Z h m w) := by
  have K := hid (l01Byte_any N a n c i Z h hZ w hr hN hi hg0)
  have hd := drawB_le Z i h
  obtain ⟨x, hx⟩ : ∃ x, x = drawB Z i h := ⟨_, rfl⟩
  have HX := hid hx
  rw [← hx] at hd
  clear hx hr hN hg0
  have hm0 : decide (m ≤ 0) = false := decide_eq_false (by omega)
  go_enter Tryz.func87, Tryz.ntmps87
  go_wp2_with fail
  refine K.out.mono ?_
  rintro e w1 ⟨rfl, hc, hb⟩
  rw [← HX.out]
  go_wp2_with fail
  go_ret
  rw [HX.out]
  exact ⟨rfl, hc, hb⟩

/-- What MakeNum(code, m) returns. -/
def numOf (Z : List Int) (m : Int) : Int := drawB Z 0 (hashed Z + 777) % m
theorem numOf_le (Z : List Int) {m : Int} (h : 0 < m) : 0 ≤ numOf Z m ∧ numOf Z m < m := by
  unfold numOf
  exact ⟨Int.emod_nonneg _ (by omega), Int.emod_lt_of_pos _ h⟩

end Go.Proofs.YtdffmeinofgdgaaGreat

/- The draws of numbers: MakeNat returns a number of at most four limbs. -/
namespace Go.Proofs.YtdffmeinofgdgaaGreat
open Go.RowKit
open Go.Lib (hid)
set_option linter.unusedVariables false

def DrawO (N : Nat) (a : Option Addr) (n c i : Nat) (Z : List Int) (h : Int) (w : World) (e : Ending) (w' : World) : Prop :=
  e = .returned (.int .i64 (drawB Z i h)) ∧ IsCur w' N a n c (drawI Z i) (hashNext h) ∧ Only (fun k => k = N) w w'

set_option maxRecDepth 100000 in
set_option maxHeartbeats 1600000 in
theorem l01Byte_only (N : Nat) (a : Option Addr) (n c i : Nat) (Z : List Int) (h : Int) (hZ : Z.length ≤ 1048576) (w : World) (hr : ByteRow w a n Z) (hN : IsCur w N a n c i h) (hi : i ≤ Z.length)
    (hg0 : ∀ g o, a = some ⟨g, o, none⟩ → 0 < Z.length → g < N) :
    Calls Tryz.prog 112 #[.pointer (some ⟨N, 0, none⟩)] w (DrawO N a n c i Z h w) := by
  obtain ⟨c0, c1, c2, f1, f2⟩ := IsCur_facts hN
  have HN := hid (IsCur_hash hN (hashNext h))
  have HB := hid ((Only.refl (fun k => k = N) w).setCell (p := ⟨N, 2, none⟩) rfl (.int .i64 (hashNext h)))
  have HR := hid hr
  have HG := hid hg0
  clear hr hN hg0
  go_enter Tryz.func112, Tryz.ntmps112
  go_wp2_with fail
  have ew : w.setCell ⟨N, 2, none⟩ (.int .i64 (wrap64 (wrap64 (h * 6364136223846793005) + 1442695040888963407))) = w.setCell ⟨N, 2, none⟩ (.int .i64 (hashNext h)) := rfl
  rw [ew]
  generalize w.setCell ⟨N, 2, none⟩ (.int .i64 (hashNext h)) = w1 at HN HB ⊢
  clear ew c0 c1 c2 f1 f2
  obtain ⟨c0, c1, c2, f1, f2⟩ := IsCur_facts HN.out
  obtain ⟨h', hh'⟩ : ∃ h', h' = hashNext h := ⟨_, rfl⟩
  have HH := hid hh'
  rw [← hh'] at c2 HN
  clear hh'
  go_quiet (fail)
  go_wp2_with fail
  have hx := hashByte_le h'
  have ex : bits BinOp.and IntKind.i64 (bits BinOp.xor IntKind.i64 (h' / 8589934592) (h' / 35184372088832)) 255 = hashByte h' := rfl
  rw [ex]
  obtain ⟨x, hxx⟩ : ∃ x, x = hashByte h' := ⟨_, rfl⟩
  have HX := hid hxx
  rw [← hxx] at hx ⊢
  clear ex hxx
  by_cases hlt : i < Z.length
  · obtain ⟨rfl, hz, hrow⟩ := HR.out
    obtain ⟨g, o, rfl, hg, hc⟩ := hrow (by omega)
    have hgN := HG.out g o rfl (by omega)
    have hzi := hz Z[i] (List.getElem_mem hlt)
    have hci : w1.cell? ⟨g, o + i, none⟩ = some (.int .u8 Z[i]) := (HB.out.cell (p := ⟨g, o + i, none⟩) (show ¬ g = N by omega)).trans (hc i hlt)
    clear hz hrow hc
    have a1 : (0 : Int) ≤ i := by omega
    have a2 : (i : Int) < Z.length := by omega
    have hm8 := i64_mask8 (x + Z[i])
    have HD := hid (drawB_yes (h := h) hlt)
    have HI := hid (show drawI Z i = i + 1 by simp [drawI, hlt])
    go_quiet (fail)
    go_wp2_with fail
    go_quiet (fail)
    go_wp2_with fail
    go_ret
    refine ⟨?_, ?_, ?_⟩
    · rw [HD.out, ← HH.out, ← HX.out]; rfl
    · rw [HI.out, ← HH.out]
      have hx := IsCur_next HN.out (i + 1)
      unfold IsCur at hx ⊢
      exact hx
    · have hb := HB.out.setCell (p := ⟨N, 1, none⟩) rfl (.int .i64 ((i : Int) + 1))
      exact ⟨hb.os, hb.tape, hb.output, hb.size, hb.block⟩
  · have a2 : ¬ (i : Int) < Z.length := by omega
    have en := HR.out.1
    subst en
    have HD := hid (drawB_no (h := h) hlt)
    have HI := hid (show drawI Z i = i by simp [drawI, hlt])
    go_quiet (fail)
    go_wp2_with fail
    go_ret
    refine ⟨?_, ?_, ?_⟩
    · rw [HD.out, ← HH.out, ← HX.out]; rfl
    · rw [HI.out, ← HH.out]
      have hx := HN.out
      unfold IsCur at hx ⊢
      exact hx
    · have hb := HB.out
      exact ⟨hb.os, hb.tape, hb.output, hb.size, hb.block⟩


/-- The cursor stands in block N, wherever it stands. -/
def CurE (w : World) (N : Nat) (a : Option Addr) (n c : Nat) (Z : List Int) : Prop := ByteRow w a n Z ∧ ∃ i h, i ≤ Z.length ∧ IsCur w N a n c i h
/-- The code lies below block N. -/
def Under (N : Nat) (a : Option Addr) (Z : List Int) : Prop := ∀ g o, a = some ⟨g, o, none⟩ → 0 < Z.length → g < N
def DrewE (lo hi : Int) (N : Nat) (a : Option Addr) (n c : Nat) (Z : List Int) (w : World) (e : Ending) (w' : World) : Prop :=
  ∃ x, lo ≤ x ∧ x < hi ∧ e = .returned (.int .i64 x) ∧ CurE w' N a n c Z ∧ Only (fun k => k = N) w w'
theorem ByteRow_only {w w' : World} {N : Nat} {a : Option Addr} {n : Nat} {Z : List Int} (h : ByteRow w a n Z) (hu : Under N a Z) (ho : Only (fun k => k = N) w w') : ByteRow w' a n Z := by
  refine ⟨h.1, h.2.1, fun h0 => ?_⟩
  obtain ⟨g, o, e, hg, hc⟩ := h.2.2 h0
  have := hu g o e h0
  exact ⟨g, o, e, Nat.lt_of_lt_of_le hg ho.size, fun i hi => (ho.cell (p := ⟨g, o + i, none⟩) (show ¬ g = N by omega)).trans (hc i hi)⟩
theorem drawI_le {Z : List Int} {i : Nat} (h : i ≤ Z.length) : drawI Z i ≤ Z.length := by unfold drawI; split <;> omega
theorem byteE (N : Nat) (a : Option Addr) (n c : Nat) (Z : List Int) (hZ : Z.length ≤ 1048576) (w : World) (hc : CurE w N a n c Z) (hu : Under N a Z) :
    Calls Tryz.prog 112 #[.pointer (some ⟨N, 0, none⟩)] w (DrewE 0 256 N a n c Z w) := by
  obtain ⟨hr, i, h, hi, hN⟩ := hc
  refine (l01Byte_only N a n c i Z h hZ w hr hN hi hu).mono ?_
  rintro e w' ⟨rfl, h2, h3⟩
  have := drawB_le Z i h
  exact ⟨_, this.1, by omega, rfl, ⟨ByteRow_only hr hu h3, _, _, drawI_le hi, h2⟩, h3⟩

set_option maxRecDepth 100000 in
set_option maxHeartbeats 1600000 in
theorem belowE (N : Nat) (a : Option Addr) (n c : Nat) (Z : List Int) (m : Int) (hZ : Z.length ≤ 1048576) (w : World) (hc : CurE w N a n c Z) (hu : Under N a Z) (m0 : 0 < m) (m1 : m ≤ 1000000000) :
    Calls Tryz.prog 87 #[.pointer (some ⟨N, 0, none⟩), .int .i64 m] w (DrewE 0 m N a n c Z w) := by
  have K := hid (fun (W : World) (h : CurE W N a n c Z) => byteE N a n c Z hZ W h hu)
  have C := hid hc
  clear hc hu
  have hm0 : decide (m ≤ 0) = false := decide_eq_false (by omega)
  by_cases h256 : m ≤ 256
  · go_enter Tryz.func87, Tryz.ntmps87
    go_wp2_with fail
    refine (K.out _ C.out).mono ?_
    rintro e w1 ⟨x, x0, x1, rfl, c1, o1⟩
    have C1 := hid c1
    have O1 := hid o1
    clear c1 o1
    have hb := hid (Int.emod_lt_of_pos x m0)
    have hb0 := hid (Int.emod_nonneg x (show m ≠ 0 by omega))
    go_wp2_with fail
    go_ret
    exact ⟨_, hb0.out, hb.out, rfl, C1.out, O1.out⟩
  · have hm1 : decide (m ≤ 256) = false := decide_eq_false h256
    go_enter Tryz.func87, Tryz.ntmps87
    go_wp2_with fail
    refine (K.out _ C.out).mono ?_
    rintro e w1 ⟨x, x0, x1, rfl, c1, o1⟩
    have C1 := hid c1
    have O1 := hid o1
    clear c1 o1
    go_wp2_with fail
    refine (K.out _ C1.out).mono ?_
    rintro e w2 ⟨y, y0, y1, rfl, c1, o1⟩
    have C1 := hid c1
    have O1 := hid (O1.out.trans o1)
    clear c1 o1
    go_wp2_with fail
    refine (K.out _ C1.out).mono ?_
    rintro e w3 ⟨z, z0, z1, rfl, c1, o1⟩
    have C1 := hid c1
    have O1 := hid (O1.out.trans o1)
    clear c1 o1
    go_wp2_with fail
    refine (K.out _ C1.out).mono ?_
    rintro e w4 ⟨v, v0, v1, rfl, c1, o1⟩
    have C1 := hid c1
    have O1 := hid (O1.out.trans o1)
    clear c1 o1
    have hb := hid (Int.emod_lt_of_pos (x * 16777216 + y * 65536 + z * 256 + v) m0)
    have hb0 := hid (Int.emod_nonneg (x * 16777216 + y * 65536 + z * 256 + v) (show m ≠ 0 by omega))
    go_wp2_with fail
    go_ret
    exact ⟨_, hb0.out, hb.out, rfl, C1.out, O1.out⟩

def PickE (L : List Int) (N : Nat) (a : Option Addr) (n c : Nat) (Z : List Int) (w : World) (e : Ending) (w' : World) : Prop :=
  ∃ x, x ∈ L ∧ e = .returned (.int .i64 x) ∧ CurE w' N a n c Z ∧ Only (fun k => k = N) w w'
set_option maxRecDepth 100000 in
set_option maxHeartbeats 1600000 in
theorem pickE (N : Nat) (a : Option Addr) (n c : Nat) (Z : List Int) (g d : Nat) (L : List Int) (hZ : Z.length ≤ 1048576) (w : World) (hc : CurE w N a n c Z) (hu : Under N a Z) (hL0 : 0 < L.length) (hL1 : L.length ≤ 100)
    (hL : ∀ i (h : i < L.length), w.cell? ⟨g, i, none⟩ = some (.int .i64 L[i])) (hg : g ≠ N) :
    Calls Tryz.prog 88 #[.pointer (some ⟨N, 0, none⟩), .slice (some ⟨g, 0, none⟩) L.length d] w (PickE L N a n c Z w) := by
  have K := hid (belowE N a n c Z L.length hZ w hc hu (by omega) (by omega))
  have HL := hid hL
  have HG := hid hg
  clear hc hu hL hg
  go_enter Tryz.func88, Tryz.ntmps88
  go_wp2_with fail
  refine K.out.mono ?_
  rintro e w1 ⟨x, x0, x1, rfl, c1, o1⟩
  have C1 := hid c1
  have O1 := hid o1
  clear c1 o1
  obtain ⟨i, rfl⟩ : ∃ i : Nat, x = i := ⟨x.toNat, by omega⟩
  have hi : i < L.length := by omega
  have q := (O1.out.cell (p := ⟨g, i, none⟩) HG.out).trans (HL.out i hi)
  have hm := hid (List.getElem_mem hi)
  obtain ⟨y, hy⟩ : ∃ y, y = L[i] := ⟨_, rfl⟩
  rw [← hy] at q hm
  clear hy
  go_wp2_with fail
  go_ret
  exact ⟨_, hm.out, rfl, C1.out, O1.out⟩

theorem Ints_lit7 {w : World} {B : Nat} {x1 x2 x3 x4 x5 x6 x7 : Int} (hB : B ≤ w.heap.size) : Ints (w.alloc (.cells #[.int .i64 x1, .int .i64 x2, .int .i64 x3, .int .i64 x4, .int .i64 x5, .int .i64 x6, .int .i64 x7] 3)) B (.slice (some ⟨w.heap.size, 0, none⟩) 7 7) [x1, x2, x3, x4, x5, x6, x7] :=
  World.ownsRow_lit w #[.int .i64 x1, .int .i64 x2, .int .i64 x3, .int .i64 x4, .int .i64 x5, .int .i64 x6, .int .i64 x7] 7 hB (by decide) rfl
theorem CurE_alloc {w : World} {N : Nat} {a : Option Addr} {n c : Nat} {Z : List Int} (h : CurE w N a n c Z) (o : Go.Obj) : CurE (w.alloc o) N a n c Z := by
  obtain ⟨hr, i, x, hi, hN⟩ := h
  refine ⟨ByteRow_below hr below_new, i, x, hi, ?_⟩
  unfold IsCur at hN ⊢
  exact (Below.heap_alloc w o N (Array.getElem?_eq_some_iff.1 hN).1).trans hN
theorem CurE_below {w w' : World} {N B : Nat} {a : Option Addr} {n c : Nat} {Z : List Int} (h : CurE w N a n c Z) (hb : Below B w w') (hN : N < B) (hB : B ≤ w.heap.size) (hu : Under N a Z) : CurE w' N a n c Z := by
  obtain ⟨hr, i, x, hi, hc⟩ := h
  refine ⟨⟨hr.1, hr.2.1, fun h0 => ?_⟩, i, x, hi, ?_⟩
  · obtain ⟨g, o, e, hg, hc⟩ := hr.2.2 h0
    have := hu g o e h0
    exact ⟨g, o, e, Nat.lt_of_lt_of_le hg hb.size, fun i hi => (hb.cell (p := ⟨g, o + i, none⟩) (show g < B by omega)).trans (hc i hi)⟩
  · unfold IsCur at hc ⊢
    exact (hb.block N hN).trans hc
theorem CurE_lt {w : World} {N : Nat} {a : Option Addr} {n c : Nat} {Z : List Int} (h : CurE w N a n c Z) : N < w.heap.size := by
  obtain ⟨_, i, x, _, hc⟩ := h
  exact (Array.getElem?_eq_some_iff.1 hc).1
theorem Ints_notN {w w' : World} {N B : Nat} {v : Value} {L : List Int} (hB : N < B) (h : Ints w B v L) (ho : Only (fun k => k = N) w w') : Ints w' B v L :=
  Ints_only h ho fun k hk e => by have := (Ints_lt h k hk).1; omega
theorem lim7 {x y z : Int} (hx : 0 ≤ x ∧ x < 1000000000) (hy : 0 ≤ y ∧ y < 1000000000) (h : z ∈ [0, 1, 2, 999999999, 500000000, x, y]) : 0 ≤ z ∧ z < 1000000000 := by
  simp at h
  omega

/-- A new number of at most four limbs. -/
def MadeP (mst : Int) (N : Nat) (w : World) (e : Ending) (w' : World) : Prop := ∃ L v, Can L ∧ (L.length : Int) ≤ mst ∧ e = .returned v ∧ Ints w' w.heap.size v L ∧ Only (fun k => k = N ∨ w.heap.size ≤ k) w w'

/-- MakeNat's answer: a new number of at most four limbs. -/
def NatP (w : World) (e : Ending) (w' : World) : Prop := ∃ L, Can L ∧ L.length ≤ 4 ∧ OwnP L w e w'
end Go.Proofs.YtdffmeinofgdgaaGreat

/- The draws of big integers: MakeWhole. -/
namespace Go.Proofs.YtdffmeinofgdgaaGreat
open Go.RowKit
open Go.Lib (hid)
set_option linter.unusedVariables false

def OnceE (N : Nat) (a : Option Addr) (n c : Nat) (Z : List Int) (w : World) (e : Ending) (w' : World) : Prop :=
  ∃ b, e = .returned (.bool b) ∧ CurE w' N a n c Z ∧ Only (fun k => k = N) w w'
def DrawW (N : Nat) (w : World) (e : Ending) (w' : World) : Prop := ∃ X u, -pw 3 < X ∧ X < pw 3 ∧ e = .returned (.agg #[.bool (gzs X), u]) ∧ Ints w' w.heap.size u (gzl X) ∧ Only (fun k => k = N ∨ w.heap.size ≤ k) w w'
theorem pw3_1000 : (1000 : Int) < pw 3 ∧ pw 3 < pw 60 := by decide
/-- MakeWhole's answer: an integer of at most three limbs. -/
def WholeP (w : World) (e : Ending) (w' : World) : Prop := ∃ X u, -pw 3 < X ∧ X < pw 3 ∧ e = .returned (.agg #[.bool (gzs X), u]) ∧ Ints w' w.heap.size u (gzl X) ∧ Below w.heap.size w w'
end Go.Proofs.YtdffmeinofgdgaaGreat

/- The draws of a number and of an integer, with the cursor that they leave. -/
namespace Go.Proofs.YtdffmeinofgdgaaGreat
open Go.RowKit
open Go.Lib (hid)
set_option linter.unusedVariables false

def MadeE (mst : Int) (N : Nat) (a : Option Addr) (n c : Nat) (Z : List Int) (w : World) (e : Ending) (w' : World) : Prop := ∃ L v, Can L ∧ (L.length : Int) ≤ mst ∧ e = .returned v ∧ Ints w' w.heap.size v L ∧ CurE w' N a n c Z ∧ Only (fun k => k = N ∨ w.heap.size ≤ k) w w'
def DrawWE (N : Nat) (a : Option Addr) (n c : Nat) (Z : List Int) (w : World) (e : Ending) (w' : World) : Prop := ∃ X u, -pw 3 < X ∧ X < pw 3 ∧ e = .returned (.agg #[.bool (gzs X), u]) ∧ Ints w' w.heap.size u (gzl X) ∧ CurE w' N a n c Z ∧ Only (fun k => k = N ∨ w.heap.size ≤ k) w w'
theorem CurE_set2 {w : World} {N b : Nat} {a : Option Addr} {n c : Nat} {Z : List Int} {x y : Value} (h : CurE w N a n c Z) (hb : N < b) (hu : Under N a Z) : CurE ((w.setCell ⟨b, 0, none⟩ x).setCell ⟨b, 1, none⟩ y) N a n c Z :=
  CurE_below h (((Below.refl (N + 1) w).setCell (p := ⟨b, 0, none⟩) (by show N + 1 ≤ b; omega) x).setCell (p := ⟨b, 1, none⟩) (by show N + 1 ≤ b; omega) y) (Nat.lt_succ_self _) (by have := CurE_lt h; omega) hu
theorem CurE_old {w w' : World} {N : Nat} {a : Option Addr} {n c : Nat} {Z : List Int} (h : CurE w N a n c Z) (hb : Below w.heap.size w w') (hu : Under N a Z) : CurE w' N a n c Z := CurE_below h hb (CurE_lt h) (Nat.le_refl _) hu
end Go.Proofs.YtdffmeinofgdgaaGreat

/- The draw of a fraction. -/
namespace Go.Proofs.YtdffmeinofgdgaaGreat
open Go.RowKit
open Go.Lib (hid)
set_option linter.unusedVariables false

theorem draw_make {X : Int} {D : List Int} (hX : -pw 3 < X ∧ X < pw 3) (nD : nok D = true) (h0 : 0 < val D) (hl : val D < pw 3) : ∃ q, szq q 3 ∧ mk2 (gzs X) (gzl X) false D = some q := by
  have hX' : (X.natAbs : Int) < pw 3 := by omega
  have h3 := pw3_1000
  obtain ⟨k1, e1⟩ := gz_ok (Z := X) (by omega)
  refine ⟨Rat.divInt X (val D), szq_divInt hX' (by omega) (by omega), ?_⟩
  rw [mk2_yes k1 (bok_pos nD), e1, show sval false (val D) = val D from rfl]
  unfold mkFr
  rw [if_neg (by omega)]
  exact capF_yes (szq_fit (szq_divInt hX' (by omega) (by omega)) (by decide))
/-- A struct whose lists are a fraction's. -/
theorem RatX_of {w : World} {v u : Value} {x : Rat} {b1 b2 : Nat} (h1 : Ints w b1 v (gzl x.num)) (h2 : Ints w b2 u (gzl (x.den : Int))) (hf : fit x) : RatX w (gzs x.num) v u x := by
  obtain ⟨r1, r2, r3, r4⟩ := rval_parts (fitO_some hf)
  have r3' : (gzl x.num).length ≤ 24 := r3
  have r4' : (gzl (x.den : Int)).length ≤ 24 := r4
  obtain ⟨z, e, k⟩ := RatX.of (s := gzs x.num) (show RL w v u (gzl x.num) (gzl (x.den : Int)) from ⟨⟨b1, h1⟩, ⟨b2, h2⟩, by omega, by omega⟩) r2
  have e2 : rval (gzs x.num) (gzl x.num) (gzl (x.den : Int)) = some x := r1
  rw [e2] at e
  cases e
  exact k
theorem ok_x {w : World} {s : Bool} {v u : Value} {x : Rat} (h : RatX w s v u x) : Calls Tryz.prog 82 #[.agg #[.bool s, v, u]] w (RetB (.bool true) w) := by
  obtain ⟨A, D, r, k, -⟩ := h
  have := spec_RatOk s v u A D w r
  rw [k] at this
  exact this
theorem LocA.under {T : TypeId} {w w' : World} {b B : Nat} {cs : Array Value} (h : LocA T w b cs) (hb : Below B w w') (hlt : b < B) : LocA T w' b cs := (hb.block _ hlt).trans h
def DrawR (N : Nat) (w : World) (e : Ending) (w' : World) : Prop := ∃ (x : Rat) (v u : Value), szq x 3 ∧ e = .returned (.agg #[.bool (gzs x.num), v, u]) ∧ Ints w' w.heap.size v (gzl x.num) ∧ Ints w' w.heap.size u (gzl (x.den : Int)) ∧ Only (fun k => k = N ∨ w.heap.size ≤ k) w w'
theorem DrawR_out {N b : Nat} {w w4 : World} {x : Rat} {v u : Value} {B C : Nat} {cs : Array Value} (hx : szq x 3) (hb : w.heap.size ≤ b) (hL : LocA 65 w4 b cs) (h1 : Ints w4 B v (gzl x.num)) (h2 : Ints w4 C u (gzl (x.den : Int))) (hB : w.heap.size ≤ B) (hC : w.heap.size ≤ C) (ho : Only (fun k => k = N ∨ w.heap.size ≤ k) w w4) :
    DrawR N w (.returned (.agg #[.bool (gzs x.num), v, u])) (((w4.setCell ⟨b, 0, none⟩ (.bool (gzs x.num))).setCell ⟨b, 1, none⟩ v).setCell ⟨b, 2, none⟩ u) := by
  have n1 := hL.ne (by decide) h1
  have n2 := hL.ne (by decide) h2
  exact ⟨x, v, u, hx, rfl, Ints_base (Ints_set (Ints_set (Ints_set h1 n1) n1) n1) hB, Ints_base (Ints_set (Ints_set (Ints_set h2 n2) n2) n2) hC, ((ho.setCell (.inr hb) _).setCell (.inr hb) _).setCell (.inr hb) _⟩
theorem Ints_pastN {w w' : World} {N B : Nat} {v : Value} {L : List Int} (h : Ints w B v L) (hB : N < B) (ho : Only (fun k => k = N ∨ w.heap.size ≤ k) w w') : Ints w' B v L :=
  Ints_apart h ho fun e => by have := (Ints_lt h N e).1; omega
/-- MakeRat's answer: a fraction whose parts have at most three limbs. -/
def MakeR (w : World) (e : Ending) (w' : World) : Prop := ∃ (x : Rat) (v u : Value), szq x 3 ∧ e = .returned (.agg #[.bool (gzs x.num), v, u]) ∧ Ints w' w.heap.size v (gzl x.num) ∧ Ints w' w.heap.size u (gzl (x.den : Int)) ∧ Below w.heap.size w w'
end Go.Proofs.YtdffmeinofgdgaaGreat

/- Fractions by their values: the program's functions in the laws' words. -/
namespace Go.Proofs.YtdffmeinofgdgaaGreat
open Go.RowKit
open Go.Lib (hid)
set_option linter.unusedVariables false

/-- A call that gives the fraction x. -/
def RatP (x : Rat) (w : World) (e : Ending) (w' : World) : Prop := ∃ s a n c b m d, e = .returned (.agg #[.bool s, .slice a n c, .slice b m d]) ∧ RatX w' s (.slice a n c) (.slice b m d) x ∧ Below w.heap.size w w'
theorem RatP_of {x : Rat} {w w' : World} {e : Ending} (h : OwnR (some x) w e w') (hf : fit x) : RatP x w e w' := by
  obtain ⟨v, u, he, h1, h2, -, hb⟩ := h
  have h1' : Ints w' w.heap.size v (gzl x.num) := h1
  have h2' : Ints w' w.heap.size u (gzl (x.den : Int)) := h2
  obtain ⟨a, c, rfl, -⟩ := Ints_form h1'
  obtain ⟨b, d, rfl, -⟩ := Ints_form h2'
  exact ⟨gzs x.num, a, _, c, b, _, d, he, RatX_of h1' h2' hf, hb⟩
theorem RatX.val {w : World} {s : Bool} {v u : Value} {x : Rat} (h : RatX w s v u x) : ∃ A D, RL w v u A D ∧ rval s A D = some x := by
  obtain ⟨A, D, r, k, n1, d1, -⟩ := h
  obtain ⟨y, e, n2, d2, -⟩ := rval_yes k
  have : y = x := Rat.ext (by rw [n2, n1]) (by omega)
  subst this
  exact ⟨A, D, r, e⟩
theorem RatX.fits {w : World} {s : Bool} {v u : Value} {x : Rat} (h : RatX w s v u x) : fit x := by
  obtain ⟨A, D, r, k, n1, d1, f⟩ := h
  exact f
theorem add_rat {w : World} {s t : Bool} {v u v' u' : Value} {x y z : Rat} (h : RatX w s v u x) (h' : RatX w t v' u' y) (hz : x + y = z) (hf : fit z) : Calls Tryz.prog 73 #[.agg #[.bool s, v, u], .agg #[.bool t, v', u']] w (RatP z w) := by
  subst hz
  obtain ⟨A, D, r, e⟩ := h.val
  obtain ⟨A', D', r', e'⟩ := h'.val
  refine (impl_RatAdd s t v u v' u' A D A' D' w r r').mono fun e2 w' hh => RatP_of (by rw [e, e', bq_some] at hh; unfold addF at hh; rw [capF_yes hf] at hh; exact hh) hf
theorem mul_rat {w : World} {s t : Bool} {v u v' u' : Value} {x y z : Rat} (h : RatX w s v u x) (h' : RatX w t v' u' y) (hz : x * y = z) (hf : fit z) : Calls Tryz.prog 74 #[.agg #[.bool s, v, u], .agg #[.bool t, v', u']] w (RatP z w) := by
  subst hz
  obtain ⟨A, D, r, e⟩ := h.val
  obtain ⟨A', D', r', e'⟩ := h'.val
  refine (impl_RatMul s t v u v' u' A D A' D' w r r').mono fun e2 w' hh => RatP_of (by rw [e, e', bq_some] at hh; unfold mulF at hh; rw [capF_yes hf] at hh; exact hh) hf
theorem ok_zero {w : World} {v u : Value} (h : RL w v u [] []) : Calls Tryz.prog 67 #[.agg #[.bool false, v, u]] w (RetB (.bool false) w) := by
  have := impl_RatOk false v u [] [] w h
  rw [show rok false [] [] = false by unfold rok; simp] at this
  exact this
theorem okk_rat {w : World} {s : Bool} {v u : Value} {x : Rat} (h : RatX w s v u x) : Calls Tryz.prog 67 #[.agg #[.bool s, v, u]] w (RetB (.bool true) w) := by
  obtain ⟨A, D, r, k, -⟩ := h
  have := impl_RatOk s v u A D w r
  rw [k] at this
  exact this
theorem eq_rat {w : World} {s t : Bool} {v u v' u' : Value} {x y : Rat} {z : Bool} (h : RatX w s v u x) (h' : RatX w t v' u' y) (hz : decide (x = y) = z) : Calls Tryz.prog 43 #[.agg #[.bool s, v, u], .agg #[.bool t, v', u']] w (RetB (.bool z) w) := by
  obtain ⟨A, D, r, e⟩ := h.val
  obtain ⟨A', D', r', e'⟩ := h'.val
  have hh := impl_RatEqual s t v u v' u' A D A' D' w r r'
  have e3 : ((s == t) && decide (A = A') && decide (D = D')) = z := by
    rw [← hz]
    obtain ⟨g1, g2, g3⟩ := rval_lists e
    obtain ⟨k1, k2, k3⟩ := rval_lists e'
    by_cases hxy : x = y
    · subst hxy
      have a1 : s = t := g1.symm.trans k1
      have a2 : A = A' := g2.symm.trans k2
      have a3 : D = D' := g3.symm.trans k3
      simp [a1, a2, a3]
    · rw [decide_eq_false hxy]
      cases hb : ((s == t) && decide (A = A') && decide (D = D')) with
      | false => rfl
      | true =>
        simp only [Bool.and_eq_true, decide_eq_true_eq, beq_iff_eq] at hb
        obtain ⟨⟨a1, a2⟩, a3⟩ := hb
        subst a1
        subst a2
        subst a3
        rw [e] at e'
        cases e'
        exact absurd rfl hxy
  rw [e3] at hh
  exact hh
theorem RatX.set {T : TypeId} {w : World} {N i : Nat} {cs : Array Value} {y : Value} {s : Bool} {v u : Value} {x : Rat} (h : RatX w s v u x) (hL : LocA T w N cs) (hT : T ≠ 3) : RatX (w.setCell ⟨N, i, none⟩ y) s v u x := by
  obtain ⟨A, D, ⟨⟨b1, i1⟩, ⟨b2, i2⟩, l1, l2⟩, k⟩ := h
  exact ⟨A, D, ⟨⟨b1, Ints_set i1 (hL.ne hT i1)⟩, ⟨b2, Ints_set i2 (hL.ne hT i2)⟩, l1, l2⟩, k⟩
/-- The fraction z has been laid into a variable of its own, behind W. -/
def LaidQ (W : World) (z : Rat) (sl : Value) (wx : World) : Prop := ∃ g s a n c b m d, sl = .pointer (some ⟨g, 0, none⟩) ∧ LocA 65 wx g #[.bool s, .slice a n c, .slice b m d] ∧ RatX wx s (.slice a n c) (.slice b m d) z ∧ W.heap.size ≤ g ∧ Below W.heap.size W wx
theorem LaidQ_a {W wf : World} {s : Bool} {a b : Option Addr} {n c m d : Nat} {z : Rat} (h : RatX wf s (.slice a n c) (.slice b m d) z) (hb : Below W.heap.size W wf) :
    LaidQ W z (.pointer (some ⟨wf.heap.size, 0, none⟩)) (wf.alloc (.cells #[.bool s, .slice a n c, .slice b m d] 65)) :=
  ⟨wf.heap.size, s, a, n, c, b, m, d, rfl, LocA.new, h.old below_new', hb.size, hb.alloc hb.size _⟩
theorem LaidQ_b {W wf : World} {N : Nat} {s : Bool} {a b : Option Addr} {n c m d : Nat} {z : Rat} (hL : LocA 65 wf N #[.bool false, .slice none 0 0, .slice none 0 0]) (hN : W.heap.size ≤ N) (h : RatX wf s (.slice a n c) (.slice b m d) z) (hb : Below W.heap.size W wf) :
    LaidQ W z (.pointer (some ⟨N, 0, none⟩)) (((wf.setCell ⟨N, 0, none⟩ (.bool s)).setCell ⟨N, 1, none⟩ (.slice a n c)).setCell ⟨N, 2, none⟩ (.slice b m d)) := by
  have l1 := hL.set (i := 0) (x := .bool s)
  have l2 := l1.set (i := 1) (x := .slice a n c)
  have l3 := l2.set (i := 2) (x := .slice b m d)
  exact ⟨N, s, a, n, c, b, m, d, rfl, l3, ((h.set hL (by decide)).set l1 (by decide)).set l2 (by decide), hN, ((hb.setCell hN _).setCell hN _).setCell hN _⟩
theorem ByteRow_in {w : World} {a : Option Addr} {len cap : Nat} {zs : List Int}
    (h : (a = none ∧ len = 0 ∧ cap = 0 ∧ zs = []) ∨ ∃ x, a = some x ∧ len ≤ cap ∧ cap ≤ maxLen ∧ zs.length = cap ∧ (∀ i, i < zs.length → w.cell? (x.add i) = some (.int .u8 (zs.getD i 0))) ∧ ∀ n ∈ zs, (Lit.int .u8 n).wf = true) :
    ∃ Z, ByteRow w a len Z ∧ len ≤ maxLen := by
  rcases h with ⟨rfl, rfl, rfl, rfl⟩ | ⟨x, rfl, hl, hm, hz, hc, hw⟩
  · exact ⟨[], ⟨rfl, (fun z h => by cases h), (fun h => by cases h)⟩, by unfold maxLen; omega⟩
  · have hlen : (zs.take len).length = len := by simp; omega
    refine ⟨zs.take len, ⟨hlen.symm, fun z hz => ?_, fun h0 => ?_⟩, by omega⟩
    · have h := hw z (List.mem_of_mem_take hz)
      simp only [Lit.wf, Bool.and_eq_true, decide_eq_true_eq] at h
      exact h
    obtain ⟨g, o, spot⟩ := x
    have hs : spot = none := by
      have := hc 0 (by omega)
      simpa [Addr.add] using World.cell?_spot this
    subst hs
    have hat : ∀ i, i < zs.length → w.cell? ⟨g, o + i, none⟩ = some (.int .u8 (zs.getD i 0)) := fun i hi => by rw [← Go.WideShapes.add_plain]; exact hc i hi
    refine ⟨g, o, rfl, World.block_lt_of_cell? w ⟨g, o + 0, none⟩ (hat 0 (by omega)), fun i hi => ?_⟩
    have hi' : i < zs.length := by omega
    rw [hat i hi', List.getElem_take]
    simp [hi']

end Go.Proofs.YtdffmeinofgdgaaGreat
