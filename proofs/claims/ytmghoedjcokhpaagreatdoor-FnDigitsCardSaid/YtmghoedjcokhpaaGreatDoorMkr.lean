/- Merged: Cur Mk Mw Mr Mt Mu. -/
import Derived.Test.YtmghoedjcokhpaaGreatDoorProg
import Derived.WalkKit
import Derived.Lib.Hide
import Derived.Laws.Bits128
import Derived.Deep.QuietTactic
import Derived.BigQuiet
import Derived.WalkSmall
import Derived.Test.YtmghoedjcokhpaaGreatDoorBas
import Derived.Test.YtmghoedjcokhpaaGreatDoorImm
import Derived.Test.YtmghoedjcokhpaaGreatDoorWsm
import Derived.Maps.AppendAt
import Derived.Test.YtmghoedjcokhpaaGreatDoorSws
import Derived.Deep.RegionHeld3
import Derived.Deep.DeepCutAuto
/- The draws of the laws: the cursor over the code's bytes; a draw is a function of the bytes. -/
namespace Go.Proofs.YtmghoedjcokhpaaGreatDoor
open Go.RowKit
open Go.Lib (hid)

theorem i64_mask30 (n : Int) : bits .and .i64 n 1073741823 = n % 1073741824 := by
  have h : (BitVec.ofInt 64 1073741823).toNat = 2 ^ 30 - 1 := by decide
  have key : (BitVec.ofInt 64 n &&& BitVec.ofInt 64 1073741823).toNat = (n % ((2 ^ 64 : Nat) : Int)).toNat % 2 ^ 30 := by
    rw [BitVec.toNat_and, BitVec.toNat_ofInt, h, Nat.and_two_pow_sub_one_eq_mod]
  show IntKind.i64.wrap ((BitVec.ofInt 64 n &&& BitVec.ofInt 64 1073741823).toNat : Nat) = n % 1073741824
  rw [key, IntKind.wrap_i64]
  omega
theorem i64_mask8 (n : Int) : bits .and .i64 n 255 = n % 256 := by
  have h : (BitVec.ofInt 64 255).toNat = 2 ^ 8 - 1 := by decide
  have key : (BitVec.ofInt 64 n &&& BitVec.ofInt 64 255).toNat = (n % ((2 ^ 64 : Nat) : Int)).toNat % 2 ^ 8 := by
    rw [BitVec.toNat_and, BitVec.toNat_ofInt, h, Nat.and_two_pow_sub_one_eq_mod]
  show IntKind.i64.wrap ((BitVec.ofInt 64 n &&& BitVec.ofInt 64 255).toNat : Nat) = n % 256
  rw [key, IntKind.wrap_i64]
  omega

/-- A slice of bytes that came in: its elements are Z. -/
def ByteRow (w : World) (a : Option Addr) (n : Nat) (Z : List Int) : Prop :=
  n = Z.length ∧ (∀ z ∈ Z, 0 ≤ z ∧ z ≤ 255) ∧ (0 < Z.length → ∃ g o, a = some ⟨g, o, none⟩ ∧ g < w.heap.size ∧ ∀ i (h : i < Z.length), w.cell? ⟨g, o + i, none⟩ = some (.int .u8 Z[i]))
theorem ByteRow_below {w w' : World} {a : Option Addr} {n : Nat} {Z : List Int} (h : ByteRow w a n Z) (hb : Below w.heap.size w w') : ByteRow w' a n Z := by
  refine ⟨h.1, h.2.1, fun h0 => ?_⟩
  obtain ⟨g, o, e, hg, hc⟩ := h.2.2 h0
  exact ⟨g, o, e, Nat.lt_of_lt_of_le hg hb.size, fun i hi => (hb.cell (p := ⟨g, o + i, none⟩) hg).trans (hc i hi)⟩

/-- The hash after k bytes. -/
def hashTo (Z : List Int) : Nat → Int
  | 0 => 1948 + Z.length
  | k + 1 => (hashTo Z k * 53 + Z.getD k 0 + 7) % 1073741824
def hashed (Z : List Int) : Int := hashTo Z (min Z.length 4000)
theorem hashTo_le {Z : List Int} (h : Z.length ≤ 1048576) : ∀ k, 0 ≤ hashTo Z k ∧ hashTo Z k ≤ 1073741824
  | 0 => by simp only [hashTo]; omega
  | k + 1 => by simp only [hashTo]; omega
theorem hashTo_step {Z : List Int} {k : Nat} (h : k < Z.length) : hashTo Z (k + 1) = (hashTo Z k * 53 + Z[k] + 7) % 1073741824 := by
  simp [hashTo, h]

/-- The cursor as the call lays it: the bytes, where it stands, the hash. -/
def curCells (a : Option Addr) (n c : Nat) (i h : Int) : Array Value := #[.slice a n c, .int .i64 i, .int .i64 h]

set_option maxRecDepth 100000 in
set_option maxHeartbeats 800000 in
theorem l01New_any (a : Option Addr) (n c : Nat) (Z : List Int) (hZ : Z.length ≤ 1048576) (w : World) (hr : ByteRow w a n Z) :
    Calls Tryz.prog 45 #[.slice a n c] w fun e w' => e = .returned (.pointer (some ⟨w.heap.size, 0, none⟩)) ∧ w' = w.alloc (.cells #[.slice a n c, .int .i64 0, .int .i64 (hashed Z)] 74) := by
  obtain ⟨rfl, hz, hr⟩ := hr
  have HR := hid hr
  have HZ := hid hz
  have HL := fun k => hashTo_le hZ k
  have HL := hid HL
  clear hr hz
  go_enter Tryz.func45, Tryz.ntmps45
  go_wp2_with fail
  go_loop [3, 4] (fun h i => ∃ (k : Nat) (x : Int), k ≤ Z.length ∧ k ≤ 4000 ∧ i = .int .i64 k ∧ h = .int .i64 x ∧ 0 ≤ x ∧ x ≤ 1073741824 ∧ Hid (x = hashTo Z k)) (fun _ i => Z.length - (intOf i).toNat)
  case atStart => exact ⟨0, _, Nat.zero_le _, by omega, rfl, rfl, by omega, by omega, hid rfl⟩
  case round =>
    obtain ⟨k, x, hk, hk2, rfl, rfl, hx0, hx1, hx⟩ := hrel
    by_cases hlt : k < Z.length
    · by_cases h4 : k < 4000
      · obtain ⟨g, o, rfl, hg, hc⟩ := HR.out (by omega)
        have hck := hc k hlt
        have hzk := HZ.out Z[k] (List.getElem_mem hlt)
        have HS := hid (hashTo_step hlt)
        clear hc
        have a1 : (0 : Int) ≤ k := by omega
        have a2 : (k : Int) < Z.length := by omega
        have a3 : (k : Int) < 4000 := by omega
        have hm := i64_mask30 (x * 53 + Z[k] + 7)
        go_wp2_with fail
        go_round
        case rel => exact ⟨k + 1, _, by omega, by omega, by go_num, rfl, by omega, by omega, hid (by rw [HS.out, ← hx.out])⟩
        case measure => simp [intOf]; omega
      · have a3 : ¬ (k : Int) < 4000 := by omega
        have a2 : (k : Int) < Z.length := by omega
        have HE := hid (show x = hashed Z by rw [hx.out]; unfold hashed; congr 1; omega)
        go_wp2_with fail
        go_ret
        rw [← HE.out]
        exact ⟨rfl, rfl⟩
    · have HE := hid (show x = hashed Z by rw [hx.out]; unfold hashed; congr 1; omega)
      go_wp2_with fail
      go_ret
      rw [← HE.out]
      exact ⟨rfl, rfl⟩

/-- The draw of a byte: what the hash turns into, and the byte. -/
def hashNext (h : Int) : Int := wrap64 (wrap64 (h * 6364136223846793005) + 1442695040888963407)

/-- Block N is the cursor: the bytes, where it stands, the hash. -/
def IsCur (w : World) (N : Nat) (a : Option Addr) (n c : Nat) (i : Nat) (h : Int) : Prop := w.heap[N]? = some (.cells #[.slice a n c, .int .i64 i, .int .i64 h] 74 (0, 0))
theorem IsCur_facts {w : World} {N : Nat} {a : Option Addr} {n c i : Nat} {h : Int} (hN : IsCur w N a n c i h) :
    w.cell? ⟨N, 0, none⟩ = some (.slice a n c) ∧ w.cell? ⟨N, 1, none⟩ = some (.int .i64 i) ∧ w.cell? ⟨N, 2, none⟩ = some (.int .i64 h) ∧ w.frozen? ⟨N, 1, none⟩ = false ∧ w.frozen? ⟨N, 2, none⟩ = false := by
  unfold IsCur at hN
  refine ⟨?_, ?_, ?_, ?_, ?_⟩ <;> simp [World.cell?, World.frozen?, hN]
theorem IsCur_hash {w : World} {N : Nat} {a : Option Addr} {n c i : Nat} {h : Int} (hN : IsCur w N a n c i h) (h' : Int) : IsCur (w.setCell ⟨N, 2, none⟩ (.int .i64 h')) N a n c i h' := by
  unfold IsCur at hN ⊢
  simp [World.setCell, Array.getElem?_modify, hN]
theorem IsCur_next {w : World} {N : Nat} {a : Option Addr} {n c i : Nat} {h : Int} (hN : IsCur w N a n c i h) (i' : Nat) : IsCur (w.setCell ⟨N, 1, none⟩ (.int .i64 i')) N a n c i' h := by
  unfold IsCur at hN ⊢
  simp [World.setCell, Array.getElem?_modify, hN]
theorem IsCur_drewN {w : World} {N : Nat} {a : Option Addr} {n c i : Nat} {h : Int} (hN : IsCur w N a n c i h) (d : Nat) : IsCur (w.drewN d) N a n c i h := hN
theorem ByteRow_drewN {w : World} {a : Option Addr} {n : Nat} {Z : List Int} (h : ByteRow w a n Z) (d : Nat) : ByteRow (w.drewN d) a n Z := h

/-- The byte that the hash gives; the draw's byte; where the cursor stands behind the draw. -/
def hashByte (h : Int) : Int := bits BinOp.and IntKind.i64 (bits BinOp.xor IntKind.i64 (h / 8589934592) (h / 35184372088832)) 255
theorem hashByte_le (h : Int) : 0 ≤ hashByte h ∧ hashByte h ≤ 255 := by
  unfold hashByte; rw [i64_mask8]; omega
def drawB (Z : List Int) (i : Nat) (h : Int) : Int := if i < Z.length then (hashByte (hashNext h) + Z.getD i 0) % 256 else hashByte (hashNext h)
def drawI (Z : List Int) (i : Nat) : Nat := if i < Z.length then i + 1 else i
theorem drawB_le (Z : List Int) (i : Nat) (h : Int) : 0 ≤ drawB Z i h ∧ drawB Z i h ≤ 255 := by
  unfold drawB
  split
  · omega
  · exact hashByte_le _
theorem drawB_yes {Z : List Int} {i : Nat} {h : Int} (hi : i < Z.length) : drawB Z i h = (hashByte (hashNext h) + Z[i]) % 256 := by
  simp [drawB, hi]
theorem drawB_no {Z : List Int} {i : Nat} {h : Int} (hi : ¬ i < Z.length) : drawB Z i h = hashByte (hashNext h) := by
  simp only [drawB, if_neg hi]

def DrawPost (N : Nat) (a : Option Addr) (n c i : Nat) (Z : List Int) (h : Int) (w : World) (e : Ending) (w' : World) : Prop :=
  e = .returned (.int .i64 (drawB Z i h)) ∧ IsCur w' N a n c (drawI Z i) (hashNext h) ∧ Below N w w'

set_option maxRecDepth 100000 in
set_option maxHeartbeats 1600000 in
theorem l01Byte_any (N : Nat) (a : Option Addr) (n c i : Nat) (Z : List Int) (h : Int) (hZ : Z.length ≤ 1048576) (w : World) (hr : ByteRow w a n Z) (hN : IsCur w N a n c i h) (hi : i ≤ Z.length)
    (hg0 : ∀ g o, a = some ⟨g, o, none⟩ → 0 < Z.length → g < N) :
    Calls Tryz.prog 95 #[.pointer (some ⟨N, 0, none⟩)] w (DrawPost N a n c i Z h w) := by
  obtain ⟨c0, c1, c2, f1, f2⟩ := IsCur_facts hN
  have HN := hid (IsCur_hash hN (hashNext h))
  have HB := hid ((Below.refl N w).setCell (p := ⟨N, 2, none⟩) (Nat.le_refl _) (.int .i64 (hashNext h)))
  have HR := hid hr
  have HG := hid hg0
  clear hr hN hg0
  go_enter Tryz.func95, Tryz.ntmps95
  go_wp2_with fail
  have ew : w.setCell ⟨N, 2, none⟩ (.int .i64 (wrap64 (wrap64 (h * 6364136223846793005) + 1442695040888963407))) = w.setCell ⟨N, 2, none⟩ (.int .i64 (hashNext h)) := rfl
  rw [ew]
  generalize w.setCell ⟨N, 2, none⟩ (.int .i64 (hashNext h)) = w1 at HN HB ⊢
  clear ew c0 c1 c2 f1 f2
  obtain ⟨c0, c1, c2, f1, f2⟩ := IsCur_facts HN.out
  obtain ⟨h', hh'⟩ : ∃ h', h' = hashNext h := ⟨_, rfl⟩
  have HH := hid hh'
  rw [← hh'] at c2 HN
  clear hh'
  go_quiet (fail)
  go_wp2_with fail
  have hx := hashByte_le h'
  have ex : bits BinOp.and IntKind.i64 (bits BinOp.xor IntKind.i64 (h' / 8589934592) (h' / 35184372088832)) 255 = hashByte h' := rfl
  rw [ex]
  obtain ⟨x, hxx⟩ : ∃ x, x = hashByte h' := ⟨_, rfl⟩
  have HX := hid hxx
  rw [← hxx] at hx ⊢
  clear ex hxx
  by_cases hlt : i < Z.length
  · obtain ⟨rfl, hz, hrow⟩ := HR.out
    obtain ⟨g, o, rfl, hg, hc⟩ := hrow (by omega)
    have hgN := HG.out g o rfl (by omega)
    have hzi := hz Z[i] (List.getElem_mem hlt)
    have hci : w1.cell? ⟨g, o + i, none⟩ = some (.int .u8 Z[i]) := (HB.out.cell (p := ⟨g, o + i, none⟩) hgN).trans (hc i hlt)
    clear hz hrow hc
    have a1 : (0 : Int) ≤ i := by omega
    have a2 : (i : Int) < Z.length := by omega
    have hm8 := i64_mask8 (x + Z[i])
    have HD := hid (drawB_yes (h := h) hlt)
    have HI := hid (show drawI Z i = i + 1 by simp [drawI, hlt])
    go_quiet (fail)
    go_wp2_with fail
    go_quiet (fail)
    go_wp2_with fail
    go_ret
    refine ⟨?_, ?_, ?_⟩
    · rw [HD.out, ← HH.out, ← HX.out]; rfl
    · rw [HI.out, ← HH.out]
      have hx := IsCur_next HN.out (i + 1)
      unfold IsCur at hx ⊢
      exact hx
    · have hb := HB.out.setCell (p := ⟨N, 1, none⟩) (Nat.le_refl _) (.int .i64 ((i : Int) + 1))
      exact ⟨hb.os, hb.tape, hb.output, hb.size, hb.block⟩
  · have a2 : ¬ (i : Int) < Z.length := by omega
    have en := HR.out.1
    subst en
    have HD := hid (drawB_no (h := h) hlt)
    have HI := hid (show drawI Z i = i by simp [drawI, hlt])
    go_quiet (fail)
    go_wp2_with fail
    go_ret
    refine ⟨?_, ?_, ?_⟩
    · rw [HD.out, ← HH.out, ← HX.out]; rfl
    · rw [HI.out, ← HH.out]
      have hx := HN.out
      unfold IsCur at hx ⊢
      exact hx
    · have hb := HB.out
      exact ⟨hb.os, hb.tape, hb.output, hb.size, hb.block⟩

def BelowPost (N : Nat) (a : Option Addr) (n c i : Nat) (Z : List Int) (h m : Int) (w : World) (e : Ending) (w' : World) : Prop :=
  e = .returned (.int .i64 (drawB Z i h % m)) ∧ IsCur w' N a n c (drawI Z i) (hashNext h) ∧ Below N w w'

set_option maxRecDepth 100000 in
set_option maxHeartbeats 800000 in
theorem l01Below_small (N : Nat) (a : Option Addr) (n c i : Nat) (Z : List Int) (h m : Int) (hZ : Z.length ≤ 1048576) (w : World) (hr : ByteRow w a n Z) (hN : IsCur w N a n c i h) (hi : i ≤ Z.length)
    (hg0 : ∀ g o, a = some ⟨g, o, none⟩ → 0 < Z.length → g < N) (m0 : 0 < m) (m1 : m ≤ 256) :
    Calls Tryz.prog 59 #[.pointer (some ⟨N, 0, none⟩), .int .i64 m] w (BelowPost N a n c i Z h m w) := by
  have K := hid (l01Byte_any N a n c i Z h hZ w hr hN hi hg0)
  have hd := drawB_le Z i h
  obtain ⟨x, hx⟩ : ∃ x, x = drawB Z i h := ⟨_, rfl⟩
  have HX := hid hx
  rw [← hx] at hd
  clear hx hr hN hg0
  have hm0 : decide (m ≤ 0) = false := decide_eq_false (by omega)
  go_enter Tryz.func59, Tryz.ntmps59
  go_wp2_with fail
  refine K.out.mono ?_
  rintro e w1 ⟨rfl, hc, hb⟩
  rw [← HX.out]
  go_wp2_with fail
  go_ret
  rw [HX.out]
  exact ⟨rfl, hc, hb⟩

/-- What MakeNum(code, m) returns. -/
def numOf (Z : List Int) (m : Int) : Int := drawB Z 0 (hashed Z + 777) % m
theorem numOf_le (Z : List Int) {m : Int} (h : 0 < m) : 0 ≤ numOf Z m ∧ numOf Z m < m := by
  unfold numOf
  exact ⟨Int.emod_nonneg _ (by omega), Int.emod_lt_of_pos _ h⟩

set_option maxRecDepth 100000 in
set_option maxHeartbeats 800000 in
theorem MakeNum_any (a : Option Addr) (n c : Nat) (Z : List Int) (m : Int) (hZ : Z.length ≤ 1048576) (w : World) (hr : ByteRow w a n Z) (m0 : 0 < m) (m1 : m ≤ 256) :
    Calls Tryz.prog 24 #[.slice a n c, .int .i64 m] w fun e w' => e = .returned (.int .i64 (numOf Z m)) ∧ Below w.heap.size w w' := by
  have K := hid (l01New_any a n c Z hZ w hr)
  have hh := hashTo_le hZ (min Z.length 4000)
  obtain ⟨h, hhe⟩ : ∃ h, h = hashed Z := ⟨_, rfl⟩
  have HH := hid hhe
  change 0 ≤ hashed Z ∧ hashed Z ≤ 1073741824 at hh
  rw [← hhe] at hh
  have HR := hid hr
  clear hhe hr
  go_enter Tryz.func24, Tryz.ntmps24
  go_wp2_with fail
  refine K.out.mono ?_
  rintro e w1 ⟨rfl, rfl⟩
  rw [← HH.out]
  go_wp2_with fail
  have hb0 : Below w.heap.size w (w.alloc (.cells #[.slice a n c, .int .i64 0, .int .i64 (h + 777)] 74)) := (Below.refl _ _).alloc (Nat.le_refl _) _
  refine (l01Below_small w.heap.size a n c 0 Z (h + 777) m hZ _ (ByteRow_below HR.out hb0) (by unfold IsCur; exact heap_alloc_new w _) (Nat.zero_le _) (fun g o e h0 => ?_) m0 m1).mono ?_
  · obtain ⟨g', o', e', hg, _⟩ := HR.out.2.2 h0
    rw [e] at e'
    simp at e'
    omega
  rintro e w2 ⟨rfl, _, hb2⟩
  have HN := hid (show drawB Z 0 (h + 777) % m = numOf Z m by rw [HH.out]; rfl)
  go_wp2_with fail
  go_ret
  rw [← HN.out]
  exact ⟨rfl, hb0.trans hb2⟩
end Go.Proofs.YtmghoedjcokhpaaGreatDoor

/- The draws of numbers: MakeNat returns a number of at most four limbs. -/
namespace Go.Proofs.YtmghoedjcokhpaaGreatDoor
open Go.RowKit
open Go.Lib (hid)
set_option linter.unusedVariables false

def DrawO (N : Nat) (a : Option Addr) (n c i : Nat) (Z : List Int) (h : Int) (w : World) (e : Ending) (w' : World) : Prop :=
  e = .returned (.int .i64 (drawB Z i h)) ∧ IsCur w' N a n c (drawI Z i) (hashNext h) ∧ Only (fun k => k = N) w w'

set_option maxRecDepth 100000 in
set_option maxHeartbeats 1600000 in
theorem l01Byte_only (N : Nat) (a : Option Addr) (n c i : Nat) (Z : List Int) (h : Int) (hZ : Z.length ≤ 1048576) (w : World) (hr : ByteRow w a n Z) (hN : IsCur w N a n c i h) (hi : i ≤ Z.length)
    (hg0 : ∀ g o, a = some ⟨g, o, none⟩ → 0 < Z.length → g < N) :
    Calls Tryz.prog 95 #[.pointer (some ⟨N, 0, none⟩)] w (DrawO N a n c i Z h w) := by
  obtain ⟨c0, c1, c2, f1, f2⟩ := IsCur_facts hN
  have HN := hid (IsCur_hash hN (hashNext h))
  have HB := hid ((Only.refl (fun k => k = N) w).setCell (p := ⟨N, 2, none⟩) rfl (.int .i64 (hashNext h)))
  have HR := hid hr
  have HG := hid hg0
  clear hr hN hg0
  go_enter Tryz.func95, Tryz.ntmps95
  go_wp2_with fail
  have ew : w.setCell ⟨N, 2, none⟩ (.int .i64 (wrap64 (wrap64 (h * 6364136223846793005) + 1442695040888963407))) = w.setCell ⟨N, 2, none⟩ (.int .i64 (hashNext h)) := rfl
  rw [ew]
  generalize w.setCell ⟨N, 2, none⟩ (.int .i64 (hashNext h)) = w1 at HN HB ⊢
  clear ew c0 c1 c2 f1 f2
  obtain ⟨c0, c1, c2, f1, f2⟩ := IsCur_facts HN.out
  obtain ⟨h', hh'⟩ : ∃ h', h' = hashNext h := ⟨_, rfl⟩
  have HH := hid hh'
  rw [← hh'] at c2 HN
  clear hh'
  go_quiet (fail)
  go_wp2_with fail
  have hx := hashByte_le h'
  have ex : bits BinOp.and IntKind.i64 (bits BinOp.xor IntKind.i64 (h' / 8589934592) (h' / 35184372088832)) 255 = hashByte h' := rfl
  rw [ex]
  obtain ⟨x, hxx⟩ : ∃ x, x = hashByte h' := ⟨_, rfl⟩
  have HX := hid hxx
  rw [← hxx] at hx ⊢
  clear ex hxx
  by_cases hlt : i < Z.length
  · obtain ⟨rfl, hz, hrow⟩ := HR.out
    obtain ⟨g, o, rfl, hg, hc⟩ := hrow (by omega)
    have hgN := HG.out g o rfl (by omega)
    have hzi := hz Z[i] (List.getElem_mem hlt)
    have hci : w1.cell? ⟨g, o + i, none⟩ = some (.int .u8 Z[i]) := (HB.out.cell (p := ⟨g, o + i, none⟩) (show ¬ g = N by omega)).trans (hc i hlt)
    clear hz hrow hc
    have a1 : (0 : Int) ≤ i := by omega
    have a2 : (i : Int) < Z.length := by omega
    have hm8 := i64_mask8 (x + Z[i])
    have HD := hid (drawB_yes (h := h) hlt)
    have HI := hid (show drawI Z i = i + 1 by simp [drawI, hlt])
    go_quiet (fail)
    go_wp2_with fail
    go_quiet (fail)
    go_wp2_with fail
    go_ret
    refine ⟨?_, ?_, ?_⟩
    · rw [HD.out, ← HH.out, ← HX.out]; rfl
    · rw [HI.out, ← HH.out]
      have hx := IsCur_next HN.out (i + 1)
      unfold IsCur at hx ⊢
      exact hx
    · have hb := HB.out.setCell (p := ⟨N, 1, none⟩) rfl (.int .i64 ((i : Int) + 1))
      exact ⟨hb.os, hb.tape, hb.output, hb.size, hb.block⟩
  · have a2 : ¬ (i : Int) < Z.length := by omega
    have en := HR.out.1
    subst en
    have HD := hid (drawB_no (h := h) hlt)
    have HI := hid (show drawI Z i = i by simp [drawI, hlt])
    go_quiet (fail)
    go_wp2_with fail
    go_ret
    refine ⟨?_, ?_, ?_⟩
    · rw [HD.out, ← HH.out, ← HX.out]; rfl
    · rw [HI.out, ← HH.out]
      have hx := HN.out
      unfold IsCur at hx ⊢
      exact hx
    · have hb := HB.out
      exact ⟨hb.os, hb.tape, hb.output, hb.size, hb.block⟩


/-- The cursor stands in block N, wherever it stands. -/
def CurE (w : World) (N : Nat) (a : Option Addr) (n c : Nat) (Z : List Int) : Prop := ByteRow w a n Z ∧ ∃ i h, i ≤ Z.length ∧ IsCur w N a n c i h
/-- The code lies below block N. -/
def Under (N : Nat) (a : Option Addr) (Z : List Int) : Prop := ∀ g o, a = some ⟨g, o, none⟩ → 0 < Z.length → g < N
def DrewE (lo hi : Int) (N : Nat) (a : Option Addr) (n c : Nat) (Z : List Int) (w : World) (e : Ending) (w' : World) : Prop :=
  ∃ x, lo ≤ x ∧ x < hi ∧ e = .returned (.int .i64 x) ∧ CurE w' N a n c Z ∧ Only (fun k => k = N) w w'
theorem ByteRow_only {w w' : World} {N : Nat} {a : Option Addr} {n : Nat} {Z : List Int} (h : ByteRow w a n Z) (hu : Under N a Z) (ho : Only (fun k => k = N) w w') : ByteRow w' a n Z := by
  refine ⟨h.1, h.2.1, fun h0 => ?_⟩
  obtain ⟨g, o, e, hg, hc⟩ := h.2.2 h0
  have := hu g o e h0
  exact ⟨g, o, e, Nat.lt_of_lt_of_le hg ho.size, fun i hi => (ho.cell (p := ⟨g, o + i, none⟩) (show ¬ g = N by omega)).trans (hc i hi)⟩
theorem drawI_le {Z : List Int} {i : Nat} (h : i ≤ Z.length) : drawI Z i ≤ Z.length := by unfold drawI; split <;> omega
theorem byteE (N : Nat) (a : Option Addr) (n c : Nat) (Z : List Int) (hZ : Z.length ≤ 1048576) (w : World) (hc : CurE w N a n c Z) (hu : Under N a Z) :
    Calls Tryz.prog 95 #[.pointer (some ⟨N, 0, none⟩)] w (DrewE 0 256 N a n c Z w) := by
  obtain ⟨hr, i, h, hi, hN⟩ := hc
  refine (l01Byte_only N a n c i Z h hZ w hr hN hi hu).mono ?_
  rintro e w' ⟨rfl, h2, h3⟩
  have := drawB_le Z i h
  exact ⟨_, this.1, by omega, rfl, ⟨ByteRow_only hr hu h3, _, _, drawI_le hi, h2⟩, h3⟩

set_option maxRecDepth 100000 in
set_option maxHeartbeats 1600000 in
theorem belowE (N : Nat) (a : Option Addr) (n c : Nat) (Z : List Int) (m : Int) (hZ : Z.length ≤ 1048576) (w : World) (hc : CurE w N a n c Z) (hu : Under N a Z) (m0 : 0 < m) (m1 : m ≤ 1000000000) :
    Calls Tryz.prog 59 #[.pointer (some ⟨N, 0, none⟩), .int .i64 m] w (DrewE 0 m N a n c Z w) := by
  have K := hid (fun (W : World) (h : CurE W N a n c Z) => byteE N a n c Z hZ W h hu)
  have C := hid hc
  clear hc hu
  have hm0 : decide (m ≤ 0) = false := decide_eq_false (by omega)
  by_cases h256 : m ≤ 256
  · go_enter Tryz.func59, Tryz.ntmps59
    go_wp2_with fail
    refine (K.out _ C.out).mono ?_
    rintro e w1 ⟨x, x0, x1, rfl, c1, o1⟩
    have C1 := hid c1
    have O1 := hid o1
    clear c1 o1
    have hb := hid (Int.emod_lt_of_pos x m0)
    have hb0 := hid (Int.emod_nonneg x (show m ≠ 0 by omega))
    go_wp2_with fail
    go_ret
    exact ⟨_, hb0.out, hb.out, rfl, C1.out, O1.out⟩
  · have hm1 : decide (m ≤ 256) = false := decide_eq_false h256
    go_enter Tryz.func59, Tryz.ntmps59
    go_wp2_with fail
    refine (K.out _ C.out).mono ?_
    rintro e w1 ⟨x, x0, x1, rfl, c1, o1⟩
    have C1 := hid c1
    have O1 := hid o1
    clear c1 o1
    go_wp2_with fail
    refine (K.out _ C1.out).mono ?_
    rintro e w2 ⟨y, y0, y1, rfl, c1, o1⟩
    have C1 := hid c1
    have O1 := hid (O1.out.trans o1)
    clear c1 o1
    go_wp2_with fail
    refine (K.out _ C1.out).mono ?_
    rintro e w3 ⟨z, z0, z1, rfl, c1, o1⟩
    have C1 := hid c1
    have O1 := hid (O1.out.trans o1)
    clear c1 o1
    go_wp2_with fail
    refine (K.out _ C1.out).mono ?_
    rintro e w4 ⟨v, v0, v1, rfl, c1, o1⟩
    have C1 := hid c1
    have O1 := hid (O1.out.trans o1)
    clear c1 o1
    have hb := hid (Int.emod_lt_of_pos (x * 16777216 + y * 65536 + z * 256 + v) m0)
    have hb0 := hid (Int.emod_nonneg (x * 16777216 + y * 65536 + z * 256 + v) (show m ≠ 0 by omega))
    go_wp2_with fail
    go_ret
    exact ⟨_, hb0.out, hb.out, rfl, C1.out, O1.out⟩

def PickE (L : List Int) (N : Nat) (a : Option Addr) (n c : Nat) (Z : List Int) (w : World) (e : Ending) (w' : World) : Prop :=
  ∃ x, x ∈ L ∧ e = .returned (.int .i64 x) ∧ CurE w' N a n c Z ∧ Only (fun k => k = N) w w'
set_option maxRecDepth 100000 in
set_option maxHeartbeats 1600000 in
theorem pickE (N : Nat) (a : Option Addr) (n c : Nat) (Z : List Int) (g d : Nat) (L : List Int) (hZ : Z.length ≤ 1048576) (w : World) (hc : CurE w N a n c Z) (hu : Under N a Z) (hL0 : 0 < L.length) (hL1 : L.length ≤ 100)
    (hL : ∀ i (h : i < L.length), w.cell? ⟨g, i, none⟩ = some (.int .i64 L[i])) (hg : g ≠ N) :
    Calls Tryz.prog 79 #[.pointer (some ⟨N, 0, none⟩), .slice (some ⟨g, 0, none⟩) L.length d] w (PickE L N a n c Z w) := by
  have K := hid (belowE N a n c Z L.length hZ w hc hu (by omega) (by omega))
  have HL := hid hL
  have HG := hid hg
  clear hc hu hL hg
  go_enter Tryz.func79, Tryz.ntmps79
  go_wp2_with fail
  refine K.out.mono ?_
  rintro e w1 ⟨x, x0, x1, rfl, c1, o1⟩
  have C1 := hid c1
  have O1 := hid o1
  clear c1 o1
  obtain ⟨i, rfl⟩ : ∃ i : Nat, x = i := ⟨x.toNat, by omega⟩
  have hi : i < L.length := by omega
  have q := (O1.out.cell (p := ⟨g, i, none⟩) HG.out).trans (HL.out i hi)
  have hm := hid (List.getElem_mem hi)
  obtain ⟨y, hy⟩ : ∃ y, y = L[i] := ⟨_, rfl⟩
  rw [← hy] at q hm
  clear hy
  go_wp2_with fail
  go_ret
  exact ⟨_, hm.out, rfl, C1.out, O1.out⟩

theorem Ints_lit7 {w : World} {B : Nat} {x1 x2 x3 x4 x5 x6 x7 : Int} (hB : B ≤ w.heap.size) : Ints (w.alloc (.cells #[.int .i64 x1, .int .i64 x2, .int .i64 x3, .int .i64 x4, .int .i64 x5, .int .i64 x6, .int .i64 x7] 3)) B (.slice (some ⟨w.heap.size, 0, none⟩) 7 7) [x1, x2, x3, x4, x5, x6, x7] :=
  World.ownsRow_lit w #[.int .i64 x1, .int .i64 x2, .int .i64 x3, .int .i64 x4, .int .i64 x5, .int .i64 x6, .int .i64 x7] 7 hB (by decide) rfl
theorem CurE_alloc {w : World} {N : Nat} {a : Option Addr} {n c : Nat} {Z : List Int} (h : CurE w N a n c Z) (o : Go.Obj) : CurE (w.alloc o) N a n c Z := by
  obtain ⟨hr, i, x, hi, hN⟩ := h
  refine ⟨ByteRow_below hr below_new, i, x, hi, ?_⟩
  unfold IsCur at hN ⊢
  exact (Below.heap_alloc w o N (Array.getElem?_eq_some_iff.1 hN).1).trans hN
theorem CurE_below {w w' : World} {N B : Nat} {a : Option Addr} {n c : Nat} {Z : List Int} (h : CurE w N a n c Z) (hb : Below B w w') (hN : N < B) (hB : B ≤ w.heap.size) (hu : Under N a Z) : CurE w' N a n c Z := by
  obtain ⟨hr, i, x, hi, hc⟩ := h
  refine ⟨⟨hr.1, hr.2.1, fun h0 => ?_⟩, i, x, hi, ?_⟩
  · obtain ⟨g, o, e, hg, hc⟩ := hr.2.2 h0
    have := hu g o e h0
    exact ⟨g, o, e, Nat.lt_of_lt_of_le hg hb.size, fun i hi => (hb.cell (p := ⟨g, o + i, none⟩) (show g < B by omega)).trans (hc i hi)⟩
  · unfold IsCur at hc ⊢
    exact (hb.block N hN).trans hc
theorem CurE_lt {w : World} {N : Nat} {a : Option Addr} {n c : Nat} {Z : List Int} (h : CurE w N a n c Z) : N < w.heap.size := by
  obtain ⟨_, i, x, _, hc⟩ := h
  exact (Array.getElem?_eq_some_iff.1 hc).1
theorem Ints_notN {w w' : World} {N B : Nat} {v : Value} {L : List Int} (hB : N < B) (h : Ints w B v L) (ho : Only (fun k => k = N) w w') : Ints w' B v L :=
  Ints_only h ho fun k hk e => by have := (Ints_lt h k hk).1; omega
theorem lim7 {x y z : Int} (hx : 0 ≤ x ∧ x < 1000000000) (hy : 0 ≤ y ∧ y < 1000000000) (h : z ∈ [0, 1, 2, 999999999, 500000000, x, y]) : 0 ≤ z ∧ z < 1000000000 := by
  simp at h
  omega

/-- A new number of at most four limbs. -/
def MadeP (mst : Int) (N : Nat) (w : World) (e : Ending) (w' : World) : Prop := ∃ L v, Can L ∧ (L.length : Int) ≤ mst ∧ e = .returned v ∧ Ints w' w.heap.size v L ∧ Only (fun k => k = N ∨ w.heap.size ≤ k) w w'

set_option maxRecDepth 100000 in
set_option maxHeartbeats 3200000 in
theorem l02Nat_made (N : Nat) (a : Option Addr) (n c : Nat) (Z : List Int) (mst : Int) (mst0 : 0 ≤ mst) (mst4 : mst ≤ 4) (hZ : Z.length ≤ 1048576) (w : World) (hc : CurE w N a n c Z) (hu : Under N a Z) :
    Calls Tryz.prog 46 #[.pointer (some ⟨N, 0, none⟩), .int .i64 mst] w (MadeP mst N w) := by
  obtain ⟨i3, hi3, hz0, hz1, hz2⟩ := info_parts Tryz.info3
  have KB := hid (fun (W : World) (h : CurE W N a n c Z) (m : Int) m0 m1 => belowE N a n c Z m hZ W h hu m0 m1)
  have KP := hid (fun (W : World) (h : CurE W N a n c Z) (g d : Nat) (L : List Int) h0 h1 h2 h3 => pickE N a n c Z g d L hZ W h hu h0 h1 h2 h3)
  have HU := hid hu
  have C0 := hid (CurE_alloc hc (.cells #[] 3))
  have hNw := CurE_lt hc
  have I0 := hid (show Ints (w.alloc (.cells #[] 3)) w.heap.size (.slice (some ⟨w.heap.size, 0, none⟩) 0 0) [] from World.ownsRow_made w #[] 0 (by omega) (by decide) rfl)
  have B0 := hid (show Only (fun k => k = N ∨ w.heap.size ≤ k) w (w.alloc (.cells #[] 3)) from (Only.refl _ _).alloc (.inr (Nat.le_refl _)) _)
  clear hc hu
  go_enter Tryz.func46, Tryz.ntmps46
  go_wp2_with fail
  refine (KB.out _ C0.out (mst + 1) (by omega) (by omega)).mono ?_
  rintro e w1 ⟨x, x0, x1, rfl, c1, o1⟩
  have C1 := hid c1
  have I1 := hid (Ints_notN hNw I0.out o1)
  have B1 := hid (B0.out.trans (o1.mono fun k hk => .inl hk))
  clear c1 o1 C0 I0 B0
  go_wp2
  go_loopw [5, 6] (fun out z wr => ∃ (k : Int) (P : List Int), 0 ≤ k ∧ P.length + k ≤ mst ∧ z = .int .i64 k ∧ Ints wr w.heap.size out P ∧ Hid (Lim P) ∧ CurE wr N a n c Z ∧ Only (fun k => k = N ∨ w.heap.size ≤ k) w wr) (fun _ z _ => (intOf z).toNat)
  case atStart => exact ⟨x, [], x0, by simp; omega, rfl, I1.out, hid Lim_nil, C1.out, B1.out⟩
  case round =>
    clear I1 C1 B1
    obtain ⟨k, P, k0, hk, rfl, hI, hPL, hC, hB⟩ := hrel
    have HI := hid hI
    have HC := hid hC
    have HB := hid hB
    clear hI hC hB
    by_cases hk0 : 0 < k
    · go_wp2_with fail
      refine (KB.out _ HC.out 1000000000 (by decide) (by decide)).mono ?_
      rintro e w2 ⟨p, p0, p1, rfl, c1, o1⟩
      have HC := hid c1
      have HI := hid (Ints_notN hNw HI.out o1)
      have HB := hid (HB.out.trans (o1.mono fun k hk => .inl hk))
      clear c1 o1
      go_wp2_with fail
      refine (KB.out _ HC.out 1000000000 (by decide) (by decide)).mono ?_
      rintro e w3 ⟨q, q0, q1, rfl, c1, o1⟩
      have HC := hid c1
      have HI := hid (Ints_notN hNw HI.out o1)
      have HB := hid (HB.out.trans (o1.mono fun k hk => .inl hk))
      have hN3 := CurE_lt c1
      clear c1 o1
      have HL := hid (Ints_lit7 (w := w3) (B := N + 1) (x1 := 0) (x2 := 1) (x3 := 2) (x4 := 999999999) (x5 := 500000000) (x6 := p) (x7 := q) (by omega))
      have HC := hid (CurE_alloc HC.out (.cells #[.int .i64 0, .int .i64 1, .int .i64 2, .int .i64 999999999, .int .i64 500000000, .int .i64 p, .int .i64 q] 3))
      have HI := hid (Ints_below HI.out (below_new (o := .cells #[.int .i64 0, .int .i64 1, .int .i64 2, .int .i64 999999999, .int .i64 500000000, .int .i64 p, .int .i64 q] 3)) (fun k hk => (Ints_lt HI.out k hk).2))
      have HB := hid (HB.out.alloc (.inr HB.out.size) (.cells #[.int .i64 0, .int .i64 1, .int .i64 2, .int .i64 999999999, .int .i64 500000000, .int .i64 p, .int .i64 q] 3))
      have HLIM := hid (fun z (h : z ∈ [0, 1, 2, 999999999, 500000000, p, q]) => lim7 ⟨p0, p1⟩ ⟨q0, q1⟩ h)
      go_wp2_with fail
      have hsz : w3.heap.size ≠ N := by omega
      generalize w3.alloc (.cells #[.int .i64 0, .int .i64 1, .int .i64 2, .int .i64 999999999, .int .i64 500000000, .int .i64 p, .int .i64 q] 3) = w4 at HL HC HI HB ⊢
      obtain ⟨g, hg⟩ : ∃ g, g = w3.heap.size := ⟨_, rfl⟩
      rw [← hg] at HL hsz ⊢
      clear hg hN3
      refine (KP.out _ HC.out g 7 [0, 1, 2, 999999999, 500000000, p, q] (by simp) (by simp) (fun i hi => Ints_cell HL.out hi) hsz).mono ?_
      rintro e w5 ⟨z, hz, rfl, c1, o1⟩
      have HZ := hid (HLIM.out z hz)
      have HC := hid c1
      have HI := hid (Ints_notN hNw HI.out o1)
      have HB := hid (HB.out.trans (o1.mono fun k hk => .inl hk))
      have hN5 := CurE_lt c1
      have hPl : P.length ≤ 4 := by omega
      have hs5 := HB.out.size
      clear c1 o1 hz HL
      go_wp2_with (at_builtin; refine wpList_append_own _ rfl _ _ 34 rfl w.heap.size 3 i3 (.int .i64 0) 1 8 Tryz.underlying34 hi3 hz0 hz1 hz2 rfl (by decide) _ _ _ rfl (World.ownsRow.alloc (show w5.ownsRow w.heap.size 3 1 u5 _ _ from HI.out) _) ⟨w5.heap.size, 0, none⟩ 1 1 [.int .i64 z] rfl rfl ?c1 ?c2 ?c3 ?c4 ?c5 ?_)
      any_goals (first | rfl | exact cell_one_new _ _ _ | (intro u hu; simp at hu; subst hu; rfl) | (unfold maxLen; omega) | omega | (simp; omega))
      intro v' w6 hown' hgrow _
      have hB6 : Below (N + 1) w5 w6 := ((Below.refl _ _).alloc (by omega) _).grown hgrow (by simp; omega) (fun k hk => by have := (Ints_lt HI.out k hk).1; omega)
      have hO6 : Only (fun k => k = N ∨ w.heap.size ≤ k) w5 w6 := ((Only.refl _ _).alloc (.inr hs5) _).grown hgrow (fun k hk => .inr (by simp at hk; omega)) (fun k hk => .inr (Ints_lt HI.out k hk).1)
      have R := hid (Ints_snoc hown')
      have HC := hid (CurE_below HC.out hB6 (by omega) (by omega) HU.out)
      have HB := hid (HB.out.trans hO6)
      clear hown' hgrow hB6 hO6 hs5
      go_wp2
      go_roundw
      case rel => exact ⟨k - 1, _, by omega, by simp; omega, rfl, R.out, hid (Lim_append hPL.out (Lim_one HZ.out.1 HZ.out.2)), HC.out, HB.out⟩
      case measure => simp [intOf]; omega
    · have hPl : P.length ≤ 4 := by omega
      go_wp2_with fail
      refine (l02Trim_own _ _ P (by omega) hPL.out wr HI.out).mono ?_
      rintro e w2 ⟨⟨u, rfl, hU, -⟩, rfl⟩
      have HUU := hid hU
      clear hU
      have hlen := hid (show ((rep (val P).toNat).length : Int) ≤ mst from by
        have h5 : (rep (val P).toNat).length ≤ P.length := (Can_len (Can_rep _)).2 (by
          rw [val_rep]
          have h1 := val_lt hPL.out
          have h3 := val_nonneg hPL.out
          omega)
        omega)
      go_wp2
      go_ret
      exact ⟨_, _, Can_rep _, hlen.out, rfl, HUU.out, HB.out⟩

/-- MakeNat's answer: a new number of at most four limbs. -/
def NatP (w : World) (e : Ending) (w' : World) : Prop := ∃ L, Can L ∧ L.length ≤ 4 ∧ OwnP L w e w'
set_option maxRecDepth 100000 in
set_option maxHeartbeats 1600000 in
theorem MakeNat_any (a : Option Addr) (n c : Nat) (Z : List Int) (t : Int) (hZ : Z.length ≤ 1048576) (w : World) (hr : ByteRow w a n Z) (t0 : 0 ≤ t) (t1 : t ≤ 1000) :
    Calls Tryz.prog 15 #[.slice a n c, .int .i64 t] w (NatP w) := by
  have K := hid (l01New_any a n c Z hZ w hr)
  have hh := hashTo_le hZ (min Z.length 4000)
  obtain ⟨h, hhe⟩ : ∃ h, h = hashed Z := ⟨_, rfl⟩
  have HH := hid hhe
  change 0 ≤ hashed Z ∧ hashed Z ≤ 1073741824 at hh
  rw [← hhe] at hh
  have HR := hid hr
  clear hhe hr
  go_enter Tryz.func15, Tryz.ntmps15
  go_wp2_with fail
  refine K.out.mono ?_
  rintro e w1 ⟨rfl, rfl⟩
  rw [← HH.out]
  go_wp2_with fail
  have hb0 : Below w.heap.size w (w.alloc (.cells #[.slice a n c, .int .i64 0, .int .i64 (h + t)] 74)) := (Below.refl _ _).alloc (Nat.le_refl _) _
  have HC := hid (show CurE (w.alloc (.cells #[.slice a n c, .int .i64 0, .int .i64 (h + t)] 74)) w.heap.size a n c Z from ⟨ByteRow_below HR.out hb0, 0, h + t, Nat.zero_le _, by unfold IsCur; exact heap_alloc_new w _⟩)
  have HU := hid (show Under w.heap.size a Z from fun g o e h0 => by
    obtain ⟨g', o', e', hg, _⟩ := HR.out.2.2 h0
    rw [e] at e'
    simp at e'
    omega)
  have HB := hid hb0
  clear hb0
  refine (l02Nat_made w.heap.size a n c Z 4 (by decide) (by decide) hZ _ HC.out HU.out).mono ?_
  rintro e w2 ⟨L, v, hL, hl, rfl, hI, hB⟩
  have R := hid (show NatP w (.returned v) w2 from ⟨L, hL, by omega, v, rfl, Ints_base hI (by simp), HB.out.trans (hB.below fun k hk hs => by simp at hs; omega)⟩)
  obtain ⟨a', c', rfl, -, -, -⟩ := Ints_form hI
  clear hL hl hI hB
  go_wp2_with fail
  go_ret
  exact R.out
end Go.Proofs.YtmghoedjcokhpaaGreatDoor

/- The draws of big integers: MakeWhole. -/
namespace Go.Proofs.YtmghoedjcokhpaaGreatDoor
open Go.RowKit
open Go.Lib (hid)
set_option linter.unusedVariables false

def OnceE (N : Nat) (a : Option Addr) (n c : Nat) (Z : List Int) (w : World) (e : Ending) (w' : World) : Prop :=
  ∃ b, e = .returned (.bool b) ∧ CurE w' N a n c Z ∧ Only (fun k => k = N) w w'
set_option maxRecDepth 100000 in
set_option maxHeartbeats 1600000 in
theorem onceE (N : Nat) (a : Option Addr) (n c : Nat) (Z : List Int) (m : Int) (hZ : Z.length ≤ 1048576) (w : World) (hc : CurE w N a n c Z) (hu : Under N a Z) (m0 : 0 < m) (m1 : m ≤ 1000000000) :
    Calls Tryz.prog 81 #[.pointer (some ⟨N, 0, none⟩), .int .i64 m] w (OnceE N a n c Z w) := by
  have K := hid (belowE N a n c Z m hZ w hc hu m0 m1)
  clear hc hu
  go_enter Tryz.func81, Tryz.ntmps81
  go_wp2_with fail
  (with_reducible refine K.out.mono ?_)
  rintro e w1 ⟨x, x0, x1, rfl, c1, o1⟩
  have C1 := hid c1
  have O1 := hid o1
  clear c1 o1
  go_wp2
  go_ret
  exact ⟨_, rfl, C1.out, O1.out⟩

def DrawW (N : Nat) (w : World) (e : Ending) (w' : World) : Prop := ∃ X u, -pw 3 < X ∧ X < pw 3 ∧ e = .returned (.agg #[.bool (gzs X), u]) ∧ Ints w' w.heap.size u (gzl X) ∧ Only (fun k => k = N ∨ w.heap.size ≤ k) w w'
theorem pw3_1000 : (1000 : Int) < pw 3 ∧ pw 3 < pw 60 := by decide
set_option maxRecDepth 100000 in
set_option maxHeartbeats 3200000 in
theorem l03Draw_made (N : Nat) (a : Option Addr) (n c : Nat) (Z : List Int) (mst : Int) (mst0 : 0 ≤ mst) (mst3 : mst ≤ 3) (hZ : Z.length ≤ 1048576) (w : World) (hc : CurE w N a n c Z) (hu : Under N a Z) :
    Calls Tryz.prog 47 #[.pointer (some ⟨N, 0, none⟩), .int .i64 mst] w (DrawW N w) := by
  have KB := hid (fun (W : World) (h : CurE W N a n c Z) (m : Int) m0 m1 => belowE N a n c Z m hZ W h hu m0 m1)
  have KO := hid (fun (W : World) (h : CurE W N a n c Z) (m : Int) m0 m1 => onceE N a n c Z m hZ W h hu m0 m1)
  have KN := hid (fun (W : World) (h : CurE W N a n c Z) => l02Nat_made N a n c Z mst mst0 (by omega) hZ W h hu)
  have hNw := CurE_lt hc
  have C0 := hid (CurE_alloc hc (.cells #[.bool false, .slice none 0 0] 37))
  have B0 := hid (show Only (fun k => k = N ∨ w.heap.size ≤ k) w (w.alloc (.cells #[.bool false, .slice none 0 0] 37)) from (Only.refl _ _).alloc (.inr (Nat.le_refl _)) _)
  have L0 := hid (Loc.new (w := w) (T := 37) (s := false) (v := .slice none 0 0))
  have hne : w.heap.size ≠ N := by omega
  clear hc hu
  go_enter Tryz.func47, Tryz.ntmps47
  go_wp2_with fail
  generalize w.alloc (.cells #[.bool false, .slice none 0 0] 37) = W at C0 B0 L0 ⊢
  (with_reducible refine (KO.out _ C0.out 3 (by decide) (by decide)).mono ?_)
  rintro e w1 ⟨bb, rfl, c1, o1⟩
  have C1 := hid c1
  have B1 := hid (B0.out.trans (o1.mono fun k hk => .inl hk))
  have L1 := hid (L0.out.only o1 hne)
  clear c1 o1
  cases bb
  · go_wp2_with fail
    (with_reducible refine (KO.out _ C1.out 2 (by decide) (by decide)).mono ?_)
    rintro e w2 ⟨sg, rfl, c1, o1⟩
    have C1 := hid c1
    have B1 := hid (B1.out.trans (o1.mono fun k hk => .inl hk))
    have L1 := hid (L1.out.only o1 hne)
    have hlt := L1.out.lt
    clear c1 o1
    go_wp2_with fail
    (with_reducible refine (KN.out _ C1.out).mono ?_)
    rintro e w3 ⟨L, v, hL, hl, rfl, iv, o1⟩
    have hV := hid (show 0 ≤ val L ∧ val L < pw 3 from ⟨val_nonneg hL.1, (Can_len hL).1 (by omega)⟩)
    have hX := hid (show -pw 3 < sval sg (val L) ∧ sval sg (val L) < pw 3 by have := hV.out; unfold sval; split <;> omega)
    have L1 := hid (L1.out.only o1 (by simp; omega))
    have B1 := hid (B1.out.trans (o1.mono fun k hk => hk.elim (fun h => .inl h) (fun h => .inr (by omega))))
    have KM := hid (fun (W : World) (B : Nat) (h : Ints W B v L) => l03Make_own sg B v L (by omega) hL.1 W h)
    have IV := hid iv
    have hs3 : w.heap.size < w3.heap.size := L1.out.lt
    obtain ⟨av, cv, rfl, -⟩ := Ints_form iv
    obtain ⟨X, hXX⟩ : ∃ X, X = sval sg (val L) := ⟨_, rfl⟩
    rw [← hXX] at hX KM
    clear hXX iv o1 hL hl
    go_wp2_with fail
    (with_reducible refine (KM.out _ _ IV.out).mono ?_)
    rintro e w4 ⟨r, rfl, ir, b1⟩
    have L1 := hid (L1.out.old b1)
    have B1 := hid (B1.out.trans (Only.of_below b1 fun k hk => .inr (by omega)))
    have n1 := L1.out.ne (by decide) ir
    have R := hid (show DrawW N w (.returned (.agg #[.bool (gzs X), r])) ((w4.setCell ⟨w.heap.size, 0, none⟩ (.bool (gzs X))).setCell ⟨w.heap.size, 1, none⟩ r) from
      ⟨X, r, hX.out.1, hX.out.2, rfl, Ints_base (Ints_set (Ints_set ir n1) n1) (Nat.le_of_lt hs3), (B1.out.setCell (.inr (Nat.le_refl _)) _).setCell (.inr (Nat.le_refl _)) _⟩)
    obtain ⟨gs, hgs⟩ : ∃ g, g = gzs X := ⟨_, rfl⟩
    rw [← hgs] at R ⊢
    obtain ⟨ar, cr, rfl, -⟩ := Ints_form ir
    have f0 := L1.out.f0 0
    have f1 := L1.out.f0 1
    have p0 := L1.out.c0
    have p1 := L1.out.c1
    have HG := hid hgs
    clear ir b1 n1 hgs
    go_wp2
    exact bodyPost_ret (v := .agg #[.bool gs, .slice ar (gzl X).length cr]) (by simp [results, Tryz.results47, go_sem, p0, p1]) rfl R.out
  · go_wp2_with fail
    (with_reducible refine (KB.out _ C1.out 2001 (by decide) (by decide)).mono ?_)
    rintro e w2 ⟨x, x0, x1, rfl, c1, o1⟩
    have B1 := hid (B1.out.trans (o1.mono fun k hk => .inl hk))
    have L1 := hid (L1.out.only o1 hne)
    have hs3 : w.heap.size < w2.heap.size := L1.out.lt
    clear c1 o1
    have hX := hid (show -pw 3 < x - 1000 ∧ x - 1000 < pw 3 by have := pw3_1000; omega)
    have KM := hid (fun (W : World) => spec_BigIntOf (x - 1000) (by omega) (by omega) W)
    go_wp2_with fail
    obtain ⟨X, hXX⟩ : ∃ X, X = x - 1000 := ⟨_, rfl⟩
    rw [← hXX] at hX KM ⊢
    clear hXX
    (with_reducible refine (KM.out _).mono ?_)
    rintro e w4 ⟨r, rfl, ir, b1⟩
    have L1 := hid (L1.out.old b1)
    have B1 := hid (B1.out.trans (Only.of_below b1 fun k hk => .inr (by omega)))
    have n1 := L1.out.ne (by decide) ir
    have R := hid (show DrawW N w (.returned (.agg #[.bool (gzs X), r])) ((w4.setCell ⟨w.heap.size, 0, none⟩ (.bool (gzs X))).setCell ⟨w.heap.size, 1, none⟩ r) from
      ⟨X, r, hX.out.1, hX.out.2, rfl, Ints_base (Ints_set (Ints_set ir n1) n1) (Nat.le_of_lt hs3), (B1.out.setCell (.inr (Nat.le_refl _)) _).setCell (.inr (Nat.le_refl _)) _⟩)
    obtain ⟨gs, hgs⟩ : ∃ g, g = gzs X := ⟨_, rfl⟩
    rw [← hgs] at R ⊢
    obtain ⟨ar, cr, rfl, -⟩ := Ints_form ir
    have f0 := L1.out.f0 0
    have f1 := L1.out.f0 1
    have p0 := L1.out.c0
    have p1 := L1.out.c1
    have HG := hid hgs
    clear ir b1 n1 hgs
    go_wp2
    exact bodyPost_ret (v := .agg #[.bool gs, .slice ar (gzl X).length cr]) (by simp [results, Tryz.results47, go_sem, p0, p1]) rfl R.out

/-- MakeWhole's answer: an integer of at most three limbs. -/
def WholeP (w : World) (e : Ending) (w' : World) : Prop := ∃ X u, -pw 3 < X ∧ X < pw 3 ∧ e = .returned (.agg #[.bool (gzs X), u]) ∧ Ints w' w.heap.size u (gzl X) ∧ Below w.heap.size w w'
set_option maxRecDepth 100000 in
set_option maxHeartbeats 3200000 in
theorem MakeWhole_any (a : Option Addr) (n c : Nat) (Z : List Int) (t : Int) (hZ : Z.length ≤ 1048576) (w : World) (hr : ByteRow w a n Z) (t0 : 0 ≤ t) (t1 : t ≤ 1000) :
    Calls Tryz.prog 16 #[.slice a n c, .int .i64 t] w (WholeP w) := by
  have B0 := hid (below_new' (w := w) (o := .cells #[.bool false, .slice none 0 0] 37))
  have L0 := hid (Loc.new (w := w) (T := 37) (s := false) (v := .slice none 0 0))
  have HR := hid (ByteRow_below hr B0.out)
  have HR0 := hid hr
  have K := hid (fun (W : World) (h : ByteRow W a n Z) => l01New_any a n c Z hZ W h)
  have hh := hashTo_le hZ (min Z.length 4000)
  obtain ⟨h, hhe⟩ : ∃ h, h = hashed Z := ⟨_, rfl⟩
  have HH := hid hhe
  change 0 ≤ hashed Z ∧ hashed Z ≤ 1073741824 at hh
  rw [← hhe] at hh
  clear hhe hr
  go_enter Tryz.func16, Tryz.ntmps16
  go_wp2_with fail
  have hlt := L0.out.lt
  generalize w.alloc (.cells #[.bool false, .slice none 0 0] 37) = W at B0 L0 HR hlt ⊢
  (with_reducible refine (K.out _ HR.out).mono ?_)
  rintro e w1 ⟨rfl, rfl⟩
  rw [← HH.out]
  go_wp2_with fail
  have hb0 : Below W.heap.size W (W.alloc (.cells #[.slice a n c, .int .i64 0, .int .i64 (h + t)] 74)) := (Below.refl _ _).alloc (Nat.le_refl _) _
  have HC := hid (show CurE (W.alloc (.cells #[.slice a n c, .int .i64 0, .int .i64 (h + t)] 74)) W.heap.size a n c Z from ⟨ByteRow_below HR.out hb0, 0, h + t, Nat.zero_le _, by unfold IsCur; exact heap_alloc_new W _⟩)
  have HU := hid (show Under W.heap.size a Z from fun g o e h0 => by
    obtain ⟨g', o', e', hg, _⟩ := HR.out.2.2 h0
    rw [e] at e'
    simp at e'
    omega)
  have HB := hid (B0.out.trans (hb0.mono B0.out.size))
  have L1 := hid (L0.out.old hb0)
  have hs2 : W.heap.size < (W.alloc (.cells #[.slice a n c, .int .i64 0, .int .i64 (h + t)] 74)).heap.size := by simp
  clear hb0
  (with_reducible refine (l03Draw_made W.heap.size a n c Z 3 (by decide) (by decide) hZ _ HC.out HU.out).mono ?_)
  rintro e w2 ⟨X, r, hX1, hX2, rfl, ir, o1⟩
  have hX := hid (And.intro hX1 hX2)
  have L1 := hid (L1.out.only o1 (by simp; omega))
  have B1 := hid (HB.out.trans (o1.below (B := w.heap.size) fun k hk hs => by simp at hs; omega))
  have n1 := L1.out.ne (by decide) ir
  have R := hid (show WholeP w (.returned (.agg #[.bool (gzs X), r])) ((w2.setCell ⟨w.heap.size, 0, none⟩ (.bool (gzs X))).setCell ⟨w.heap.size, 1, none⟩ r) from
    ⟨X, r, hX.out.1, hX.out.2, rfl, Ints_base (Ints_set (Ints_set ir n1) n1) (by simp; omega), (B1.out.setCell (Nat.le_refl _) _).setCell (Nat.le_refl _) _⟩)
  obtain ⟨gs, hgs⟩ : ∃ g, g = gzs X := ⟨_, rfl⟩
  rw [← hgs] at R ⊢
  obtain ⟨ar, cr, rfl, -⟩ := Ints_form ir
  have f0 := L1.out.f0 0
  have f1 := L1.out.f0 1
  have p0 := L1.out.c0
  have p1 := L1.out.c1
  have HG := hid hgs
  clear ir o1 n1 hgs hX1 hX2 hs2
  go_wp2
  exact bodyPost_ret (v := .agg #[.bool gs, .slice ar (gzl X).length cr]) (by simp [results, Tryz.results16, go_sem, p0, p1]) rfl R.out
end Go.Proofs.YtmghoedjcokhpaaGreatDoor

/- The draws of a number and of an integer, with the cursor that they leave. -/
namespace Go.Proofs.YtmghoedjcokhpaaGreatDoor
open Go.RowKit
open Go.Lib (hid)
set_option linter.unusedVariables false

def MadeE (mst : Int) (N : Nat) (a : Option Addr) (n c : Nat) (Z : List Int) (w : World) (e : Ending) (w' : World) : Prop := ∃ L v, Can L ∧ (L.length : Int) ≤ mst ∧ e = .returned v ∧ Ints w' w.heap.size v L ∧ CurE w' N a n c Z ∧ Only (fun k => k = N ∨ w.heap.size ≤ k) w w'
set_option maxRecDepth 100000 in
set_option maxHeartbeats 3200000 in
theorem l02Nat_madeE (N : Nat) (a : Option Addr) (n c : Nat) (Z : List Int) (mst : Int) (mst0 : 0 ≤ mst) (mst4 : mst ≤ 4) (hZ : Z.length ≤ 1048576) (w : World) (hc : CurE w N a n c Z) (hu : Under N a Z) :
    Calls Tryz.prog 46 #[.pointer (some ⟨N, 0, none⟩), .int .i64 mst] w (MadeE mst N a n c Z w) := by
  obtain ⟨i3, hi3, hz0, hz1, hz2⟩ := info_parts Tryz.info3
  have KB := hid (fun (W : World) (h : CurE W N a n c Z) (m : Int) m0 m1 => belowE N a n c Z m hZ W h hu m0 m1)
  have KP := hid (fun (W : World) (h : CurE W N a n c Z) (g d : Nat) (L : List Int) h0 h1 h2 h3 => pickE N a n c Z g d L hZ W h hu h0 h1 h2 h3)
  have HU := hid hu
  have C0 := hid (CurE_alloc hc (.cells #[] 3))
  have hNw := CurE_lt hc
  have I0 := hid (show Ints (w.alloc (.cells #[] 3)) w.heap.size (.slice (some ⟨w.heap.size, 0, none⟩) 0 0) [] from World.ownsRow_made w #[] 0 (by omega) (by decide) rfl)
  have B0 := hid (show Only (fun k => k = N ∨ w.heap.size ≤ k) w (w.alloc (.cells #[] 3)) from (Only.refl _ _).alloc (.inr (Nat.le_refl _)) _)
  clear hc hu
  go_enter Tryz.func46, Tryz.ntmps46
  go_wp2_with fail
  refine (KB.out _ C0.out (mst + 1) (by omega) (by omega)).mono ?_
  rintro e w1 ⟨x, x0, x1, rfl, c1, o1⟩
  have C1 := hid c1
  have I1 := hid (Ints_notN hNw I0.out o1)
  have B1 := hid (B0.out.trans (o1.mono fun k hk => .inl hk))
  clear c1 o1 C0 I0 B0
  go_wp2
  go_loopw [5, 6] (fun out z wr => ∃ (k : Int) (P : List Int), 0 ≤ k ∧ P.length + k ≤ mst ∧ z = .int .i64 k ∧ Ints wr w.heap.size out P ∧ Hid (Lim P) ∧ CurE wr N a n c Z ∧ Only (fun k => k = N ∨ w.heap.size ≤ k) w wr) (fun _ z _ => (intOf z).toNat)
  case atStart => exact ⟨x, [], x0, by simp; omega, rfl, I1.out, hid Lim_nil, C1.out, B1.out⟩
  case round =>
    clear I1 C1 B1
    obtain ⟨k, P, k0, hk, rfl, hI, hPL, hC, hB⟩ := hrel
    have HI := hid hI
    have HC := hid hC
    have HB := hid hB
    clear hI hC hB
    by_cases hk0 : 0 < k
    · go_wp2_with fail
      refine (KB.out _ HC.out 1000000000 (by decide) (by decide)).mono ?_
      rintro e w2 ⟨p, p0, p1, rfl, c1, o1⟩
      have HC := hid c1
      have HI := hid (Ints_notN hNw HI.out o1)
      have HB := hid (HB.out.trans (o1.mono fun k hk => .inl hk))
      clear c1 o1
      go_wp2_with fail
      refine (KB.out _ HC.out 1000000000 (by decide) (by decide)).mono ?_
      rintro e w3 ⟨q, q0, q1, rfl, c1, o1⟩
      have HC := hid c1
      have HI := hid (Ints_notN hNw HI.out o1)
      have HB := hid (HB.out.trans (o1.mono fun k hk => .inl hk))
      have hN3 := CurE_lt c1
      clear c1 o1
      have HL := hid (Ints_lit7 (w := w3) (B := N + 1) (x1 := 0) (x2 := 1) (x3 := 2) (x4 := 999999999) (x5 := 500000000) (x6 := p) (x7 := q) (by omega))
      have HC := hid (CurE_alloc HC.out (.cells #[.int .i64 0, .int .i64 1, .int .i64 2, .int .i64 999999999, .int .i64 500000000, .int .i64 p, .int .i64 q] 3))
      have HI := hid (Ints_below HI.out (below_new (o := .cells #[.int .i64 0, .int .i64 1, .int .i64 2, .int .i64 999999999, .int .i64 500000000, .int .i64 p, .int .i64 q] 3)) (fun k hk => (Ints_lt HI.out k hk).2))
      have HB := hid (HB.out.alloc (.inr HB.out.size) (.cells #[.int .i64 0, .int .i64 1, .int .i64 2, .int .i64 999999999, .int .i64 500000000, .int .i64 p, .int .i64 q] 3))
      have HLIM := hid (fun z (h : z ∈ [0, 1, 2, 999999999, 500000000, p, q]) => lim7 ⟨p0, p1⟩ ⟨q0, q1⟩ h)
      go_wp2_with fail
      have hsz : w3.heap.size ≠ N := by omega
      generalize w3.alloc (.cells #[.int .i64 0, .int .i64 1, .int .i64 2, .int .i64 999999999, .int .i64 500000000, .int .i64 p, .int .i64 q] 3) = w4 at HL HC HI HB ⊢
      obtain ⟨g, hg⟩ : ∃ g, g = w3.heap.size := ⟨_, rfl⟩
      rw [← hg] at HL hsz ⊢
      clear hg hN3
      refine (KP.out _ HC.out g 7 [0, 1, 2, 999999999, 500000000, p, q] (by simp) (by simp) (fun i hi => Ints_cell HL.out hi) hsz).mono ?_
      rintro e w5 ⟨z, hz, rfl, c1, o1⟩
      have HZ := hid (HLIM.out z hz)
      have HC := hid c1
      have HI := hid (Ints_notN hNw HI.out o1)
      have HB := hid (HB.out.trans (o1.mono fun k hk => .inl hk))
      have hN5 := CurE_lt c1
      have hPl : P.length ≤ 4 := by omega
      have hs5 := HB.out.size
      clear c1 o1 hz HL
      go_wp2_with (at_builtin; refine wpList_append_own _ rfl _ _ 34 rfl w.heap.size 3 i3 (.int .i64 0) 1 8 Tryz.underlying34 hi3 hz0 hz1 hz2 rfl (by decide) _ _ _ rfl (World.ownsRow.alloc (show w5.ownsRow w.heap.size 3 1 u5 _ _ from HI.out) _) ⟨w5.heap.size, 0, none⟩ 1 1 [.int .i64 z] rfl rfl ?c1 ?c2 ?c3 ?c4 ?c5 ?_)
      any_goals (first | rfl | exact cell_one_new _ _ _ | (intro u hu; simp at hu; subst hu; rfl) | (unfold maxLen; omega) | omega | (simp; omega))
      intro v' w6 hown' hgrow _
      have hB6 : Below (N + 1) w5 w6 := ((Below.refl _ _).alloc (by omega) _).grown hgrow (by simp; omega) (fun k hk => by have := (Ints_lt HI.out k hk).1; omega)
      have hO6 : Only (fun k => k = N ∨ w.heap.size ≤ k) w5 w6 := ((Only.refl _ _).alloc (.inr hs5) _).grown hgrow (fun k hk => .inr (by simp at hk; omega)) (fun k hk => .inr (Ints_lt HI.out k hk).1)
      have R := hid (Ints_snoc hown')
      have HC := hid (CurE_below HC.out hB6 (by omega) (by omega) HU.out)
      have HB := hid (HB.out.trans hO6)
      clear hown' hgrow hB6 hO6 hs5
      go_wp2
      go_roundw
      case rel => exact ⟨k - 1, _, by omega, by simp; omega, rfl, R.out, hid (Lim_append hPL.out (Lim_one HZ.out.1 HZ.out.2)), HC.out, HB.out⟩
      case measure => simp [intOf]; omega
    · have hPl : P.length ≤ 4 := by omega
      go_wp2_with fail
      refine (l02Trim_own _ _ P (by omega) hPL.out wr HI.out).mono ?_
      rintro e w2 ⟨⟨u, rfl, hU, -⟩, rfl⟩
      have HUU := hid hU
      clear hU
      have hlen := hid (show ((rep (val P).toNat).length : Int) ≤ mst from by
        have h5 : (rep (val P).toNat).length ≤ P.length := (Can_len (Can_rep _)).2 (by
          rw [val_rep]
          have h1 := val_lt hPL.out
          have h3 := val_nonneg hPL.out
          omega)
        omega)
      go_wp2
      go_ret
      exact ⟨_, _, Can_rep _, hlen.out, rfl, HUU.out, HC.out, HB.out⟩

def DrawWE (N : Nat) (a : Option Addr) (n c : Nat) (Z : List Int) (w : World) (e : Ending) (w' : World) : Prop := ∃ X u, -pw 3 < X ∧ X < pw 3 ∧ e = .returned (.agg #[.bool (gzs X), u]) ∧ Ints w' w.heap.size u (gzl X) ∧ CurE w' N a n c Z ∧ Only (fun k => k = N ∨ w.heap.size ≤ k) w w'
theorem CurE_set2 {w : World} {N b : Nat} {a : Option Addr} {n c : Nat} {Z : List Int} {x y : Value} (h : CurE w N a n c Z) (hb : N < b) (hu : Under N a Z) : CurE ((w.setCell ⟨b, 0, none⟩ x).setCell ⟨b, 1, none⟩ y) N a n c Z :=
  CurE_below h (((Below.refl (N + 1) w).setCell (p := ⟨b, 0, none⟩) (by show N + 1 ≤ b; omega) x).setCell (p := ⟨b, 1, none⟩) (by show N + 1 ≤ b; omega) y) (Nat.lt_succ_self _) (by have := CurE_lt h; omega) hu
theorem CurE_old {w w' : World} {N : Nat} {a : Option Addr} {n c : Nat} {Z : List Int} (h : CurE w N a n c Z) (hb : Below w.heap.size w w') (hu : Under N a Z) : CurE w' N a n c Z := CurE_below h hb (CurE_lt h) (Nat.le_refl _) hu
set_option maxRecDepth 100000 in
set_option maxHeartbeats 3200000 in
theorem l03Draw_madeE (N : Nat) (a : Option Addr) (n c : Nat) (Z : List Int) (mst : Int) (mst0 : 0 ≤ mst) (mst3 : mst ≤ 3) (hZ : Z.length ≤ 1048576) (w : World) (hc : CurE w N a n c Z) (hu : Under N a Z) :
    Calls Tryz.prog 47 #[.pointer (some ⟨N, 0, none⟩), .int .i64 mst] w (DrawWE N a n c Z w) := by
  have KB := hid (fun (W : World) (h : CurE W N a n c Z) (m : Int) m0 m1 => belowE N a n c Z m hZ W h hu m0 m1)
  have KO := hid (fun (W : World) (h : CurE W N a n c Z) (m : Int) m0 m1 => onceE N a n c Z m hZ W h hu m0 m1)
  have KN := hid (fun (W : World) (h : CurE W N a n c Z) => l02Nat_madeE N a n c Z mst mst0 (by omega) hZ W h hu)
  have hNw := CurE_lt hc
  have C0 := hid (CurE_alloc hc (.cells #[.bool false, .slice none 0 0] 37))
  have B0 := hid (show Only (fun k => k = N ∨ w.heap.size ≤ k) w (w.alloc (.cells #[.bool false, .slice none 0 0] 37)) from (Only.refl _ _).alloc (.inr (Nat.le_refl _)) _)
  have L0 := hid (Loc.new (w := w) (T := 37) (s := false) (v := .slice none 0 0))
  have hne : w.heap.size ≠ N := by omega
  have HU := hid hu
  clear hc hu
  go_enter Tryz.func47, Tryz.ntmps47
  go_wp2_with fail
  generalize w.alloc (.cells #[.bool false, .slice none 0 0] 37) = W at C0 B0 L0 ⊢
  (with_reducible refine (KO.out _ C0.out 3 (by decide) (by decide)).mono ?_)
  rintro e w1 ⟨bb, rfl, c1, o1⟩
  have C1 := hid c1
  have B1 := hid (B0.out.trans (o1.mono fun k hk => .inl hk))
  have L1 := hid (L0.out.only o1 hne)
  clear c1 o1
  cases bb
  · go_wp2_with fail
    (with_reducible refine (KO.out _ C1.out 2 (by decide) (by decide)).mono ?_)
    rintro e w2 ⟨sg, rfl, c1, o1⟩
    have C1 := hid c1
    have B1 := hid (B1.out.trans (o1.mono fun k hk => .inl hk))
    have L1 := hid (L1.out.only o1 hne)
    have hlt := L1.out.lt
    clear c1 o1
    go_wp2_with fail
    (with_reducible refine (KN.out _ C1.out).mono ?_)
    rintro e w3 ⟨L, v, hL, hl, rfl, iv, c1, o1⟩
    have C1 := hid c1
    have hV := hid (show 0 ≤ val L ∧ val L < pw 3 from ⟨val_nonneg hL.1, (Can_len hL).1 (by omega)⟩)
    have hX := hid (show -pw 3 < sval sg (val L) ∧ sval sg (val L) < pw 3 by have := hV.out; unfold sval; split <;> omega)
    have L1 := hid (L1.out.only o1 (by simp; omega))
    have B1 := hid (B1.out.trans (o1.mono fun k hk => hk.elim (fun h => .inl h) (fun h => .inr (by omega))))
    have KM := hid (fun (W : World) (B : Nat) (h : Ints W B v L) => l03Make_own sg B v L (by omega) hL.1 W h)
    have IV := hid iv
    have hs3 : w.heap.size < w3.heap.size := L1.out.lt
    obtain ⟨av, cv, rfl, -⟩ := Ints_form iv
    obtain ⟨X, hXX⟩ : ∃ X, X = sval sg (val L) := ⟨_, rfl⟩
    rw [← hXX] at hX KM
    clear hXX iv c1 o1 hL hl
    go_wp2_with fail
    (with_reducible refine (KM.out _ _ IV.out).mono ?_)
    rintro e w4 ⟨r, rfl, ir, b1⟩
    have C1 := hid (CurE_old C1.out b1 HU.out)
    have L1 := hid (L1.out.old b1)
    have B1 := hid (B1.out.trans (Only.of_below b1 fun k hk => .inr (by omega)))
    have n1 := L1.out.ne (by decide) ir
    have R := hid (show DrawWE N a n c Z w (.returned (.agg #[.bool (gzs X), r])) ((w4.setCell ⟨w.heap.size, 0, none⟩ (.bool (gzs X))).setCell ⟨w.heap.size, 1, none⟩ r) from
      ⟨X, r, hX.out.1, hX.out.2, rfl, Ints_base (Ints_set (Ints_set ir n1) n1) (Nat.le_of_lt hs3), CurE_set2 C1.out hNw HU.out, (B1.out.setCell (.inr (Nat.le_refl _)) _).setCell (.inr (Nat.le_refl _)) _⟩)
    obtain ⟨gs, hgs⟩ : ∃ g, g = gzs X := ⟨_, rfl⟩
    rw [← hgs] at R ⊢
    obtain ⟨ar, cr, rfl, -⟩ := Ints_form ir
    have f0 := L1.out.f0 0
    have f1 := L1.out.f0 1
    have p0 := L1.out.c0
    have p1 := L1.out.c1
    have HG := hid hgs
    clear ir b1 n1 hgs
    go_wp2
    exact bodyPost_ret (v := .agg #[.bool gs, .slice ar (gzl X).length cr]) (by simp [results, Tryz.results47, go_sem, p0, p1]) rfl R.out
  · go_wp2_with fail
    (with_reducible refine (KB.out _ C1.out 2001 (by decide) (by decide)).mono ?_)
    rintro e w2 ⟨x, x0, x1, rfl, c1, o1⟩
    have C1 := hid c1
    have B1 := hid (B1.out.trans (o1.mono fun k hk => .inl hk))
    have L1 := hid (L1.out.only o1 hne)
    have hs3 : w.heap.size < w2.heap.size := L1.out.lt
    clear c1 o1
    have hX := hid (show -pw 3 < x - 1000 ∧ x - 1000 < pw 3 by have := pw3_1000; omega)
    have KM := hid (fun (W : World) => spec_BigIntOf (x - 1000) (by omega) (by omega) W)
    go_wp2_with fail
    obtain ⟨X, hXX⟩ : ∃ X, X = x - 1000 := ⟨_, rfl⟩
    rw [← hXX] at hX KM ⊢
    clear hXX
    (with_reducible refine (KM.out _).mono ?_)
    rintro e w4 ⟨r, rfl, ir, b1⟩
    have C1 := hid (CurE_old C1.out b1 HU.out)
    have L1 := hid (L1.out.old b1)
    have B1 := hid (B1.out.trans (Only.of_below b1 fun k hk => .inr (by omega)))
    have n1 := L1.out.ne (by decide) ir
    have R := hid (show DrawWE N a n c Z w (.returned (.agg #[.bool (gzs X), r])) ((w4.setCell ⟨w.heap.size, 0, none⟩ (.bool (gzs X))).setCell ⟨w.heap.size, 1, none⟩ r) from
      ⟨X, r, hX.out.1, hX.out.2, rfl, Ints_base (Ints_set (Ints_set ir n1) n1) (Nat.le_of_lt hs3), CurE_set2 C1.out hNw HU.out, (B1.out.setCell (.inr (Nat.le_refl _)) _).setCell (.inr (Nat.le_refl _)) _⟩)
    obtain ⟨gs, hgs⟩ : ∃ g, g = gzs X := ⟨_, rfl⟩
    rw [← hgs] at R ⊢
    obtain ⟨ar, cr, rfl, -⟩ := Ints_form ir
    have f0 := L1.out.f0 0
    have f1 := L1.out.f0 1
    have p0 := L1.out.c0
    have p1 := L1.out.c1
    have HG := hid hgs
    clear ir b1 n1 hgs
    go_wp2
    exact bodyPost_ret (v := .agg #[.bool gs, .slice ar (gzl X).length cr]) (by simp [results, Tryz.results47, go_sem, p0, p1]) rfl R.out

end Go.Proofs.YtmghoedjcokhpaaGreatDoor

/- The draw of a fraction. -/
namespace Go.Proofs.YtmghoedjcokhpaaGreatDoor
open Go.RowKit
open Go.Lib (hid)
set_option linter.unusedVariables false

theorem draw_make {X : Int} {D : List Int} (hX : -pw 3 < X ∧ X < pw 3) (nD : nok D = true) (h0 : 0 < val D) (hl : val D < pw 3) : ∃ q, szq q 3 ∧ mk2 (gzs X) (gzl X) false D = some q := by
  have hX' : (X.natAbs : Int) < pw 3 := by omega
  have h3 := pw3_1000
  obtain ⟨k1, e1⟩ := gz_ok (Z := X) (by omega)
  refine ⟨Rat.divInt X (val D), szq_divInt hX' (by omega) (by omega), ?_⟩
  rw [mk2_yes k1 (bok_pos nD), e1, show sval false (val D) = val D from rfl]
  unfold mkFr
  rw [if_neg (by omega)]
  exact capF_yes (szq_fit (szq_divInt hX' (by omega) (by omega)) (by decide))
/-- A struct whose lists are a fraction's. -/
theorem RatX_of {w : World} {v u : Value} {x : Rat} {b1 b2 : Nat} (h1 : Ints w b1 v (gzl x.num)) (h2 : Ints w b2 u (gzl (x.den : Int))) (hf : fit x) : RatX w (gzs x.num) v u x := by
  obtain ⟨r1, r2, r3, r4⟩ := rval_parts (fitO_some hf)
  have r3' : (gzl x.num).length ≤ 24 := r3
  have r4' : (gzl (x.den : Int)).length ≤ 24 := r4
  obtain ⟨z, e, k⟩ := RatX.of (s := gzs x.num) (show RL w v u (gzl x.num) (gzl (x.den : Int)) from ⟨⟨b1, h1⟩, ⟨b2, h2⟩, by omega, by omega⟩) r2
  have e2 : rval (gzs x.num) (gzl x.num) (gzl (x.den : Int)) = some x := r1
  rw [e2] at e
  cases e
  exact k
theorem ok_x {w : World} {s : Bool} {v u : Value} {x : Rat} (h : RatX w s v u x) : Calls Tryz.prog 68 #[.agg #[.bool s, v, u]] w (RetB (.bool true) w) := by
  obtain ⟨A, D, r, k, -⟩ := h
  have := spec_RatOk s v u A D w r
  rw [k] at this
  exact this
theorem LocA.under {T : TypeId} {w w' : World} {b B : Nat} {cs : Array Value} (h : LocA T w b cs) (hb : Below B w w') (hlt : b < B) : LocA T w' b cs := (hb.block _ hlt).trans h
def DrawR (N : Nat) (w : World) (e : Ending) (w' : World) : Prop := ∃ (x : Rat) (v u : Value), szq x 3 ∧ e = .returned (.agg #[.bool (gzs x.num), v, u]) ∧ Ints w' w.heap.size v (gzl x.num) ∧ Ints w' w.heap.size u (gzl (x.den : Int)) ∧ Only (fun k => k = N ∨ w.heap.size ≤ k) w w'
theorem DrawR_out {N b : Nat} {w w4 : World} {x : Rat} {v u : Value} {B C : Nat} {cs : Array Value} (hx : szq x 3) (hb : w.heap.size ≤ b) (hL : LocA 40 w4 b cs) (h1 : Ints w4 B v (gzl x.num)) (h2 : Ints w4 C u (gzl (x.den : Int))) (hB : w.heap.size ≤ B) (hC : w.heap.size ≤ C) (ho : Only (fun k => k = N ∨ w.heap.size ≤ k) w w4) :
    DrawR N w (.returned (.agg #[.bool (gzs x.num), v, u])) (((w4.setCell ⟨b, 0, none⟩ (.bool (gzs x.num))).setCell ⟨b, 1, none⟩ v).setCell ⟨b, 2, none⟩ u) := by
  have n1 := hL.ne (by decide) h1
  have n2 := hL.ne (by decide) h2
  exact ⟨x, v, u, hx, rfl, Ints_base (Ints_set (Ints_set (Ints_set h1 n1) n1) n1) hB, Ints_base (Ints_set (Ints_set (Ints_set h2 n2) n2) n2) hC, ((ho.setCell (.inr hb) _).setCell (.inr hb) _).setCell (.inr hb) _⟩
theorem Ints_pastN {w w' : World} {N B : Nat} {v : Value} {L : List Int} (h : Ints w B v L) (hB : N < B) (ho : Only (fun k => k = N ∨ w.heap.size ≤ k) w w') : Ints w' B v L :=
  Ints_apart h ho fun e => by have := (Ints_lt h N e).1; omega
set_option maxRecDepth 100000 in
set_option maxHeartbeats 6400000 in
theorem l04Draw_any (N : Nat) (a : Option Addr) (n c : Nat) (Z : List Int) (hZ : Z.length ≤ 1048576) (w : World) (hc : CurE w N a n c Z) (hu : Under N a Z) :
    Calls Tryz.prog 48 #[.pointer (some ⟨N, 0, none⟩), .int .i64 2] w (DrawR N w) := by
  obtain ⟨i3, hi3, hz0, hz1, hz2⟩ := info_parts Tryz.info3
  have KD := hid (fun (W : World) (h : CurE W N a n c Z) => l03Draw_madeE N a n c Z 2 (by decide) (by decide) hZ W h hu)
  have KB := hid (fun (W : World) (h : CurE W N a n c Z) (m : Int) m0 m1 => belowE N a n c Z m hZ W h hu m0 m1)
  have KO := hid (fun (W : World) (h : CurE W N a n c Z) (m : Int) m0 m1 => onceE N a n c Z m hZ W h hu m0 m1)
  have KN := hid (fun (W : World) (h : CurE W N a n c Z) => l02Nat_madeE N a n c Z 1 (by decide) (by decide) hZ W h hu)
  have HU := hid hu
  have hNw := CurE_lt hc
  have C1 := hid (CurE_alloc hc (.cells #[.bool false, .slice none 0 0, .slice none 0 0] 40))
  have B1 := hid (show Only (fun k => k = N ∨ w.heap.size ≤ k) w (w.alloc (.cells #[.bool false, .slice none 0 0, .slice none 0 0] 40)) from (Only.refl _ _).alloc (.inr (Nat.le_refl _)) _)
  have LR := hid (LocA.new (w := w) (T := 40) (cs := #[.bool false, .slice none 0 0, .slice none 0 0]))
  have hne : w.heap.size ≠ N := by omega
  clear hc hu
  go_enter Tryz.func48, Tryz.ntmps48
  go_wp2_with fail
  have hsW := LR.out.lt
  generalize w.alloc (.cells #[.bool false, .slice none 0 0, .slice none 0 0] 40) = W at C1 B1 LR hsW ⊢
  (with_reducible refine (KD.out _ C1.out).mono ?_)
  rintro e w1 ⟨X, r, hX1, hX2, rfl, ir, c1, o1⟩
  have C1 := hid c1
  have LR := hid (LR.out.apart o1 hne)
  have B1 := hid (B1.out.trans (o1.mono fun k hk => hk.elim .inl (fun h => .inr (by omega))))
  have hs1 := o1.size
  have IR := hid ir
  have HX := hid (And.intro hX1 hX2)
  have BLR := hid (show ∀ k, r.ownBlock = some k → k < w1.heap.size from fun k hk => (Ints_lt ir k hk).2)
  obtain ⟨sx, hsx⟩ : ∃ z, z = gzs X := ⟨_, rfl⟩
  obtain ⟨lx, hlx⟩ : ∃ z, z = gzl X := ⟨_, rfl⟩
  have HMK := hid (fun (D : List Int) (nD : nok D = true) (h0 : 0 < val D) (hl : val D < pw 3) => draw_make ⟨hX1, hX2⟩ nD h0 hl)
  have hlx60 : lx.length ≤ 60 := by rw [hlx]; exact cappedLen
  rw [← hsx, ← hlx] at HMK
  rw [← hlx] at IR ir
  rw [← hsx]
  obtain ⟨ar, cr, rfl, -⟩ := Ints_form ir
  clear c1 o1 ir hX1 hX2 hsx hlx HX
  have L5 := hid (LocA.new (w := w1) (T := 37) (cs := #[.bool sx, .slice ar lx.length cr]))
  have LR := hid (LR.out.new1 (o := .cells #[.bool sx, .slice ar lx.length cr] 37))
  have IR := hid (Ints_old IR.out (below_new' (o := .cells #[.bool sx, .slice ar lx.length cr] 37)))
  have C1 := hid (CurE_alloc C1.out (.cells #[.bool sx, .slice ar lx.length cr] 37))
  have B1 := hid (B1.out.alloc (.inr (by omega)) (.cells #[.bool sx, .slice ar lx.length cr] 37))
  go_wp2_with fail
  have hs5 := L5.out.lt
  generalize w1.alloc (.cells #[.bool sx, .slice ar lx.length cr] 37) = W1 at C1 B1 LR L5 IR hs5 ⊢
  (with_reducible refine (KB.out _ C1.out 12 (by decide) (by decide)).mono ?_)
  rintro e w2 ⟨x, x0, x1, rfl, c1, o1⟩
  have C1 := hid c1
  have hs2 := o1.size
  have LR := hid (LR.out.only o1 hne)
  have L5 := hid (L5.out.only o1 (by omega))
  have IR := hid (Ints_notN (by omega) IR.out o1)
  have B1 := hid (B1.out.trans (o1.mono fun k hk => .inl hk))
  clear c1 o1
  have KOf := hid (fun (W : World) => spec_NatOf (1 + x) (by omega) W)
  have HD := hid (show nok (rep (1 + x).toNat) = true ∧ 0 < val (rep (1 + x).toNat) ∧ val (rep (1 + x).toNat) < pw 3 from by
    have h3 := pw3_1000
    have hv := val_rep' (V := 1 + x) (by omega)
    exact ⟨nok_iff.2 ⟨rep_len (by omega), Can_rep _⟩, by omega, by omega⟩)
  obtain ⟨Ld, hLd⟩ : ∃ L, L = rep (1 + x).toNat := ⟨_, rfl⟩
  rw [← hLd] at KOf HD
  clear hLd
  go_wp2_with fail
  (with_reducible refine (KOf.out _).mono ?_)
  rintro e w3 ⟨d, rfl, id, b1⟩
  have hs3 := b1.size
  have C1 := hid (CurE_old C1.out b1 HU.out)
  have LR := hid (LR.out.old b1)
  have L5 := hid (L5.out.old b1)
  have IR := hid (Ints_old IR.out b1)
  have B1 := hid (B1.out.trans (Only.of_below b1 fun k hk => .inr (by omega)))
  have ID := hid id
  obtain ⟨ad, cd, rfl, -⟩ := Ints_form id
  clear id b1
  have L6 := hid (LocA.new (w := w3) (T := 37) (cs := #[.bool false, .slice ad Ld.length cd]))
  have LR := hid (LR.out.new1 (o := .cells #[.bool false, .slice ad Ld.length cd] 37))
  have L5 := hid (L5.out.new1 (o := .cells #[.bool false, .slice ad Ld.length cd] 37))
  have IR := hid (Ints_old IR.out (below_new' (o := .cells #[.bool false, .slice ad Ld.length cd] 37)))
  have ID := hid (Ints_old ID.out (below_new' (o := .cells #[.bool false, .slice ad Ld.length cd] 37)))
  have C1 := hid (CurE_alloc C1.out (.cells #[.bool false, .slice ad Ld.length cd] 37))
  have B1 := hid (B1.out.alloc (.inr (by omega)) (.cells #[.bool false, .slice ad Ld.length cd] 37))
  go_wp2_with fail
  have hs6 := L6.out.lt
  generalize w3.alloc (.cells #[.bool false, .slice ad Ld.length cd] 37) = W3 at C1 B1 LR L5 L6 IR ID hs6 ⊢
  (with_reducible refine (KO.out _ C1.out 3 (by decide) (by decide)).mono ?_)
  rintro e w4 ⟨bb, rfl, c1, o1⟩
  have C1 := hid c1
  have hs4 := o1.size
  have LR := hid (LR.out.only o1 hne)
  have L5 := hid (L5.out.only o1 (by omega))
  have L6 := hid (L6.out.only o1 (by omega))
  have IR := hid (Ints_notN (by omega) IR.out o1)
  have ID := hid (Ints_notN (by omega) ID.out o1)
  have B1 := hid (B1.out.trans (o1.mono fun k hk => .inl hk))
  clear c1 o1
  cases bb
  · obtain ⟨q, hq, eq⟩ := HMK.out Ld HD.out.1 HD.out.2.1 HD.out.2.2
    skip
    have KM := hid (fun (W : World) (b1 b2 : Nat) (h1 : Ints W b1 (.slice ar lx.length cr) lx) (h2 : Ints W b2 (.slice ad Ld.length cd) Ld) => spec_RatMake sx false _ _ lx Ld (by omega) (by have := nok_len HD.out.1; omega) b1 b2 W h1 h2)
    rw [eq] at KM
    have HQ := hid hq
    clear hq eq
    have q0 := L5.out.c 0 rfl
    have q1 := L5.out.c 1 rfl
    have q2 := L6.out.c 0 rfl
    have q3 := L6.out.c 1 rfl
    go_wp2_with fail
    (with_reducible refine (KM.out _ _ _ IR.out ID.out).mono ?_)
    clear q0 q1 q2 q3
    rintro e w8 ⟨v1, u1, rfl, j1, j2, b1⟩
    have LR := hid (LR.out.old b1)
    have hsz8 := b1.size
    have B1 := hid (B1.out.trans (Only.of_below b1 fun k hk => .inr (by omega)))
    have J1 := hid (show Ints w8 _ v1 (gzl q.num) from j1)
    have J2 := hid (show Ints w8 _ u1 (gzl (q.den : Int)) from j2)
    change Hid (szq q 3) at HQ
    rw [show qn (some q) = q.num from rfl]
    obtain ⟨e1, d1, rfl, -⟩ := Ints_form J1.out
    obtain ⟨e2, d2, rfl, -⟩ := Ints_form J2.out
    have RX := hid (RatX_of J1.out J2.out (szq_fit HQ.out (by decide)))
    have DR := hid (fun (w4 : World) (cs : Array Value) (B C : Nat) (h1 : LocA 40 w4 w.heap.size cs) (h2 : Ints w4 B (.slice e1 (gzl q.num).length d1) (gzl q.num)) (h3 : Ints w4 C (.slice e2 (gzl (q.den : Int)).length d2) (gzl (q.den : Int))) (hB : w.heap.size ≤ B) (hC : w.heap.size ≤ C) (ho : Only (fun k => k = N ∨ w.heap.size ≤ k) w w4) => DrawR_out HQ.out (Nat.le_refl _) h1 h2 h3 hB hC ho)
    obtain ⟨gs, hgs⟩ : ∃ g, g = gzs q.num := ⟨_, rfl⟩
    obtain ⟨l1, hl1⟩ : ∃ g, g = gzl q.num := ⟨_, rfl⟩
    obtain ⟨l2, hl2⟩ : ∃ g, g = gzl (q.den : Int) := ⟨_, rfl⟩
    rw [← hgs, ← hl1, ← hl2] at DR
    rw [← hl1, ← hl2, ← hgs] at RX
    rw [← hl1] at J1
    rw [← hl2] at J2
    rw [← hgs]
    clear j1 j2 b1
    try rw [← hl1]
    try rw [← hl2]
    clear hgs hl1 hl2
    have L7 := hid (LocA.new (w := w8) (T := 40) (cs := #[.bool gs, .slice e1 l1.length d1, .slice e2 l2.length d2]))
    have LR := hid (LR.out.new1 (o := .cells #[.bool gs, .slice e1 l1.length d1, .slice e2 l2.length d2] 40))
    have RX := hid (RX.out.old (below_new' (o := .cells #[.bool gs, .slice e1 l1.length d1, .slice e2 l2.length d2] 40)))
    have J1 := hid (Ints_old J1.out (below_new' (o := .cells #[.bool gs, .slice e1 l1.length d1, .slice e2 l2.length d2] 40)))
    have J2 := hid (Ints_old J2.out (below_new' (o := .cells #[.bool gs, .slice e1 l1.length d1, .slice e2 l2.length d2] 40)))
    have B1 := hid (B1.out.alloc (.inr (by omega)) (.cells #[.bool gs, .slice e1 l1.length d1, .slice e2 l2.length d2] 40))
    go_wp2_with fail
    generalize w8.alloc (.cells #[.bool gs, .slice e1 l1.length d1, .slice e2 l2.length d2] 40) = W8 at LR RX J1 J2 B1 L7 ⊢
    have hl7 := L7.out.lt
    (with_reducible refine (ok_x RX.out).mono ?_)
    rintro e w9 ⟨rfl, b1⟩
    have LR := hid (LR.out.old b1)
    have L7 := hid (L7.out.old b1)
    have J1 := hid (Ints_old J1.out b1)
    have J2 := hid (Ints_old J2.out b1)
    have B1 := hid (B1.out.trans (Only.of_below b1 fun k hk => .inr (by omega)))
    have R := hid (DR.out _ _ _ _ LR.out J1.out J2.out (by omega) (by omega) B1.out)
    have z0 := L7.out.c 0 rfl
    have z1 := L7.out.c 1 rfl
    have z2 := L7.out.c 2 rfl
    have f0 := LR.out.f 0
    have f1 := LR.out.f 1
    have f2 := LR.out.f 2
    have p0 := LR.out.c 0 rfl
    have p1 := LR.out.c 1 rfl
    have p2 := LR.out.c 2 rfl
    clear b1
    go_wp2
    exact bodyPost_ret (v := .agg #[.bool gs, .slice e1 l1.length d1, .slice e2 l2.length d2]) (by simp [results, Tryz.results48, go_sem, p0, p1, p2]) rfl R.out
  · go_wp2_with fail
    (with_reducible refine (KN.out _ C1.out).mono ?_)
    rintro e w5 ⟨L, v, hL, hl, rfl, iv, c1, o1⟩
    have C1 := hid c1
    have hs7 := o1.size
    have hl1 : L.length ≤ 1 := by omega
    have LR := hid (LR.out.apart o1 hne)
    have L5 := hid (L5.out.apart o1 (by omega))
    have L6 := hid (L6.out.apart o1 (by omega))
    have IR := hid (Ints_pastN IR.out (by omega) o1)
    have B1 := hid (B1.out.trans (o1.mono fun k hk => hk.elim .inl (fun h => .inr (by omega))))
    have IV := hid iv
    have HL := hid hL
    obtain ⟨av, cv, rfl, -⟩ := Ints_form iv
    clear c1 o1 iv hL hl
    go_wp2_with fail
    (with_reducible refine (KB.out _ C1.out 999 (by decide) (by decide)).mono ?_)
    rintro e w6 ⟨y, y0, y1, rfl, c1, o1⟩
    have C1 := hid c1
    have hs8 := o1.size
    have LR := hid (LR.out.only o1 hne)
    have L5 := hid (L5.out.only o1 (by omega))
    have L6 := hid (L6.out.only o1 (by omega))
    have IR := hid (Ints_notN (by omega) IR.out o1)
    have IV := hid (Ints_notN (by omega) IV.out o1)
    have B1 := hid (B1.out.trans (o1.mono fun k hk => .inl hk))
    clear c1 o1
    go_wp2_with (at_builtin; refine wpList_append_own _ rfl _ _ 34 rfl w4.heap.size 3 i3 (.int .i64 0) 1 8 Tryz.underlying34 hi3 hz0 hz1 hz2 rfl (by decide) _ _ _ rfl (World.ownsRow.alloc (show w6.ownsRow w4.heap.size 3 1 (.slice av L.length cv) _ _ from IV.out) _) ⟨w6.heap.size, 0, none⟩ 1 1 [.int .i64 (1 + y)] rfl rfl ?c1 ?c2 ?c3 ?c4 ?c5 ?_)
    any_goals (first | rfl | exact cell_one_new _ _ _ | (intro u hu; simp at hu; subst hu; rfl) | (unfold maxLen; omega) | omega | (simp; omega))
    intro v' w7 hown' hgrow _
    have hb7 : Below w4.heap.size w6 w7 := ((Below.refl _ _).alloc (by omega) _).grown hgrow (by simp; omega) (fun k hk => (Ints_lt IV.out k hk).1)
    have hs9 := hb7.size
    have LR := hid (LR.out.under hb7 (by omega))
    have L5 := hid (L5.out.under hb7 (by omega))
    have L6 := hid (L6.out.under hb7 (by omega))
    have IR := hid (Ints_below IR.out hb7 (fun k hk => by have := BLR.out k hk; omega))
    have C1 := hid (CurE_below C1.out hb7 (by omega) (by omega) HU.out)
    have B1 := hid (B1.out.trans (Only.of_below hb7 fun k hk => .inr (by omega)))
    have IL := hid (Ints_snoc hown')
    have HD := hid (show nok (L ++ [1 + y]) = true ∧ 0 < val (L ++ [1 + y]) ∧ val (L ++ [1 + y]) < pw 3 from by
      have hlim : Lim (L ++ [1 + y]) := Lim_append HL.out.1 (Lim_one (by omega) (by omega))
      have hcan : Can (L ++ [1 + y]) := ⟨hlim, fun h => by first | (rw [List.getLast_concat]; omega) | (simp; omega)⟩
      have hlen : (L ++ [1 + y]).length ≤ 2 := by simp; omega
      have hlt := (Can_len hcan (k := 2)).1 hlen
      have h23 := pw_le (show 2 ≤ 3 by decide)
      exact ⟨nok_iff.2 ⟨by omega, hcan⟩, vpos (nok_iff.2 ⟨by omega, hcan⟩) (by simp), by omega⟩)
    obtain ⟨Ld, hLd⟩ : ∃ M, M = L ++ [1 + y] := ⟨_, rfl⟩
    have il := IL.out
    rw [← hLd] at il HD
    have ID := hid il
    obtain ⟨ae, ce, rfl, -⟩ := Ints_form il
    have nID := hid (L6.out.ne (by decide) il)
    have nIR := hid (L6.out.ne (by decide) IR.out)
    clear hown' hgrow hb7 il hLd IL
    have g0 := L6.out.c 1 rfl
    have g1 := L6.out.f 1
    have LR := hid (LR.out.setne (N := w3.heap.size) (i := 1) (x := .slice ae Ld.length ce) (by omega))
    have L5 := hid (L5.out.setne (N := w3.heap.size) (i := 1) (x := .slice ae Ld.length ce) (by omega))
    have L6 := hid (show LocA 37 (w7.setCell ⟨w3.heap.size, 1, none⟩ (.slice ae Ld.length ce)) w3.heap.size #[.bool false, .slice ae Ld.length ce] from L6.out.set)
    have IR := hid (Ints_set (i := 1) (u := .slice ae Ld.length ce) IR.out nIR.out)
    have ID := hid (Ints_set (i := 1) (u := .slice ae Ld.length ce) ID.out nID.out)
    have B1 := hid (B1.out.setCell (.inr (by show w.heap.size ≤ w3.heap.size; omega)) (.slice ae Ld.length ce) (p := ⟨w3.heap.size, 1, none⟩))
    have q0 := L5.out.c 0 rfl
    have q1 := L5.out.c 1 rfl
    have q2 := L6.out.c 0 rfl
    have q3 := L6.out.c 1 rfl
    obtain ⟨q, hq, eq⟩ := HMK.out Ld HD.out.1 HD.out.2.1 HD.out.2.2
    have HZ := hid (size_set w7 ⟨w3.heap.size, 1, none⟩ (.slice ae Ld.length ce))
    have KM := hid (fun (W : World) (b1 b2 : Nat) (h1 : Ints W b1 (.slice ar lx.length cr) lx) (h2 : Ints W b2 (.slice ae Ld.length ce) Ld) => spec_RatMake sx false _ _ lx Ld (by omega) (by have := nok_len HD.out.1; omega) b1 b2 W h1 h2)
    rw [eq] at KM
    have HQ := hid hq
    clear hq eq
    go_wp2_with fail
    generalize w7.setCell ⟨w3.heap.size, 1, none⟩ (.slice ae Ld.length ce) = W7 at LR L5 L6 IR ID B1 q0 q1 q2 q3 HZ ⊢
    have hz7 := HZ.out
    (with_reducible refine (KM.out _ _ _ IR.out ID.out).mono ?_)
    clear q0 q1 q2 q3
    rintro e w8 ⟨v1, u1, rfl, j1, j2, b1⟩
    have LR := hid (LR.out.old b1)
    have hsz8 := b1.size
    have B1 := hid (B1.out.trans (Only.of_below b1 fun k hk => .inr (by omega)))
    have J1 := hid (show Ints w8 _ v1 (gzl q.num) from j1)
    have J2 := hid (show Ints w8 _ u1 (gzl (q.den : Int)) from j2)
    change Hid (szq q 3) at HQ
    rw [show qn (some q) = q.num from rfl]
    obtain ⟨e1, d1, rfl, -⟩ := Ints_form J1.out
    obtain ⟨e2, d2, rfl, -⟩ := Ints_form J2.out
    have RX := hid (RatX_of J1.out J2.out (szq_fit HQ.out (by decide)))
    have DR := hid (fun (w4 : World) (cs : Array Value) (B C : Nat) (h1 : LocA 40 w4 w.heap.size cs) (h2 : Ints w4 B (.slice e1 (gzl q.num).length d1) (gzl q.num)) (h3 : Ints w4 C (.slice e2 (gzl (q.den : Int)).length d2) (gzl (q.den : Int))) (hB : w.heap.size ≤ B) (hC : w.heap.size ≤ C) (ho : Only (fun k => k = N ∨ w.heap.size ≤ k) w w4) => DrawR_out HQ.out (Nat.le_refl _) h1 h2 h3 hB hC ho)
    obtain ⟨gs, hgs⟩ : ∃ g, g = gzs q.num := ⟨_, rfl⟩
    obtain ⟨l1, hl1⟩ : ∃ g, g = gzl q.num := ⟨_, rfl⟩
    obtain ⟨l2, hl2⟩ : ∃ g, g = gzl (q.den : Int) := ⟨_, rfl⟩
    rw [← hgs, ← hl1, ← hl2] at DR
    rw [← hl1, ← hl2, ← hgs] at RX
    rw [← hl1] at J1
    rw [← hl2] at J2
    rw [← hgs]
    clear j1 j2 b1
    try rw [← hl1]
    try rw [← hl2]
    clear hgs hl1 hl2
    have L7 := hid (LocA.new (w := w8) (T := 40) (cs := #[.bool gs, .slice e1 l1.length d1, .slice e2 l2.length d2]))
    have LR := hid (LR.out.new1 (o := .cells #[.bool gs, .slice e1 l1.length d1, .slice e2 l2.length d2] 40))
    have RX := hid (RX.out.old (below_new' (o := .cells #[.bool gs, .slice e1 l1.length d1, .slice e2 l2.length d2] 40)))
    have J1 := hid (Ints_old J1.out (below_new' (o := .cells #[.bool gs, .slice e1 l1.length d1, .slice e2 l2.length d2] 40)))
    have J2 := hid (Ints_old J2.out (below_new' (o := .cells #[.bool gs, .slice e1 l1.length d1, .slice e2 l2.length d2] 40)))
    have B1 := hid (B1.out.alloc (.inr (by omega)) (.cells #[.bool gs, .slice e1 l1.length d1, .slice e2 l2.length d2] 40))
    go_wp2_with fail
    generalize w8.alloc (.cells #[.bool gs, .slice e1 l1.length d1, .slice e2 l2.length d2] 40) = W8 at LR RX J1 J2 B1 L7 ⊢
    have hl7 := L7.out.lt
    (with_reducible refine (ok_x RX.out).mono ?_)
    rintro e w9 ⟨rfl, b1⟩
    have LR := hid (LR.out.old b1)
    have L7 := hid (L7.out.old b1)
    have J1 := hid (Ints_old J1.out b1)
    have J2 := hid (Ints_old J2.out b1)
    have B1 := hid (B1.out.trans (Only.of_below b1 fun k hk => .inr (by omega)))
    have R := hid (DR.out _ _ _ _ LR.out J1.out J2.out (by omega) (by omega) B1.out)
    have z0 := L7.out.c 0 rfl
    have z1 := L7.out.c 1 rfl
    have z2 := L7.out.c 2 rfl
    have f0 := LR.out.f 0
    have f1 := LR.out.f 1
    have f2 := LR.out.f 2
    have p0 := LR.out.c 0 rfl
    have p1 := LR.out.c 1 rfl
    have p2 := LR.out.c 2 rfl
    clear b1
    go_wp2
    exact bodyPost_ret (v := .agg #[.bool gs, .slice e1 l1.length d1, .slice e2 l2.length d2]) (by simp [results, Tryz.results48, go_sem, p0, p1, p2]) rfl R.out
/-- MakeRat's answer: a fraction whose parts have at most three limbs. -/
def MakeR (w : World) (e : Ending) (w' : World) : Prop := ∃ (x : Rat) (v u : Value), szq x 3 ∧ e = .returned (.agg #[.bool (gzs x.num), v, u]) ∧ Ints w' w.heap.size v (gzl x.num) ∧ Ints w' w.heap.size u (gzl (x.den : Int)) ∧ Below w.heap.size w w'
set_option maxRecDepth 100000 in
set_option maxHeartbeats 3200000 in
theorem MakeRat_any (a : Option Addr) (n c : Nat) (Z : List Int) (t : Int) (hZ : Z.length ≤ 1048576) (w : World) (hr : ByteRow w a n Z) (t0 : 0 ≤ t) (t1 : t ≤ 1000) :
    Calls Tryz.prog 17 #[.slice a n c, .int .i64 t] w (MakeR w) := by
  have B0 := hid (below_new' (w := w) (o := .cells #[.bool false, .slice none 0 0, .slice none 0 0] 40))
  have L0 := hid (LocA.new (w := w) (T := 40) (cs := #[.bool false, .slice none 0 0, .slice none 0 0]))
  have HR := hid (ByteRow_below hr B0.out)
  have HR0 := hid hr
  have K := hid (fun (W : World) (h : ByteRow W a n Z) => l01New_any a n c Z hZ W h)
  have hh := hashTo_le hZ (min Z.length 4000)
  obtain ⟨h, hhe⟩ : ∃ h, h = hashed Z := ⟨_, rfl⟩
  have HH := hid hhe
  change 0 ≤ hashed Z ∧ hashed Z ≤ 1073741824 at hh
  rw [← hhe] at hh
  clear hhe hr
  go_enter Tryz.func17, Tryz.ntmps17
  go_wp2_with fail
  have hlt := L0.out.lt
  generalize w.alloc (.cells #[.bool false, .slice none 0 0, .slice none 0 0] 40) = W at B0 L0 HR hlt ⊢
  (with_reducible refine (K.out _ HR.out).mono ?_)
  rintro e w1 ⟨rfl, rfl⟩
  rw [← HH.out]
  go_wp2_with fail
  have hb0 : Below W.heap.size W (W.alloc (.cells #[.slice a n c, .int .i64 0, .int .i64 (h + t)] 74)) := (Below.refl _ _).alloc (Nat.le_refl _) _
  have HC := hid (show CurE (W.alloc (.cells #[.slice a n c, .int .i64 0, .int .i64 (h + t)] 74)) W.heap.size a n c Z from ⟨ByteRow_below HR.out hb0, 0, h + t, Nat.zero_le _, by unfold IsCur; exact heap_alloc_new W _⟩)
  have HU := hid (show Under W.heap.size a Z from fun g o e h0 => by
    obtain ⟨g', o', e', hg, _⟩ := HR.out.2.2 h0
    rw [e] at e'
    simp at e'
    omega)
  have HB := hid (B0.out.trans (hb0.mono B0.out.size))
  have L1 := hid (L0.out.old hb0)
  have hs2 : W.heap.size < (W.alloc (.cells #[.slice a n c, .int .i64 0, .int .i64 (h + t)] 74)).heap.size := by simp
  clear hb0
  (with_reducible refine (l04Draw_any W.heap.size a n c Z hZ _ HC.out HU.out).mono ?_)
  rintro e w2 ⟨x, r, u, hx, rfl, ir, iu, o1⟩
  have HX := hid hx
  have L1 := hid (L1.out.apart o1 (by omega))
  have B1 := hid (HB.out.trans (o1.below (B := w.heap.size) fun k hk hs => by simp at hs; omega))
  have n1 := L1.out.ne (by decide) ir
  have n2 := L1.out.ne (by decide) iu
  have R := hid (show MakeR w (.returned (.agg #[.bool (gzs x.num), r, u])) (((w2.setCell ⟨w.heap.size, 0, none⟩ (.bool (gzs x.num))).setCell ⟨w.heap.size, 1, none⟩ r).setCell ⟨w.heap.size, 2, none⟩ u) from
    ⟨x, r, u, HX.out, rfl, Ints_base (Ints_set (Ints_set (Ints_set ir n1) n1) n1) (by simp; omega), Ints_base (Ints_set (Ints_set (Ints_set iu n2) n2) n2) (by simp; omega), ((B1.out.setCell (Nat.le_refl _) _).setCell (Nat.le_refl _) _).setCell (Nat.le_refl _) _⟩)
  obtain ⟨gs, hgs⟩ : ∃ g, g = gzs x.num := ⟨_, rfl⟩
  rw [← hgs] at R ⊢
  obtain ⟨ar, cr, rfl, -⟩ := Ints_form ir
  obtain ⟨au, cu, rfl, -⟩ := Ints_form iu
  have f0 := L1.out.f 0
  have f1 := L1.out.f 1
  have f2 := L1.out.f 2
  have p0 := L1.out.c 0 rfl
  have p1 := L1.out.c 1 rfl
  have p2 := L1.out.c 2 rfl
  have HG := hid hgs
  clear ir iu o1 n1 n2 hgs hs2
  go_wp2
  exact bodyPost_ret (v := .agg #[.bool gs, .slice ar (gzl x.num).length cr, .slice au (gzl (x.den : Int)).length cu]) (by simp [results, Tryz.results17, go_sem, p0, p1, p2]) rfl R.out
end Go.Proofs.YtmghoedjcokhpaaGreatDoor

/- Fractions by their values: the program's functions in the laws' words. -/
namespace Go.Proofs.YtmghoedjcokhpaaGreatDoor
open Go.RowKit
open Go.Lib (hid)
set_option linter.unusedVariables false

/-- A call that gives the fraction x. -/
def RatP (x : Rat) (w : World) (e : Ending) (w' : World) : Prop := ∃ s a n c b m d, e = .returned (.agg #[.bool s, .slice a n c, .slice b m d]) ∧ RatX w' s (.slice a n c) (.slice b m d) x ∧ Below w.heap.size w w'
theorem RatP_of {x : Rat} {w w' : World} {e : Ending} (h : OwnR (some x) w e w') (hf : fit x) : RatP x w e w' := by
  obtain ⟨v, u, he, h1, h2, -, hb⟩ := h
  have h1' : Ints w' w.heap.size v (gzl x.num) := h1
  have h2' : Ints w' w.heap.size u (gzl (x.den : Int)) := h2
  obtain ⟨a, c, rfl, -⟩ := Ints_form h1'
  obtain ⟨b, d, rfl, -⟩ := Ints_form h2'
  exact ⟨gzs x.num, a, _, c, b, _, d, he, RatX_of h1' h2' hf, hb⟩
theorem RatX.val {w : World} {s : Bool} {v u : Value} {x : Rat} (h : RatX w s v u x) : ∃ A D, RL w v u A D ∧ rval s A D = some x := by
  obtain ⟨A, D, r, k, n1, d1, -⟩ := h
  obtain ⟨y, e, n2, d2, -⟩ := rval_yes k
  have : y = x := Rat.ext (by rw [n2, n1]) (by omega)
  subst this
  exact ⟨A, D, r, e⟩
theorem RatX.fits {w : World} {s : Bool} {v u : Value} {x : Rat} (h : RatX w s v u x) : fit x := by
  obtain ⟨A, D, r, k, n1, d1, f⟩ := h
  exact f
theorem ok_zero {w : World} {v u : Value} (h : RL w v u [] []) : Calls Tryz.prog 58 #[.agg #[.bool false, v, u]] w (RetB (.bool false) w) := by
  have := impl_RatOk false v u [] [] w h
  rw [show rok false [] [] = false by unfold rok; simp] at this
  exact this
theorem okk_rat {w : World} {s : Bool} {v u : Value} {x : Rat} (h : RatX w s v u x) : Calls Tryz.prog 58 #[.agg #[.bool s, v, u]] w (RetB (.bool true) w) := by
  obtain ⟨A, D, r, k, -⟩ := h
  have := impl_RatOk s v u A D w r
  rw [k] at this
  exact this
theorem eq_rat {w : World} {s t : Bool} {v u v' u' : Value} {x y : Rat} {z : Bool} (h : RatX w s v u x) (h' : RatX w t v' u' y) (hz : decide (x = y) = z) : Calls Tryz.prog 31 #[.agg #[.bool s, v, u], .agg #[.bool t, v', u']] w (RetB (.bool z) w) := by
  obtain ⟨A, D, r, e⟩ := h.val
  obtain ⟨A', D', r', e'⟩ := h'.val
  have hh := impl_RatEqual s t v u v' u' A D A' D' w r r'
  have e3 : ((s == t) && decide (A = A') && decide (D = D')) = z := by
    rw [← hz]
    obtain ⟨g1, g2, g3⟩ := rval_lists e
    obtain ⟨k1, k2, k3⟩ := rval_lists e'
    by_cases hxy : x = y
    · subst hxy
      have a1 : s = t := g1.symm.trans k1
      have a2 : A = A' := g2.symm.trans k2
      have a3 : D = D' := g3.symm.trans k3
      simp [a1, a2, a3]
    · rw [decide_eq_false hxy]
      cases hb : ((s == t) && decide (A = A') && decide (D = D')) with
      | false => rfl
      | true =>
        simp only [Bool.and_eq_true, decide_eq_true_eq, beq_iff_eq] at hb
        obtain ⟨⟨a1, a2⟩, a3⟩ := hb
        subst a1
        subst a2
        subst a3
        rw [e] at e'
        cases e'
        exact absurd rfl hxy
  rw [e3] at hh
  exact hh
theorem RatX.set {T : TypeId} {w : World} {N i : Nat} {cs : Array Value} {y : Value} {s : Bool} {v u : Value} {x : Rat} (h : RatX w s v u x) (hL : LocA T w N cs) (hT : T ≠ 3) : RatX (w.setCell ⟨N, i, none⟩ y) s v u x := by
  obtain ⟨A, D, ⟨⟨b1, i1⟩, ⟨b2, i2⟩, l1, l2⟩, k⟩ := h
  exact ⟨A, D, ⟨⟨b1, Ints_set i1 (hL.ne hT i1)⟩, ⟨b2, Ints_set i2 (hL.ne hT i2)⟩, l1, l2⟩, k⟩
/-- The fraction z has been laid into a variable of its own, behind W. -/
def LaidQ (W : World) (z : Rat) (sl : Value) (wx : World) : Prop := ∃ g s a n c b m d, sl = .pointer (some ⟨g, 0, none⟩) ∧ LocA 40 wx g #[.bool s, .slice a n c, .slice b m d] ∧ RatX wx s (.slice a n c) (.slice b m d) z ∧ W.heap.size ≤ g ∧ Below W.heap.size W wx
theorem LaidQ_a {W wf : World} {s : Bool} {a b : Option Addr} {n c m d : Nat} {z : Rat} (h : RatX wf s (.slice a n c) (.slice b m d) z) (hb : Below W.heap.size W wf) :
    LaidQ W z (.pointer (some ⟨wf.heap.size, 0, none⟩)) (wf.alloc (.cells #[.bool s, .slice a n c, .slice b m d] 40)) :=
  ⟨wf.heap.size, s, a, n, c, b, m, d, rfl, LocA.new, h.old below_new', hb.size, hb.alloc hb.size _⟩
theorem LaidQ_b {W wf : World} {N : Nat} {s : Bool} {a b : Option Addr} {n c m d : Nat} {z : Rat} (hL : LocA 40 wf N #[.bool false, .slice none 0 0, .slice none 0 0]) (hN : W.heap.size ≤ N) (h : RatX wf s (.slice a n c) (.slice b m d) z) (hb : Below W.heap.size W wf) :
    LaidQ W z (.pointer (some ⟨N, 0, none⟩)) (((wf.setCell ⟨N, 0, none⟩ (.bool s)).setCell ⟨N, 1, none⟩ (.slice a n c)).setCell ⟨N, 2, none⟩ (.slice b m d)) := by
  have l1 := hL.set (i := 0) (x := .bool s)
  have l2 := l1.set (i := 1) (x := .slice a n c)
  have l3 := l2.set (i := 2) (x := .slice b m d)
  exact ⟨N, s, a, n, c, b, m, d, rfl, l3, ((h.set hL (by decide)).set l1 (by decide)).set l2 (by decide), hN, ((hb.setCell hN _).setCell hN _).setCell hN _⟩
theorem ByteRow_in {w : World} {a : Option Addr} {len cap : Nat} {zs : List Int}
    (h : (a = none ∧ len = 0 ∧ cap = 0 ∧ zs = []) ∨ ∃ x, a = some x ∧ len ≤ cap ∧ cap ≤ maxLen ∧ zs.length = cap ∧ (∀ i, i < zs.length → w.cell? (x.add i) = some (.int .u8 (zs.getD i 0))) ∧ ∀ n ∈ zs, (Lit.int .u8 n).wf = true) :
    ∃ Z, ByteRow w a len Z ∧ len ≤ maxLen := by
  rcases h with ⟨rfl, rfl, rfl, rfl⟩ | ⟨x, rfl, hl, hm, hz, hc, hw⟩
  · exact ⟨[], ⟨rfl, (fun z h => by cases h), (fun h => by cases h)⟩, by unfold maxLen; omega⟩
  · have hlen : (zs.take len).length = len := by simp; omega
    refine ⟨zs.take len, ⟨hlen.symm, fun z hz => ?_, fun h0 => ?_⟩, by omega⟩
    · have h := hw z (List.mem_of_mem_take hz)
      simp only [Lit.wf, Bool.and_eq_true, decide_eq_true_eq] at h
      exact h
    obtain ⟨g, o, spot⟩ := x
    have hs : spot = none := by
      have := hc 0 (by omega)
      simpa [Addr.add] using World.cell?_spot this
    subst hs
    have hat : ∀ i, i < zs.length → w.cell? ⟨g, o + i, none⟩ = some (.int .u8 (zs.getD i 0)) := fun i hi => by rw [← Go.WideShapes.add_plain]; exact hc i hi
    refine ⟨g, o, rfl, World.block_lt_of_cell? w ⟨g, o + 0, none⟩ (hat 0 (by omega)), fun i hi => ?_⟩
    have hi' : i < zs.length := by omega
    rw [hat i hi', List.getElem_take]
    simp [hi']

end Go.Proofs.YtmghoedjcokhpaaGreatDoor
