/- The draws of the laws: the cursor over the code's bytes; a draw is a function of the bytes. -/
import Derived.Test.YtookglpeieennaaGreatProg
import Derived.WalkKit
import Derived.Lib.Hide
import Derived.Laws.Bits128
import Derived.Deep.QuietTactic
import Derived.BigQuiet
import Derived.WalkSmall
namespace Go.Proofs.YtookglpeieennaaGreat
open Go.RowKit
open Go.Lib (hid)

theorem i64_mask30 (n : Int) : bits .and .i64 n 1073741823 = n % 1073741824 := by
  have h : (BitVec.ofInt 64 1073741823).toNat = 2 ^ 30 - 1 := by decide
  have key : (BitVec.ofInt 64 n &&& BitVec.ofInt 64 1073741823).toNat = (n % ((2 ^ 64 : Nat) : Int)).toNat % 2 ^ 30 := by
    rw [BitVec.toNat_and, BitVec.toNat_ofInt, h, Nat.and_two_pow_sub_one_eq_mod]
  show IntKind.i64.wrap ((BitVec.ofInt 64 n &&& BitVec.ofInt 64 1073741823).toNat : Nat) = n % 1073741824
  rw [key, IntKind.wrap_i64]
  omega
theorem i64_mask8 (n : Int) : bits .and .i64 n 255 = n % 256 := by
  have h : (BitVec.ofInt 64 255).toNat = 2 ^ 8 - 1 := by decide
  have key : (BitVec.ofInt 64 n &&& BitVec.ofInt 64 255).toNat = (n % ((2 ^ 64 : Nat) : Int)).toNat % 2 ^ 8 := by
    rw [BitVec.toNat_and, BitVec.toNat_ofInt, h, Nat.and_two_pow_sub_one_eq_mod]
  show IntKind.i64.wrap ((BitVec.ofInt 64 n &&& BitVec.ofInt 64 255).toNat : Nat) = n % 256
  rw [key, IntKind.wrap_i64]
  omega

/-- A slice of bytes that came in: its elements are Z. -/
def ByteRow (w : World) (a : Option Addr) (n : Nat) (Z : List Int) : Prop :=
  n = Z.length ∧ (∀ z ∈ Z, 0 ≤ z ∧ z ≤ 255) ∧ (0 < Z.length → ∃ g o, a = some ⟨g, o, none⟩ ∧ g < w.heap.size ∧ ∀ i (h : i < Z.length), w.cell? ⟨g, o + i, none⟩ = some (.int .u8 Z[i]))
theorem ByteRow_below {w w' : World} {a : Option Addr} {n : Nat} {Z : List Int} (h : ByteRow w a n Z) (hb : Below w.heap.size w w') : ByteRow w' a n Z := by
  refine ⟨h.1, h.2.1, fun h0 => ?_⟩
  obtain ⟨g, o, e, hg, hc⟩ := h.2.2 h0
  exact ⟨g, o, e, Nat.lt_of_lt_of_le hg hb.size, fun i hi => (hb.cell (p := ⟨g, o + i, none⟩) hg).trans (hc i hi)⟩

/-- The hash after k bytes. -/
def hashTo (Z : List Int) : Nat → Int
  | 0 => 1948 + Z.length
  | k + 1 => (hashTo Z k * 53 + Z.getD k 0 + 7) % 1073741824
def hashed (Z : List Int) : Int := hashTo Z (min Z.length 4000)
theorem hashTo_le {Z : List Int} (h : Z.length ≤ 1048576) : ∀ k, 0 ≤ hashTo Z k ∧ hashTo Z k ≤ 1073741824
  | 0 => by simp only [hashTo]; omega
  | k + 1 => by simp only [hashTo]; omega
theorem hashTo_step {Z : List Int} {k : Nat} (h : k < Z.length) : hashTo Z (k + 1) = (hashTo Z k * 53 + Z[k] + 7) % 1073741824 := by
  simp [hashTo, h]

/-- The cursor as the call lays it: the bytes, where it stands, the hash. -/
def curCells (a : Option Addr) (n c : Nat) (i h : Int) : Array Value := #[.slice a n c, .int .i64 i, .int .i64 h]

set_option maxRecDepth 100000 in
set_option maxHeartbeats 800000 in
theorem l01New_any (a : Option Addr) (n c : Nat) (Z : List Int) (hZ : Z.length ≤ 1048576) (w : World) (hr : ByteRow w a n Z) :
    Calls Tryz.prog 41 #[.slice a n c] w fun e w' => e = .returned (.pointer (some ⟨w.heap.size, 0, none⟩)) ∧ w' = w.alloc (.cells #[.slice a n c, .int .i64 0, .int .i64 (hashed Z)] 52) := by
  obtain ⟨rfl, hz, hr⟩ := hr
  have HR := hid hr
  have HZ := hid hz
  have HL := fun k => hashTo_le hZ k
  have HL := hid HL
  clear hr hz
  go_enter Tryz.func41, Tryz.ntmps41
  go_wp2_with fail
  go_loop [3, 4] (fun h i => ∃ (k : Nat) (x : Int), k ≤ Z.length ∧ k ≤ 4000 ∧ i = .int .i64 k ∧ h = .int .i64 x ∧ 0 ≤ x ∧ x ≤ 1073741824 ∧ Hid (x = hashTo Z k)) (fun _ i => Z.length - (intOf i).toNat)
  case atStart => exact ⟨0, _, Nat.zero_le _, by omega, rfl, rfl, by omega, by omega, hid rfl⟩
  case round =>
    obtain ⟨k, x, hk, hk2, rfl, rfl, hx0, hx1, hx⟩ := hrel
    by_cases hlt : k < Z.length
    · by_cases h4 : k < 4000
      · obtain ⟨g, o, rfl, hg, hc⟩ := HR.out (by omega)
        have hck := hc k hlt
        have hzk := HZ.out Z[k] (List.getElem_mem hlt)
        have HS := hid (hashTo_step hlt)
        clear hc
        have a1 : (0 : Int) ≤ k := by omega
        have a2 : (k : Int) < Z.length := by omega
        have a3 : (k : Int) < 4000 := by omega
        have hm := i64_mask30 (x * 53 + Z[k] + 7)
        go_wp2_with fail
        go_round
        case rel => exact ⟨k + 1, _, by omega, by omega, by go_num, rfl, by omega, by omega, hid (by rw [HS.out, ← hx.out])⟩
        case measure => simp [intOf]; omega
      · have a3 : ¬ (k : Int) < 4000 := by omega
        have a2 : (k : Int) < Z.length := by omega
        have HE := hid (show x = hashed Z by rw [hx.out]; unfold hashed; congr 1; omega)
        go_wp2_with fail
        go_ret
        rw [← HE.out]
        exact ⟨rfl, rfl⟩
    · have HE := hid (show x = hashed Z by rw [hx.out]; unfold hashed; congr 1; omega)
      go_wp2_with fail
      go_ret
      rw [← HE.out]
      exact ⟨rfl, rfl⟩

/-- The draw of a byte: what the hash turns into, and the byte. -/
def hashNext (h : Int) : Int := wrap64 (wrap64 (h * 6364136223846793005) + 1442695040888963407)

/-- Block N is the cursor: the bytes, where it stands, the hash. -/
def IsCur (w : World) (N : Nat) (a : Option Addr) (n c : Nat) (i : Nat) (h : Int) : Prop := w.heap[N]? = some (.cells #[.slice a n c, .int .i64 i, .int .i64 h] 52 (0, 0))
theorem IsCur_facts {w : World} {N : Nat} {a : Option Addr} {n c i : Nat} {h : Int} (hN : IsCur w N a n c i h) :
    w.cell? ⟨N, 0, none⟩ = some (.slice a n c) ∧ w.cell? ⟨N, 1, none⟩ = some (.int .i64 i) ∧ w.cell? ⟨N, 2, none⟩ = some (.int .i64 h) ∧ w.frozen? ⟨N, 1, none⟩ = false ∧ w.frozen? ⟨N, 2, none⟩ = false := by
  unfold IsCur at hN
  refine ⟨?_, ?_, ?_, ?_, ?_⟩ <;> simp [World.cell?, World.frozen?, hN]
theorem IsCur_hash {w : World} {N : Nat} {a : Option Addr} {n c i : Nat} {h : Int} (hN : IsCur w N a n c i h) (h' : Int) : IsCur (w.setCell ⟨N, 2, none⟩ (.int .i64 h')) N a n c i h' := by
  unfold IsCur at hN ⊢
  simp [World.setCell, Array.getElem?_modify, hN]
theorem IsCur_next {w : World} {N : Nat} {a : Option Addr} {n c i : Nat} {h : Int} (hN : IsCur w N a n c i h) (i' : Nat) : IsCur (w.setCell ⟨N, 1, none⟩ (.int .i64 i')) N a n c i' h := by
  unfold IsCur at hN ⊢
  simp [World.setCell, Array.getElem?_modify, hN]
theorem IsCur_drewN {w : World} {N : Nat} {a : Option Addr} {n c i : Nat} {h : Int} (hN : IsCur w N a n c i h) (d : Nat) : IsCur (w.drewN d) N a n c i h := hN
theorem ByteRow_drewN {w : World} {a : Option Addr} {n : Nat} {Z : List Int} (h : ByteRow w a n Z) (d : Nat) : ByteRow (w.drewN d) a n Z := h

/-- The byte that the hash gives; the draw's byte; where the cursor stands behind the draw. -/
def hashByte (h : Int) : Int := bits BinOp.and IntKind.i64 (bits BinOp.xor IntKind.i64 (h / 8589934592) (h / 35184372088832)) 255
theorem hashByte_le (h : Int) : 0 ≤ hashByte h ∧ hashByte h ≤ 255 := by
  unfold hashByte; rw [i64_mask8]; omega
def drawB (Z : List Int) (i : Nat) (h : Int) : Int := if i < Z.length then (hashByte (hashNext h) + Z.getD i 0) % 256 else hashByte (hashNext h)
def drawI (Z : List Int) (i : Nat) : Nat := if i < Z.length then i + 1 else i
theorem drawB_le (Z : List Int) (i : Nat) (h : Int) : 0 ≤ drawB Z i h ∧ drawB Z i h ≤ 255 := by
  unfold drawB
  split
  · omega
  · exact hashByte_le _
theorem drawB_yes {Z : List Int} {i : Nat} {h : Int} (hi : i < Z.length) : drawB Z i h = (hashByte (hashNext h) + Z[i]) % 256 := by
  simp [drawB, hi]
theorem drawB_no {Z : List Int} {i : Nat} {h : Int} (hi : ¬ i < Z.length) : drawB Z i h = hashByte (hashNext h) := by
  simp only [drawB, if_neg hi]

def DrawPost (N : Nat) (a : Option Addr) (n c i : Nat) (Z : List Int) (h : Int) (w : World) (e : Ending) (w' : World) : Prop :=
  e = .returned (.int .i64 (drawB Z i h)) ∧ IsCur w' N a n c (drawI Z i) (hashNext h) ∧ Below N w w'

set_option maxRecDepth 100000 in
set_option maxHeartbeats 1600000 in
theorem l01Byte_any (N : Nat) (a : Option Addr) (n c i : Nat) (Z : List Int) (h : Int) (hZ : Z.length ≤ 1048576) (w : World) (hr : ByteRow w a n Z) (hN : IsCur w N a n c i h) (hi : i ≤ Z.length)
    (hg0 : ∀ g o, a = some ⟨g, o, none⟩ → 0 < Z.length → g < N) :
    Calls Tryz.prog 110 #[.pointer (some ⟨N, 0, none⟩)] w (DrawPost N a n c i Z h w) := by
  obtain ⟨c0, c1, c2, f1, f2⟩ := IsCur_facts hN
  have HN := hid (IsCur_hash hN (hashNext h))
  have HB := hid ((Below.refl N w).setCell (p := ⟨N, 2, none⟩) (Nat.le_refl _) (.int .i64 (hashNext h)))
  have HR := hid hr
  have HG := hid hg0
  clear hr hN hg0
  go_enter Tryz.func110, Tryz.ntmps110
  go_wp2_with fail
  have ew : w.setCell ⟨N, 2, none⟩ (.int .i64 (wrap64 (wrap64 (h * 6364136223846793005) + 1442695040888963407))) = w.setCell ⟨N, 2, none⟩ (.int .i64 (hashNext h)) := rfl
  rw [ew]
  generalize w.setCell ⟨N, 2, none⟩ (.int .i64 (hashNext h)) = w1 at HN HB ⊢
  clear ew c0 c1 c2 f1 f2
  obtain ⟨c0, c1, c2, f1, f2⟩ := IsCur_facts HN.out
  obtain ⟨h', hh'⟩ : ∃ h', h' = hashNext h := ⟨_, rfl⟩
  have HH := hid hh'
  rw [← hh'] at c2 HN
  clear hh'
  go_quiet (fail)
  go_wp2_with fail
  have hx := hashByte_le h'
  have ex : bits BinOp.and IntKind.i64 (bits BinOp.xor IntKind.i64 (h' / 8589934592) (h' / 35184372088832)) 255 = hashByte h' := rfl
  rw [ex]
  obtain ⟨x, hxx⟩ : ∃ x, x = hashByte h' := ⟨_, rfl⟩
  have HX := hid hxx
  rw [← hxx] at hx ⊢
  clear ex hxx
  by_cases hlt : i < Z.length
  · obtain ⟨rfl, hz, hrow⟩ := HR.out
    obtain ⟨g, o, rfl, hg, hc⟩ := hrow (by omega)
    have hgN := HG.out g o rfl (by omega)
    have hzi := hz Z[i] (List.getElem_mem hlt)
    have hci : w1.cell? ⟨g, o + i, none⟩ = some (.int .u8 Z[i]) := (HB.out.cell (p := ⟨g, o + i, none⟩) hgN).trans (hc i hlt)
    clear hz hrow hc
    have a1 : (0 : Int) ≤ i := by omega
    have a2 : (i : Int) < Z.length := by omega
    have hm8 := i64_mask8 (x + Z[i])
    have HD := hid (drawB_yes (h := h) hlt)
    have HI := hid (show drawI Z i = i + 1 by simp [drawI, hlt])
    go_quiet (fail)
    go_wp2_with fail
    go_quiet (fail)
    go_wp2_with fail
    go_ret
    refine ⟨?_, ?_, ?_⟩
    · rw [HD.out, ← HH.out, ← HX.out]; rfl
    · rw [HI.out, ← HH.out]
      have hx := IsCur_next HN.out (i + 1)
      unfold IsCur at hx ⊢
      exact hx
    · have hb := HB.out.setCell (p := ⟨N, 1, none⟩) (Nat.le_refl _) (.int .i64 ((i : Int) + 1))
      exact ⟨hb.os, hb.tape, hb.output, hb.size, hb.block⟩
  · have a2 : ¬ (i : Int) < Z.length := by omega
    have en := HR.out.1
    subst en
    have HD := hid (drawB_no (h := h) hlt)
    have HI := hid (show drawI Z i = i by simp [drawI, hlt])
    go_quiet (fail)
    go_wp2_with fail
    go_ret
    refine ⟨?_, ?_, ?_⟩
    · rw [HD.out, ← HH.out, ← HX.out]; rfl
    · rw [HI.out, ← HH.out]
      have hx := HN.out
      unfold IsCur at hx ⊢
      exact hx
    · have hb := HB.out
      exact ⟨hb.os, hb.tape, hb.output, hb.size, hb.block⟩

def BelowPost (N : Nat) (a : Option Addr) (n c i : Nat) (Z : List Int) (h m : Int) (w : World) (e : Ending) (w' : World) : Prop :=
  e = .returned (.int .i64 (drawB Z i h % m)) ∧ IsCur w' N a n c (drawI Z i) (hashNext h) ∧ Below N w w'

set_option maxRecDepth 100000 in
set_option maxHeartbeats 800000 in
theorem l01Below_small (N : Nat) (a : Option Addr) (n c i : Nat) (Z : List Int) (h m : Int) (hZ : Z.length ≤ 1048576) (w : World) (hr : ByteRow w a n Z) (hN : IsCur w N a n c i h) (hi : i ≤ Z.length)
    (hg0 : ∀ g o, a = some ⟨g, o, none⟩ → 0 < Z.length → g < N) (m0 : 0 < m) (m1 : m ≤ 256) :
    Calls Tryz.prog 60 #[.pointer (some ⟨N, 0, none⟩), .int .i64 m] w (BelowPost N a n c i Z h m w) := by
  have K := hid (l01Byte_any N a n c i Z h hZ w hr hN hi hg0)
  have hd := drawB_le Z i h
  obtain ⟨x, hx⟩ : ∃ x, x = drawB Z i h := ⟨_, rfl⟩
  have HX := hid hx
  rw [← hx] at hd
  clear hx hr hN hg0
  have hm0 : decide (m ≤ 0) = false := decide_eq_false (by omega)
  go_enter Tryz.func60, Tryz.ntmps60
  go_wp2_with fail
  refine K.out.mono ?_
  rintro e w1 ⟨rfl, hc, hb⟩
  rw [← HX.out]
  go_wp2_with fail
  go_ret
  rw [HX.out]
  exact ⟨rfl, hc, hb⟩

/-- What MakeNum(code, m) returns. -/
def numOf (Z : List Int) (m : Int) : Int := drawB Z 0 (hashed Z + 777) % m
theorem numOf_le (Z : List Int) {m : Int} (h : 0 < m) : 0 ≤ numOf Z m ∧ numOf Z m < m := by
  unfold numOf
  exact ⟨Int.emod_nonneg _ (by omega), Int.emod_lt_of_pos _ h⟩

set_option maxRecDepth 100000 in
set_option maxHeartbeats 800000 in
theorem MakeNum_any (a : Option Addr) (n c : Nat) (Z : List Int) (m : Int) (hZ : Z.length ≤ 1048576) (w : World) (hr : ByteRow w a n Z) (m0 : 0 < m) (m1 : m ≤ 256) :
    Calls Tryz.prog 25 #[.slice a n c, .int .i64 m] w fun e w' => e = .returned (.int .i64 (numOf Z m)) ∧ Below w.heap.size w w' := by
  have K := hid (l01New_any a n c Z hZ w hr)
  have hh := hashTo_le hZ (min Z.length 4000)
  obtain ⟨h, hhe⟩ : ∃ h, h = hashed Z := ⟨_, rfl⟩
  have HH := hid hhe
  change 0 ≤ hashed Z ∧ hashed Z ≤ 1073741824 at hh
  rw [← hhe] at hh
  have HR := hid hr
  clear hhe hr
  go_enter Tryz.func25, Tryz.ntmps25
  go_wp2_with fail
  refine K.out.mono ?_
  rintro e w1 ⟨rfl, rfl⟩
  rw [← HH.out]
  go_wp2_with fail
  have hb0 : Below w.heap.size w (w.alloc (.cells #[.slice a n c, .int .i64 0, .int .i64 (h + 777)] 52)) := (Below.refl _ _).alloc (Nat.le_refl _) _
  refine (l01Below_small w.heap.size a n c 0 Z (h + 777) m hZ _ (ByteRow_below HR.out hb0) (by unfold IsCur; exact heap_alloc_new w _) (Nat.zero_le _) (fun g o e h0 => ?_) m0 m1).mono ?_
  · obtain ⟨g', o', e', hg, _⟩ := HR.out.2.2 h0
    rw [e] at e'
    simp at e'
    omega
  rintro e w2 ⟨rfl, _, hb2⟩
  have HN := hid (show drawB Z 0 (h + 777) % m = numOf Z m by rw [HH.out]; rfl)
  go_wp2_with fail
  go_ret
  rw [← HN.out]
  exact ⟨rfl, hb0.trans hb2⟩
end Go.Proofs.YtookglpeieennaaGreat
