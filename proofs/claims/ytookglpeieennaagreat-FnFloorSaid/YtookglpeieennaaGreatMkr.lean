/- Merged: Mk Mw Mr. -/
import Derived.Test.YtookglpeieennaaGreatCur
import Derived.Test.YtookglpeieennaaGreatObj
import Derived.Test.YtookglpeieennaaGreatToI
import Derived.Test.YtookglpeieennaaGreatWsm
import Derived.Maps.AppendAt
/- The draws of numbers: MakeNat returns a number of at most four limbs. -/
namespace Go.Proofs.YtookglpeieennaaGreat
open Go.RowKit
open Go.Lib (hid)
set_option linter.unusedVariables false

def DrawO (N : Nat) (a : Option Addr) (n c i : Nat) (Z : List Int) (h : Int) (w : World) (e : Ending) (w' : World) : Prop :=
  e = .returned (.int .i64 (drawB Z i h)) ∧ IsCur w' N a n c (drawI Z i) (hashNext h) ∧ Only (fun k => k = N) w w'

set_option maxRecDepth 100000 in
set_option maxHeartbeats 1600000 in
theorem l01Byte_only (N : Nat) (a : Option Addr) (n c i : Nat) (Z : List Int) (h : Int) (hZ : Z.length ≤ 1048576) (w : World) (hr : ByteRow w a n Z) (hN : IsCur w N a n c i h) (hi : i ≤ Z.length)
    (hg0 : ∀ g o, a = some ⟨g, o, none⟩ → 0 < Z.length → g < N) :
    Calls Tryz.prog 110 #[.pointer (some ⟨N, 0, none⟩)] w (DrawO N a n c i Z h w) := by
  obtain ⟨c0, c1, c2, f1, f2⟩ := IsCur_facts hN
  have HN := hid (IsCur_hash hN (hashNext h))
  have HB := hid ((Only.refl (fun k => k = N) w).setCell (p := ⟨N, 2, none⟩) rfl (.int .i64 (hashNext h)))
  have HR := hid hr
  have HG := hid hg0
  clear hr hN hg0
  go_enter Tryz.func110, Tryz.ntmps110
  go_wp2_with fail
  have ew : w.setCell ⟨N, 2, none⟩ (.int .i64 (wrap64 (wrap64 (h * 6364136223846793005) + 1442695040888963407))) = w.setCell ⟨N, 2, none⟩ (.int .i64 (hashNext h)) := rfl
  rw [ew]
  generalize w.setCell ⟨N, 2, none⟩ (.int .i64 (hashNext h)) = w1 at HN HB ⊢
  clear ew c0 c1 c2 f1 f2
  obtain ⟨c0, c1, c2, f1, f2⟩ := IsCur_facts HN.out
  obtain ⟨h', hh'⟩ : ∃ h', h' = hashNext h := ⟨_, rfl⟩
  have HH := hid hh'
  rw [← hh'] at c2 HN
  clear hh'
  go_quiet (fail)
  go_wp2_with fail
  have hx := hashByte_le h'
  have ex : bits BinOp.and IntKind.i64 (bits BinOp.xor IntKind.i64 (h' / 8589934592) (h' / 35184372088832)) 255 = hashByte h' := rfl
  rw [ex]
  obtain ⟨x, hxx⟩ : ∃ x, x = hashByte h' := ⟨_, rfl⟩
  have HX := hid hxx
  rw [← hxx] at hx ⊢
  clear ex hxx
  by_cases hlt : i < Z.length
  · obtain ⟨rfl, hz, hrow⟩ := HR.out
    obtain ⟨g, o, rfl, hg, hc⟩ := hrow (by omega)
    have hgN := HG.out g o rfl (by omega)
    have hzi := hz Z[i] (List.getElem_mem hlt)
    have hci : w1.cell? ⟨g, o + i, none⟩ = some (.int .u8 Z[i]) := (HB.out.cell (p := ⟨g, o + i, none⟩) (show ¬ g = N by omega)).trans (hc i hlt)
    clear hz hrow hc
    have a1 : (0 : Int) ≤ i := by omega
    have a2 : (i : Int) < Z.length := by omega
    have hm8 := i64_mask8 (x + Z[i])
    have HD := hid (drawB_yes (h := h) hlt)
    have HI := hid (show drawI Z i = i + 1 by simp [drawI, hlt])
    go_quiet (fail)
    go_wp2_with fail
    go_quiet (fail)
    go_wp2_with fail
    go_ret
    refine ⟨?_, ?_, ?_⟩
    · rw [HD.out, ← HH.out, ← HX.out]; rfl
    · rw [HI.out, ← HH.out]
      have hx := IsCur_next HN.out (i + 1)
      unfold IsCur at hx ⊢
      exact hx
    · have hb := HB.out.setCell (p := ⟨N, 1, none⟩) rfl (.int .i64 ((i : Int) + 1))
      exact ⟨hb.os, hb.tape, hb.output, hb.size, hb.block⟩
  · have a2 : ¬ (i : Int) < Z.length := by omega
    have en := HR.out.1
    subst en
    have HD := hid (drawB_no (h := h) hlt)
    have HI := hid (show drawI Z i = i by simp [drawI, hlt])
    go_quiet (fail)
    go_wp2_with fail
    go_ret
    refine ⟨?_, ?_, ?_⟩
    · rw [HD.out, ← HH.out, ← HX.out]; rfl
    · rw [HI.out, ← HH.out]
      have hx := HN.out
      unfold IsCur at hx ⊢
      exact hx
    · have hb := HB.out
      exact ⟨hb.os, hb.tape, hb.output, hb.size, hb.block⟩


/-- The cursor stands in block N, wherever it stands. -/
def CurE (w : World) (N : Nat) (a : Option Addr) (n c : Nat) (Z : List Int) : Prop := ByteRow w a n Z ∧ ∃ i h, i ≤ Z.length ∧ IsCur w N a n c i h
/-- The code lies below block N. -/
def Under (N : Nat) (a : Option Addr) (Z : List Int) : Prop := ∀ g o, a = some ⟨g, o, none⟩ → 0 < Z.length → g < N
def DrewE (lo hi : Int) (N : Nat) (a : Option Addr) (n c : Nat) (Z : List Int) (w : World) (e : Ending) (w' : World) : Prop :=
  ∃ x, lo ≤ x ∧ x < hi ∧ e = .returned (.int .i64 x) ∧ CurE w' N a n c Z ∧ Only (fun k => k = N) w w'
theorem ByteRow_only {w w' : World} {N : Nat} {a : Option Addr} {n : Nat} {Z : List Int} (h : ByteRow w a n Z) (hu : Under N a Z) (ho : Only (fun k => k = N) w w') : ByteRow w' a n Z := by
  refine ⟨h.1, h.2.1, fun h0 => ?_⟩
  obtain ⟨g, o, e, hg, hc⟩ := h.2.2 h0
  have := hu g o e h0
  exact ⟨g, o, e, Nat.lt_of_lt_of_le hg ho.size, fun i hi => (ho.cell (p := ⟨g, o + i, none⟩) (show ¬ g = N by omega)).trans (hc i hi)⟩
theorem drawI_le {Z : List Int} {i : Nat} (h : i ≤ Z.length) : drawI Z i ≤ Z.length := by unfold drawI; split <;> omega
theorem byteE (N : Nat) (a : Option Addr) (n c : Nat) (Z : List Int) (hZ : Z.length ≤ 1048576) (w : World) (hc : CurE w N a n c Z) (hu : Under N a Z) :
    Calls Tryz.prog 110 #[.pointer (some ⟨N, 0, none⟩)] w (DrewE 0 256 N a n c Z w) := by
  obtain ⟨hr, i, h, hi, hN⟩ := hc
  refine (l01Byte_only N a n c i Z h hZ w hr hN hi hu).mono ?_
  rintro e w' ⟨rfl, h2, h3⟩
  have := drawB_le Z i h
  exact ⟨_, this.1, by omega, rfl, ⟨ByteRow_only hr hu h3, _, _, drawI_le hi, h2⟩, h3⟩

set_option maxRecDepth 100000 in
set_option maxHeartbeats 1600000 in
theorem belowE (N : Nat) (a : Option Addr) (n c : Nat) (Z : List Int) (m : Int) (hZ : Z.length ≤ 1048576) (w : World) (hc : CurE w N a n c Z) (hu : Under N a Z) (m0 : 0 < m) (m1 : m ≤ 1000000000) :
    Calls Tryz.prog 60 #[.pointer (some ⟨N, 0, none⟩), .int .i64 m] w (DrewE 0 m N a n c Z w) := by
  have K := hid (fun (W : World) (h : CurE W N a n c Z) => byteE N a n c Z hZ W h hu)
  have C := hid hc
  clear hc hu
  have hm0 : decide (m ≤ 0) = false := decide_eq_false (by omega)
  by_cases h256 : m ≤ 256
  · go_enter Tryz.func60, Tryz.ntmps60
    go_wp2_with fail
    refine (K.out _ C.out).mono ?_
    rintro e w1 ⟨x, x0, x1, rfl, c1, o1⟩
    have C1 := hid c1
    have O1 := hid o1
    clear c1 o1
    have hb := hid (Int.emod_lt_of_pos x m0)
    have hb0 := hid (Int.emod_nonneg x (show m ≠ 0 by omega))
    go_wp2_with fail
    go_ret
    exact ⟨_, hb0.out, hb.out, rfl, C1.out, O1.out⟩
  · have hm1 : decide (m ≤ 256) = false := decide_eq_false h256
    go_enter Tryz.func60, Tryz.ntmps60
    go_wp2_with fail
    refine (K.out _ C.out).mono ?_
    rintro e w1 ⟨x, x0, x1, rfl, c1, o1⟩
    have C1 := hid c1
    have O1 := hid o1
    clear c1 o1
    go_wp2_with fail
    refine (K.out _ C1.out).mono ?_
    rintro e w2 ⟨y, y0, y1, rfl, c1, o1⟩
    have C1 := hid c1
    have O1 := hid (O1.out.trans o1)
    clear c1 o1
    go_wp2_with fail
    refine (K.out _ C1.out).mono ?_
    rintro e w3 ⟨z, z0, z1, rfl, c1, o1⟩
    have C1 := hid c1
    have O1 := hid (O1.out.trans o1)
    clear c1 o1
    go_wp2_with fail
    refine (K.out _ C1.out).mono ?_
    rintro e w4 ⟨v, v0, v1, rfl, c1, o1⟩
    have C1 := hid c1
    have O1 := hid (O1.out.trans o1)
    clear c1 o1
    have hb := hid (Int.emod_lt_of_pos (x * 16777216 + y * 65536 + z * 256 + v) m0)
    have hb0 := hid (Int.emod_nonneg (x * 16777216 + y * 65536 + z * 256 + v) (show m ≠ 0 by omega))
    go_wp2_with fail
    go_ret
    exact ⟨_, hb0.out, hb.out, rfl, C1.out, O1.out⟩

def PickE (L : List Int) (N : Nat) (a : Option Addr) (n c : Nat) (Z : List Int) (w : World) (e : Ending) (w' : World) : Prop :=
  ∃ x, x ∈ L ∧ e = .returned (.int .i64 x) ∧ CurE w' N a n c Z ∧ Only (fun k => k = N) w w'
set_option maxRecDepth 100000 in
set_option maxHeartbeats 1600000 in
theorem pickE (N : Nat) (a : Option Addr) (n c : Nat) (Z : List Int) (g d : Nat) (L : List Int) (hZ : Z.length ≤ 1048576) (w : World) (hc : CurE w N a n c Z) (hu : Under N a Z) (hL0 : 0 < L.length) (hL1 : L.length ≤ 100)
    (hL : ∀ i (h : i < L.length), w.cell? ⟨g, i, none⟩ = some (.int .i64 L[i])) (hg : g ≠ N) :
    Calls Tryz.prog 109 #[.pointer (some ⟨N, 0, none⟩), .slice (some ⟨g, 0, none⟩) L.length d] w (PickE L N a n c Z w) := by
  have K := hid (belowE N a n c Z L.length hZ w hc hu (by omega) (by omega))
  have HL := hid hL
  have HG := hid hg
  clear hc hu hL hg
  go_enter Tryz.func109, Tryz.ntmps109
  go_wp2_with fail
  refine K.out.mono ?_
  rintro e w1 ⟨x, x0, x1, rfl, c1, o1⟩
  have C1 := hid c1
  have O1 := hid o1
  clear c1 o1
  obtain ⟨i, rfl⟩ : ∃ i : Nat, x = i := ⟨x.toNat, by omega⟩
  have hi : i < L.length := by omega
  have q := (O1.out.cell (p := ⟨g, i, none⟩) HG.out).trans (HL.out i hi)
  have hm := hid (List.getElem_mem hi)
  obtain ⟨y, hy⟩ : ∃ y, y = L[i] := ⟨_, rfl⟩
  rw [← hy] at q hm
  clear hy
  go_wp2_with fail
  go_ret
  exact ⟨_, hm.out, rfl, C1.out, O1.out⟩

theorem Ints_lit7 {w : World} {B : Nat} {x1 x2 x3 x4 x5 x6 x7 : Int} (hB : B ≤ w.heap.size) : Ints (w.alloc (.cells #[.int .i64 x1, .int .i64 x2, .int .i64 x3, .int .i64 x4, .int .i64 x5, .int .i64 x6, .int .i64 x7] 3)) B (.slice (some ⟨w.heap.size, 0, none⟩) 7 7) [x1, x2, x3, x4, x5, x6, x7] :=
  World.ownsRow_lit w #[.int .i64 x1, .int .i64 x2, .int .i64 x3, .int .i64 x4, .int .i64 x5, .int .i64 x6, .int .i64 x7] 7 hB (by decide) rfl
theorem CurE_alloc {w : World} {N : Nat} {a : Option Addr} {n c : Nat} {Z : List Int} (h : CurE w N a n c Z) (o : Go.Obj) : CurE (w.alloc o) N a n c Z := by
  obtain ⟨hr, i, x, hi, hN⟩ := h
  refine ⟨ByteRow_below hr below_new, i, x, hi, ?_⟩
  unfold IsCur at hN ⊢
  exact (Below.heap_alloc w o N (Array.getElem?_eq_some_iff.1 hN).1).trans hN
theorem CurE_below {w w' : World} {N B : Nat} {a : Option Addr} {n c : Nat} {Z : List Int} (h : CurE w N a n c Z) (hb : Below B w w') (hN : N < B) (hB : B ≤ w.heap.size) (hu : Under N a Z) : CurE w' N a n c Z := by
  obtain ⟨hr, i, x, hi, hc⟩ := h
  refine ⟨⟨hr.1, hr.2.1, fun h0 => ?_⟩, i, x, hi, ?_⟩
  · obtain ⟨g, o, e, hg, hc⟩ := hr.2.2 h0
    have := hu g o e h0
    exact ⟨g, o, e, Nat.lt_of_lt_of_le hg hb.size, fun i hi => (hb.cell (p := ⟨g, o + i, none⟩) (show g < B by omega)).trans (hc i hi)⟩
  · unfold IsCur at hc ⊢
    exact (hb.block N hN).trans hc
theorem CurE_lt {w : World} {N : Nat} {a : Option Addr} {n c : Nat} {Z : List Int} (h : CurE w N a n c Z) : N < w.heap.size := by
  obtain ⟨_, i, x, _, hc⟩ := h
  exact (Array.getElem?_eq_some_iff.1 hc).1
theorem Ints_notN {w w' : World} {N B : Nat} {v : Value} {L : List Int} (hB : N < B) (h : Ints w B v L) (ho : Only (fun k => k = N) w w') : Ints w' B v L :=
  Ints_only h ho fun k hk e => by have := (Ints_lt h k hk).1; omega
theorem lim7 {x y z : Int} (hx : 0 ≤ x ∧ x < 1000000000) (hy : 0 ≤ y ∧ y < 1000000000) (h : z ∈ [0, 1, 2, 999999999, 500000000, x, y]) : 0 ≤ z ∧ z < 1000000000 := by
  simp at h
  omega

/-- A new number of at most four limbs. -/
def MadeP (mst : Int) (N : Nat) (w : World) (e : Ending) (w' : World) : Prop := ∃ L v, Can L ∧ (L.length : Int) ≤ mst ∧ e = .returned v ∧ Ints w' w.heap.size v L ∧ Only (fun k => k = N ∨ w.heap.size ≤ k) w w'

set_option maxRecDepth 100000 in
set_option maxHeartbeats 3200000 in
theorem l02Nat_made (N : Nat) (a : Option Addr) (n c : Nat) (Z : List Int) (mst : Int) (mst0 : 0 ≤ mst) (mst4 : mst ≤ 4) (hZ : Z.length ≤ 1048576) (w : World) (hc : CurE w N a n c Z) (hu : Under N a Z) :
    Calls Tryz.prog 94 #[.pointer (some ⟨N, 0, none⟩), .int .i64 mst] w (MadeP mst N w) := by
  obtain ⟨i3, hi3, hz0, hz1, hz2⟩ := info_parts Tryz.info3
  have KB := hid (fun (W : World) (h : CurE W N a n c Z) (m : Int) m0 m1 => belowE N a n c Z m hZ W h hu m0 m1)
  have KP := hid (fun (W : World) (h : CurE W N a n c Z) (g d : Nat) (L : List Int) h0 h1 h2 h3 => pickE N a n c Z g d L hZ W h hu h0 h1 h2 h3)
  have HU := hid hu
  have C0 := hid (CurE_alloc hc (.cells #[] 3))
  have hNw := CurE_lt hc
  have I0 := hid (show Ints (w.alloc (.cells #[] 3)) w.heap.size (.slice (some ⟨w.heap.size, 0, none⟩) 0 0) [] from World.ownsRow_made w #[] 0 (by omega) (by decide) rfl)
  have B0 := hid (show Only (fun k => k = N ∨ w.heap.size ≤ k) w (w.alloc (.cells #[] 3)) from (Only.refl _ _).alloc (.inr (Nat.le_refl _)) _)
  clear hc hu
  go_enter Tryz.func94, Tryz.ntmps94
  go_wp2_with fail
  refine (KB.out _ C0.out (mst + 1) (by omega) (by omega)).mono ?_
  rintro e w1 ⟨x, x0, x1, rfl, c1, o1⟩
  have C1 := hid c1
  have I1 := hid (Ints_notN hNw I0.out o1)
  have B1 := hid (B0.out.trans (o1.mono fun k hk => .inl hk))
  clear c1 o1 C0 I0 B0
  go_wp2
  go_loopw [5, 6] (fun out z wr => ∃ (k : Int) (P : List Int), 0 ≤ k ∧ P.length + k ≤ mst ∧ z = .int .i64 k ∧ Ints wr w.heap.size out P ∧ Hid (Lim P) ∧ CurE wr N a n c Z ∧ Only (fun k => k = N ∨ w.heap.size ≤ k) w wr) (fun _ z _ => (intOf z).toNat)
  case atStart => exact ⟨x, [], x0, by simp; omega, rfl, I1.out, hid Lim_nil, C1.out, B1.out⟩
  case round =>
    clear I1 C1 B1
    obtain ⟨k, P, k0, hk, rfl, hI, hPL, hC, hB⟩ := hrel
    have HI := hid hI
    have HC := hid hC
    have HB := hid hB
    clear hI hC hB
    by_cases hk0 : 0 < k
    · go_wp2_with fail
      refine (KB.out _ HC.out 1000000000 (by decide) (by decide)).mono ?_
      rintro e w2 ⟨p, p0, p1, rfl, c1, o1⟩
      have HC := hid c1
      have HI := hid (Ints_notN hNw HI.out o1)
      have HB := hid (HB.out.trans (o1.mono fun k hk => .inl hk))
      clear c1 o1
      go_wp2_with fail
      refine (KB.out _ HC.out 1000000000 (by decide) (by decide)).mono ?_
      rintro e w3 ⟨q, q0, q1, rfl, c1, o1⟩
      have HC := hid c1
      have HI := hid (Ints_notN hNw HI.out o1)
      have HB := hid (HB.out.trans (o1.mono fun k hk => .inl hk))
      have hN3 := CurE_lt c1
      clear c1 o1
      have HL := hid (Ints_lit7 (w := w3) (B := N + 1) (x1 := 0) (x2 := 1) (x3 := 2) (x4 := 999999999) (x5 := 500000000) (x6 := p) (x7 := q) (by omega))
      have HC := hid (CurE_alloc HC.out (.cells #[.int .i64 0, .int .i64 1, .int .i64 2, .int .i64 999999999, .int .i64 500000000, .int .i64 p, .int .i64 q] 3))
      have HI := hid (Ints_below HI.out (below_new (o := .cells #[.int .i64 0, .int .i64 1, .int .i64 2, .int .i64 999999999, .int .i64 500000000, .int .i64 p, .int .i64 q] 3)) (fun k hk => (Ints_lt HI.out k hk).2))
      have HB := hid (HB.out.alloc (.inr HB.out.size) (.cells #[.int .i64 0, .int .i64 1, .int .i64 2, .int .i64 999999999, .int .i64 500000000, .int .i64 p, .int .i64 q] 3))
      have HLIM := hid (fun z (h : z ∈ [0, 1, 2, 999999999, 500000000, p, q]) => lim7 ⟨p0, p1⟩ ⟨q0, q1⟩ h)
      go_wp2_with fail
      have hsz : w3.heap.size ≠ N := by omega
      generalize w3.alloc (.cells #[.int .i64 0, .int .i64 1, .int .i64 2, .int .i64 999999999, .int .i64 500000000, .int .i64 p, .int .i64 q] 3) = w4 at HL HC HI HB ⊢
      obtain ⟨g, hg⟩ : ∃ g, g = w3.heap.size := ⟨_, rfl⟩
      rw [← hg] at HL hsz ⊢
      clear hg hN3
      refine (KP.out _ HC.out g 7 [0, 1, 2, 999999999, 500000000, p, q] (by simp) (by simp) (fun i hi => Ints_cell HL.out hi) hsz).mono ?_
      rintro e w5 ⟨z, hz, rfl, c1, o1⟩
      have HZ := hid (HLIM.out z hz)
      have HC := hid c1
      have HI := hid (Ints_notN hNw HI.out o1)
      have HB := hid (HB.out.trans (o1.mono fun k hk => .inl hk))
      have hN5 := CurE_lt c1
      have hPl : P.length ≤ 4 := by omega
      have hs5 := HB.out.size
      clear c1 o1 hz HL
      go_wp2_with (at_builtin; refine wpList_append_own _ rfl _ _ 23 rfl w.heap.size 3 i3 (.int .i64 0) 1 8 Tryz.underlying23 hi3 hz0 hz1 hz2 rfl (by decide) _ _ _ rfl (World.ownsRow.alloc (show w5.ownsRow w.heap.size 3 1 u5 _ _ from HI.out) _) ⟨w5.heap.size, 0, none⟩ 1 1 [.int .i64 z] rfl rfl ?c1 ?c2 ?c3 ?c4 ?c5 ?_)
      any_goals (first | rfl | exact cell_one_new _ _ _ | (intro u hu; simp at hu; subst hu; rfl) | (unfold maxLen; omega) | omega | (simp; omega))
      intro v' w6 hown' hgrow _
      have hB6 : Below (N + 1) w5 w6 := ((Below.refl _ _).alloc (by omega) _).grown hgrow (by simp; omega) (fun k hk => by have := (Ints_lt HI.out k hk).1; omega)
      have hO6 : Only (fun k => k = N ∨ w.heap.size ≤ k) w5 w6 := ((Only.refl _ _).alloc (.inr hs5) _).grown hgrow (fun k hk => .inr (by simp at hk; omega)) (fun k hk => .inr (Ints_lt HI.out k hk).1)
      have R := hid (Ints_snoc hown')
      have HC := hid (CurE_below HC.out hB6 (by omega) (by omega) HU.out)
      have HB := hid (HB.out.trans hO6)
      clear hown' hgrow hB6 hO6 hs5
      go_wp2
      go_roundw
      case rel => exact ⟨k - 1, _, by omega, by simp; omega, rfl, R.out, hid (Lim_append hPL.out (Lim_one HZ.out.1 HZ.out.2)), HC.out, HB.out⟩
      case measure => simp [intOf]; omega
    · have hPl : P.length ≤ 4 := by omega
      go_wp2_with fail
      refine (l02Trim_own _ _ P (by omega) hPL.out wr HI.out).mono ?_
      rintro e w2 ⟨⟨u, rfl, hU, -⟩, rfl⟩
      have HUU := hid hU
      clear hU
      have hlen := hid (show ((rep (val P).toNat).length : Int) ≤ mst from by
        have h5 : (rep (val P).toNat).length ≤ P.length := (Can_len (Can_rep _)).2 (by
          rw [val_rep]
          have h1 := val_lt hPL.out
          have h3 := val_nonneg hPL.out
          omega)
        omega)
      go_wp2
      go_ret
      exact ⟨_, _, Can_rep _, hlen.out, rfl, HUU.out, HB.out⟩

/-- MakeNat's answer: a new number of at most four limbs. -/
def NatP (w : World) (e : Ending) (w' : World) : Prop := ∃ L, Can L ∧ L.length ≤ 4 ∧ OwnP L w e w'
end Go.Proofs.YtookglpeieennaaGreat

/- The draws of big integers: MakeWhole. -/
namespace Go.Proofs.YtookglpeieennaaGreat
open Go.RowKit
open Go.Lib (hid)
set_option linter.unusedVariables false

def OnceE (N : Nat) (a : Option Addr) (n c : Nat) (Z : List Int) (w : World) (e : Ending) (w' : World) : Prop :=
  ∃ b, e = .returned (.bool b) ∧ CurE w' N a n c Z ∧ Only (fun k => k = N) w w'
set_option maxRecDepth 100000 in
set_option maxHeartbeats 1600000 in
theorem onceE (N : Nat) (a : Option Addr) (n c : Nat) (Z : List Int) (m : Int) (hZ : Z.length ≤ 1048576) (w : World) (hc : CurE w N a n c Z) (hu : Under N a Z) (m0 : 0 < m) (m1 : m ≤ 1000000000) :
    Calls Tryz.prog 93 #[.pointer (some ⟨N, 0, none⟩), .int .i64 m] w (OnceE N a n c Z w) := by
  have K := hid (belowE N a n c Z m hZ w hc hu m0 m1)
  clear hc hu
  go_enter Tryz.func93, Tryz.ntmps93
  go_wp2_with fail
  (with_reducible refine K.out.mono ?_)
  rintro e w1 ⟨x, x0, x1, rfl, c1, o1⟩
  have C1 := hid c1
  have O1 := hid o1
  clear c1 o1
  go_wp2
  go_ret
  exact ⟨_, rfl, C1.out, O1.out⟩

def DrawW (N : Nat) (w : World) (e : Ending) (w' : World) : Prop := ∃ X u, -pw 3 < X ∧ X < pw 3 ∧ e = .returned (.agg #[.bool (gzs X), u]) ∧ Ints w' w.heap.size u (gzl X) ∧ Only (fun k => k = N ∨ w.heap.size ≤ k) w w'
theorem pw3_1000 : (1000 : Int) < pw 3 ∧ pw 3 < pw 60 := by decide
set_option maxRecDepth 100000 in
set_option maxHeartbeats 3200000 in
theorem l03Draw_made (N : Nat) (a : Option Addr) (n c : Nat) (Z : List Int) (mst : Int) (mst0 : 0 ≤ mst) (mst3 : mst ≤ 3) (hZ : Z.length ≤ 1048576) (w : World) (hc : CurE w N a n c Z) (hu : Under N a Z) :
    Calls Tryz.prog 91 #[.pointer (some ⟨N, 0, none⟩), .int .i64 mst] w (DrawW N w) := by
  have KB := hid (fun (W : World) (h : CurE W N a n c Z) (m : Int) m0 m1 => belowE N a n c Z m hZ W h hu m0 m1)
  have KO := hid (fun (W : World) (h : CurE W N a n c Z) (m : Int) m0 m1 => onceE N a n c Z m hZ W h hu m0 m1)
  have KN := hid (fun (W : World) (h : CurE W N a n c Z) => l02Nat_made N a n c Z mst mst0 (by omega) hZ W h hu)
  have hNw := CurE_lt hc
  have C0 := hid (CurE_alloc hc (.cells #[.bool false, .slice none 0 0] 25))
  have B0 := hid (show Only (fun k => k = N ∨ w.heap.size ≤ k) w (w.alloc (.cells #[.bool false, .slice none 0 0] 25)) from (Only.refl _ _).alloc (.inr (Nat.le_refl _)) _)
  have L0 := hid (Loc.new (w := w) (T := 25) (s := false) (v := .slice none 0 0))
  have hne : w.heap.size ≠ N := by omega
  clear hc hu
  go_enter Tryz.func91, Tryz.ntmps91
  go_wp2_with fail
  generalize w.alloc (.cells #[.bool false, .slice none 0 0] 25) = W at C0 B0 L0 ⊢
  (with_reducible refine (KO.out _ C0.out 3 (by decide) (by decide)).mono ?_)
  rintro e w1 ⟨bb, rfl, c1, o1⟩
  have C1 := hid c1
  have B1 := hid (B0.out.trans (o1.mono fun k hk => .inl hk))
  have L1 := hid (L0.out.only o1 hne)
  clear c1 o1
  cases bb
  · go_wp2_with fail
    (with_reducible refine (KO.out _ C1.out 2 (by decide) (by decide)).mono ?_)
    rintro e w2 ⟨sg, rfl, c1, o1⟩
    have C1 := hid c1
    have B1 := hid (B1.out.trans (o1.mono fun k hk => .inl hk))
    have L1 := hid (L1.out.only o1 hne)
    have hlt := L1.out.lt
    clear c1 o1
    go_wp2_with fail
    (with_reducible refine (KN.out _ C1.out).mono ?_)
    rintro e w3 ⟨L, v, hL, hl, rfl, iv, o1⟩
    have hV := hid (show 0 ≤ val L ∧ val L < pw 3 from ⟨val_nonneg hL.1, (Can_len hL).1 (by omega)⟩)
    have hX := hid (show -pw 3 < sval sg (val L) ∧ sval sg (val L) < pw 3 by have := hV.out; unfold sval; split <;> omega)
    have L1 := hid (L1.out.only o1 (by simp; omega))
    have B1 := hid (B1.out.trans (o1.mono fun k hk => hk.elim (fun h => .inl h) (fun h => .inr (by omega))))
    have KM := hid (fun (W : World) (B : Nat) (h : Ints W B v L) => l03Make_own sg B v L (by omega) hL.1 W h)
    have IV := hid iv
    have hs3 : w.heap.size < w3.heap.size := L1.out.lt
    obtain ⟨av, cv, rfl, -⟩ := Ints_form iv
    obtain ⟨X, hXX⟩ : ∃ X, X = sval sg (val L) := ⟨_, rfl⟩
    rw [← hXX] at hX KM
    clear hXX iv o1 hL hl
    go_wp2_with fail
    (with_reducible refine (KM.out _ _ IV.out).mono ?_)
    rintro e w4 ⟨r, rfl, ir, b1⟩
    have L1 := hid (L1.out.old b1)
    have B1 := hid (B1.out.trans (Only.of_below b1 fun k hk => .inr (by omega)))
    have n1 := L1.out.ne (by decide) ir
    have R := hid (show DrawW N w (.returned (.agg #[.bool (gzs X), r])) ((w4.setCell ⟨w.heap.size, 0, none⟩ (.bool (gzs X))).setCell ⟨w.heap.size, 1, none⟩ r) from
      ⟨X, r, hX.out.1, hX.out.2, rfl, Ints_base (Ints_set (Ints_set ir n1) n1) (Nat.le_of_lt hs3), (B1.out.setCell (.inr (Nat.le_refl _)) _).setCell (.inr (Nat.le_refl _)) _⟩)
    obtain ⟨gs, hgs⟩ : ∃ g, g = gzs X := ⟨_, rfl⟩
    rw [← hgs] at R ⊢
    obtain ⟨ar, cr, rfl, -⟩ := Ints_form ir
    have f0 := L1.out.f0 0
    have f1 := L1.out.f0 1
    have p0 := L1.out.c0
    have p1 := L1.out.c1
    have HG := hid hgs
    clear ir b1 n1 hgs
    go_wp2
    exact bodyPost_ret (v := .agg #[.bool gs, .slice ar (gzl X).length cr]) (by simp [results, Tryz.results91, go_sem, p0, p1]) rfl R.out
  · go_wp2_with fail
    (with_reducible refine (KB.out _ C1.out 2001 (by decide) (by decide)).mono ?_)
    rintro e w2 ⟨x, x0, x1, rfl, c1, o1⟩
    have B1 := hid (B1.out.trans (o1.mono fun k hk => .inl hk))
    have L1 := hid (L1.out.only o1 hne)
    have hs3 : w.heap.size < w2.heap.size := L1.out.lt
    clear c1 o1
    have hX := hid (show -pw 3 < x - 1000 ∧ x - 1000 < pw 3 by have := pw3_1000; omega)
    have KM := hid (fun (W : World) => spec_BigIntOf (x - 1000) (by omega) (by omega) W)
    go_wp2_with fail
    obtain ⟨X, hXX⟩ : ∃ X, X = x - 1000 := ⟨_, rfl⟩
    rw [← hXX] at hX KM ⊢
    clear hXX
    (with_reducible refine (KM.out _).mono ?_)
    rintro e w4 ⟨r, rfl, ir, b1⟩
    have L1 := hid (L1.out.old b1)
    have B1 := hid (B1.out.trans (Only.of_below b1 fun k hk => .inr (by omega)))
    have n1 := L1.out.ne (by decide) ir
    have R := hid (show DrawW N w (.returned (.agg #[.bool (gzs X), r])) ((w4.setCell ⟨w.heap.size, 0, none⟩ (.bool (gzs X))).setCell ⟨w.heap.size, 1, none⟩ r) from
      ⟨X, r, hX.out.1, hX.out.2, rfl, Ints_base (Ints_set (Ints_set ir n1) n1) (Nat.le_of_lt hs3), (B1.out.setCell (.inr (Nat.le_refl _)) _).setCell (.inr (Nat.le_refl _)) _⟩)
    obtain ⟨gs, hgs⟩ : ∃ g, g = gzs X := ⟨_, rfl⟩
    rw [← hgs] at R ⊢
    obtain ⟨ar, cr, rfl, -⟩ := Ints_form ir
    have f0 := L1.out.f0 0
    have f1 := L1.out.f0 1
    have p0 := L1.out.c0
    have p1 := L1.out.c1
    have HG := hid hgs
    clear ir b1 n1 hgs
    go_wp2
    exact bodyPost_ret (v := .agg #[.bool gs, .slice ar (gzl X).length cr]) (by simp [results, Tryz.results91, go_sem, p0, p1]) rfl R.out

/-- MakeWhole's answer: an integer of at most three limbs. -/
def WholeP (w : World) (e : Ending) (w' : World) : Prop := ∃ X u, -pw 3 < X ∧ X < pw 3 ∧ e = .returned (.agg #[.bool (gzs X), u]) ∧ Ints w' w.heap.size u (gzl X) ∧ Below w.heap.size w w'
end Go.Proofs.YtookglpeieennaaGreat

/- The draws of a number and of an integer, with the cursor that they leave. -/
namespace Go.Proofs.YtookglpeieennaaGreat
open Go.RowKit
open Go.Lib (hid)
set_option linter.unusedVariables false

def MadeE (mst : Int) (N : Nat) (a : Option Addr) (n c : Nat) (Z : List Int) (w : World) (e : Ending) (w' : World) : Prop := ∃ L v, Can L ∧ (L.length : Int) ≤ mst ∧ e = .returned v ∧ Ints w' w.heap.size v L ∧ CurE w' N a n c Z ∧ Only (fun k => k = N ∨ w.heap.size ≤ k) w w'
set_option maxRecDepth 100000 in
set_option maxHeartbeats 3200000 in
theorem l02Nat_madeE (N : Nat) (a : Option Addr) (n c : Nat) (Z : List Int) (mst : Int) (mst0 : 0 ≤ mst) (mst4 : mst ≤ 4) (hZ : Z.length ≤ 1048576) (w : World) (hc : CurE w N a n c Z) (hu : Under N a Z) :
    Calls Tryz.prog 94 #[.pointer (some ⟨N, 0, none⟩), .int .i64 mst] w (MadeE mst N a n c Z w) := by
  obtain ⟨i3, hi3, hz0, hz1, hz2⟩ := info_parts Tryz.info3
  have KB := hid (fun (W : World) (h : CurE W N a n c Z) (m : Int) m0 m1 => belowE N a n c Z m hZ W h hu m0 m1)
  have KP := hid (fun (W : World) (h : CurE W N a n c Z) (g d : Nat) (L : List Int) h0 h1 h2 h3 => pickE N a n c Z g d L hZ W h hu h0 h1 h2 h3)
  have HU := hid hu
  have C0 := hid (CurE_alloc hc (.cells #[] 3))
  have hNw := CurE_lt hc
  have I0 := hid (show Ints (w.alloc (.cells #[] 3)) w.heap.size (.slice (some ⟨w.heap.size, 0, none⟩) 0 0) [] from World.ownsRow_made w #[] 0 (by omega) (by decide) rfl)
  have B0 := hid (show Only (fun k => k = N ∨ w.heap.size ≤ k) w (w.alloc (.cells #[] 3)) from (Only.refl _ _).alloc (.inr (Nat.le_refl _)) _)
  clear hc hu
  go_enter Tryz.func94, Tryz.ntmps94
  go_wp2_with fail
  refine (KB.out _ C0.out (mst + 1) (by omega) (by omega)).mono ?_
  rintro e w1 ⟨x, x0, x1, rfl, c1, o1⟩
  have C1 := hid c1
  have I1 := hid (Ints_notN hNw I0.out o1)
  have B1 := hid (B0.out.trans (o1.mono fun k hk => .inl hk))
  clear c1 o1 C0 I0 B0
  go_wp2
  go_loopw [5, 6] (fun out z wr => ∃ (k : Int) (P : List Int), 0 ≤ k ∧ P.length + k ≤ mst ∧ z = .int .i64 k ∧ Ints wr w.heap.size out P ∧ Hid (Lim P) ∧ CurE wr N a n c Z ∧ Only (fun k => k = N ∨ w.heap.size ≤ k) w wr) (fun _ z _ => (intOf z).toNat)
  case atStart => exact ⟨x, [], x0, by simp; omega, rfl, I1.out, hid Lim_nil, C1.out, B1.out⟩
  case round =>
    clear I1 C1 B1
    obtain ⟨k, P, k0, hk, rfl, hI, hPL, hC, hB⟩ := hrel
    have HI := hid hI
    have HC := hid hC
    have HB := hid hB
    clear hI hC hB
    by_cases hk0 : 0 < k
    · go_wp2_with fail
      refine (KB.out _ HC.out 1000000000 (by decide) (by decide)).mono ?_
      rintro e w2 ⟨p, p0, p1, rfl, c1, o1⟩
      have HC := hid c1
      have HI := hid (Ints_notN hNw HI.out o1)
      have HB := hid (HB.out.trans (o1.mono fun k hk => .inl hk))
      clear c1 o1
      go_wp2_with fail
      refine (KB.out _ HC.out 1000000000 (by decide) (by decide)).mono ?_
      rintro e w3 ⟨q, q0, q1, rfl, c1, o1⟩
      have HC := hid c1
      have HI := hid (Ints_notN hNw HI.out o1)
      have HB := hid (HB.out.trans (o1.mono fun k hk => .inl hk))
      have hN3 := CurE_lt c1
      clear c1 o1
      have HL := hid (Ints_lit7 (w := w3) (B := N + 1) (x1 := 0) (x2 := 1) (x3 := 2) (x4 := 999999999) (x5 := 500000000) (x6 := p) (x7 := q) (by omega))
      have HC := hid (CurE_alloc HC.out (.cells #[.int .i64 0, .int .i64 1, .int .i64 2, .int .i64 999999999, .int .i64 500000000, .int .i64 p, .int .i64 q] 3))
      have HI := hid (Ints_below HI.out (below_new (o := .cells #[.int .i64 0, .int .i64 1, .int .i64 2, .int .i64 999999999, .int .i64 500000000, .int .i64 p, .int .i64 q] 3)) (fun k hk => (Ints_lt HI.out k hk).2))
      have HB := hid (HB.out.alloc (.inr HB.out.size) (.cells #[.int .i64 0, .int .i64 1, .int .i64 2, .int .i64 999999999, .int .i64 500000000, .int .i64 p, .int .i64 q] 3))
      have HLIM := hid (fun z (h : z ∈ [0, 1, 2, 999999999, 500000000, p, q]) => lim7 ⟨p0, p1⟩ ⟨q0, q1⟩ h)
      go_wp2_with fail
      have hsz : w3.heap.size ≠ N := by omega
      generalize w3.alloc (.cells #[.int .i64 0, .int .i64 1, .int .i64 2, .int .i64 999999999, .int .i64 500000000, .int .i64 p, .int .i64 q] 3) = w4 at HL HC HI HB ⊢
      obtain ⟨g, hg⟩ : ∃ g, g = w3.heap.size := ⟨_, rfl⟩
      rw [← hg] at HL hsz ⊢
      clear hg hN3
      refine (KP.out _ HC.out g 7 [0, 1, 2, 999999999, 500000000, p, q] (by simp) (by simp) (fun i hi => Ints_cell HL.out hi) hsz).mono ?_
      rintro e w5 ⟨z, hz, rfl, c1, o1⟩
      have HZ := hid (HLIM.out z hz)
      have HC := hid c1
      have HI := hid (Ints_notN hNw HI.out o1)
      have HB := hid (HB.out.trans (o1.mono fun k hk => .inl hk))
      have hN5 := CurE_lt c1
      have hPl : P.length ≤ 4 := by omega
      have hs5 := HB.out.size
      clear c1 o1 hz HL
      go_wp2_with (at_builtin; refine wpList_append_own _ rfl _ _ 23 rfl w.heap.size 3 i3 (.int .i64 0) 1 8 Tryz.underlying23 hi3 hz0 hz1 hz2 rfl (by decide) _ _ _ rfl (World.ownsRow.alloc (show w5.ownsRow w.heap.size 3 1 u5 _ _ from HI.out) _) ⟨w5.heap.size, 0, none⟩ 1 1 [.int .i64 z] rfl rfl ?c1 ?c2 ?c3 ?c4 ?c5 ?_)
      any_goals (first | rfl | exact cell_one_new _ _ _ | (intro u hu; simp at hu; subst hu; rfl) | (unfold maxLen; omega) | omega | (simp; omega))
      intro v' w6 hown' hgrow _
      have hB6 : Below (N + 1) w5 w6 := ((Below.refl _ _).alloc (by omega) _).grown hgrow (by simp; omega) (fun k hk => by have := (Ints_lt HI.out k hk).1; omega)
      have hO6 : Only (fun k => k = N ∨ w.heap.size ≤ k) w5 w6 := ((Only.refl _ _).alloc (.inr hs5) _).grown hgrow (fun k hk => .inr (by simp at hk; omega)) (fun k hk => .inr (Ints_lt HI.out k hk).1)
      have R := hid (Ints_snoc hown')
      have HC := hid (CurE_below HC.out hB6 (by omega) (by omega) HU.out)
      have HB := hid (HB.out.trans hO6)
      clear hown' hgrow hB6 hO6 hs5
      go_wp2
      go_roundw
      case rel => exact ⟨k - 1, _, by omega, by simp; omega, rfl, R.out, hid (Lim_append hPL.out (Lim_one HZ.out.1 HZ.out.2)), HC.out, HB.out⟩
      case measure => simp [intOf]; omega
    · have hPl : P.length ≤ 4 := by omega
      go_wp2_with fail
      refine (l02Trim_own _ _ P (by omega) hPL.out wr HI.out).mono ?_
      rintro e w2 ⟨⟨u, rfl, hU, -⟩, rfl⟩
      have HUU := hid hU
      clear hU
      have hlen := hid (show ((rep (val P).toNat).length : Int) ≤ mst from by
        have h5 : (rep (val P).toNat).length ≤ P.length := (Can_len (Can_rep _)).2 (by
          rw [val_rep]
          have h1 := val_lt hPL.out
          have h3 := val_nonneg hPL.out
          omega)
        omega)
      go_wp2
      go_ret
      exact ⟨_, _, Can_rep _, hlen.out, rfl, HUU.out, HC.out, HB.out⟩

def DrawWE (N : Nat) (a : Option Addr) (n c : Nat) (Z : List Int) (w : World) (e : Ending) (w' : World) : Prop := ∃ X u, -pw 3 < X ∧ X < pw 3 ∧ e = .returned (.agg #[.bool (gzs X), u]) ∧ Ints w' w.heap.size u (gzl X) ∧ CurE w' N a n c Z ∧ Only (fun k => k = N ∨ w.heap.size ≤ k) w w'
theorem CurE_set2 {w : World} {N b : Nat} {a : Option Addr} {n c : Nat} {Z : List Int} {x y : Value} (h : CurE w N a n c Z) (hb : N < b) (hu : Under N a Z) : CurE ((w.setCell ⟨b, 0, none⟩ x).setCell ⟨b, 1, none⟩ y) N a n c Z :=
  CurE_below h (((Below.refl (N + 1) w).setCell (p := ⟨b, 0, none⟩) (by show N + 1 ≤ b; omega) x).setCell (p := ⟨b, 1, none⟩) (by show N + 1 ≤ b; omega) y) (Nat.lt_succ_self _) (by have := CurE_lt h; omega) hu
theorem CurE_old {w w' : World} {N : Nat} {a : Option Addr} {n c : Nat} {Z : List Int} (h : CurE w N a n c Z) (hb : Below w.heap.size w w') (hu : Under N a Z) : CurE w' N a n c Z := CurE_below h hb (CurE_lt h) (Nat.le_refl _) hu
set_option maxRecDepth 100000 in
set_option maxHeartbeats 3200000 in
theorem l03Draw_madeE (N : Nat) (a : Option Addr) (n c : Nat) (Z : List Int) (mst : Int) (mst0 : 0 ≤ mst) (mst3 : mst ≤ 3) (hZ : Z.length ≤ 1048576) (w : World) (hc : CurE w N a n c Z) (hu : Under N a Z) :
    Calls Tryz.prog 91 #[.pointer (some ⟨N, 0, none⟩), .int .i64 mst] w (DrawWE N a n c Z w) := by
  have KB := hid (fun (W : World) (h : CurE W N a n c Z) (m : Int) m0 m1 => belowE N a n c Z m hZ W h hu m0 m1)
  have KO := hid (fun (W : World) (h : CurE W N a n c Z) (m : Int) m0 m1 => onceE N a n c Z m hZ W h hu m0 m1)
  have KN := hid (fun (W : World) (h : CurE W N a n c Z) => l02Nat_madeE N a n c Z mst mst0 (by omega) hZ W h hu)
  have hNw := CurE_lt hc
  have C0 := hid (CurE_alloc hc (.cells #[.bool false, .slice none 0 0] 25))
  have B0 := hid (show Only (fun k => k = N ∨ w.heap.size ≤ k) w (w.alloc (.cells #[.bool false, .slice none 0 0] 25)) from (Only.refl _ _).alloc (.inr (Nat.le_refl _)) _)
  have L0 := hid (Loc.new (w := w) (T := 25) (s := false) (v := .slice none 0 0))
  have hne : w.heap.size ≠ N := by omega
  have HU := hid hu
  clear hc hu
  go_enter Tryz.func91, Tryz.ntmps91
  go_wp2_with fail
  generalize w.alloc (.cells #[.bool false, .slice none 0 0] 25) = W at C0 B0 L0 ⊢
  (with_reducible refine (KO.out _ C0.out 3 (by decide) (by decide)).mono ?_)
  rintro e w1 ⟨bb, rfl, c1, o1⟩
  have C1 := hid c1
  have B1 := hid (B0.out.trans (o1.mono fun k hk => .inl hk))
  have L1 := hid (L0.out.only o1 hne)
  clear c1 o1
  cases bb
  · go_wp2_with fail
    (with_reducible refine (KO.out _ C1.out 2 (by decide) (by decide)).mono ?_)
    rintro e w2 ⟨sg, rfl, c1, o1⟩
    have C1 := hid c1
    have B1 := hid (B1.out.trans (o1.mono fun k hk => .inl hk))
    have L1 := hid (L1.out.only o1 hne)
    have hlt := L1.out.lt
    clear c1 o1
    go_wp2_with fail
    (with_reducible refine (KN.out _ C1.out).mono ?_)
    rintro e w3 ⟨L, v, hL, hl, rfl, iv, c1, o1⟩
    have C1 := hid c1
    have hV := hid (show 0 ≤ val L ∧ val L < pw 3 from ⟨val_nonneg hL.1, (Can_len hL).1 (by omega)⟩)
    have hX := hid (show -pw 3 < sval sg (val L) ∧ sval sg (val L) < pw 3 by have := hV.out; unfold sval; split <;> omega)
    have L1 := hid (L1.out.only o1 (by simp; omega))
    have B1 := hid (B1.out.trans (o1.mono fun k hk => hk.elim (fun h => .inl h) (fun h => .inr (by omega))))
    have KM := hid (fun (W : World) (B : Nat) (h : Ints W B v L) => l03Make_own sg B v L (by omega) hL.1 W h)
    have IV := hid iv
    have hs3 : w.heap.size < w3.heap.size := L1.out.lt
    obtain ⟨av, cv, rfl, -⟩ := Ints_form iv
    obtain ⟨X, hXX⟩ : ∃ X, X = sval sg (val L) := ⟨_, rfl⟩
    rw [← hXX] at hX KM
    clear hXX iv c1 o1 hL hl
    go_wp2_with fail
    (with_reducible refine (KM.out _ _ IV.out).mono ?_)
    rintro e w4 ⟨r, rfl, ir, b1⟩
    have C1 := hid (CurE_old C1.out b1 HU.out)
    have L1 := hid (L1.out.old b1)
    have B1 := hid (B1.out.trans (Only.of_below b1 fun k hk => .inr (by omega)))
    have n1 := L1.out.ne (by decide) ir
    have R := hid (show DrawWE N a n c Z w (.returned (.agg #[.bool (gzs X), r])) ((w4.setCell ⟨w.heap.size, 0, none⟩ (.bool (gzs X))).setCell ⟨w.heap.size, 1, none⟩ r) from
      ⟨X, r, hX.out.1, hX.out.2, rfl, Ints_base (Ints_set (Ints_set ir n1) n1) (Nat.le_of_lt hs3), CurE_set2 C1.out hNw HU.out, (B1.out.setCell (.inr (Nat.le_refl _)) _).setCell (.inr (Nat.le_refl _)) _⟩)
    obtain ⟨gs, hgs⟩ : ∃ g, g = gzs X := ⟨_, rfl⟩
    rw [← hgs] at R ⊢
    obtain ⟨ar, cr, rfl, -⟩ := Ints_form ir
    have f0 := L1.out.f0 0
    have f1 := L1.out.f0 1
    have p0 := L1.out.c0
    have p1 := L1.out.c1
    have HG := hid hgs
    clear ir b1 n1 hgs
    go_wp2
    exact bodyPost_ret (v := .agg #[.bool gs, .slice ar (gzl X).length cr]) (by simp [results, Tryz.results91, go_sem, p0, p1]) rfl R.out
  · go_wp2_with fail
    (with_reducible refine (KB.out _ C1.out 2001 (by decide) (by decide)).mono ?_)
    rintro e w2 ⟨x, x0, x1, rfl, c1, o1⟩
    have C1 := hid c1
    have B1 := hid (B1.out.trans (o1.mono fun k hk => .inl hk))
    have L1 := hid (L1.out.only o1 hne)
    have hs3 : w.heap.size < w2.heap.size := L1.out.lt
    clear c1 o1
    have hX := hid (show -pw 3 < x - 1000 ∧ x - 1000 < pw 3 by have := pw3_1000; omega)
    have KM := hid (fun (W : World) => spec_BigIntOf (x - 1000) (by omega) (by omega) W)
    go_wp2_with fail
    obtain ⟨X, hXX⟩ : ∃ X, X = x - 1000 := ⟨_, rfl⟩
    rw [← hXX] at hX KM ⊢
    clear hXX
    (with_reducible refine (KM.out _).mono ?_)
    rintro e w4 ⟨r, rfl, ir, b1⟩
    have C1 := hid (CurE_old C1.out b1 HU.out)
    have L1 := hid (L1.out.old b1)
    have B1 := hid (B1.out.trans (Only.of_below b1 fun k hk => .inr (by omega)))
    have n1 := L1.out.ne (by decide) ir
    have R := hid (show DrawWE N a n c Z w (.returned (.agg #[.bool (gzs X), r])) ((w4.setCell ⟨w.heap.size, 0, none⟩ (.bool (gzs X))).setCell ⟨w.heap.size, 1, none⟩ r) from
      ⟨X, r, hX.out.1, hX.out.2, rfl, Ints_base (Ints_set (Ints_set ir n1) n1) (Nat.le_of_lt hs3), CurE_set2 C1.out hNw HU.out, (B1.out.setCell (.inr (Nat.le_refl _)) _).setCell (.inr (Nat.le_refl _)) _⟩)
    obtain ⟨gs, hgs⟩ : ∃ g, g = gzs X := ⟨_, rfl⟩
    rw [← hgs] at R ⊢
    obtain ⟨ar, cr, rfl, -⟩ := Ints_form ir
    have f0 := L1.out.f0 0
    have f1 := L1.out.f0 1
    have p0 := L1.out.c0
    have p1 := L1.out.c1
    have HG := hid hgs
    clear ir b1 n1 hgs
    go_wp2
    exact bodyPost_ret (v := .agg #[.bool gs, .slice ar (gzl X).length cr]) (by simp [results, Tryz.results91, go_sem, p0, p1]) rfl R.out

end Go.Proofs.YtookglpeieennaaGreat
