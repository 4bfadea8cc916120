/- The draws of big integers: MakeWhole. -/
import Derived.Test.YtleechafachkaaaDoorMk
import Derived.Test.YtleechafachkaaaDoorSn
namespace Go.Proofs.YtleechafachkaaaDoor
open Go.RowKit
open Go.Lib (hid)
set_option linter.unusedVariables false

def OnceE (N : Nat) (a : Option Addr) (n c : Nat) (Z : List Int) (w : World) (e : Ending) (w' : World) : Prop :=
  ∃ b, e = .returned (.bool b) ∧ CurE w' N a n c Z ∧ Only (fun k => k = N) w w'
set_option maxRecDepth 100000 in
set_option maxHeartbeats 1600000 in
theorem onceE (N : Nat) (a : Option Addr) (n c : Nat) (Z : List Int) (m : Int) (hZ : Z.length ≤ 1048576) (w : World) (hc : CurE w N a n c Z) (hu : Under N a Z) (m0 : 0 < m) (m1 : m ≤ 1000000000) :
    Calls Tryd.prog 55 #[.pointer (some ⟨N, 0, none⟩), .int .i64 m] w (OnceE N a n c Z w) := by
  have K := hid (belowE N a n c Z m hZ w hc hu m0 m1)
  clear hc hu
  go_enter Tryd.func55, Tryd.ntmps55
  go_wp2_with fail
  (with_reducible refine K.out.mono ?_)
  rintro e w1 ⟨x, x0, x1, rfl, c1, o1⟩
  have C1 := hid c1
  have O1 := hid o1
  clear c1 o1
  go_wp2
  go_ret
  exact ⟨_, rfl, C1.out, O1.out⟩

def DrawW (N : Nat) (w : World) (e : Ending) (w' : World) : Prop := ∃ X u, -pw 3 < X ∧ X < pw 3 ∧ e = .returned (.agg #[.bool (gzs X), u]) ∧ Ints w' w.heap.size u (gzl X) ∧ Only (fun k => k = N ∨ w.heap.size ≤ k) w w'
theorem pw3_1000 : (1000 : Int) < pw 3 ∧ pw 3 < pw 60 := by decide
set_option maxRecDepth 100000 in
set_option maxHeartbeats 3200000 in
theorem l03Draw_made (N : Nat) (a : Option Addr) (n c : Nat) (Z : List Int) (hZ : Z.length ≤ 1048576) (w : World) (hc : CurE w N a n c Z) (hu : Under N a Z) :
    Calls Tryd.prog 30 #[.pointer (some ⟨N, 0, none⟩), .int .i64 3] w (DrawW N w) := by
  have KB := hid (fun (W : World) (h : CurE W N a n c Z) (m : Int) m0 m1 => belowE N a n c Z m hZ W h hu m0 m1)
  have KO := hid (fun (W : World) (h : CurE W N a n c Z) (m : Int) m0 m1 => onceE N a n c Z m hZ W h hu m0 m1)
  have KN := hid (fun (W : World) (h : CurE W N a n c Z) => l02Nat_made N a n c Z 3 (by decide) (by decide) hZ W h hu)
  have hNw := CurE_lt hc
  have C0 := hid (CurE_alloc hc (.cells #[.bool false, .slice none 0 0] 25))
  have B0 := hid (show Only (fun k => k = N ∨ w.heap.size ≤ k) w (w.alloc (.cells #[.bool false, .slice none 0 0] 25)) from (Only.refl _ _).alloc (.inr (Nat.le_refl _)) _)
  have L0 := hid (Loc.new (w := w) (T := 25) (s := false) (v := .slice none 0 0))
  have hne : w.heap.size ≠ N := by omega
  clear hc hu
  go_enter Tryd.func30, Tryd.ntmps30
  go_wp2_with fail
  generalize w.alloc (.cells #[.bool false, .slice none 0 0] 25) = W at C0 B0 L0 ⊢
  (with_reducible refine (KO.out _ C0.out 3 (by decide) (by decide)).mono ?_)
  rintro e w1 ⟨bb, rfl, c1, o1⟩
  have C1 := hid c1
  have B1 := hid (B0.out.trans (o1.mono fun k hk => .inl hk))
  have L1 := hid (L0.out.only o1 hne)
  clear c1 o1
  cases bb
  · go_wp2_with fail
    (with_reducible refine (KO.out _ C1.out 2 (by decide) (by decide)).mono ?_)
    rintro e w2 ⟨sg, rfl, c1, o1⟩
    have C1 := hid c1
    have B1 := hid (B1.out.trans (o1.mono fun k hk => .inl hk))
    have L1 := hid (L1.out.only o1 hne)
    have hlt := L1.out.lt
    clear c1 o1
    go_wp2_with fail
    (with_reducible refine (KN.out _ C1.out).mono ?_)
    rintro e w3 ⟨L, v, hL, hl, rfl, iv, o1⟩
    have hV := hid (show 0 ≤ val L ∧ val L < pw 3 from ⟨val_nonneg hL.1, (Can_len hL).1 (by omega)⟩)
    have hX := hid (show -pw 3 < sval sg (val L) ∧ sval sg (val L) < pw 3 by have := hV.out; unfold sval; split <;> omega)
    have L1 := hid (L1.out.only o1 (by simp; omega))
    have B1 := hid (B1.out.trans (o1.mono fun k hk => hk.elim (fun h => .inl h) (fun h => .inr (by omega))))
    have KM := hid (fun (W : World) (B : Nat) (h : Ints W B v L) => l03Make_own sg B v L (by omega) hL.1 W h)
    have IV := hid iv
    have hs3 : w.heap.size < w3.heap.size := L1.out.lt
    obtain ⟨av, cv, rfl, -⟩ := Ints_form iv
    obtain ⟨X, hXX⟩ : ∃ X, X = sval sg (val L) := ⟨_, rfl⟩
    rw [← hXX] at hX KM
    clear hXX iv o1 hL hl
    go_wp2_with fail
    (with_reducible refine (KM.out _ _ IV.out).mono ?_)
    rintro e w4 ⟨r, rfl, ir, b1⟩
    have L1 := hid (L1.out.old b1)
    have B1 := hid (B1.out.trans (Only.of_below b1 fun k hk => .inr (by omega)))
    have n1 := L1.out.ne (by decide) ir
    have R := hid (show DrawW N w (.returned (.agg #[.bool (gzs X), r])) ((w4.setCell ⟨w.heap.size, 0, none⟩ (.bool (gzs X))).setCell ⟨w.heap.size, 1, none⟩ r) from
      ⟨X, r, hX.out.1, hX.out.2, rfl, Ints_base (Ints_set (Ints_set ir n1) n1) (Nat.le_of_lt hs3), (B1.out.setCell (.inr (Nat.le_refl _)) _).setCell (.inr (Nat.le_refl _)) _⟩)
    obtain ⟨gs, hgs⟩ : ∃ g, g = gzs X := ⟨_, rfl⟩
    rw [← hgs] at R ⊢
    obtain ⟨ar, cr, rfl, -⟩ := Ints_form ir
    have f0 := L1.out.f0 0
    have f1 := L1.out.f0 1
    have p0 := L1.out.c0
    have p1 := L1.out.c1
    have HG := hid hgs
    clear ir b1 n1 hgs
    go_wp2
    exact bodyPost_ret (v := .agg #[.bool gs, .slice ar (gzl X).length cr]) (by simp [results, Tryd.results30, go_sem, p0, p1]) rfl R.out
  · go_wp2_with fail
    (with_reducible refine (KB.out _ C1.out 2001 (by decide) (by decide)).mono ?_)
    rintro e w2 ⟨x, x0, x1, rfl, c1, o1⟩
    have B1 := hid (B1.out.trans (o1.mono fun k hk => .inl hk))
    have L1 := hid (L1.out.only o1 hne)
    have hs3 : w.heap.size < w2.heap.size := L1.out.lt
    clear c1 o1
    have hX := hid (show -pw 3 < x - 1000 ∧ x - 1000 < pw 3 by have := pw3_1000; omega)
    have KM := hid (fun (W : World) => spec_BigIntOf (x - 1000) (by omega) (by omega) W)
    go_wp2_with fail
    obtain ⟨X, hXX⟩ : ∃ X, X = x - 1000 := ⟨_, rfl⟩
    rw [← hXX] at hX KM ⊢
    clear hXX
    (with_reducible refine (KM.out _).mono ?_)
    rintro e w4 ⟨r, rfl, ir, b1⟩
    have L1 := hid (L1.out.old b1)
    have B1 := hid (B1.out.trans (Only.of_below b1 fun k hk => .inr (by omega)))
    have n1 := L1.out.ne (by decide) ir
    have R := hid (show DrawW N w (.returned (.agg #[.bool (gzs X), r])) ((w4.setCell ⟨w.heap.size, 0, none⟩ (.bool (gzs X))).setCell ⟨w.heap.size, 1, none⟩ r) from
      ⟨X, r, hX.out.1, hX.out.2, rfl, Ints_base (Ints_set (Ints_set ir n1) n1) (Nat.le_of_lt hs3), (B1.out.setCell (.inr (Nat.le_refl _)) _).setCell (.inr (Nat.le_refl _)) _⟩)
    obtain ⟨gs, hgs⟩ : ∃ g, g = gzs X := ⟨_, rfl⟩
    rw [← hgs] at R ⊢
    obtain ⟨ar, cr, rfl, -⟩ := Ints_form ir
    have f0 := L1.out.f0 0
    have f1 := L1.out.f0 1
    have p0 := L1.out.c0
    have p1 := L1.out.c1
    have HG := hid hgs
    clear ir b1 n1 hgs
    go_wp2
    exact bodyPost_ret (v := .agg #[.bool gs, .slice ar (gzl X).length cr]) (by simp [results, Tryd.results30, go_sem, p0, p1]) rfl R.out

/-- MakeWhole's answer: an integer of at most three limbs. -/
def WholeP (w : World) (e : Ending) (w' : World) : Prop := ∃ X u, -pw 3 < X ∧ X < pw 3 ∧ e = .returned (.agg #[.bool (gzs X), u]) ∧ Ints w' w.heap.size u (gzl X) ∧ Below w.heap.size w w'
set_option maxRecDepth 100000 in
set_option maxHeartbeats 3200000 in
theorem MakeWhole_any (a : Option Addr) (n c : Nat) (Z : List Int) (t : Int) (hZ : Z.length ≤ 1048576) (w : World) (hr : ByteRow w a n Z) (t0 : 0 ≤ t) (t1 : t ≤ 1000) :
    Calls Tryd.prog 7 #[.slice a n c, .int .i64 t] w (WholeP w) := by
  have B0 := hid (below_new' (w := w) (o := .cells #[.bool false, .slice none 0 0] 25))
  have L0 := hid (Loc.new (w := w) (T := 25) (s := false) (v := .slice none 0 0))
  have HR := hid (ByteRow_below hr B0.out)
  have HR0 := hid hr
  have K := hid (fun (W : World) (h : ByteRow W a n Z) => l01New_any a n c Z hZ W h)
  have hh := hashTo_le hZ (min Z.length 4000)
  obtain ⟨h, hhe⟩ : ∃ h, h = hashed Z := ⟨_, rfl⟩
  have HH := hid hhe
  change 0 ≤ hashed Z ∧ hashed Z ≤ 1073741824 at hh
  rw [← hhe] at hh
  clear hhe hr
  go_enter Tryd.func7, Tryd.ntmps7
  go_wp2_with fail
  have hlt := L0.out.lt
  generalize w.alloc (.cells #[.bool false, .slice none 0 0] 25) = W at B0 L0 HR hlt ⊢
  (with_reducible refine (K.out _ HR.out).mono ?_)
  rintro e w1 ⟨rfl, rfl⟩
  rw [← HH.out]
  go_wp2_with fail
  have hb0 : Below W.heap.size W (W.alloc (.cells #[.slice a n c, .int .i64 0, .int .i64 (h + t)] 52)) := (Below.refl _ _).alloc (Nat.le_refl _) _
  have HC := hid (show CurE (W.alloc (.cells #[.slice a n c, .int .i64 0, .int .i64 (h + t)] 52)) W.heap.size a n c Z from ⟨ByteRow_below HR.out hb0, 0, h + t, Nat.zero_le _, by unfold IsCur; exact heap_alloc_new W _⟩)
  have HU := hid (show Under W.heap.size a Z from fun g o e h0 => by
    obtain ⟨g', o', e', hg, _⟩ := HR.out.2.2 h0
    rw [e] at e'
    simp at e'
    omega)
  have HB := hid (B0.out.trans (hb0.mono B0.out.size))
  have L1 := hid (L0.out.old hb0)
  have hs2 : W.heap.size < (W.alloc (.cells #[.slice a n c, .int .i64 0, .int .i64 (h + t)] 52)).heap.size := by simp
  clear hb0
  (with_reducible refine (l03Draw_made W.heap.size a n c Z hZ _ HC.out HU.out).mono ?_)
  rintro e w2 ⟨X, r, hX1, hX2, rfl, ir, o1⟩
  have hX := hid (And.intro hX1 hX2)
  have L1 := hid (L1.out.only o1 (by simp; omega))
  have B1 := hid (HB.out.trans (o1.below (B := w.heap.size) fun k hk hs => by simp at hs; omega))
  have n1 := L1.out.ne (by decide) ir
  have R := hid (show WholeP w (.returned (.agg #[.bool (gzs X), r])) ((w2.setCell ⟨w.heap.size, 0, none⟩ (.bool (gzs X))).setCell ⟨w.heap.size, 1, none⟩ r) from
    ⟨X, r, hX.out.1, hX.out.2, rfl, Ints_base (Ints_set (Ints_set ir n1) n1) (by simp; omega), (B1.out.setCell (Nat.le_refl _) _).setCell (Nat.le_refl _) _⟩)
  obtain ⟨gs, hgs⟩ : ∃ g, g = gzs X := ⟨_, rfl⟩
  rw [← hgs] at R ⊢
  obtain ⟨ar, cr, rfl, -⟩ := Ints_form ir
  have f0 := L1.out.f0 0
  have f1 := L1.out.f0 1
  have p0 := L1.out.c0
  have p1 := L1.out.c1
  have HG := hid hgs
  clear ir o1 n1 hgs hX1 hX2 hs2
  go_wp2
  exact bodyPost_ret (v := .agg #[.bool gs, .slice ar (gzl X).length cr]) (by simp [results, Tryd.results7, go_sem, p0, p1]) rfl R.out
end Go.Proofs.YtleechafachkaaaDoor
