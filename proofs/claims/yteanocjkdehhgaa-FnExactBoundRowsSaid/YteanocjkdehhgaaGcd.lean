/- The program's greatest common divisor. -/
import Derived.Test.YteanocjkdehhgaaTim
namespace Go.Proofs.Yteanocjkdehhgaa
open Go.RowKit
open Go.Lib (hid)
set_option linter.unusedVariables false

/-- The greatest common divisor of two numbers that are not negative. -/
def G (x y : Int) : Int := (Nat.gcd x.toNat y.toNat : Nat)
theorem G_nonneg (x y : Int) : 0 ≤ G x y := by unfold G; omega
theorem G_rec {x y : Int} (hx : 0 ≤ x) (hy : 0 < y) : G y (x % y) = G x y := by
  unfold G
  rw [Int.toNat_emod hx (by omega), Nat.gcd_comm y.toNat, ← Nat.gcd_rec, Nat.gcd_comm]
theorem G_zero {x : Int} (hx : 0 ≤ x) : G x 0 = x := by
  unfold G
  rw [show (0 : Int).toNat = 0 from rfl, Nat.gcd_zero_right]; omega
theorem G_mul {x y z : Int} (hx : 0 ≤ x) (hy : 0 ≤ y) (hz : 0 ≤ z) : G (x * z) (y * z) = G x y * z := by
  unfold G
  rw [Int.toNat_mul hx hz, Int.toNat_mul hy hz, Nat.gcd_mul_right]
  push_cast
  rw [Int.toNat_of_nonneg hz]
theorem G_eq_zero {x y : Int} (hx : 0 ≤ x) (hy : 0 ≤ y) : G x y = 0 ↔ x = 0 ∧ y = 0 := by
  unfold G
  constructor
  · intro h
    have h2 : Nat.gcd x.toNat y.toNat = 0 := by omega
    rw [Nat.gcd_eq_zero_iff] at h2
    omega
  · rintro ⟨rfl, rfl⟩; rfl
theorem G_left {x y : Int} (hx : 0 ≤ x) : x % G x y = 0 := by
  apply Int.emod_eq_zero_of_dvd
  unfold G
  have h := Nat.gcd_dvd_left x.toNat y.toNat
  have h2 : ((Nat.gcd x.toNat y.toNat : Nat) : Int) ∣ (x.toNat : Int) := Int.natCast_dvd_natCast.2 h
  rwa [Int.toNat_of_nonneg hx] at h2
theorem G_right {x y : Int} (hy : 0 ≤ y) : y % G x y = 0 := by
  apply Int.emod_eq_zero_of_dvd
  unfold G
  have h := Nat.gcd_dvd_right x.toNat y.toNat
  have h2 : ((Nat.gcd x.toNat y.toNat : Nat) : Int) ∣ (y.toNat : Int) := Int.natCast_dvd_natCast.2 h
  rwa [Int.toNat_of_nonneg hy] at h2
theorem G_le {x y : Int} (hx : 0 ≤ x) (hy : 0 ≤ y) {P : Int} (h1 : x < P) (h2 : y < P) : G x y < P := by
  by_cases h : x = 0
  · subst h
    have : G 0 y = y := by
      unfold G
      rw [show (0 : Int).toNat = 0 from rfl, Nat.gcd_zero_left]; omega
    omega
  · have : Nat.gcd x.toNat y.toNat ≤ x.toNat := Nat.gcd_le_left _ (by omega)
    unfold G
    omega
def gcdR (A B : List Int) : List Int := if nok A && nok B then rep (G (val A) (val B)).toNat else []
theorem gcdR_no {A B : List Int} (h : nok A = false ∨ nok B = false) : gcdR A B = [] := by
  unfold gcdR; rcases h with h | h <;> simp [h]
theorem gcdR_yes {A B : List Int} (h : nok A = true) (h' : nok B = true) : gcdR A B = rep (G (val A) (val B)).toNat := by simp [gcdR, h, h']

set_option maxRecDepth 100000 in
set_option maxHeartbeats 800000 in
theorem intGcd_any (a b : Int) (ha : 0 ≤ a) (hb : 0 ≤ b) (ha1 : a ≤ 9223372036854775807) (hb1 : b ≤ 9223372036854775807) (w : World) :
    Calls Try.prog 156 #[.int .i64 a, .int .i64 b] w (Drew (.int .i64 (G a b)) w) := by
  obtain ⟨g, hg⟩ : ∃ g, g = G a b := ⟨_, rfl⟩
  have HG := hid hg.symm
  rw [← hg]
  clear hg
  have S0 := hid (show 0 ≤ a ∧ 0 ≤ b ∧ a ≤ 9223372036854775807 ∧ b ≤ 9223372036854775807 from ⟨ha, hb, ha1, hb1⟩)
  clear ha hb ha1 hb1
  go_enter Try.func156, Try.ntmps156
  go_wp2
  go_loopw [0, 1] (fun x y wr => ∃ (p q : Int) (d : Nat), x = .int .i64 p ∧ y = .int .i64 q ∧ Hid (0 ≤ p ∧ 0 ≤ q ∧ p ≤ 9223372036854775807 ∧ q ≤ 9223372036854775807) ∧ Hid (G p q = g) ∧ wr = w.drewN d) (fun _ y _ => (intOf y).toNat)
  case atStart => exact ⟨a, b, 0, rfl, rfl, S0, HG, rfl⟩
  case round =>
    obtain ⟨p, q, d, rfl, rfl, hs, hgg, rfl⟩ := hrel
    obtain ⟨p0, q0, p1, q1⟩ := hs.out
    by_cases hq : q = 0
    · have hE := hid (show g = p by rw [← hgg.out, hq]; exact (G_zero p0))
      subst hq
      go_wp2
      go_ret
      exact ⟨ret_int hE.out.symm, d, rfl⟩
    · have hqb : (q != 0) = true := by simpa using hq
      have HS := hid (G_rec p0 (show 0 < q by omega))
      have m0 := Int.emod_nonneg p hq
      have m1 := Int.emod_lt_of_pos p (show 0 < q by omega)
      have et : p.tmod q = p % q := Int.tmod_eq_emod_of_nonneg p0
      obtain ⟨m, hm⟩ : ∃ m, m = p % q := ⟨_, rfl⟩
      rw [← hm] at HS m0 m1 et
      have em : p % q = m := hm.symm
      have wm : IntKind.i64.wrap m = m := IntWalk.i64_in _ (by omega)
      clear hm
      go_wp2
      go_quiet (fail)
      go_wp2
      go_roundw
      case rel => exact ⟨q, m, d + nq, rfl, rfl, hid ⟨q0, m0, q1, by omega⟩, hid (HS.out.trans hgg.out), by first | rfl | exact World.drewN_drewN _ _ _⟩
      case measure => simp [intOf]; omega

/-- What the number in block N is. -/
def listAt (w : World) : Value → List Int
  | .slice (some a) n _ => (List.range n).map fun i => match w.cell? ⟨a.block, i, none⟩ with | some (.int _ z) => z | _ => 0
  | _ => []
def natAt (w : World) (N : Nat) : Int := match w.cell? ⟨N, 0, none⟩ with | some v => val (listAt w v) | none => 0
theorem natAt_is {w : World} {S : Nat → Prop} {N : Nat} {v : Value} {L : List Int} (h : IsNat natQ w S N v L) : natAt w N = val L := by
  have hc := h.cell
  have e : listAt w v = L := by
    rcases Ints_cases h.ints with ⟨rfl, rfl⟩ | ⟨g, c, rfl, -, -, -⟩
    · rfl
    · apply List.ext_getElem
      · simp [listAt]
      · intro i h1 h2
        have := Ints_cell h.ints h2
        simp [listAt, this]
  simp only [natAt, hc, e]
def ptrOf : Value → Nat | .pointer (some a) => a.block | _ => 0

/-- Two numbers that lie apart. -/
structure Two (w : World) (h : Nat) (N1 N2 : Nat) (v1 v2 : Value) (X Y : List Int) : Prop where
  a : IsNat natQ w (fun k => h ≤ k) N1 v1 X
  b : IsNat natQ w (fun k => h ≤ k) N2 v2 Y
  ne : N1 ≠ N2
  apart : ∀ k, v1.ownBlock = some k → v2.ownBlock ≠ some k
theorem Two.swap {w : World} {h N1 N2 : Nat} {v1 v2 : Value} {X Y : List Int} (t : Two w h N1 N2 v1 v2 X Y) : Two w h N2 N1 v2 v1 Y X :=
  ⟨t.b, t.a, t.ne.symm, fun k h1 h2 => t.apart k h2 h1⟩
/-- The blocks that a method of the first number may change. -/
def Mine (w : World) (N : Nat) (v : Value) (k : Nat) : Prop := k = N ∨ v.ownBlock = some k ∨ w.heap.size ≤ k
theorem Two.step {w w' : World} {h N1 N2 : Nat} {v1 v2 v1' : Value} {X Y X' : List Int} (t : Two w h N1 N2 v1 v2 X Y) (hh : h ≤ w.heap.size) (hn : IsNat natQ w' (Mine w N1 v1) N1 v1' X') (ho : Only (Mine w N1 v1) w w') : Two w' h N1 N2 v1' v2 X' Y := by
  have n2 : ¬ Mine w N1 v1 N2 := by
    rintro (e | e | e)
    · exact t.ne e.symm
    · exact Ints_ne t.a.ints t.b.cell1 e
    · have := t.b.lt; omega
  have s2 : ∀ k, v2.ownBlock = some k → ¬ Mine w N1 v1 k := by
    intro k hk
    rintro (e | e | e)
    · subst e; exact Ints_ne t.b.ints t.a.cell1 hk
    · exact t.apart k e hk
    · have := (Ints_lt t.b.ints k hk).2; omega
  have up : ∀ k, Mine w N1 v1 k → h ≤ k := by
    rintro k (e | e | e)
    · subst e; exact t.a.mine
    · exact t.a.own k e
    · omega
  exact ⟨hn.sub (up _ hn.mine) fun k hk => up k (hn.own k hk), t.b.only ho n2 s2, t.ne, fun k hk hk2 => s2 k hk2 (hn.own k hk)⟩
theorem Two.drewN {w : World} {h N1 N2 : Nat} {v1 v2 : Value} {X Y : List Int} (t : Two w h N1 N2 v1 v2 X Y) (d : Nat) : Two (w.drewN d) h N1 N2 v1 v2 X Y := ⟨t.a.drewN d, t.b.drewN d, t.ne, t.apart⟩
theorem Two.make {w w1 w2 : World} {N1 N2 : Nat} {v1 v2 : Value} {X Y : List Int} (h1 : IsNat natQ w1 (fun k => w.heap.size ≤ k) N1 v1 X) (b1 : Below w.heap.size w w1) (h2 : IsNat natQ w2 (fun k => w1.heap.size ≤ k) N2 v2 Y) (b2 : Below w1.heap.size w1 w2) : Two w2 w.heap.size N1 N2 v1 v2 X Y := by
  have hs := b1.size
  refine ⟨h1.old b2, h2.sub (Nat.le_trans hs h2.mine) fun k hk => Nat.le_trans hs (h2.own k hk), ?_, ?_⟩
  · have a := h1.lt
    have b : w1.heap.size ≤ N2 := h2.mine
    omega
  · intro k hk hk2
    have a := (Ints_lt h1.ints k hk).2
    have b : w1.heap.size ≤ k := h2.own k hk2
    omega
theorem small_int {L : List Int} (h : Can L) (hl : L.length ≤ 2) : 0 ≤ val L ∧ val L ≤ 9223372036854775807 := by
  have h1 := val_lt h.1
  have h2 := pw_le hl
  have h3 := val_nonneg h.1
  have e : pw 2 = 1000000000000000000 := by decide
  omega
end Go.Proofs.Yteanocjkdehhgaa
