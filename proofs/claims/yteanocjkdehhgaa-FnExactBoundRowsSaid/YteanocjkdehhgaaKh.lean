/- Has a column an upper bound: the program and the reference. -/
import Derived.Test.YteanocjkdehhgaaKcc
import Derived.Deep.RegionHeld3
namespace Go.Proofs.Yteanocjkdehhgaa
open Go.RowKit
open Go.Lib (hid)
set_option linter.unusedVariables false

def hasU (z : Bool) (F G : List Int) : Bool := !((z == false) && decide (F = []) && decide (G = []))
theorem RL_zero (w : World) : RL w (.slice none 0 0) (.slice none 0 0) [] [] := ⟨⟨0, Ints_nil _ _⟩, ⟨0, Ints_nil _ _⟩, Nat.zero_le _, Nat.zero_le _⟩
theorem ROw.rl {w : World} {v u : Value} {A D : List Int} {lo hi : Nat} (h : ROw w v u A D lo hi) (la : A.length ≤ 1048576) (ld : D.length ≤ 1048576) : RL w v u A D := ⟨⟨_, h.a.ints⟩, ⟨_, h.d.ints⟩, la, ld⟩
theorem ClW.rlh {w : World} {v u x y : Value} {A D F G : List Int} (h : ClW w v u x y A D F G) (la : F.length ≤ 1048576) (ld : G.length ≤ 1048576) : RL w x y F G := by
  obtain ⟨-, _, _, h2⟩ := h
  exact h2.rl la ld
theorem ClW.rll {w : World} {v u x y : Value} {A D F G : List Int} (h : ClW w v u x y A D F G) (la : A.length ≤ 1048576) (ld : D.length ≤ 1048576) : RL w v u A D := by
  obtain ⟨⟨_, _, h2⟩, -⟩ := h
  exact h2.rl la ld
set_option maxRecDepth 100000 in
set_option maxHeartbeats 6400000 in
theorem impl_HasUpper (n : ByteArray) (s z b : Bool) {v u x y : Value} {A D F G : List Int} (hF : F.length ≤ 1048576) (hG : G.length ≤ 1048576) (w : World) (h : ClW w v u x y A D F G) :
    Calls Try.prog 13 #[.agg #[.string n, .bool s, v, u, .bool z, x, y, .bool b]] w (RetB (.bool (hasU z F G)) w) := by
  obtain ⟨a1, c1, b1, d1, e1, f1, i1, j1, rfl, rfl, rfl, rfl⟩ := h.form
  have B := hid (below_new' (w := w) (o := .cells #[.string n, .bool s, .slice a1 A.length c1, .slice b1 D.length d1, .bool z, .slice e1 F.length f1, .slice i1 G.length j1, .bool b] 35))
  have L1 := hid (LocA.new (w := w) (T := 35) (cs := #[.string n, .bool s, .slice a1 A.length c1, .slice b1 D.length d1, .bool z, .slice e1 F.length f1, .slice i1 G.length j1, .bool b]))
  have H := hid ((h.rlh hF hG).old B.out)
  have KE := hid (fun (W : World) (g : RL W (.slice e1 F.length f1) (.slice i1 G.length j1) F G) => impl_RatEqual z false _ _ _ _ _ _ _ _ W g (RL_zero W))
  obtain ⟨RE, hRE⟩ : ∃ R, R = ((z == false) && decide (F = []) && decide (G = [])) := ⟨_, rfl⟩
  have HRE := hid hRE
  rw [← hRE] at KE
  clear h hRE
  go_enter Try.func13, Try.ntmps13
  go_wp2_with fail
  generalize w.alloc (.cells #[.string n, .bool s, .slice a1 A.length c1, .slice b1 D.length d1, .bool z, .slice e1 F.length f1, .slice i1 G.length j1, .bool b] 35) = W at B L1 H ⊢
  (with_reducible refine (KE.out _ H.out).mono ?_)
  rintro e w1 ⟨rfl, g1⟩
  have B := hid (B.out.trans (g1.mono B.out.size))
  clear g1
  go_wp2
  go_ret
  exact ⟨bool_retK (by rw [hasU, ← HRE.out]), B.out⟩
set_option maxRecDepth 100000 in
set_option maxHeartbeats 6400000 in
theorem spec_HasUpper (n : ByteArray) (s z b : Bool) {v u x y : Value} {A D F G : List Int} (hF : F.length ≤ 1048576) (hG : G.length ≤ 1048576) (w : World) (h : ClW w v u x y A D F G) :
    Calls Try.prog 11 #[.agg #[.string n, .bool s, v, u, .bool z, x, y, .bool b]] w (RetB (.bool (hasU z F G)) w) := by
  obtain ⟨a1, c1, b1, d1, e1, f1, i1, j1, rfl, rfl, rfl, rfl⟩ := h.form
  have B := hid (below_new' (w := w) (o := .cells #[.string n, .bool s, .slice a1 A.length c1, .slice b1 D.length d1, .bool z, .slice e1 F.length f1, .slice i1 G.length j1, .bool b] 35))
  have L1 := hid (LocA.new (w := w) (T := 35) (cs := #[.string n, .bool s, .slice a1 A.length c1, .slice b1 D.length d1, .bool z, .slice e1 F.length f1, .slice i1 G.length j1, .bool b]))
  have H := hid ((h.rlh hF hG).old B.out)
  have KE := hid (fun (W : World) (g : RL W (.slice e1 F.length f1) (.slice i1 G.length j1) F G) => spec_RatEqual z false _ _ _ _ _ _ _ _ W g (RL_zero W))
  obtain ⟨RE, hRE⟩ : ∃ R, R = ((z == false) && decide (F = []) && decide (G = [])) := ⟨_, rfl⟩
  have HRE := hid hRE
  rw [← hRE] at KE
  clear h hRE
  go_enter Try.func11, Try.ntmps11
  go_wp2_with fail
  generalize w.alloc (.cells #[.string n, .bool s, .slice a1 A.length c1, .slice b1 D.length d1, .bool z, .slice e1 F.length f1, .slice i1 G.length j1, .bool b] 35) = W at B L1 H ⊢
  (with_reducible refine (KE.out _ H.out).mono ?_)
  rintro e w1 ⟨rfl, g1⟩
  have B := hid (B.out.trans (g1.mono B.out.size))
  clear g1
  go_wp2
  go_ret
  exact ⟨bool_retK (by rw [hasU, ← HRE.out]), B.out⟩
end Go.Proofs.Yteanocjkdehhgaa
