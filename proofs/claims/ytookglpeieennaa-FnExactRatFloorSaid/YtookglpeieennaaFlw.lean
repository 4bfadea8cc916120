/- The functions on fractions of chapter 6, in the laws' words. -/
import Derived.Test.YtookglpeieennaaFls
import Derived.Test.YtookglpeieennaaFlb
import Derived.Test.YtookglpeieennaaSra
namespace Go.Proofs.Ytookglpeieennaa
open Go.RowKit
open Go.Lib (hid)
set_option linter.unusedVariables false

theorem impl_RatFloor (s : Bool) (v u : Value) (A D : List Int) (w : World) (h : RL w v u A D) : Calls Try.prog 19 #[.agg #[.bool s, v, u]] w (OwnR (floorO (rval s A D)) w) := (floor_o (RA.of h)).mono fun e w' hh => hh.own
theorem spec_RatFloor (s : Bool) (v u : Value) (A D : List Int) (w : World) (h : RL w v u A D) : Calls Try.prog 17 #[.agg #[.bool s, v, u]] w (OwnS (floorO (rval s A D)) w) := (sfloor_o (RA.of h)).mono fun e w' hh => hh.ownS
theorem impl_RatCeil (s : Bool) (v u : Value) (A D : List Int) (w : World) (h : RL w v u A D) : Calls Try.prog 24 #[.agg #[.bool s, v, u]] w (OwnR (ceilO (rval s A D)) w) := (ceil_o (RA.of h)).mono fun e w' hh => hh.own
theorem spec_RatCeil (s : Bool) (v u : Value) (A D : List Int) (w : World) (h : RL w v u A D) : Calls Try.prog 23 #[.agg #[.bool s, v, u]] w (OwnS (ceilO (rval s A D)) w) := (sceil_o (RA.of h)).mono fun e w' hh => hh.ownS
set_option maxRecDepth 100000 in
set_option maxHeartbeats 3200000 in
theorem impl_RatIsInt (s : Bool) (v u : Value) (A D : List Int) (w : World) (h : RL w v u A D) :
    Calls Try.prog 13 #[.agg #[.bool s, v, u]] w (RetB (.bool (rok s A D && decide (D = [1]))) w) := by
  have hD : D.length ≤ 1073741824 := by have := h.ld; omega
  have KO := hid (fun (W : World) (h : RL W v u A D) => impl_RatOk s v u A D W h)
  have K1 := hid (fun (W : World) (b : Nat) (h : Ints W b u D) => isOne_own u D hD b W h)
  obtain ⟨p, hp⟩ : ∃ p, p = rok s A D := ⟨_, rfl⟩
  obtain ⟨q, hq⟩ : ∃ q, q = decide (D = [1]) := ⟨_, rfl⟩
  rw [← hp] at KO ⊢
  rw [← hq] at K1 ⊢
  clear hp hq
  obtain ⟨a, c, b, d, rfl, rfl⟩ := h.form
  have B := hid (below_new' (w := w) (o := .cells #[.bool s, .slice a A.length c, .slice b D.length d] 30))
  have LX := hid (LocA.at (T := 30) (w := w) (b := w.heap.size) (cs := #[.bool s, .slice a A.length c, .slice b D.length d]) rfl)
  have H := hid (h.old B.out)
  clear h
  generalize hW : w.alloc (.cells #[.bool s, .slice a A.length c, .slice b D.length d] 30) = W0 at B LX H
  have HW := hid hW
  clear hW
  cases p with
  | false =>
    go_enter Try.func13, Try.ntmps13
    go_wp2_with fail
    rw [HW.out]
    (with_reducible refine (KO.out _ H.out).mono ?_)
    rintro e w1 ⟨rfl, hb⟩
    have B := hid (B.out.trans (hb.mono B.out.size))
    clear hb
    go_wp2
    go_ret
    exact ⟨rfl, B.out⟩
  | true =>
    go_enter Try.func13, Try.ntmps13
    go_wp2_with fail
    rw [HW.out]
    (with_reducible refine (KO.out _ H.out).mono ?_)
    rintro e w1 ⟨rfl, hb⟩
    have LX := hid (LX.out.old hb)
    have H := hid (H.out.old hb)
    have B := hid (B.out.trans (hb.mono B.out.size))
    obtain ⟨bx, ix⟩ := H.out.d
    have q0 := LX.out.c 2 (v := .slice b D.length d) rfl
    clear hb
    go_wp2_with fail
    (with_reducible refine (K1.out _ _ ix).mono ?_)
    rintro e w2 ⟨rfl, rfl⟩
    clear q0 ix
    go_wp2
    go_ret
    exact ⟨ret_bo (by simp), B.out⟩
set_option maxRecDepth 100000 in
set_option maxHeartbeats 3200000 in
theorem spec_RatIsInt (s : Bool) (v u : Value) (A D : List Int) (w : World) (h : RL w v u A D) :
    Calls Try.prog 25 #[.agg #[.bool s, v, u]] w (RetB (.bool (rok s A D && decide (D = [1]))) w) := by
  have hD : D.length ≤ 1073741824 := by have := h.ld; omega
  have KO := hid (fun (W : World) (h : RL W v u A D) => spec_RatOk s v u A D W h)
  have K1 := hid (fun (W : World) (b : Nat) (h : Ints W b u D) => l04One_own u D hD b W h)
  obtain ⟨p, hp⟩ : ∃ p, p = rok s A D := ⟨_, rfl⟩
  obtain ⟨q, hq⟩ : ∃ q, q = decide (D = [1]) := ⟨_, rfl⟩
  rw [← hp] at KO ⊢
  rw [← hq] at K1 ⊢
  clear hp hq
  obtain ⟨a, c, b, d, rfl, rfl⟩ := h.form
  have B := hid (below_new' (w := w) (o := .cells #[.bool s, .slice a A.length c, .slice b D.length d] 30))
  have LX := hid (LocA.at (T := 30) (w := w) (b := w.heap.size) (cs := #[.bool s, .slice a A.length c, .slice b D.length d]) rfl)
  have H := hid (h.old B.out)
  clear h
  generalize hW : w.alloc (.cells #[.bool s, .slice a A.length c, .slice b D.length d] 30) = W0 at B LX H
  have HW := hid hW
  clear hW
  cases p with
  | false =>
    go_enter Try.func25, Try.ntmps25
    go_wp2_with fail
    rw [HW.out]
    (with_reducible refine (KO.out _ H.out).mono ?_)
    rintro e w1 ⟨rfl, hb⟩
    have B := hid (B.out.trans (hb.mono B.out.size))
    clear hb
    go_wp2
    go_ret
    exact ⟨rfl, B.out⟩
  | true =>
    go_enter Try.func25, Try.ntmps25
    go_wp2_with fail
    rw [HW.out]
    (with_reducible refine (KO.out _ H.out).mono ?_)
    rintro e w1 ⟨rfl, hb⟩
    have LX := hid (LX.out.old hb)
    have H := hid (H.out.old hb)
    have B := hid (B.out.trans (hb.mono B.out.size))
    obtain ⟨bx, ix⟩ := H.out.d
    have q0 := LX.out.c 2 (v := .slice b D.length d) rfl
    clear hb
    go_wp2_with fail
    (with_reducible refine (K1.out _ _ ix).mono ?_)
    rintro e w2 ⟨rfl, rfl⟩
    clear q0 ix
    go_wp2
    go_ret
    exact ⟨ret_bo (by simp), B.out⟩
end Go.Proofs.Ytookglpeieennaa
