/- ParseBigInt: the reference's and the program's walks; the law's. -/
import Derived.Test.YtleechafachkaaaDoorNg
import Derived.Deep.RegionHeld3
import Derived.Deep.DeepCutAuto
namespace Go.Proofs.YtleechafachkaaaDoor
open Go.RowKit
open Go.Lib (hid)
set_option linter.unusedVariables false

set_option maxRecDepth 100000 in
set_option maxHeartbeats 3200000 in
theorem spec_ParseBigInt (s : ByteArray) (hs : s.size ≤ 1048576) (w : World) : Calls Tryd.prog 25 #[.string s] w (ParseG (pbS s) (pbR s) (pbB s) w) := by
  have hts := tailOf_size hs
  have KN := hid (fun (W : World) => spec_ParseNat (tailOf s) hts W)
  have hnk := nok_len (nok_parseR (s := tailOf s))
  obtain ⟨gs, hgs⟩ : ∃ g, g = pbS s := ⟨_, rfl⟩
  obtain ⟨gl, hgl⟩ : ∃ g, g = pbR s := ⟨_, rfl⟩
  obtain ⟨gb, hgb⟩ : ∃ g, g = pbB s := ⟨_, rfl⟩
  have HGS := hid hgs
  have HGL := hid hgl
  have HGB := hid hgb
  rw [← hgs, ← hgl, ← hgb]
  clear hgs hgl hgb
  have B0 := hid (below_new' (w := w) (o := .cells #[.bool false, .slice none 0 0] 25))
  have L0 := hid (Loc.new (w := w) (T := 25) (s := false) (v := .slice none 0 0))
  obtain ⟨RL, hrl⟩ : ∃ r, r = parseR (tailOf s) := ⟨_, rfl⟩
  obtain ⟨PB, hpb⟩ : ∃ r, r = parseB (tailOf s) := ⟨_, rfl⟩
  rw [← hrl, ← hpb] at KN
  rw [← hrl] at hnk
  have HRL := hid hrl
  have HPB := hid hpb
  clear hrl hpb
  by_cases h0 : 0 < s.size
  · by_cases h45 : s[0].toNat = 45
    · have NEG := hid (isNeg_yes h0 h45)
      rw [NEG.out.2] at KN hts
      have hc : ((s[0].toNat : Int) == 45) = true := by rw [h45]; rfl
      have hb0 : (0 : Int) < s.size := by omega
      have hb1 : (1 : Int) ≤ s.size := by omega
      have hgt : decide (0 < s.size) = true := decide_eq_true h0
      have hne : (!s.toList.isEmpty) = true := by rw [nonempty_iff]; exact hgt
      clear h45
      cases PB with
      | false =>
        have hN := hid (pbB_one (s := s) HPB.out.symm)
        go_enter Tryd.func25, Tryd.ntmps25
        go_wp2_with fail
        generalize w.alloc (.cells #[.bool false, .slice none 0 0] 25) = W at B0 L0 ⊢
        (with_reducible refine (KN.out _).mono ?_)
        rintro e w1 ⟨r, rfl, ir, b1⟩
        have B0lo := hid (show w.heap.size ≤ W.heap.size from B0.out.size)
        have IR := hid ir
        have L0 := hid (L0.out.old b1)
        have B0 := hid (B0.out.trans (b1.mono B0.out.size))
        obtain ⟨ar, cr, rfl, -⟩ := Ints_form ir
        clear ir b1
        have R := hid (show ParseG gs gl gb w (.returned (.tuple #[.agg #[.bool false, .slice none 0 0], .bool false])) ((w1.setCell ⟨w.heap.size, 0, none⟩ (.bool false)).setCell ⟨w.heap.size, 1, none⟩ (.slice none 0 0)) from
          ParseG_mk (by rw [HGS.out, (pb_no hN.out).1]) (by rw [HGL.out, (pb_no hN.out).2]) (by rw [HGB.out, hN.out]) (Nat.le_refl _) (Ints_nil _ _) ((B0.out.setCell (by simp) _).setCell (by simp) _))
        have f0 := L0.out.f0 0
        have f1 := L0.out.f0 1
        have p0 := L0.out.c0
        have p1 := L0.out.c1
        go_wp2
        exact bodyPost_ret (v := .tuple #[.agg #[.bool false, .slice none 0 0], .bool false]) (by simp [results, Tryd.results25, go_sem, p0, p1]) rfl R.out
      | true =>
        by_cases hz : RL.length = 0
        · have hN := hid (show pbB s = false by
            rw [pbB_two HPB.out.symm, NEG.out.1, ← HRL.out, List.length_eq_zero_iff.1 hz]; rfl)
          have hz' : ((RL.length : Int) == 0) = true := by rw [hz]; rfl
          clear hz
          go_enter Tryd.func25, Tryd.ntmps25
          go_wp2_with fail
          generalize w.alloc (.cells #[.bool false, .slice none 0 0] 25) = W at B0 L0 ⊢
          (with_reducible refine (KN.out _).mono ?_)
          rintro e w1 ⟨r, rfl, ir, b1⟩
          have B0lo := hid (show w.heap.size ≤ W.heap.size from B0.out.size)
          have IR := hid ir
          have L0 := hid (L0.out.old b1)
          have B0 := hid (B0.out.trans (b1.mono B0.out.size))
          obtain ⟨ar, cr, rfl, -⟩ := Ints_form ir
          clear ir b1
          have R := hid (show ParseG gs gl gb w (.returned (.tuple #[.agg #[.bool false, .slice none 0 0], .bool false])) ((w1.setCell ⟨w.heap.size, 0, none⟩ (.bool false)).setCell ⟨w.heap.size, 1, none⟩ (.slice none 0 0)) from
            ParseG_mk (by rw [HGS.out, (pb_no hN.out).1]) (by rw [HGL.out, (pb_no hN.out).2]) (by rw [HGB.out, hN.out]) (Nat.le_refl _) (Ints_nil _ _) ((B0.out.setCell (by simp) _).setCell (by simp) _))
          have f0 := L0.out.f0 0
          have f1 := L0.out.f0 1
          have p0 := L0.out.c0
          have p1 := L0.out.c1
          go_wp2
          exact bodyPost_ret (v := .tuple #[.agg #[.bool false, .slice none 0 0], .bool false]) (by simp [results, Tryd.results25, go_sem, p0, p1]) rfl R.out
        · have hN := hid (show pbB s = true by
            rw [pbB_two HPB.out.symm, NEG.out.1, ← HRL.out]
            cases RL with
            | nil => exact absurd rfl hz
            | cons x l => rfl)
          have hz' : ((RL.length : Int) == 0) = false := beq_eq_false_iff_ne.2 (by omega)
          clear hz
          go_enter Tryd.func25, Tryd.ntmps25
          go_wp2_with fail
          generalize w.alloc (.cells #[.bool false, .slice none 0 0] 25) = W at B0 L0 ⊢
          (with_reducible refine (KN.out _).mono ?_)
          rintro e w1 ⟨r, rfl, ir, b1⟩
          have B0lo := hid (show w.heap.size ≤ W.heap.size from B0.out.size)
          have IR := hid ir
          have L0 := hid (L0.out.old b1)
          have B0 := hid (B0.out.trans (b1.mono B0.out.size))
          obtain ⟨ar, cr, rfl, -⟩ := Ints_form ir
          clear ir b1
          have R := hid (show ParseG gs gl gb w (.returned (.tuple #[.agg #[.bool true, .slice ar RL.length cr], .bool true])) ((w1.setCell ⟨w.heap.size, 0, none⟩ (.bool true)).setCell ⟨w.heap.size, 1, none⟩ (.slice ar RL.length cr)) from
            ParseG_mk (by rw [HGS.out, (pb_yes hN.out).1, NEG.out.1]) (by rw [HGL.out, (pb_yes hN.out).2, HRL.out]) (by rw [HGB.out, hN.out]) B0lo.out (Ints_set (Ints_set IR.out (L0.out.ne (by decide) IR.out)) (L0.out.ne (by decide) IR.out)) ((B0.out.setCell (by simp) _).setCell (by simp) _))
          have f0 := L0.out.f0 0
          have f1 := L0.out.f0 1
          have p0 := L0.out.c0
          have p1 := L0.out.c1
          go_wp2
          exact bodyPost_ret (v := .tuple #[.agg #[.bool true, .slice ar RL.length cr], .bool true]) (by simp [results, Tryd.results25, go_sem, p0, p1]) rfl R.out
    · have NEG := hid (isNeg_no (s := s) (fun _ => h45))
      rw [NEG.out.2] at KN hts
      have hc : ((s[0].toNat : Int) == 45) = false := beq_eq_false_iff_ne.2 (by omega)
      have hb0 : (0 : Int) < s.size := by omega
      have hgt : decide (0 < s.size) = true := decide_eq_true h0
      have hne : (!s.toList.isEmpty) = true := by rw [nonempty_iff]; exact hgt
      clear h45
      cases PB with
      | false =>
        have hN := hid (pbB_one (s := s) HPB.out.symm)
        go_enter Tryd.func25, Tryd.ntmps25
        go_wp2_with fail
        generalize w.alloc (.cells #[.bool false, .slice none 0 0] 25) = W at B0 L0 ⊢
        (with_reducible refine (KN.out _).mono ?_)
        rintro e w1 ⟨r, rfl, ir, b1⟩
        have B0lo := hid (show w.heap.size ≤ W.heap.size from B0.out.size)
        have IR := hid ir
        have L0 := hid (L0.out.old b1)
        have B0 := hid (B0.out.trans (b1.mono B0.out.size))
        obtain ⟨ar, cr, rfl, -⟩ := Ints_form ir
        clear ir b1
        have R := hid (show ParseG gs gl gb w (.returned (.tuple #[.agg #[.bool false, .slice none 0 0], .bool false])) ((w1.setCell ⟨w.heap.size, 0, none⟩ (.bool false)).setCell ⟨w.heap.size, 1, none⟩ (.slice none 0 0)) from
          ParseG_mk (by rw [HGS.out, (pb_no hN.out).1]) (by rw [HGL.out, (pb_no hN.out).2]) (by rw [HGB.out, hN.out]) (Nat.le_refl _) (Ints_nil _ _) ((B0.out.setCell (by simp) _).setCell (by simp) _))
        have f0 := L0.out.f0 0
        have f1 := L0.out.f0 1
        have p0 := L0.out.c0
        have p1 := L0.out.c1
        go_wp2
        exact bodyPost_ret (v := .tuple #[.agg #[.bool false, .slice none 0 0], .bool false]) (by simp [results, Tryd.results25, go_sem, p0, p1]) rfl R.out
      | true =>
        have hN := hid (show pbB s = true by rw [pbB_two HPB.out.symm, NEG.out.1]; rfl)
        go_enter Tryd.func25, Tryd.ntmps25
        go_wp2_with fail
        generalize w.alloc (.cells #[.bool false, .slice none 0 0] 25) = W at B0 L0 ⊢
        (with_reducible refine (KN.out _).mono ?_)
        rintro e w1 ⟨r, rfl, ir, b1⟩
        have B0lo := hid (show w.heap.size ≤ W.heap.size from B0.out.size)
        have IR := hid ir
        have L0 := hid (L0.out.old b1)
        have B0 := hid (B0.out.trans (b1.mono B0.out.size))
        obtain ⟨ar, cr, rfl, -⟩ := Ints_form ir
        clear ir b1
        have R := hid (show ParseG gs gl gb w (.returned (.tuple #[.agg #[.bool false, .slice ar RL.length cr], .bool true])) ((w1.setCell ⟨w.heap.size, 0, none⟩ (.bool false)).setCell ⟨w.heap.size, 1, none⟩ (.slice ar RL.length cr)) from
          ParseG_mk (by rw [HGS.out, (pb_yes hN.out).1, NEG.out.1]) (by rw [HGL.out, (pb_yes hN.out).2, HRL.out]) (by rw [HGB.out, hN.out]) B0lo.out (Ints_set (Ints_set IR.out (L0.out.ne (by decide) IR.out)) (L0.out.ne (by decide) IR.out)) ((B0.out.setCell (by simp) _).setCell (by simp) _))
        have f0 := L0.out.f0 0
        have f1 := L0.out.f0 1
        have p0 := L0.out.c0
        have p1 := L0.out.c1
        go_wp2
        exact bodyPost_ret (v := .tuple #[.agg #[.bool false, .slice ar RL.length cr], .bool true]) (by simp [results, Tryd.results25, go_sem, p0, p1]) rfl R.out
  · have NEG := hid (isNeg_no (s := s) (fun h => absurd h h0))
    rw [NEG.out.2] at KN hts
    have hb0 : ¬ (0 : Int) < s.size := by omega
    have hgt : decide (0 < s.size) = false := decide_eq_false h0
    have hne : (!s.toList.isEmpty) = false := by rw [nonempty_iff]; exact hgt
    cases PB with
    | false =>
      have hN := hid (pbB_one (s := s) HPB.out.symm)
      go_enter Tryd.func25, Tryd.ntmps25
      go_wp2_with fail
      generalize w.alloc (.cells #[.bool false, .slice none 0 0] 25) = W at B0 L0 ⊢
      (with_reducible refine (KN.out _).mono ?_)
      rintro e w1 ⟨r, rfl, ir, b1⟩
      have B0lo := hid (show w.heap.size ≤ W.heap.size from B0.out.size)
      have IR := hid ir
      have L0 := hid (L0.out.old b1)
      have B0 := hid (B0.out.trans (b1.mono B0.out.size))
      obtain ⟨ar, cr, rfl, -⟩ := Ints_form ir
      clear ir b1
      have R := hid (show ParseG gs gl gb w (.returned (.tuple #[.agg #[.bool false, .slice none 0 0], .bool false])) ((w1.setCell ⟨w.heap.size, 0, none⟩ (.bool false)).setCell ⟨w.heap.size, 1, none⟩ (.slice none 0 0)) from
        ParseG_mk (by rw [HGS.out, (pb_no hN.out).1]) (by rw [HGL.out, (pb_no hN.out).2]) (by rw [HGB.out, hN.out]) (Nat.le_refl _) (Ints_nil _ _) ((B0.out.setCell (by simp) _).setCell (by simp) _))
      have f0 := L0.out.f0 0
      have f1 := L0.out.f0 1
      have p0 := L0.out.c0
      have p1 := L0.out.c1
      go_wp2
      exact bodyPost_ret (v := .tuple #[.agg #[.bool false, .slice none 0 0], .bool false]) (by simp [results, Tryd.results25, go_sem, p0, p1]) rfl R.out
    | true =>
      have hN := hid (show pbB s = true by rw [pbB_two HPB.out.symm, NEG.out.1]; rfl)
      go_enter Tryd.func25, Tryd.ntmps25
      go_wp2_with fail
      generalize w.alloc (.cells #[.bool false, .slice none 0 0] 25) = W at B0 L0 ⊢
      (with_reducible refine (KN.out _).mono ?_)
      rintro e w1 ⟨r, rfl, ir, b1⟩
      have B0lo := hid (show w.heap.size ≤ W.heap.size from B0.out.size)
      have IR := hid ir
      have L0 := hid (L0.out.old b1)
      have B0 := hid (B0.out.trans (b1.mono B0.out.size))
      obtain ⟨ar, cr, rfl, -⟩ := Ints_form ir
      clear ir b1
      have R := hid (show ParseG gs gl gb w (.returned (.tuple #[.agg #[.bool false, .slice ar RL.length cr], .bool true])) ((w1.setCell ⟨w.heap.size, 0, none⟩ (.bool false)).setCell ⟨w.heap.size, 1, none⟩ (.slice ar RL.length cr)) from
        ParseG_mk (by rw [HGS.out, (pb_yes hN.out).1, NEG.out.1]) (by rw [HGL.out, (pb_yes hN.out).2, HRL.out]) (by rw [HGB.out, hN.out]) B0lo.out (Ints_set (Ints_set IR.out (L0.out.ne (by decide) IR.out)) (L0.out.ne (by decide) IR.out)) ((B0.out.setCell (by simp) _).setCell (by simp) _))
      have f0 := L0.out.f0 0
      have f1 := L0.out.f0 1
      have p0 := L0.out.c0
      have p1 := L0.out.c1
      go_wp2
      exact bodyPost_ret (v := .tuple #[.agg #[.bool false, .slice ar RL.length cr], .bool true]) (by simp [results, Tryd.results25, go_sem, p0, p1]) rfl R.out

set_option maxRecDepth 100000 in
set_option maxHeartbeats 3200000 in
theorem impl_ParseBigInt (s : ByteArray) (hs : s.size ≤ 1048576) (w : World) : Calls Tryd.prog 26 #[.string s] w (ParseG (pbS s) (pbR s) (pbB s) w) := by
  have hts := tailOf_size hs
  have KN := hid (fun (W : World) => impl_ParseNat (tailOf s) hts W)
  have hnk := nok_len (nok_parseR (s := tailOf s))
  obtain ⟨gs, hgs⟩ : ∃ g, g = pbS s := ⟨_, rfl⟩
  obtain ⟨gl, hgl⟩ : ∃ g, g = pbR s := ⟨_, rfl⟩
  obtain ⟨gb, hgb⟩ : ∃ g, g = pbB s := ⟨_, rfl⟩
  have HGS := hid hgs
  have HGL := hid hgl
  have HGB := hid hgb
  rw [← hgs, ← hgl, ← hgb]
  clear hgs hgl hgb
  have B0 := hid (below_new' (w := w) (o := .cells #[.bool false, .slice none 0 0] 25))
  have L0 := hid (Loc.new (w := w) (T := 25) (s := false) (v := .slice none 0 0))
  have hcut := cut_eq s
  have KC := hid (fun (W : World) => (Tryd.strings_CutPrefix s (ByteArray.mk #[45]) W).mono fun e w' h => show e = .returned (.tuple #[.string (tailOf s), .bool (isNeg s)]) ∧ W = w' by rw [← hcut.1, ← hcut.2]; exact ⟨h.1, h.2.symm⟩)
  clear hcut
  have KO := hid (fun (W : World) (v : Value) (D : Nat) (h : Ints W D v (parseR (tailOf s))) => impl_BigIntOk_own (isNeg s) v (parseR (tailOf s)) (by omega) D W h)
  rw [pb_bok] at KO
  obtain ⟨RL, hrl⟩ : ∃ r, r = parseR (tailOf s) := ⟨_, rfl⟩
  obtain ⟨PB, hpb⟩ : ∃ r, r = parseB (tailOf s) := ⟨_, rfl⟩
  obtain ⟨T, hT⟩ : ∃ t, t = tailOf s := ⟨_, rfl⟩
  obtain ⟨ng, hng⟩ : ∃ t, t = isNeg s := ⟨_, rfl⟩
  rw [← hrl, ← hpb, ← hT] at KN
  rw [← hrl] at hnk
  rw [← hT, ← hng] at KC
  rw [← hrl, ← hng] at KO
  rw [← hT] at hts
  have HRL := hid hrl
  have HPB := hid hpb
  have NEG := hid (show isNeg s = ng ∧ True from ⟨hng.symm, trivial⟩)
  clear hrl hpb hT hng
  cases PB with
  | false =>
    have hN := hid (pbB_one (s := s) HPB.out.symm)
    go_enter Tryd.func26, Tryd.ntmps26
    go_wp2_with fail
    generalize w.alloc (.cells #[.bool false, .slice none 0 0] 25) = W at B0 L0 ⊢
    (with_reducible refine (KC.out _).mono ?_)
    rintro e w0 ⟨rfl, rfl⟩
    go_wp2_with fail
    (with_reducible refine (KN.out _).mono ?_)
    rintro e w1 ⟨r, rfl, ir, b1⟩
    have B0lo := hid (show w.heap.size ≤ W.heap.size from B0.out.size)
    have L0 := hid (L0.out.old b1)
    have hlt := L0.out.lt
    have B0 := hid (B0.out.trans (b1.mono B0.out.size))
    have BW := hid B0.out
    have LW := hid L0.out
    have IR := hid (addPre (o := .cells #[.bool ng, r] 25) ir)
    have L0 := hid (L0.out.new1 (o := .cells #[.bool ng, r] 25))
    have B0 := hid (B0.out.alloc B0.out.size (.cells #[.bool ng, r] 25))
    have LX := hid (Loc.new (w := w1) (T := 25) (s := ng) (v := r))
    obtain ⟨ar, cr, rfl, -⟩ := Ints_form ir
    clear ir b1
    have R := hid (show ParseG gs gl gb w (.returned (.tuple #[.agg #[.bool false, .slice none 0 0], .bool false])) (((w1.setCell ⟨w.heap.size, 0, none⟩ (.bool false)).setCell ⟨w.heap.size, 1, none⟩ (.slice none 0 0)).alloc (.cells #[.bool ng, .slice ar RL.length cr] 25)) from
      ParseG_mk (by rw [HGS.out, (pb_no hN.out).1]) (by rw [HGL.out, (pb_no hN.out).2]) (by rw [HGB.out, hN.out]) (Nat.le_refl _) (Ints_nil _ _) (((BW.out.setCell (by simp) _).setCell (by simp) _).alloc (by simp [World.setCell]; omega) _))
    have f0 := LW.out.f0 0
    have f1 := LW.out.f0 1
    have p0 := LW.out.c0
    have p1 := LW.out.c1
    go_wp2
    exact bodyPost_ret (v := .tuple #[.agg #[.bool false, .slice none 0 0], .bool false]) (by simp [results, Tryd.results26, go_sem, p0, p1, hlt]) rfl R.out
  | true =>
    cases hv : (!(ng && RL.isEmpty)) with
    | false =>
      have hN := hid (show pbB s = false by rw [pbB_two HPB.out.symm, NEG.out.1, ← HRL.out, hv])
      rw [hv] at KO
      clear hv
      go_enter Tryd.func26, Tryd.ntmps26
      go_wp2_with fail
      generalize w.alloc (.cells #[.bool false, .slice none 0 0] 25) = W at B0 L0 ⊢
      (with_reducible refine (KC.out _).mono ?_)
      rintro e w0 ⟨rfl, rfl⟩
      go_wp2_with fail
      (with_reducible refine (KN.out _).mono ?_)
      rintro e w1 ⟨r, rfl, ir, b1⟩
      have B0lo := hid (show w.heap.size ≤ W.heap.size from B0.out.size)
      have L0 := hid (L0.out.old b1)
      have hlt := L0.out.lt
      have B0 := hid (B0.out.trans (b1.mono B0.out.size))
      have BW := hid B0.out
      have LW := hid L0.out
      have IR := hid (addPre (o := .cells #[.bool ng, r] 25) ir)
      have L0 := hid (L0.out.new1 (o := .cells #[.bool ng, r] 25))
      have B0 := hid (B0.out.alloc B0.out.size (.cells #[.bool ng, r] 25))
      have LX := hid (Loc.new (w := w1) (T := 25) (s := ng) (v := r))
      obtain ⟨ar, cr, rfl, -⟩ := Ints_form ir
      clear ir b1
      go_wp2_with fail
      (with_reducible refine (KO.out _ _ _ IR.out).mono ?_)
      rintro e w2 ⟨rfl, b1⟩
      have IR := hid (Ints_old IR.out b1)
      have L0 := hid (L0.out.old b1)
      have B0 := hid (B0.out.trans (b1.mono B0.out.size))
      have LX := hid (LX.out.old b1)
      have q0 := LX.out.c0
      have q1 := LX.out.c1
      clear b1
      have R := hid (show ParseG gs gl gb w (.returned (.tuple #[.agg #[.bool false, .slice none 0 0], .bool false])) ((w2.setCell ⟨w.heap.size, 0, none⟩ (.bool false)).setCell ⟨w.heap.size, 1, none⟩ (.slice none 0 0)) from
        ParseG_mk (by rw [HGS.out, (pb_no hN.out).1]) (by rw [HGL.out, (pb_no hN.out).2]) (by rw [HGB.out, hN.out]) (Nat.le_refl _) (Ints_nil _ _) ((B0.out.setCell (by simp) _).setCell (by simp) _))
      have f0 := L0.out.f0 0
      have f1 := L0.out.f0 1
      have p0 := L0.out.c0
      have p1 := L0.out.c1
      go_wp2
      exact bodyPost_ret (v := .tuple #[.agg #[.bool false, .slice none 0 0], .bool false]) (by simp [results, Tryd.results26, go_sem, p0, p1]) rfl R.out
    | true =>
      have hN := hid (show pbB s = true by rw [pbB_two HPB.out.symm, NEG.out.1, ← HRL.out, hv])
      rw [hv] at KO
      clear hv
      go_enter Tryd.func26, Tryd.ntmps26
      go_wp2_with fail
      generalize w.alloc (.cells #[.bool false, .slice none 0 0] 25) = W at B0 L0 ⊢
      (with_reducible refine (KC.out _).mono ?_)
      rintro e w0 ⟨rfl, rfl⟩
      go_wp2_with fail
      (with_reducible refine (KN.out _).mono ?_)
      rintro e w1 ⟨r, rfl, ir, b1⟩
      have B0lo := hid (show w.heap.size ≤ W.heap.size from B0.out.size)
      have L0 := hid (L0.out.old b1)
      have hlt := L0.out.lt
      have B0 := hid (B0.out.trans (b1.mono B0.out.size))
      have BW := hid B0.out
      have LW := hid L0.out
      have IR := hid (addPre (o := .cells #[.bool ng, r] 25) ir)
      have L0 := hid (L0.out.new1 (o := .cells #[.bool ng, r] 25))
      have B0 := hid (B0.out.alloc B0.out.size (.cells #[.bool ng, r] 25))
      have LX := hid (Loc.new (w := w1) (T := 25) (s := ng) (v := r))
      obtain ⟨ar, cr, rfl, -⟩ := Ints_form ir
      clear ir b1
      go_wp2_with fail
      (with_reducible refine (KO.out _ _ _ IR.out).mono ?_)
      rintro e w2 ⟨rfl, b1⟩
      have IR := hid (Ints_old IR.out b1)
      have L0 := hid (L0.out.old b1)
      have B0 := hid (B0.out.trans (b1.mono B0.out.size))
      have LX := hid (LX.out.old b1)
      have q0 := LX.out.c0
      have q1 := LX.out.c1
      clear b1
      have R := hid (show ParseG gs gl gb w (.returned (.tuple #[.agg #[.bool ng, .slice ar RL.length cr], .bool true])) ((w2.setCell ⟨w.heap.size, 0, none⟩ (.bool ng)).setCell ⟨w.heap.size, 1, none⟩ (.slice ar RL.length cr)) from
        ParseG_mk (by rw [HGS.out, (pb_yes hN.out).1, NEG.out.1]) (by rw [HGL.out, (pb_yes hN.out).2, HRL.out]) (by rw [HGB.out, hN.out]) B0lo.out (Ints_set (Ints_set IR.out (L0.out.ne (by decide) IR.out)) (L0.out.ne (by decide) IR.out)) ((B0.out.setCell (by simp) _).setCell (by simp) _))
      have f0 := L0.out.f0 0
      have f1 := L0.out.f0 1
      have p0 := L0.out.c0
      have p1 := L0.out.c1
      go_wp2
      exact bodyPost_ret (v := .tuple #[.agg #[.bool ng, .slice ar RL.length cr], .bool true]) (by simp [results, Tryd.results26, go_sem, p0, p1]) rfl R.out

theorem Obj_at {w' : World} {v : Value} {L : List Int} {B lo : Nat} (h : Ints w' B v L) (hlo : lo ≤ B) : Obj w' v L lo w'.heap.size := ⟨Ints_base h hlo, fun k hk => (Ints_lt h k hk).2⟩
theorem Obj_drew1 {w : World} {v : Value} {L : List Int} {lo hi : Nat} (h : Obj w v L lo hi) : Obj w.drew v L lo hi := ⟨h.ints, h.high⟩

set_option maxRecDepth 100000 in
set_option maxHeartbeats 12800000 in
theorem law_ParseBigInt (s : ByteArray) (hs : s.size ≤ maxLen) (w : World) :
    Calls Tryd.prog 6 #[.string s] w (RetB (.bool true) w) := by
  unfold maxLen at hs
  have B := hid (Below.refl w.heap.size w)
  by_cases hA : 1048576 < (s.size : Int)
  · go_enter Tryd.func6, Tryd.ntmps6
    go_wp2
    go_ret
    exact ⟨rfl, Below.refl _ _⟩
  have KS := hid (fun (W : World) => spec_ParseBigInt s (by omega) W)
  have KI := hid (fun (W : World) => impl_ParseBigInt s (by omega) W)
  have hlR : (pbR s).length ≤ 60 := by
    cases h : pbB s with
    | false => rw [(pb_no h).2]; simp
    | true => rw [(pb_yes h).2]; exact nok_len nok_parseR
  obtain ⟨R, hR⟩ : ∃ R, R = pbR s := ⟨_, rfl⟩
  obtain ⟨rs, hrs⟩ : ∃ r, r = pbS s := ⟨_, rfl⟩
  obtain ⟨rb, hrb⟩ : ∃ r, r = pbB s := ⟨_, rfl⟩
  rw [← hR, ← hrs, ← hrb] at KS KI
  rw [← hR] at hlR
  clear hR hrs hrb
  have hk1 : ¬ 1 + (R.length : Int) < 0 := by omega
  obtain ⟨w1, hw1⟩ : ∃ w1, w1 = w := ⟨_, rfl⟩
  have t1 : w.heap.size ≤ w1.heap.size := by rw [hw1]; exact Nat.le_refl _
  rw [show Below w.heap.size w w = Below w.heap.size w w1 by rw [hw1]] at B
  go_enter Tryd.func6, Tryd.ntmps6
  go_wp2_with fail
  rw [← hw1]
  clear hw1
  (with_reducible refine (KS.out _).mono ?_)
  rintro e w2 ⟨v2, rfl, i1, b1⟩
  have t2 : w1.heap.size ≤ w2.heap.size := by have := b1.size; omega
  have V := hid (Obj_at (lo := w1.heap.size) i1 (by simp))
  have B := hid (B.out.trans (b1.mono B.out.size))
  obtain ⟨a2, c2, rfl, -⟩ := Ints_form i1
  clear i1 b1
  have V := hid (V.out.old (below_new' (o := .cells #[.bool rs, .slice a2 R.length c2] 25)))
  have B := hid (B.out.alloc B.out.size (.cells #[.bool rs, .slice a2 R.length c2] 25))
  have LV := hid (Loc.new (w := w2) (T := 25) (s := rs) (v := .slice a2 R.length c2))
  go_wp2_with fail
  (with_reducible refine (KI.out _).mono ?_)
  rintro e w3 ⟨v3, rfl, i1, b1⟩
  have t3 : w2.heap.size + 1 ≤ w3.heap.size := by have := b1.size; simp at this; omega
  have G := hid (Obj_at (lo := w2.heap.size + 1) i1 (by simp))
  have V := hid (V.out.old b1)
  have LV := hid (LV.out.old b1)
  have B := hid (B.out.trans (b1.mono B.out.size))
  obtain ⟨a3, c3, rfl, -⟩ := Ints_form i1
  clear i1 b1
  have V := hid (V.out.old (below_new' (o := .cells #[.bool rs, .slice a3 R.length c3] 25)))
  have LV := hid (LV.out.new1 (o := .cells #[.bool rs, .slice a3 R.length c3] 25))
  have G := hid (G.out.old (below_new' (o := .cells #[.bool rs, .slice a3 R.length c3] 25)))
  have B := hid (B.out.alloc B.out.size (.cells #[.bool rs, .slice a3 R.length c3] 25))
  have LG := hid (Loc.new (w := w3) (T := 25) (s := rs) (v := .slice a3 R.length c3))
  have q0 := LG.out.c0
  have q1 := LG.out.c1
  have q2 := LV.out.c0
  have q3 := LV.out.c1
  go_wp2_with fail
  (with_reducible refine (eqBigInt_obj _ _ _ R _ _ _ _ (by omega) _ G.out V.out).mono ?_)
  clear q0 q1 q2 q3
  rintro e w4 ⟨rfl, b1⟩
  have t4 : w3.heap.size + 1 ≤ w4.heap.size := by have := b1.size; simp at this; omega
  have V := hid (V.out.old b1)
  have LV := hid (LV.out.old b1)
  have G := hid (G.out.old b1)
  have LG := hid (LG.out.old b1)
  have B := hid (B.out.trans (b1.mono B.out.size))
  clear b1
  have q0 := LG.out.c0
  have q1 := LG.out.c1
  go_wp2_with fail
  (with_reducible refine (markBigInt_obj _ _ R (1) _ _ (by omega) (by omega) (by omega) _ G.out).mono ?_)
  clear q0 q1
  rintro e w5 ⟨rfl, o1, b1⟩
  have t5 : w4.heap.size ≤ w5.heap.size := by have := b1.size; omega
  have G := hid o1
  have V := hid (V.out.onlyG b1 (by omega))
  have LV := hid (LV.out.onlyG b1 (by omega))
  have LG := hid (LG.out.onlyG b1 (by omega))
  have B := hid (in_onlyG B.out b1 (by omega))
  clear o1 b1
  have q0 := LG.out.c0
  have q1 := LG.out.c1
  go_wp2_with fail
  (with_reducible refine (heldBigInt_obj _ _ R.length 1 _ _ (by omega) (by omega) (by omega) _ G.out).mono ?_)
  clear q0 q1
  rintro e w6 ⟨rfl, b1⟩
  have t6 : w5.heap.size ≤ w6.heap.size := by have := b1.size; omega
  have V := hid (V.out.old b1)
  have LV := hid (LV.out.old b1)
  have G := hid (G.out.old b1)
  have LG := hid (LG.out.old b1)
  have B := hid (B.out.trans (b1.mono B.out.size))
  clear b1
  go_wp2_with fail
  (with_reducible refine (KI.out _).mono ?_)
  rintro e w7 ⟨v7, rfl, i1, b1⟩
  have t7 : w6.heap.size ≤ w7.heap.size := by have := b1.size; omega
  have H := hid (Obj_at (lo := w6.heap.size) i1 (by simp))
  have V := hid (V.out.old b1)
  have LV := hid (LV.out.old b1)
  have G := hid (G.out.old b1)
  have LG := hid (LG.out.old b1)
  have B := hid (B.out.trans (b1.mono B.out.size))
  obtain ⟨a7, c7, rfl, -⟩ := Ints_form i1
  clear i1 b1
  have V := hid (V.out.old (below_new' (o := .cells #[.bool rs, .slice a7 R.length c7] 25)))
  have LV := hid (LV.out.new1 (o := .cells #[.bool rs, .slice a7 R.length c7] 25))
  have G := hid (G.out.old (below_new' (o := .cells #[.bool rs, .slice a7 R.length c7] 25)))
  have LG := hid (LG.out.new1 (o := .cells #[.bool rs, .slice a7 R.length c7] 25))
  have H := hid (H.out.old (below_new' (o := .cells #[.bool rs, .slice a7 R.length c7] 25)))
  have B := hid (B.out.alloc B.out.size (.cells #[.bool rs, .slice a7 R.length c7] 25))
  have LH := hid (Loc.new (w := w7) (T := 25) (s := rs) (v := .slice a7 R.length c7))
  have q0 := LH.out.c0
  have q1 := LH.out.c1
  have q2 := LV.out.c0
  have q3 := LV.out.c1
  go_wp2_with fail
  (with_reducible refine (eqBigInt_obj _ _ _ R _ _ _ _ (by omega) _ H.out V.out).mono ?_)
  clear q0 q1 q2 q3
  rintro e w8 ⟨rfl, b1⟩
  have t8 : w7.heap.size + 1 ≤ w8.heap.size := by have := b1.size; simp at this; omega
  have V := hid (V.out.old b1)
  have LV := hid (LV.out.old b1)
  have G := hid (G.out.old b1)
  have LG := hid (LG.out.old b1)
  have H := hid (H.out.old b1)
  have LH := hid (LH.out.old b1)
  have B := hid (B.out.trans (b1.mono B.out.size))
  clear b1
  have q0 := LG.out.c0
  have q1 := LG.out.c1
  go_wp2_with fail
  (with_reducible refine (heldBigInt_obj _ _ R.length 1 _ _ (by omega) (by omega) (by omega) _ G.out).mono ?_)
  clear q0 q1
  rintro e w9 ⟨rfl, b1⟩
  have t9 : w8.heap.size ≤ w9.heap.size := by have := b1.size; omega
  have G := hid (G.out.old b1)
  have LG := hid (LG.out.old b1)
  have B := hid (B.out.trans (b1.mono B.out.size))
  clear b1
  go_wp2
  go_ret
  exact ⟨rfl, B.out⟩

end Go.Proofs.YtleechafachkaaaDoor
