/- ParseBigInt: the reference's and the program's walks; the law's. -/
import Derived.Test.YtmghoedjcokhpaaGreatDoorNg
import Derived.Deep.RegionHeld3
import Derived.Deep.DeepCutAuto
namespace Go.Proofs.YtmghoedjcokhpaaGreatDoor
open Go.RowKit
open Go.Lib (hid)
set_option linter.unusedVariables false

set_option maxRecDepth 100000 in
set_option maxHeartbeats 3200000 in
theorem spec_ParseBigInt (s : ByteArray) (hs : s.size ≤ 1048576) (w : World) : Calls Tryz.prog 77 #[.string s] w (ParseG (pbS s) (pbR s) (pbB s) w) := by
  have hts := tailOf_size hs
  have KN := hid (fun (W : World) => spec_ParseNat (tailOf s) hts W)
  have hnk := nok_len (nok_parseR (s := tailOf s))
  obtain ⟨gs, hgs⟩ : ∃ g, g = pbS s := ⟨_, rfl⟩
  obtain ⟨gl, hgl⟩ : ∃ g, g = pbR s := ⟨_, rfl⟩
  obtain ⟨gb, hgb⟩ : ∃ g, g = pbB s := ⟨_, rfl⟩
  have HGS := hid hgs
  have HGL := hid hgl
  have HGB := hid hgb
  rw [← hgs, ← hgl, ← hgb]
  clear hgs hgl hgb
  have B0 := hid (below_new' (w := w) (o := .cells #[.bool false, .slice none 0 0] 37))
  have L0 := hid (Loc.new (w := w) (T := 37) (s := false) (v := .slice none 0 0))
  obtain ⟨RL, hrl⟩ : ∃ r, r = parseR (tailOf s) := ⟨_, rfl⟩
  obtain ⟨PB, hpb⟩ : ∃ r, r = parseB (tailOf s) := ⟨_, rfl⟩
  rw [← hrl, ← hpb] at KN
  rw [← hrl] at hnk
  have HRL := hid hrl
  have HPB := hid hpb
  clear hrl hpb
  by_cases h0 : 0 < s.size
  · by_cases h45 : s[0].toNat = 45
    · have NEG := hid (isNeg_yes h0 h45)
      rw [NEG.out.2] at KN hts
      have hc : ((s[0].toNat : Int) == 45) = true := by rw [h45]; rfl
      have hb0 : (0 : Int) < s.size := by omega
      have hb1 : (1 : Int) ≤ s.size := by omega
      have hgt : decide (0 < s.size) = true := decide_eq_true h0
      have hne : (!s.toList.isEmpty) = true := by rw [nonempty_iff]; exact hgt
      clear h45
      cases PB with
      | false =>
        have hN := hid (pbB_one (s := s) HPB.out.symm)
        go_enter Tryz.func77, Tryz.ntmps77
        go_wp2_with fail
        generalize w.alloc (.cells #[.bool false, .slice none 0 0] 37) = W at B0 L0 ⊢
        (with_reducible refine (KN.out _).mono ?_)
        rintro e w1 ⟨r, rfl, ir, b1⟩
        have B0lo := hid (show w.heap.size ≤ W.heap.size from B0.out.size)
        have IR := hid ir
        have L0 := hid (L0.out.old b1)
        have B0 := hid (B0.out.trans (b1.mono B0.out.size))
        obtain ⟨ar, cr, rfl, -⟩ := Ints_form ir
        clear ir b1
        have R := hid (show ParseG gs gl gb w (.returned (.tuple #[.agg #[.bool false, .slice none 0 0], .bool false])) ((w1.setCell ⟨w.heap.size, 0, none⟩ (.bool false)).setCell ⟨w.heap.size, 1, none⟩ (.slice none 0 0)) from
          ParseG_mk (by rw [HGS.out, (pb_no hN.out).1]) (by rw [HGL.out, (pb_no hN.out).2]) (by rw [HGB.out, hN.out]) (Nat.le_refl _) (Ints_nil _ _) ((B0.out.setCell (by simp) _).setCell (by simp) _))
        have f0 := L0.out.f0 0
        have f1 := L0.out.f0 1
        have p0 := L0.out.c0
        have p1 := L0.out.c1
        go_wp2
        exact bodyPost_ret (v := .tuple #[.agg #[.bool false, .slice none 0 0], .bool false]) (by simp [results, Tryz.results77, go_sem, p0, p1]) rfl R.out
      | true =>
        by_cases hz : RL.length = 0
        · have hN := hid (show pbB s = false by
            rw [pbB_two HPB.out.symm, NEG.out.1, ← HRL.out, List.length_eq_zero_iff.1 hz]; rfl)
          have hz' : ((RL.length : Int) == 0) = true := by rw [hz]; rfl
          clear hz
          go_enter Tryz.func77, Tryz.ntmps77
          go_wp2_with fail
          generalize w.alloc (.cells #[.bool false, .slice none 0 0] 37) = W at B0 L0 ⊢
          (with_reducible refine (KN.out _).mono ?_)
          rintro e w1 ⟨r, rfl, ir, b1⟩
          have B0lo := hid (show w.heap.size ≤ W.heap.size from B0.out.size)
          have IR := hid ir
          have L0 := hid (L0.out.old b1)
          have B0 := hid (B0.out.trans (b1.mono B0.out.size))
          obtain ⟨ar, cr, rfl, -⟩ := Ints_form ir
          clear ir b1
          have R := hid (show ParseG gs gl gb w (.returned (.tuple #[.agg #[.bool false, .slice none 0 0], .bool false])) ((w1.setCell ⟨w.heap.size, 0, none⟩ (.bool false)).setCell ⟨w.heap.size, 1, none⟩ (.slice none 0 0)) from
            ParseG_mk (by rw [HGS.out, (pb_no hN.out).1]) (by rw [HGL.out, (pb_no hN.out).2]) (by rw [HGB.out, hN.out]) (Nat.le_refl _) (Ints_nil _ _) ((B0.out.setCell (by simp) _).setCell (by simp) _))
          have f0 := L0.out.f0 0
          have f1 := L0.out.f0 1
          have p0 := L0.out.c0
          have p1 := L0.out.c1
          go_wp2
          exact bodyPost_ret (v := .tuple #[.agg #[.bool false, .slice none 0 0], .bool false]) (by simp [results, Tryz.results77, go_sem, p0, p1]) rfl R.out
        · have hN := hid (show pbB s = true by
            rw [pbB_two HPB.out.symm, NEG.out.1, ← HRL.out]
            cases RL with
            | nil => exact absurd rfl hz
            | cons x l => rfl)
          have hz' : ((RL.length : Int) == 0) = false := beq_eq_false_iff_ne.2 (by omega)
          clear hz
          go_enter Tryz.func77, Tryz.ntmps77
          go_wp2_with fail
          generalize w.alloc (.cells #[.bool false, .slice none 0 0] 37) = W at B0 L0 ⊢
          (with_reducible refine (KN.out _).mono ?_)
          rintro e w1 ⟨r, rfl, ir, b1⟩
          have B0lo := hid (show w.heap.size ≤ W.heap.size from B0.out.size)
          have IR := hid ir
          have L0 := hid (L0.out.old b1)
          have B0 := hid (B0.out.trans (b1.mono B0.out.size))
          obtain ⟨ar, cr, rfl, -⟩ := Ints_form ir
          clear ir b1
          have R := hid (show ParseG gs gl gb w (.returned (.tuple #[.agg #[.bool true, .slice ar RL.length cr], .bool true])) ((w1.setCell ⟨w.heap.size, 0, none⟩ (.bool true)).setCell ⟨w.heap.size, 1, none⟩ (.slice ar RL.length cr)) from
            ParseG_mk (by rw [HGS.out, (pb_yes hN.out).1, NEG.out.1]) (by rw [HGL.out, (pb_yes hN.out).2, HRL.out]) (by rw [HGB.out, hN.out]) B0lo.out (Ints_set (Ints_set IR.out (L0.out.ne (by decide) IR.out)) (L0.out.ne (by decide) IR.out)) ((B0.out.setCell (by simp) _).setCell (by simp) _))
          have f0 := L0.out.f0 0
          have f1 := L0.out.f0 1
          have p0 := L0.out.c0
          have p1 := L0.out.c1
          go_wp2
          exact bodyPost_ret (v := .tuple #[.agg #[.bool true, .slice ar RL.length cr], .bool true]) (by simp [results, Tryz.results77, go_sem, p0, p1]) rfl R.out
    · have NEG := hid (isNeg_no (s := s) (fun _ => h45))
      rw [NEG.out.2] at KN hts
      have hc : ((s[0].toNat : Int) == 45) = false := beq_eq_false_iff_ne.2 (by omega)
      have hb0 : (0 : Int) < s.size := by omega
      have hgt : decide (0 < s.size) = true := decide_eq_true h0
      have hne : (!s.toList.isEmpty) = true := by rw [nonempty_iff]; exact hgt
      clear h45
      cases PB with
      | false =>
        have hN := hid (pbB_one (s := s) HPB.out.symm)
        go_enter Tryz.func77, Tryz.ntmps77
        go_wp2_with fail
        generalize w.alloc (.cells #[.bool false, .slice none 0 0] 37) = W at B0 L0 ⊢
        (with_reducible refine (KN.out _).mono ?_)
        rintro e w1 ⟨r, rfl, ir, b1⟩
        have B0lo := hid (show w.heap.size ≤ W.heap.size from B0.out.size)
        have IR := hid ir
        have L0 := hid (L0.out.old b1)
        have B0 := hid (B0.out.trans (b1.mono B0.out.size))
        obtain ⟨ar, cr, rfl, -⟩ := Ints_form ir
        clear ir b1
        have R := hid (show ParseG gs gl gb w (.returned (.tuple #[.agg #[.bool false, .slice none 0 0], .bool false])) ((w1.setCell ⟨w.heap.size, 0, none⟩ (.bool false)).setCell ⟨w.heap.size, 1, none⟩ (.slice none 0 0)) from
          ParseG_mk (by rw [HGS.out, (pb_no hN.out).1]) (by rw [HGL.out, (pb_no hN.out).2]) (by rw [HGB.out, hN.out]) (Nat.le_refl _) (Ints_nil _ _) ((B0.out.setCell (by simp) _).setCell (by simp) _))
        have f0 := L0.out.f0 0
        have f1 := L0.out.f0 1
        have p0 := L0.out.c0
        have p1 := L0.out.c1
        go_wp2
        exact bodyPost_ret (v := .tuple #[.agg #[.bool false, .slice none 0 0], .bool false]) (by simp [results, Tryz.results77, go_sem, p0, p1]) rfl R.out
      | true =>
        have hN := hid (show pbB s = true by rw [pbB_two HPB.out.symm, NEG.out.1]; rfl)
        go_enter Tryz.func77, Tryz.ntmps77
        go_wp2_with fail
        generalize w.alloc (.cells #[.bool false, .slice none 0 0] 37) = W at B0 L0 ⊢
        (with_reducible refine (KN.out _).mono ?_)
        rintro e w1 ⟨r, rfl, ir, b1⟩
        have B0lo := hid (show w.heap.size ≤ W.heap.size from B0.out.size)
        have IR := hid ir
        have L0 := hid (L0.out.old b1)
        have B0 := hid (B0.out.trans (b1.mono B0.out.size))
        obtain ⟨ar, cr, rfl, -⟩ := Ints_form ir
        clear ir b1
        have R := hid (show ParseG gs gl gb w (.returned (.tuple #[.agg #[.bool false, .slice ar RL.length cr], .bool true])) ((w1.setCell ⟨w.heap.size, 0, none⟩ (.bool false)).setCell ⟨w.heap.size, 1, none⟩ (.slice ar RL.length cr)) from
          ParseG_mk (by rw [HGS.out, (pb_yes hN.out).1, NEG.out.1]) (by rw [HGL.out, (pb_yes hN.out).2, HRL.out]) (by rw [HGB.out, hN.out]) B0lo.out (Ints_set (Ints_set IR.out (L0.out.ne (by decide) IR.out)) (L0.out.ne (by decide) IR.out)) ((B0.out.setCell (by simp) _).setCell (by simp) _))
        have f0 := L0.out.f0 0
        have f1 := L0.out.f0 1
        have p0 := L0.out.c0
        have p1 := L0.out.c1
        go_wp2
        exact bodyPost_ret (v := .tuple #[.agg #[.bool false, .slice ar RL.length cr], .bool true]) (by simp [results, Tryz.results77, go_sem, p0, p1]) rfl R.out
  · have NEG := hid (isNeg_no (s := s) (fun h => absurd h h0))
    rw [NEG.out.2] at KN hts
    have hb0 : ¬ (0 : Int) < s.size := by omega
    have hgt : decide (0 < s.size) = false := decide_eq_false h0
    have hne : (!s.toList.isEmpty) = false := by rw [nonempty_iff]; exact hgt
    cases PB with
    | false =>
      have hN := hid (pbB_one (s := s) HPB.out.symm)
      go_enter Tryz.func77, Tryz.ntmps77
      go_wp2_with fail
      generalize w.alloc (.cells #[.bool false, .slice none 0 0] 37) = W at B0 L0 ⊢
      (with_reducible refine (KN.out _).mono ?_)
      rintro e w1 ⟨r, rfl, ir, b1⟩
      have B0lo := hid (show w.heap.size ≤ W.heap.size from B0.out.size)
      have IR := hid ir
      have L0 := hid (L0.out.old b1)
      have B0 := hid (B0.out.trans (b1.mono B0.out.size))
      obtain ⟨ar, cr, rfl, -⟩ := Ints_form ir
      clear ir b1
      have R := hid (show ParseG gs gl gb w (.returned (.tuple #[.agg #[.bool false, .slice none 0 0], .bool false])) ((w1.setCell ⟨w.heap.size, 0, none⟩ (.bool false)).setCell ⟨w.heap.size, 1, none⟩ (.slice none 0 0)) from
        ParseG_mk (by rw [HGS.out, (pb_no hN.out).1]) (by rw [HGL.out, (pb_no hN.out).2]) (by rw [HGB.out, hN.out]) (Nat.le_refl _) (Ints_nil _ _) ((B0.out.setCell (by simp) _).setCell (by simp) _))
      have f0 := L0.out.f0 0
      have f1 := L0.out.f0 1
      have p0 := L0.out.c0
      have p1 := L0.out.c1
      go_wp2
      exact bodyPost_ret (v := .tuple #[.agg #[.bool false, .slice none 0 0], .bool false]) (by simp [results, Tryz.results77, go_sem, p0, p1]) rfl R.out
    | true =>
      have hN := hid (show pbB s = true by rw [pbB_two HPB.out.symm, NEG.out.1]; rfl)
      go_enter Tryz.func77, Tryz.ntmps77
      go_wp2_with fail
      generalize w.alloc (.cells #[.bool false, .slice none 0 0] 37) = W at B0 L0 ⊢
      (with_reducible refine (KN.out _).mono ?_)
      rintro e w1 ⟨r, rfl, ir, b1⟩
      have B0lo := hid (show w.heap.size ≤ W.heap.size from B0.out.size)
      have IR := hid ir
      have L0 := hid (L0.out.old b1)
      have B0 := hid (B0.out.trans (b1.mono B0.out.size))
      obtain ⟨ar, cr, rfl, -⟩ := Ints_form ir
      clear ir b1
      have R := hid (show ParseG gs gl gb w (.returned (.tuple #[.agg #[.bool false, .slice ar RL.length cr], .bool true])) ((w1.setCell ⟨w.heap.size, 0, none⟩ (.bool false)).setCell ⟨w.heap.size, 1, none⟩ (.slice ar RL.length cr)) from
        ParseG_mk (by rw [HGS.out, (pb_yes hN.out).1, NEG.out.1]) (by rw [HGL.out, (pb_yes hN.out).2, HRL.out]) (by rw [HGB.out, hN.out]) B0lo.out (Ints_set (Ints_set IR.out (L0.out.ne (by decide) IR.out)) (L0.out.ne (by decide) IR.out)) ((B0.out.setCell (by simp) _).setCell (by simp) _))
      have f0 := L0.out.f0 0
      have f1 := L0.out.f0 1
      have p0 := L0.out.c0
      have p1 := L0.out.c1
      go_wp2
      exact bodyPost_ret (v := .tuple #[.agg #[.bool false, .slice ar RL.length cr], .bool true]) (by simp [results, Tryz.results77, go_sem, p0, p1]) rfl R.out

set_option maxRecDepth 100000 in
set_option maxHeartbeats 3200000 in
theorem impl_ParseBigInt (s : ByteArray) (hs : s.size ≤ 1048576) (w : World) : Calls Tryz.prog 20 #[.string s] w (ParseG (pbS s) (pbR s) (pbB s) w) := by
  have hts := tailOf_size hs
  have KN := hid (fun (W : World) => impl_ParseNat (tailOf s) hts W)
  have hnk := nok_len (nok_parseR (s := tailOf s))
  obtain ⟨gs, hgs⟩ : ∃ g, g = pbS s := ⟨_, rfl⟩
  obtain ⟨gl, hgl⟩ : ∃ g, g = pbR s := ⟨_, rfl⟩
  obtain ⟨gb, hgb⟩ : ∃ g, g = pbB s := ⟨_, rfl⟩
  have HGS := hid hgs
  have HGL := hid hgl
  have HGB := hid hgb
  rw [← hgs, ← hgl, ← hgb]
  clear hgs hgl hgb
  have B0 := hid (below_new' (w := w) (o := .cells #[.bool false, .slice none 0 0] 37))
  have L0 := hid (Loc.new (w := w) (T := 37) (s := false) (v := .slice none 0 0))
  have hcut := cut_eq s
  have KC := hid (fun (W : World) => (Tryz.strings_CutPrefix s (ByteArray.mk #[45]) W).mono fun e w' h => show e = .returned (.tuple #[.string (tailOf s), .bool (isNeg s)]) ∧ W = w' by rw [← hcut.1, ← hcut.2]; exact ⟨h.1, h.2.symm⟩)
  clear hcut
  have KO := hid (fun (W : World) (v : Value) (D : Nat) (h : Ints W D v (parseR (tailOf s))) => impl_BigIntOk_own (isNeg s) v (parseR (tailOf s)) (by omega) D W h)
  rw [pb_bok] at KO
  obtain ⟨RL, hrl⟩ : ∃ r, r = parseR (tailOf s) := ⟨_, rfl⟩
  obtain ⟨PB, hpb⟩ : ∃ r, r = parseB (tailOf s) := ⟨_, rfl⟩
  obtain ⟨T, hT⟩ : ∃ t, t = tailOf s := ⟨_, rfl⟩
  obtain ⟨ng, hng⟩ : ∃ t, t = isNeg s := ⟨_, rfl⟩
  rw [← hrl, ← hpb, ← hT] at KN
  rw [← hrl] at hnk
  rw [← hT, ← hng] at KC
  rw [← hrl, ← hng] at KO
  rw [← hT] at hts
  have HRL := hid hrl
  have HPB := hid hpb
  have NEG := hid (show isNeg s = ng ∧ True from ⟨hng.symm, trivial⟩)
  clear hrl hpb hT hng
  cases PB with
  | false =>
    have hN := hid (pbB_one (s := s) HPB.out.symm)
    go_enter Tryz.func20, Tryz.ntmps20
    go_wp2_with fail
    generalize w.alloc (.cells #[.bool false, .slice none 0 0] 37) = W at B0 L0 ⊢
    (with_reducible refine (KC.out _).mono ?_)
    rintro e w0 ⟨rfl, rfl⟩
    go_wp2_with fail
    (with_reducible refine (KN.out _).mono ?_)
    rintro e w1 ⟨r, rfl, ir, b1⟩
    have B0lo := hid (show w.heap.size ≤ W.heap.size from B0.out.size)
    have L0 := hid (L0.out.old b1)
    have hlt := L0.out.lt
    have B0 := hid (B0.out.trans (b1.mono B0.out.size))
    have BW := hid B0.out
    have LW := hid L0.out
    have IR := hid (addPre (o := .cells #[.bool ng, r] 37) ir)
    have L0 := hid (L0.out.new1 (o := .cells #[.bool ng, r] 37))
    have B0 := hid (B0.out.alloc B0.out.size (.cells #[.bool ng, r] 37))
    have LX := hid (Loc.new (w := w1) (T := 37) (s := ng) (v := r))
    obtain ⟨ar, cr, rfl, -⟩ := Ints_form ir
    clear ir b1
    have R := hid (show ParseG gs gl gb w (.returned (.tuple #[.agg #[.bool false, .slice none 0 0], .bool false])) (((w1.setCell ⟨w.heap.size, 0, none⟩ (.bool false)).setCell ⟨w.heap.size, 1, none⟩ (.slice none 0 0)).alloc (.cells #[.bool ng, .slice ar RL.length cr] 37)) from
      ParseG_mk (by rw [HGS.out, (pb_no hN.out).1]) (by rw [HGL.out, (pb_no hN.out).2]) (by rw [HGB.out, hN.out]) (Nat.le_refl _) (Ints_nil _ _) (((BW.out.setCell (by simp) _).setCell (by simp) _).alloc (by simp [World.setCell]; omega) _))
    have f0 := LW.out.f0 0
    have f1 := LW.out.f0 1
    have p0 := LW.out.c0
    have p1 := LW.out.c1
    go_wp2
    exact bodyPost_ret (v := .tuple #[.agg #[.bool false, .slice none 0 0], .bool false]) (by simp [results, Tryz.results20, go_sem, p0, p1, hlt]) rfl R.out
  | true =>
    cases hv : (!(ng && RL.isEmpty)) with
    | false =>
      have hN := hid (show pbB s = false by rw [pbB_two HPB.out.symm, NEG.out.1, ← HRL.out, hv])
      rw [hv] at KO
      clear hv
      go_enter Tryz.func20, Tryz.ntmps20
      go_wp2_with fail
      generalize w.alloc (.cells #[.bool false, .slice none 0 0] 37) = W at B0 L0 ⊢
      (with_reducible refine (KC.out _).mono ?_)
      rintro e w0 ⟨rfl, rfl⟩
      go_wp2_with fail
      (with_reducible refine (KN.out _).mono ?_)
      rintro e w1 ⟨r, rfl, ir, b1⟩
      have B0lo := hid (show w.heap.size ≤ W.heap.size from B0.out.size)
      have L0 := hid (L0.out.old b1)
      have hlt := L0.out.lt
      have B0 := hid (B0.out.trans (b1.mono B0.out.size))
      have BW := hid B0.out
      have LW := hid L0.out
      have IR := hid (addPre (o := .cells #[.bool ng, r] 37) ir)
      have L0 := hid (L0.out.new1 (o := .cells #[.bool ng, r] 37))
      have B0 := hid (B0.out.alloc B0.out.size (.cells #[.bool ng, r] 37))
      have LX := hid (Loc.new (w := w1) (T := 37) (s := ng) (v := r))
      obtain ⟨ar, cr, rfl, -⟩ := Ints_form ir
      clear ir b1
      go_wp2_with fail
      (with_reducible refine (KO.out _ _ _ IR.out).mono ?_)
      rintro e w2 ⟨rfl, b1⟩
      have IR := hid (Ints_old IR.out b1)
      have L0 := hid (L0.out.old b1)
      have B0 := hid (B0.out.trans (b1.mono B0.out.size))
      have LX := hid (LX.out.old b1)
      have q0 := LX.out.c0
      have q1 := LX.out.c1
      clear b1
      have R := hid (show ParseG gs gl gb w (.returned (.tuple #[.agg #[.bool false, .slice none 0 0], .bool false])) ((w2.setCell ⟨w.heap.size, 0, none⟩ (.bool false)).setCell ⟨w.heap.size, 1, none⟩ (.slice none 0 0)) from
        ParseG_mk (by rw [HGS.out, (pb_no hN.out).1]) (by rw [HGL.out, (pb_no hN.out).2]) (by rw [HGB.out, hN.out]) (Nat.le_refl _) (Ints_nil _ _) ((B0.out.setCell (by simp) _).setCell (by simp) _))
      have f0 := L0.out.f0 0
      have f1 := L0.out.f0 1
      have p0 := L0.out.c0
      have p1 := L0.out.c1
      go_wp2
      exact bodyPost_ret (v := .tuple #[.agg #[.bool false, .slice none 0 0], .bool false]) (by simp [results, Tryz.results20, go_sem, p0, p1]) rfl R.out
    | true =>
      have hN := hid (show pbB s = true by rw [pbB_two HPB.out.symm, NEG.out.1, ← HRL.out, hv])
      rw [hv] at KO
      clear hv
      go_enter Tryz.func20, Tryz.ntmps20
      go_wp2_with fail
      generalize w.alloc (.cells #[.bool false, .slice none 0 0] 37) = W at B0 L0 ⊢
      (with_reducible refine (KC.out _).mono ?_)
      rintro e w0 ⟨rfl, rfl⟩
      go_wp2_with fail
      (with_reducible refine (KN.out _).mono ?_)
      rintro e w1 ⟨r, rfl, ir, b1⟩
      have B0lo := hid (show w.heap.size ≤ W.heap.size from B0.out.size)
      have L0 := hid (L0.out.old b1)
      have hlt := L0.out.lt
      have B0 := hid (B0.out.trans (b1.mono B0.out.size))
      have BW := hid B0.out
      have LW := hid L0.out
      have IR := hid (addPre (o := .cells #[.bool ng, r] 37) ir)
      have L0 := hid (L0.out.new1 (o := .cells #[.bool ng, r] 37))
      have B0 := hid (B0.out.alloc B0.out.size (.cells #[.bool ng, r] 37))
      have LX := hid (Loc.new (w := w1) (T := 37) (s := ng) (v := r))
      obtain ⟨ar, cr, rfl, -⟩ := Ints_form ir
      clear ir b1
      go_wp2_with fail
      (with_reducible refine (KO.out _ _ _ IR.out).mono ?_)
      rintro e w2 ⟨rfl, b1⟩
      have IR := hid (Ints_old IR.out b1)
      have L0 := hid (L0.out.old b1)
      have B0 := hid (B0.out.trans (b1.mono B0.out.size))
      have LX := hid (LX.out.old b1)
      have q0 := LX.out.c0
      have q1 := LX.out.c1
      clear b1
      have R := hid (show ParseG gs gl gb w (.returned (.tuple #[.agg #[.bool ng, .slice ar RL.length cr], .bool true])) ((w2.setCell ⟨w.heap.size, 0, none⟩ (.bool ng)).setCell ⟨w.heap.size, 1, none⟩ (.slice ar RL.length cr)) from
        ParseG_mk (by rw [HGS.out, (pb_yes hN.out).1, NEG.out.1]) (by rw [HGL.out, (pb_yes hN.out).2, HRL.out]) (by rw [HGB.out, hN.out]) B0lo.out (Ints_set (Ints_set IR.out (L0.out.ne (by decide) IR.out)) (L0.out.ne (by decide) IR.out)) ((B0.out.setCell (by simp) _).setCell (by simp) _))
      have f0 := L0.out.f0 0
      have f1 := L0.out.f0 1
      have p0 := L0.out.c0
      have p1 := L0.out.c1
      go_wp2
      exact bodyPost_ret (v := .tuple #[.agg #[.bool ng, .slice ar RL.length cr], .bool true]) (by simp [results, Tryz.results20, go_sem, p0, p1]) rfl R.out

theorem Obj_at {w' : World} {v : Value} {L : List Int} {B lo : Nat} (h : Ints w' B v L) (hlo : lo ≤ B) : Obj w' v L lo w'.heap.size := ⟨Ints_base h hlo, fun k hk => (Ints_lt h k hk).2⟩
theorem Obj_drew1 {w : World} {v : Value} {L : List Int} {lo hi : Nat} (h : Obj w v L lo hi) : Obj w.drew v L lo hi := ⟨h.ints, h.high⟩

end Go.Proofs.YtmghoedjcokhpaaGreatDoor
