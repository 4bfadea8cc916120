/- Merged: Prw Prs Pql. -/
import Derived.Test.YtmghoedjcokhpaaGreatDoorDcq
import Derived.Test.YtmghoedjcokhpaaGreatDoorRhi
import Derived.Test.YtmghoedjcokhpaaGreatDoorNb
import Derived.Deep.RegionHeld3
import Derived.Deep.DeepCutAuto
/- ParseRat: the program's walk. -/
namespace Go.Proofs.YtmghoedjcokhpaaGreatDoor
open Go.RowKit
open Go.Lib (hid)
set_option linter.unusedVariables false

def prS (s : ByteArray) : Bool := if prB s then pbS (prL s) else false
def prA (s : ByteArray) : List Int := if prB s then pbR (prL s) else []
def prE (s : ByteArray) : List Int := if prB s then prD s else []
theorem cell_low {w w' : World} {b i : Nat} {v : Value} (h : w.cell? ⟨b, i, none⟩ = some v) (hb : b < w.heap.size) (hw : Below w.heap.size w w') : w'.cell? ⟨b, i, none⟩ = some v := by
  have := hw.block b hb
  unfold World.cell? at h ⊢
  simp only [this]
  exact h
theorem rep_is_one : rep (Int.toNat 1) = [1] := by simp [rep]
/-- What both return. -/
def ParsQ (g : Bool) (A D : List Int) (b : Bool) (w : World) (e : Ending) (w' : World) : Prop := ∃ v u, e = .returned (.tuple #[.agg #[.bool g, v, u], .bool b]) ∧ ROb w' v u A D w.heap.size w'.heap.size ∧ Below w.heap.size w w'
theorem ParsQ_no {s : ByteArray} {w w' : World} (h : prB s = false) (hb : Below w.heap.size w w') :
    ParsQ (prS s) (prA s) (prE s) (prB s) w (.returned (.tuple #[.agg #[.bool false, .slice none 0 0, .slice none 0 0], .bool false])) w' := by
  have e1 : prS s = false := by unfold prS; rw [h]; rfl
  have e2 : prA s = [] := by unfold prA; rw [h]; rfl
  have e3 : prE s = [] := by unfold prE; rw [h]; rfl
  rw [e1, e2, e3, h]
  exact ⟨_, _, rfl, ⟨Obj_at (Ints_nil _ _) (Nat.le_refl _), Obj_at (Ints_nil _ _) (Nat.le_refl _), fun k hk => nil_ne k _ hk⟩, hb⟩
theorem ParsQ_yes {s : ByteArray} {w w' : World} {v u : Value} {b1 b2 : Nat} {G : Bool} {A D : List Int} (h : prB s = true) (hG : G = pbS (prL s)) (hA : A = pbR (prL s)) (hD : D = prD s) (h1 : Ints w' b1 v A) (h2 : Ints w' b2 u D) (hb1 : w.heap.size ≤ b1) (hb2 : w.heap.size ≤ b2) (hv : ∀ k, v.ownBlock = some k → k < b2) (hb : Below w.heap.size w w') :
    ParsQ (prS s) (prA s) (prE s) (prB s) w (.returned (.tuple #[.agg #[.bool G, v, u], .bool true])) w' := by
  have e1 : prS s = G := by unfold prS; rw [h, hG]; rfl
  have e2 : prA s = A := by unfold prA; rw [h, hA]; rfl
  have e3 : prE s = D := by unfold prE; rw [h, hD]; rfl
  rw [e1, e2, e3, h]
  exact ⟨_, _, rfl, ⟨Obj_at h1 hb1, Obj_at h2 hb2, fun k hk hj => by have := hv k hk; have := (Ints_lt h2 k hj).1; omega⟩, hb⟩

set_option maxRecDepth 100000 in
set_option maxHeartbeats 3200000 in
theorem impl_ParseRat (s : ByteArray) (hs : s.size ≤ 1048576) (w : World) (ml : Int) (hm : w.cell? ⟨2, 0, none⟩ = some (.int .i64 ml)) (h2 : 2 < w.heap.size) :
    Calls Tryz.prog 22 #[.string s] w (ParsQ (prS s) (prA s) (prE s) (prB s) w) := by
  have hz := pr_size s
  have KC := hid (fun (W : World) (h : W.cell? ⟨2, 0, none⟩ = some (.int .i64 ml)) => (Tryz.strings_Cut s (ByteArray.mk #[47]) ml W (by omega) h).mono fun e w' h => show e = .returned (.tuple #[.string (prL s), .string (prR s), .bool (prF s)]) ∧ ∃ n, w' = W.drewN n from h)
  have KP := hid (fun (W : World) => impl_ParseBigInt (prL s) (by omega) W)
  have KN := hid (fun (W : World) => impl_ParseNat (prR s) (by omega) W)
  have K1 := hid (fun (W : World) => show Calls Tryz.prog 56 #[.int .i64 1] W (OwnP [1] W) by have := impl_NatOf 1 (by decide) W; rwa [show rep (Int.toNat 1) = [1] from rep_is_one] at this)
  have lG : (pbR (prL s)).length ≤ 1048576 := by
    have := nok_len (nok_parseR (s := tailOf (prL s))); unfold pbR; split
    · omega
    · simp
  have lD : (parseR (prR s)).length ≤ 1048576 := by have := nok_len (nok_parseR (s := prR s)); omega
  obtain ⟨F, hF⟩ : ∃ x, x = prF s := ⟨_, rfl⟩
  have HF := hid hF
  rw [← hF] at KC
  clear hF
  obtain ⟨PB, hpb⟩ : ∃ x, x = pbB (prL s) := ⟨_, rfl⟩
  have HPB := hid hpb
  obtain ⟨PN, hpn⟩ : ∃ x, x = parseB (prR s) := ⟨_, rfl⟩
  have HPN := hid hpn
  obtain ⟨GS, hgs⟩ : ∃ x, x = pbS (prL s) := ⟨_, rfl⟩
  have HGS := hid hgs
  obtain ⟨GL, hgl⟩ : ∃ x, x = pbR (prL s) := ⟨_, rfl⟩
  have HGL := hid hgl
  obtain ⟨ZL, hrl⟩ : ∃ x, x = parseR (prR s) := ⟨_, rfl⟩
  have HRL := hid hrl
  rw [← hpb, ← hgs, ← hgl] at KP
  rw [← hgl] at lG
  rw [← hrl] at lD
  have hRL : ZL.length ≤ 1073741824 := by omega
  rw [← hpn, ← hrl] at KN
  clear hpb hpn hgs hgl hrl hz
  have B := hid (below_new' (w := w) (o := .cells #[.bool false, .slice none 0 0, .slice none 0 0] 40))
  have LP := hid (LocA.new (w := w) (T := 40) (cs := #[.bool false, .slice none 0 0, .slice none 0 0]))
  have hm := hid (show (w.alloc (.cells #[.bool false, .slice none 0 0, .slice none 0 0] 40)).cell? ⟨2, 0, none⟩ = some (.int .i64 ml) from cell_low hm h2 below_new')
  go_enter Tryz.func22, Tryz.ntmps22
  go_wp2_with fail
  have t0 : w.heap.size + 1 ≤ (w.alloc (.cells #[.bool false, .slice none 0 0, .slice none 0 0] 40)).heap.size := by simp
  generalize w.alloc (.cells #[.bool false, .slice none 0 0, .slice none 0 0] 40) = W0 at B LP hm t0 ⊢
  (with_reducible refine (KC.out _ hm.out).mono ?_)
  rintro e w1 ⟨rfl, n0, rfl⟩
  have B := hid (Below_drewN (d := n0) B.out)
  have LP := hid (LP.out.drewN n0)
  have t1 : W0.heap.size ≤ (W0.drewN n0).heap.size := Nat.le_refl _
  generalize W0.drewN n0 = w1 at B LP t1 ⊢
  clear hm
  go_wp2_with fail
  (with_reducible refine (KP.out _).mono ?_)
  rintro e w2 ⟨v1, rfl, i1, b1⟩
  have B := hid (B.out.trans (b1.mono B.out.size))
  have LP := hid (LP.out.old b1)
  have t2 : w1.heap.size ≤ w2.heap.size := b1.size
  have I1 := hid i1
  obtain ⟨a1, c1, rfl, -⟩ := Ints_form i1
  clear i1 b1
  have M1 := hid (show ∀ k, (Value.slice a1 GL.length c1).ownBlock = some k → k < w2.heap.size from fun k hk => (Ints_lt I1.out k hk).2)
  have I1 := hid (Ints_old I1.out (below_new' (o := .cells #[.bool GS, .slice a1 GL.length c1] 37)))
  have LP := hid (LP.out.old (below_new' (o := .cells #[.bool GS, .slice a1 GL.length c1] 37)))
  have LN := hid (LocA.new (w := w2) (T := 37) (cs := #[.bool GS, .slice a1 GL.length c1]))
  have B := hid (B.out.alloc B.out.size (.cells #[.bool GS, .slice a1 GL.length c1] 37))
  go_wp2_with fail
  (with_reducible refine (K1.out _).mono ?_)
  rintro e w3 ⟨v2, rfl, i2, b1⟩
  have B := hid (B.out.trans (b1.mono B.out.size))
  have LP := hid (LP.out.old b1)
  have t3 : w2.heap.size + 1 ≤ w3.heap.size := by have := b1.size; simp at this; omega
  have LN := hid (LN.out.old b1)
  have I1 := hid (Ints_old I1.out b1)
  have I2 := hid i2
  obtain ⟨a2, c2, rfl, -⟩ := Ints_form i2
  clear i2 b1
  cases F with
  | false =>
    have hO := hid (show prO s = true by unfold prO; rw [← HF.out]; rfl)
    have HD := hid (show prD s = [1] by unfold prD; rw [← HF.out]; rfl)
    have lD : [(1 : Int)].length ≤ 1048576 := by decide
    have q0 := LN.out.c 0 rfl
    have q1 := LN.out.c 1 rfl
    cases PB with
    | false =>
      have hno := hid (show prB s = false by unfold prB; rw [← HPB.out]; rfl)
      have R := hid (show ParsQ (prS s) (prA s) (prE s) (prB s) w (.returned (.tuple #[.agg #[.bool false, .slice none 0 0, .slice none 0 0], .bool false])) (((((w3).setCell ⟨w.heap.size, 0, none⟩ (.bool false)).setCell ⟨w.heap.size, 1, none⟩ (.slice none 0 0)).setCell ⟨w.heap.size, 2, none⟩ (.slice none 0 0)).alloc (.cells #[.bool GS, .slice a1 GL.length c1, .slice a2 1 c2] 40)) from ParsQ_no hno.out ((((B.out.setCell (by simp) _).setCell (by simp) _).setCell (by simp) _).alloc (by simp [World.setCell]; omega) _))
      have f0 := LP.out.f 0
      have f1 := LP.out.f 1
      have f2 := LP.out.f 2
      have p0 := LP.out.c 0 rfl
      have p1 := LP.out.c 1 rfl
      have p2 := LP.out.c 2 rfl
      have hlt := LP.out.lt
      go_wp2
      exact bodyPost_ret (v := .tuple #[.agg #[.bool false, .slice none 0 0, .slice none 0 0], .bool false]) (by simp [results, Tryz.results22, go_sem, p0, p1, p2, hlt]) rfl R.out
    | true =>
      have I1 := hid (addPre (o := (.cells #[.bool GS, .slice a1 GL.length c1, .slice a2 1 c2] 40)) I1.out)
      have I2 := hid (addPre (o := (.cells #[.bool GS, .slice a1 GL.length c1, .slice a2 1 c2] 40)) I2.out)
      have LP := hid (LP.out.new1 (o := (.cells #[.bool GS, .slice a1 GL.length c1, .slice a2 1 c2] 40)))
      have LR := hid (LocA.new (w := w3) (T := 40) (cs := #[.bool GS, .slice a1 GL.length c1, .slice a2 1 c2]))
      have B := hid (B.out.alloc B.out.size (.cells #[.bool GS, .slice a1 GL.length c1, .slice a2 1 c2] 40))
      have r0 := LR.out.c 0 rfl
      have r1 := LR.out.c 1 rfl
      have r2 := LR.out.c 2 rfl
      cases hk : rok GS GL [1] with
      | false =>
        have KK := hid (fun (W : World) (h : RL W (.slice a1 GL.length c1) (.slice a2 1 c2) GL [1]) => (impl_RatOk GS _ _ GL [1] W h))
        rw [hk] at KK
        have hb := hid (show prB s = false by unfold prB; rw [← HPB.out, hO.out, ← HGS.out, ← HGL.out, HD.out, hk]; rfl)
        clear hk
        go_wp2_with fail
        (with_reducible refine (KK.out _ ⟨⟨_, I1.out⟩, ⟨_, I2.out⟩, lG, lD⟩).mono ?_)
        clear r0 r1 r2 q0 q1
        rintro e w9 ⟨rfl, b1⟩
        have t9 : w3.heap.size + 1 ≤ w9.heap.size := by have := b1.size; simp at this; omega
        have I1 := hid (Ints_old I1.out b1)
        have I2 := hid (Ints_old I2.out b1)
        have LP := hid (LP.out.old b1)
        have LR := hid (LR.out.old b1)
        have B := hid (B.out.trans (b1.mono B.out.size))
        clear b1
        have q0 := LR.out.c 0 rfl
        have q1 := LR.out.c 1 rfl
        have q2 := LR.out.c 2 rfl
        have R := hid (show ParsQ (prS s) (prA s) (prE s) (prB s) w (.returned (.tuple #[.agg #[.bool false, .slice none 0 0, .slice none 0 0], .bool false])) ((((w9).setCell ⟨w.heap.size, 0, none⟩ (.bool false)).setCell ⟨w.heap.size, 1, none⟩ (.slice none 0 0)).setCell ⟨w.heap.size, 2, none⟩ (.slice none 0 0)) from ParsQ_no hb.out (((B.out.setCell (by simp) _).setCell (by simp) _).setCell (by simp) _))
        have f0 := LP.out.f 0
        have f1 := LP.out.f 1
        have f2 := LP.out.f 2
        have p0 := LP.out.c 0 rfl
        have p1 := LP.out.c 1 rfl
        have p2 := LP.out.c 2 rfl
        have hlt := LP.out.lt
        go_wp2
        exact bodyPost_ret (v := .tuple #[.agg #[.bool false, .slice none 0 0, .slice none 0 0], .bool false]) (by simp [results, Tryz.results22, go_sem, p0, p1, p2]) rfl R.out
      | true =>
        have KK := hid (fun (W : World) (h : RL W (.slice a1 GL.length c1) (.slice a2 1 c2) GL [1]) => (impl_RatOk GS _ _ GL [1] W h))
        rw [hk] at KK
        have hb := hid (show prB s = true by unfold prB; rw [← HPB.out, hO.out, ← HGS.out, ← HGL.out, HD.out, hk]; rfl)
        clear hk
        go_wp2_with fail
        (with_reducible refine (KK.out _ ⟨⟨_, I1.out⟩, ⟨_, I2.out⟩, lG, lD⟩).mono ?_)
        clear r0 r1 r2 q0 q1
        rintro e w9 ⟨rfl, b1⟩
        have t9 : w3.heap.size + 1 ≤ w9.heap.size := by have := b1.size; simp at this; omega
        have I1 := hid (Ints_old I1.out b1)
        have I2 := hid (Ints_old I2.out b1)
        have LP := hid (LP.out.old b1)
        have LR := hid (LR.out.old b1)
        have B := hid (B.out.trans (b1.mono B.out.size))
        clear b1
        have q0 := LR.out.c 0 rfl
        have q1 := LR.out.c 1 rfl
        have q2 := LR.out.c 2 rfl
        have n1 := LP.out.ne (by decide) I1.out
        have n2 := LP.out.ne (by decide) I2.out
        have J1 := Ints_set (Ints_set (Ints_set I1.out n1 (i := 0) (u := .bool GS)) n1 (i := 1) (u := .slice a1 GL.length c1)) n1 (i := 2) (u := .slice a2 1 c2)
        have J2 := Ints_set (Ints_set (Ints_set I2.out n2 (i := 0) (u := .bool GS)) n2 (i := 1) (u := .slice a1 GL.length c1)) n2 (i := 2) (u := .slice a2 1 c2)
        have R := hid (show ParsQ (prS s) (prA s) (prE s) (prB s) w (.returned (.tuple #[.agg #[.bool GS, .slice a1 GL.length c1, .slice a2 1 c2], .bool true])) ((((w9).setCell ⟨w.heap.size, 0, none⟩ (.bool GS)).setCell ⟨w.heap.size, 1, none⟩ (.slice a1 GL.length c1)).setCell ⟨w.heap.size, 2, none⟩ (.slice a2 1 c2)) from ParsQ_yes (w := w) (w' := ((((w9).setCell ⟨w.heap.size, 0, none⟩ (.bool GS)).setCell ⟨w.heap.size, 1, none⟩ (.slice a1 GL.length c1)).setCell ⟨w.heap.size, 2, none⟩ (.slice a2 1 c2))) hb.out HGS.out HGL.out HD.out.symm J1 J2 (by omega) (by first | omega | (simp; omega)) (fun k hk => by have := M1.out k hk; first | omega | (simp; omega)) (((B.out.setCell (by simp) _).setCell (by simp) _).setCell (by simp) _))
        clear n1 n2 J1 J2
        have f0 := LP.out.f 0
        have f1 := LP.out.f 1
        have f2 := LP.out.f 2
        have p0 := LP.out.c 0 rfl
        have p1 := LP.out.c 1 rfl
        have p2 := LP.out.c 2 rfl
        go_wp2
        exact bodyPost_ret (v := .tuple #[.agg #[.bool GS, .slice a1 GL.length c1, .slice a2 1 c2], .bool true]) (by simp [results, Tryz.results22, go_sem, p0, p1, p2]) rfl R.out
  | true =>
    go_wp2_with fail
    (with_reducible refine (KN.out _).mono ?_)
    rintro e w4 ⟨v3, rfl, i3, b1⟩
    have B := hid (B.out.trans (b1.mono B.out.size))
    have LP := hid (LP.out.old b1)
    have LN := hid (LN.out.old b1)
    have t4 : w3.heap.size ≤ w4.heap.size := b1.size
    have I1 := hid (Ints_old I1.out b1)
    have I2 := hid i3
    obtain ⟨a3, c3, rfl, -⟩ := Ints_form i3
    clear i3 b1
    cases PN with
    | false =>
      have hO := hid (show prO s = false by unfold prO; rw [← HF.out, ← HPN.out]; rfl)
      have q0 := LN.out.c 0 rfl
      have q1 := LN.out.c 1 rfl
      cases PB with
      | false =>
        have hno := hid (show prB s = false by unfold prB; rw [← HPB.out]; rfl)
        have R := hid (show ParsQ (prS s) (prA s) (prE s) (prB s) w (.returned (.tuple #[.agg #[.bool false, .slice none 0 0, .slice none 0 0], .bool false])) (((((w4).setCell ⟨w.heap.size, 0, none⟩ (.bool false)).setCell ⟨w.heap.size, 1, none⟩ (.slice none 0 0)).setCell ⟨w.heap.size, 2, none⟩ (.slice none 0 0)).alloc (.cells #[.bool GS, .slice a1 GL.length c1, .slice a3 ZL.length c3] 40)) from ParsQ_no hno.out ((((B.out.setCell (by simp) _).setCell (by simp) _).setCell (by simp) _).alloc (by simp [World.setCell]; omega) _))
        have f0 := LP.out.f 0
        have f1 := LP.out.f 1
        have f2 := LP.out.f 2
        have p0 := LP.out.c 0 rfl
        have p1 := LP.out.c 1 rfl
        have p2 := LP.out.c 2 rfl
        have hlt := LP.out.lt
        go_wp2
        exact bodyPost_ret (v := .tuple #[.agg #[.bool false, .slice none 0 0, .slice none 0 0], .bool false]) (by simp [results, Tryz.results22, go_sem, p0, p1, p2, hlt]) rfl R.out
      | true =>
        have hno := hid (show prB s = false by unfold prB; rw [hO.out]; simp)
        have R := hid (show ParsQ (prS s) (prA s) (prE s) (prB s) w (.returned (.tuple #[.agg #[.bool false, .slice none 0 0, .slice none 0 0], .bool false])) (((((w4).setCell ⟨w.heap.size, 0, none⟩ (.bool false)).setCell ⟨w.heap.size, 1, none⟩ (.slice none 0 0)).setCell ⟨w.heap.size, 2, none⟩ (.slice none 0 0)).alloc (.cells #[.bool GS, .slice a1 GL.length c1, .slice a3 ZL.length c3] 40)) from ParsQ_no hno.out ((((B.out.setCell (by simp) _).setCell (by simp) _).setCell (by simp) _).alloc (by simp [World.setCell]; omega) _))
        have f0 := LP.out.f 0
        have f1 := LP.out.f 1
        have f2 := LP.out.f 2
        have p0 := LP.out.c 0 rfl
        have p1 := LP.out.c 1 rfl
        have p2 := LP.out.c 2 rfl
        have hlt := LP.out.lt
        go_wp2
        exact bodyPost_ret (v := .tuple #[.agg #[.bool false, .slice none 0 0, .slice none 0 0], .bool false]) (by simp [results, Tryz.results22, go_sem, p0, p1, p2, hlt]) rfl R.out
    | true =>
      have KI := hid (fun (W : World) (h : Ints W w3.heap.size (.slice a3 ZL.length c3) ZL) => isOne_own (.slice a3 ZL.length c3) ZL hRL w3.heap.size W h)
      obtain ⟨y, hy⟩ : ∃ y, y = decide (ZL = [1]) := ⟨_, rfl⟩
      rw [← hy] at KI
      have hO := hid (show prO s = !y by unfold prO; rw [← HF.out, ← HPN.out, ← HRL.out, hy]; rfl)
      have HD := hid (show prD s = ZL by unfold prD; rw [← HF.out]; exact HRL.out.symm)
      clear hy
      go_wp2_with fail
      (with_reducible refine (KI.out _ I2.out).mono ?_)
      rintro e w5 ⟨rfl, rfl⟩
      cases y with
      | true =>
        have q0 := LN.out.c 0 rfl
        have q1 := LN.out.c 1 rfl
        cases PB with
        | false =>
          have hno := hid (show prB s = false by unfold prB; rw [← HPB.out]; rfl)
          have R := hid (show ParsQ (prS s) (prA s) (prE s) (prB s) w (.returned (.tuple #[.agg #[.bool false, .slice none 0 0, .slice none 0 0], .bool false])) (((((w4).setCell ⟨w.heap.size, 0, none⟩ (.bool false)).setCell ⟨w.heap.size, 1, none⟩ (.slice none 0 0)).setCell ⟨w.heap.size, 2, none⟩ (.slice none 0 0)).alloc (.cells #[.bool GS, .slice a1 GL.length c1, .slice a3 ZL.length c3] 40)) from ParsQ_no hno.out ((((B.out.setCell (by simp) _).setCell (by simp) _).setCell (by simp) _).alloc (by simp [World.setCell]; omega) _))
          have f0 := LP.out.f 0
          have f1 := LP.out.f 1
          have f2 := LP.out.f 2
          have p0 := LP.out.c 0 rfl
          have p1 := LP.out.c 1 rfl
          have p2 := LP.out.c 2 rfl
          have hlt := LP.out.lt
          go_wp2
          exact bodyPost_ret (v := .tuple #[.agg #[.bool false, .slice none 0 0, .slice none 0 0], .bool false]) (by simp [results, Tryz.results22, go_sem, p0, p1, p2, hlt]) rfl R.out
        | true =>
          have hno := hid (show prB s = false by unfold prB; rw [hO.out]; simp)
          have R := hid (show ParsQ (prS s) (prA s) (prE s) (prB s) w (.returned (.tuple #[.agg #[.bool false, .slice none 0 0, .slice none 0 0], .bool false])) (((((w4).setCell ⟨w.heap.size, 0, none⟩ (.bool false)).setCell ⟨w.heap.size, 1, none⟩ (.slice none 0 0)).setCell ⟨w.heap.size, 2, none⟩ (.slice none 0 0)).alloc (.cells #[.bool GS, .slice a1 GL.length c1, .slice a3 ZL.length c3] 40)) from ParsQ_no hno.out ((((B.out.setCell (by simp) _).setCell (by simp) _).setCell (by simp) _).alloc (by simp [World.setCell]; omega) _))
          have f0 := LP.out.f 0
          have f1 := LP.out.f 1
          have f2 := LP.out.f 2
          have p0 := LP.out.c 0 rfl
          have p1 := LP.out.c 1 rfl
          have p2 := LP.out.c 2 rfl
          have hlt := LP.out.lt
          go_wp2
          exact bodyPost_ret (v := .tuple #[.agg #[.bool false, .slice none 0 0, .slice none 0 0], .bool false]) (by simp [results, Tryz.results22, go_sem, p0, p1, p2, hlt]) rfl R.out
      | false =>
        have q0 := LN.out.c 0 rfl
        have q1 := LN.out.c 1 rfl
        cases PB with
        | false =>
          have hno := hid (show prB s = false by unfold prB; rw [← HPB.out]; rfl)
          have R := hid (show ParsQ (prS s) (prA s) (prE s) (prB s) w (.returned (.tuple #[.agg #[.bool false, .slice none 0 0, .slice none 0 0], .bool false])) (((((w4).setCell ⟨w.heap.size, 0, none⟩ (.bool false)).setCell ⟨w.heap.size, 1, none⟩ (.slice none 0 0)).setCell ⟨w.heap.size, 2, none⟩ (.slice none 0 0)).alloc (.cells #[.bool GS, .slice a1 GL.length c1, .slice a3 ZL.length c3] 40)) from ParsQ_no hno.out ((((B.out.setCell (by simp) _).setCell (by simp) _).setCell (by simp) _).alloc (by simp [World.setCell]; omega) _))
          have f0 := LP.out.f 0
          have f1 := LP.out.f 1
          have f2 := LP.out.f 2
          have p0 := LP.out.c 0 rfl
          have p1 := LP.out.c 1 rfl
          have p2 := LP.out.c 2 rfl
          have hlt := LP.out.lt
          go_wp2
          exact bodyPost_ret (v := .tuple #[.agg #[.bool false, .slice none 0 0, .slice none 0 0], .bool false]) (by simp [results, Tryz.results22, go_sem, p0, p1, p2, hlt]) rfl R.out
        | true =>
          have I1 := hid (addPre (o := (.cells #[.bool GS, .slice a1 GL.length c1, .slice a3 ZL.length c3] 40)) I1.out)
          have I2 := hid (addPre (o := (.cells #[.bool GS, .slice a1 GL.length c1, .slice a3 ZL.length c3] 40)) I2.out)
          have LP := hid (LP.out.new1 (o := (.cells #[.bool GS, .slice a1 GL.length c1, .slice a3 ZL.length c3] 40)))
          have LR := hid (LocA.new (w := w4) (T := 40) (cs := #[.bool GS, .slice a1 GL.length c1, .slice a3 ZL.length c3]))
          have B := hid (B.out.alloc B.out.size (.cells #[.bool GS, .slice a1 GL.length c1, .slice a3 ZL.length c3] 40))
          have r0 := LR.out.c 0 rfl
          have r1 := LR.out.c 1 rfl
          have r2 := LR.out.c 2 rfl
          cases hk : rok GS GL ZL with
          | false =>
            have KK := hid (fun (W : World) (h : RL W (.slice a1 GL.length c1) (.slice a3 ZL.length c3) GL ZL) => (impl_RatOk GS _ _ GL ZL W h))
            rw [hk] at KK
            have hb := hid (show prB s = false by unfold prB; rw [← HPB.out, hO.out, ← HGS.out, ← HGL.out, HD.out, hk]; rfl)
            clear hk
            go_wp2_with fail
            (with_reducible refine (KK.out _ ⟨⟨_, I1.out⟩, ⟨_, I2.out⟩, lG, lD⟩).mono ?_)
            clear r0 r1 r2 q0 q1
            rintro e w9 ⟨rfl, b1⟩
            have t9 : w4.heap.size + 1 ≤ w9.heap.size := by have := b1.size; simp at this; omega
            have I1 := hid (Ints_old I1.out b1)
            have I2 := hid (Ints_old I2.out b1)
            have LP := hid (LP.out.old b1)
            have LR := hid (LR.out.old b1)
            have B := hid (B.out.trans (b1.mono B.out.size))
            clear b1
            have q0 := LR.out.c 0 rfl
            have q1 := LR.out.c 1 rfl
            have q2 := LR.out.c 2 rfl
            have R := hid (show ParsQ (prS s) (prA s) (prE s) (prB s) w (.returned (.tuple #[.agg #[.bool false, .slice none 0 0, .slice none 0 0], .bool false])) ((((w9).setCell ⟨w.heap.size, 0, none⟩ (.bool false)).setCell ⟨w.heap.size, 1, none⟩ (.slice none 0 0)).setCell ⟨w.heap.size, 2, none⟩ (.slice none 0 0)) from ParsQ_no hb.out (((B.out.setCell (by simp) _).setCell (by simp) _).setCell (by simp) _))
            have f0 := LP.out.f 0
            have f1 := LP.out.f 1
            have f2 := LP.out.f 2
            have p0 := LP.out.c 0 rfl
            have p1 := LP.out.c 1 rfl
            have p2 := LP.out.c 2 rfl
            have hlt := LP.out.lt
            go_wp2
            exact bodyPost_ret (v := .tuple #[.agg #[.bool false, .slice none 0 0, .slice none 0 0], .bool false]) (by simp [results, Tryz.results22, go_sem, p0, p1, p2]) rfl R.out
          | true =>
            have KK := hid (fun (W : World) (h : RL W (.slice a1 GL.length c1) (.slice a3 ZL.length c3) GL ZL) => (impl_RatOk GS _ _ GL ZL W h))
            rw [hk] at KK
            have hb := hid (show prB s = true by unfold prB; rw [← HPB.out, hO.out, ← HGS.out, ← HGL.out, HD.out, hk]; rfl)
            clear hk
            go_wp2_with fail
            (with_reducible refine (KK.out _ ⟨⟨_, I1.out⟩, ⟨_, I2.out⟩, lG, lD⟩).mono ?_)
            clear r0 r1 r2 q0 q1
            rintro e w9 ⟨rfl, b1⟩
            have t9 : w4.heap.size + 1 ≤ w9.heap.size := by have := b1.size; simp at this; omega
            have I1 := hid (Ints_old I1.out b1)
            have I2 := hid (Ints_old I2.out b1)
            have LP := hid (LP.out.old b1)
            have LR := hid (LR.out.old b1)
            have B := hid (B.out.trans (b1.mono B.out.size))
            clear b1
            have q0 := LR.out.c 0 rfl
            have q1 := LR.out.c 1 rfl
            have q2 := LR.out.c 2 rfl
            have n1 := LP.out.ne (by decide) I1.out
            have n2 := LP.out.ne (by decide) I2.out
            have J1 := Ints_set (Ints_set (Ints_set I1.out n1 (i := 0) (u := .bool GS)) n1 (i := 1) (u := .slice a1 GL.length c1)) n1 (i := 2) (u := .slice a3 ZL.length c3)
            have J2 := Ints_set (Ints_set (Ints_set I2.out n2 (i := 0) (u := .bool GS)) n2 (i := 1) (u := .slice a1 GL.length c1)) n2 (i := 2) (u := .slice a3 ZL.length c3)
            have R := hid (show ParsQ (prS s) (prA s) (prE s) (prB s) w (.returned (.tuple #[.agg #[.bool GS, .slice a1 GL.length c1, .slice a3 ZL.length c3], .bool true])) ((((w9).setCell ⟨w.heap.size, 0, none⟩ (.bool GS)).setCell ⟨w.heap.size, 1, none⟩ (.slice a1 GL.length c1)).setCell ⟨w.heap.size, 2, none⟩ (.slice a3 ZL.length c3)) from ParsQ_yes (w := w) (w' := ((((w9).setCell ⟨w.heap.size, 0, none⟩ (.bool GS)).setCell ⟨w.heap.size, 1, none⟩ (.slice a1 GL.length c1)).setCell ⟨w.heap.size, 2, none⟩ (.slice a3 ZL.length c3))) hb.out HGS.out HGL.out HD.out.symm J1 J2 (by omega) (by first | omega | (simp; omega)) (fun k hk => by have := M1.out k hk; first | omega | (simp; omega)) (((B.out.setCell (by simp) _).setCell (by simp) _).setCell (by simp) _))
            clear n1 n2 J1 J2
            have f0 := LP.out.f 0
            have f1 := LP.out.f 1
            have f2 := LP.out.f 2
            have p0 := LP.out.c 0 rfl
            have p1 := LP.out.c 1 rfl
            have p2 := LP.out.c 2 rfl
            go_wp2
            exact bodyPost_ret (v := .tuple #[.agg #[.bool GS, .slice a1 GL.length c1, .slice a3 ZL.length c3], .bool true]) (by simp [results, Tryz.results22, go_sem, p0, p1, p2]) rfl R.out
end Go.Proofs.YtmghoedjcokhpaaGreatDoor

/- ParseRat: the reference's walk. -/
namespace Go.Proofs.YtmghoedjcokhpaaGreatDoor
open Go.RowKit
open Go.Lib (hid)
set_option linter.unusedVariables false

theorem cut_size {s : ByteArray} {p : Nat → Bool} : ∀ k, ∀ x ∈ (cutTo s p k).1, x.size ≤ s.size
  | 0, x, h => by simp [cutTo] at h
  | k + 1, x, h => by
    by_cases hp : p k = true
    · rw [cutTo_yes hp] at h
      rcases List.mem_append.1 h with h | h
      · exact cut_size k x h
      · rw [List.mem_singleton.1 h, ByteArray.size_extract]; omega
    · rw [cutTo_no (by simpa using hp)] at h
      exact cut_size k x h
theorem piece_size {s t : ByteArray} {x : ByteArray} (h : x ∈ pieces s t) : x.size ≤ s.size := by
  unfold pieces at h
  rcases List.mem_append.1 h with h | h
  · exact cut_size _ x h
  · rw [List.mem_singleton.1 h, ByteArray.size_extract]; omega
theorem getD_mem {l : List ByteArray} {i : Nat} (h : i < l.length) : l.getD i (ByteArray.mk #[]) ∈ l := by
  rw [List.getD_eq_getElem?_getD, List.getElem?_eq_getElem h]
  exact List.getElem_mem h
theorem getD_at {l : List ByteArray} {i : Nat} (h : i < l.length) : l.getD i (ByteArray.mk #[]) = l[i] := by
  rw [List.getD_eq_getElem?_getD, List.getElem?_eq_getElem h]
  rfl

theorem toList_ne {x y : ByteArray} (h : ¬ x = y) : x.toList ≠ y.toList := by
  rw [ByteArray.toList_eq, ByteArray.toList_eq]
  exact fun e => h (list_inj e)
theorem toList_no {x : ByteArray} (h : ¬ x = ByteArray.mk #[]) : ¬ x.toList = [] := by
  intro e
  have := nonempty_iff x
  rw [e] at this
  have h0 : x.size = 0 := by
    have h1 : decide (0 < x.size) = false := this.symm
    have := of_decide_eq_false h1
    omega
  have hl : x.data.toList.length = x.size := by simp
  exact h (list_inj (List.eq_nil_of_length_eq_zero (by omega)))

set_option maxRecDepth 100000 in
set_option maxHeartbeats 3200000 in
theorem spec_ParseRat (s : ByteArray) (hs : s.size ≤ 1048576) (w : World) :
    Calls Tryz.prog 41 #[.string s] w (ParsQ (prS s) (prA s) (prE s) (prB s) w) := by
  have hz := pr_size s
  obtain ⟨W, hW⟩ : ∃ W, W = pieces s (ByteArray.mk #[47]) := ⟨_, rfl⟩
  have hW1 : 1 ≤ W.length := by rw [hW]; exact (pieces_len _ _).1
  have hW2 : W.length ≤ 1048577 := by rw [hW]; have := (pieces_len s (ByteArray.mk #[47])).2; omega
  obtain ⟨P0, P1, P2⟩ := pr_same s W hW
  have P1 := hid P1
  have P2 := hid P2
  have KC := hid (fun (V : World) => show Calls Tryz.prog 40 #[.string s, .string (ByteArray.mk #[47])] V (fun e w' => ∃ v, e = .returned v ∧ Strs w' 9 V.heap.size v W ∧ Below V.heap.size V w') from hW ▸ spec_SplitAny s (ByteArray.mk #[47]) hs (by decide) V)
  have hX1 : 1 < W.length → (W.getD 1 (ByteArray.mk #[])).size ≤ 1048576 := fun h => Nat.le_trans (piece_size (s := s) (t := ByteArray.mk #[47]) (by rw [← hW]; exact getD_mem h)) hs
  have KP := hid (fun (V : World) => spec_ParseBigInt (prL s) (by omega) V)
  have KN := hid (fun (V : World) (h : 1 < W.length) => spec_ParseNat (W.getD 1 (ByteArray.mk #[])) (hX1 h) V)
  have lG : (pbR (prL s)).length ≤ 1048576 := by
    have := nok_len (nok_parseR (s := tailOf (prL s))); unfold pbR; split
    · omega
    · simp
  have lD : (parseR (W.getD 1 (ByteArray.mk #[]))).length ≤ 1048576 := by have := nok_len (nok_parseR (s := W.getD 1 (ByteArray.mk #[]))); omega
  have G0 := hid (P0.symm.trans (getD_at (i := 0) (by omega)))
  have G1 := hid (fun h : 1 < W.length => getD_at (l := W) (i := 1) h)
  obtain ⟨X, hX⟩ : ∃ x, x = W.getD 1 (ByteArray.mk #[]) := ⟨_, rfl⟩
  have HX := hid hX
  rw [← hX] at KN lD G1
  clear hX1 hX
  obtain ⟨PB, hpb⟩ : ∃ x, x = pbB (prL s) := ⟨_, rfl⟩
  have HPB := hid hpb
  obtain ⟨PN, hpn⟩ : ∃ x, x = parseB X := ⟨_, rfl⟩
  have HPN := hid hpn
  obtain ⟨GS, hgs⟩ : ∃ x, x = pbS (prL s) := ⟨_, rfl⟩
  have HGS := hid hgs
  obtain ⟨GL, hgl⟩ : ∃ x, x = pbR (prL s) := ⟨_, rfl⟩
  have HGL := hid hgl
  obtain ⟨ZL, hrl⟩ : ∃ x, x = parseR X := ⟨_, rfl⟩
  have HRL := hid hrl
  rw [← hpb, ← hgs, ← hgl] at KP
  rw [← hpn, ← hrl] at KN
  rw [← hgl] at lG
  rw [← hrl] at lD
  rw [← hpb, ← hgs, ← hgl] at P1
  clear hpb hpn hgs hgl hrl hz P0 hW
  have B := hid (below_new' (w := w) (o := .cells #[.bool false, .slice none 0 0, .slice none 0 0] 40))
  have LP := hid (LocA.new (w := w) (T := 40) (cs := #[.bool false, .slice none 0 0, .slice none 0 0]))
  go_enter Tryz.func41, Tryz.ntmps41
  go_wp2_with fail
  have t0 : w.heap.size + 1 ≤ (w.alloc (.cells #[.bool false, .slice none 0 0, .slice none 0 0] 40)).heap.size := by simp
  generalize w.alloc (.cells #[.bool false, .slice none 0 0, .slice none 0 0] 40) = W0 at B LP t0 ⊢
  (with_reducible refine (KC.out _).mono ?_)
  rintro e w1 ⟨v0, rfl, st, b1⟩
  have B := hid (B.out.trans (b1.mono B.out.size))
  have LP := hid (LP.out.old b1)
  have t1 : W0.heap.size ≤ w1.heap.size := b1.size
  rcases Strs_cases st with ⟨-, h0⟩ | ⟨g, cap, rfl, g1, g2, g3⟩
  · rw [h0] at hW1; exact absurd hW1 (by decide)
  have C0 := hid (show w1.cell? ⟨g, 0, none⟩ = some (.string (prL s)) by rw [G0.out]; exact Strs_cell st (by omega))
  have C1 := hid (show 1 < W.length → w1.cell? ⟨g, 1, none⟩ = some (.string X) from fun h => by rw [G1.out h]; exact Strs_cell st h)
  clear st b1
  obtain ⟨N, hN⟩ : ∃ N, N = W.length := ⟨_, rfl⟩
  have HN := hid hN
  rw [← hN] at hW1 hW2 KN C1 g3 ⊢
  clear hN
  have i0 : (0 : Int) < N := by omega
  have c0 := C0.out
  go_wp2_with fail
  (with_reducible refine (KP.out _).mono ?_)
  clear c0
  rintro e w2 ⟨v1, rfl, i1, b1⟩
  have B := hid (B.out.trans (b1.mono B.out.size))
  have LP := hid (LP.out.old b1)
  have C1 := hid (fun h : 1 < N => cell_low (C1.out h) g2 b1)
  have t2 : w1.heap.size ≤ w2.heap.size := b1.size
  have g2 : g < w2.heap.size := by omega
  obtain ⟨a1, c1, rfl, -⟩ := Ints_form i1
  have M1 := hid (show ∀ k, (Value.slice a1 GL.length c1).ownBlock = some k → k < w2.heap.size from fun k hk => (Ints_lt i1 k hk).2)
  have I1 := hid (addPre (o := (.cells #[.int .i64 1] 3)) (addPre (o := (.cells #[.bool GS, .slice a1 GL.length c1] 37)) i1))
  have LP := hid ((LP.out.new1 (o := (.cells #[.bool GS, .slice a1 GL.length c1] 37))).new1 (o := (.cells #[.int .i64 1] 3)))
  have LN := hid ((LocA.new (w := w2) (T := 37) (cs := #[.bool GS, .slice a1 GL.length c1])).new1 (o := (.cells #[.int .i64 1] 3)))
  have C1 := hid (fun h : 1 < N => cell_low (cell_low (C1.out h) g2 (below_new' (o := (.cells #[.bool GS, .slice a1 GL.length c1] 37)))) (by simp; omega) (below_new' (o := (.cells #[.int .i64 1] 3))))
  have B := hid ((B.out.alloc B.out.size (.cells #[.bool GS, .slice a1 GL.length c1] 37)).alloc (by simp; omega) (.cells #[.int .i64 1] 3))
  have I2 := hid (show Ints ((w2.alloc (.cells #[.bool GS, .slice a1 GL.length c1] 37)).alloc (.cells #[.int .i64 1] 3)) w2.heap.size (.slice (some ⟨w2.heap.size + 1, 0, none⟩) 1 1) [1] from by have := Ints_lit1 (w := w2.alloc (.cells #[.bool GS, .slice a1 GL.length c1] 37)) (B := w2.heap.size) 1 (by simp); simpa using this)
  have t3 : w2.heap.size + 2 = ((w2.alloc (.cells #[.bool GS, .slice a1 GL.length c1] 37)).alloc (.cells #[.int .i64 1] 3)).heap.size := by simp
  clear i1 b1
  by_cases hl : 1 < N
  · have hO := hid (show spO W = PN by unfold spO; rw [if_pos (by rw [← HN.out]; exact hl), ← HX.out, ← HPN.out])
    have HD := hid (show spD W = ZL by unfold spD; rw [if_pos (by rw [← HN.out]; exact hl), ← HX.out, ← HRL.out])
    have i1 : (1 : Int) < N := by omega
    have c1' := C1.out hl
    go_wp2_with fail
    (with_reducible refine (KN.out _ hl).mono ?_)
    clear c1'
    rintro e w4 ⟨v3, rfl, i3, b1⟩
    have B := hid (B.out.trans (b1.mono B.out.size))
    have LP := hid (LP.out.old b1)
    have LN := hid (LN.out.old b1)
    have t4 : w2.heap.size + 2 ≤ w4.heap.size := by have := b1.size; omega
    have I1 := hid (Ints_old I1.out b1)
    rw [← t3] at i3
    have I2 := hid i3
    obtain ⟨a3, c3, rfl, -⟩ := Ints_form i3
    clear i3 b1 t3
    cases PN with
    | false =>
      have q0 := LN.out.c 0 rfl
      have q1 := LN.out.c 1 rfl
      cases PB with
      | false =>
        have hno := hid (show prB s = false by rw [← P1.out]; rfl)
        have R := hid (show ParsQ (prS s) (prA s) (prE s) (prB s) w (.returned (.tuple #[.agg #[.bool false, .slice none 0 0, .slice none 0 0], .bool false])) (((((w4).setCell ⟨w.heap.size, 0, none⟩ (.bool false)).setCell ⟨w.heap.size, 1, none⟩ (.slice none 0 0)).setCell ⟨w.heap.size, 2, none⟩ (.slice none 0 0)).alloc (.cells #[.bool GS, .slice a1 GL.length c1, .slice a3 ZL.length c3] 40)) from ParsQ_no hno.out ((((B.out.setCell (by simp) _).setCell (by simp) _).setCell (by simp) _).alloc (by simp [World.setCell]; omega) _))
        have f0 := LP.out.f 0
        have f1 := LP.out.f 1
        have f2 := LP.out.f 2
        have p0 := LP.out.c 0 rfl
        have p1 := LP.out.c 1 rfl
        have p2 := LP.out.c 2 rfl
        have hlt := LP.out.lt
        go_wp2
        exact bodyPost_ret (v := .tuple #[.agg #[.bool false, .slice none 0 0, .slice none 0 0], .bool false]) (by simp [results, Tryz.results41, go_sem, p0, p1, p2, hlt]) rfl R.out
      | true =>
        have hno := hid (show prB s = false by rw [← P1.out, hO.out]; simp)
        have R := hid (show ParsQ (prS s) (prA s) (prE s) (prB s) w (.returned (.tuple #[.agg #[.bool false, .slice none 0 0, .slice none 0 0], .bool false])) (((((w4).setCell ⟨w.heap.size, 0, none⟩ (.bool false)).setCell ⟨w.heap.size, 1, none⟩ (.slice none 0 0)).setCell ⟨w.heap.size, 2, none⟩ (.slice none 0 0)).alloc (.cells #[.bool GS, .slice a1 GL.length c1, .slice a3 ZL.length c3] 40)) from ParsQ_no hno.out ((((B.out.setCell (by simp) _).setCell (by simp) _).setCell (by simp) _).alloc (by simp [World.setCell]; omega) _))
        have f0 := LP.out.f 0
        have f1 := LP.out.f 1
        have f2 := LP.out.f 2
        have p0 := LP.out.c 0 rfl
        have p1 := LP.out.c 1 rfl
        have p2 := LP.out.c 2 rfl
        have hlt := LP.out.lt
        go_wp2
        exact bodyPost_ret (v := .tuple #[.agg #[.bool false, .slice none 0 0, .slice none 0 0], .bool false]) (by simp [results, Tryz.results41, go_sem, p0, p1, p2, hlt]) rfl R.out
    | true =>
      have q0 := LN.out.c 0 rfl
      have q1 := LN.out.c 1 rfl
      cases PB with
      | false =>
        have hno := hid (show prB s = false by rw [← P1.out]; rfl)
        have R := hid (show ParsQ (prS s) (prA s) (prE s) (prB s) w (.returned (.tuple #[.agg #[.bool false, .slice none 0 0, .slice none 0 0], .bool false])) (((((w4).setCell ⟨w.heap.size, 0, none⟩ (.bool false)).setCell ⟨w.heap.size, 1, none⟩ (.slice none 0 0)).setCell ⟨w.heap.size, 2, none⟩ (.slice none 0 0)).alloc (.cells #[.bool GS, .slice a1 GL.length c1, .slice a3 ZL.length c3] 40)) from ParsQ_no hno.out ((((B.out.setCell (by simp) _).setCell (by simp) _).setCell (by simp) _).alloc (by simp [World.setCell]; omega) _))
        have f0 := LP.out.f 0
        have f1 := LP.out.f 1
        have f2 := LP.out.f 2
        have p0 := LP.out.c 0 rfl
        have p1 := LP.out.c 1 rfl
        have p2 := LP.out.c 2 rfl
        have hlt := LP.out.lt
        go_wp2
        exact bodyPost_ret (v := .tuple #[.agg #[.bool false, .slice none 0 0, .slice none 0 0], .bool false]) (by simp [results, Tryz.results41, go_sem, p0, p1, p2, hlt]) rfl R.out
      | true =>
        have I1 := hid (addPre (o := (.cells #[.bool GS, .slice a1 GL.length c1, .slice a3 ZL.length c3] 40)) I1.out)
        have I2 := hid (addPre (o := (.cells #[.bool GS, .slice a1 GL.length c1, .slice a3 ZL.length c3] 40)) I2.out)
        have LP := hid (LP.out.new1 (o := (.cells #[.bool GS, .slice a1 GL.length c1, .slice a3 ZL.length c3] 40)))
        have LR := hid (LocA.new (w := w4) (T := 40) (cs := #[.bool GS, .slice a1 GL.length c1, .slice a3 ZL.length c3]))
        have B := hid (B.out.alloc B.out.size (.cells #[.bool GS, .slice a1 GL.length c1, .slice a3 ZL.length c3] 40))
        have KF := hid (fun (V : World) (h : RL V (.slice a1 GL.length c1) (.slice a3 ZL.length c3) GL ZL) => spec_FormatRat GS _ _ GL ZL V h)
        rw [hO.out, HD.out] at P1
        obtain ⟨FM, hFM⟩ : ∃ x, x = fmtR GS GL ZL := ⟨_, rfl⟩
        rw [← hFM] at KF P1
        clear hFM
        have r0 := LR.out.c 0 rfl
        have r1 := LR.out.c 1 rfl
        have r2 := LR.out.c 2 rfl
        go_wp2_with fail
        (with_reducible refine (KF.out _ ⟨⟨_, I1.out⟩, ⟨_, I2.out⟩, lG, lD⟩).mono ?_)
        clear r0 r1 r2 q0 q1
        rintro e w8 ⟨rfl, b1⟩
        have t8 : w4.heap.size + 1 ≤ w8.heap.size := by have := b1.size; simp at this; omega
        have I1 := hid (Ints_old I1.out b1)
        have I2 := hid (Ints_old I2.out b1)
        have LP := hid (LP.out.old b1)
        have LR := hid (LR.out.old b1)
        have B := hid (B.out.trans (b1.mono B.out.size))
        clear b1
        have q0 := LR.out.c 0 rfl
        have q1 := LR.out.c 1 rfl
        have q2 := LR.out.c 2 rfl
        by_cases hE : FM = ByteArray.mk #[]
        · have hno := hid (show prB s = false by rw [← P1.out, hE]; simp)
          subst hE
          have R := hid (show ParsQ (prS s) (prA s) (prE s) (prB s) w (.returned (.tuple #[.agg #[.bool false, .slice none 0 0, .slice none 0 0], .bool false])) ((((w8).setCell ⟨w.heap.size, 0, none⟩ (.bool false)).setCell ⟨w.heap.size, 1, none⟩ (.slice none 0 0)).setCell ⟨w.heap.size, 2, none⟩ (.slice none 0 0)) from ParsQ_no hno.out (((B.out.setCell (by simp) _).setCell (by simp) _).setCell (by simp) _))
          have f0 := LP.out.f 0
          have f1 := LP.out.f 1
          have f2 := LP.out.f 2
          have p0 := LP.out.c 0 rfl
          have p1 := LP.out.c 1 rfl
          have p2 := LP.out.c 2 rfl
          have hlt := LP.out.lt
          go_wp2
          exact bodyPost_ret (v := .tuple #[.agg #[.bool false, .slice none 0 0, .slice none 0 0], .bool false]) (by simp [results, Tryz.results41, go_sem, p0, p1, p2]) rfl R.out
        · have hE1 : ¬ FM.toList = [] := toList_no hE
          have hE2 : FM.toList.isEmpty = false := by rw [List.isEmpty_eq_false_iff]; exact hE1
          go_wp2_with fail
          (with_reducible refine (KF.out _ ⟨⟨_, I1.out⟩, ⟨_, I2.out⟩, lG, lD⟩).mono ?_)
          clear q0 q1 q2
          rintro e w9 ⟨rfl, b1⟩
          have t9 : w4.heap.size + 1 ≤ w9.heap.size := by have := b1.size; omega
          have I1 := hid (Ints_old I1.out b1)
          have I2 := hid (Ints_old I2.out b1)
          have LP := hid (LP.out.old b1)
          have LR := hid (LR.out.old b1)
          have B := hid (B.out.trans (b1.mono B.out.size))
          clear b1
          have q0 := LR.out.c 0 rfl
          have q1 := LR.out.c 1 rfl
          have q2 := LR.out.c 2 rfl
          by_cases hF : FM = s
          · have hb := hid (show prB s = true by rw [← P1.out, decide_eq_true hF, decide_eq_false hE]; rfl)
            have n1 := LP.out.ne (by decide) I1.out
            have n2 := LP.out.ne (by decide) I2.out
            have J1 := Ints_set (Ints_set (Ints_set I1.out n1 (i := 0) (u := .bool GS)) n1 (i := 1) (u := .slice a1 GL.length c1)) n1 (i := 2) (u := .slice a3 ZL.length c3)
            have J2 := Ints_set (Ints_set (Ints_set I2.out n2 (i := 0) (u := .bool GS)) n2 (i := 1) (u := .slice a1 GL.length c1)) n2 (i := 2) (u := .slice a3 ZL.length c3)
            have R := hid (show ParsQ (prS s) (prA s) (prE s) (prB s) w (.returned (.tuple #[.agg #[.bool GS, .slice a1 GL.length c1, .slice a3 ZL.length c3], .bool true])) ((((w9).setCell ⟨w.heap.size, 0, none⟩ (.bool GS)).setCell ⟨w.heap.size, 1, none⟩ (.slice a1 GL.length c1)).setCell ⟨w.heap.size, 2, none⟩ (.slice a3 ZL.length c3)) from ParsQ_yes (w := w) (w' := ((((w9).setCell ⟨w.heap.size, 0, none⟩ (.bool GS)).setCell ⟨w.heap.size, 1, none⟩ (.slice a1 GL.length c1)).setCell ⟨w.heap.size, 2, none⟩ (.slice a3 ZL.length c3))) hb.out HGS.out HGL.out (HD.out.symm.trans (P2.out hb.out)) J1 J2 (by omega) (by first | omega | (simp; omega)) (fun k hk => by have := M1.out k hk; first | omega | (simp; omega)) (((B.out.setCell (by simp) _).setCell (by simp) _).setCell (by simp) _))
            clear n1 n2 J1 J2
            have f0 := LP.out.f 0
            have f1 := LP.out.f 1
            have f2 := LP.out.f 2
            have p0 := LP.out.c 0 rfl
            have p1 := LP.out.c 1 rfl
            have p2 := LP.out.c 2 rfl
            subst hF
            go_wp2
            exact bodyPost_ret (v := .tuple #[.agg #[.bool GS, .slice a1 GL.length c1, .slice a3 ZL.length c3], .bool true]) (by simp [results, Tryz.results41, go_sem, p0, p1, p2]) rfl R.out
          · have hb := hid (show prB s = false by rw [← P1.out, decide_eq_false hF]; simp)
            have hF1 : (FM.toList == s.toList) = false := beq_eq_false_iff_ne.2 (toList_ne hF)
            have R := hid (show ParsQ (prS s) (prA s) (prE s) (prB s) w (.returned (.tuple #[.agg #[.bool false, .slice none 0 0, .slice none 0 0], .bool false])) ((((w9).setCell ⟨w.heap.size, 0, none⟩ (.bool false)).setCell ⟨w.heap.size, 1, none⟩ (.slice none 0 0)).setCell ⟨w.heap.size, 2, none⟩ (.slice none 0 0)) from ParsQ_no hb.out (((B.out.setCell (by simp) _).setCell (by simp) _).setCell (by simp) _))
            have f0 := LP.out.f 0
            have f1 := LP.out.f 1
            have f2 := LP.out.f 2
            have p0 := LP.out.c 0 rfl
            have p1 := LP.out.c 1 rfl
            have p2 := LP.out.c 2 rfl
            have hlt := LP.out.lt
            go_wp2
            exact bodyPost_ret (v := .tuple #[.agg #[.bool false, .slice none 0 0, .slice none 0 0], .bool false]) (by simp [results, Tryz.results41, go_sem, p0, p1, p2]) rfl R.out
  · have hO := hid (show spO W = true by unfold spO; rw [if_neg (by rw [← HN.out]; exact hl)])
    have HD := hid (show spD W = [1] by unfold spD; rw [if_neg (by rw [← HN.out]; exact hl)])
    obtain rfl : N = 1 := by omega
    have lD : [(1 : Int)].length ≤ 1048576 := by decide
    go_wp2
    generalize (w2.alloc (.cells #[.bool GS, .slice a1 GL.length c1] 37)).alloc (.cells #[.int .i64 1] 3) = w4 at B LP LN I1 I2 t3 ⊢
    have q0 := LN.out.c 0 rfl
    have q1 := LN.out.c 1 rfl
    cases PB with
    | false =>
      have hno := hid (show prB s = false by rw [← P1.out]; rfl)
      have R := hid (show ParsQ (prS s) (prA s) (prE s) (prB s) w (.returned (.tuple #[.agg #[.bool false, .slice none 0 0, .slice none 0 0], .bool false])) (((((w4).setCell ⟨w.heap.size, 0, none⟩ (.bool false)).setCell ⟨w.heap.size, 1, none⟩ (.slice none 0 0)).setCell ⟨w.heap.size, 2, none⟩ (.slice none 0 0)).alloc (.cells #[.bool GS, .slice a1 GL.length c1, .slice (some ⟨w2.heap.size + 1, 0, none⟩) 1 1] 40)) from ParsQ_no hno.out ((((B.out.setCell (by simp) _).setCell (by simp) _).setCell (by simp) _).alloc (by simp [World.setCell]; omega) _))
      have f0 := LP.out.f 0
      have f1 := LP.out.f 1
      have f2 := LP.out.f 2
      have p0 := LP.out.c 0 rfl
      have p1 := LP.out.c 1 rfl
      have p2 := LP.out.c 2 rfl
      have hlt := LP.out.lt
      go_wp2
      exact bodyPost_ret (v := .tuple #[.agg #[.bool false, .slice none 0 0, .slice none 0 0], .bool false]) (by simp [results, Tryz.results41, go_sem, p0, p1, p2, hlt]) rfl R.out
    | true =>
      have I1 := hid (addPre (o := (.cells #[.bool GS, .slice a1 GL.length c1, .slice (some ⟨w2.heap.size + 1, 0, none⟩) 1 1] 40)) I1.out)
      have I2 := hid (addPre (o := (.cells #[.bool GS, .slice a1 GL.length c1, .slice (some ⟨w2.heap.size + 1, 0, none⟩) 1 1] 40)) I2.out)
      have LP := hid (LP.out.new1 (o := (.cells #[.bool GS, .slice a1 GL.length c1, .slice (some ⟨w2.heap.size + 1, 0, none⟩) 1 1] 40)))
      have LR := hid (LocA.new (w := w4) (T := 40) (cs := #[.bool GS, .slice a1 GL.length c1, .slice (some ⟨w2.heap.size + 1, 0, none⟩) 1 1]))
      have B := hid (B.out.alloc B.out.size (.cells #[.bool GS, .slice a1 GL.length c1, .slice (some ⟨w2.heap.size + 1, 0, none⟩) 1 1] 40))
      have KF := hid (fun (V : World) (h : RL V (.slice a1 GL.length c1) (.slice (some ⟨w2.heap.size + 1, 0, none⟩) 1 1) GL [1]) => spec_FormatRat GS _ _ GL [1] V h)
      rw [hO.out, HD.out] at P1
      obtain ⟨FM, hFM⟩ : ∃ x, x = fmtR GS GL [1] := ⟨_, rfl⟩
      rw [← hFM] at KF P1
      clear hFM
      have r0 := LR.out.c 0 rfl
      have r1 := LR.out.c 1 rfl
      have r2 := LR.out.c 2 rfl
      go_wp2_with fail
      (with_reducible refine (KF.out _ ⟨⟨_, I1.out⟩, ⟨_, I2.out⟩, lG, lD⟩).mono ?_)
      clear r0 r1 r2 q0 q1
      rintro e w8 ⟨rfl, b1⟩
      have t8 : w4.heap.size + 1 ≤ w8.heap.size := by have := b1.size; simp at this; omega
      have I1 := hid (Ints_old I1.out b1)
      have I2 := hid (Ints_old I2.out b1)
      have LP := hid (LP.out.old b1)
      have LR := hid (LR.out.old b1)
      have B := hid (B.out.trans (b1.mono B.out.size))
      clear b1
      have q0 := LR.out.c 0 rfl
      have q1 := LR.out.c 1 rfl
      have q2 := LR.out.c 2 rfl
      by_cases hE : FM = ByteArray.mk #[]
      · have hno := hid (show prB s = false by rw [← P1.out, hE]; simp)
        subst hE
        have R := hid (show ParsQ (prS s) (prA s) (prE s) (prB s) w (.returned (.tuple #[.agg #[.bool false, .slice none 0 0, .slice none 0 0], .bool false])) ((((w8).setCell ⟨w.heap.size, 0, none⟩ (.bool false)).setCell ⟨w.heap.size, 1, none⟩ (.slice none 0 0)).setCell ⟨w.heap.size, 2, none⟩ (.slice none 0 0)) from ParsQ_no hno.out (((B.out.setCell (by simp) _).setCell (by simp) _).setCell (by simp) _))
        have f0 := LP.out.f 0
        have f1 := LP.out.f 1
        have f2 := LP.out.f 2
        have p0 := LP.out.c 0 rfl
        have p1 := LP.out.c 1 rfl
        have p2 := LP.out.c 2 rfl
        have hlt := LP.out.lt
        go_wp2
        exact bodyPost_ret (v := .tuple #[.agg #[.bool false, .slice none 0 0, .slice none 0 0], .bool false]) (by simp [results, Tryz.results41, go_sem, p0, p1, p2]) rfl R.out
      · have hE1 : ¬ FM.toList = [] := toList_no hE
        have hE2 : FM.toList.isEmpty = false := by rw [List.isEmpty_eq_false_iff]; exact hE1
        go_wp2_with fail
        (with_reducible refine (KF.out _ ⟨⟨_, I1.out⟩, ⟨_, I2.out⟩, lG, lD⟩).mono ?_)
        clear q0 q1 q2
        rintro e w9 ⟨rfl, b1⟩
        have t9 : w4.heap.size + 1 ≤ w9.heap.size := by have := b1.size; omega
        have I1 := hid (Ints_old I1.out b1)
        have I2 := hid (Ints_old I2.out b1)
        have LP := hid (LP.out.old b1)
        have LR := hid (LR.out.old b1)
        have B := hid (B.out.trans (b1.mono B.out.size))
        clear b1
        have q0 := LR.out.c 0 rfl
        have q1 := LR.out.c 1 rfl
        have q2 := LR.out.c 2 rfl
        by_cases hF : FM = s
        · have hb := hid (show prB s = true by rw [← P1.out, decide_eq_true hF, decide_eq_false hE]; rfl)
          have n1 := LP.out.ne (by decide) I1.out
          have n2 := LP.out.ne (by decide) I2.out
          have J1 := Ints_set (Ints_set (Ints_set I1.out n1 (i := 0) (u := .bool GS)) n1 (i := 1) (u := .slice a1 GL.length c1)) n1 (i := 2) (u := .slice (some ⟨w2.heap.size + 1, 0, none⟩) 1 1)
          have J2 := Ints_set (Ints_set (Ints_set I2.out n2 (i := 0) (u := .bool GS)) n2 (i := 1) (u := .slice a1 GL.length c1)) n2 (i := 2) (u := .slice (some ⟨w2.heap.size + 1, 0, none⟩) 1 1)
          have R := hid (show ParsQ (prS s) (prA s) (prE s) (prB s) w (.returned (.tuple #[.agg #[.bool GS, .slice a1 GL.length c1, .slice (some ⟨w2.heap.size + 1, 0, none⟩) 1 1], .bool true])) ((((w9).setCell ⟨w.heap.size, 0, none⟩ (.bool GS)).setCell ⟨w.heap.size, 1, none⟩ (.slice a1 GL.length c1)).setCell ⟨w.heap.size, 2, none⟩ (.slice (some ⟨w2.heap.size + 1, 0, none⟩) 1 1)) from ParsQ_yes (w := w) (w' := ((((w9).setCell ⟨w.heap.size, 0, none⟩ (.bool GS)).setCell ⟨w.heap.size, 1, none⟩ (.slice a1 GL.length c1)).setCell ⟨w.heap.size, 2, none⟩ (.slice (some ⟨w2.heap.size + 1, 0, none⟩) 1 1))) hb.out HGS.out HGL.out (HD.out.symm.trans (P2.out hb.out)) J1 J2 (by omega) (by first | omega | (simp; omega)) (fun k hk => by have := M1.out k hk; first | omega | (simp; omega)) (((B.out.setCell (by simp) _).setCell (by simp) _).setCell (by simp) _))
          clear n1 n2 J1 J2
          have f0 := LP.out.f 0
          have f1 := LP.out.f 1
          have f2 := LP.out.f 2
          have p0 := LP.out.c 0 rfl
          have p1 := LP.out.c 1 rfl
          have p2 := LP.out.c 2 rfl
          subst hF
          go_wp2
          exact bodyPost_ret (v := .tuple #[.agg #[.bool GS, .slice a1 GL.length c1, .slice (some ⟨w2.heap.size + 1, 0, none⟩) 1 1], .bool true]) (by simp [results, Tryz.results41, go_sem, p0, p1, p2]) rfl R.out
        · have hb := hid (show prB s = false by rw [← P1.out, decide_eq_false hF]; simp)
          have hF1 : (FM.toList == s.toList) = false := beq_eq_false_iff_ne.2 (toList_ne hF)
          have R := hid (show ParsQ (prS s) (prA s) (prE s) (prB s) w (.returned (.tuple #[.agg #[.bool false, .slice none 0 0, .slice none 0 0], .bool false])) ((((w9).setCell ⟨w.heap.size, 0, none⟩ (.bool false)).setCell ⟨w.heap.size, 1, none⟩ (.slice none 0 0)).setCell ⟨w.heap.size, 2, none⟩ (.slice none 0 0)) from ParsQ_no hb.out (((B.out.setCell (by simp) _).setCell (by simp) _).setCell (by simp) _))
          have f0 := LP.out.f 0
          have f1 := LP.out.f 1
          have f2 := LP.out.f 2
          have p0 := LP.out.c 0 rfl
          have p1 := LP.out.c 1 rfl
          have p2 := LP.out.c 2 rfl
          have hlt := LP.out.lt
          go_wp2
          exact bodyPost_ret (v := .tuple #[.agg #[.bool false, .slice none 0 0, .slice none 0 0], .bool false]) (by simp [results, Tryz.results41, go_sem, p0, p1, p2]) rfl R.out
end Go.Proofs.YtmghoedjcokhpaaGreatDoor

/- The walk of the law FnExactParseRat. -/
namespace Go.Proofs.YtmghoedjcokhpaaGreatDoor
open Go.RowKit
open Go.Lib (hid)
set_option linter.unusedVariables false

theorem pr_len (s : ByteArray) : (prA s).length ≤ 60 ∧ (prE s).length ≤ 60 := by
  constructor
  · unfold prA; split
    · unfold pbR; split
      · have := nok_len (nok_parseR (s := tailOf (prL s))); omega
      · simp
    · simp
  · unfold prE; split
    · unfold prD; split
      · have := nok_len (nok_parseR (s := prR s)); omega
      · simp
    · simp

end Go.Proofs.YtmghoedjcokhpaaGreatDoor
