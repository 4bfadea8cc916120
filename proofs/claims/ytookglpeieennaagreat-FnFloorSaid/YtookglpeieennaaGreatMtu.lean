/- Merged: Mt Mu. -/
import Derived.Test.YtookglpeieennaaGreatMkr
import Derived.Test.YtookglpeieennaaGreatSz
import Derived.Deep.RegionHeld3
import Derived.Deep.DeepCutAuto
/- The draw of a fraction. -/
namespace Go.Proofs.YtookglpeieennaaGreat
open Go.RowKit
open Go.Lib (hid)
set_option linter.unusedVariables false

theorem draw_make {X : Int} {D : List Int} (hX : -pw 3 < X ∧ X < pw 3) (nD : nok D = true) (h0 : 0 < val D) (hl : val D < pw 3) : ∃ q, szq q 3 ∧ mk2 (gzs X) (gzl X) false D = some q := by
  have hX' : (X.natAbs : Int) < pw 3 := by omega
  have h3 := pw3_1000
  obtain ⟨k1, e1⟩ := gz_ok (Z := X) (by omega)
  refine ⟨Rat.divInt X (val D), szq_divInt hX' (by omega) (by omega), ?_⟩
  rw [mk2_yes k1 (bok_pos nD), e1, show sval false (val D) = val D from rfl]
  unfold mkFr
  rw [if_neg (by omega)]
  exact capF_yes (szq_fit (szq_divInt hX' (by omega) (by omega)) (by decide))
/-- A struct whose lists are a fraction's. -/
theorem RatX_of {w : World} {v u : Value} {x : Rat} {b1 b2 : Nat} (h1 : Ints w b1 v (gzl x.num)) (h2 : Ints w b2 u (gzl (x.den : Int))) (hf : fit x) : RatX w (gzs x.num) v u x := by
  obtain ⟨r1, r2, r3, r4⟩ := rval_parts (fitO_some hf)
  have r3' : (gzl x.num).length ≤ 24 := r3
  have r4' : (gzl (x.den : Int)).length ≤ 24 := r4
  obtain ⟨z, e, k⟩ := RatX.of (s := gzs x.num) (show RL w v u (gzl x.num) (gzl (x.den : Int)) from ⟨⟨b1, h1⟩, ⟨b2, h2⟩, by omega, by omega⟩) r2
  have e2 : rval (gzs x.num) (gzl x.num) (gzl (x.den : Int)) = some x := r1
  rw [e2] at e
  cases e
  exact k
theorem ok_x {w : World} {s : Bool} {v u : Value} {x : Rat} (h : RatX w s v u x) : Calls Tryz.prog 83 #[.agg #[.bool s, v, u]] w (RetB (.bool true) w) := by
  obtain ⟨A, D, r, k, -⟩ := h
  have := spec_RatOk s v u A D w r
  rw [k] at this
  exact this
theorem LocA.under {T : TypeId} {w w' : World} {b B : Nat} {cs : Array Value} (h : LocA T w b cs) (hb : Below B w w') (hlt : b < B) : LocA T w' b cs := (hb.block _ hlt).trans h
def DrawR (N : Nat) (w : World) (e : Ending) (w' : World) : Prop := ∃ (x : Rat) (v u : Value), szq x 3 ∧ e = .returned (.agg #[.bool (gzs x.num), v, u]) ∧ Ints w' w.heap.size v (gzl x.num) ∧ Ints w' w.heap.size u (gzl (x.den : Int)) ∧ Only (fun k => k = N ∨ w.heap.size ≤ k) w w'
theorem DrawR_out {N b : Nat} {w w4 : World} {x : Rat} {v u : Value} {B C : Nat} {cs : Array Value} (hx : szq x 3) (hb : w.heap.size ≤ b) (hL : LocA 27 w4 b cs) (h1 : Ints w4 B v (gzl x.num)) (h2 : Ints w4 C u (gzl (x.den : Int))) (hB : w.heap.size ≤ B) (hC : w.heap.size ≤ C) (ho : Only (fun k => k = N ∨ w.heap.size ≤ k) w w4) :
    DrawR N w (.returned (.agg #[.bool (gzs x.num), v, u])) (((w4.setCell ⟨b, 0, none⟩ (.bool (gzs x.num))).setCell ⟨b, 1, none⟩ v).setCell ⟨b, 2, none⟩ u) := by
  have n1 := hL.ne (by decide) h1
  have n2 := hL.ne (by decide) h2
  exact ⟨x, v, u, hx, rfl, Ints_base (Ints_set (Ints_set (Ints_set h1 n1) n1) n1) hB, Ints_base (Ints_set (Ints_set (Ints_set h2 n2) n2) n2) hC, ((ho.setCell (.inr hb) _).setCell (.inr hb) _).setCell (.inr hb) _⟩
theorem Ints_pastN {w w' : World} {N B : Nat} {v : Value} {L : List Int} (h : Ints w B v L) (hB : N < B) (ho : Only (fun k => k = N ∨ w.heap.size ≤ k) w w') : Ints w' B v L :=
  Ints_apart h ho fun e => by have := (Ints_lt h N e).1; omega
set_option maxRecDepth 100000 in
set_option maxHeartbeats 6400000 in
theorem l04Draw_any (N : Nat) (a : Option Addr) (n c : Nat) (Z : List Int) (hZ : Z.length ≤ 1048576) (w : World) (hc : CurE w N a n c Z) (hu : Under N a Z) :
    Calls Tryz.prog 42 #[.pointer (some ⟨N, 0, none⟩), .int .i64 2] w (DrawR N w) := by
  obtain ⟨i3, hi3, hz0, hz1, hz2⟩ := info_parts Tryz.info3
  have KD := hid (fun (W : World) (h : CurE W N a n c Z) => l03Draw_madeE N a n c Z 2 (by decide) (by decide) hZ W h hu)
  have KB := hid (fun (W : World) (h : CurE W N a n c Z) (m : Int) m0 m1 => belowE N a n c Z m hZ W h hu m0 m1)
  have KO := hid (fun (W : World) (h : CurE W N a n c Z) (m : Int) m0 m1 => onceE N a n c Z m hZ W h hu m0 m1)
  have KN := hid (fun (W : World) (h : CurE W N a n c Z) => l02Nat_madeE N a n c Z 1 (by decide) (by decide) hZ W h hu)
  have HU := hid hu
  have hNw := CurE_lt hc
  have C1 := hid (CurE_alloc hc (.cells #[.bool false, .slice none 0 0, .slice none 0 0] 27))
  have B1 := hid (show Only (fun k => k = N ∨ w.heap.size ≤ k) w (w.alloc (.cells #[.bool false, .slice none 0 0, .slice none 0 0] 27)) from (Only.refl _ _).alloc (.inr (Nat.le_refl _)) _)
  have LR := hid (LocA.new (w := w) (T := 27) (cs := #[.bool false, .slice none 0 0, .slice none 0 0]))
  have hne : w.heap.size ≠ N := by omega
  clear hc hu
  go_enter Tryz.func42, Tryz.ntmps42
  go_wp2_with fail
  have hsW := LR.out.lt
  generalize w.alloc (.cells #[.bool false, .slice none 0 0, .slice none 0 0] 27) = W at C1 B1 LR hsW ⊢
  (with_reducible refine (KD.out _ C1.out).mono ?_)
  rintro e w1 ⟨X, r, hX1, hX2, rfl, ir, c1, o1⟩
  have C1 := hid c1
  have LR := hid (LR.out.apart o1 hne)
  have B1 := hid (B1.out.trans (o1.mono fun k hk => hk.elim .inl (fun h => .inr (by omega))))
  have hs1 := o1.size
  have IR := hid ir
  have HX := hid (And.intro hX1 hX2)
  have BLR := hid (show ∀ k, r.ownBlock = some k → k < w1.heap.size from fun k hk => (Ints_lt ir k hk).2)
  obtain ⟨sx, hsx⟩ : ∃ z, z = gzs X := ⟨_, rfl⟩
  obtain ⟨lx, hlx⟩ : ∃ z, z = gzl X := ⟨_, rfl⟩
  have HMK := hid (fun (D : List Int) (nD : nok D = true) (h0 : 0 < val D) (hl : val D < pw 3) => draw_make ⟨hX1, hX2⟩ nD h0 hl)
  have hlx60 : lx.length ≤ 60 := by rw [hlx]; exact cappedLen
  rw [← hsx, ← hlx] at HMK
  rw [← hlx] at IR ir
  rw [← hsx]
  obtain ⟨ar, cr, rfl, -⟩ := Ints_form ir
  clear c1 o1 ir hX1 hX2 hsx hlx HX
  have L5 := hid (LocA.new (w := w1) (T := 25) (cs := #[.bool sx, .slice ar lx.length cr]))
  have LR := hid (LR.out.new1 (o := .cells #[.bool sx, .slice ar lx.length cr] 25))
  have IR := hid (Ints_old IR.out (below_new' (o := .cells #[.bool sx, .slice ar lx.length cr] 25)))
  have C1 := hid (CurE_alloc C1.out (.cells #[.bool sx, .slice ar lx.length cr] 25))
  have B1 := hid (B1.out.alloc (.inr (by omega)) (.cells #[.bool sx, .slice ar lx.length cr] 25))
  go_wp2_with fail
  have hs5 := L5.out.lt
  generalize w1.alloc (.cells #[.bool sx, .slice ar lx.length cr] 25) = W1 at C1 B1 LR L5 IR hs5 ⊢
  (with_reducible refine (KB.out _ C1.out 12 (by decide) (by decide)).mono ?_)
  rintro e w2 ⟨x, x0, x1, rfl, c1, o1⟩
  have C1 := hid c1
  have hs2 := o1.size
  have LR := hid (LR.out.only o1 hne)
  have L5 := hid (L5.out.only o1 (by omega))
  have IR := hid (Ints_notN (by omega) IR.out o1)
  have B1 := hid (B1.out.trans (o1.mono fun k hk => .inl hk))
  clear c1 o1
  have KOf := hid (fun (W : World) => spec_NatOf (1 + x) (by omega) W)
  have HD := hid (show nok (rep (1 + x).toNat) = true ∧ 0 < val (rep (1 + x).toNat) ∧ val (rep (1 + x).toNat) < pw 3 from by
    have h3 := pw3_1000
    have hv := val_rep' (V := 1 + x) (by omega)
    exact ⟨nok_iff.2 ⟨rep_len (by omega), Can_rep _⟩, by omega, by omega⟩)
  obtain ⟨Ld, hLd⟩ : ∃ L, L = rep (1 + x).toNat := ⟨_, rfl⟩
  rw [← hLd] at KOf HD
  clear hLd
  go_wp2_with fail
  (with_reducible refine (KOf.out _).mono ?_)
  rintro e w3 ⟨d, rfl, id, b1⟩
  have hs3 := b1.size
  have C1 := hid (CurE_old C1.out b1 HU.out)
  have LR := hid (LR.out.old b1)
  have L5 := hid (L5.out.old b1)
  have IR := hid (Ints_old IR.out b1)
  have B1 := hid (B1.out.trans (Only.of_below b1 fun k hk => .inr (by omega)))
  have ID := hid id
  obtain ⟨ad, cd, rfl, -⟩ := Ints_form id
  clear id b1
  have L6 := hid (LocA.new (w := w3) (T := 25) (cs := #[.bool false, .slice ad Ld.length cd]))
  have LR := hid (LR.out.new1 (o := .cells #[.bool false, .slice ad Ld.length cd] 25))
  have L5 := hid (L5.out.new1 (o := .cells #[.bool false, .slice ad Ld.length cd] 25))
  have IR := hid (Ints_old IR.out (below_new' (o := .cells #[.bool false, .slice ad Ld.length cd] 25)))
  have ID := hid (Ints_old ID.out (below_new' (o := .cells #[.bool false, .slice ad Ld.length cd] 25)))
  have C1 := hid (CurE_alloc C1.out (.cells #[.bool false, .slice ad Ld.length cd] 25))
  have B1 := hid (B1.out.alloc (.inr (by omega)) (.cells #[.bool false, .slice ad Ld.length cd] 25))
  go_wp2_with fail
  have hs6 := L6.out.lt
  generalize w3.alloc (.cells #[.bool false, .slice ad Ld.length cd] 25) = W3 at C1 B1 LR L5 L6 IR ID hs6 ⊢
  (with_reducible refine (KO.out _ C1.out 3 (by decide) (by decide)).mono ?_)
  rintro e w4 ⟨bb, rfl, c1, o1⟩
  have C1 := hid c1
  have hs4 := o1.size
  have LR := hid (LR.out.only o1 hne)
  have L5 := hid (L5.out.only o1 (by omega))
  have L6 := hid (L6.out.only o1 (by omega))
  have IR := hid (Ints_notN (by omega) IR.out o1)
  have ID := hid (Ints_notN (by omega) ID.out o1)
  have B1 := hid (B1.out.trans (o1.mono fun k hk => .inl hk))
  clear c1 o1
  cases bb
  · obtain ⟨q, hq, eq⟩ := HMK.out Ld HD.out.1 HD.out.2.1 HD.out.2.2
    skip
    have KM := hid (fun (W : World) (b1 b2 : Nat) (h1 : Ints W b1 (.slice ar lx.length cr) lx) (h2 : Ints W b2 (.slice ad Ld.length cd) Ld) => spec_RatMake sx false _ _ lx Ld (by omega) (by have := nok_len HD.out.1; omega) b1 b2 W h1 h2)
    rw [eq] at KM
    have HQ := hid hq
    clear hq eq
    have q0 := L5.out.c 0 rfl
    have q1 := L5.out.c 1 rfl
    have q2 := L6.out.c 0 rfl
    have q3 := L6.out.c 1 rfl
    go_wp2_with fail
    (with_reducible refine (KM.out _ _ _ IR.out ID.out).mono ?_)
    clear q0 q1 q2 q3
    rintro e w8 ⟨v1, u1, rfl, j1, j2, b1⟩
    have LR := hid (LR.out.old b1)
    have hsz8 := b1.size
    have B1 := hid (B1.out.trans (Only.of_below b1 fun k hk => .inr (by omega)))
    have J1 := hid (show Ints w8 _ v1 (gzl q.num) from j1)
    have J2 := hid (show Ints w8 _ u1 (gzl (q.den : Int)) from j2)
    change Hid (szq q 3) at HQ
    rw [show qn (some q) = q.num from rfl]
    obtain ⟨e1, d1, rfl, -⟩ := Ints_form J1.out
    obtain ⟨e2, d2, rfl, -⟩ := Ints_form J2.out
    have RX := hid (RatX_of J1.out J2.out (szq_fit HQ.out (by decide)))
    have DR := hid (fun (w4 : World) (cs : Array Value) (B C : Nat) (h1 : LocA 27 w4 w.heap.size cs) (h2 : Ints w4 B (.slice e1 (gzl q.num).length d1) (gzl q.num)) (h3 : Ints w4 C (.slice e2 (gzl (q.den : Int)).length d2) (gzl (q.den : Int))) (hB : w.heap.size ≤ B) (hC : w.heap.size ≤ C) (ho : Only (fun k => k = N ∨ w.heap.size ≤ k) w w4) => DrawR_out HQ.out (Nat.le_refl _) h1 h2 h3 hB hC ho)
    obtain ⟨gs, hgs⟩ : ∃ g, g = gzs q.num := ⟨_, rfl⟩
    obtain ⟨l1, hl1⟩ : ∃ g, g = gzl q.num := ⟨_, rfl⟩
    obtain ⟨l2, hl2⟩ : ∃ g, g = gzl (q.den : Int) := ⟨_, rfl⟩
    rw [← hgs, ← hl1, ← hl2] at DR
    rw [← hl1, ← hl2, ← hgs] at RX
    rw [← hl1] at J1
    rw [← hl2] at J2
    rw [← hgs]
    clear j1 j2 b1
    try rw [← hl1]
    try rw [← hl2]
    clear hgs hl1 hl2
    have L7 := hid (LocA.new (w := w8) (T := 27) (cs := #[.bool gs, .slice e1 l1.length d1, .slice e2 l2.length d2]))
    have LR := hid (LR.out.new1 (o := .cells #[.bool gs, .slice e1 l1.length d1, .slice e2 l2.length d2] 27))
    have RX := hid (RX.out.old (below_new' (o := .cells #[.bool gs, .slice e1 l1.length d1, .slice e2 l2.length d2] 27)))
    have J1 := hid (Ints_old J1.out (below_new' (o := .cells #[.bool gs, .slice e1 l1.length d1, .slice e2 l2.length d2] 27)))
    have J2 := hid (Ints_old J2.out (below_new' (o := .cells #[.bool gs, .slice e1 l1.length d1, .slice e2 l2.length d2] 27)))
    have B1 := hid (B1.out.alloc (.inr (by omega)) (.cells #[.bool gs, .slice e1 l1.length d1, .slice e2 l2.length d2] 27))
    go_wp2_with fail
    generalize w8.alloc (.cells #[.bool gs, .slice e1 l1.length d1, .slice e2 l2.length d2] 27) = W8 at LR RX J1 J2 B1 L7 ⊢
    have hl7 := L7.out.lt
    (with_reducible refine (ok_x RX.out).mono ?_)
    rintro e w9 ⟨rfl, b1⟩
    have LR := hid (LR.out.old b1)
    have L7 := hid (L7.out.old b1)
    have J1 := hid (Ints_old J1.out b1)
    have J2 := hid (Ints_old J2.out b1)
    have B1 := hid (B1.out.trans (Only.of_below b1 fun k hk => .inr (by omega)))
    have R := hid (DR.out _ _ _ _ LR.out J1.out J2.out (by omega) (by omega) B1.out)
    have z0 := L7.out.c 0 rfl
    have z1 := L7.out.c 1 rfl
    have z2 := L7.out.c 2 rfl
    have f0 := LR.out.f 0
    have f1 := LR.out.f 1
    have f2 := LR.out.f 2
    have p0 := LR.out.c 0 rfl
    have p1 := LR.out.c 1 rfl
    have p2 := LR.out.c 2 rfl
    clear b1
    go_wp2
    exact bodyPost_ret (v := .agg #[.bool gs, .slice e1 l1.length d1, .slice e2 l2.length d2]) (by simp [results, Tryz.results42, go_sem, p0, p1, p2]) rfl R.out
  · go_wp2_with fail
    (with_reducible refine (KN.out _ C1.out).mono ?_)
    rintro e w5 ⟨L, v, hL, hl, rfl, iv, c1, o1⟩
    have C1 := hid c1
    have hs7 := o1.size
    have hl1 : L.length ≤ 1 := by omega
    have LR := hid (LR.out.apart o1 hne)
    have L5 := hid (L5.out.apart o1 (by omega))
    have L6 := hid (L6.out.apart o1 (by omega))
    have IR := hid (Ints_pastN IR.out (by omega) o1)
    have B1 := hid (B1.out.trans (o1.mono fun k hk => hk.elim .inl (fun h => .inr (by omega))))
    have IV := hid iv
    have HL := hid hL
    obtain ⟨av, cv, rfl, -⟩ := Ints_form iv
    clear c1 o1 iv hL hl
    go_wp2_with fail
    (with_reducible refine (KB.out _ C1.out 999 (by decide) (by decide)).mono ?_)
    rintro e w6 ⟨y, y0, y1, rfl, c1, o1⟩
    have C1 := hid c1
    have hs8 := o1.size
    have LR := hid (LR.out.only o1 hne)
    have L5 := hid (L5.out.only o1 (by omega))
    have L6 := hid (L6.out.only o1 (by omega))
    have IR := hid (Ints_notN (by omega) IR.out o1)
    have IV := hid (Ints_notN (by omega) IV.out o1)
    have B1 := hid (B1.out.trans (o1.mono fun k hk => .inl hk))
    clear c1 o1
    go_wp2_with (at_builtin; refine wpList_append_own _ rfl _ _ 23 rfl w4.heap.size 3 i3 (.int .i64 0) 1 8 Tryz.underlying23 hi3 hz0 hz1 hz2 rfl (by decide) _ _ _ rfl (World.ownsRow.alloc (show w6.ownsRow w4.heap.size 3 1 (.slice av L.length cv) _ _ from IV.out) _) ⟨w6.heap.size, 0, none⟩ 1 1 [.int .i64 (1 + y)] rfl rfl ?c1 ?c2 ?c3 ?c4 ?c5 ?_)
    any_goals (first | rfl | exact cell_one_new _ _ _ | (intro u hu; simp at hu; subst hu; rfl) | (unfold maxLen; omega) | omega | (simp; omega))
    intro v' w7 hown' hgrow _
    have hb7 : Below w4.heap.size w6 w7 := ((Below.refl _ _).alloc (by omega) _).grown hgrow (by simp; omega) (fun k hk => (Ints_lt IV.out k hk).1)
    have hs9 := hb7.size
    have LR := hid (LR.out.under hb7 (by omega))
    have L5 := hid (L5.out.under hb7 (by omega))
    have L6 := hid (L6.out.under hb7 (by omega))
    have IR := hid (Ints_below IR.out hb7 (fun k hk => by have := BLR.out k hk; omega))
    have C1 := hid (CurE_below C1.out hb7 (by omega) (by omega) HU.out)
    have B1 := hid (B1.out.trans (Only.of_below hb7 fun k hk => .inr (by omega)))
    have IL := hid (Ints_snoc hown')
    have HD := hid (show nok (L ++ [1 + y]) = true ∧ 0 < val (L ++ [1 + y]) ∧ val (L ++ [1 + y]) < pw 3 from by
      have hlim : Lim (L ++ [1 + y]) := Lim_append HL.out.1 (Lim_one (by omega) (by omega))
      have hcan : Can (L ++ [1 + y]) := ⟨hlim, fun h => by first | (rw [List.getLast_concat]; omega) | (simp; omega)⟩
      have hlen : (L ++ [1 + y]).length ≤ 2 := by simp; omega
      have hlt := (Can_len hcan (k := 2)).1 hlen
      have h23 := pw_le (show 2 ≤ 3 by decide)
      exact ⟨nok_iff.2 ⟨by omega, hcan⟩, vpos (nok_iff.2 ⟨by omega, hcan⟩) (by simp), by omega⟩)
    obtain ⟨Ld, hLd⟩ : ∃ M, M = L ++ [1 + y] := ⟨_, rfl⟩
    have il := IL.out
    rw [← hLd] at il HD
    have ID := hid il
    obtain ⟨ae, ce, rfl, -⟩ := Ints_form il
    have nID := hid (L6.out.ne (by decide) il)
    have nIR := hid (L6.out.ne (by decide) IR.out)
    clear hown' hgrow hb7 il hLd IL
    have g0 := L6.out.c 1 rfl
    have g1 := L6.out.f 1
    have LR := hid (LR.out.setne (N := w3.heap.size) (i := 1) (x := .slice ae Ld.length ce) (by omega))
    have L5 := hid (L5.out.setne (N := w3.heap.size) (i := 1) (x := .slice ae Ld.length ce) (by omega))
    have L6 := hid (show LocA 25 (w7.setCell ⟨w3.heap.size, 1, none⟩ (.slice ae Ld.length ce)) w3.heap.size #[.bool false, .slice ae Ld.length ce] from L6.out.set)
    have IR := hid (Ints_set (i := 1) (u := .slice ae Ld.length ce) IR.out nIR.out)
    have ID := hid (Ints_set (i := 1) (u := .slice ae Ld.length ce) ID.out nID.out)
    have B1 := hid (B1.out.setCell (.inr (by show w.heap.size ≤ w3.heap.size; omega)) (.slice ae Ld.length ce) (p := ⟨w3.heap.size, 1, none⟩))
    have q0 := L5.out.c 0 rfl
    have q1 := L5.out.c 1 rfl
    have q2 := L6.out.c 0 rfl
    have q3 := L6.out.c 1 rfl
    obtain ⟨q, hq, eq⟩ := HMK.out Ld HD.out.1 HD.out.2.1 HD.out.2.2
    have HZ := hid (size_set w7 ⟨w3.heap.size, 1, none⟩ (.slice ae Ld.length ce))
    have KM := hid (fun (W : World) (b1 b2 : Nat) (h1 : Ints W b1 (.slice ar lx.length cr) lx) (h2 : Ints W b2 (.slice ae Ld.length ce) Ld) => spec_RatMake sx false _ _ lx Ld (by omega) (by have := nok_len HD.out.1; omega) b1 b2 W h1 h2)
    rw [eq] at KM
    have HQ := hid hq
    clear hq eq
    go_wp2_with fail
    generalize w7.setCell ⟨w3.heap.size, 1, none⟩ (.slice ae Ld.length ce) = W7 at LR L5 L6 IR ID B1 q0 q1 q2 q3 HZ ⊢
    have hz7 := HZ.out
    (with_reducible refine (KM.out _ _ _ IR.out ID.out).mono ?_)
    clear q0 q1 q2 q3
    rintro e w8 ⟨v1, u1, rfl, j1, j2, b1⟩
    have LR := hid (LR.out.old b1)
    have hsz8 := b1.size
    have B1 := hid (B1.out.trans (Only.of_below b1 fun k hk => .inr (by omega)))
    have J1 := hid (show Ints w8 _ v1 (gzl q.num) from j1)
    have J2 := hid (show Ints w8 _ u1 (gzl (q.den : Int)) from j2)
    change Hid (szq q 3) at HQ
    rw [show qn (some q) = q.num from rfl]
    obtain ⟨e1, d1, rfl, -⟩ := Ints_form J1.out
    obtain ⟨e2, d2, rfl, -⟩ := Ints_form J2.out
    have RX := hid (RatX_of J1.out J2.out (szq_fit HQ.out (by decide)))
    have DR := hid (fun (w4 : World) (cs : Array Value) (B C : Nat) (h1 : LocA 27 w4 w.heap.size cs) (h2 : Ints w4 B (.slice e1 (gzl q.num).length d1) (gzl q.num)) (h3 : Ints w4 C (.slice e2 (gzl (q.den : Int)).length d2) (gzl (q.den : Int))) (hB : w.heap.size ≤ B) (hC : w.heap.size ≤ C) (ho : Only (fun k => k = N ∨ w.heap.size ≤ k) w w4) => DrawR_out HQ.out (Nat.le_refl _) h1 h2 h3 hB hC ho)
    obtain ⟨gs, hgs⟩ : ∃ g, g = gzs q.num := ⟨_, rfl⟩
    obtain ⟨l1, hl1⟩ : ∃ g, g = gzl q.num := ⟨_, rfl⟩
    obtain ⟨l2, hl2⟩ : ∃ g, g = gzl (q.den : Int) := ⟨_, rfl⟩
    rw [← hgs, ← hl1, ← hl2] at DR
    rw [← hl1, ← hl2, ← hgs] at RX
    rw [← hl1] at J1
    rw [← hl2] at J2
    rw [← hgs]
    clear j1 j2 b1
    try rw [← hl1]
    try rw [← hl2]
    clear hgs hl1 hl2
    have L7 := hid (LocA.new (w := w8) (T := 27) (cs := #[.bool gs, .slice e1 l1.length d1, .slice e2 l2.length d2]))
    have LR := hid (LR.out.new1 (o := .cells #[.bool gs, .slice e1 l1.length d1, .slice e2 l2.length d2] 27))
    have RX := hid (RX.out.old (below_new' (o := .cells #[.bool gs, .slice e1 l1.length d1, .slice e2 l2.length d2] 27)))
    have J1 := hid (Ints_old J1.out (below_new' (o := .cells #[.bool gs, .slice e1 l1.length d1, .slice e2 l2.length d2] 27)))
    have J2 := hid (Ints_old J2.out (below_new' (o := .cells #[.bool gs, .slice e1 l1.length d1, .slice e2 l2.length d2] 27)))
    have B1 := hid (B1.out.alloc (.inr (by omega)) (.cells #[.bool gs, .slice e1 l1.length d1, .slice e2 l2.length d2] 27))
    go_wp2_with fail
    generalize w8.alloc (.cells #[.bool gs, .slice e1 l1.length d1, .slice e2 l2.length d2] 27) = W8 at LR RX J1 J2 B1 L7 ⊢
    have hl7 := L7.out.lt
    (with_reducible refine (ok_x RX.out).mono ?_)
    rintro e w9 ⟨rfl, b1⟩
    have LR := hid (LR.out.old b1)
    have L7 := hid (L7.out.old b1)
    have J1 := hid (Ints_old J1.out b1)
    have J2 := hid (Ints_old J2.out b1)
    have B1 := hid (B1.out.trans (Only.of_below b1 fun k hk => .inr (by omega)))
    have R := hid (DR.out _ _ _ _ LR.out J1.out J2.out (by omega) (by omega) B1.out)
    have z0 := L7.out.c 0 rfl
    have z1 := L7.out.c 1 rfl
    have z2 := L7.out.c 2 rfl
    have f0 := LR.out.f 0
    have f1 := LR.out.f 1
    have f2 := LR.out.f 2
    have p0 := LR.out.c 0 rfl
    have p1 := LR.out.c 1 rfl
    have p2 := LR.out.c 2 rfl
    clear b1
    go_wp2
    exact bodyPost_ret (v := .agg #[.bool gs, .slice e1 l1.length d1, .slice e2 l2.length d2]) (by simp [results, Tryz.results42, go_sem, p0, p1, p2]) rfl R.out
/-- MakeRat's answer: a fraction whose parts have at most three limbs. -/
def MakeR (w : World) (e : Ending) (w' : World) : Prop := ∃ (x : Rat) (v u : Value), szq x 3 ∧ e = .returned (.agg #[.bool (gzs x.num), v, u]) ∧ Ints w' w.heap.size v (gzl x.num) ∧ Ints w' w.heap.size u (gzl (x.den : Int)) ∧ Below w.heap.size w w'
set_option maxRecDepth 100000 in
set_option maxHeartbeats 3200000 in
theorem MakeRat_any (a : Option Addr) (n c : Nat) (Z : List Int) (t : Int) (hZ : Z.length ≤ 1048576) (w : World) (hr : ByteRow w a n Z) (t0 : 0 ≤ t) (t1 : t ≤ 1000) :
    Calls Tryz.prog 10 #[.slice a n c, .int .i64 t] w (MakeR w) := by
  have B0 := hid (below_new' (w := w) (o := .cells #[.bool false, .slice none 0 0, .slice none 0 0] 27))
  have L0 := hid (LocA.new (w := w) (T := 27) (cs := #[.bool false, .slice none 0 0, .slice none 0 0]))
  have HR := hid (ByteRow_below hr B0.out)
  have HR0 := hid hr
  have K := hid (fun (W : World) (h : ByteRow W a n Z) => l01New_any a n c Z hZ W h)
  have hh := hashTo_le hZ (min Z.length 4000)
  obtain ⟨h, hhe⟩ : ∃ h, h = hashed Z := ⟨_, rfl⟩
  have HH := hid hhe
  change 0 ≤ hashed Z ∧ hashed Z ≤ 1073741824 at hh
  rw [← hhe] at hh
  clear hhe hr
  go_enter Tryz.func10, Tryz.ntmps10
  go_wp2_with fail
  have hlt := L0.out.lt
  generalize w.alloc (.cells #[.bool false, .slice none 0 0, .slice none 0 0] 27) = W at B0 L0 HR hlt ⊢
  (with_reducible refine (K.out _ HR.out).mono ?_)
  rintro e w1 ⟨rfl, rfl⟩
  rw [← HH.out]
  go_wp2_with fail
  have hb0 : Below W.heap.size W (W.alloc (.cells #[.slice a n c, .int .i64 0, .int .i64 (h + t)] 52)) := (Below.refl _ _).alloc (Nat.le_refl _) _
  have HC := hid (show CurE (W.alloc (.cells #[.slice a n c, .int .i64 0, .int .i64 (h + t)] 52)) W.heap.size a n c Z from ⟨ByteRow_below HR.out hb0, 0, h + t, Nat.zero_le _, by unfold IsCur; exact heap_alloc_new W _⟩)
  have HU := hid (show Under W.heap.size a Z from fun g o e h0 => by
    obtain ⟨g', o', e', hg, _⟩ := HR.out.2.2 h0
    rw [e] at e'
    simp at e'
    omega)
  have HB := hid (B0.out.trans (hb0.mono B0.out.size))
  have L1 := hid (L0.out.old hb0)
  have hs2 : W.heap.size < (W.alloc (.cells #[.slice a n c, .int .i64 0, .int .i64 (h + t)] 52)).heap.size := by simp
  clear hb0
  (with_reducible refine (l04Draw_any W.heap.size a n c Z hZ _ HC.out HU.out).mono ?_)
  rintro e w2 ⟨x, r, u, hx, rfl, ir, iu, o1⟩
  have HX := hid hx
  have L1 := hid (L1.out.apart o1 (by omega))
  have B1 := hid (HB.out.trans (o1.below (B := w.heap.size) fun k hk hs => by simp at hs; omega))
  have n1 := L1.out.ne (by decide) ir
  have n2 := L1.out.ne (by decide) iu
  have R := hid (show MakeR w (.returned (.agg #[.bool (gzs x.num), r, u])) (((w2.setCell ⟨w.heap.size, 0, none⟩ (.bool (gzs x.num))).setCell ⟨w.heap.size, 1, none⟩ r).setCell ⟨w.heap.size, 2, none⟩ u) from
    ⟨x, r, u, HX.out, rfl, Ints_base (Ints_set (Ints_set (Ints_set ir n1) n1) n1) (by simp; omega), Ints_base (Ints_set (Ints_set (Ints_set iu n2) n2) n2) (by simp; omega), ((B1.out.setCell (Nat.le_refl _) _).setCell (Nat.le_refl _) _).setCell (Nat.le_refl _) _⟩)
  obtain ⟨gs, hgs⟩ : ∃ g, g = gzs x.num := ⟨_, rfl⟩
  rw [← hgs] at R ⊢
  obtain ⟨ar, cr, rfl, -⟩ := Ints_form ir
  obtain ⟨au, cu, rfl, -⟩ := Ints_form iu
  have f0 := L1.out.f 0
  have f1 := L1.out.f 1
  have f2 := L1.out.f 2
  have p0 := L1.out.c 0 rfl
  have p1 := L1.out.c 1 rfl
  have p2 := L1.out.c 2 rfl
  have HG := hid hgs
  clear ir iu o1 n1 n2 hgs hs2
  go_wp2
  exact bodyPost_ret (v := .agg #[.bool gs, .slice ar (gzl x.num).length cr, .slice au (gzl (x.den : Int)).length cu]) (by simp [results, Tryz.results10, go_sem, p0, p1, p2]) rfl R.out
end Go.Proofs.YtookglpeieennaaGreat

/- Fractions by their values: the program's functions in the laws' words. -/
namespace Go.Proofs.YtookglpeieennaaGreat
open Go.RowKit
open Go.Lib (hid)
set_option linter.unusedVariables false

/-- A call that gives the fraction x. -/
def RatP (x : Rat) (w : World) (e : Ending) (w' : World) : Prop := ∃ s a n c b m d, e = .returned (.agg #[.bool s, .slice a n c, .slice b m d]) ∧ RatX w' s (.slice a n c) (.slice b m d) x ∧ Below w.heap.size w w'
theorem RatP_of {x : Rat} {w w' : World} {e : Ending} (h : OwnR (some x) w e w') (hf : fit x) : RatP x w e w' := by
  obtain ⟨v, u, he, h1, h2, -, hb⟩ := h
  have h1' : Ints w' w.heap.size v (gzl x.num) := h1
  have h2' : Ints w' w.heap.size u (gzl (x.den : Int)) := h2
  obtain ⟨a, c, rfl, -⟩ := Ints_form h1'
  obtain ⟨b, d, rfl, -⟩ := Ints_form h2'
  exact ⟨gzs x.num, a, _, c, b, _, d, he, RatX_of h1' h2' hf, hb⟩
theorem RatX.val {w : World} {s : Bool} {v u : Value} {x : Rat} (h : RatX w s v u x) : ∃ A D, RL w v u A D ∧ rval s A D = some x := by
  obtain ⟨A, D, r, k, n1, d1, -⟩ := h
  obtain ⟨y, e, n2, d2, -⟩ := rval_yes k
  have : y = x := Rat.ext (by rw [n2, n1]) (by omega)
  subst this
  exact ⟨A, D, r, e⟩
theorem RatX.fits {w : World} {s : Bool} {v u : Value} {x : Rat} (h : RatX w s v u x) : fit x := by
  obtain ⟨A, D, r, k, n1, d1, f⟩ := h
  exact f
theorem add_rat {w : World} {s t : Bool} {v u v' u' : Value} {x y z : Rat} (h : RatX w s v u x) (h' : RatX w t v' u' y) (hz : x + y = z) (hf : fit z) : Calls Tryz.prog 21 #[.agg #[.bool s, v, u], .agg #[.bool t, v', u']] w (RatP z w) := by
  subst hz
  obtain ⟨A, D, r, e⟩ := h.val
  obtain ⟨A', D', r', e'⟩ := h'.val
  refine (impl_RatAdd s t v u v' u' A D A' D' w r r').mono fun e2 w' hh => RatP_of (by rw [e, e', bq_some] at hh; unfold addF at hh; rw [capF_yes hf] at hh; exact hh) hf
theorem sub_rat {w : World} {s t : Bool} {v u v' u' : Value} {x y z : Rat} (h : RatX w s v u x) (h' : RatX w t v' u' y) (hz : x - y = z) (hf : fit z) : Calls Tryz.prog 49 #[.agg #[.bool s, v, u], .agg #[.bool t, v', u']] w (RatP z w) := by
  subst hz
  obtain ⟨A, D, r, e⟩ := h.val
  obtain ⟨A', D', r', e'⟩ := h'.val
  refine (impl_RatSub s t v u v' u' A D A' D' w r r').mono fun e2 w' hh => RatP_of (by rw [e, e', bq_some] at hh; unfold subF at hh; rw [capF_yes hf] at hh; exact hh) hf
theorem mul_rat {w : World} {s t : Bool} {v u v' u' : Value} {x y z : Rat} (h : RatX w s v u x) (h' : RatX w t v' u' y) (hz : x * y = z) (hf : fit z) : Calls Tryz.prog 30 #[.agg #[.bool s, v, u], .agg #[.bool t, v', u']] w (RatP z w) := by
  subst hz
  obtain ⟨A, D, r, e⟩ := h.val
  obtain ⟨A', D', r', e'⟩ := h'.val
  refine (impl_RatMul s t v u v' u' A D A' D' w r r').mono fun e2 w' hh => RatP_of (by rw [e, e', bq_some] at hh; unfold mulF at hh; rw [capF_yes hf] at hh; exact hh) hf
theorem ok_zero {w : World} {v u : Value} (h : RL w v u [] []) : Calls Tryz.prog 28 #[.agg #[.bool false, v, u]] w (RetB (.bool false) w) := by
  have := impl_RatOk false v u [] [] w h
  rw [show rok false [] [] = false by unfold rok; simp] at this
  exact this
theorem okk_rat {w : World} {s : Bool} {v u : Value} {x : Rat} (h : RatX w s v u x) : Calls Tryz.prog 28 #[.agg #[.bool s, v, u]] w (RetB (.bool true) w) := by
  obtain ⟨A, D, r, k, -⟩ := h
  have := impl_RatOk s v u A D w r
  rw [k] at this
  exact this
theorem neg_rat {w : World} {s : Bool} {v u : Value} {x z : Rat} (h : RatX w s v u x) (hz : -x = z) : Calls Tryz.prog 23 #[.agg #[.bool s, v, u]] w (RatP z w) := by
  subst hz
  have hf := h.fits
  obtain ⟨A, D, r, e⟩ := h.val
  exact (impl_RatNeg s v u A D w r).mono fun e2 w' hh => RatP_of (by rw [e] at hh; exact hh) ⟨by rw [Rat.neg_num, Int.natAbs_neg]; exact hf.1, hf.2⟩
theorem eq_rat {w : World} {s t : Bool} {v u v' u' : Value} {x y : Rat} {z : Bool} (h : RatX w s v u x) (h' : RatX w t v' u' y) (hz : decide (x = y) = z) : Calls Tryz.prog 20 #[.agg #[.bool s, v, u], .agg #[.bool t, v', u']] w (RetB (.bool z) w) := by
  obtain ⟨A, D, r, e⟩ := h.val
  obtain ⟨A', D', r', e'⟩ := h'.val
  have hh := impl_RatEqual s t v u v' u' A D A' D' w r r'
  have e3 : ((s == t) && decide (A = A') && decide (D = D')) = z := by
    rw [← hz]
    obtain ⟨g1, g2, g3⟩ := rval_lists e
    obtain ⟨k1, k2, k3⟩ := rval_lists e'
    by_cases hxy : x = y
    · subst hxy
      have a1 : s = t := g1.symm.trans k1
      have a2 : A = A' := g2.symm.trans k2
      have a3 : D = D' := g3.symm.trans k3
      simp [a1, a2, a3]
    · rw [decide_eq_false hxy]
      cases hb : ((s == t) && decide (A = A') && decide (D = D')) with
      | false => rfl
      | true =>
        simp only [Bool.and_eq_true, decide_eq_true_eq, beq_iff_eq] at hb
        obtain ⟨⟨a1, a2⟩, a3⟩ := hb
        subst a1
        subst a2
        subst a3
        rw [e] at e'
        cases e'
        exact absurd rfl hxy
  rw [e3] at hh
  exact hh
theorem cmp_rat {w : World} {s t : Bool} {v u v' u' : Value} {x y : Rat} {z : Int} (h : RatX w s v u x) (h' : RatX w t v' u' y) (hz : cmpF x y = z) : Calls Tryz.prog 16 #[.agg #[.bool s, v, u], .agg #[.bool t, v', u']] w (RetB (.int .i64 z) w) := by
  subst hz
  obtain ⟨A, D, r, e⟩ := h.val
  obtain ⟨A', D', r', e'⟩ := h'.val
  have hh := impl_RatCmp s t v u v' u' A D A' D' w r r'
  rw [e, e', cmpO_some] at hh
  exact hh
theorem sign_rat {w : World} {s : Bool} {v u : Value} {x : Rat} {z : Int} (h : RatX w s v u x) (hz : sgn x.num = z) : Calls Tryz.prog 19 #[.agg #[.bool s, v, u]] w (RetB (.int .i64 z) w) := by
  subst hz
  obtain ⟨A, D, r, e⟩ := h.val
  have hh := impl_RatSign s v u A D w r
  rw [e, sgnO_some] at hh
  exact hh
theorem max_rat {w : World} {s t : Bool} {v u v' u' : Value} {x y z : Rat} (h : RatX w s v u x) (h' : RatX w t v' u' y) (hz : maxF x y = z) (hf : fit z) : Calls Tryz.prog 50 #[.agg #[.bool s, v, u], .agg #[.bool t, v', u']] w (RatP z w) := by
  subst hz
  obtain ⟨A, D, r, e⟩ := h.val
  obtain ⟨A', D', r', e'⟩ := h'.val
  exact (impl_RatMax s t v u v' u' A D A' D' w r r').mono fun e2 w' hh => RatP_of (by rw [e, e', bq_some, sel_max] at hh; exact hh) hf
theorem RatX.set {T : TypeId} {w : World} {N i : Nat} {cs : Array Value} {y : Value} {s : Bool} {v u : Value} {x : Rat} (h : RatX w s v u x) (hL : LocA T w N cs) (hT : T ≠ 3) : RatX (w.setCell ⟨N, i, none⟩ y) s v u x := by
  obtain ⟨A, D, ⟨⟨b1, i1⟩, ⟨b2, i2⟩, l1, l2⟩, k⟩ := h
  exact ⟨A, D, ⟨⟨b1, Ints_set i1 (hL.ne hT i1)⟩, ⟨b2, Ints_set i2 (hL.ne hT i2)⟩, l1, l2⟩, k⟩
/-- The fraction z has been laid into a variable of its own, behind W. -/
def LaidQ (W : World) (z : Rat) (sl : Value) (wx : World) : Prop := ∃ g s a n c b m d, sl = .pointer (some ⟨g, 0, none⟩) ∧ LocA 27 wx g #[.bool s, .slice a n c, .slice b m d] ∧ RatX wx s (.slice a n c) (.slice b m d) z ∧ W.heap.size ≤ g ∧ Below W.heap.size W wx
theorem LaidQ_a {W wf : World} {s : Bool} {a b : Option Addr} {n c m d : Nat} {z : Rat} (h : RatX wf s (.slice a n c) (.slice b m d) z) (hb : Below W.heap.size W wf) :
    LaidQ W z (.pointer (some ⟨wf.heap.size, 0, none⟩)) (wf.alloc (.cells #[.bool s, .slice a n c, .slice b m d] 27)) :=
  ⟨wf.heap.size, s, a, n, c, b, m, d, rfl, LocA.new, h.old below_new', hb.size, hb.alloc hb.size _⟩
theorem LaidQ_b {W wf : World} {N : Nat} {s : Bool} {a b : Option Addr} {n c m d : Nat} {z : Rat} (hL : LocA 27 wf N #[.bool false, .slice none 0 0, .slice none 0 0]) (hN : W.heap.size ≤ N) (h : RatX wf s (.slice a n c) (.slice b m d) z) (hb : Below W.heap.size W wf) :
    LaidQ W z (.pointer (some ⟨N, 0, none⟩)) (((wf.setCell ⟨N, 0, none⟩ (.bool s)).setCell ⟨N, 1, none⟩ (.slice a n c)).setCell ⟨N, 2, none⟩ (.slice b m d)) := by
  have l1 := hL.set (i := 0) (x := .bool s)
  have l2 := l1.set (i := 1) (x := .slice a n c)
  have l3 := l2.set (i := 2) (x := .slice b m d)
  exact ⟨N, s, a, n, c, b, m, d, rfl, l3, ((h.set hL (by decide)).set l1 (by decide)).set l2 (by decide), hN, ((hb.setCell hN _).setCell hN _).setCell hN _⟩
theorem ByteRow_in {w : World} {a : Option Addr} {len cap : Nat} {zs : List Int}
    (h : (a = none ∧ len = 0 ∧ cap = 0 ∧ zs = []) ∨ ∃ x, a = some x ∧ len ≤ cap ∧ cap ≤ maxLen ∧ zs.length = cap ∧ (∀ i, i < zs.length → w.cell? (x.add i) = some (.int .u8 (zs.getD i 0))) ∧ ∀ n ∈ zs, (Lit.int .u8 n).wf = true) :
    ∃ Z, ByteRow w a len Z ∧ len ≤ maxLen := by
  rcases h with ⟨rfl, rfl, rfl, rfl⟩ | ⟨x, rfl, hl, hm, hz, hc, hw⟩
  · exact ⟨[], ⟨rfl, (fun z h => by cases h), (fun h => by cases h)⟩, by unfold maxLen; omega⟩
  · have hlen : (zs.take len).length = len := by simp; omega
    refine ⟨zs.take len, ⟨hlen.symm, fun z hz => ?_, fun h0 => ?_⟩, by omega⟩
    · have h := hw z (List.mem_of_mem_take hz)
      simp only [Lit.wf, Bool.and_eq_true, decide_eq_true_eq] at h
      exact h
    obtain ⟨g, o, spot⟩ := x
    have hs : spot = none := by
      have := hc 0 (by omega)
      simpa [Addr.add] using World.cell?_spot this
    subst hs
    have hat : ∀ i, i < zs.length → w.cell? ⟨g, o + i, none⟩ = some (.int .u8 (zs.getD i 0)) := fun i hi => by rw [← Go.WideShapes.add_plain]; exact hc i hi
    refine ⟨g, o, rfl, World.block_lt_of_cell? w ⟨g, o + 0, none⟩ (hat 0 (by omega)), fun i hi => ?_⟩
    have hi' : i < zs.length := by omega
    rw [hat i hi', List.getElem_take]
    simp [hi']

end Go.Proofs.YtookglpeieennaaGreat
