/- The law FnDens. -/
import Derived.Test.YtmghoedjcokhpaaVfd
import Derived.Deep.RegionHeld3
import Derived.Deep.DeepCutAuto
namespace Go.Proofs.Ytmghoedjcokhpaa
open Go.RowKit
open Go.Lib (hid)
set_option linter.unusedVariables false

theorem mul_oD {w : World} {s t : Bool} {v u v' u' : Value} {o o' : Option Rat} (h : RA w s v u o) (h' : RA w t v' u' o') : Calls Try.prog 42 #[.agg #[.bool s, v, u], .agg #[.bool t, v', u']] w (RatO true (bq mulF o o') w) := by
  obtain ⟨A, D, r, rfl⟩ := h
  obtain ⟨A', D', r', rfl⟩ := h'
  exact (impl_RatMul s t v u v' u' A D A' D' w r r').mono fun e w' hh => RatO_of hh (fitO_bq fitO_mul _ _)
theorem rep_nil0 : rep 0 = [] := by
  have h := (Can_len (Can_rep 0) (k := 0)).2 (by rw [val_rep]; decide)
  exact List.eq_nil_of_length_eq_zero (by omega)
theorem sign_zero {w : World} {s : Bool} {v u : Value} {x : Rat} (h : RA w s v u (some x)) (hn : x.num = 0) : Calls Try.prog 44 #[.agg #[.bool s, v, u]] w (RetB (.int .i64 0) w) := by
  have := sign_o h
  rwa [sgnO_some, hn, show sgn 0 = 0 from rfl] at this
theorem div_zero {w : World} {G : Nat} {z : Int} {v u : Value} {b1 b2 : Nat} (hg : 0 < G) (hf : fit ((z : Int) : Rat)) (hz : z.natAbs % G = 0) (hG : (G : Int) < pw 24) (h1 : Ints w b1 v (gzl (qn (some ((z : Int) : Rat))))) (h2 : Ints w b2 u (rep G)) :
    Calls Try.prog 45 #[v, u] w (Own2 (divQ (gzl z) (rep G)) [] w) := by
  have hzz : (z.natAbs : Int) < pw 24 := hf.1
  have h24 : pw 24 < pw 60 := by decide
  have e1 : gzl z = rep z.natAbs := by
    unfold gzl
    rw [capped_of (by omega)]
    rfl
  have l1 : (rep z.natAbs).length ≤ 60 := (Can_len (Can_rep _) (k := 60)).2 (by rw [val_rep]; omega)
  have l2 : (rep G).length ≤ 60 := (Can_len (Can_rep _) (k := 60)).2 (by rw [val_rep]; omega)
  have h := impl_NatDiv v u (gzl z) (rep G) (by rw [e1]; omega) (by omega) b1 b2 w h1 h2
  have e2 : divR (gzl z) (rep G) = [] := by
    unfold divR
    split
    · rw [e1, val_rep, val_rep]
      have : ((z.natAbs : Int) % (G : Int)).toNat = 0 := by
        have h3 : ((z.natAbs % G : Nat) : Int) = (z.natAbs : Int) % (G : Int) := Int.natCast_emod _ _
        omega
      rw [this]; exact rep_nil0
    · rfl
  rwa [e2] at h
theorem ndp_ltD {o : Option Rat} (h : fitO o) : ((ndp o).1 : Int) < pw 24 := by
  cases o with
  | none => simp only [ndp, qn]; decide
  | some x => exact (h x rfl).1
theorem gcdN_ltD {os : List (Option Rat)} (h : ∀ o ∈ os, fitO o) : ((gcdN os : Nat) : Int) < pw 24 := by
  have key : ∀ (l : List (Option Rat)) (a : Nat), (∀ o ∈ l, fitO o) → (a : Int) < pw 24 → ((l.foldl (fun g o => Nat.gcd g (ndp o).1) a : Nat) : Int) < pw 24 := by
    intro l
    induction l with
    | nil => intro a _ ha; exact ha
    | cons o l ih =>
      intro a hl ha
      exact ih _ (fun x hx => hl x (List.mem_cons_of_mem _ hx)) (gcd_bd ha (ndp_ltD (hl o (List.mem_cons_self ..))))
  exact key os 0 h (by decide)
theorem vals_fitD (K : List Fq) : ∀ o ∈ vals K, fitO o := by
  intro o ho
  obtain ⟨f, -, rfl⟩ := List.mem_map.1 ho
  exact fitO_o f
theorem rep_pos0 {M : Nat} (h : 0 < M) : 0 < (rep M).length := by
  rcases Nat.eq_zero_or_pos (rep M).length with e | e
  · have h1 := val_rep M
    rw [List.eq_nil_of_length_eq_zero e] at h1
    simp [val] at h1
    omega
  · exact e
theorem rep_lenD {M : Nat} (h : (M : Int) ≤ pw 3) : (rep M).length ≤ 24 := (Can_len (Can_rep M) (k := 24)).2 (by
  rw [val_rep]
  have : pw 3 < pw 24 := by decide
  omega)
theorem few_Sm {K : List Fq} (h : Few1 K) (hl : K.length ≤ 1048576) : Sm K := ⟨fun f hf => by
  obtain ⟨x, e, hx⟩ := h f hf
  obtain ⟨-, -, h1, h2⟩ := rval_parts (fitO_some (szq_fit hx (by decide)))
  rw [e, fqo_A, fqo_D]
  omega, hl⟩
set_option maxRecDepth 100000 in
set_option maxHeartbeats 25600000 in
theorem law_FnDens (a : Option Addr) (n c : Nat) (Z : List Int) (hm : n ≤ maxLen) (w : World) (hr : ByteRow w a n Z) :
    Calls Try.prog 11 #[.slice a n c] w (RetB (.bool true) w) := by
  have hZn : Z.length = n := hr.1.symm
  unfold maxLen at hm
  by_cases hA : 1048576 < (n : Int)
  · have B := hid (Below.refl w.heap.size w)
    go_enter Try.func11, Try.ntmps11
    go_wp2
    go_ret
    exact ⟨rfl, Below.refl _ _⟩
  have hZ : Z.length ≤ 1048576 := by omega
  have KM := hid (show Calls Try.prog 39 #[.slice a n c, .int .i64 3, .int .i64 1] w (MakeV 3 w) from MakeVec_any 3 (by decide) a n c Z 1 hZ w hr (by decide) (by decide))
  clear hr hZn
  go_enter Try.func11, Try.ntmps11
  go_wp2_with fail
  (with_reducible refine (KM.out).mono ?_)
  rintro e w1 ⟨K, a1, c1, hl, hf, rfl, hv, b1⟩
  have B := hid b1
  have t1 : w.heap.size ≤ w1.heap.size := b1.size
  have V := hid (hv.wide (Nat.le_refl _) (Nat.le_refl _))
  have HF := hid hf
  have HL := hid hl
  have hSm : Sm K := few_Sm hf (by omega)
  have KC := hid (fun (W : World) (h : VK false W (.slice a1 3 c1) K w.heap.size w1.heap.size) => impl_CommonDenominator hSm W h)
  have KG := hid (fun (W : World) (h : VK false W (.slice a1 3 c1) K w.heap.size w1.heap.size) => impl_NumeratorGcd hSm W h)
  obtain ⟨m0, m1, e1, e2⟩ := few_M hf hl
  rw [e1] at KC
  rw [e2] at KG
  have FE := hid (fun k (hk : k < K.length) (x : Rat) (hx : K[k].o = some x) (hs : szq x 1) => few_elem hf hl hk hx hs)
  have GL := hid (gcdN_ltD (vals_fitD K))
  generalize lcmN (vals K) = M at KC m0 m1 FE
  generalize gcdN (vals K) = G0 at KG FE GL
  clear b1 hv hf hl e1 e2 KM
  go_wp2_with fail
  (with_reducible refine (KC.out _ V.out).mono ?_)
  rintro e w2 ⟨v2, rfl, i2, b2⟩
  have t2 : w1.heap.size ≤ w2.heap.size := b2.size
  have B := hid (B.out.trans (b2.mono B.out.size))
  have V := hid (V.out.old b2)
  have C2 := hid i2
  obtain ⟨a2, c2, rfl, -⟩ := Ints_form i2
  have hcl : 0 < (rep M).length := rep_pos0 m0
  have hc24 : (rep M).length ≤ 24 := rep_lenD (by omega)
  clear i2 b2
  go_wp2_with fail
  (with_reducible refine (KG.out _ V.out).mono ?_)
  rintro e w3 ⟨v3, rfl, i3, b3⟩
  have t3 : w2.heap.size ≤ w3.heap.size := b3.size
  have B := hid (B.out.trans (b3.mono B.out.size))
  have V := hid (V.out.old b3)
  have C2 := hid (Ints_old C2.out b3)
  have G3 := hid i3
  obtain ⟨a3, c3, rfl, -⟩ := Ints_form i3
  clear i3 b3
  have XA := hid (show RA ((w3.alloc (.cells #[.int .i64 1] 3)).alloc (.cells #[.bool false, .slice a2 (rep M).length c2, .slice (some ⟨w3.heap.size, 0, none⟩) 1 1] 45)) false (.slice a2 (rep M).length c2) (.slice (some ⟨w3.heap.size, 0, none⟩) 1 1) (rval false (rep M) [1]) from
    RA.of ⟨⟨_, addPre (addPre C2.out)⟩, ⟨_, addPre (Ints_lit1 (B := w3.heap.size) 1 (Nat.le_refl _))⟩, by omega, by decide⟩)
  obtain ⟨LM, hLM⟩ : ∃ x, x = (rep M).length := ⟨_, rfl⟩
  rw [← hLM] at XA hcl ⊢
  clear hLM hc24 C2
  have LC := hid (LocA.at (T := 45) (w := w3.alloc (.cells #[.int .i64 1] 3)) (b := w3.heap.size + 1) (cs := #[.bool false, .slice a2 LM c2, .slice (some ⟨w3.heap.size, 0, none⟩) 1 1]) (by simp))
  have V := hid ((V.out.old (below_new' (o := .cells #[.int .i64 1] 3))).old (below_new' (o := .cells #[.bool false, .slice a2 LM c2, .slice (some ⟨w3.heap.size, 0, none⟩) 1 1] 45)))
  have G3 := hid (addPre (o := .cells #[.bool false, .slice a2 LM c2, .slice (some ⟨w3.heap.size, 0, none⟩) 1 1] 45) (addPre (o := .cells #[.int .i64 1] 3) G3.out))
  have B := hid ((B.out.alloc B.out.size (.cells #[.int .i64 1] 3)).alloc (Nat.le_trans B.out.size (by simp)) (.cells #[.bool false, .slice a2 LM c2, .slice (some ⟨w3.heap.size, 0, none⟩) 1 1] 45))
  obtain ⟨RG, hRG⟩ : ∃ x, x = rep G0 := ⟨_, rfl⟩
  have HRG := hid hRG
  rw [← hRG] at G3 ⊢
  obtain ⟨LG, hLG⟩ : ∃ x, x = RG.length := ⟨_, rfl⟩
  have HLG := hid hLG
  rw [← hLG] at G3 ⊢
  clear hLG
  have e0 : ((LM : Int) == 0) = false := beq_eq_false_iff_ne.2 (by omega)
  clear hRG hcl m0 m1
  go_wp2
  generalize (w3.alloc (.cells #[.int .i64 1] 3)).alloc (.cells #[.bool false, .slice a2 LM c2, .slice (some ⟨w3.heap.size, 0, none⟩) 1 1] 45) = W at XA LC V G3 B ⊢
  go_loopw [30] (fun i wr => ∃ k : Nat, k ≤ 3 ∧ i = .int .i64 k ∧ Hid (Below W.heap.size W wr)) (fun i _ => 3 - (intOf i).toNat)
  case atStart => exact ⟨0, by decide, rfl, hid (Below.refl _ _)⟩
  case round =>
    obtain ⟨k, hk, rfl, hB⟩ := hrel
    by_cases hlt3 : k < 3
    · have hlt : k < K.length := by rw [HL.out]; exact hlt3
      have X := hid (V.out.old hB.out)
      obtain ⟨g1, a31, n31, c31, b31, m31, d31, rfl, hg1, q01, q11, q21, R1⟩ := X.out.at hSm hlt
      obtain ⟨⟨s1, A1, D1⟩, hf1⟩ : ∃ f, K[k]'(hlt) = f := ⟨_, rfl⟩
      simp only [hf1] at q01 R1
      have HF1 := hid hf1
      clear hf1
      obtain ⟨o1, ho1⟩ : ∃ o, Fq.o ⟨s1, A1, D1⟩ = o := ⟨_, rfl⟩
      have HO1 := hid (show (K[k]'(hlt)).o = o1 by rw [HF1.out, ho1])
      have RX1 := hid (show RA wr s1 (.slice a31 n31 c31) (.slice b31 m31 d31) o1 from ⟨A1, D1, R1, ho1⟩)
      clear ho1 R1
      obtain ⟨x, ex, hsx, -⟩ := HF.out.at hlt
      obtain ⟨z, z1, z2, z3, z4⟩ := FE.out k hlt x ex hsx
      have e9 : o1 = some x := by rw [← HO1.out, ex]
      subst e9
      have Z1 := hid z1
      have Z2 := hid z2
      have Z3 := hid z3
      have Z4 := hid z4
      clear z1 z2 z3 z4 ex hsx
      have a1' : (0 : Int) ≤ k := by omega
      have a2' : (k : Int) < 3 := by omega
      have zz := hB.out.size
      have X8 := hid (RX1.out.old (below_new' (o := .cells #[.bool s1, .slice a31 n31 c31, .slice b31 m31 d31] 45)))
      have L8 := hid (LocA.new (w := wr) (T := 45) (cs := #[.bool s1, .slice a31 n31 c31, .slice b31 m31 d31]))
      have L6 := hid ((LC.out.old hB.out).new1 (o := .cells #[.bool s1, .slice a31 n31 c31, .slice b31 m31 d31] 45))
      have XB := hid ((XA.out.old hB.out).old (below_new' (o := .cells #[.bool s1, .slice a31 n31 c31, .slice b31 m31 d31] 45)))
      have GB := hid (Ints_old (Ints_old G3.out hB.out) (below_new' (o := .cells #[.bool s1, .slice a31 n31 c31, .slice b31 m31 d31] 45)))
      have B8 := hid (hB.out.alloc zz (.cells #[.bool s1, .slice a31 n31 c31, .slice b31 m31 d31] 45))
      have s8 : (wr.alloc (.cells #[.bool s1, .slice a31 n31 c31, .slice b31 m31 d31] 45)).heap.size = wr.heap.size + 1 := by simp
      have x0 := L8.out.c 0 (v := .bool s1) rfl
      have x1 := L8.out.c 1 (v := .slice a31 n31 c31) rfl
      have x2 := L8.out.c 2 (v := .slice b31 m31 d31) rfl
      have x3 := L6.out.c 0 (v := .bool false) rfl
      have x4 := L6.out.c 1 (v := .slice a2 LM c2) rfl
      have x5 := L6.out.c 2 (v := .slice (some ⟨w3.heap.size, 0, none⟩) 1 1) rfl
      go_wp2_with fail
      (with_reducible refine (mul_oD X8.out XB.out).mono ?_)
      clear x0 x1 x2 x3 x4 x5 q01 q11 q21
      rintro e v2 ⟨s4, a4, n4, c4, b4, m4, d4, rfl, ho, b4'⟩
      have hz2 := b4'.size
      have R4 := hid (show RO true v2 (wr.alloc (.cells #[.bool s1, .slice a31 n31 c31, .slice b31 m31 d31] 45)).heap.size s4 (.slice a4 n4 c4) (.slice b4 m4 d4) (some (z : Rat)) from Z1.out ▸ ho)
      have L8 := hid (L8.out.old b4')
      have X8 := hid (X8.out.old b4')
      have GB := hid (Ints_old GB.out b4')
      have B9 := hid ((B8.out.trans (b4'.mono B8.out.size)).alloc (Nat.le_trans B8.out.size hz2) (.cells #[.bool s4, .slice a4 n4 c4, .slice b4 m4 d4] 45))
      clear ho b4'
      have R9 := hid (R4.out.old (below_new' (o := .cells #[.bool s4, .slice a4 n4 c4, .slice b4 m4 d4] 45)))
      have L8 := hid (L8.out.new1 (o := .cells #[.bool s4, .slice a4 n4 c4, .slice b4 m4 d4] 45))
      have X8 := hid (X8.out.old (below_new' (o := .cells #[.bool s4, .slice a4 n4 c4, .slice b4 m4 d4] 45)))
      have GB := hid (Ints_old GB.out (below_new' (o := .cells #[.bool s4, .slice a4 n4 c4, .slice b4 m4 d4] 45)))
      have L9 := hid (LocA.new (w := v2) (T := 45) (cs := #[.bool s4, .slice a4 n4 c4, .slice b4 m4 d4]))
      have x0 := L9.out.c 0 (v := .bool s4) rfl
      have x1 := L9.out.c 1 (v := .slice a4 n4 c4) rfl
      have x2 := L9.out.c 2 (v := .slice b4 m4 d4) rfl
      go_wp2_with fail
      (with_reducible refine (isint_v (p := true) R9.out.ra (decide_eq_true rfl)).mono ?_)
      clear x0 x1 x2
      rintro e v3 ⟨rfl, b5⟩
      have B9 := hid (B9.out.trans (b5.mono B9.out.size))
      have L8 := hid (L8.out.old b5)
      have L9 := hid (L9.out.old b5)
      have X8 := hid (X8.out.old b5)
      have R9 := hid (R9.out.old b5)
      have GB := hid (Ints_old GB.out b5)
      clear b5
      rcases Nat.eq_zero_or_pos G0 with hg | hg
      · have e1 : ((LG : Int) == 0) = true := by rw [HLG.out, HRG.out, hg, rep_nil0]; rfl
        have hn := Z3.out hg
        have x0 := L8.out.c 0 (v := .bool s1) rfl
        have x1 := L8.out.c 1 (v := .slice a31 n31 c31) rfl
        have x2 := L8.out.c 2 (v := .slice b31 m31 d31) rfl
        have KS := hid (sign_zero X8.out hn)
        clear hn
        go_wp2_with fail
        (with_reducible refine (KS.out).mono ?_)
        clear x0 x1 x2
        rintro e v4 ⟨rfl, b6⟩
        have B9 := hid (B9.out.trans (b6.mono B9.out.size))
        clear b6
        go_wp2
        go_roundw
        case rel => exact ⟨k + 1, by omega, by go_num, B9⟩
        case measure => simp [intOf]; omega
      · have hR1 : 0 < LG := by rw [HLG.out, HRG.out]; exact rep_pos0 hg
        have e1 : ((LG : Int) == 0) = false := beq_eq_false_iff_ne.2 (by omega)
        clear hR1
        have x1 := L9.out.c 1 (v := .slice a4 n4 c4) rfl
        have KD := hid (show Calls Try.prog 45 #[.slice a4 n4 c4, .slice a3 LG c3] v3 (Own2 (divQ (gzl z) (rep G0)) [] v3) from div_zero hg Z2.out (Z4.out hg) GL.out R9.out.i (by have h := GB.out; rw [HRG.out] at h; exact h))
        go_wp2_with fail
        (with_reducible refine (KD.out).mono ?_)
        clear x1
        rintro e v4 ⟨y1, y2, rfl, i5, i6, -, b6⟩
        obtain ⟨a5, c5, rfl, -⟩ := Ints_form i5
        obtain ⟨a6, c6, rfl, -⟩ := Ints_form i6
        have B9 := hid (B9.out.trans (b6.mono B9.out.size))
        clear i5 i6 b6
        go_wp2
        go_roundw
        case rel => exact ⟨k + 1, by omega, by go_num, B9⟩
        case measure => simp [intOf]; omega
    · obtain rfl : k = 3 := by omega
      have RB := hid (show Below w.heap.size w wr from B.out.trans (hB.out.mono B.out.size))
      go_wp2
      go_ret
      exact ⟨rfl, RB.out⟩

end Go.Proofs.Ytmghoedjcokhpaa
