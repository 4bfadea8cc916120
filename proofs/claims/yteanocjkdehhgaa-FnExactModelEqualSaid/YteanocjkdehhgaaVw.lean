/- Merged: Vq Vw. -/
import Derived.Test.YteanocjkdehhgaaVa
import Derived.Deep.RegionHeld3
import Derived.Deep.DeepCutAuto
import Derived.Test.YteanocjkdehhgaaVf
/- Vectors that are equal (the program and the reference). -/
namespace Go.Proofs.Yteanocjkdehhgaa
open Go.RowKit
open Go.Lib (hid)
set_option linter.unusedVariables false

def eqF (f g : Fq) : Bool := (f.s == g.s) && decide (f.A = g.A) && decide (f.D = g.D)
def eqV : List Fq → List Fq → Bool
  | [], [] => true
  | f :: K, g :: L => eqF f g && eqV K L
  | _, _ => false
theorem eqV_len : ∀ {K L : List Fq}, K.length ≠ L.length → eqV K L = false
  | [], [], h => absurd rfl h
  | [], _ :: _, _ => rfl
  | _ :: _, [], _ => rfl
  | f :: K, g :: L, h => by
    have := eqV_len (K := K) (L := L) (fun e => h (by simp [e]))
    simp [eqV, this]
theorem eqV_no : ∀ {K L : List Fq} {k : Nat} (h : k < K.length) (h' : k < L.length), eqF K[k] L[k] = false → eqV K L = false
  | f :: K, g :: L, 0, _, _, e => by simp only [List.getElem_cons_zero] at e; simp [eqV, e]
  | f :: K, g :: L, k + 1, h, h', e => by
    have := eqV_no (K := K) (L := L) (k := k) (by simpa using h) (by simpa using h') (by simpa using e)
    simp [eqV, this]
theorem eqV_yes : ∀ {K L : List Fq}, K.length = L.length → (∀ k (h : k < K.length) (h' : k < L.length), eqF K[k] L[k] = true) → eqV K L = true
  | [], [], _, _ => rfl
  | [], _ :: _, h, _ => by simp at h
  | _ :: _, [], h, _ => by simp at h
  | f :: K, g :: L, h, ha => by
    have h0 := ha 0 (by simp) (by simp)
    have h1 := eqV_yes (K := K) (L := L) (by simpa using h) (fun k h2 h3 => ha (k + 1) (Nat.succ_lt_succ h2) (Nat.succ_lt_succ h3))
    simp only [List.getElem_cons_zero] at h0
    simp [eqV, h0, h1]
set_option maxRecDepth 100000 in
set_option maxHeartbeats 6400000 in
theorem EqualFunc_eq_w  {a : Option Addr} {n c : Nat} {b : Option Addr} {m d : Nat} {K L : List Fq} {lo hi lo' hi' : Nat} (hK : Sm K) (hL : Sm L) (w : World) (h : VW w a n K lo hi) (h' : VW w b m L lo' hi') :
    Calls Try.prog 130 #[.slice a n c, .slice b m d, .func (.func 43) #[] #[]] w (RetB (.bool (eqV K L)) w) := by
  have HV := hid h
  have HW := hid h'
  obtain rfl := h.num
  obtain rfl := h'.num
  clear h h'
  have hkl := hK.2
  have hll := hL.2
  by_cases hne : K.length = L.length
  · obtain ⟨B0, hB0⟩ : ∃ B, B = eqV K L := ⟨_, rfl⟩
    rw [← hB0]
    have HB0 := hid hB0
    clear hB0
    have HN := hid hne
    rw [← hne] at HW ⊢
    clear hne
    go_enter Try.func130, Try.ntmps130
    go_wp2
    go_loopw [17] (fun i wr => ∃ k : Nat, k ≤ K.length ∧ i = .int .i64 k ∧ Hid (∀ j (h : j < K.length) (h' : j < L.length), j < k → eqF K[j] L[j] = true) ∧ Below w.heap.size w wr) (fun i _ => K.length - (intOf i).toNat)
    case atStart => exact ⟨0, Nat.zero_le _, rfl, hid (fun j h h' hj => absurd hj (by omega)), Below.refl _ _⟩
    case round =>
      obtain ⟨k, hk, rfl, hA, hbel⟩ := hrel
      by_cases hlt : k < K.length
      · have hlt2 : k < L.length := by rw [← HN.out]; exact hlt
        have X := hid (HV.out.old hbel)
        have Y := hid (HW.out.old hbel)
        obtain ⟨g1, p1, a31, n31, c31, b31, m31, d31, rfl, hg1, q01, q11, q21, R1⟩ := X.out.at hK hlt
        obtain ⟨⟨s1, A1, D1⟩, hf1⟩ : ∃ f, K[k]'(hlt) = f := ⟨_, rfl⟩
        simp only [hf1] at q01 R1
        have HF1 := hid hf1
        clear hf1
        obtain ⟨g2, p2, a32, n32, c32, b32, m32, d32, rfl, hg2, q02, q12, q22, R2⟩ := Y.out.at hL hlt2
        obtain ⟨⟨s2, A2, D2⟩, hf2⟩ : ∃ f, L[k]'(hlt2) = f := ⟨_, rfl⟩
        simp only [hf2] at q02 R2
        have HF2 := hid hf2
        clear hf2
        have HB := hid ((hbel.alloc hbel.size (.cells #[.bool s1, .slice a31 n31 c31, .slice b31 m31 d31] 33)).alloc (by have := hbel.size; simp; omega) (.cells #[.bool s2, .slice a32 n32 c32, .slice b32 m32 d32] 33))
        have a1' : (0 : Int) ≤ k := by omega
        have a2 : (k : Int) < K.length := by omega
        obtain ⟨ef, hef0⟩ : ∃ ef, eqF ⟨s1, A1, D1⟩ ⟨s2, A2, D2⟩ = ef := ⟨_, rfl⟩
        have HEF := hid (show eqF ⟨s1, A1, D1⟩ ⟨s2, A2, D2⟩ = ((s1 == s2) && decide (A1 = A2) && decide (D1 = D2)) from rfl)
        clear hbel
        cases ef with
        | false =>
          have hef := hef0
          clear hef0
          have KO := hid (fun (W : World) (hb : Below wr.heap.size wr W) => impl_RatEqual s1 s2 _ _ _ _ A1 D1 A2 D2 W (R1.old hb) (R2.old hb))
          simp only [← HEF.out, hef] at KO
          clear R1 R2
          go_wp2_with fail
          (with_reducible refine (KO.out _ (Below.alloc below_new' (by simp) _)).mono ?_)
          rintro e w2 ⟨rfl, hb⟩
          have HB := hid (HB.out.trans (hb.mono (by have := HB.out.size; simp at this ⊢; omega)))
          clear hb q01 q11 q21 q02 q12 q22
          go_wp2
          go_ret
          exact ⟨bool_ret (by rw [HB0.out, eqV_no hlt hlt2 (by rw [HF1.out, HF2.out]; exact hef)]), HB.out⟩
        | true =>
          have hef := hef0
          clear hef0
          have KO := hid (fun (W : World) (hb : Below wr.heap.size wr W) => impl_RatEqual s1 s2 _ _ _ _ A1 D1 A2 D2 W (R1.old hb) (R2.old hb))
          simp only [← HEF.out, hef] at KO
          clear R1 R2
          go_wp2_with fail
          (with_reducible refine (KO.out _ (Below.alloc below_new' (by simp) _)).mono ?_)
          rintro e w2 ⟨rfl, hb⟩
          have HB := hid (HB.out.trans (hb.mono (by have := HB.out.size; simp at this ⊢; omega)))
          clear hb q01 q11 q21 q02 q12 q22
          go_wp2
          go_roundw
          case rel => exact ⟨k + 1, by omega, by go_num, hid (fun j h h' hj => by
            rcases Nat.lt_or_eq_of_le (Nat.le_of_lt_succ hj) with hj' | rfl
            · exact hA.out j h h' hj'
            · rw [HF1.out, HF2.out]; exact hef), HB.out⟩
          case measure => simp [intOf]; omega
      · have HB := hid hbel
        clear hbel
        go_wp2
        go_ret
        exact ⟨bool_ret (by rw [HB0.out, eqV_yes HN.out (fun j h h' => hA.out j h h' (by omega))]), HB.out⟩
  · rw [eqV_len hne]
    obtain ⟨e1, e2⟩ := ne_facts hne
    go_enter Try.func130, Try.ntmps130
    go_wp2
    go_ret
    exact ⟨rfl, Below.refl _ _⟩
theorem EqualFunc_eq {p q : Bool} {a : Option Addr} {n c : Nat} {b : Option Addr} {m d : Nat} {K L : List Fq} {lo hi lo' hi' : Nat} (hK : Sm K) (hL : Sm L) (w : World) (h : VK p w (.slice a n c) K lo hi) (h' : VK q w (.slice b m d) L lo' hi') :
    Calls Try.prog 130 #[.slice a n c, .slice b m d, .func (.func 43) #[] #[]] w (RetB (.bool (eqV K L)) w) :=
  EqualFunc_eq_w hK hL w h.vw h'.vw
set_option maxRecDepth 100000 in
set_option maxHeartbeats 6400000 in
theorem spec_VecEqual {p q : Bool} {a : Option Addr} {n c : Nat} {b : Option Addr} {m d : Nat} {K L : List Fq} {lo hi lo' hi' : Nat} (hK : Sm K) (hL : Sm L) (w : World) (h : VK p w (.slice a n c) K lo hi) (h' : VK q w (.slice b m d) L lo' hi') :
    Calls Try.prog 86 #[.slice a n c, .slice b m d] w (RetB (.bool (eqV K L)) w) := by
  have HV := hid h
  have HW := hid h'
  obtain rfl := h.num
  obtain rfl := h'.num
  clear h h'
  have hkl := hK.2
  have hll := hL.2
  by_cases hne : K.length = L.length
  · obtain ⟨B0, hB0⟩ : ∃ B, B = eqV K L := ⟨_, rfl⟩
    rw [← hB0]
    have HB0 := hid hB0
    clear hB0
    have HN := hid hne
    rw [← hne] at HW ⊢
    clear hne
    go_enter Try.func86, Try.ntmps86
    go_wp2
    go_loopw [13] (fun i wr => ∃ k : Nat, k ≤ K.length ∧ i = .int .i64 k ∧ Hid (∀ j (h : j < K.length) (h' : j < L.length), j < k → eqF K[j] L[j] = true) ∧ Below w.heap.size w wr) (fun i _ => K.length - (intOf i).toNat)
    case atStart => exact ⟨0, Nat.zero_le _, rfl, hid (fun j h h' hj => absurd hj (by omega)), Below.refl _ _⟩
    case round =>
      obtain ⟨k, hk, rfl, hA, hbel⟩ := hrel
      by_cases hlt : k < K.length
      · have hlt2 : k < L.length := by rw [← HN.out]; exact hlt
        have X := hid (HV.out.old hbel)
        have Y := hid (HW.out.old hbel)
        obtain ⟨g1, a31, n31, c31, b31, m31, d31, rfl, hg1, q01, q11, q21, R1⟩ := X.out.at hK hlt
        obtain ⟨⟨s1, A1, D1⟩, hf1⟩ : ∃ f, K[k]'(hlt) = f := ⟨_, rfl⟩
        simp only [hf1] at q01 R1
        have HF1 := hid hf1
        clear hf1
        obtain ⟨g2, a32, n32, c32, b32, m32, d32, rfl, hg2, q02, q12, q22, R2⟩ := Y.out.at hL hlt2
        obtain ⟨⟨s2, A2, D2⟩, hf2⟩ : ∃ f, L[k]'(hlt2) = f := ⟨_, rfl⟩
        simp only [hf2] at q02 R2
        have HF2 := hid hf2
        clear hf2
        have HB := hid hbel
        have a1' : (0 : Int) ≤ k := by omega
        have a2 : (k : Int) < K.length := by omega
        obtain ⟨ef, hef0⟩ : ∃ ef, eqF ⟨s1, A1, D1⟩ ⟨s2, A2, D2⟩ = ef := ⟨_, rfl⟩
        have HEF := hid (show eqF ⟨s1, A1, D1⟩ ⟨s2, A2, D2⟩ = ((s1 == s2) && decide (A1 = A2) && decide (D1 = D2)) from rfl)
        clear hbel
        cases ef with
        | false =>
          have hef := hef0
          clear hef0
          have KO := hid (fun (W : World) (hb : Below wr.heap.size wr W) => spec_RatEqual s1 s2 _ _ _ _ A1 D1 A2 D2 W (R1.old hb) (R2.old hb))
          simp only [← HEF.out, hef] at KO
          clear R1 R2
          go_wp2_with fail
          go_region_held3 (fun w' => w'.cell? ⟨g1, k * 3, none⟩ = some (.bool s1) ∧ w'.cell? ⟨g1, k * 3 + 1, none⟩ = some (.slice a31 n31 c31) ∧ w'.cell? ⟨g1, k * 3 + 2, none⟩ = some (.slice b31 m31 d31) ∧ w'.cell? ⟨g2, k * 3, none⟩ = some (.bool s2) ∧ w'.cell? ⟨g2, k * 3 + 1, none⟩ = some (.slice a32 n32 c32) ∧ w'.cell? ⟨g2, k * 3 + 2, none⟩ = some (.slice b32 m32 d32)) (first | with_reducible exact ⟨q01, q11, q21, q02, q12, q22⟩ | go_keep)
            (first
              | (go_at_call 41; (with_reducible refine (KO.out _ (Below_drew1 (Below.refl _ _))).mono ?_); rintro e w2 ⟨rfl, hb⟩
                 have q01 := (hb.cell (p := ⟨g1, k * 3, none⟩) hg1).trans q01; have q11 := (hb.cell (p := ⟨g1, k * 3 + 1, none⟩) hg1).trans q11; have q21 := (hb.cell (p := ⟨g1, k * 3 + 2, none⟩) hg1).trans q21; have q02 := (hb.cell (p := ⟨g2, k * 3, none⟩) hg2).trans q02; have q12 := (hb.cell (p := ⟨g2, k * 3 + 1, none⟩) hg2).trans q12; have q22 := (hb.cell (p := ⟨g2, k * 3 + 2, none⟩) hg2).trans q22
                 have HB2 := hid ((Below_drew1 HB.out).trans (hb.mono HB.out.size))
                 clear hb))
          have HB := HB2
          clear q01 q11 q21 q02 q12 q22
          go_wp2
          go_ret
          exact ⟨bool_ret (by rw [HB0.out, eqV_no hlt hlt2 (by rw [HF1.out, HF2.out]; exact hef)]), HB.out⟩
        | true =>
          have hef := hef0
          clear hef0
          have KO := hid (fun (W : World) (hb : Below wr.heap.size wr W) => spec_RatEqual s1 s2 _ _ _ _ A1 D1 A2 D2 W (R1.old hb) (R2.old hb))
          simp only [← HEF.out, hef] at KO
          clear R1 R2
          go_wp2_with fail
          go_region_held3 (fun w' => w'.cell? ⟨g1, k * 3, none⟩ = some (.bool s1) ∧ w'.cell? ⟨g1, k * 3 + 1, none⟩ = some (.slice a31 n31 c31) ∧ w'.cell? ⟨g1, k * 3 + 2, none⟩ = some (.slice b31 m31 d31) ∧ w'.cell? ⟨g2, k * 3, none⟩ = some (.bool s2) ∧ w'.cell? ⟨g2, k * 3 + 1, none⟩ = some (.slice a32 n32 c32) ∧ w'.cell? ⟨g2, k * 3 + 2, none⟩ = some (.slice b32 m32 d32)) (first | with_reducible exact ⟨q01, q11, q21, q02, q12, q22⟩ | go_keep)
            (first
              | (go_at_call 41; (with_reducible refine (KO.out _ (Below_drew1 (Below.refl _ _))).mono ?_); rintro e w2 ⟨rfl, hb⟩
                 have q01 := (hb.cell (p := ⟨g1, k * 3, none⟩) hg1).trans q01; have q11 := (hb.cell (p := ⟨g1, k * 3 + 1, none⟩) hg1).trans q11; have q21 := (hb.cell (p := ⟨g1, k * 3 + 2, none⟩) hg1).trans q21; have q02 := (hb.cell (p := ⟨g2, k * 3, none⟩) hg2).trans q02; have q12 := (hb.cell (p := ⟨g2, k * 3 + 1, none⟩) hg2).trans q12; have q22 := (hb.cell (p := ⟨g2, k * 3 + 2, none⟩) hg2).trans q22
                 have HB2 := hid ((Below_drew1 HB.out).trans (hb.mono HB.out.size))
                 clear hb))
          have HB := HB2
          clear q01 q11 q21 q02 q12 q22
          go_wp2
          go_roundw
          case rel => exact ⟨k + 1, by omega, by go_num, hid (fun j h h' hj => by
            rcases Nat.lt_or_eq_of_le (Nat.le_of_lt_succ hj) with hj' | rfl
            · exact hA.out j h h' hj'
            · rw [HF1.out, HF2.out]; exact hef), HB.out⟩
          case measure => simp [intOf]; omega
      · have HB := hid hbel
        clear hbel
        go_wp2
        go_ret
        exact ⟨bool_ret (by rw [HB0.out, eqV_yes HN.out (fun j h h' => hA.out j h h' (by omega))]), HB.out⟩
  · rw [eqV_len hne]
    obtain ⟨e1, e2⟩ := ne_facts hne
    go_enter Try.func86, Try.ntmps86
    go_wp2
    go_ret
    exact ⟨rfl, Below.refl _ _⟩
set_option maxRecDepth 100000 in
set_option maxHeartbeats 6400000 in
theorem impl_VecEqual_w  {a : Option Addr} {n c : Nat} {b : Option Addr} {m d : Nat} {K L : List Fq} {lo hi lo' hi' : Nat} (hK : Sm K) (hL : Sm L) (w : World) (h : VW w a n K lo hi) (h' : VW w b m L lo' hi') :
    Calls Try.prog 120 #[.slice a n c, .slice b m d] w (RetB (.bool (eqV K L)) w) := by
  have KE := hid (EqualFunc_eq_w (c := c) (d := d) hK hL w h h')
  clear h h'
  generalize eqV K L = B0 at KE ⊢
  go_enter Try.func120, Try.ntmps120
  go_wp2_with fail
  (with_reducible refine (KE.out).mono ?_)
  rintro e w2 ⟨rfl, hb⟩
  have HB := hid hb
  clear hb
  go_wp2
  go_ret
  exact ⟨rfl, HB.out⟩
theorem impl_VecEqual {p q : Bool} {a : Option Addr} {n c : Nat} {b : Option Addr} {m d : Nat} {K L : List Fq} {lo hi lo' hi' : Nat} (hK : Sm K) (hL : Sm L) (w : World) (h : VK p w (.slice a n c) K lo hi) (h' : VK q w (.slice b m d) L lo' hi') :
    Calls Try.prog 120 #[.slice a n c, .slice b m d] w (RetB (.bool (eqV K L)) w) :=
  impl_VecEqual_w hK hL w h.vw h'.vw
end Go.Proofs.Yteanocjkdehhgaa

/- The index of the least element (the program and the reference). -/
namespace Go.Proofs.Yteanocjkdehhgaa
open Go.RowKit
open Go.Lib (hid)
set_option linter.unusedVariables false

def oat (K : List Fq) (k : Nat) : Option Rat := (vals K).getD k none
theorem oat_at {K : List Fq} {k : Nat} (h : k < K.length) : oat K k = K[k].o := by
  simp [oat, vals, h]
/-- The index of the least among the first k. -/
def am (K : List Fq) : Nat → Nat
  | 0 => 0
  | k + 1 => if cmpO (oat K k) (oat K (am K k)) < 0 then k else am K k
theorem am_lt {K : List Fq} (h0 : 0 < K.length) : ∀ k, k ≤ K.length → am K k < K.length
  | 0, _ => h0
  | k + 1, hk => by
    have := am_lt h0 k (by omega)
    simp only [am]
    split <;> omega
/-- The index of the least element. -/
def argV (K : List Fq) : Int := if K.length = 0 ∨ oks (vals K) = false then -1 else (am K K.length : Nat)
theorem oks_some {K : List Fq} (h : oks (vals K) = true) {k : Nat} (hk : k < K.length) : ∃ x, K[k].o = some x := by
  simp only [oks, vals, Bool.and_eq_true, List.all_eq_true] at h
  exact Option.isSome_iff_exists.1 (h.2 _ (List.mem_map_of_mem (List.getElem_mem hk)))
end Go.Proofs.Yteanocjkdehhgaa
