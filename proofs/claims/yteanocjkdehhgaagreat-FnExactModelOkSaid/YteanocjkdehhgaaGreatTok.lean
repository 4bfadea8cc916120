import Derived.Test.YteanocjkdehhgaaGreatTcl
import Derived.Deep.RegionHeld3
import Derived.Deep.DeepCutAuto
set_option maxRecDepth 100000
set_option maxHeartbeats 6400000
set_option linter.unusedVariables false
set_option linter.unusedSimpArgs false
namespace Go.Proofs.YteanocjkdehhgaaGreat
open Go.RowKit
open Go.Lib (hid)
def nz (o : Option Rat) : Bool := decide (sgnO o ≠ 0)
theorem nz_none : nz none = false := by simp [nz, sgnO]
theorem RL.nums {w : World} {a b : Option Addr} {n c m d : Nat} {A D : List Int} (h : RL w (.slice a n c) (.slice b m d) A D) : n = A.length ∧ m = D.length := by
 obtain ⟨a1, c1, b1, d1, e1, e2⟩ := h.form
 simp only [Value.slice.injEq] at e1 e2
 exact ⟨e1.2.1, e2.2.1⟩
theorem tq_mag {x : Int} {s : Bool} {A D : List Int} {o : Option Rat} (h : Tq.o ⟨x, s, A, D⟩ = o) (ho : o.isSome = true) : (A.length = 0 ↔ nz o = false) := by
 cases o with
 | none => cases ho
 |some y =>
  obtain ⟨-, hA, -⟩ := rval_lists (s := s) (A := A) (D := D) h
  have hr : rok s A D = true := by rw [rok_isSome]; exact Option.isSome_of_mem h
  obtain ⟨k1, -, -⟩ := rok_iff.1 hr
  have hg := gz_of k1
  obtain ⟨z, e, hn, -, -⟩ := rval_yes hr
  have : z = y := by have := e.symm.trans h; exact Option.some.inj this
  subst this
  constructor
  ·intro h0
   have : A = [] := List.eq_nil_of_length_eq_zero h0
   subst this
   have : z.num = 0 := by rw [hn]; cases s <;> rfl
   simp [nz, sgnO, this, sgn]
  ·intro hz
   have : z.num = 0 := by
    have h1 : sgn z.num = 0 := Decidable.byContradiction fun hh => absurd (show nz (some z) = true from decide_eq_true hh) (by rw [hz]; decide)
    rcases sgn_cases z.num with ⟨-, e⟩ | ⟨e, -⟩ | ⟨-, e⟩
    ·omega
    ·exact e
    ·omega
   rw [← hA, this, gzl_nil]; rfl
def tokF (n : Int) : Int → List Tq → Bool
 | _, [] => true
 | b, t :: L => (decide (b < t.c) && decide (t.c < n) && nz t.o) && tokF n t.c L
def lastC : Int → List Tq → Int
 | b, [] => b
 | _, t :: L => lastC t.c L
def tok (L : List Tq) (n : Int) : Bool := (decide (0 ≤ n) && decide (n ≤ 40)) && tokF n (-1) L
theorem tokF_append (n : Int) : ∀ (b : Int) (L M : List Tq), tokF n b (L ++ M) = (tokF n b L && tokF n (lastC b L) M)
 | b, [], M => by simp [tokF, lastC]
 | b, t :: L, M => by simp only [List.cons_append, tokF, lastC, tokF_append n t.c L M, Bool.and_assoc]
theorem lastC_append : ∀ (b : Int) (L M : List Tq), lastC b (L ++ M) = lastC (lastC b L) M
 | b, [], M => rfl
 | b, t :: L, M => by simp only [List.cons_append, lastC]; exact lastC_append t.c L M
theorem lastC_take {L : List Tq} {k : Nat} (h : k < L.length) (b : Int) : lastC b (L.take (k + 1)) = L[k].c := by
 rw [List.take_succ_eq_append_getElem h, lastC_append]; rfl
theorem tokF_take {n b : Int} {L : List Tq} {k : Nat} (h : k < L.length) : tokF n b (L.take (k + 1)) = (tokF n b (L.take k) && (decide (lastC b (L.take k) < L[k].c) && decide (L[k].c < n) && nz L[k].o)) := by
 rw [List.take_succ_eq_append_getElem h, tokF_append]; simp [tokF]
theorem tokF_no {n b : Int} {L : List Tq} {k : Nat} (h : k < L.length) (hn : (decide (lastC b (L.take k) < L[k].c) && decide (L[k].c < n) && nz L[k].o) = false) : tokF n b L = false := by
 have h1 := tokF_append n b (L.take (k + 1)) (L.drop (k + 1))
 rw [List.take_append_drop, tokF_take h, hn] at h1
 simpa using h1
theorem tok_no {L : List Tq} {n : Int} {k : Nat} (h : k < L.length) (hn : (decide (lastC (-1) (L.take k) < L[k].c) && decide (L[k].c < n) && nz L[k].o) = false) : tok L n = false := by
 simp [tok, tokF_no h hn]
theorem tok_out {L : List Tq} {n : Int} (h : n < 0 ∨ 40 < n) : tok L n = false := by
 rcases h with h | h
 ·simp [tok, show ¬ 0 ≤ n by omega]
 ·simp [tok, show ¬ n ≤ 40 by omega]
theorem tok_yes {L : List Tq} {n : Int} (h0 : 0 ≤ n) (h1 : n ≤ 40) (h : tokF n (-1) L = true) : tok L n = true := by simp [tok, h0, h1, h]
theorem tokF_at {n : Int} : ∀ {L : List Tq} {b : Int}, tokF n b L = true → ∀ k (h : k < L.length), b + (k : Int) < L[k].c ∧ L[k].c < n ∧ nz L[k].o = true
 |t :: L, b, h, 0, _ => by
  simp only [tokF, Bool.and_eq_true, decide_eq_true_eq] at h
  exact ⟨by simp; omega, h.1.1.2, h.1.2⟩
 |t :: L, b, h, k + 1, hk => by
  simp only [tokF, Bool.and_eq_true, decide_eq_true_eq] at h
  have := tokF_at h.2 k (by simpa using hk)
  simp only [ka6]
  refine ⟨by omega, this.2⟩
theorem bool_retT {a b : Bool} (h : a = b) : Ending.returned (.bool a) = .returned (.bool b) := by rw [h]
theorem impl_TermsOk {p : Bool} {a : Option Addr} {n c : Nat} {K : List Tq} {lo hi : Nat} (hK : SmT K) (z : Int) (z0 : -9223372036854775808 ≤ z) (z1 : z ≤ 9223372036854775807) (w : World) (h : TK p w (.slice a n c) K lo hi) :
  Calls Tryz.prog 87 #[.slice a n c, .int .i64 z] w (RetB (.bool (tok K z)) w) := by
 have HV := hid h
 obtain rfl := h.num
 clear h
 have hkl := hK.2
 by_cases hz : z < 0 ∨ 40 < z
 ·rw [tok_out hz]
  rcases hz with h | h
  ·go_enter Tryz.func87, Tryz.ntmps87
   go_wp2
   go_ret
   exact ⟨rfl, Below.refl _ _⟩
  ·have h0 : ¬ z < 0 := by omega
   go_enter Tryz.func87, Tryz.ntmps87
   go_wp2
   go_ret
   exact ⟨rfl, Below.refl _ _⟩
 obtain ⟨B0, hB0⟩ : ∃ B, B = tok K z := ⟨_, rfl⟩
 rw [← hB0]
 have HB0 := hid hB0
 clear hB0
 have h0 : ¬ z < 0 := by omega
 have h4 : ¬ (40 : Int) < z := by omega
 go_enter Tryz.func87, Tryz.ntmps87
 go_wp2
 go_loopw [5, 16] (fun b i wr => ∃ (k : Nat) (y : Int), k ≤ K.length ∧ b = .int .i64 y ∧ i = .int .i64 k ∧ Hid (y = lastC (-1) (K.take k)) ∧ Hid (tokF z (-1) (K.take k) = true) ∧ Below w.heap.size w wr) (fun _ i _ => K.length - (intOf i).toNat)
 case atStart => exact ⟨0, -1, Nat.zero_le _, rfl, rfl, hid rfl, hid rfl, Below.refl _ _⟩
 case round =>
  obtain ⟨k, y, hk, rfl, rfl, hy, hA, hbel⟩ := hrel
  by_cases hlt : k < K.length
  ·have V := hid (HV.out.old hbel)
   obtain ⟨g, a3, n3, c3, b3, m3, d3, rfl, hg, qc, q0, q1, q2, R⟩ := V.out.at hK hlt
   obtain ⟨⟨x, s, A, D⟩, hf⟩ : ∃ f, K[k]'(hlt) = f := ⟨_, rfl⟩
   simp only [hf] at qc q0 R
   have HF := hid hf
   clear hf
   obtain ⟨o, ho⟩ : ∃ o, Tq.o ⟨x, s, A, D⟩ = o := ⟨_, rfl⟩
   have HO := hid (show (K[k]'(hlt)).o = o by rw [HF.out, ho])
   have HX := hid (show (K[k]'(hlt)).c = x by rw [HF.out])
   have RX := hid (show RA wr s (.slice a3 n3 c3) (.slice b3 m3 d3) o from ⟨A, D, R, ho⟩)
   have RLX := hid R
   have RN := hid R.nums
   clear ho R
   have hno := hid (fun hn : (decide (y < x) && decide (x < z) && nz o) = false => tok_no (n := z) hlt (by rw [← hy.out, HX.out, HO.out]; exact hn))
   have HB := hid (hbel.alloc hbel.size (.cells #[.int .i64 x, .bool s, .slice a3 n3 c3, .slice b3 m3 d3] 146))
   have KS := hid (fun (W : World) (hb : Below wr.heap.size wr W) => sign_o (w := W) (RX.out.old hb))
   have a1' : (0 : Int) ≤ k := by omega
   have a2 : (k : Int) < K.length := by omega
   clear hbel
   by_cases hxy : x ≤ y
   ·have hret := hno.out (by simp [show ¬ y < x by omega])
    go_wp2
    go_ret
    exact ⟨bool_retT (by rw [HB0.out, hret]), HB.out⟩
   by_cases hxz : z ≤ x
   ·have hret := hno.out (by simp [show ¬ x < z by omega])
    go_wp2
    go_ret
    exact ⟨bool_retT (by rw [HB0.out, hret]), HB.out⟩
   obtain ⟨q, hq⟩ : ∃ q, sgnO o = q := ⟨_, rfl⟩
   rw [hq] at KS
   have HQ := hid hq
   clear hq
   by_cases hq0 : q = 0
   ·subst hq0
    have hret := hno.out (by simp [nz, HQ.out])
    go_wp2_with fail
    (with_reducible refine (KS.out _ below_new').mono ?_)
    rintro e w2 ⟨rfl, hb⟩
    have HB := hid (HB.out.trans (hb.mono HB.out.size))
    clear hb qc q0 q1 q2
    go_wp2
    go_ret
    exact ⟨bool_retT (by rw [HB0.out, hret]), HB.out⟩
   ·have hqn : (q == 0) = false := by simp [hq0]
    have LT := hid (LocA.new (w := wr) (T := 146) (cs := #[.int .i64 x, .bool s, .slice a3 n3 c3, .slice b3 m3 d3]))
    go_wp2_with fail
    (with_reducible refine (KS.out _ below_new').mono ?_)
    rintro e w2 ⟨rfl, hb⟩
    have HB := hid (HB.out.trans (hb.mono HB.out.size))
    have LT := hid (LT.out.old hb)
    have q3 := LT.out.c 0 rfl
    clear hb qc q0 q1 q2
    go_wp2
    go_roundw
    case rel => exact ⟨k + 1, x, by omega, rfl, by go_num, hid (by rw [lastC_take hlt, HX.out]), hid (by rw [tokF_take hlt, hA.out, ← hy.out, HX.out, HO.out]; simp [nz, HQ.out, hq0]; omega), HB.out⟩
    case measure => simp [intOf]; omega
  ·have HB := hid hbel
   clear hbel
   go_wp2
   go_ret
   exact ⟨bool_retT (by rw [HB0.out]; obtain rfl : k = K.length := (by omega); have := hA.out; rw [List.take_length] at this; exact (tok_yes (by omega) (by omega) this).symm), HB.out⟩
end Go.Proofs.YteanocjkdehhgaaGreat
