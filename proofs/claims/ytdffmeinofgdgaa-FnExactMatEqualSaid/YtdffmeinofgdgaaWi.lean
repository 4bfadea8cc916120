/- The program's integer is given out; the signed sum. -/
import Derived.Test.YtdffmeinofgdgaaWh
namespace Go.Proofs.Ytdffmeinofgdgaa
open Go.RowKit
open Go.Lib (hid)
set_option linter.unusedVariables false
variable {Q : Rest}

/-- The value of a sign and a magnitude. -/
def sval (s : Bool) (V : Int) : Int := if s then -V else V
/-- The sign and the limbs of an integer; an integer that is too large becomes 0. -/
def gzs (Z : Int) : Bool := decide (Z < 0 ∧ -Z < pw 60)
def gzl (Z : Int) : List Int := capped (Z.natAbs : Int)
theorem sval_abs {s : Bool} {V : Int} (h : 0 ≤ V) : ((sval s V).natAbs : Int) = V := by unfold sval; split <;> omega
theorem gzl_sval {s : Bool} {V : Int} (h : 0 ≤ V) : gzl (sval s V) = capped V := by unfold gzl; rw [sval_abs h]
theorem gzs_sval {s : Bool} {V : Int} (h0 : 0 < V) (h : V < pw 60) : gzs (sval s V) = s := by
  unfold gzs sval
  cases s
  · simp; omega
  · simp; omega
theorem gzs_zero : gzs 0 = false := by simp [gzs]
theorem gzl_zero : gzl 0 = [] := by
  unfold gzl capped
  simp [rep_zero]
theorem gzs_big {Z : Int} (h : pw 60 ≤ (Z.natAbs : Int)) : gzs Z = false := by unfold gzs; simp; omega
theorem gzl_big {Z : Int} (h : pw 60 ≤ (Z.natAbs : Int)) : gzl Z = [] := by unfold gzl capped; rw [if_neg (by omega)]
/-- A struct is given out whose slice lies from lo on. -/
def GivB (lo : Nat) (s : Bool) (L : List Int) (w : World) (e : Ending) (w' : World) : Prop := ∃ u, e = .returned (.agg #[.bool s, u]) ∧ Ints w' lo u L ∧ Below w.heap.size w w'
theorem GivB_mk {lo : Nat} {s t : Bool} {L M : List Int} {w w' : World} {u : Value} (hs : t = s) (hL : M = L) (h : Ints w' lo u M) (hb : Below w.heap.size w w') : GivB lo s L w (.returned (.agg #[.bool t, u])) w' := by
  subst hs; subst hL; exact ⟨u, rfl, h, hb⟩
set_option maxRecDepth 100000 in
set_option maxHeartbeats 1600000 in
theorem bigInt_own (lo : Nat) (s : Bool) (N : Nat) (v : Value) (V : Int) (h0 : 0 ≤ V) (w : World) (h : IsNat (wholeQ s) w (fun k => lo ≤ k) N v (rep V.toNat)) :
    Calls Try.prog 91 #[.pointer (some ⟨N, 0, none⟩)] w (GivB lo (gzs (sval s V)) (gzl (sval s V)) w) := by
  have H := hid (h.old (below_new' (o := .cells #[.bool false, .slice none 0 0] 53)))
  have hl := Ints_len h.ints
  have K := hid (result_any (Q := wholeQ s) (fun k => lo ≤ k) N v (rep V.toNat) _ H.out)
  have BB := hid (below_new' (w := w) (o := .cells #[.bool false, .slice none 0 0] 53))
  have L0 := hid (Loc.new (w := w) (T := 53) (s := false) (v := .slice none 0 0))
  obtain ⟨ss, hs⟩ : ∃ t, t = gzs (sval s V) := ⟨_, rfl⟩
  obtain ⟨ll, hll⟩ : ∃ t, t = gzl (sval s V) := ⟨_, rfl⟩
  rw [← hs, ← hll]
  have HS := hid hs
  have HL := hid hll
  have hne : V ≠ 0 → 0 < (rep V.toNat).length := fun h => List.length_pos_iff.2 (rep_ne (by omega))
  have hno : V = 0 → rep V.toNat = [] := fun h => by subst h; exact rep_zero
  have hbig : 60 < (rep V.toNat).length ↔ pw 60 ≤ V := by
    have := Can_len (Can_rep V.toNat) (k := 60)
    rw [val_rep' h0] at this
    omega
  have hsl : ∃ a c, v = .slice a (rep V.toNat).length c := by
    obtain ⟨a, c, e, -⟩ := Ints_form h.ints
    exact ⟨a, c, e⟩
  obtain ⟨M, hM⟩ : ∃ M, M = rep V.toNat := ⟨_, rfl⟩
  rw [← hM] at K H hl hne hno hbig hsl
  have HM := hid hM
  have HNO := hid hno
  have HBIG := hid hbig
  have HNE := hid hne
  clear hM hs hll h hno hbig hne
  unfold maxLen at hl
  obtain ⟨a, c, rfl⟩ := hsl
  go_enter Try.func91, Try.ntmps91
  go_wp2_with fail
  generalize w.alloc (.cells #[.bool false, .slice none 0 0] 53) = W at H K BB L0 ⊢
  refine K.out.mono ?_
  rintro e w1 ⟨⟨u, T, rfl, hu⟩, rfl⟩
  have q0 := L0.out.c0
  have q1 := L0.out.c1
  have f0 := L0.out.f0 0
  have f1 := L0.out.f0 1
  have B2 := hid (show Below w.heap.size w ((W.setCell ⟨w.heap.size, 0, none⟩ (.bool false)).setCell ⟨w.heap.size, 1, none⟩ (.slice none 0 0)) from (BB.out.setCell (by simp) _).setCell (by simp) _)
  rcases hu with ⟨rfl, hT, h6⟩ | ⟨rfl, hT, h6⟩
  · obtain rfl : M = T := hT.symm
    by_cases hz : M.length = 0
    · have hz' : ((M.length : Int) == 0) = true := by rw [hz]; rfl
      have R := hid (show GivB lo ss ll w (.returned (.agg #[.bool false, .slice none 0 0])) ((W.setCell ⟨w.heap.size, 0, none⟩ (.bool false)).setCell ⟨w.heap.size, 1, none⟩ (.slice none 0 0)) from by
        have hV : V = 0 := Classical.byContradiction fun h => by have := HNE.out h; omega
        refine GivB_mk ?_ ?_ (Ints_nil _ _) B2.out
        · rw [HS.out, hV]; cases s <;> simp [sval, gzs]
        · rw [HL.out, hV]; cases s <;> simp [sval, gzl_zero])
      clear hz
      go_wp2
      exact bodyPost_ret (v := .agg #[.bool false, .slice none 0 0]) (by simp [results, Try.results91, go_sem, q0, q1]) rfl R.out
    · have hz' : ((M.length : Int) == 0) = false := beq_eq_false_iff_ne.2 (by omega)
      have hn := H.out.neg
      have HZ := hid hz
      have B3 := hid (show Below w.heap.size w ((W.setCell ⟨w.heap.size, 0, none⟩ (.bool s)).setCell ⟨w.heap.size, 1, none⟩ (.slice a M.length c)) from (BB.out.setCell (by simp) _).setCell (by simp) _)
      have n1 := L0.out.ne (by decide) H.out.ints
      have R := hid (show GivB lo ss ll w (.returned (.agg #[.bool s, .slice a M.length c])) ((W.setCell ⟨w.heap.size, 0, none⟩ (.bool s)).setCell ⟨w.heap.size, 1, none⟩ (.slice a M.length c)) from by
        have hV : V ≠ 0 := fun h => HZ.out (by rw [HNO.out h]; rfl)
        have hlt : V < pw 60 := by have := HBIG.out; omega
        refine GivB_mk ?_ ?_ (Ints_set (Ints_set (Ints_rebase H.out.ints H.out.own) n1) n1) B3.out
        · rw [HS.out, gzs_sval (by omega) hlt]
        · rw [HL.out, gzl_sval h0, capped_of hlt, HM.out])
      clear hz n1
      go_wp2
      exact bodyPost_ret (v := .agg #[.bool s, .slice a M.length c]) (by simp [results, Try.results91, go_sem, q0, q1]) rfl R.out
  · obtain rfl : [] = T := hT.symm
    have R := hid (show GivB lo ss ll w (.returned (.agg #[.bool false, .slice none 0 0])) ((W.setCell ⟨w.heap.size, 0, none⟩ (.bool false)).setCell ⟨w.heap.size, 1, none⟩ (.slice none 0 0)) from by
      have hV : pw 60 ≤ ((sval s V).natAbs : Int) := by rw [sval_abs h0]; exact HBIG.out.1 h6
      exact GivB_mk (by rw [HS.out, gzs_big hV]) (by rw [HL.out, gzl_big hV]) (Ints_nil _ _) B2.out)
    go_wp2
    exact bodyPost_ret (v := .agg #[.bool false, .slice none 0 0]) (by simp [results, Try.results91, go_sem, q0, q1]) rfl R.out
end Go.Proofs.Ytdffmeinofgdgaa
