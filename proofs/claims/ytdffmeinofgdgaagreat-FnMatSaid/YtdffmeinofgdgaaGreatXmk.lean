/- Draws of matrices. -/
import Derived.Test.YtdffmeinofgdgaaGreatXm
import Derived.Test.YtdffmeinofgdgaaGreatVfv
import Derived.Deep.RegionHeld3
import Derived.Deep.DeepCutAuto
namespace Go.Proofs.YtdffmeinofgdgaaGreat
open Go.RowKit
open Go.Lib (hid)
set_option linter.unusedVariables false

/-- Rows of k fractions whose parts have at most one limb. -/
def FewR (k : Nat) (M : List (List Fq)) : Prop := ∀ K ∈ M, K.length = k ∧ Few1 K
theorem FewR_snoc {k : Nat} {R : List Rw} {v : Value} {K : List Fq} {lo hi : Nat} (h : FewR k (R.map Rw.K)) (hl : K.length = k) (hK : Few1 K) : FewR k ((R ++ [Rw.mk v K lo hi]).map Rw.K) := fun L hL => by
  rw [List.map_append] at hL
  rcases List.mem_append.1 hL with hL | hL
  · exact h L hL
  · simp only [List.map_cons, List.map_nil, List.mem_singleton] at hL
    rw [hL]
    exact ⟨hl, hK⟩
/-- A drawn matrix: r rows of k small fractions; besides the draw's place it writes nothing old. -/
def DrawM (r k N : Nat) (w : World) (e : Ending) (w' : World) : Prop := ∃ (M : List (List Fq)) (a : Option Addr) (c : Nat), M.length = r ∧ FewR k M ∧ e = .returned (.slice a r c) ∧ MK false w' (.slice a r c) M w.heap.size w'.heap.size ∧ Only (fun k => k = N ∨ w.heap.size ≤ k) w w'
set_option maxRecDepth 100000 in
set_option maxHeartbeats 6400000 in
theorem l08Draw_any (m k N : Nat) (hm : m ≤ 100) (hk : k ≤ 100) (a : Option Addr) (n c : Nat) (Z : List Int) (hZ : Z.length ≤ 1048576) (w : World) (hc : CurE w N a n c Z) (hu : Under N a Z) :
    Calls Tryz.prog 32 #[.pointer (some ⟨N, 0, none⟩), .int .i64 m, .int .i64 k] w (DrawM m k N w) := by
  have hNw := CurE_lt hc
  have V0 := hid (MR_lit0 false (w := w) (lo := w.heap.size) (Nat.le_refl _))
  have B0 := hid (show Only (fun k => k = N ∨ w.heap.size ≤ k) w (w.alloc (.cells #[] 25)) from (Only.refl _ _).alloc (.inr (Nat.le_refl _)) _)
  have C0 := hid (CurE_alloc hc (.cells #[] 25))
  have S0 := hid (show (w.alloc (.cells #[] 25)).heap.size = w.heap.size + 1 by simp)
  have KF := hid (fun (W : World) (h : CurE W N a n c Z) => l06Draw_any k N hk a n c Z hZ W h hu)
  have HU := hid hu
  clear hc hu
  go_enter Tryz.func32, Tryz.ntmps32
  go_wp2
  generalize w.alloc (.cells #[] 25) = W0 at V0 B0 C0 S0 ⊢
  go_loopw [7] (fun v wr => ∃ (R : List Rw) (a' : Option Addr) (c' : Nat), v = .slice a' R.length c' ∧ R.length ≤ m ∧ Hid (MR false wr (.slice a' R.length c') R w.heap.size wr.heap.size) ∧ Hid (CurE wr N a n c Z) ∧ Hid (Only (fun k => k = N ∨ w.heap.size ≤ k) w wr) ∧ Hid (FewR k (R.map Rw.K))) (fun v _ => m - lenV v)
  case atStart => exact ⟨[], _, 0, rfl, Nat.zero_le _, hid (V0.out.wide (Nat.le_refl _) (by rw [S0.out]; exact Nat.le_refl _)), C0, B0, hid (fun K hK => by cases hK)⟩
  case round =>
    obtain ⟨R, a', c', rfl, hk', hV, hC, hB, hF⟩ := hrel
    by_cases hlt : R.length < m
    · have a1 : (R.length : Int) < m := by omega
      have zz := hB.out.size
      go_wp2_with fail
      (with_reducible refine (KF.out _ hC.out).mono ?_)
      rintro e w2 ⟨K, a2, c2, hl, hf, rfl, hv, o1, oc⟩
      have z2 : wr.heap.size ≤ w2.heap.size := o1.size
      have HX := hid hf
      have HL := hid hl
      have M2 := hid (hV.out.onlyG (a := N) (b := N + 1) (o1.mono fun k hk => hk.elim (fun e => .inl ⟨by omega, by omega⟩) .inr) (.inr (by omega)))
      have V2 := hid hv
      have C2 := hid oc
      have B2 := hid (hB.out.trans (o1.mono fun k hk => hk.elim .inl fun h => .inr (by omega)))
      clear hv o1 oc hl hf
      have PM := hid (M2.out.old (below_new' (o := .cells #[.slice a2 k c2] 25)))
      have PV := hid (V2.out.old (below_new' (o := .cells #[.slice a2 k c2] 25)))
      have PB := hid (heap_alloc_new w2 (.cells #[.slice a2 k c2] 25))
      have PC := hid (CurE_alloc C2.out (.cells #[.slice a2 k c2] 25))
      have B3 := hid (B2.out.alloc (.inr (by omega)) (.cells #[.slice a2 k c2] 25))
      go_wp2_with (at_builtin; refine wpList_pushM rfl _ _ rfl rfl PM.out PV.out (Nat.le_refl _) z2 (by simp) zz rfl PB.out (by omega) (by simp; omega) (n := R.length + 1) rfl ?_)
      intro gp cp wp hvp hbp
      have HV5 := hid hvp
      have HC5 := hid (CurE_below PC.out hbp hNw (by simp; omega) HU.out)
      have HB5 := hid (B3.out.trans (Only.of_below hbp fun k hk => .inr hk))
      have HF5 := hid (FewR_snoc (v := .slice a2 k c2) (lo := wr.heap.size) (hi := w2.heap.size) hF.out HL.out HX.out)
      have hl5 := hid (show (R ++ [Rw.mk (.slice a2 k c2) K wr.heap.size w2.heap.size]).length = R.length + 1 by rw [List.length_append]; rfl)
      clear hvp hbp
      go_wp2
      go_roundw
      case rel => exact ⟨R ++ [Rw.mk (.slice a2 k c2) K wr.heap.size w2.heap.size], some ⟨gp, 0, none⟩, cp, by rw [hl5.out], by rw [hl5.out]; omega, hid (by
        have h1 := HV5.out
        rw [hl5.out]
        exact h1), HC5, HB5, HF5⟩
      case measure => simp [lenV]; omega
    · have hkm : R.length = m := by omega
      subst hkm
      clear hlt
      go_wp2
      go_ret
      exact ⟨R.map Rw.K, a', c', by rw [List.length_map], hF.out, rfl, ⟨R, hV.out, rfl⟩, hB.out⟩
/-- MakeMat's answer: m rows of k small fractions. -/
def MakeM (m k : Nat) (w : World) (e : Ending) (w' : World) : Prop := ∃ (M : List (List Fq)) (a : Option Addr) (c : Nat), M.length = m ∧ FewR k M ∧ e = .returned (.slice a m c) ∧ MK false w' (.slice a m c) M w.heap.size w'.heap.size ∧ Below w.heap.size w w'
set_option maxRecDepth 100000 in
set_option maxHeartbeats 3200000 in
theorem MakeMat_any (m k : Nat) (hm : m ≤ 100) (hk : k ≤ 100) (a : Option Addr) (n c : Nat) (Z : List Int) (t : Int) (hZ : Z.length ≤ 1048576) (w : World) (hr : ByteRow w a n Z) (t0 : 0 ≤ t) (t1 : t ≤ 1000) :
    Calls Tryz.prog 7 #[.slice a n c, .int .i64 m, .int .i64 k, .int .i64 t] w (MakeM m k w) := by
  have HR := hid hr
  have K := hid (l01New_any a n c Z hZ w hr)
  have hh := hashTo_le hZ (min Z.length 4000)
  obtain ⟨h, hhe⟩ : ∃ h, h = hashed Z := ⟨_, rfl⟩
  have HH := hid hhe
  change 0 ≤ hashed Z ∧ hashed Z ≤ 1073741824 at hh
  rw [← hhe] at hh
  clear hhe hr
  go_enter Tryz.func7, Tryz.ntmps7
  go_wp2_with fail
  (with_reducible refine (K.out).mono ?_)
  rintro e w1 ⟨rfl, rfl⟩
  rw [← HH.out]
  go_wp2_with fail
  have hb0 : Below w.heap.size w (w.alloc (.cells #[.slice a n c, .int .i64 0, .int .i64 (h + t)] 52)) := (Below.refl _ _).alloc (Nat.le_refl _) _
  have HC := hid (show CurE (w.alloc (.cells #[.slice a n c, .int .i64 0, .int .i64 (h + t)] 52)) w.heap.size a n c Z from ⟨ByteRow_below HR.out hb0, 0, h + t, Nat.zero_le _, by unfold IsCur; exact heap_alloc_new w _⟩)
  have HU := hid (show Under w.heap.size a Z from fun g o e h0 => by
    obtain ⟨g', o', e', hg, _⟩ := HR.out.2.2 h0
    rw [e] at e'
    simp at e'
    omega)
  have HB := hid hb0
  have hs2 : (w.alloc (.cells #[.slice a n c, .int .i64 0, .int .i64 (h + t)] 52)).heap.size = w.heap.size + 1 := by simp
  clear hb0
  (with_reducible refine (l08Draw_any m k w.heap.size hm hk a n c Z hZ _ HC.out HU.out).mono ?_)
  rintro e w2 ⟨M2, a2, c2, hl, hf, rfl, hv, o1⟩
  have R := hid (show MakeM m k w (.returned (.slice a2 m c2)) w2 from ⟨M2, a2, c2, hl, hf, rfl, hv.wide (by omega) (Nat.le_refl _), HB.out.trans (o1.below (B := w.heap.size) fun k hk hs => by rcases hs with hs | hs <;> omega)⟩)
  clear hl hf hv o1 hs2
  go_wp2
  go_ret
  exact R.out
end Go.Proofs.YtdffmeinofgdgaaGreat
