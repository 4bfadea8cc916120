/- Draws of vectors. -/
import Derived.Test.YtmghoedjcokhpaaVbe
import Derived.Test.YtmghoedjcokhpaaVmf
import Derived.Deep.RegionHeld3
import Derived.Deep.DeepCutAuto
namespace Go.Proofs.Ytmghoedjcokhpaa
open Go.RowKit
open Go.Lib (hid)
set_option linter.unusedVariables false

def lenV : Value → Nat
  | .slice _ n _ => n
  | _ => 0
/-- Fractions whose parts have at most one limb. -/
def Few1 (K : List Fq) : Prop := ∀ f ∈ K, ∃ x : Rat, f = fqo (some x) ∧ szq x 1
theorem Few1_nil : Few1 [] := fun f hf => by cases hf
theorem Few1_snoc {K : List Fq} {x : Rat} (h : Few1 K) (hx : szq x 1) : Few1 (K ++ [fqo (some x)]) := fun f hf => by
  rcases List.mem_append.1 hf with hf | hf
  · exact h f hf
  · exact ⟨x, List.mem_singleton.1 hf, hx⟩
/-- A drawn vector: m small fractions; besides the draw's place it writes nothing old. -/
def DrawV (m N : Nat) (w : World) (e : Ending) (w' : World) : Prop := ∃ (K : List Fq) (a : Option Addr) (c : Nat), K.length = m ∧ Few1 K ∧ e = .returned (.slice a m c) ∧ VK false w' (.slice a m c) K w.heap.size w'.heap.size ∧ Only (fun k => k = N ∨ w.heap.size ≤ k) w w'
theorem RO_few {w : World} {lo : Nat} {x : Rat} {v u : Value} (hx : szq x 1) (h1 : Ints w lo v (gzl x.num)) (h2 : Ints w lo u (gzl (x.den : Int))) : RO false w lo (gzs x.num) v u (some x) :=
  ⟨rfl, h1, h2, fun h => by (cases h), fitO_some (szq_fit hx (by decide))⟩
set_option maxRecDepth 100000 in
set_option maxHeartbeats 6400000 in
theorem l06Draw_any (m N : Nat) (hm : m ≤ 100) (a : Option Addr) (n c : Nat) (Z : List Int) (hZ : Z.length ≤ 1048576) (w : World) (hc : CurE w N a n c Z) (hu : Under N a Z) :
    Calls Try.prog 76 #[.pointer (some ⟨N, 0, none⟩), .int .i64 m] w (DrawV m N w) := by
  have hNw := CurE_lt hc
  have V0 := hid (VK_lit0 false (w := w) (lo := w.heap.size) (Nat.le_refl _))
  have B0 := hid (show Only (fun k => k = N ∨ w.heap.size ≤ k) w (w.alloc (.cells #[] 45)) from (Only.refl _ _).alloc (.inr (Nat.le_refl _)) _)
  have C0 := hid (CurE_alloc hc (.cells #[] 45))
  have S0 := hid (show (w.alloc (.cells #[] 45)).heap.size = w.heap.size + 1 by simp)
  have KF := hid (fun (W : World) (h : CurE W N a n c Z) => l04Few_cur N a n c Z hZ W h hu)
  have HU := hid hu
  clear hc hu
  go_enter Try.func76, Try.ntmps76
  go_wp2
  generalize w.alloc (.cells #[] 45) = W0 at V0 B0 C0 S0 ⊢
  go_loopw [5] (fun v wr => ∃ (K : List Fq) (a' : Option Addr) (c' : Nat), v = .slice a' K.length c' ∧ K.length ≤ m ∧ Hid (VK false wr (.slice a' K.length c') K w.heap.size wr.heap.size) ∧ Hid (CurE wr N a n c Z) ∧ Hid (Only (fun k => k = N ∨ w.heap.size ≤ k) w wr) ∧ Hid (Few1 K)) (fun v _ => m - lenV v)
  case atStart => exact ⟨[], _, 0, rfl, Nat.zero_le _, hid (V0.out.wide (Nat.le_refl _) (by rw [S0.out]; exact Nat.le_refl _)), C0, B0, hid Few1_nil⟩
  case round =>
    obtain ⟨K, a', c', rfl, hk, hV, hC, hB, hF⟩ := hrel
    by_cases hlt : K.length < m
    · have a1 : (K.length : Int) < m := by omega
      have zz := hB.out.size
      go_wp2_with fail
      (with_reducible refine (KF.out _ hC.out).mono ?_)
      rintro e w2 ⟨x, v1, u1, hx, rfl, i1, i2, o1, oc⟩
      have z2 : wr.heap.size ≤ w2.heap.size := o1.size
      have HX := hid hx
      have R2 := hid (RO_few hx i1 i2)
      have V2 := hid (hV.out.onlyG (a := N) (b := N + 1) (o1.mono fun k hk => hk.elim (fun e => .inl ⟨by omega, by omega⟩) .inr) (.inr (by omega)))
      have C2 := hid oc
      have B2 := hid (hB.out.trans (o1.mono fun k hk => hk.elim .inl fun h => .inr (by omega)))
      obtain ⟨e1, d1, rfl, -⟩ := Ints_form i1
      obtain ⟨e2, d2, rfl, -⟩ := Ints_form i2
      obtain ⟨gs, hgs⟩ : ∃ g, g = gzs x.num := ⟨_, rfl⟩
      rw [← hgs] at R2 ⊢
      obtain ⟨L1, hL1⟩ : ∃ g, g = (gzl x.num).length := ⟨_, rfl⟩
      rw [← hL1] at R2 ⊢
      obtain ⟨L2, hL2⟩ : ∃ g, g = (gzl (x.den : Int)).length := ⟨_, rfl⟩
      rw [← hL2] at R2 ⊢
      clear hgs hL1 hL2 i1 i2 o1 hx oc
      have PV := hid (V2.out.old (below_new' (o := .cells #[.bool gs, .slice e1 L1 d1, .slice e2 L2 d2] 45)))
      have PR := hid (R2.out.old (below_new' (o := .cells #[.bool gs, .slice e1 L1 d1, .slice e2 L2 d2] 45)))
      have PB := hid (heap_alloc_new w2 (.cells #[.bool gs, .slice e1 L1 d1, .slice e2 L2 d2] 45))
      have PC := hid (CurE_alloc C2.out (.cells #[.bool gs, .slice e1 L1 d1, .slice e2 L2 d2] 45))
      have B3 := hid (B2.out.alloc (.inr (by omega)) (.cells #[.bool gs, .slice e1 L1 d1, .slice e2 L2 d2] 45))
      go_wp2_with (at_builtin; refine wpList_push rfl _ _ rfl rfl PV.out (by omega) (by omega) PR.out rfl PB.out (by omega) (by simp; omega) ?_)
      intro gp cp wp hvp hbp
      have HV5 := hid hvp
      have HC5 := hid (CurE_below PC.out hbp hNw (by simp; omega) HU.out)
      have HB5 := hid (B3.out.trans (Only.of_below hbp fun k hk => .inr hk))
      have HF5 := hid (Few1_snoc hF.out HX.out)
      have hl5 := hid (show (K ++ [fqo (some x)]).length = K.length + 1 by rw [List.length_append]; rfl)
      clear hvp hbp
      go_wp2
      go_roundw
      case rel => exact ⟨K ++ [fqo (some x)], some ⟨gp, 0, none⟩, cp, by rw [hl5.out], by rw [hl5.out]; omega, hid (by
        have h1 := HV5.out
        rw [hl5.out]
        exact h1), HC5, HB5, HF5⟩
      case measure => simp [lenV]; omega
    · have hkm : K.length = m := by omega
      subst hkm
      clear hlt
      go_wp2
      go_ret
      exact ⟨K, a', c', rfl, hF.out, rfl, hV.out, hB.out⟩
/-- MakeVec's answer: m small fractions. -/
def MakeV (m : Nat) (w : World) (e : Ending) (w' : World) : Prop := ∃ (K : List Fq) (a : Option Addr) (c : Nat), K.length = m ∧ Few1 K ∧ e = .returned (.slice a m c) ∧ VK false w' (.slice a m c) K w.heap.size w'.heap.size ∧ Below w.heap.size w w'
set_option maxRecDepth 100000 in
set_option maxHeartbeats 3200000 in
theorem MakeVec_any (m : Nat) (hm : m ≤ 100) (a : Option Addr) (n c : Nat) (Z : List Int) (t : Int) (hZ : Z.length ≤ 1048576) (w : World) (hr : ByteRow w a n Z) (t0 : 0 ≤ t) (t1 : t ≤ 1000) :
    Calls Try.prog 39 #[.slice a n c, .int .i64 m, .int .i64 t] w (MakeV m w) := by
  have HR := hid hr
  have K := hid (l01New_any a n c Z hZ w hr)
  have hh := hashTo_le hZ (min Z.length 4000)
  obtain ⟨h, hhe⟩ : ∃ h, h = hashed Z := ⟨_, rfl⟩
  have HH := hid hhe
  change 0 ≤ hashed Z ∧ hashed Z ≤ 1073741824 at hh
  rw [← hhe] at hh
  clear hhe hr
  go_enter Try.func39, Try.ntmps39
  go_wp2_with fail
  (with_reducible refine (K.out).mono ?_)
  rintro e w1 ⟨rfl, rfl⟩
  rw [← HH.out]
  go_wp2_with fail
  have hb0 : Below w.heap.size w (w.alloc (.cells #[.slice a n c, .int .i64 0, .int .i64 (h + t)] 77)) := (Below.refl _ _).alloc (Nat.le_refl _) _
  have HC := hid (show CurE (w.alloc (.cells #[.slice a n c, .int .i64 0, .int .i64 (h + t)] 77)) w.heap.size a n c Z from ⟨ByteRow_below HR.out hb0, 0, h + t, Nat.zero_le _, by unfold IsCur; exact heap_alloc_new w _⟩)
  have HU := hid (show Under w.heap.size a Z from fun g o e h0 => by
    obtain ⟨g', o', e', hg, _⟩ := HR.out.2.2 h0
    rw [e] at e'
    simp at e'
    omega)
  have HB := hid hb0
  have hs2 : (w.alloc (.cells #[.slice a n c, .int .i64 0, .int .i64 (h + t)] 77)).heap.size = w.heap.size + 1 := by simp
  clear hb0
  (with_reducible refine (l06Draw_any m w.heap.size hm a n c Z hZ _ HC.out HU.out).mono ?_)
  rintro e w2 ⟨K2, a2, c2, hl, hf, rfl, hv, o1⟩
  have R := hid (show MakeV m w (.returned (.slice a2 m c2)) w2 from ⟨K2, a2, c2, hl, hf, rfl, hv.wide (by omega) (Nat.le_refl _), HB.out.trans (o1.below (B := w.heap.size) fun k hk hs => by rcases hs with hs | hs <;> omega)⟩)
  clear hl hf hv o1 hs2
  go_wp2
  go_ret
  exact R.out
end Go.Proofs.Ytmghoedjcokhpaa
