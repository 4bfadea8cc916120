/- The program's number that its methods change in place: the carry. -/
import Derived.Test.YtdffmeinofgdgaaNat2
import Derived.BigRegion
namespace Go.Proofs.Ytdffmeinofgdgaa
open Go.RowKit
open Go.Lib (hid)
set_option linter.unusedVariables false
variable {Q : Rest}

/-- The number's value is V now, in at most n limbs. -/
def CarP (Q : Rest) (S : Nat → Prop) (N : Nat) (V : Int) (n : Nat) (w : World) (e : Ending) (w' : World) : Prop := e = .returned (.tuple #[]) ∧ (∃ v M, IsNat Q w' S N v M ∧ Lim M ∧ val M = V ∧ M.length ≤ n ∧ (M.length = n → pw (n - 1) ≤ V)) ∧ Only S w w'
theorem CarP_mk {S : Nat → Prop} {N n : Nat} {V : Int} {M : List Int} {w w' : World} {v : Value} (h : IsNat Q w' S N v M) (hL : Lim M) (hM : val M = V) (hn : M.length ≤ n) (hp : M.length = n → pw (n - 1) ≤ V) (ho : Only S w w') : CarP Q S N V n w (.returned (.tuple #[])) w' :=
  ⟨rfl, ⟨v, M, h, hL, hM, hn, hp⟩, ho⟩

set_option maxRecDepth 100000 in
set_option maxHeartbeats 3200000 in
theorem carry_any (S : Nat → Prop) (N : Nat) (v : Value) (L : List Int) (z c : Int) (h0 : 0 ≤ z) (hz : z.toNat ≤ L.length) (hl : L.length ≤ 1073741000) (hL : Lim L) (hc0 : -1000000000 < c) (hc1 : c < 1000000000)
    (hV : 0 ≤ val L + c * pw z.toNat) (w : World) (h : IsNat Q w S N v L) (hS : ∀ k, w.heap.size ≤ k → S k) :
    Calls Try.prog 90 #[.pointer (some ⟨N, 0, none⟩), .int .i64 z, .int .i64 c] w (CarP Q S N (val L + c * pw z.toNat) (L.length + 1) w) := by
  obtain ⟨V, hVe⟩ : ∃ V, V = val L + c * pw z.toNat := ⟨_, rfl⟩
  have HV := hid hVe
  rw [← hVe] at hV ⊢
  clear hVe
  have H := hid h
  have HS := hid hS
  have HL := hid hL
  have HV0 := hid hV
  clear h hS hL hV
  obtain ⟨n, hn⟩ : ∃ n, n = L.length := ⟨_, rfl⟩
  have HN := hid hn
  rw [← hn] at hz hl ⊢
  clear hn
  go_enter Try.func90, Try.ntmps90
  go_wp2
  go_loopw [1, 2] (fun x y wr => ∃ (i : Nat) (d : Int) (M : List Int) (u : Value), x = .int .i64 i ∧ y = .int .i64 d ∧ -1000000000 < d ∧ d < 1000000000 ∧ IsNat Q wr S N u M ∧ Only S w wr ∧ Hid (Lim M) ∧ Hid (val M + d * pw i = V) ∧ i ≤ M.length ∧ Hid (d ≠ 0 → M.length = n) ∧ M.length ≤ n + 1 ∧ Hid (M.length = n + 1 → pw n ≤ V)) (fun x y _ => if intOf y = 0 then 0 else n + 2 - (intOf x).toNat)
  case atStart => exact ⟨z.toNat, c, L, v, by rw [Int.toNat_of_nonneg h0], rfl, hc0, hc1, H.out, Only.refl _ _, HL, hid HV.out.symm, by have := HN.out; omega, hid fun _ => HN.out.symm, by have := HN.out; omega, hid (by have := HN.out; omega)⟩
  case round =>
    obtain ⟨i, d, M, u, rfl, rfl, hd0, hd1, hI, hO, hLM, hVM, hi, hdn, hMn, hMp⟩ := hrel
    have HI := hid hI
    have HO := hid hO
    clear hI hO
    by_cases hd : d = 0
    · subst hd
      have hE := hid (show val M = V by have := hVM.out; simpa using this)
      go_wp2
      go_end0
      exact CarP_mk HI.out hLM.out hE.out hMn hMp.out HO.out
    · have hlen : M.length = n := hdn.out hd
      have HLN := hid hlen
      clear hdn
      have a1 : (0 : Int) ≤ i := by omega
      have hS2 : ∀ j, w.heap.size ≤ j → S j := HS.out
      have KE := hid (fun (w1 : World) (hw : Only S w w1) (hh : IsNat Q w1 S N u M) => extend_int S N u M ((i : Int) + 1) (by omega) (by omega) (by omega) w1 hh (fun k hk => HS.out k (Nat.le_trans hw.size hk)))
      have hpos := hid (fun (h : M.length ≤ i) => carry_pos hLM.out h (by rw [hVM.out]; exact HV0.out) hd)
      have hdb : (d == 0) = false := by simpa using hd
      have hdb2 : (d != 0) = true := by simpa using hd
      clear hlen hS2
      go_wp2_with fail
      refine (KE.out _ HO.out HI.out).mono ?_
      rintro e w1 ⟨rfl, ⟨u1, h1⟩, o1⟩
      have hi1 : (((i : Int) + 1).toNat - M.length) = (i + 1) - M.length := by omega
      rw [hi1] at h1
      clear hi1
      obtain ⟨P, hP⟩ : ∃ P, P = M ++ List.replicate (i + 1 - M.length) 0 := ⟨_, rfl⟩
      have hPl : P.length = max M.length (i + 1) := by rw [hP, pad_len]
      have hPL : Lim P := by rw [hP]; exact Lim_pad hLM.out _
      have hPv : val P = val M := by rw [hP]; exact val_pad _ _
      have hP0 : ∀ (hi : i < P.length), M.length ≤ i → P[i] = 0 := by
        subst hP; intro hi hm; exact pad_at hm hi
      rw [← hP] at h1
      clear hP
      have hiP : i < P.length := by omega
      have HP0 := hid (hP0 hiP)
      have HPL := hid hPL
      have HPv := hid hPv
      have hPn : P.length ≤ n + 1 := by have := HLN.out; omega
      have HPl := hid hPl
      have hx := Lim_at hPL hiP
      obtain ⟨x, hxe⟩ : ∃ x, x = P[i] := ⟨_, rfl⟩
      rw [← hxe] at hx
      have HST := hid (set_step hiP (x := x + d) (y := d) (by rw [hxe]))
      have HX := hid hxe
      clear hP0 hPL hPv hPl
      have HI := hid h1
      have HO := hid (HO.out.trans o1)
      clear o1
      rcases Ints_cases h1.ints with ⟨-, h0⟩ | ⟨g, c', rfl, -, hg, hcc⟩
      · subst h0; simp at hiP
      have hc := h1.cell
      have hf := h1.free
      have q1 := Ints_cell h1.ints hiP
      rw [← hxe] at q1
      have f1 := Ints_free h1.ints i
      have a3 : (i : Int) < P.length := by omega
      have ws : IntKind.i64.wrap (x + d) = x + d := IntWalk.i64_in _ (by omega)
      clear h1 hxe
      have KS := hid (splitLimb_any (x + d) (by omega) (by omega))
      go_wp2
      go_region_with (first | (go_at_call 106; refine (KS.out _).mono ?_; rintro e w3 ⟨rfl, rfl⟩))
      all_goals
        go_wp2
        go_roundw
        case rel =>
          have hs := HI.out.store i ((x + d) % 1000000000)
          have h2 := HPl.out
          have h3 := HLN.out
          refine ⟨i + 1, (x + d) / 1000000000, P.set i ((x + d) % 1000000000), _, by go_num, rfl, by omega, by omega, hs.drewN 1, (HO.out.setCell (p := ⟨g, i, none⟩) (HI.out.own g rfl) _).drewN 1, hid (Lim_set HPL.out i (by omega) (by omega)), hid ?_, by simp; omega, hid ?_, by simp; omega, hid ?_⟩
          · rw [HST.out, HPv.out]; exact hVM.out
          · intro hne
            rw [List.length_set]
            rcases Nat.lt_or_ge i M.length with hlt | hge
            · omega
            · have := hpos.out hge
              have := HP0.out hge
              have := HX.out
              omega
          · intro hne
            rw [List.length_set] at hne
            have hge : M.length ≤ i := by omega
            have h7 := hpos.out hge
            have h8 := val_nonneg hLM.out
            have h9 := hVM.out
            have h10 := pw_le (m := n) (n := i) (by omega)
            have h11 := pw_pos i
            have h12 : 1 * pw i ≤ d * pw i := Int.mul_le_mul_of_nonneg_right (by omega) (by omega)
            omega
        case measure =>
          have h2 := HPl.out
          have h3 := HLN.out
          have h5 := HX.out
          have h4 : M.length ≤ i → (x + d) / 1000000000 = 0 := by
            intro hge
            have := hpos.out hge
            have := HP0.out hge
            omega
          simp [intOf, hd]
          split <;> omega
end Go.Proofs.Ytdffmeinofgdgaa
