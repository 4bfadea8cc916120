/- The program's number that its methods change in place: a multiple is added. -/
import Derived.Test.YtdffmeinofgdgaaNat3
namespace Go.Proofs.Ytdffmeinofgdgaa
open Go.RowKit
open Go.Lib (hid)
set_option linter.unusedVariables false
variable {Q : Rest}

set_option maxRecDepth 100000 in
set_option maxHeartbeats 6400000 in
theorem addMultiple_any (S : Nat → Prop) (N : Nat) (v : Value) (L M : List Int) (am : Option Addr) (nm cm : Nat) (f z : Int) (h0 : 0 ≤ z) (hz : z ≤ 1000000) (hl : L.length ≤ 1000000) (hm : M.length ≤ 1000000) (hL : Lim L) (hM : Lim M)
    (hf0 : -1000000000 < f) (hf1 : f < 1000000000) (hV : 0 ≤ val L + f * val M * pw z.toNat) (w : World) (h : IsNat Q w S N v L) (hS : ∀ k, w.heap.size ≤ k → S k) (hr : RowI w am nm M) (ha : Apart S am) :
    Calls Try.prog 109 #[.pointer (some ⟨N, 0, none⟩), .slice am nm cm, .int .i64 f, .int .i64 z] w (MethP Q S N (rep (val L + f * val M * pw z.toNat).toNat) w) := by
  obtain ⟨s, rfl⟩ : ∃ s : Nat, z = s := ⟨z.toNat, by omega⟩
  rw [Int.toNat_natCast] at hV ⊢
  obtain ⟨V, hVe⟩ : ∃ V, V = val L + f * val M * pw s := ⟨_, rfl⟩
  have HV := hid hVe
  rw [← hVe] at hV ⊢
  clear hVe
  have HS := hid hS
  have HL := hid hL
  have HM := hid hM
  have HV0 := hid hV
  have HR := hid hr
  have HA := hid ha
  obtain rfl : nm = M.length := hr.1
  have KE := hid (extend_int S N v L ((s : Int) + M.length) (by omega) (by omega) (by omega) w h hS)
  clear hS hL hM hV hr ha h
  go_enter Try.func109, Try.ntmps109
  go_wp2_with fail
  refine KE.out.mono ?_
  rintro e w1 ⟨rfl, ⟨u1, h1⟩, o1⟩
  have hi1 : ((s : Int) + M.length).toNat - L.length = (s + M.length) - L.length := by omega
  rw [hi1] at h1
  clear hi1
  obtain ⟨P0, hP⟩ : ∃ P0, P0 = L ++ List.replicate (s + M.length - L.length) 0 := ⟨_, rfl⟩
  have hPl : P0.length = max L.length (s + M.length) := by rw [hP, pad_len]
  have hPL : Lim P0 := by rw [hP]; exact Lim_pad HL.out _
  have hPv : val P0 = val L := by rw [hP]; exact val_pad _ _
  rw [← hP] at h1
  clear hP
  have HI := hid h1
  have HO := hid o1
  have HPL := hid hPL
  have HPv := hid hPv
  obtain ⟨n, hn⟩ : ∃ n, n = P0.length := ⟨_, rfl⟩
  have hn1 : s + M.length ≤ n := by omega
  have hn2 : n ≤ 2000000 := by omega
  have HN := hid hn
  clear h1 o1 hPL hPv hPl hn
  go_wp2
  go_loopw [8, 19] (fun y x wr => ∃ (k : Nat) (d : Int) (P : List Int) (u : Value), x = .int .i64 k ∧ y = .int .i64 d ∧ -1000000000 < d ∧ d < 1000000000 ∧ k ≤ M.length ∧ IsNat Q wr S N u P ∧ Only S w wr ∧ Hid (Lim P) ∧ Hid (P.length = n) ∧ Hid (val P + d * pw (s + k) = val L + f * val (M.take k) * pw s)) (fun _ x _ => M.length - (intOf x).toNat)
  case atStart => exact ⟨0, 0, P0, u1, rfl, rfl, by decide, by decide, Nat.zero_le _, HI.out, HO.out, HPL, hid HN.out.symm, hid (by rw [HPv.out]; simp [val])⟩
  case round =>
    obtain ⟨k, d, P, u, rfl, rfl, hd0, hd1, hk, hI, hO, hPL, hPn, hPv⟩ := hrel
    clear HI HO HPL HPv HN
    have HI := hid hI
    have HO := hid hO
    clear hI hO
    by_cases hlt : k < M.length
    · have hskP : s + k < P.length := by have := hPn.out; omega
      obtain ⟨g2, o2, rfl, -, hc2⟩ := (RowI_only HR.out HO.out HA.out).2 (by omega)
      have q2 := hc2 k hlt
      clear hc2
      have hy := Lim_at HM.out hlt
      have hx := Lim_at hPL.out hskP
      obtain ⟨x, hxe⟩ : ∃ x, x = P[s + k] := ⟨_, rfl⟩
      obtain ⟨y, hye⟩ : ∃ y, y = M[k] := ⟨_, rfl⟩
      have HT := hid (set_step hskP (x := x + y * f + d) (y := y * f + d) (by rw [hxe]; omega))
      have HACC := hid (mul_acc hlt hPv.out)
      rw [← hxe] at hx
      rw [← hye] at hy q2 HACC
      clear hPv
      obtain ⟨b1, b2, b3, b4⟩ := mul_step hx hy ⟨hf0, hf1⟩ ⟨hd0, hd1⟩
      rcases Ints_cases HI.out.ints with ⟨-, h0⟩ | ⟨g, c', rfl, -, hg, hcc⟩
      · subst h0; simp at hskP
      have hc := HI.out.cell
      have hf := HI.out.free
      have q1 := Ints_cell HI.out.ints hskP
      rw [← hxe] at q1
      have f1 := Ints_free HI.out.ints (s + k)
      clear hxe hye
      have a0 : (0 : Int) ≤ k := by omega
      have a1 : (k : Int) < M.length := by omega
      have a2 : (0 : Int) ≤ (s : Int) + k := by omega
      have a3 : (s : Int) + k < P.length := by omega
      obtain ⟨p, hp⟩ : ∃ p, p = y * f := ⟨_, rfl⟩
      have hpm : y * f = p := hp.symm
      have wp : IntKind.i64.wrap (y * f) = p := by rw [hpm]; exact IntWalk.i64_in _ (by omega)
      rw [hpm] at b1 b2 b3 b4 HT HACC
      have ws : IntKind.i64.wrap ((s : Int) + k) = (s : Int) + k := IntWalk.i64_in _ (by omega)
      have wx : IntKind.i64.wrap (x + p) = x + p := IntWalk.i64_in _ (by omega)
      have wd : IntKind.i64.wrap (x + p + d) = x + p + d := IntWalk.i64_in _ (by omega)
      have KS := hid (splitLimb_any (x + p + d) (by omega) (by omega))
      have tn : ((s : Int) + k).toNat = s + k := by omega
      clear hp hpm
      go_wp2_with fail
      go_region_with (first | (go_at_call 106; refine (KS.out _).mono ?_; rintro e w3 ⟨rfl, rfl⟩))
      all_goals
        clear wp ws wx wd
        go_wp2
        go_roundw
        case rel =>
          have hs := HI.out.store (s + k) ((x + p + d) % 1000000000)
          refine ⟨k + 1, (x + p + d) / 1000000000, P.set (s + k) ((x + p + d) % 1000000000), _, by go_num, rfl, by omega, by omega, by omega, hs.drewN 1, (HO.out.setCell (p := ⟨g, s + k, none⟩) (HI.out.own g rfl) _).drewN 1, hid (Lim_set hPL.out _ (by omega) (by omega)), hid (by rw [List.length_set]; exact hPn.out), hid ?_⟩
          exact HT.out.trans HACC.out
        case measure => simp [intOf]; omega
    · obtain rfl : k = M.length := by omega
      have hE := hid (show val P + d * pw (s + M.length) = V by rw [HV.out, hPv.out, List.take_length])
      have h5 := hPn.out
      have tz : ((s : Int) + M.length).toNat = s + M.length := by omega
      have KC := hid (carry_any S N u P ((s : Int) + M.length) d (by omega) (by omega) (by omega) hPL.out hd0 hd1 (by rw [tz, hE.out]; exact HV0.out) wr HI.out (fun j hj => HS.out j (Nat.le_trans HO.out.size hj)))
      rw [tz, hE.out] at KC
      clear h5 tz
      go_wp2_with fail
      refine KC.out.mono ?_
      rintro e w2 ⟨rfl, ⟨u2, Q, h2, l2, v2, n2⟩, o2⟩
      have hl2 : Q.length ≤ 1073741824 := by have := hPn.out; omega
      have KT := hid (trim_any S N u2 Q hl2 l2 w2 h2)
      have HO := hid (HO.out.trans o2)
      rw [v2] at KT
      clear h2 l2 v2 n2 o2
      go_wp2_with fail
      refine KT.out.mono ?_
      rintro e w3 ⟨rfl, ⟨u3, h3⟩, o3⟩
      have HI := hid h3
      have HO := hid (HO.out.trans o3)
      clear h3 o3
      go_wp2
      go_end0
      exact MethP_mk HI.out rfl HO.out
end Go.Proofs.Ytdffmeinofgdgaa
