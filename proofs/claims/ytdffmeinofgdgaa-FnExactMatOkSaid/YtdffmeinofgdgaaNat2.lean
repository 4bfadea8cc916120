/- The program's number that its methods change in place: trimming. -/
import Derived.Test.YtdffmeinofgdgaaNat1
import Derived.Test.YtdffmeinofgdgaaNum
import Derived.StillTailTactics
namespace Go.Proofs.Ytdffmeinofgdgaa
open Go.RowKit
open Go.Lib (hid)
set_option linter.unusedVariables false
variable {Q : Rest}

theorem extend_int (S : Nat → Prop) (N : Nat) (v : Value) (L : List Int) (z : Int) (h0 : 0 ≤ z) (hn : z ≤ 1073741824) (hl : L.length ≤ 1073741824) (w : World) (h : IsNat Q w S N v L) (hS : ∀ k, w.heap.size ≤ k → S k) :
    Calls Try.prog 105 #[.pointer (some ⟨N, 0, none⟩), .int .i64 z] w (MethP Q S N (L ++ List.replicate (z.toNat - L.length) 0) w) := by
  obtain ⟨n, rfl⟩ : ∃ n : Nat, z = n := ⟨z.toNat, by omega⟩
  have := extend_any S N v L n (by omega) hl w h hS
  rw [Int.toNat_natCast]
  exact this

set_option maxRecDepth 100000 in
set_option maxHeartbeats 1600000 in
theorem trim_any (S : Nat → Prop) (N : Nat) (v : Value) (L : List Int) (hl : L.length ≤ 1073741824) (hL : Lim L) (w : World) (h : IsNat Q w S N v L) :
    Calls Try.prog 115 #[.pointer (some ⟨N, 0, none⟩)] w (MethP Q S N (rep (val L).toNat) w) := by
  have H := hid h
  have HL := hid hL
  clear h hL
  go_enter Try.func115, Try.ntmps115
  go_wp2
  go_loopw [] (fun wr => ∃ (k : Nat) (u : Value), k ≤ L.length ∧ IsNat Q wr S N u (L.take k) ∧ Only S w wr ∧ Hid (val (L.take k) = val L)) (fun wr => lenAt wr N)
  case atStart => exact ⟨L.length, v, Nat.le_refl _, by rw [List.take_length]; exact H.out, Only.refl _ _, hid (by rw [List.take_length])⟩
  case round =>
    obtain ⟨k, u, hk, hI, hO, hv⟩ := hrel
    have hLA := hid (lenAt_is hI)
    have hc := hI.cell
    have hf := hI.free
    have hm := hI.mine
    have HI := hid hI
    have HO := hid hO
    have HM := hid hm
    have hlen : (L.take k).length = k := by simp; omega
    obtain ⟨a, c, rfl, hcc, hrow, -⟩ := Ints_form hI.ints
    rw [hlen] at hcc hrow hc HI hLA
    have HR := hid hrow
    clear hI hO hrow hlen hm
    cases k with
    | zero =>
      have hT := hid (can_rep_val HL.out (val L) rfl hk hv.out (fun k hk e => by cases e))
      go_wp2
      go_quiet (fail)
      go_wp2
      go_end0
      exact MethP_mk (HI.out.drewN _) hT.out (HO.out.drewN _)
    | succ k =>
      obtain ⟨g1, o1, rfl, -, hc1⟩ := HR.out.2 (by simp; omega)
      have hlt : k < L.length := by omega
      have q1 := hc1 k (by simp; omega)
      rw [List.getElem_take] at q1
      clear hc1
      have a2 : (0 : Int) ≤ k := by omega
      have a5 : ((k : Int)).toNat = k := by omega
      have a3 : (k : Int) < (k : Int) + 1 := by omega
      have a4 : (k : Int) ≤ c := by omega
      have a6 : (0 : Int) < (k : Int) + 1 := by omega
      have ws : IntKind.i64.wrap (k : Int) = k := IntWalk.i64_in _ (by omega)
      have ws2 : IntKind.i64.wrap ((k : Int) + 1 - 1) = k := by rw [show (k : Int) + 1 - 1 = k by omega]; exact ws
      by_cases hz : L[k] = 0
      · have hn := hid ((trim_step hlt hz).trans hv.out)
        rw [hz] at q1
        clear hz
        go_wp2
        go_quiet (fail)
        go_wp2
        clear hc hf q1 HR
        have HI := hid (HI.out.drewN nq)
        have HO := hid (HO.out.drewN nq)
        generalize wr.drewN nq = wd at HI HO ⊢
        have hc := HI.out.cell
        have hf := HI.out.free
        go_still_tail 14, (by kernel_rfl)
        change wpList _ _ _ _ _ wd.drew
        have HI := hid (HI.out.drewN 1)
        have HO := hid (HO.out.drewN 1)
        change Hid (IsNat Q wd.drew _ _ _ _) at HI
        change Hid (Only _ _ wd.drew) at HO
        clear hc hf
        generalize wd.drew = w2 at HI HO ⊢
        have hc := HI.out.cell
        have hf := HI.out.free
        go_wp2
        go_roundw
        case rel =>
          have ht := Ints_take HI.out.ints (k := k) (by simp; omega)
          rw [List.take_take, Nat.min_eq_left (by omega)] at ht
          exact ⟨k, _, by omega, HI.out.setv ht (fun j hj => HI.out.own j (by rw [← hj]; exact ownBlock_any _ _ _ _ _)), HO.out.setCell HM.out _, hn⟩
        case measure =>
          have ht := Ints_take HI.out.ints (k := k) (by simp; omega)
          rw [List.take_take, Nat.min_eq_left (by omega)] at ht
          have h2 := HI.out.setv ht (fun j hj => HI.out.own j (by rw [← hj]; exact ownBlock_any _ _ _ _ _))
          rw [hLA.out, lenAt_is h2]
          simp; omega
      · have hz' : ∀ j (hj : j < L.length), k + 1 = j + 1 → L[j] ≠ 0 := by
          intro j hj e
          obtain rfl : k = j := by omega
          exact hz
        have hT := hid (can_rep_val HL.out (val L) rfl hk hv.out hz')
        clear hz'
        obtain ⟨x, hx⟩ : ∃ x, x = L[k] := ⟨_, rfl⟩
        rw [← hx] at q1 hz
        clear hx
        go_wp2
        go_quiet (fail)
        go_wp2
        go_end0
        exact MethP_mk (HI.out.drewN _) hT.out (HO.out.drewN _)
end Go.Proofs.Ytdffmeinofgdgaa
