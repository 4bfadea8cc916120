/- Matrices of zeros, of ones in the diagonal, transposed (the program). -/
import Derived.Test.YtdffmeinofgdgaaGreatXc
import Derived.Test.YtdffmeinofgdgaaGreatXf
import Derived.Test.YtdffmeinofgdgaaGreatXo
import Derived.Test.YtdffmeinofgdgaaGreatVy
import Derived.Deep.RegionHeld3
import Derived.Deep.DeepCutAuto
namespace Go.Proofs.YtdffmeinofgdgaaGreat
open Go.RowKit
open Go.Lib (hid)
set_option linter.unusedVariables false

theorem enter_of {P : Program} {f : FuncId} {fn : Func} {c : Code} (hf : P.funcs[f]? = some fn) (hname : (fn.name == "runtime.NumGoroutine") = false) (hb : fn.body = some c) (args : Array Value) (w : World) :
    (callFunc f args).run P w = .ok (.enter f args) w := by
  have h1 : fn.name ≠ "runtime.NumGoroutine" := by simpa using hname
  simp [callFunc, hf, h1, hb]
theorem dim_yes (n : Int) (h0 : 0 ≤ n) (h1 : n ≤ 40) (w : World) : Calls Tryz.prog 45 #[.int .i64 n] w fun e w' => e = .returned (.bool true) ∧ w = w' := by
  go_enter Tryz.func45, Tryz.ntmps45
  go_wp2
  go_ret
  exact ⟨rfl, rfl⟩
theorem dim_no (n : Int) (h : n < 0 ∨ 40 < n) (w : World) : Calls Tryz.prog 45 #[.int .i64 n] w fun e w' => e = .returned (.bool false) ∧ w = w' := by
  rcases h with h | h
  · have h2 : ¬ 0 ≤ n := by omega
    go_enter Tryz.func45, Tryz.ntmps45
    go_wp2
    go_ret
    exact ⟨rfl, rfl⟩
  · have h2 : 0 ≤ n := by omega
    have h3 : ¬ n ≤ 40 := by omega
    go_enter Tryz.func45, Tryz.ntmps45
    go_wp2
    go_ret
    exact ⟨rfl, rfl⟩
theorem zeroK_len' {N : Nat} (h : N ≤ 40) : (zeroK (N : Int)).length = N := by rw [zeroK_yes h, List.length_replicate]
theorem bmF_zero {R C : Nat} (h : R ≤ 40) (h' : C ≤ 40) : bmF R C (fun _ => zeroK (C : Int)) = matZ R C := by
  rw [bmF_yes fun i _ => zeroK_len' h', matZ_yes h h', zeroK_yes h']
  apply List.ext_getElem?
  intro j
  by_cases hj : j < R
  · simp [hj]
  · simp [hj]
theorem unit_row {B C : Nat} {i : Nat} (W : World) (hB : W.cell? ⟨B, 0, none⟩ = some (.int .i64 (C : Int))) (hC : C ≤ 40) (hi : i < C) :
    Calls Tryz.prog 46 #[.int .i64 (i : Int), .pointer (some ⟨B, 0, none⟩)] W (VecR true (unitK C i) W) := by
  have KE := hid (impl_VecUnit (C : Int) (i : Int) (by omega) (by omega) (by omega) (by omega) W)
  go_enter Tryz.func46, Tryz.ntmps46
  go_wp2_with fail
  (with_reducible refine (KE.out).mono ?_)
  rintro e w2 ⟨a5, n5, c5, rfl, hv, hb⟩
  have R := hid (show VecR true (unitK C i) W (.returned (.slice a5 n5 c5)) w2 from ⟨_, _, _, rfl, hv, hb⟩)
  clear hv hb
  go_wp2
  go_ret
  exact R.out
theorem unitK_len' {N i : Nat} (h : N ≤ 40) (hi : i < N) : (unitK (N : Int) (i : Int)).length = N := by
  unfold unitK
  rw [if_pos ⟨by omega, by rw [zeroK_len' h]; omega⟩, List.length_set, zeroK_len' h]
theorem bmF_unit {N : Nat} (h : N ≤ 40) : bmF N N (fun (i : Nat) => unitK (N : Int) (i : Int)) = matI N := by
  rw [bmF_yes fun i hi => unitK_len' h hi, matI_yes h]
set_option maxRecDepth 100000 in
set_option maxHeartbeats 6400000 in
theorem impl_MatIdentity (n : Int) (n0 : -9223372036854775808 ≤ n) (n1 : n ≤ 9223372036854775807) (w : World) :
    Calls Tryz.prog 16 #[.int .i64 n] w (MatG (matI n) w) := by
  have BW := hid (below_new' (w := w) (o := .cells #[.int .i64 n] 3))
  have HBc := hid (show (w.alloc (.cells #[.int .i64 n] 3)).cell? ⟨w.heap.size, 0, none⟩ = some (.int .i64 n) by simp)
  have HS := hid (show (w.alloc (.cells #[.int .i64 n] 3)).heap.size = w.heap.size + 1 by simp)
  have q0 := HBc.out
  by_cases hr : n < 0 ∨ 40 < n
  · rw [matI_no hr]
    have KD := hid (fun W => dim_no n hr W)
    have R := hid (MatG_nil w BW.out)
    clear hr
    go_enter Tryz.func16, Tryz.ntmps16
    go_wp2_with fail
    (with_reducible refine (KD.out _).mono ?_)
    rintro e w2 ⟨rfl, rfl⟩
    go_wp2
    go_ret
    exact R.out
  · obtain ⟨N, rfl⟩ : ∃ N : Nat, n = N := ⟨n.toNat, by omega⟩
    have hN : N ≤ 40 := by omega
    have KD := hid (fun W => dim_yes (N : Int) (by omega) (by omega) W)
    have HZ := hid (bmF_unit hN)
    have KB := hid (buildMat_any hN hN 46 #[.pointer (some ⟨w.heap.size, 0, none⟩)] (fun (i : Nat) => unitK (N : Int) (i : Int)) (w.alloc (.cells #[.int .i64 (N : Int)] 3)) (fun args W => enter_of Tryz.func46 (by kernel_rfl) rfl args W)
      (fun i hi W hb => unit_row W ((hb.cell (p := ⟨w.heap.size, 0, none⟩) (by rw [HS.out]; simp)).trans HBc.out) hN hi))
    rw [HZ.out] at KB
    clear hr
    go_enter Tryz.func16, Tryz.ntmps16
    go_wp2_with fail
    (with_reducible refine (KD.out _).mono ?_)
    rintro e w2 ⟨rfl, rfl⟩
    go_wp2_with fail
    (with_reducible refine (KB.out).mono ?_)
    rintro e w2 ⟨a5, n5, c5, rfl, hv, hb⟩
    have R := hid (show MatG (matI N) w (.returned (.slice a5 n5 c5)) w2 from ⟨_, _, _, rfl, hv.wide (by rw [HS.out]; omega) (Nat.le_refl _), BW.out.trans (hb.mono BW.out.size)⟩)
    clear hv hb q0
    go_wp2
    go_ret
    exact R.out
end Go.Proofs.YtdffmeinofgdgaaGreat
