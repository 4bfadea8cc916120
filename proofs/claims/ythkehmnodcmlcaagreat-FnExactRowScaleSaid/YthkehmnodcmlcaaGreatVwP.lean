import Derived.Test.YthkehmnodcmlcaaGreatVbeP
import Derived.Deep.RegionHeld3
import Derived.Deep.DeepCutAuto
set_option maxRecDepth 100000
set_option maxHeartbeats 6400000
set_option linter.unusedVariables false
set_option linter.unusedSimpArgs false
namespace Go.Proofs.YthkehmnodcmlcaaGreat
open Go.RowKit
open Go.Lib (hid)
def vals (K : List Fq) : List (Option Rat) := K.map Fq.o
end Go.Proofs.YthkehmnodcmlcaaGreat

namespace Go.Proofs.YthkehmnodcmlcaaGreat
open Go.RowKit
open Go.Lib (hid)
end Go.Proofs.YthkehmnodcmlcaaGreat

namespace Go.Proofs.YthkehmnodcmlcaaGreat
open Go.RowKit
open Go.Lib (hid)
theorem l01In_y (x lo hi : Int) (h0 : lo ≤ x) (h1 : x ≤ hi) (w : World) : Calls Tryz.prog 120 #[.int .i64 x, .int .i64 lo, .int .i64 hi] w fun e w' => e = .returned (.bool true) ∧ w = w' := by
 have a1 : decide (lo ≤ x) = true := decide_eq_true h0
 have a2 : decide (x ≤ hi) = true := decide_eq_true h1
 go_enter Tryz.func120, Tryz.ntmps120
 go_wp2
 go_ret
 exact ⟨rfl, rfl⟩
theorem l01In_n (x lo hi : Int) (h : x < lo ∨ hi < x) (w : World) : Calls Tryz.prog 120 #[.int .i64 x, .int .i64 lo, .int .i64 hi] w fun e w' => e = .returned (.bool false) ∧ w = w' := by
 by_cases h1 : lo ≤ x
 ·have h2 : ¬ x ≤ hi := by omega
  go_enter Tryz.func120, Tryz.ntmps120
  go_wp2
  go_ret
  exact ⟨rfl, rfl⟩
 ·go_enter Tryz.func120, Tryz.ntmps120
  go_wp2
  go_ret
  exact ⟨rfl, rfl⟩
end Go.Proofs.YthkehmnodcmlcaaGreat

namespace Go.Proofs.YthkehmnodcmlcaaGreat
open Go.RowKit
open Go.Lib (hid)
end Go.Proofs.YthkehmnodcmlcaaGreat

namespace Go.Proofs.YthkehmnodcmlcaaGreat
open Go.RowKit
open Go.Lib (hid)
end Go.Proofs.YthkehmnodcmlcaaGreat
namespace Go.Proofs.YthkehmnodcmlcaaGreat
open Go.RowKit
open Go.Lib (hid)
def oat (K : List Fq) (k : Nat) : Option Rat := (vals K).getD k none
def am (K : List Fq) : Nat → Nat
 | 0 => 0
 | k + 1 => if cmpO (oat K k) (oat K (am K k)) < 0 then k else am K k
end Go.Proofs.YthkehmnodcmlcaaGreat
