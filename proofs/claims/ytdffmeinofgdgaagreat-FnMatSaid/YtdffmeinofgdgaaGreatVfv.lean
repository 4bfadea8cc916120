/- Merged: Few Vmf Vmv Vfv. -/
import Derived.Test.YtdffmeinofgdgaaGreatMkr
import Derived.Test.YtdffmeinofgdgaaGreatVbe
import Derived.Deep.RegionHeld3
import Derived.Deep.DeepCutAuto
import Derived.Test.YtdffmeinofgdgaaGreatVdt
import Derived.Test.YtdffmeinofgdgaaGreatVx
import Derived.Test.YtdffmeinofgdgaaGreatVw
/- The draws of small fractions: l04Few, MakeFew. -/
namespace Go.Proofs.YtdffmeinofgdgaaGreat
open Go.RowKit
open Go.Lib (hid)
set_option linter.unusedVariables false

def DrawF (N : Nat) (w : World) (e : Ending) (w' : World) : Prop := ∃ (x : Rat) (v u : Value), szq x 1 ∧ e = .returned (.agg #[.bool (gzs x.num), v, u]) ∧ Ints w' w.heap.size v (gzl x.num) ∧ Ints w' w.heap.size u (gzl (x.den : Int)) ∧ Only (fun k => k = N ∨ w.heap.size ≤ k) w w'
theorem few_cells (i : Nat) (h : i < ([1, 1, 1, 2, 3] : List Int).length) : (#[.int .i64 1, .int .i64 1, .int .i64 1, .int .i64 2, .int .i64 3] : Array Value)[i]? = some (.int .i64 ([1, 1, 1, 2, 3] : List Int)[i]) := by
  have e : i = 0 ∨ i = 1 ∨ i = 2 ∨ i = 3 ∨ i = 4 := by simp at h; omega
  rcases e with rfl | rfl | rfl | rfl | rfl <;> rfl
theorem mk_few {n d : Int} (h0 : -1000 ≤ n) (h1 : n ≤ 1000) (h2 : 0 < d) (h3 : d ≤ 1000) : ∃ x, mkFr n d = some x ∧ szq x 1 := by
  have hp : (1000 : Int) < pw 1 := by decide
  have hs : szq (Rat.divInt n d) 1 := szq_divInt (by omega) (by omega) (by omega)
  refine ⟨_, ?_, hs⟩
  unfold mkFr
  rw [if_neg (by omega)]
  exact capF_yes (szq_fit hs (by decide))
set_option maxRecDepth 100000 in
set_option maxHeartbeats 6400000 in
theorem l04Few_any (N : Nat) (a : Option Addr) (n c : Nat) (Z : List Int) (hZ : Z.length ≤ 1048576) (w : World) (hc : CurE w N a n c Z) (hu : Under N a Z) :
    Calls Tryz.prog 63 #[.pointer (some ⟨N, 0, none⟩)] w (DrawF N w) := by
  have KB := hid (fun (W : World) (h : CurE W N a n c Z) => belowE N a n c Z 21 hZ W h hu (by decide) (by decide))
  have KP := hid (fun (W : World) (g : Nat) (h : CurE W N a n c Z) (h1 : ∀ i (h : i < ([1, 1, 1, 2, 3] : List Int).length), W.cell? ⟨g, i, none⟩ = some (.int .i64 ([1, 1, 1, 2, 3] : List Int)[i])) (h2 : g ≠ N) => (show Calls Tryz.prog 88 #[.pointer (some ⟨N, 0, none⟩), .slice (some ⟨g, 0, none⟩) 5 5] W (PickE [1, 1, 1, 2, 3] N a n c Z W) from pickE N a n c Z g 5 [1, 1, 1, 2, 3] hZ W h hu (by decide) (by decide) h1 h2))
  have hNw := CurE_lt hc
  have C1 := hid (CurE_alloc hc (.cells #[.bool false, .slice none 0 0, .slice none 0 0] 65))
  have B1 := hid (show Only (fun k => k = N ∨ w.heap.size ≤ k) w (w.alloc (.cells #[.bool false, .slice none 0 0, .slice none 0 0] 65)) from (Only.refl _ _).alloc (.inr (Nat.le_refl _)) _)
  have LR := hid (LocA.new (w := w) (T := 65) (cs := #[.bool false, .slice none 0 0, .slice none 0 0]))
  have hne : w.heap.size ≠ N := by omega
  clear hc hu
  go_enter Tryz.func63, Tryz.ntmps63
  go_wp2_with fail
  have hsW := LR.out.lt
  generalize w.alloc (.cells #[.bool false, .slice none 0 0, .slice none 0 0] 65) = W at C1 B1 LR hsW ⊢
  (with_reducible refine (KB.out _ C1.out).mono ?_)
  rintro e w1 ⟨x, x0, x1, rfl, c1, o1⟩
  have C1 := hid c1
  have LR := hid (LR.out.only o1 hne)
  have hs1 := o1.size
  have B1 := hid (B1.out.trans (o1.mono fun k hk => .inl hk))
  clear c1 o1
  have C1 := hid (CurE_alloc C1.out (.cells #[.int .i64 1, .int .i64 1, .int .i64 1, .int .i64 2, .int .i64 3] 3))
  have LR := hid (LR.out.new1 (o := .cells #[.int .i64 1, .int .i64 1, .int .i64 1, .int .i64 2, .int .i64 3] 3))
  have LL := hid (LocA.new (w := w1) (T := 3) (cs := #[.int .i64 1, .int .i64 1, .int .i64 1, .int .i64 2, .int .i64 3]))
  have B1 := hid (B1.out.alloc (.inr (by omega)) (.cells #[.int .i64 1, .int .i64 1, .int .i64 1, .int .i64 2, .int .i64 3] 3))
  have hwN : w1.heap.size ≠ N := by omega
  go_wp2_with fail
  have hs2 : w1.heap.size < (w1.alloc (.cells #[.int .i64 1, .int .i64 1, .int .i64 1, .int .i64 2, .int .i64 3] 3)).heap.size := LL.out.lt
  generalize w1.alloc (.cells #[.int .i64 1, .int .i64 1, .int .i64 1, .int .i64 2, .int .i64 3] 3) = W1 at C1 B1 LR LL hs2 ⊢
  (with_reducible refine (KP.out W1 w1.heap.size C1.out (fun i hi => LL.out.c i (few_cells i hi)) hwN).mono ?_)
  rintro e w2 ⟨y, hy, rfl, c1, o1⟩
  have hy0 : 0 < y ∧ y ≤ 3 := by simp at hy; omega
  have LR := hid (LR.out.only o1 hne)
  have hs3 := o1.size
  have B1 := hid (B1.out.trans (o1.mono fun k hk => .inl hk))
  obtain ⟨q, eq, hq⟩ := mk_few (n := x - 10) (d := y) (by omega) (by omega) (by omega) (by omega)
  have HQ := hid hq
  have KO := hid (fun (W : World) => spec_RatOf (x - 10) y (by omega) (by omega) (by omega) (by omega) W)
  rw [eq] at KO
  clear c1 o1 hy eq hq KB KP
  go_wp2_with fail
  (with_reducible refine (KO.out _).mono ?_)
  rintro e w3 ⟨v1, u1, rfl, j1, j2, b1⟩
  have LR := hid (LR.out.old b1)
  have hsz8 := b1.size
  have B1 := hid (B1.out.trans (Only.of_below b1 fun k hk => .inr (by omega)))
  have J1 := hid (show Ints w3 _ v1 (gzl q.num) from j1)
  have J2 := hid (show Ints w3 _ u1 (gzl (q.den : Int)) from j2)
  rw [show qn (some q) = q.num from rfl]
  have n1 := LR.out.ne (by decide) J1.out
  have n2 := LR.out.ne (by decide) J2.out
  have R := hid (show DrawF N w (.returned (.agg #[.bool (gzs q.num), v1, u1])) (((w3.setCell ⟨w.heap.size, 0, none⟩ (.bool (gzs q.num))).setCell ⟨w.heap.size, 1, none⟩ v1).setCell ⟨w.heap.size, 2, none⟩ u1) from
    ⟨q, v1, u1, HQ.out, rfl, Ints_base (Ints_set (Ints_set (Ints_set J1.out n1) n1) n1) (by omega), Ints_base (Ints_set (Ints_set (Ints_set J2.out n2) n2) n2) (by omega), ((B1.out.setCell (.inr (Nat.le_refl _)) _).setCell (.inr (Nat.le_refl _)) _).setCell (.inr (Nat.le_refl _)) _⟩)
  obtain ⟨gs, hgs⟩ : ∃ g, g = gzs q.num := ⟨_, rfl⟩
  rw [← hgs] at R ⊢
  obtain ⟨e1, d1, rfl, -⟩ := Ints_form J1.out
  obtain ⟨e2, d2, rfl, -⟩ := Ints_form J2.out
  have f0 := LR.out.f 0
  have f1 := LR.out.f 1
  have f2 := LR.out.f 2
  have p0 := LR.out.c 0 rfl
  have p1 := LR.out.c 1 rfl
  have p2 := LR.out.c 2 rfl
  have HG := hid hgs
  clear b1 hgs n1 n2 j1 j2 hy0
  go_wp2
  exact bodyPost_ret (v := .agg #[.bool gs, .slice e1 (gzl q.num).length d1, .slice e2 (gzl (q.den : Int)).length d2]) (by simp [results, Tryz.results63, go_sem, p0, p1, p2]) rfl R.out
/-- MakeFew's answer: a fraction whose parts have at most one limb. -/
def MakeF (w : World) (e : Ending) (w' : World) : Prop := ∃ (x : Rat) (v u : Value), szq x 1 ∧ e = .returned (.agg #[.bool (gzs x.num), v, u]) ∧ Ints w' w.heap.size v (gzl x.num) ∧ Ints w' w.heap.size u (gzl (x.den : Int)) ∧ Below w.heap.size w w'
end Go.Proofs.YtdffmeinofgdgaaGreat

/- The draw of a small fraction: the place moves on. -/
namespace Go.Proofs.YtdffmeinofgdgaaGreat
open Go.RowKit
open Go.Lib (hid)
set_option linter.unusedVariables false

def DrawC (N : Nat) (a : Option Addr) (n c : Nat) (Z : List Int) (w : World) (e : Ending) (w' : World) : Prop := ∃ (x : Rat) (v u : Value), szq x 1 ∧ e = .returned (.agg #[.bool (gzs x.num), v, u]) ∧ Ints w' w.heap.size v (gzl x.num) ∧ Ints w' w.heap.size u (gzl (x.den : Int)) ∧ Only (fun k => k = N ∨ w.heap.size ≤ k) w w' ∧ CurE w' N a n c Z
theorem CurE_set {w : World} {N b i : Nat} {a : Option Addr} {n c : Nat} {Z : List Int} {x : Value} (h : CurE w N a n c Z) (hu : Under N a Z) (hN : N < b) : CurE (w.setCell ⟨b, i, none⟩ x) N a n c Z :=
  CurE_below h ((Below.refl (N + 1) w).setCell (show N + 1 ≤ b by omega) x) (Nat.lt_succ_self _) (CurE_lt h) hu
set_option maxRecDepth 100000 in
set_option maxHeartbeats 6400000 in
theorem l04Few_cur (N : Nat) (a : Option Addr) (n c : Nat) (Z : List Int) (hZ : Z.length ≤ 1048576) (w : World) (hc : CurE w N a n c Z) (hu : Under N a Z) :
    Calls Tryz.prog 63 #[.pointer (some ⟨N, 0, none⟩)] w (DrawC N a n c Z w) := by
  have KB := hid (fun (W : World) (h : CurE W N a n c Z) => belowE N a n c Z 21 hZ W h hu (by decide) (by decide))
  have KP := hid (fun (W : World) (g : Nat) (h : CurE W N a n c Z) (h1 : ∀ i (h : i < ([1, 1, 1, 2, 3] : List Int).length), W.cell? ⟨g, i, none⟩ = some (.int .i64 ([1, 1, 1, 2, 3] : List Int)[i])) (h2 : g ≠ N) => (show Calls Tryz.prog 88 #[.pointer (some ⟨N, 0, none⟩), .slice (some ⟨g, 0, none⟩) 5 5] W (PickE [1, 1, 1, 2, 3] N a n c Z W) from pickE N a n c Z g 5 [1, 1, 1, 2, 3] hZ W h hu (by decide) (by decide) h1 h2))
  have hNw := CurE_lt hc
  have C1 := hid (CurE_alloc hc (.cells #[.bool false, .slice none 0 0, .slice none 0 0] 65))
  have B1 := hid (show Only (fun k => k = N ∨ w.heap.size ≤ k) w (w.alloc (.cells #[.bool false, .slice none 0 0, .slice none 0 0] 65)) from (Only.refl _ _).alloc (.inr (Nat.le_refl _)) _)
  have LR := hid (LocA.new (w := w) (T := 65) (cs := #[.bool false, .slice none 0 0, .slice none 0 0]))
  have hne : w.heap.size ≠ N := by omega
  have HU := hid hu
  have C9 := hid (CurE_lt hc)
  clear hc hu
  go_enter Tryz.func63, Tryz.ntmps63
  go_wp2_with fail
  have hsW := LR.out.lt
  generalize w.alloc (.cells #[.bool false, .slice none 0 0, .slice none 0 0] 65) = W at C1 B1 LR hsW ⊢
  (with_reducible refine (KB.out _ C1.out).mono ?_)
  rintro e w1 ⟨x, x0, x1, rfl, c1, o1⟩
  have C1 := hid c1
  have LR := hid (LR.out.only o1 hne)
  have hs1 := o1.size
  have B1 := hid (B1.out.trans (o1.mono fun k hk => .inl hk))
  clear c1 o1
  have C1 := hid (CurE_alloc C1.out (.cells #[.int .i64 1, .int .i64 1, .int .i64 1, .int .i64 2, .int .i64 3] 3))
  have LR := hid (LR.out.new1 (o := .cells #[.int .i64 1, .int .i64 1, .int .i64 1, .int .i64 2, .int .i64 3] 3))
  have LL := hid (LocA.new (w := w1) (T := 3) (cs := #[.int .i64 1, .int .i64 1, .int .i64 1, .int .i64 2, .int .i64 3]))
  have B1 := hid (B1.out.alloc (.inr (by omega)) (.cells #[.int .i64 1, .int .i64 1, .int .i64 1, .int .i64 2, .int .i64 3] 3))
  have hwN : w1.heap.size ≠ N := by omega
  go_wp2_with fail
  have hs2 : w1.heap.size < (w1.alloc (.cells #[.int .i64 1, .int .i64 1, .int .i64 1, .int .i64 2, .int .i64 3] 3)).heap.size := LL.out.lt
  generalize w1.alloc (.cells #[.int .i64 1, .int .i64 1, .int .i64 1, .int .i64 2, .int .i64 3] 3) = W1 at C1 B1 LR LL hs2 ⊢
  (with_reducible refine (KP.out W1 w1.heap.size C1.out (fun i hi => LL.out.c i (few_cells i hi)) hwN).mono ?_)
  rintro e w2 ⟨y, hy, rfl, c1, o1⟩
  have hy0 : 0 < y ∧ y ≤ 3 := by simp at hy; omega
  have LR := hid (LR.out.only o1 hne)
  have hs3 := o1.size
  have B1 := hid (B1.out.trans (o1.mono fun k hk => .inl hk))
  obtain ⟨q, eq, hq⟩ := mk_few (n := x - 10) (d := y) (by omega) (by omega) (by omega) (by omega)
  have HQ := hid hq
  have C2 := hid c1
  have KO := hid (fun (W : World) => spec_RatOf (x - 10) y (by omega) (by omega) (by omega) (by omega) W)
  rw [eq] at KO
  clear c1 o1 hy eq hq KB KP
  go_wp2_with fail
  (with_reducible refine (KO.out _).mono ?_)
  rintro e w3 ⟨v1, u1, rfl, j1, j2, b1⟩
  have LR := hid (LR.out.old b1)
  have hsz8 := b1.size
  have C3 := hid (CurE_below C2.out b1 (by omega) (Nat.le_refl _) HU.out)
  have C4 := hid (CurE_set (CurE_set (CurE_set C3.out HU.out (b := w.heap.size) (i := 0) (x := .bool (gzs q.num)) C9.out) HU.out (b := w.heap.size) (i := 1) (x := v1) C9.out) HU.out (b := w.heap.size) (i := 2) (x := u1) C9.out)
  have B1 := hid (B1.out.trans (Only.of_below b1 fun k hk => .inr (by omega)))
  have J1 := hid (show Ints w3 _ v1 (gzl q.num) from j1)
  have J2 := hid (show Ints w3 _ u1 (gzl (q.den : Int)) from j2)
  rw [show qn (some q) = q.num from rfl]
  have n1 := LR.out.ne (by decide) J1.out
  have n2 := LR.out.ne (by decide) J2.out
  have R := hid (show DrawC N a n c Z w (.returned (.agg #[.bool (gzs q.num), v1, u1])) (((w3.setCell ⟨w.heap.size, 0, none⟩ (.bool (gzs q.num))).setCell ⟨w.heap.size, 1, none⟩ v1).setCell ⟨w.heap.size, 2, none⟩ u1) from
    ⟨q, v1, u1, HQ.out, rfl, Ints_base (Ints_set (Ints_set (Ints_set J1.out n1) n1) n1) (by omega), Ints_base (Ints_set (Ints_set (Ints_set J2.out n2) n2) n2) (by omega), ((B1.out.setCell (.inr (Nat.le_refl _)) _).setCell (.inr (Nat.le_refl _)) _).setCell (.inr (Nat.le_refl _)) _, C4.out⟩)
  obtain ⟨gs, hgs⟩ : ∃ g, g = gzs q.num := ⟨_, rfl⟩
  rw [← hgs] at R ⊢
  obtain ⟨e1, d1, rfl, -⟩ := Ints_form J1.out
  obtain ⟨e2, d2, rfl, -⟩ := Ints_form J2.out
  have f0 := LR.out.f 0
  have f1 := LR.out.f 1
  have f2 := LR.out.f 2
  have p0 := LR.out.c 0 rfl
  have p1 := LR.out.c 1 rfl
  have p2 := LR.out.c 2 rfl
  have HG := hid hgs
  clear b1 hgs n1 n2 j1 j2 hy0
  go_wp2
  exact bodyPost_ret (v := .agg #[.bool gs, .slice e1 (gzl q.num).length d1, .slice e2 (gzl (q.den : Int)).length d2]) (by simp [results, Tryz.results63, go_sem, p0, p1, p2]) rfl R.out
end Go.Proofs.YtdffmeinofgdgaaGreat

/- Draws of vectors. -/
namespace Go.Proofs.YtdffmeinofgdgaaGreat
open Go.RowKit
open Go.Lib (hid)
set_option linter.unusedVariables false

def lenV : Value → Nat
  | .slice _ n _ => n
  | _ => 0
/-- Fractions whose parts have at most one limb. -/
def Few1 (K : List Fq) : Prop := ∀ f ∈ K, ∃ x : Rat, f = fqo (some x) ∧ szq x 1
theorem Few1_nil : Few1 [] := fun f hf => by cases hf
theorem Few1_snoc {K : List Fq} {x : Rat} (h : Few1 K) (hx : szq x 1) : Few1 (K ++ [fqo (some x)]) := fun f hf => by
  rcases List.mem_append.1 hf with hf | hf
  · exact h f hf
  · exact ⟨x, List.mem_singleton.1 hf, hx⟩
/-- A drawn vector: m small fractions; besides the draw's place it writes nothing old. -/
def DrawV (m N : Nat) (aa : Option Addr) (nn cc : Nat) (Z : List Int) (w : World) (e : Ending) (w' : World) : Prop := ∃ (K : List Fq) (a : Option Addr) (c : Nat), K.length = m ∧ Few1 K ∧ e = .returned (.slice a m c) ∧ VK false w' (.slice a m c) K w.heap.size w'.heap.size ∧ Only (fun k => k = N ∨ w.heap.size ≤ k) w w' ∧ CurE w' N aa nn cc Z
theorem RO_few {w : World} {lo : Nat} {x : Rat} {v u : Value} (hx : szq x 1) (h1 : Ints w lo v (gzl x.num)) (h2 : Ints w lo u (gzl (x.den : Int))) : RO false w lo (gzs x.num) v u (some x) :=
  ⟨rfl, h1, h2, fun h => by (cases h), fitO_some (szq_fit hx (by decide))⟩
set_option maxRecDepth 100000 in
set_option maxHeartbeats 6400000 in
theorem l06Draw_any (m N : Nat) (hm : m ≤ 100) (a : Option Addr) (n c : Nat) (Z : List Int) (hZ : Z.length ≤ 1048576) (w : World) (hc : CurE w N a n c Z) (hu : Under N a Z) :
    Calls Tryz.prog 33 #[.pointer (some ⟨N, 0, none⟩), .int .i64 m] w (DrawV m N a n c Z w) := by
  have hNw := CurE_lt hc
  have V0 := hid (VK_lit0 false (w := w) (lo := w.heap.size) (Nat.le_refl _))
  have B0 := hid (show Only (fun k => k = N ∨ w.heap.size ≤ k) w (w.alloc (.cells #[] 65)) from (Only.refl _ _).alloc (.inr (Nat.le_refl _)) _)
  have C0 := hid (CurE_alloc hc (.cells #[] 65))
  have S0 := hid (show (w.alloc (.cells #[] 65)).heap.size = w.heap.size + 1 by simp)
  have KF := hid (fun (W : World) (h : CurE W N a n c Z) => l04Few_cur N a n c Z hZ W h hu)
  have HU := hid hu
  clear hc hu
  go_enter Tryz.func33, Tryz.ntmps33
  go_wp2
  generalize w.alloc (.cells #[] 65) = W0 at V0 B0 C0 S0 ⊢
  go_loopw [5] (fun v wr => ∃ (K : List Fq) (a' : Option Addr) (c' : Nat), v = .slice a' K.length c' ∧ K.length ≤ m ∧ Hid (VK false wr (.slice a' K.length c') K w.heap.size wr.heap.size) ∧ Hid (CurE wr N a n c Z) ∧ Hid (Only (fun k => k = N ∨ w.heap.size ≤ k) w wr) ∧ Hid (Few1 K)) (fun v _ => m - lenV v)
  case atStart => exact ⟨[], _, 0, rfl, Nat.zero_le _, hid (V0.out.wide (Nat.le_refl _) (by rw [S0.out]; exact Nat.le_refl _)), C0, B0, hid Few1_nil⟩
  case round =>
    obtain ⟨K, a', c', rfl, hk, hV, hC, hB, hF⟩ := hrel
    by_cases hlt : K.length < m
    · have a1 : (K.length : Int) < m := by omega
      have zz := hB.out.size
      go_wp2_with fail
      (with_reducible refine (KF.out _ hC.out).mono ?_)
      rintro e w2 ⟨x, v1, u1, hx, rfl, i1, i2, o1, oc⟩
      have z2 : wr.heap.size ≤ w2.heap.size := o1.size
      have HX := hid hx
      have R2 := hid (RO_few hx i1 i2)
      have V2 := hid (hV.out.onlyG (a := N) (b := N + 1) (o1.mono fun k hk => hk.elim (fun e => .inl ⟨by omega, by omega⟩) .inr) (.inr (by omega)))
      have C2 := hid oc
      have B2 := hid (hB.out.trans (o1.mono fun k hk => hk.elim .inl fun h => .inr (by omega)))
      obtain ⟨e1, d1, rfl, -⟩ := Ints_form i1
      obtain ⟨e2, d2, rfl, -⟩ := Ints_form i2
      obtain ⟨gs, hgs⟩ : ∃ g, g = gzs x.num := ⟨_, rfl⟩
      rw [← hgs] at R2 ⊢
      obtain ⟨L1, hL1⟩ : ∃ g, g = (gzl x.num).length := ⟨_, rfl⟩
      rw [← hL1] at R2 ⊢
      obtain ⟨L2, hL2⟩ : ∃ g, g = (gzl (x.den : Int)).length := ⟨_, rfl⟩
      rw [← hL2] at R2 ⊢
      clear hgs hL1 hL2 i1 i2 o1 hx oc
      have PV := hid (V2.out.old (below_new' (o := .cells #[.bool gs, .slice e1 L1 d1, .slice e2 L2 d2] 65)))
      have PR := hid (R2.out.old (below_new' (o := .cells #[.bool gs, .slice e1 L1 d1, .slice e2 L2 d2] 65)))
      have PB := hid (heap_alloc_new w2 (.cells #[.bool gs, .slice e1 L1 d1, .slice e2 L2 d2] 65))
      have PC := hid (CurE_alloc C2.out (.cells #[.bool gs, .slice e1 L1 d1, .slice e2 L2 d2] 65))
      have B3 := hid (B2.out.alloc (.inr (by omega)) (.cells #[.bool gs, .slice e1 L1 d1, .slice e2 L2 d2] 65))
      go_wp2_with (at_builtin; refine wpList_push rfl _ _ rfl rfl PV.out (by omega) (by omega) PR.out rfl PB.out (by omega) (by simp; omega) ?_)
      intro gp cp wp hvp hbp
      have HV5 := hid hvp
      have HC5 := hid (CurE_below PC.out hbp hNw (by simp; omega) HU.out)
      have HB5 := hid (B3.out.trans (Only.of_below hbp fun k hk => .inr hk))
      have HF5 := hid (Few1_snoc hF.out HX.out)
      have hl5 := hid (show (K ++ [fqo (some x)]).length = K.length + 1 by rw [List.length_append]; rfl)
      clear hvp hbp
      go_wp2
      go_roundw
      case rel => exact ⟨K ++ [fqo (some x)], some ⟨gp, 0, none⟩, cp, by rw [hl5.out], by rw [hl5.out]; omega, hid (by
        have h1 := HV5.out
        rw [hl5.out]
        exact h1), HC5, HB5, HF5⟩
      case measure => simp [lenV]; omega
    · have hkm : K.length = m := by omega
      subst hkm
      clear hlt
      go_wp2
      go_ret
      exact ⟨K, a', c', rfl, hF.out, rfl, hV.out, hB.out, hC.out⟩
/-- MakeVec's answer: m small fractions. -/
def MakeV (m : Nat) (w : World) (e : Ending) (w' : World) : Prop := ∃ (K : List Fq) (a : Option Addr) (c : Nat), K.length = m ∧ Few1 K ∧ e = .returned (.slice a m c) ∧ VK false w' (.slice a m c) K w.heap.size w'.heap.size ∧ Below w.heap.size w w'
set_option maxRecDepth 100000 in
set_option maxHeartbeats 3200000 in
theorem MakeVec_any (m : Nat) (hm : m ≤ 100) (a : Option Addr) (n c : Nat) (Z : List Int) (t : Int) (hZ : Z.length ≤ 1048576) (w : World) (hr : ByteRow w a n Z) (t0 : 0 ≤ t) (t1 : t ≤ 1000) :
    Calls Tryz.prog 8 #[.slice a n c, .int .i64 m, .int .i64 t] w (MakeV m w) := by
  have HR := hid hr
  have K := hid (l01New_any a n c Z hZ w hr)
  have hh := hashTo_le hZ (min Z.length 4000)
  obtain ⟨h, hhe⟩ : ∃ h, h = hashed Z := ⟨_, rfl⟩
  have HH := hid hhe
  change 0 ≤ hashed Z ∧ hashed Z ≤ 1073741824 at hh
  rw [← hhe] at hh
  clear hhe hr
  go_enter Tryz.func8, Tryz.ntmps8
  go_wp2_with fail
  (with_reducible refine (K.out).mono ?_)
  rintro e w1 ⟨rfl, rfl⟩
  rw [← HH.out]
  go_wp2_with fail
  have hb0 : Below w.heap.size w (w.alloc (.cells #[.slice a n c, .int .i64 0, .int .i64 (h + t)] 52)) := (Below.refl _ _).alloc (Nat.le_refl _) _
  have HC := hid (show CurE (w.alloc (.cells #[.slice a n c, .int .i64 0, .int .i64 (h + t)] 52)) w.heap.size a n c Z from ⟨ByteRow_below HR.out hb0, 0, h + t, Nat.zero_le _, by unfold IsCur; exact heap_alloc_new w _⟩)
  have HU := hid (show Under w.heap.size a Z from fun g o e h0 => by
    obtain ⟨g', o', e', hg, _⟩ := HR.out.2.2 h0
    rw [e] at e'
    simp at e'
    omega)
  have HB := hid hb0
  have hs2 : (w.alloc (.cells #[.slice a n c, .int .i64 0, .int .i64 (h + t)] 52)).heap.size = w.heap.size + 1 := by simp
  clear hb0
  (with_reducible refine (l06Draw_any m w.heap.size hm a n c Z hZ _ HC.out HU.out).mono ?_)
  rintro e w2 ⟨K2, a2, c2, hl, hf, rfl, hv, o1, -⟩
  have R := hid (show MakeV m w (.returned (.slice a2 m c2)) w2 from ⟨K2, a2, c2, hl, hf, rfl, hv.wide (by omega) (Nat.le_refl _), HB.out.trans (o1.below (B := w.heap.size) fun k hk hs => by rcases hs with hs | hs <;> omega)⟩)
  clear hl hf hv o1 hs2
  go_wp2
  go_ret
  exact R.out
end Go.Proofs.YtdffmeinofgdgaaGreat

/- Laws of vectors: the mathematics. -/
namespace Go.Proofs.YtdffmeinofgdgaaGreat
open Go.RowKit
open Go.Lib (hid)
set_option linter.unusedVariables false

theorem Few1.at {K : List Fq} (h : Few1 K) {k : Nat} (hk : k < K.length) : ∃ x : Rat, K[k].o = some x ∧ szq x 1 ∧ K[k] = fqo (some x) := by
  obtain ⟨x, e, hx⟩ := h _ (List.getElem_mem hk)
  exact ⟨x, by rw [e]; exact fqo_o (fitO_some (szq_fit hx (by decide))), hx, e⟩
theorem Few1.some {K : List Fq} (h : Few1 K) : ∀ o ∈ vals K, o.isSome = true := by
  intro o ho
  obtain ⟨f, hf, rfl⟩ := List.mem_map.1 ho
  obtain ⟨k, hk, rfl⟩ := List.getElem_of_mem hf
  obtain ⟨x, e, -, -⟩ := h.at hk
  rw [e]; rfl
/-- Fractions as structs. -/
def fv (X : List Rat) : List Fq := X.map fun x => fqo (some x)
def Sz (X : List Rat) (a : Nat) : Prop := ∀ x ∈ X, szq x a
theorem few_fv {K : List Fq} (h : Few1 K) : ∃ X, K = fv X ∧ Sz X 1 := by
  induction K with
  | nil => exact ⟨[], rfl, fun x hx => by cases hx⟩
  | cons f K ih =>
    obtain ⟨X, e, hX⟩ := ih fun g hg => h g (List.mem_cons_of_mem _ hg)
    obtain ⟨x, ex, hx⟩ := h f (List.mem_cons_self ..)
    refine ⟨x :: X, by rw [ex, e]; rfl, fun y hy => ?_⟩
    rcases List.mem_cons.1 hy with rfl | hy
    · exact hx
    · exact hX y hy
theorem fv_len (X : List Rat) : (fv X).length = X.length := by simp [fv]
theorem fq_some {x : Rat} {a : Nat} (h : szq x a) (ha : a ≤ 24) : (fqo (some x)).o = some x := fqo_o (fitO_some (szq_fit h ha))
theorem vals_fv : ∀ {X : List Rat} {a : Nat}, Sz X a → a ≤ 24 → vals (fv X) = X.map Option.some
  | [], _, _, _ => rfl
  | x :: X, a, h, ha => by
    have h1 := fq_some (h x (List.mem_cons_self ..)) ha
    have h2 := vals_fv (X := X) (fun y hy => h y (List.mem_cons_of_mem _ hy)) ha
    unfold vals fv at h2 ⊢
    rw [List.map_cons, List.map_cons, List.map_cons, h1, h2]
theorem vres_some {X : List Rat} (h : X.length ≤ 40) : vres (X.map Option.some) = fv X := by
  unfold vres
  have : oks (X.map Option.some) = true := by
    unfold oks
    rw [List.length_map, decide_eq_true h, Bool.true_and, List.all_eq_true]
    intro o ho
    obtain ⟨x, -, rfl⟩ := List.mem_map.1 ho
    rfl
  rw [if_pos this, List.map_map]; rfl
theorem oks_fv {X : List Rat} {a : Nat} (hX : Sz X a) (ha : a ≤ 24) (h : X.length ≤ 40) : oks (vals (fv X)) = true := by
  rw [vals_fv hX ha]
  unfold oks
  rw [List.length_map, decide_eq_true h, Bool.true_and, List.all_eq_true]
  intro o ho
  obtain ⟨x, -, rfl⟩ := List.mem_map.1 ho
  rfl
theorem zw_fv {f : Rat → Rat → Option Rat} {g : Rat → Rat → Rat} {a b : Nat} (ha : a ≤ 24) (hb : b ≤ 24) (hf : ∀ x y, szq x a → szq y b → f x y = some (g x y)) : ∀ {X Y : List Rat}, Sz X a → Sz Y b → zw f (fv X) (fv Y) = (List.zipWith g X Y).map Option.some
  | [], _, _, _ => rfl
  | _ :: _, [], _, _ => rfl
  | x :: X, y :: Y, h, h' => by
    have hx := h x (List.mem_cons_self ..)
    have hy := h' y (List.mem_cons_self ..)
    have ih := zw_fv ha hb hf (X := X) (Y := Y) (fun z hz => h z (List.mem_cons_of_mem _ hz)) (fun z hz => h' z (List.mem_cons_of_mem _ hz))
    have e1 : bq f (fqo (some x)).o (fqo (some y)).o = some (g x y) := by
      rw [fq_some hx ha, fq_some hy hb, bq_some]; exact hf x y hx hy
    unfold zw fv at ih ⊢
    rw [List.map_cons, List.map_cons, List.zipWith_cons_cons, List.zipWith_cons_cons, List.map_cons, e1, ih]
theorem vzip_fv {f : Rat → Rat → Option Rat} {g : Rat → Rat → Rat} {a b : Nat} (ha : a ≤ 24) (hb : b ≤ 24) (hf : ∀ x y, szq x a → szq y b → f x y = some (g x y)) {X Y : List Rat} (hX : Sz X a) (hY : Sz Y b) (hl : X.length = Y.length) (h4 : X.length ≤ 40) : vzip f (fv X) (fv Y) = fv (List.zipWith g X Y) := by
  unfold vzip
  rw [if_pos (by rw [fv_len, fv_len]; exact hl), zw_fv ha hb hf hX hY]
  exact vres_some (by rw [List.length_zipWith]; omega)
theorem Sz_zip {g : Rat → Rat → Rat} {a b c : Nat} (hg : ∀ x y, szq x a → szq y b → szq (g x y) c) : ∀ {X Y : List Rat}, Sz X a → Sz Y b → Sz (List.zipWith g X Y) c
  | [], _, _, _ => fun z hz => by cases hz
  | _ :: _, [], _, _ => fun z hz => by cases hz
  | x :: X, y :: Y, h, h' => fun z hz => by
    rw [List.zipWith_cons_cons] at hz
    rcases List.mem_cons.1 hz with rfl | hz
    · exact hg _ _ (h x (List.mem_cons_self ..)) (h' y (List.mem_cons_self ..))
    · exact Sz_zip hg (fun z hz => h z (List.mem_cons_of_mem _ hz)) (fun z hz => h' z (List.mem_cons_of_mem _ hz)) z hz
theorem addF_some {x y : Rat} {a b : Nat} (h : a + b + 1 ≤ 24) (hx : szq x a) (hy : szq y b) : addF x y = some (x + y) := capF_yes (szq_fit (szq_add hx hy) h)
theorem subF_some {x y : Rat} {a b : Nat} (h : a + b + 1 ≤ 24) (hx : szq x a) (hy : szq y b) : subF x y = some (x - y) := capF_yes (szq_fit (szq_sub hx hy) h)
theorem mulF_some {x y : Rat} {a b : Nat} (h : a + b ≤ 24) (hx : szq x a) (hy : szq y b) : mulF x y = some (x * y) := capF_yes (szq_fit (szq_mul hx hy) h)
theorem sub_add_list : ∀ {X Y : List Rat}, X.length = Y.length → List.zipWith (· - ·) (List.zipWith (· + ·) X Y) Y = X
  | [], [], _ => rfl
  | x :: X, y :: Y, h => by
    have ih := sub_add_list (X := X) (Y := Y) (by simpa using h)
    simp only [List.zipWith_cons_cons, ih]
    rw [show x + y - y = x by rw [Rat.sub_eq_add_neg, Rat.add_assoc, Rat.add_neg_cancel, Rat.add_zero]]
theorem scale_list (q : Rat) : ∀ {X Y : List Rat}, (List.zipWith (· + ·) X Y).map (· * q) = List.zipWith (· + ·) (X.map (· * q)) (Y.map (· * q))
  | [], _ => rfl
  | _ :: _, [] => rfl
  | x :: X, y :: Y => by
    have ih := scale_list q (X := X) (Y := Y)
    simp only [List.zipWith_cons_cons, List.map_cons, ih, Rat.add_mul]
theorem zero_list : ∀ {X : List Rat}, List.zipWith (· + ·) X (List.replicate X.length 0) = X
  | [] => rfl
  | x :: X => by
    have ih := zero_list (X := X)
    simp only [List.length_cons, List.replicate_succ, List.zipWith_cons_cons, ih, Rat.add_zero]
theorem szq_more {x : Rat} {a b : Nat} (h : a ≤ b) (hx : szq x a) : szq x b := ⟨Int.lt_of_lt_of_le hx.1 (pw_le h), Int.lt_of_lt_of_le hx.2 (pw_le h)⟩
/-- The scalar product. -/
def dotL : List Rat → List Rat → Rat → Rat
  | x :: X, y :: Y, s => dotL X Y (s + x * y)
  | _, _, s => s
theorem dot_fold {a b : Nat} (ha : a ≤ 24) (hb : b ≤ 24) : ∀ {X Y : List Rat} {s : Rat} {c : Nat}, Sz X a → Sz Y b → szq s c → c + X.length * (a + b + 1) ≤ 24 →
    ((zw mulF (fv X) (fv Y)).foldl (fun acc o => bq addF acc o) (some s)) = some (dotL X Y s) ∧ szq (dotL X Y s) (c + X.length * (a + b + 1))
  | [], _, s, c, _, _, hs, hc => ⟨rfl, by simpa [dotL] using hs⟩
  | _ :: _, [], s, c, _, _, hs, hc => ⟨rfl, szq_more (by omega) hs⟩
  | x :: X, y :: Y, s, c, h, h', hs, hc => by
    have hx := h x (List.mem_cons_self ..)
    have hy := h' y (List.mem_cons_self ..)
    have e0 : (x :: X).length * (a + b + 1) = X.length * (a + b + 1) + (a + b + 1) := by rw [List.length_cons, Nat.succ_mul]
    have hm := szq_mul hx hy
    have hs2 : szq (s + x * y) (c + (a + b + 1)) := by have := szq_add hs hm; rwa [Nat.add_assoc] at this
    have ih := dot_fold ha hb (X := X) (Y := Y) (s := s + x * y) (c := c + (a + b + 1)) (fun z hz => h z (List.mem_cons_of_mem _ hz)) (fun z hz => h' z (List.mem_cons_of_mem _ hz)) hs2 (by omega)
    have e1 : zw mulF (fv (x :: X)) (fv (y :: Y)) = some (x * y) :: zw mulF (fv X) (fv Y) := by
      have e2 : bq mulF (fqo (some x)).o (fqo (some y)).o = some (x * y) := by
        rw [fq_some hx ha, fq_some hy hb, bq_some]; exact mulF_some (by omega) hx hy
      unfold zw fv
      rw [List.map_cons, List.map_cons, List.zipWith_cons_cons, e2]
    rw [e1, List.foldl_cons, bq_some, addF_some (a := c) (b := a + b) (by omega) hs hm]
    refine ⟨ih.1, ?_⟩
    have h2 := ih.2
    rw [e0]
    show szq (dotL X Y (s + x * y)) _
    rwa [show c + (X.length * (a + b + 1) + (a + b + 1)) = c + (a + b + 1) + X.length * (a + b + 1) by omega]
theorem szq_zero1 : szq ((0 : Int) : Rat) 1 := by constructor <;> decide
theorem dot_fv {X Y : List Rat} {a b : Nat} (hX : Sz X a) (hY : Sz Y b) (hl : X.length = Y.length) (h4 : X.length ≤ 4) (hab : 1 + 4 * (a + b + 1) ≤ 24) : dotO (fv X) (fv Y) = some (dotL X Y ((0 : Int) : Rat)) ∧ szq (dotL X Y ((0 : Int) : Rat)) (1 + 4 * (a + b + 1)) := by
  have hm : X.length * (a + b + 1) ≤ 4 * (a + b + 1) := Nat.mul_le_mul_right _ h4
  have h := dot_fold (by omega) (by omega) hX hY szq_zero1 (by omega)
  refine ⟨?_, szq_more (by omega) h.2⟩
  unfold dotO
  rw [if_pos ⟨by rw [fv_len, fv_len]; exact hl, by rw [fv_len]; omega⟩]
  exact h.1
theorem dot_add {Z : List Rat} : ∀ {X Y : List Rat} {s t : Rat}, X.length = Z.length → Y.length = Z.length → dotL (List.zipWith (· + ·) X Y) Z (s + t) = dotL X Z s + dotL Y Z t := by
  induction Z with
  | nil =>
    intro X Y s t h h'
    have e1 : X = [] := List.eq_nil_of_length_eq_zero h
    have e2 : Y = [] := List.eq_nil_of_length_eq_zero h'
    subst e1
    subst e2
    rfl
  | cons z Z ih =>
    intro X Y s t h h'
    cases X with
    | nil => cases h
    | cons x X =>
      cases Y with
      | nil => cases h'
      | cons y Y =>
        have ih := ih (X := X) (Y := Y) (s := s + x * z) (t := t + y * z) (by simpa using h) (by simpa using h')
        rw [List.zipWith_cons_cons, dotL, dotL, dotL, ← ih]
        rw [show s + t + (x + y) * z = s + x * z + (t + y * z) by grind]
theorem eqF_refl (f : Fq) : eqF f f = true := by simp [eqF]
theorem eqV_refl : ∀ K : List Fq, eqV K K = true
  | [] => rfl
  | f :: K => by
    have := eqV_refl K
    simp [eqV, eqF_refl, this]
theorem smO_fv {q : Rat} {a b : Nat} (hq : szq q b) (hab : a + b ≤ 24) : ∀ {X : List Rat}, Sz X a → smO (fv X) (some q) = (X.map (· * q)).map Option.some
  | [], _ => rfl
  | x :: X, h => by
    have hx := h x (List.mem_cons_self ..)
    have e1 : bq mulF (fqo (some x)).o (some q) = some (x * q) := by
      rw [fq_some hx (by omega), bq_some]; exact mulF_some hab hx hq
    have ih := smO_fv hq hab (X := X) fun z hz => h z (List.mem_cons_of_mem _ hz)
    unfold smO fv at ih ⊢
    rw [List.map_cons, List.map_cons, List.map_cons, List.map_cons, e1, ih]
theorem scale_fv {X : List Rat} {q : Rat} {a b : Nat} (hX : Sz X a) (hq : szq q b) (hab : a + b ≤ 24) (h4 : X.length ≤ 40) : vscale (fv X) (some q) = fv (X.map (· * q)) ∧ Sz (X.map (· * q)) (a + b) := by
  refine ⟨?_, fun z hz => ?_⟩
  · unfold vscale
    rw [smO_fv hq hab hX]
    exact vres_some (by rw [List.length_map]; exact h4)
  · obtain ⟨x, hx, rfl⟩ := List.mem_map.1 hz
    exact szq_mul (hX x hx) hq
theorem Sm_fv {W : List Rat} {a : Nat} (hW : Sz W a) (ha : a ≤ 24) (hw : W.length ≤ 4) : Sm (fv W) := by
  refine ⟨fun f hf => ?_, by rw [fv_len]; omega⟩
  unfold fv at hf
  obtain ⟨x, hx, e⟩ := List.mem_map.1 hf
  obtain ⟨-, -, h1, h2⟩ := rval_parts (fitO_some (szq_fit (hW x hx) ha))
  rw [← e, fqo_A, fqo_D]
  exact ⟨Nat.le_trans h1 (by decide), Nat.le_trans h2 (by decide)⟩
theorem zero_fv {m : Nat} (h : m ≤ 40) : zeroK (m : Int) = fv (List.replicate m 0) ∧ Sz (List.replicate m (0 : Rat)) 1 := by
  refine ⟨?_, fun x hx => by rw [(List.mem_replicate.1 hx).2]; exact szq_zero1⟩
  rw [zeroK_yes h]
  unfold fv
  rw [List.map_replicate]; rfl
/-- What the law asks of two vectors of at most four small fractions. -/
theorem vec_laws {K L : List Fq} {q : Rat} {m : Nat} (hK : Few1 K) (hL : Few1 L) (hk : K.length = m) (hl : L.length = m) (hm : m ≤ 4) (hq : szq q 1) :
    ∃ (S KQ LQ SQ Z : List Fq) (d1 d2 d : Rat), vzip addF K L = S ∧ oks (vals S) = true ∧ vzip subF S L = K ∧ vscale S (some q) = SQ ∧ vscale K (some q) = KQ ∧ vscale L (some q) = LQ ∧ vzip addF KQ LQ = SQ ∧ dotO K K = some d1 ∧ dotO L K = some d2 ∧ bq addF (some d1) (some d2) = some d ∧ dotO S K = some d ∧ zeroK (m : Int) = Z ∧ vzip addF K Z = K ∧
      Sm S ∧ Sm KQ ∧ Sm LQ ∧ Sm SQ ∧ Sm Z ∧ Sm K ∧ Sm L := by
  obtain ⟨X, rfl, hX⟩ := few_fv hK
  obtain ⟨Y, rfl, hY⟩ := few_fv hL
  rw [fv_len] at hk hl
  have hS : Sz (List.zipWith (· + ·) X Y) (1 + 1 + 1) := Sz_zip (fun x y hx hy => szq_add hx hy) hX hY
  have lS : (List.zipWith (· + ·) X Y).length = m := by rw [List.length_zipWith]; omega
  have sX := scale_fv hX hq (by decide) (by omega)
  have sY := scale_fv hY hq (by decide) (by omega)
  have sS := scale_fv hS hq (by decide) (by omega)
  have hz := zero_fv (m := m) (by omega)
  have dX := dot_fv hX hX (Eq.refl X.length) (by omega) (by decide)
  have dY := dot_fv hY hX (by omega) (by omega) (by decide)
  have dS := dot_fv hS hX (by omega) (by omega) (by decide)
  have ed : dotL (List.zipWith (· + ·) X Y) X ((0 : Int) : Rat) = dotL X X ((0 : Int) : Rat) + dotL Y X ((0 : Int) : Rat) := by
    have h := dot_add (X := X) (Y := Y) (Z := X) (s := ((0 : Int) : Rat)) (t := ((0 : Int) : Rat)) rfl (by omega)
    rw [← h, show ((0 : Int) : Rat) + ((0 : Int) : Rat) = ((0 : Int) : Rat) by rw [show ((0 : Int) : Rat) = 0 from rfl, Rat.add_zero]]
  refine ⟨fv (List.zipWith (· + ·) X Y), _, _, fv ((List.zipWith (· + ·) X Y).map (· * q)), _, _, _, dotL (List.zipWith (· + ·) X Y) X ((0 : Int) : Rat), ?_, ?_, ?_, sS.1, sX.1, sY.1, ?_, dX.1, dY.1, ?_, dS.1, hz.1, ?_, Sm_fv hS (by decide) (by omega), Sm_fv sX.2 (by decide) (by rw [List.length_map]; omega), Sm_fv sY.2 (by decide) (by rw [List.length_map]; omega), Sm_fv sS.2 (by decide) (by rw [List.length_map]; omega), Sm_fv hz.2 (by decide) (by simp; omega), Sm_fv hX (by decide) (by omega), Sm_fv hY (by decide) (by omega)⟩
  · exact vzip_fv (g := (· + ·)) (by decide) (by decide) (fun x y hx hy => addF_some (by decide) hx hy) hX hY (by omega) (by omega)
  · exact oks_fv hS (by decide) (by omega)
  · rw [vzip_fv (g := (· - ·)) (a := 1 + 1 + 1) (b := 1) (by decide) (by decide) (fun x y hx hy => subF_some (by decide) hx hy) hS hY (by omega) (by omega), sub_add_list (by omega)]
  · rw [vzip_fv (g := (· + ·)) (a := 1 + 1) (b := 1 + 1) (by decide) (by decide) (fun x y hx hy => addF_some (by decide) hx hy) sX.2 sY.2 (by simp; omega) (by simp; omega), scale_list]
  · rw [bq_some]
    unfold addF
    rw [← ed]
    exact capF_yes (szq_fit dS.2 (by decide))
  · have hr : (List.replicate m (0 : Rat)).length = m := by simp
    rw [vzip_fv (g := (· + ·)) (a := 1) (b := 1) (by decide) (by decide) (fun x y hx hy => addF_some (by decide) hx hy) hX hz.2 (by omega) (by omega)]
    have := zero_list (X := X)
    rw [hk] at this
    rw [this]
theorem am_le {K : List Fq} (h0 : 0 < K.length) (hs : ∀ k, k < K.length → ∃ x, oat K k = some x) : ∀ k, k ≤ K.length → cmpO (oat K (am K k)) (oat K 0) ≤ 0
  | 0, _ => by
    obtain ⟨x, e⟩ := hs 0 h0
    show cmpO (oat K 0) (oat K 0) ≤ 0
    rw [e, cmpO_some, (cmpF_zero x x).2 rfl]
    decide
  | k + 1, hk => by
    have ih := am_le h0 hs k (by omega)
    have hl := am_lt h0 k (by omega)
    simp only [am]
    split
    · next hc =>
      obtain ⟨x, ex⟩ := hs k (by omega)
      obtain ⟨y, ey⟩ := hs (am K k) hl
      obtain ⟨z, ez⟩ := hs 0 h0
      rw [ey, ez, cmpO_some] at ih
      rw [ex, ey, cmpO_some] at hc
      rw [ex, ez, cmpO_some]
      rcases cmpF_cases x z with ⟨h, -⟩ | ⟨h, -⟩ | ⟨h, hzx⟩
      · omega
      · omega
      · exfalso
        rcases cmpF_cases x y with ⟨-, h1⟩ | ⟨h1, -⟩ | ⟨h1, -⟩
        · rcases cmpF_cases y z with ⟨-, h2⟩ | ⟨-, h2⟩ | ⟨h2, -⟩
          · grind
          · grind
          · omega
        · omega
        · omega
    · exact ih
theorem arg_few {K : List Fq} {m : Nat} (hK : Few1 K) (hk : K.length = m) (h0 : 0 < m) (h4 : m ≤ 4) : ∃ j : Nat, argV K = (j : Int) ∧ ∃ hj : j < K.length, ∃ h0' : 0 < K.length, cmpO (K[j]).o (K[0]).o ≤ 0 := by
  have hs : ∀ k, k < K.length → ∃ x, oat K k = some x := fun k hkk => by
    obtain ⟨x, e, -, -⟩ := hK.at hkk
    exact ⟨x, by rw [oat_at hkk]; exact e⟩
  have hl := am_lt (K := K) (by omega) K.length (Nat.le_refl _)
  have ho : oks (vals K) = true := by
    unfold oks
    rw [vals_len, decide_eq_true (by omega), Bool.true_and, List.all_eq_true]
    exact hK.some
  refine ⟨am K K.length, ?_, hl, by omega, ?_⟩
  · unfold argV
    rw [if_neg]
    rintro (h | h)
    · omega
    · rw [ho] at h; cases h
  · have h := am_le (K := K) (by omega) hs K.length (Nat.le_refl _)
    rwa [oat_at hl, oat_at (by omega)] at h
end Go.Proofs.YtdffmeinofgdgaaGreat
