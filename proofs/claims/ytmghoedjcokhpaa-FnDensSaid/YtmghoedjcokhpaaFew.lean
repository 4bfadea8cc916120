/- The draws of small fractions: l04Few, MakeFew. -/
import Derived.Test.YtmghoedjcokhpaaMkr
namespace Go.Proofs.Ytmghoedjcokhpaa
open Go.RowKit
open Go.Lib (hid)
set_option linter.unusedVariables false

def DrawF (N : Nat) (w : World) (e : Ending) (w' : World) : Prop := ∃ (x : Rat) (v u : Value), szq x 1 ∧ e = .returned (.agg #[.bool (gzs x.num), v, u]) ∧ Ints w' w.heap.size v (gzl x.num) ∧ Ints w' w.heap.size u (gzl (x.den : Int)) ∧ Only (fun k => k = N ∨ w.heap.size ≤ k) w w'
theorem few_cells (i : Nat) (h : i < ([1, 1, 1, 2, 3] : List Int).length) : (#[.int .i64 1, .int .i64 1, .int .i64 1, .int .i64 2, .int .i64 3] : Array Value)[i]? = some (.int .i64 ([1, 1, 1, 2, 3] : List Int)[i]) := by
  have e : i = 0 ∨ i = 1 ∨ i = 2 ∨ i = 3 ∨ i = 4 := by simp at h; omega
  rcases e with rfl | rfl | rfl | rfl | rfl <;> rfl
theorem mk_few {n d : Int} (h0 : -1000 ≤ n) (h1 : n ≤ 1000) (h2 : 0 < d) (h3 : d ≤ 1000) : ∃ x, mkFr n d = some x ∧ szq x 1 := by
  have hp : (1000 : Int) < pw 1 := by decide
  have hs : szq (Rat.divInt n d) 1 := szq_divInt (by omega) (by omega) (by omega)
  refine ⟨_, ?_, hs⟩
  unfold mkFr
  rw [if_neg (by omega)]
  exact capF_yes (szq_fit hs (by decide))
set_option maxRecDepth 100000 in
set_option maxHeartbeats 6400000 in
theorem l04Few_any (N : Nat) (a : Option Addr) (n c : Nat) (Z : List Int) (hZ : Z.length ≤ 1048576) (w : World) (hc : CurE w N a n c Z) (hu : Under N a Z) :
    Calls Try.prog 115 #[.pointer (some ⟨N, 0, none⟩)] w (DrawF N w) := by
  have KB := hid (fun (W : World) (h : CurE W N a n c Z) => belowE N a n c Z 21 hZ W h hu (by decide) (by decide))
  have KP := hid (fun (W : World) (g : Nat) (h : CurE W N a n c Z) (h1 : ∀ i (h : i < ([1, 1, 1, 2, 3] : List Int).length), W.cell? ⟨g, i, none⟩ = some (.int .i64 ([1, 1, 1, 2, 3] : List Int)[i])) (h2 : g ≠ N) => (show Calls Try.prog 148 #[.pointer (some ⟨N, 0, none⟩), .slice (some ⟨g, 0, none⟩) 5 5] W (PickE [1, 1, 1, 2, 3] N a n c Z W) from pickE N a n c Z g 5 [1, 1, 1, 2, 3] hZ W h hu (by decide) (by decide) h1 h2))
  have hNw := CurE_lt hc
  have C1 := hid (CurE_alloc hc (.cells #[.bool false, .slice none 0 0, .slice none 0 0] 45))
  have B1 := hid (show Only (fun k => k = N ∨ w.heap.size ≤ k) w (w.alloc (.cells #[.bool false, .slice none 0 0, .slice none 0 0] 45)) from (Only.refl _ _).alloc (.inr (Nat.le_refl _)) _)
  have LR := hid (LocA.new (w := w) (T := 45) (cs := #[.bool false, .slice none 0 0, .slice none 0 0]))
  have hne : w.heap.size ≠ N := by omega
  clear hc hu
  go_enter Try.func115, Try.ntmps115
  go_wp2_with fail
  have hsW := LR.out.lt
  generalize w.alloc (.cells #[.bool false, .slice none 0 0, .slice none 0 0] 45) = W at C1 B1 LR hsW ⊢
  (with_reducible refine (KB.out _ C1.out).mono ?_)
  rintro e w1 ⟨x, x0, x1, rfl, c1, o1⟩
  have C1 := hid c1
  have LR := hid (LR.out.only o1 hne)
  have hs1 := o1.size
  have B1 := hid (B1.out.trans (o1.mono fun k hk => .inl hk))
  clear c1 o1
  have C1 := hid (CurE_alloc C1.out (.cells #[.int .i64 1, .int .i64 1, .int .i64 1, .int .i64 2, .int .i64 3] 3))
  have LR := hid (LR.out.new1 (o := .cells #[.int .i64 1, .int .i64 1, .int .i64 1, .int .i64 2, .int .i64 3] 3))
  have LL := hid (LocA.new (w := w1) (T := 3) (cs := #[.int .i64 1, .int .i64 1, .int .i64 1, .int .i64 2, .int .i64 3]))
  have B1 := hid (B1.out.alloc (.inr (by omega)) (.cells #[.int .i64 1, .int .i64 1, .int .i64 1, .int .i64 2, .int .i64 3] 3))
  have hwN : w1.heap.size ≠ N := by omega
  go_wp2_with fail
  have hs2 : w1.heap.size < (w1.alloc (.cells #[.int .i64 1, .int .i64 1, .int .i64 1, .int .i64 2, .int .i64 3] 3)).heap.size := LL.out.lt
  generalize w1.alloc (.cells #[.int .i64 1, .int .i64 1, .int .i64 1, .int .i64 2, .int .i64 3] 3) = W1 at C1 B1 LR LL hs2 ⊢
  (with_reducible refine (KP.out W1 w1.heap.size C1.out (fun i hi => LL.out.c i (few_cells i hi)) hwN).mono ?_)
  rintro e w2 ⟨y, hy, rfl, c1, o1⟩
  have hy0 : 0 < y ∧ y ≤ 3 := by simp at hy; omega
  have LR := hid (LR.out.only o1 hne)
  have hs3 := o1.size
  have B1 := hid (B1.out.trans (o1.mono fun k hk => .inl hk))
  obtain ⟨q, eq, hq⟩ := mk_few (n := x - 10) (d := y) (by omega) (by omega) (by omega) (by omega)
  have HQ := hid hq
  have KO := hid (fun (W : World) => spec_RatOf (x - 10) y (by omega) (by omega) (by omega) (by omega) W)
  rw [eq] at KO
  clear c1 o1 hy eq hq KB KP
  go_wp2_with fail
  (with_reducible refine (KO.out _).mono ?_)
  rintro e w3 ⟨v1, u1, rfl, j1, j2, b1⟩
  have LR := hid (LR.out.old b1)
  have hsz8 := b1.size
  have B1 := hid (B1.out.trans (Only.of_below b1 fun k hk => .inr (by omega)))
  have J1 := hid (show Ints w3 _ v1 (gzl q.num) from j1)
  have J2 := hid (show Ints w3 _ u1 (gzl (q.den : Int)) from j2)
  rw [show qn (some q) = q.num from rfl]
  have n1 := LR.out.ne (by decide) J1.out
  have n2 := LR.out.ne (by decide) J2.out
  have R := hid (show DrawF N w (.returned (.agg #[.bool (gzs q.num), v1, u1])) (((w3.setCell ⟨w.heap.size, 0, none⟩ (.bool (gzs q.num))).setCell ⟨w.heap.size, 1, none⟩ v1).setCell ⟨w.heap.size, 2, none⟩ u1) from
    ⟨q, v1, u1, HQ.out, rfl, Ints_base (Ints_set (Ints_set (Ints_set J1.out n1) n1) n1) (by omega), Ints_base (Ints_set (Ints_set (Ints_set J2.out n2) n2) n2) (by omega), ((B1.out.setCell (.inr (Nat.le_refl _)) _).setCell (.inr (Nat.le_refl _)) _).setCell (.inr (Nat.le_refl _)) _⟩)
  obtain ⟨gs, hgs⟩ : ∃ g, g = gzs q.num := ⟨_, rfl⟩
  rw [← hgs] at R ⊢
  obtain ⟨e1, d1, rfl, -⟩ := Ints_form J1.out
  obtain ⟨e2, d2, rfl, -⟩ := Ints_form J2.out
  have f0 := LR.out.f 0
  have f1 := LR.out.f 1
  have f2 := LR.out.f 2
  have p0 := LR.out.c 0 rfl
  have p1 := LR.out.c 1 rfl
  have p2 := LR.out.c 2 rfl
  have HG := hid hgs
  clear b1 hgs n1 n2 j1 j2 hy0
  go_wp2
  exact bodyPost_ret (v := .agg #[.bool gs, .slice e1 (gzl q.num).length d1, .slice e2 (gzl (q.den : Int)).length d2]) (by simp [results, Try.results115, go_sem, p0, p1, p2]) rfl R.out
/-- MakeFew's answer: a fraction whose parts have at most one limb. -/
def MakeF (w : World) (e : Ending) (w' : World) : Prop := ∃ (x : Rat) (v u : Value), szq x 1 ∧ e = .returned (.agg #[.bool (gzs x.num), v, u]) ∧ Ints w' w.heap.size v (gzl x.num) ∧ Ints w' w.heap.size u (gzl (x.den : Int)) ∧ Below w.heap.size w w'
end Go.Proofs.Ytmghoedjcokhpaa
