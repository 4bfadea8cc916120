/- Slices of strings and of rows that a call gives, in the laws' words. -/
import Derived.Test.YteanocjkdehhgaaKi
import Derived.Test.YteanocjkdehhgaaRlz
namespace Go.Proofs.Yteanocjkdehhgaa
open Go.RowKit
open Go.Lib (hid)
set_option linter.unusedVariables false

/-- A slice of strings of the law's own: it lies from lo on, below hi. -/
structure StO (w : World) (v : Value) (L : List ByteArray) (lo hi : Nat) : Prop where
  s : Strs w 9 lo v L
  high : ∀ k, v.ownBlock = some k → k < hi
  h : hi ≤ w.heap.size
theorem StO.of {w' : World} {v : Value} {L : List ByteArray} {lo : Nat} (h : Strs w' 9 lo v L) : StO w' v L lo w'.heap.size := ⟨h, fun k hk => (World.ownsRow.lt h k hk).2, Nat.le_refl _⟩
theorem StO.old {w w' : World} {v : Value} {L : List ByteArray} {lo hi : Nat} (h : StO w v L lo hi) (hb : Below w.heap.size w w') : StO w' v L lo hi := ⟨Strs_old h.s hb, h.high, Nat.le_trans h.h hb.size⟩
theorem StO.onlyG {w w' : World} {v : Value} {L : List ByteArray} {lo hi a b : Nat} (h : StO w v L lo hi) (hb : Only (InG a b w.heap.size) w w') (hd : hi ≤ a ∨ b ≤ lo) : StO w' v L lo hi :=
  ⟨own_block h.s fun k hk => hb.block k fun hs => by have := InG_cases hs; have := h.high k hk; have := h.h; have := (World.ownsRow.lt h.s k hk).1; omega, h.high, Nat.le_trans h.h hb.size⟩
theorem StO.form {w : World} {v : Value} {L : List ByteArray} {lo hi : Nat} (h : StO w v L lo hi) : (v = .slice none 0 0 ∧ L = []) ∨ ∃ g c, v = .slice (some ⟨g, 0, none⟩) L.length c ∧ lo ≤ g ∧ g < hi ∧ g < w.heap.size := by
  rcases Strs_cases h.s with h1 | ⟨g, c, rfl, h1, h2, -⟩
  · exact .inl h1
  · exact .inr ⟨g, c, rfl, h1, h.high g rfl, h2⟩
theorem StO.row {w : World} {a : Option Addr} {n c : Nat} {L : List ByteArray} {lo hi : Nat} (h : StO w (.slice a n c) L lo hi) : Row w a n L := by
  rcases h.form with ⟨h1, rfl⟩ | ⟨g, c', h1, -⟩
  · simp only [Value.slice.injEq] at h1
    obtain ⟨rfl, rfl, rfl⟩ := h1
    exact ⟨rfl, fun h0 => by simp at h0⟩
  · simp only [Value.slice.injEq] at h1
    obtain ⟨rfl, rfl, rfl⟩ := h1
    exact Row_of h.s
theorem eqStringS_o {v1 v2 : Value} {L : List ByteArray} {l1 h1 l2 h2 : Nat} (hL : L.length ≤ 1073741824) (w : World) (o1 : StO w v1 L l1 h1) (o2 : StO w v2 L l2 h2) :
    Calls Try.prog 19 #[v1, v2] w (RetB (.bool true) w) := by
  have k : ∀ {v : Value} {l h : Nat}, StO w v L l h → ∃ a n c, v = .slice a n c := fun ho => by
    rcases ho.form with ⟨rfl, -⟩ | ⟨g, c, rfl, -⟩
    · exact ⟨_, _, _, rfl⟩
    · exact ⟨_, _, _, rfl⟩
  obtain ⟨a1, n1, c1, rfl⟩ := k o1
  obtain ⟨a2, n2, c2, rfl⟩ := k o2
  exact (eqStringS_same a1 a2 n1 n2 c1 c2 L hL w o1.row o2.row).mono fun e w' ⟨he, d, hw⟩ => ⟨he, by subst hw; exact ⟨rfl, rfl, rfl, Nat.le_refl _, fun _ _ => rfl⟩⟩
def MarkSt (v : Value) (n : Nat) (lo : Nat) (w : World) (e : Ending) (w' : World) : Prop := e = .returned (.int .i64 (1 + (n : Int))) ∧ StO w' v (marksS n) lo w.heap.size ∧ Only (InG lo w.heap.size w.heap.size) w w'
set_option maxRecDepth 100000 in
theorem markStringS_o {v : Value} {L : List ByteArray} {lo hi : Nat} (hL : L.length ≤ 1048576) (w : World) (h : StO w v L lo hi) (hlo : lo ≤ w.heap.size) :
    Calls Try.prog 22 #[v, .int .i64 1] w (MarkSt v L.length lo w) := by
  rcases h.form with ⟨rfl, rfl⟩ | ⟨g, c, rfl, h1, h2, h3⟩
  · go_enter Try.func22, Try.ntmps22
    go_wp2
    go_loopw [1, 5] (fun x i wr => i = .int .i64 0 ∧ x = .int .i64 1 ∧ wr = w) (fun _ _ _ => 0)
    case atStart => exact ⟨rfl, rfl, rfl⟩
    case round =>
      obtain ⟨rfl, rfl, rfl⟩ := hrel
      go_wp2
      go_ret
      exact ⟨rfl, ⟨World.ownsRow_nil _ _ _ _, fun k hk => by simp [Value.ownBlock] at hk, Nat.le_refl _⟩, Only.refl _ _⟩
  · refine (markStringS_any lo g c L (by omega) w h.s h1 h3).mono fun e w' ⟨he, hs, hb⟩ => ⟨he, ⟨hs, fun k hk => ?_, hb.size⟩, Only.of_below hb fun k hk => ?_⟩
    · simp [Value.ownBlock] at hk; omega
    · by_cases hc : k < w.heap.size
      · exact .inl ⟨hk, hc⟩
      · exact .inr (by omega)
set_option maxRecDepth 100000 in
theorem heldStringS_o {v : Value} {n : Nat} {lo hi : Nat} (hL : n ≤ 1048576) (w : World) (h : StO w v (marksS n) lo hi) :
    Calls Try.prog 23 #[v, .int .i64 1] w (RetB (.int .i64 (1 + (n : Int))) w) := by
  rcases h.form with ⟨rfl, h0⟩ | ⟨g, c, rfl, h1, h2, h3⟩
  · have hn : n = 0 := by have := congrArg List.length h0; rwa [marks_lenS] at this
    subst hn
    go_enter Try.func23, Try.ntmps23
    go_wp2
    go_loopw [1, 5] (fun x i wr => i = .int .i64 0 ∧ x = .int .i64 1 ∧ wr = w) (fun _ _ _ => 0)
    case atStart => exact ⟨rfl, rfl, rfl⟩
    case round =>
      obtain ⟨rfl, rfl, rfl⟩ := hrel
      go_wp2
      go_ret
      exact ⟨rfl, Below.refl _ _⟩
  · have hs := h.s
    rw [marks_lenS] at hs ⊢
    exact (heldStringS_any lo g c n (by omega) w hs h3).mono fun e w' h => h
/-- A row's struct that is only read, between two heights. -/
def kdL : Kd Er where
  n := 5
  cs := Er.cs
  len := fun e => rfl
  inr := fun (e : Er) (k : Nat) => e.lo ≤ k ∧ k < e.hi
  P := fun (w : World) (e : Er) => ((∃ E, TO false w e.t E e.lo e.hi ∧ keysT E = e.q.K) ∧ ROw w e.v e.u e.q.A e.q.D e.lo e.hi) ∧ e.hi ≤ w.heap.size
  keep := fun {w w' e S} h hb hS => by
    obtain ⟨⟨⟨E, h1, h2⟩, h3⟩, h4⟩ := h
    exact ⟨⟨⟨E, h1.onlyS hb fun k a b => hS k ⟨a, b⟩, h2⟩, h3.onlyS hb fun k a b => hS k ⟨a, b⟩⟩, Nat.le_trans h4 hb.size⟩
  lt := fun {w e} h k hk => by have := h.2; omega
def RLO (w : World) (v : Value) (L : List Wq) (lo hi : Nat) : Prop := (∃ E : List Er, GO kdL 91 w v E lo (fun k => lo ≤ k ∧ k < hi) ∧ E.map Er.q = L) ∧ hi ≤ w.heap.size
theorem RLO.old {w w' : World} {v : Value} {L : List Wq} {lo hi : Nat} (h : RLO w v L lo hi) (hb : Below w.heap.size w w') : RLO w' v L lo hi := by
  obtain ⟨⟨E, h1, h2⟩, h3⟩ := h
  exact ⟨⟨E, h1.old hb, h2⟩, Nat.le_trans h3 hb.size⟩
theorem RLO.onlyG {w w' : World} {v : Value} {L : List Wq} {lo hi a b : Nat} (h : RLO w v L lo hi) (hb : Only (InG a b w.heap.size) w w') (hd : hi ≤ a ∨ b ≤ lo) : RLO w' v L lo hi := by
  obtain ⟨⟨E, h1, h2⟩, h3⟩ := h
  exact ⟨⟨E, h1.only hb fun k hk hs => by have := InG_cases hs; have := hk.1; have := hk.2; omega, h2⟩, Nat.le_trans h3 hb.size⟩
theorem RLO.r {w : World} {v : Value} {L : List Wq} {lo hi : Nat} (h : RLO w v L lo hi) : RS w v L := by
  obtain ⟨⟨E, h1, h2⟩, h3⟩ := h
  refine ⟨E, GO.r (P := fun (w : World) (e : Er) => RwW w e.t e.v e.u e.q.K e.q.A e.q.D) h1 fun x hx => ?_, h2⟩
  obtain ⟨⟨⟨E', a, b⟩, c⟩, -⟩ := hx
  exact ⟨⟨_, _, _, E', a, b⟩, _, _, c⟩
/-- A slice of rows' structs is returned that reads as L. -/
def RSR (L : List Wq) (w : World) (e : Ending) (w' : World) : Prop := ∃ a c, e = .returned (.slice a L.length c) ∧ RLO w' (.slice a L.length c) L w.heap.size w'.heap.size ∧ Below w.heap.size w w'
end Go.Proofs.Yteanocjkdehhgaa
