/- Merged: Nat1 Num Nat2 Nat3 Nat4. -/
import Derived.Test.YteanocjkdehhgaaBas
import Derived.Laws.AppendOwnNone
import Derived.StillTailTactics
import Derived.BigRegion
/- The program's number that its methods change in place: what lies in memory, and its smaller methods. -/
namespace Go.Proofs.Yteanocjkdehhgaa
open Go.RowKit
open Go.Lib (hid)
set_option linter.unusedVariables false

/-- What a block that opens with the number's slice holds behind it, and the block's type. -/
structure Rest where
  tl : List Value
  ty : TypeId
  ne : ty ≠ 3
/-- The block, by its slice. -/
def Rest.obj (Q : Rest) (v : Value) : Go.Obj := .cells ⟨v :: Q.tl⟩ Q.ty (0, 0)
/-- The program's bare number. -/
def natQ : Rest := ⟨[], 176, by decide⟩
variable {Q : Rest}

/-- Block N is the number: its limbs are L, in the slice v; both lie in the blocks S. -/
structure IsNat (Q : Rest) (w : World) (S : Nat → Prop) (N : Nat) (v : Value) (L : List Int) : Prop where
  cell1 : w.heap[N]? = some (Q.obj v)
  mine : S N
  ints : Ints w 0 v L
  own : ∀ k, v.ownBlock = some k → S k
theorem IsNat.cell {w : World} {S : Nat → Prop} {N : Nat} {v : Value} {L : List Int} (h : IsNat Q w S N v L) : w.cell? ⟨N, 0, none⟩ = some v := by
  have := h.cell1
  simp [World.cell?, this, Rest.obj]
theorem IsNat.free {w : World} {S : Nat → Prop} {N : Nat} {v : Value} {L : List Int} (h : IsNat Q w S N v L) : w.frozen? ⟨N, 0, none⟩ = false := by
  have := h.cell1
  simp [World.frozen?, this, Rest.obj]
theorem IsNat.lt {w : World} {S : Nat → Prop} {N : Nat} {v : Value} {L : List Int} (h : IsNat Q w S N v L) : N < w.heap.size := (Array.getElem?_eq_some_iff.1 h.cell1).1
theorem Ints_ne {w : World} {B N : Nat} {v u : Value} {L : List Int} (h : Ints w B v L) (hN : w.heap[N]? = some (Q.obj u)) : v.ownBlock ≠ some N := by
  rcases h.2 with ⟨rfl, _⟩ | ⟨b, cap, cur, rfl, h2, h3, _⟩
  · simp [Value.ownBlock]
  · intro he
    have : b = N := by simpa [Value.ownBlock] using he
    subst this
    rw [h3] at hN
    simp [Rest.obj] at hN
    exact Q.ne hN.2.symm
theorem IsNat.ne {w : World} {S : Nat → Prop} {N : Nat} {v : Value} {L : List Int} (h : IsNat Q w S N v L) : v.ownBlock ≠ some N := Ints_ne h.ints h.cell1
theorem IsNat.drewN {w : World} {S : Nat → Prop} {N : Nat} {v : Value} {L : List Int} (h : IsNat Q w S N v L) (d : Nat) : IsNat Q (w.drewN d) S N v L := ⟨h.cell1, h.mine, h.ints, h.own⟩
/-- Another world in which its blocks are as they were. -/
theorem IsNat.block {w w' : World} {S : Nat → Prop} {N : Nat} {v : Value} {L : List Int} (h : IsNat Q w S N v L) (hN : w'.heap[N]? = w.heap[N]?) (hv : ∀ k, v.ownBlock = some k → w'.heap[k]? = w.heap[k]?) : IsNat Q w' S N v L :=
  ⟨hN.trans h.cell1, h.mine, Ints_block h.ints hv, h.own⟩
theorem IsNat.old {w w' : World} {S : Nat → Prop} {N : Nat} {v : Value} {L : List Int} (h : IsNat Q w S N v L) (hb : Below w.heap.size w w') : IsNat Q w' S N v L :=
  h.block (hb.block _ h.lt) fun k hk => hb.block k (Ints_lt h.ints k hk).2
theorem IsNat.only {w w' : World} {S T : Nat → Prop} {N : Nat} {v : Value} {L : List Int} (h : IsNat Q w S N v L) (hb : Only T w w') (hN : ¬ T N) (hv : ∀ k, v.ownBlock = some k → ¬ T k) : IsNat Q w' S N v L :=
  h.block (hb.block _ hN) fun k hk => hb.block k (hv k hk)
theorem IsNat.sub {w : World} {S T : Nat → Prop} {N : Nat} {v : Value} {L : List Int} (h : IsNat Q w S N v L) (hN : T N) (hv : ∀ k, v.ownBlock = some k → T k) : IsNat Q w T N v L := ⟨h.cell1, hN, h.ints, hv⟩
/-- The slice is set anew. -/
theorem IsNat.setv {w : World} {S : Nat → Prop} {N : Nat} {v v' : Value} {L L' : List Int} (h : IsNat Q w S N v L) (hi : Ints w 0 v' L') (hs : ∀ k, v'.ownBlock = some k → S k) : IsNat Q (w.setCell ⟨N, 0, none⟩ v') S N v' L' := by
  refine ⟨?_, h.mine, Ints_block hi fun k hk => Below.heap_setCell _ _ _ _ ?_, hs⟩
  · have := h.cell1
    simp [World.setCell, Array.getElem?_modify, this, Rest.obj]
  · rintro rfl
    exact Ints_ne hi h.cell1 hk
/-- A limb is set anew. -/
theorem IsNat.store {w : World} {S : Nat → Prop} {N g n c : Nat} {L : List Int} (h : IsNat Q w S N (.slice (some ⟨g, 0, none⟩) n c) L) (i : Nat) (x : Int) :
    IsNat Q (w.setCell ⟨g, i, none⟩ (.int .i64 x)) S N (.slice (some ⟨g, 0, none⟩) n c) (L.set i x) := by
  refine ⟨(Below.heap_setCell _ _ _ _ ?_).trans h.cell1, h.mine, Ints_store h.ints x, h.own⟩
  rintro rfl
  exact h.ne rfl

theorem rem_neg {v : Int} (h : v < 0) : v.tmod 1000000000 = -((-v) % 1000000000) ∧ v.tdiv 1000000000 = -((-v) / 1000000000) := by
  obtain ⟨u, rfl⟩ : ∃ u : Int, v = -u := ⟨-v, by omega⟩
  rw [Int.neg_tmod, Int.neg_tdiv, Int.tmod_eq_emod_of_nonneg (by omega), Int.tdiv_eq_ediv_of_nonneg (by omega), Int.neg_neg]
  exact ⟨rfl, rfl⟩

def Split (v : Int) (w : World) (e : Ending) (w' : World) : Prop := e = .returned (.tuple #[.int .i64 (v % 1000000000), .int .i64 (v / 1000000000)]) ∧ w = w'
theorem Split_mk {v x y : Int} {w : World} (h : x = v % 1000000000) (h' : y = v / 1000000000) : Split v w (.returned (.tuple #[.int .i64 x, .int .i64 y])) w := by subst h; subst h'; exact ⟨rfl, rfl⟩

set_option maxRecDepth 100000 in
set_option maxHeartbeats 800000 in
theorem splitLimb_any (v : Int) (h0 : -2000000000000000000 ≤ v) (h1 : v ≤ 2000000000000000000) (w : World) : Calls Try.prog 168 #[.int .i64 v] w (Split v w) := by
  by_cases hv : 0 ≤ v
  · have hr : ¬ v % 1000000000 < 0 := by omega
    go_enter Try.func168, Try.ntmps168
    go_wp2
    go_ret2
    exact Split_mk rfl rfl
  · obtain ⟨e1, e2⟩ := rem_neg (show v < 0 by omega)
    obtain ⟨t, ht⟩ : ∃ t, t = -((-v) % 1000000000) := ⟨_, rfl⟩
    obtain ⟨q, hq⟩ : ∃ q, q = -((-v) / 1000000000) := ⟨_, rfl⟩
    have b1 : -1000000000 < t := by omega
    have b2 : t ≤ 0 := by omega
    have b3 : -2000000000 ≤ q := by omega
    have b4 : q ≤ 0 := by omega
    have E1 := hid (show (t = 0 → t = v % 1000000000 ∧ q = v / 1000000000) ∧ (t < 0 → t + 1000000000 = v % 1000000000 ∧ q - 1 = v / 1000000000) by omega)
    rw [← ht] at e1
    rw [← hq] at e2
    clear ht hq
    by_cases hz : t < 0
    · have E := hid (E1.out.2 hz)
      go_enter Try.func168, Try.ntmps168
      go_wp2
      go_ret2
      exact Split_mk E.out.1 E.out.2
    · have E := hid (E1.out.1 (by omega))
      go_enter Try.func168, Try.ntmps168
      go_wp2
      go_ret2
      exact Split_mk E.out.1 E.out.2

/-- A new number with the limbs L. -/
def NewP (L : List Int) (w : World) (e : Ending) (w' : World) : Prop := ∃ N v, e = .returned (.pointer (some ⟨N, 0, none⟩)) ∧ IsNat natQ w' (fun k => w.heap.size ≤ k) N v L ∧ Below w.heap.size w w'
theorem IsNat_new {w w1 : World} {B : Nat} {v : Value} {L : List Int} (h : Ints w1 B v L) (hb : Below w.heap.size w w1) (hB : B = w.heap.size) :
    IsNat natQ (w1.alloc (.cells #[v] 176)) (fun k => w.heap.size ≤ k) w1.heap.size v L ∧ Below w.heap.size w (w1.alloc (.cells #[v] 176)) :=
  ⟨⟨heap_alloc_new w1 _, hb.size, Ints_base (Ints_below h ((Below.refl _ _).alloc (Nat.le_refl _) _) fun k hk => (Ints_lt h k hk).2) (Nat.zero_le _), fun k hk => by have := (Ints_lt h k hk).1; omega⟩,
    hb.alloc hb.size _⟩

set_option maxRecDepth 100000 in
set_option maxHeartbeats 800000 in
theorem newNat_own (B : Nat) (v : Value) (L : List Int) (hL : L.length ≤ 1073741824) (w : World) (h : Ints w B v L) :
    Calls Try.prog 151 #[v] w (NewP L w) := by
  obtain ⟨i3, hi, hz0, hz1, hz2⟩ := info_parts Try.info3
  rcases Ints_cases h with ⟨rfl, rfl⟩ | ⟨g, c, rfl, -, hg, hc⟩
  · go_enter Try.func151, Try.ntmps151
    go_wp2_with (at_builtin; refine wpList_append_own_none rfl _ _ 22 rfl 0 3 i3 1 Try.underlying22 hi _ 0 [] rfl (World.ownsRow_nil w 0 3 1) rfl ?_)
    refine ⟨rfl, _, results_tmp (t := 2) rfl _ _ _, ?_⟩
    exact ⟨_, _, rfl, IsNat_new (Ints_nil w _) (Below.refl _ _) rfl⟩
  · have HC := hid (fun j (u : Value) (hu : (L.map (Value.int .i64))[j]? = some u) => show w.cell? ((⟨g, 0, none⟩ : Addr).add j) = some u by
      rw [Go.WideShapes.add_plain, Nat.zero_add]
      rw [List.getElem?_map] at hu
      obtain ⟨x, hx, rfl⟩ := Option.map_eq_some_iff.1 hu
      obtain ⟨hj, rfl⟩ := List.getElem?_eq_some_iff.1 hx
      exact Ints_cell h hj)
    clear h
    go_enter Try.func151, Try.ntmps151
    go_wp2_with (at_builtin; refine wpList_append_own w rfl _ _ 22 rfl w.heap.size 3 i3 (.int .i64 0) 1 8 Try.underlying22 hi hz0 hz1 hz2 rfl (by decide) _ 0 [] rfl (World.ownsRow_nil w _ 3 1) ⟨g, 0, none⟩ L.length c (L.map (Value.int .i64)) rfl (by simp) ?c1 ?c2 ?c3 ?c4 ?c5 ?_)
    case c1 => exact HC.out
    case c2 => intro u hu; obtain ⟨x, _, rfl⟩ := List.mem_map.1 hu; rfl
    case c3 => unfold maxLen; omega
    case c4 => omega
    case c5 => exact Nat.le_refl _
    intro v' w1 hown' hgrow _
    have hI : Ints w1 w.heap.size v' L := by
      unfold Ints
      simpa using hown'
    have hB : Below w.heap.size w w1 := (Below.refl _ _).grown hgrow (Nat.le_refl _) (fun k hk => by simp [Value.ownBlock] at hk)
    have R := hid (IsNat_new hI hB rfl)
    obtain ⟨a', c', rfl, -, -, -⟩ := Ints_form hI
    clear hown' hgrow hI hB
    go_wp2
    refine ⟨rfl, _, results_tmp (t := 2) rfl _ _ _, ?_⟩
    exact ⟨_, _, rfl, R.out⟩

theorem isSmall_any (S : Nat → Prop) (N : Nat) (v : Value) (L : List Int) (w : World) (h : IsNat Q w S N v L) :
    Calls Try.prog 152 #[.pointer (some ⟨N, 0, none⟩)] w fun e w' => e = .returned (.bool (decide (L.length ≤ 2))) ∧ w = w' := by
  have hc := h.cell
  have hl := Ints_len h.ints
  unfold maxLen at hl
  obtain ⟨a, c, rfl, -, -, -⟩ := Ints_form h.ints
  clear h
  by_cases h2 : L.length ≤ 2
  · have h2' : (L.length : Int) ≤ 2 := by omega
    have hd := hid (decide_eq_true h2)
    go_enter Try.func152, Try.ntmps152
    go_wp2
    go_ret
    exact ⟨ret_bool (by first | exact hd.out.symm | rfl), rfl⟩
  · have h2' : ¬ (L.length : Int) ≤ 2 := by omega
    have hd := hid (decide_eq_false h2)
    go_enter Try.func152, Try.ntmps152
    go_wp2
    go_ret
    exact ⟨ret_bool (by first | exact hd.out.symm | rfl), rfl⟩

def ResP (L : List Int) (w : World) (v : Value) (e : Ending) (w' : World) : Prop := (∃ u M, e = .returned u ∧ (u = v ∧ M = L ∧ L.length ≤ 60 ∨ u = .slice none 0 0 ∧ M = [] ∧ 60 < L.length)) ∧ w = w'
set_option maxRecDepth 100000 in
set_option maxHeartbeats 800000 in
theorem result_any (S : Nat → Prop) (N : Nat) (v : Value) (L : List Int) (w : World) (h : IsNat Q w S N v L) :
    Calls Try.prog 153 #[.pointer (some ⟨N, 0, none⟩)] w (ResP L w v) := by
  have hc := h.cell
  have hl := Ints_len h.ints
  unfold maxLen at hl
  obtain ⟨a, c, rfl, -, -, -⟩ := Ints_form h.ints
  clear h
  by_cases h6 : 60 < L.length
  · have h6' : (60 : Int) < L.length := by omega
    go_enter Try.func153, Try.ntmps153
    go_wp2
    go_ret
    exact ⟨⟨_, _, rfl, .inr ⟨rfl, rfl, h6⟩⟩, rfl⟩
  · have h6' : ¬ (60 : Int) < L.length := by omega
    go_enter Try.func153, Try.ntmps153
    go_wp2
    go_ret
    exact ⟨⟨_, _, rfl, .inl ⟨rfl, rfl, by omega⟩⟩, rfl⟩

/-- A method has changed the number: its limbs are M now. -/
def MethP (Q : Rest) (S : Nat → Prop) (N : Nat) (M : List Int) (w : World) (e : Ending) (w' : World) : Prop := e = .returned (.tuple #[]) ∧ (∃ v, IsNat Q w' S N v M) ∧ Only S w w'
theorem MethP_mk {S : Nat → Prop} {N : Nat} {M M' : List Int} {w w' : World} {v : Value} (h : IsNat Q w' S N v M') (hM : M' = M) (ho : Only S w w') : MethP Q S N M w (.returned (.tuple #[])) w' := by
  subst hM; exact ⟨rfl, ⟨v, h⟩, ho⟩
def lenAt (w : World) (N : Nat) : Nat := match w.cell? ⟨N, 0, none⟩ with | some (.slice _ n _) => n | _ => 0
theorem lenAt_is {w : World} {S : Nat → Prop} {N : Nat} {v : Value} {L : List Int} (h : IsNat Q w S N v L) : lenAt w N = L.length := by
  have hc := h.cell
  obtain ⟨a, c, rfl, -, -, -⟩ := Ints_form h.ints
  simp [lenAt, hc]
theorem IsNat_grown {w w1 : World} {S : Nat → Prop} {N : Nat} {v v' : Value} {L : List Int} {x : Int} {o : Go.Obj} (h : IsNat Q w S N v L) (hS : ∀ k, w.heap.size ≤ k → S k)
    (h' : w1.ownsRow 0 3 1 v' (L.length + 1) (L.map (Value.int .i64) ++ [.int .i64 x])) (hg : (w.alloc o).grownBy w1 v.ownBlock) (ho : v'.ownBlock = v.ownBlock ∨ v'.ownBlock = some (w.heap.size + 1)) :
    IsNat Q (w1.setCell ⟨N, 0, none⟩ v') S N v' (L ++ [x]) ∧ w1.cell? ⟨N, 0, none⟩ = some v ∧ w1.frozen? ⟨N, 0, none⟩ = false ∧ Only S w (w1.setCell ⟨N, 0, none⟩ v') := by
  have hN : w1.heap[N]? = w.heap[N]? := (hg.block N (by have := h.lt; simp; omega) (fun e => h.ne e.symm)).trans (Below.heap_alloc w o N h.lt)
  have hc : w1.heap[N]? = some (Q.obj v) := hN.trans h.cell1
  have hi : Ints w1 0 v' (L ++ [x]) := Ints_snoc h'
  have hs : ∀ k, v'.ownBlock = some k → S k := by
    intro k hk
    rcases ho with e | e
    · exact h.own k (by rw [← e]; exact hk)
    · rw [e] at hk
      have : w.heap.size + 1 = k := by simpa using hk
      exact hS k (by omega)
  have ho : Only S w w1 := ((Only.refl S w).alloc (hS _ (Nat.le_refl _)) o).grown hg (fun k hk => hS k (by simp at hk; omega)) (fun k hk => h.own k hk)
  refine ⟨⟨?_, h.mine, Ints_block hi fun k hk => Below.heap_setCell _ _ _ _ ?_, hs⟩, ?_, ?_, ho.setCell h.mine _⟩
  · simp [World.setCell, Array.getElem?_modify, hc, Rest.obj]
  · rintro rfl
    exact Ints_ne hi hc hk
  · simp [World.cell?, hc, Rest.obj]
  · simp [World.frozen?, hc, Rest.obj]

set_option maxRecDepth 100000 in
set_option maxHeartbeats 1600000 in
theorem extend_any (S : Nat → Prop) (N : Nat) (v : Value) (L : List Int) (n : Nat) (hn : n ≤ 1073741824) (hl : L.length ≤ 1073741824) (w : World) (h : IsNat Q w S N v L) (hS : ∀ k, w.heap.size ≤ k → S k) :
    Calls Try.prog 167 #[.pointer (some ⟨N, 0, none⟩), .int .i64 n] w (MethP Q S N (L ++ List.replicate (n - L.length) 0) w) := by
  obtain ⟨i3, hi, hz0, hz1, hz2⟩ := info_parts Try.info3
  have H := hid h
  have HS := hid hS
  clear h hS
  go_enter Try.func167, Try.ntmps167
  go_wp2
  go_loopw [] (fun wr => ∃ (k : Nat) (u : Value), k ≤ n - L.length ∧ IsNat Q wr S N u (L ++ List.replicate k 0) ∧ Only S w wr) (fun wr => n - lenAt wr N)
  case atStart => exact ⟨0, v, Nat.zero_le _, by simpa using H.out, Only.refl _ _⟩
  case round =>
    obtain ⟨k, u, hk, hI, hO⟩ := hrel
    obtain ⟨M, hM⟩ : ∃ M, M = L ++ List.replicate k 0 := ⟨_, rfl⟩
    have hlen : M.length = L.length + k := by rw [hM]; simp
    rw [← hM] at hI
    have HM := hid hM
    clear hM
    have hLA := hid (lenAt_is hI)
    have hc := hI.cell
    have hf := hI.free
    have hS2 : ∀ j, wr.heap.size ≤ j → S j := fun j hj => HS.out j (Nat.le_trans hO.size hj)
    obtain ⟨a, c, rfl, -, -, -⟩ := Ints_form hI.ints
    by_cases hlt : M.length < n
    · have hlt' : (M.length : Int) < n := by omega
      have HLN := hid hlen
      clear hlen
      have hmx : M.length ≤ 1073741824 := by omega
      go_wp2_with (at_builtin; refine wpList_append_own_at _ rfl _ _ 22 rfl 0 3 i3 (.int .i64 0) 1 8 Try.underlying22 hi hz0 hz1 hz2 rfl (by decide) _ _ _ rfl (World.ownsRow.alloc (show wr.ownsRow 0 3 1 (.slice a M.length c) _ _ from hI.ints) _) ⟨wr.heap.size, 0, none⟩ 1 1 [.int .i64 0] rfl rfl ?c1 ?c2 ?c3 ?c4 ?c5 ?_)
      case c1 => exact cell_one_new _ _ _
      case c2 => intro u hu; simp at hu; subst hu; rfl
      case c3 => unfold maxLen; omega
      case c4 => omega
      case c5 => exact Nat.zero_le _
      intro v' w1 hown' hgrow _ hat
      obtain ⟨R1, R2, R3, R4⟩ := IsNat_grown hI hS2 hown' hgrow hat
      have R1 := hid R1
      have R4 := hid R4
      clear hown' hgrow hat hI hS2 hc hf
      obtain ⟨a', c', rfl, -, -, -⟩ := Ints_form R1.out.ints
      have e : (M ++ [0]).length = M.length + 1 := by simp
      rw [e] at R1 R4
      clear e
      go_wp2
      go_roundw
      case rel =>
        have hk2 : k + 1 ≤ n - L.length := by have := HLN.out; omega
        have e : M ++ [0] = L ++ List.replicate (k + 1) 0 := by rw [HM.out, List.append_assoc, List.replicate_succ']
        refine ⟨k + 1, .slice a' (M.length + 1) c', hk2, ?_, hO.trans R4.out⟩
        rw [← e]
        exact R1.out
      case measure =>
        rw [hLA.out, lenAt_is R1.out]
        simp; omega
    · have hlt' : ¬ (M.length : Int) < n := by omega
      have HLN := hid hlen
      clear hlen
      go_wp2
      go_end0
      refine MethP_mk hI ?_ hO
      rw [HM.out]
      congr 2
      have := HLN.out
      omega
end Go.Proofs.Yteanocjkdehhgaa

/- Steps of the arithmetic on limbs: a limb set with its carry, sums, products, quotients. No program text. -/
namespace Go.Proofs.Yteanocjkdehhgaa

theorem set_step {L : List Int} {k : Nat} (hk : k < L.length) {x y : Int} (hx : x = L[k] + y) : val (L.set k (x % 1000000000)) + (x / 1000000000) * pw (k + 1) = val L + y * pw k := by
  rw [val_set hk]
  have e : x = 1000000000 * (x / 1000000000) + x % 1000000000 := by omega
  have h : x % 1000000000 - L[k] + (x / 1000000000) * 1000000000 = y := by omega
  simp only [pw]
  rw [← h]
  grind
/-- A carry: what is at limb i with the carry c. -/
theorem carry_pos {L : List Int} (hL : Lim L) {i : Nat} (hi : L.length ≤ i) {c : Int} (h0 : 0 ≤ val L + c * pw i) (hc : c ≠ 0) : 0 < c := by
  have h1 := val_lt hL
  have h2 := pw_le hi
  rcases Int.lt_or_le c 0 with h | h
  · have : (c + 1) * pw i ≤ 0 := Int.mul_nonpos_of_nonpos_of_nonneg (by omega) (by have := pw_pos i; omega)
    rw [Int.add_mul] at this
    omega
  · omega
theorem pad_at {L : List Int} {n i : Nat} (h : L.length ≤ i) (hi : i < (L ++ List.replicate (n - L.length) 0).length) : (L ++ List.replicate (n - L.length) (0 : Int))[i] = 0 := by
  rw [List.getElem_append_right h]; simp
theorem pad_len {L : List Int} {n : Nat} : (L ++ List.replicate (n - L.length) (0 : Int)).length = max L.length n := by simp; omega
theorem Lim_pad {L : List Int} (h : Lim L) (k : Nat) : Lim (L ++ List.replicate k 0) := Lim_append h (Lim_zeros k)
/-- The bounds of one step of a multiplication. -/
theorem mul_step {x m f c : Int} (hx : 0 ≤ x ∧ x < 1000000000) (hm : 0 ≤ m ∧ m < 1000000000) (hf : -1000000000 < f ∧ f < 1000000000) (hc : -1000000000 < c ∧ c < 1000000000) :
    -1000000000000000000 < m * f ∧ m * f < 1000000000000000000 ∧ -1000000000 < (x + m * f + c) / 1000000000 ∧ (x + m * f + c) / 1000000000 < 1000000000 := by
  have h1 : m * f ≤ 999999999 * 999999999 := by
    rcases Int.lt_or_le f 0 with h | h
    · have : m * f ≤ 0 := Int.mul_nonpos_of_nonneg_of_nonpos hm.1 (by omega)
      omega
    · exact Int.mul_le_mul (by omega) (by omega) h (by omega)
  have h2 : -(999999999 * 999999999) ≤ m * f := by
    rcases Int.lt_or_le f 0 with h | h
    · have : m * (-f) ≤ 999999999 * 999999999 := Int.mul_le_mul (by omega) (by omega) (by omega) (by omega)
      rw [Int.mul_neg] at this
      omega
    · have : 0 ≤ m * f := Int.mul_nonneg hm.1 h
      omega
  omega
theorem mul_acc {L M : List Int} {s k : Nat} (hk : k < M.length) {V f c : Int} (hV : val L + c * pw (s + k) = V + f * val (M.take k) * pw s) :
    val L + (M[k] * f + c) * pw (s + k) = V + f * val (M.take (k + 1)) * pw s := by
  rw [val_take_succ hk, pw_add] at *
  grind
theorem can_rep_val {L : List Int} (hL : Lim L) (V : Int) (hv : val L = V) {n : Nat} (hn : n ≤ L.length) (hv2 : val (L.take n) = val L) (h0 : ∀ k (hk : k < L.length), n = k + 1 → L[k] ≠ 0) : L.take n = rep V.toNat := by
  rw [← hv]; exact trim_end hL hn hv2 h0
end Go.Proofs.Yteanocjkdehhgaa

/- The program's number that its methods change in place: trimming. -/
namespace Go.Proofs.Yteanocjkdehhgaa
open Go.RowKit
open Go.Lib (hid)
set_option linter.unusedVariables false
variable {Q : Rest}

theorem extend_int (S : Nat → Prop) (N : Nat) (v : Value) (L : List Int) (z : Int) (h0 : 0 ≤ z) (hn : z ≤ 1073741824) (hl : L.length ≤ 1073741824) (w : World) (h : IsNat Q w S N v L) (hS : ∀ k, w.heap.size ≤ k → S k) :
    Calls Try.prog 167 #[.pointer (some ⟨N, 0, none⟩), .int .i64 z] w (MethP Q S N (L ++ List.replicate (z.toNat - L.length) 0) w) := by
  obtain ⟨n, rfl⟩ : ∃ n : Nat, z = n := ⟨z.toNat, by omega⟩
  have := extend_any S N v L n (by omega) hl w h hS
  rw [Int.toNat_natCast]
  exact this

set_option maxRecDepth 100000 in
set_option maxHeartbeats 1600000 in
theorem trim_any (S : Nat → Prop) (N : Nat) (v : Value) (L : List Int) (hl : L.length ≤ 1073741824) (hL : Lim L) (w : World) (h : IsNat Q w S N v L) :
    Calls Try.prog 170 #[.pointer (some ⟨N, 0, none⟩)] w (MethP Q S N (rep (val L).toNat) w) := by
  have H := hid h
  have HL := hid hL
  clear h hL
  go_enter Try.func170, Try.ntmps170
  go_wp2
  go_loopw [] (fun wr => ∃ (k : Nat) (u : Value), k ≤ L.length ∧ IsNat Q wr S N u (L.take k) ∧ Only S w wr ∧ Hid (val (L.take k) = val L)) (fun wr => lenAt wr N)
  case atStart => exact ⟨L.length, v, Nat.le_refl _, by rw [List.take_length]; exact H.out, Only.refl _ _, hid (by rw [List.take_length])⟩
  case round =>
    obtain ⟨k, u, hk, hI, hO, hv⟩ := hrel
    have hLA := hid (lenAt_is hI)
    have hc := hI.cell
    have hf := hI.free
    have hm := hI.mine
    have HI := hid hI
    have HO := hid hO
    have HM := hid hm
    have hlen : (L.take k).length = k := by simp; omega
    obtain ⟨a, c, rfl, hcc, hrow, -⟩ := Ints_form hI.ints
    rw [hlen] at hcc hrow hc HI hLA
    have HR := hid hrow
    clear hI hO hrow hlen hm
    cases k with
    | zero =>
      have hT := hid (can_rep_val HL.out (val L) rfl hk hv.out (fun k hk e => by cases e))
      go_wp2
      go_quiet (fail)
      go_wp2
      go_end0
      exact MethP_mk (HI.out.drewN _) hT.out (HO.out.drewN _)
    | succ k =>
      obtain ⟨g1, o1, rfl, -, hc1⟩ := HR.out.2 (by simp; omega)
      have hlt : k < L.length := by omega
      have q1 := hc1 k (by simp; omega)
      rw [List.getElem_take] at q1
      clear hc1
      have a2 : (0 : Int) ≤ k := by omega
      have a5 : ((k : Int)).toNat = k := by omega
      have a3 : (k : Int) < (k : Int) + 1 := by omega
      have a4 : (k : Int) ≤ c := by omega
      have a6 : (0 : Int) < (k : Int) + 1 := by omega
      have ws : IntKind.i64.wrap (k : Int) = k := IntWalk.i64_in _ (by omega)
      have ws2 : IntKind.i64.wrap ((k : Int) + 1 - 1) = k := by rw [show (k : Int) + 1 - 1 = k by omega]; exact ws
      by_cases hz : L[k] = 0
      · have hn := hid ((trim_step hlt hz).trans hv.out)
        rw [hz] at q1
        clear hz
        go_wp2
        go_quiet (fail)
        go_wp2
        clear hc hf q1 HR
        have HI := hid (HI.out.drewN nq)
        have HO := hid (HO.out.drewN nq)
        generalize wr.drewN nq = wd at HI HO ⊢
        have hc := HI.out.cell
        have hf := HI.out.free
        go_still_tail 14, (by kernel_rfl)
        change wpList _ _ _ _ _ wd.drew
        have HI := hid (HI.out.drewN 1)
        have HO := hid (HO.out.drewN 1)
        change Hid (IsNat Q wd.drew _ _ _ _) at HI
        change Hid (Only _ _ wd.drew) at HO
        clear hc hf
        generalize wd.drew = w2 at HI HO ⊢
        have hc := HI.out.cell
        have hf := HI.out.free
        go_wp2
        go_roundw
        case rel =>
          have ht := Ints_take HI.out.ints (k := k) (by simp; omega)
          rw [List.take_take, Nat.min_eq_left (by omega)] at ht
          exact ⟨k, _, by omega, HI.out.setv ht (fun j hj => HI.out.own j (by rw [← hj]; exact ownBlock_any _ _ _ _ _)), HO.out.setCell HM.out _, hn⟩
        case measure =>
          have ht := Ints_take HI.out.ints (k := k) (by simp; omega)
          rw [List.take_take, Nat.min_eq_left (by omega)] at ht
          have h2 := HI.out.setv ht (fun j hj => HI.out.own j (by rw [← hj]; exact ownBlock_any _ _ _ _ _))
          rw [hLA.out, lenAt_is h2]
          simp; omega
      · have hz' : ∀ j (hj : j < L.length), k + 1 = j + 1 → L[j] ≠ 0 := by
          intro j hj e
          obtain rfl : k = j := by omega
          exact hz
        have hT := hid (can_rep_val HL.out (val L) rfl hk hv.out hz')
        clear hz'
        obtain ⟨x, hx⟩ : ∃ x, x = L[k] := ⟨_, rfl⟩
        rw [← hx] at q1 hz
        clear hx
        go_wp2
        go_quiet (fail)
        go_wp2
        go_end0
        exact MethP_mk (HI.out.drewN _) hT.out (HO.out.drewN _)
end Go.Proofs.Yteanocjkdehhgaa

/- The program's number that its methods change in place: the carry. -/
namespace Go.Proofs.Yteanocjkdehhgaa
open Go.RowKit
open Go.Lib (hid)
set_option linter.unusedVariables false
variable {Q : Rest}

/-- The number's value is V now, in at most n limbs. -/
def CarP (Q : Rest) (S : Nat → Prop) (N : Nat) (V : Int) (n : Nat) (w : World) (e : Ending) (w' : World) : Prop := e = .returned (.tuple #[]) ∧ (∃ v M, IsNat Q w' S N v M ∧ Lim M ∧ val M = V ∧ M.length ≤ n ∧ (M.length = n → pw (n - 1) ≤ V)) ∧ Only S w w'
theorem CarP_mk {S : Nat → Prop} {N n : Nat} {V : Int} {M : List Int} {w w' : World} {v : Value} (h : IsNat Q w' S N v M) (hL : Lim M) (hM : val M = V) (hn : M.length ≤ n) (hp : M.length = n → pw (n - 1) ≤ V) (ho : Only S w w') : CarP Q S N V n w (.returned (.tuple #[])) w' :=
  ⟨rfl, ⟨v, M, h, hL, hM, hn, hp⟩, ho⟩

set_option maxRecDepth 100000 in
set_option maxHeartbeats 3200000 in
theorem carry_any (S : Nat → Prop) (N : Nat) (v : Value) (L : List Int) (z c : Int) (h0 : 0 ≤ z) (hz : z.toNat ≤ L.length) (hl : L.length ≤ 1073741000) (hL : Lim L) (hc0 : -1000000000 < c) (hc1 : c < 1000000000)
    (hV : 0 ≤ val L + c * pw z.toNat) (w : World) (h : IsNat Q w S N v L) (hS : ∀ k, w.heap.size ≤ k → S k) :
    Calls Try.prog 169 #[.pointer (some ⟨N, 0, none⟩), .int .i64 z, .int .i64 c] w (CarP Q S N (val L + c * pw z.toNat) (L.length + 1) w) := by
  obtain ⟨V, hVe⟩ : ∃ V, V = val L + c * pw z.toNat := ⟨_, rfl⟩
  have HV := hid hVe
  rw [← hVe] at hV ⊢
  clear hVe
  have H := hid h
  have HS := hid hS
  have HL := hid hL
  have HV0 := hid hV
  clear h hS hL hV
  obtain ⟨n, hn⟩ : ∃ n, n = L.length := ⟨_, rfl⟩
  have HN := hid hn
  rw [← hn] at hz hl ⊢
  clear hn
  go_enter Try.func169, Try.ntmps169
  go_wp2
  go_loopw [1, 2] (fun x y wr => ∃ (i : Nat) (d : Int) (M : List Int) (u : Value), x = .int .i64 i ∧ y = .int .i64 d ∧ -1000000000 < d ∧ d < 1000000000 ∧ IsNat Q wr S N u M ∧ Only S w wr ∧ Hid (Lim M) ∧ Hid (val M + d * pw i = V) ∧ i ≤ M.length ∧ Hid (d ≠ 0 → M.length = n) ∧ M.length ≤ n + 1 ∧ Hid (M.length = n + 1 → pw n ≤ V)) (fun x y _ => if intOf y = 0 then 0 else n + 2 - (intOf x).toNat)
  case atStart => exact ⟨z.toNat, c, L, v, by rw [Int.toNat_of_nonneg h0], rfl, hc0, hc1, H.out, Only.refl _ _, HL, hid HV.out.symm, by have := HN.out; omega, hid fun _ => HN.out.symm, by have := HN.out; omega, hid (by have := HN.out; omega)⟩
  case round =>
    obtain ⟨i, d, M, u, rfl, rfl, hd0, hd1, hI, hO, hLM, hVM, hi, hdn, hMn, hMp⟩ := hrel
    have HI := hid hI
    have HO := hid hO
    clear hI hO
    by_cases hd : d = 0
    · subst hd
      have hE := hid (show val M = V by have := hVM.out; simpa using this)
      go_wp2
      go_end0
      exact CarP_mk HI.out hLM.out hE.out hMn hMp.out HO.out
    · have hlen : M.length = n := hdn.out hd
      have HLN := hid hlen
      clear hdn
      have a1 : (0 : Int) ≤ i := by omega
      have hS2 : ∀ j, w.heap.size ≤ j → S j := HS.out
      have KE := hid (fun (w1 : World) (hw : Only S w w1) (hh : IsNat Q w1 S N u M) => extend_int S N u M ((i : Int) + 1) (by omega) (by omega) (by omega) w1 hh (fun k hk => HS.out k (Nat.le_trans hw.size hk)))
      have hpos := hid (fun (h : M.length ≤ i) => carry_pos hLM.out h (by rw [hVM.out]; exact HV0.out) hd)
      have hdb : (d == 0) = false := by simpa using hd
      have hdb2 : (d != 0) = true := by simpa using hd
      clear hlen hS2
      go_wp2_with fail
      refine (KE.out _ HO.out HI.out).mono ?_
      rintro e w1 ⟨rfl, ⟨u1, h1⟩, o1⟩
      have hi1 : (((i : Int) + 1).toNat - M.length) = (i + 1) - M.length := by omega
      rw [hi1] at h1
      clear hi1
      obtain ⟨P, hP⟩ : ∃ P, P = M ++ List.replicate (i + 1 - M.length) 0 := ⟨_, rfl⟩
      have hPl : P.length = max M.length (i + 1) := by rw [hP, pad_len]
      have hPL : Lim P := by rw [hP]; exact Lim_pad hLM.out _
      have hPv : val P = val M := by rw [hP]; exact val_pad _ _
      have hP0 : ∀ (hi : i < P.length), M.length ≤ i → P[i] = 0 := by
        subst hP; intro hi hm; exact pad_at hm hi
      rw [← hP] at h1
      clear hP
      have hiP : i < P.length := by omega
      have HP0 := hid (hP0 hiP)
      have HPL := hid hPL
      have HPv := hid hPv
      have hPn : P.length ≤ n + 1 := by have := HLN.out; omega
      have HPl := hid hPl
      have hx := Lim_at hPL hiP
      obtain ⟨x, hxe⟩ : ∃ x, x = P[i] := ⟨_, rfl⟩
      rw [← hxe] at hx
      have HST := hid (set_step hiP (x := x + d) (y := d) (by rw [hxe]))
      have HX := hid hxe
      clear hP0 hPL hPv hPl
      have HI := hid h1
      have HO := hid (HO.out.trans o1)
      clear o1
      rcases Ints_cases h1.ints with ⟨-, h0⟩ | ⟨g, c', rfl, -, hg, hcc⟩
      · subst h0; simp at hiP
      have hc := h1.cell
      have hf := h1.free
      have q1 := Ints_cell h1.ints hiP
      rw [← hxe] at q1
      have f1 := Ints_free h1.ints i
      have a3 : (i : Int) < P.length := by omega
      have ws : IntKind.i64.wrap (x + d) = x + d := IntWalk.i64_in _ (by omega)
      clear h1 hxe
      have KS := hid (splitLimb_any (x + d) (by omega) (by omega))
      go_wp2
      go_region_with (first | (go_at_call 168; refine (KS.out _).mono ?_; rintro e w3 ⟨rfl, rfl⟩))
      all_goals
        go_wp2
        go_roundw
        case rel =>
          have hs := HI.out.store i ((x + d) % 1000000000)
          have h2 := HPl.out
          have h3 := HLN.out
          refine ⟨i + 1, (x + d) / 1000000000, P.set i ((x + d) % 1000000000), _, by go_num, rfl, by omega, by omega, hs.drewN 1, (HO.out.setCell (p := ⟨g, i, none⟩) (HI.out.own g rfl) _).drewN 1, hid (Lim_set HPL.out i (by omega) (by omega)), hid ?_, by simp; omega, hid ?_, by simp; omega, hid ?_⟩
          · rw [HST.out, HPv.out]; exact hVM.out
          · intro hne
            rw [List.length_set]
            rcases Nat.lt_or_ge i M.length with hlt | hge
            · omega
            · have := hpos.out hge
              have := HP0.out hge
              have := HX.out
              omega
          · intro hne
            rw [List.length_set] at hne
            have hge : M.length ≤ i := by omega
            have h7 := hpos.out hge
            have h8 := val_nonneg hLM.out
            have h9 := hVM.out
            have h10 := pw_le (m := n) (n := i) (by omega)
            have h11 := pw_pos i
            have h12 : 1 * pw i ≤ d * pw i := Int.mul_le_mul_of_nonneg_right (by omega) (by omega)
            omega
        case measure =>
          have h2 := HPl.out
          have h3 := HLN.out
          have h5 := HX.out
          have h4 : M.length ≤ i → (x + d) / 1000000000 = 0 := by
            intro hge
            have := hpos.out hge
            have := HP0.out hge
            omega
          simp [intOf, hd]
          split <;> omega
end Go.Proofs.Yteanocjkdehhgaa

/- The program's number that its methods change in place: a multiple is added. -/
namespace Go.Proofs.Yteanocjkdehhgaa
open Go.RowKit
open Go.Lib (hid)
set_option linter.unusedVariables false
variable {Q : Rest}

set_option maxRecDepth 100000 in
set_option maxHeartbeats 6400000 in
theorem addMultiple_any (S : Nat → Prop) (N : Nat) (v : Value) (L M : List Int) (am : Option Addr) (nm cm : Nat) (f z : Int) (h0 : 0 ≤ z) (hz : z ≤ 1000000) (hl : L.length ≤ 1000000) (hm : M.length ≤ 1000000) (hL : Lim L) (hM : Lim M)
    (hf0 : -1000000000 < f) (hf1 : f < 1000000000) (hV : 0 ≤ val L + f * val M * pw z.toNat) (w : World) (h : IsNat Q w S N v L) (hS : ∀ k, w.heap.size ≤ k → S k) (hr : RowI w am nm M) (ha : Apart S am) :
    Calls Try.prog 161 #[.pointer (some ⟨N, 0, none⟩), .slice am nm cm, .int .i64 f, .int .i64 z] w (MethP Q S N (rep (val L + f * val M * pw z.toNat).toNat) w) := by
  obtain ⟨s, rfl⟩ : ∃ s : Nat, z = s := ⟨z.toNat, by omega⟩
  rw [Int.toNat_natCast] at hV ⊢
  obtain ⟨V, hVe⟩ : ∃ V, V = val L + f * val M * pw s := ⟨_, rfl⟩
  have HV := hid hVe
  rw [← hVe] at hV ⊢
  clear hVe
  have HS := hid hS
  have HL := hid hL
  have HM := hid hM
  have HV0 := hid hV
  have HR := hid hr
  have HA := hid ha
  obtain rfl : nm = M.length := hr.1
  have KE := hid (extend_int S N v L ((s : Int) + M.length) (by omega) (by omega) (by omega) w h hS)
  clear hS hL hM hV hr ha h
  go_enter Try.func161, Try.ntmps161
  go_wp2_with fail
  refine KE.out.mono ?_
  rintro e w1 ⟨rfl, ⟨u1, h1⟩, o1⟩
  have hi1 : ((s : Int) + M.length).toNat - L.length = (s + M.length) - L.length := by omega
  rw [hi1] at h1
  clear hi1
  obtain ⟨P0, hP⟩ : ∃ P0, P0 = L ++ List.replicate (s + M.length - L.length) 0 := ⟨_, rfl⟩
  have hPl : P0.length = max L.length (s + M.length) := by rw [hP, pad_len]
  have hPL : Lim P0 := by rw [hP]; exact Lim_pad HL.out _
  have hPv : val P0 = val L := by rw [hP]; exact val_pad _ _
  rw [← hP] at h1
  clear hP
  have HI := hid h1
  have HO := hid o1
  have HPL := hid hPL
  have HPv := hid hPv
  obtain ⟨n, hn⟩ : ∃ n, n = P0.length := ⟨_, rfl⟩
  have hn1 : s + M.length ≤ n := by omega
  have hn2 : n ≤ 2000000 := by omega
  have HN := hid hn
  clear h1 o1 hPL hPv hPl hn
  go_wp2
  go_loopw [8, 19] (fun y x wr => ∃ (k : Nat) (d : Int) (P : List Int) (u : Value), x = .int .i64 k ∧ y = .int .i64 d ∧ -1000000000 < d ∧ d < 1000000000 ∧ k ≤ M.length ∧ IsNat Q wr S N u P ∧ Only S w wr ∧ Hid (Lim P) ∧ Hid (P.length = n) ∧ Hid (val P + d * pw (s + k) = val L + f * val (M.take k) * pw s)) (fun _ x _ => M.length - (intOf x).toNat)
  case atStart => exact ⟨0, 0, P0, u1, rfl, rfl, by decide, by decide, Nat.zero_le _, HI.out, HO.out, HPL, hid HN.out.symm, hid (by rw [HPv.out]; simp [val])⟩
  case round =>
    obtain ⟨k, d, P, u, rfl, rfl, hd0, hd1, hk, hI, hO, hPL, hPn, hPv⟩ := hrel
    clear HI HO HPL HPv HN
    have HI := hid hI
    have HO := hid hO
    clear hI hO
    by_cases hlt : k < M.length
    · have hskP : s + k < P.length := by have := hPn.out; omega
      obtain ⟨g2, o2, rfl, -, hc2⟩ := (RowI_only HR.out HO.out HA.out).2 (by omega)
      have q2 := hc2 k hlt
      clear hc2
      have hy := Lim_at HM.out hlt
      have hx := Lim_at hPL.out hskP
      obtain ⟨x, hxe⟩ : ∃ x, x = P[s + k] := ⟨_, rfl⟩
      obtain ⟨y, hye⟩ : ∃ y, y = M[k] := ⟨_, rfl⟩
      have HT := hid (set_step hskP (x := x + y * f + d) (y := y * f + d) (by rw [hxe]; omega))
      have HACC := hid (mul_acc hlt hPv.out)
      rw [← hxe] at hx
      rw [← hye] at hy q2 HACC
      clear hPv
      obtain ⟨b1, b2, b3, b4⟩ := mul_step hx hy ⟨hf0, hf1⟩ ⟨hd0, hd1⟩
      rcases Ints_cases HI.out.ints with ⟨-, h0⟩ | ⟨g, c', rfl, -, hg, hcc⟩
      · subst h0; simp at hskP
      have hc := HI.out.cell
      have hf := HI.out.free
      have q1 := Ints_cell HI.out.ints hskP
      rw [← hxe] at q1
      have f1 := Ints_free HI.out.ints (s + k)
      clear hxe hye
      have a0 : (0 : Int) ≤ k := by omega
      have a1 : (k : Int) < M.length := by omega
      have a2 : (0 : Int) ≤ (s : Int) + k := by omega
      have a3 : (s : Int) + k < P.length := by omega
      obtain ⟨p, hp⟩ : ∃ p, p = y * f := ⟨_, rfl⟩
      have hpm : y * f = p := hp.symm
      have wp : IntKind.i64.wrap (y * f) = p := by rw [hpm]; exact IntWalk.i64_in _ (by omega)
      rw [hpm] at b1 b2 b3 b4 HT HACC
      have ws : IntKind.i64.wrap ((s : Int) + k) = (s : Int) + k := IntWalk.i64_in _ (by omega)
      have wx : IntKind.i64.wrap (x + p) = x + p := IntWalk.i64_in _ (by omega)
      have wd : IntKind.i64.wrap (x + p + d) = x + p + d := IntWalk.i64_in _ (by omega)
      have KS := hid (splitLimb_any (x + p + d) (by omega) (by omega))
      have tn : ((s : Int) + k).toNat = s + k := by omega
      clear hp hpm
      go_wp2_with fail
      go_region_with (first | (go_at_call 168; refine (KS.out _).mono ?_; rintro e w3 ⟨rfl, rfl⟩))
      all_goals
        clear wp ws wx wd
        go_wp2
        go_roundw
        case rel =>
          have hs := HI.out.store (s + k) ((x + p + d) % 1000000000)
          refine ⟨k + 1, (x + p + d) / 1000000000, P.set (s + k) ((x + p + d) % 1000000000), _, by go_num, rfl, by omega, by omega, by omega, hs.drewN 1, (HO.out.setCell (p := ⟨g, s + k, none⟩) (HI.out.own g rfl) _).drewN 1, hid (Lim_set hPL.out _ (by omega) (by omega)), hid (by rw [List.length_set]; exact hPn.out), hid ?_⟩
          exact HT.out.trans HACC.out
        case measure => simp [intOf]; omega
    · obtain rfl : k = M.length := by omega
      have hE := hid (show val P + d * pw (s + M.length) = V by rw [HV.out, hPv.out, List.take_length])
      have h5 := hPn.out
      have tz : ((s : Int) + M.length).toNat = s + M.length := by omega
      have KC := hid (carry_any S N u P ((s : Int) + M.length) d (by omega) (by omega) (by omega) hPL.out hd0 hd1 (by rw [tz, hE.out]; exact HV0.out) wr HI.out (fun j hj => HS.out j (Nat.le_trans HO.out.size hj)))
      rw [tz, hE.out] at KC
      clear h5 tz
      go_wp2_with fail
      refine KC.out.mono ?_
      rintro e w2 ⟨rfl, ⟨u2, Q, h2, l2, v2, n2⟩, o2⟩
      have hl2 : Q.length ≤ 1073741824 := by have := hPn.out; omega
      have KT := hid (trim_any S N u2 Q hl2 l2 w2 h2)
      have HO := hid (HO.out.trans o2)
      rw [v2] at KT
      clear h2 l2 v2 n2 o2
      go_wp2_with fail
      refine KT.out.mono ?_
      rintro e w3 ⟨rfl, ⟨u3, h3⟩, o3⟩
      have HI := hid h3
      have HO := hid (HO.out.trans o3)
      clear h3 o3
      go_wp2
      go_end0
      exact MethP_mk HI.out rfl HO.out
end Go.Proofs.Yteanocjkdehhgaa
