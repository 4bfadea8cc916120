/- The program's number that its methods change in place: what lies in memory, and its smaller methods. -/
import Derived.Test.YtdffmeinofgdgaaObj
import Derived.Laws.AppendOwnNone
namespace Go.Proofs.Ytdffmeinofgdgaa
open Go.RowKit
open Go.Lib (hid)
set_option linter.unusedVariables false

/-- What a block that opens with the number's slice holds behind it, and the block's type. -/
structure Rest where
  tl : List Value
  ty : TypeId
  ne : ty ≠ 3
/-- The block, by its slice. -/
def Rest.obj (Q : Rest) (v : Value) : Go.Obj := .cells ⟨v :: Q.tl⟩ Q.ty (0, 0)
/-- The program's bare number. -/
def natQ : Rest := ⟨[], 86, by decide⟩
variable {Q : Rest}

/-- Block N is the number: its limbs are L, in the slice v; both lie in the blocks S. -/
structure IsNat (Q : Rest) (w : World) (S : Nat → Prop) (N : Nat) (v : Value) (L : List Int) : Prop where
  cell1 : w.heap[N]? = some (Q.obj v)
  mine : S N
  ints : Ints w 0 v L
  own : ∀ k, v.ownBlock = some k → S k
theorem IsNat.cell {w : World} {S : Nat → Prop} {N : Nat} {v : Value} {L : List Int} (h : IsNat Q w S N v L) : w.cell? ⟨N, 0, none⟩ = some v := by
  have := h.cell1
  simp [World.cell?, this, Rest.obj]
theorem IsNat.free {w : World} {S : Nat → Prop} {N : Nat} {v : Value} {L : List Int} (h : IsNat Q w S N v L) : w.frozen? ⟨N, 0, none⟩ = false := by
  have := h.cell1
  simp [World.frozen?, this, Rest.obj]
theorem IsNat.lt {w : World} {S : Nat → Prop} {N : Nat} {v : Value} {L : List Int} (h : IsNat Q w S N v L) : N < w.heap.size := (Array.getElem?_eq_some_iff.1 h.cell1).1
theorem Ints_ne {w : World} {B N : Nat} {v u : Value} {L : List Int} (h : Ints w B v L) (hN : w.heap[N]? = some (Q.obj u)) : v.ownBlock ≠ some N := by
  rcases h.2 with ⟨rfl, _⟩ | ⟨b, cap, cur, rfl, h2, h3, _⟩
  · simp [Value.ownBlock]
  · intro he
    have : b = N := by simpa [Value.ownBlock] using he
    subst this
    rw [h3] at hN
    simp [Rest.obj] at hN
    exact Q.ne hN.2.symm
theorem IsNat.ne {w : World} {S : Nat → Prop} {N : Nat} {v : Value} {L : List Int} (h : IsNat Q w S N v L) : v.ownBlock ≠ some N := Ints_ne h.ints h.cell1
theorem IsNat.drewN {w : World} {S : Nat → Prop} {N : Nat} {v : Value} {L : List Int} (h : IsNat Q w S N v L) (d : Nat) : IsNat Q (w.drewN d) S N v L := ⟨h.cell1, h.mine, h.ints, h.own⟩
/-- Another world in which its blocks are as they were. -/
theorem IsNat.block {w w' : World} {S : Nat → Prop} {N : Nat} {v : Value} {L : List Int} (h : IsNat Q w S N v L) (hN : w'.heap[N]? = w.heap[N]?) (hv : ∀ k, v.ownBlock = some k → w'.heap[k]? = w.heap[k]?) : IsNat Q w' S N v L :=
  ⟨hN.trans h.cell1, h.mine, Ints_block h.ints hv, h.own⟩
theorem IsNat.old {w w' : World} {S : Nat → Prop} {N : Nat} {v : Value} {L : List Int} (h : IsNat Q w S N v L) (hb : Below w.heap.size w w') : IsNat Q w' S N v L :=
  h.block (hb.block _ h.lt) fun k hk => hb.block k (Ints_lt h.ints k hk).2
theorem IsNat.only {w w' : World} {S T : Nat → Prop} {N : Nat} {v : Value} {L : List Int} (h : IsNat Q w S N v L) (hb : Only T w w') (hN : ¬ T N) (hv : ∀ k, v.ownBlock = some k → ¬ T k) : IsNat Q w' S N v L :=
  h.block (hb.block _ hN) fun k hk => hb.block k (hv k hk)
theorem IsNat.sub {w : World} {S T : Nat → Prop} {N : Nat} {v : Value} {L : List Int} (h : IsNat Q w S N v L) (hN : T N) (hv : ∀ k, v.ownBlock = some k → T k) : IsNat Q w T N v L := ⟨h.cell1, hN, h.ints, hv⟩
/-- The slice is set anew. -/
theorem IsNat.setv {w : World} {S : Nat → Prop} {N : Nat} {v v' : Value} {L L' : List Int} (h : IsNat Q w S N v L) (hi : Ints w 0 v' L') (hs : ∀ k, v'.ownBlock = some k → S k) : IsNat Q (w.setCell ⟨N, 0, none⟩ v') S N v' L' := by
  refine ⟨?_, h.mine, Ints_block hi fun k hk => Below.heap_setCell _ _ _ _ ?_, hs⟩
  · have := h.cell1
    simp [World.setCell, Array.getElem?_modify, this, Rest.obj]
  · rintro rfl
    exact Ints_ne hi h.cell1 hk
/-- A limb is set anew. -/
theorem IsNat.store {w : World} {S : Nat → Prop} {N g n c : Nat} {L : List Int} (h : IsNat Q w S N (.slice (some ⟨g, 0, none⟩) n c) L) (i : Nat) (x : Int) :
    IsNat Q (w.setCell ⟨g, i, none⟩ (.int .i64 x)) S N (.slice (some ⟨g, 0, none⟩) n c) (L.set i x) := by
  refine ⟨(Below.heap_setCell _ _ _ _ ?_).trans h.cell1, h.mine, Ints_store h.ints x, h.own⟩
  rintro rfl
  exact h.ne rfl

theorem rem_neg {v : Int} (h : v < 0) : v.tmod 1000000000 = -((-v) % 1000000000) ∧ v.tdiv 1000000000 = -((-v) / 1000000000) := by
  obtain ⟨u, rfl⟩ : ∃ u : Int, v = -u := ⟨-v, by omega⟩
  rw [Int.neg_tmod, Int.neg_tdiv, Int.tmod_eq_emod_of_nonneg (by omega), Int.tdiv_eq_ediv_of_nonneg (by omega), Int.neg_neg]
  exact ⟨rfl, rfl⟩

def Split (v : Int) (w : World) (e : Ending) (w' : World) : Prop := e = .returned (.tuple #[.int .i64 (v % 1000000000), .int .i64 (v / 1000000000)]) ∧ w = w'
theorem Split_mk {v x y : Int} {w : World} (h : x = v % 1000000000) (h' : y = v / 1000000000) : Split v w (.returned (.tuple #[.int .i64 x, .int .i64 y])) w := by subst h; subst h'; exact ⟨rfl, rfl⟩

set_option maxRecDepth 100000 in
set_option maxHeartbeats 800000 in
theorem splitLimb_any (v : Int) (h0 : -2000000000000000000 ≤ v) (h1 : v ≤ 2000000000000000000) (w : World) : Calls Try.prog 106 #[.int .i64 v] w (Split v w) := by
  by_cases hv : 0 ≤ v
  · have hr : ¬ v % 1000000000 < 0 := by omega
    go_enter Try.func106, Try.ntmps106
    go_wp2
    go_ret2
    exact Split_mk rfl rfl
  · obtain ⟨e1, e2⟩ := rem_neg (show v < 0 by omega)
    obtain ⟨t, ht⟩ : ∃ t, t = -((-v) % 1000000000) := ⟨_, rfl⟩
    obtain ⟨q, hq⟩ : ∃ q, q = -((-v) / 1000000000) := ⟨_, rfl⟩
    have b1 : -1000000000 < t := by omega
    have b2 : t ≤ 0 := by omega
    have b3 : -2000000000 ≤ q := by omega
    have b4 : q ≤ 0 := by omega
    have E1 := hid (show (t = 0 → t = v % 1000000000 ∧ q = v / 1000000000) ∧ (t < 0 → t + 1000000000 = v % 1000000000 ∧ q - 1 = v / 1000000000) by omega)
    rw [← ht] at e1
    rw [← hq] at e2
    clear ht hq
    by_cases hz : t < 0
    · have E := hid (E1.out.2 hz)
      go_enter Try.func106, Try.ntmps106
      go_wp2
      go_ret2
      exact Split_mk E.out.1 E.out.2
    · have E := hid (E1.out.1 (by omega))
      go_enter Try.func106, Try.ntmps106
      go_wp2
      go_ret2
      exact Split_mk E.out.1 E.out.2

/-- A new number with the limbs L. -/
def NewP (L : List Int) (w : World) (e : Ending) (w' : World) : Prop := ∃ N v, e = .returned (.pointer (some ⟨N, 0, none⟩)) ∧ IsNat natQ w' (fun k => w.heap.size ≤ k) N v L ∧ Below w.heap.size w w'
theorem IsNat_new {w w1 : World} {B : Nat} {v : Value} {L : List Int} (h : Ints w1 B v L) (hb : Below w.heap.size w w1) (hB : B = w.heap.size) :
    IsNat natQ (w1.alloc (.cells #[v] 86)) (fun k => w.heap.size ≤ k) w1.heap.size v L ∧ Below w.heap.size w (w1.alloc (.cells #[v] 86)) :=
  ⟨⟨heap_alloc_new w1 _, hb.size, Ints_base (Ints_below h ((Below.refl _ _).alloc (Nat.le_refl _) _) fun k hk => (Ints_lt h k hk).2) (Nat.zero_le _), fun k hk => by have := (Ints_lt h k hk).1; omega⟩,
    hb.alloc hb.size _⟩

set_option maxRecDepth 100000 in
set_option maxHeartbeats 800000 in
theorem newNat_own (B : Nat) (v : Value) (L : List Int) (hL : L.length ≤ 1073741824) (w : World) (h : Ints w B v L) :
    Calls Try.prog 99 #[v] w (NewP L w) := by
  obtain ⟨i3, hi, hz0, hz1, hz2⟩ := info_parts Try.info3
  rcases Ints_cases h with ⟨rfl, rfl⟩ | ⟨g, c, rfl, -, hg, hc⟩
  · go_enter Try.func99, Try.ntmps99
    go_wp2_with (at_builtin; refine wpList_append_own_none rfl _ _ 35 rfl 0 3 i3 1 Try.underlying35 hi _ 0 [] rfl (World.ownsRow_nil w 0 3 1) rfl ?_)
    refine ⟨rfl, _, results_tmp (t := 2) rfl _ _ _, ?_⟩
    exact ⟨_, _, rfl, IsNat_new (Ints_nil w _) (Below.refl _ _) rfl⟩
  · have HC := hid (fun j (u : Value) (hu : (L.map (Value.int .i64))[j]? = some u) => show w.cell? ((⟨g, 0, none⟩ : Addr).add j) = some u by
      rw [Go.WideShapes.add_plain, Nat.zero_add]
      rw [List.getElem?_map] at hu
      obtain ⟨x, hx, rfl⟩ := Option.map_eq_some_iff.1 hu
      obtain ⟨hj, rfl⟩ := List.getElem?_eq_some_iff.1 hx
      exact Ints_cell h hj)
    clear h
    go_enter Try.func99, Try.ntmps99
    go_wp2_with (at_builtin; refine wpList_append_own w rfl _ _ 35 rfl w.heap.size 3 i3 (.int .i64 0) 1 8 Try.underlying35 hi hz0 hz1 hz2 rfl (by decide) _ 0 [] rfl (World.ownsRow_nil w _ 3 1) ⟨g, 0, none⟩ L.length c (L.map (Value.int .i64)) rfl (by simp) ?c1 ?c2 ?c3 ?c4 ?c5 ?_)
    case c1 => exact HC.out
    case c2 => intro u hu; obtain ⟨x, _, rfl⟩ := List.mem_map.1 hu; rfl
    case c3 => unfold maxLen; omega
    case c4 => omega
    case c5 => exact Nat.le_refl _
    intro v' w1 hown' hgrow _
    have hI : Ints w1 w.heap.size v' L := by
      unfold Ints
      simpa using hown'
    have hB : Below w.heap.size w w1 := (Below.refl _ _).grown hgrow (Nat.le_refl _) (fun k hk => by simp [Value.ownBlock] at hk)
    have R := hid (IsNat_new hI hB rfl)
    obtain ⟨a', c', rfl, -, -, -⟩ := Ints_form hI
    clear hown' hgrow hI hB
    go_wp2
    refine ⟨rfl, _, results_tmp (t := 2) rfl _ _ _, ?_⟩
    exact ⟨_, _, rfl, R.out⟩

theorem isSmall_any (S : Nat → Prop) (N : Nat) (v : Value) (L : List Int) (w : World) (h : IsNat Q w S N v L) :
    Calls Try.prog 100 #[.pointer (some ⟨N, 0, none⟩)] w fun e w' => e = .returned (.bool (decide (L.length ≤ 2))) ∧ w = w' := by
  have hc := h.cell
  have hl := Ints_len h.ints
  unfold maxLen at hl
  obtain ⟨a, c, rfl, -, -, -⟩ := Ints_form h.ints
  clear h
  by_cases h2 : L.length ≤ 2
  · have h2' : (L.length : Int) ≤ 2 := by omega
    have hd := hid (decide_eq_true h2)
    go_enter Try.func100, Try.ntmps100
    go_wp2
    go_ret
    exact ⟨ret_bool (by first | exact hd.out.symm | rfl), rfl⟩
  · have h2' : ¬ (L.length : Int) ≤ 2 := by omega
    have hd := hid (decide_eq_false h2)
    go_enter Try.func100, Try.ntmps100
    go_wp2
    go_ret
    exact ⟨ret_bool (by first | exact hd.out.symm | rfl), rfl⟩

def ResP (L : List Int) (w : World) (v : Value) (e : Ending) (w' : World) : Prop := (∃ u M, e = .returned u ∧ (u = v ∧ M = L ∧ L.length ≤ 60 ∨ u = .slice none 0 0 ∧ M = [] ∧ 60 < L.length)) ∧ w = w'
set_option maxRecDepth 100000 in
set_option maxHeartbeats 800000 in
theorem result_any (S : Nat → Prop) (N : Nat) (v : Value) (L : List Int) (w : World) (h : IsNat Q w S N v L) :
    Calls Try.prog 101 #[.pointer (some ⟨N, 0, none⟩)] w (ResP L w v) := by
  have hc := h.cell
  have hl := Ints_len h.ints
  unfold maxLen at hl
  obtain ⟨a, c, rfl, -, -, -⟩ := Ints_form h.ints
  clear h
  by_cases h6 : 60 < L.length
  · have h6' : (60 : Int) < L.length := by omega
    go_enter Try.func101, Try.ntmps101
    go_wp2
    go_ret
    exact ⟨⟨_, _, rfl, .inr ⟨rfl, rfl, h6⟩⟩, rfl⟩
  · have h6' : ¬ (60 : Int) < L.length := by omega
    go_enter Try.func101, Try.ntmps101
    go_wp2
    go_ret
    exact ⟨⟨_, _, rfl, .inl ⟨rfl, rfl, by omega⟩⟩, rfl⟩

/-- A method has changed the number: its limbs are M now. -/
def MethP (Q : Rest) (S : Nat → Prop) (N : Nat) (M : List Int) (w : World) (e : Ending) (w' : World) : Prop := e = .returned (.tuple #[]) ∧ (∃ v, IsNat Q w' S N v M) ∧ Only S w w'
theorem MethP_mk {S : Nat → Prop} {N : Nat} {M M' : List Int} {w w' : World} {v : Value} (h : IsNat Q w' S N v M') (hM : M' = M) (ho : Only S w w') : MethP Q S N M w (.returned (.tuple #[])) w' := by
  subst hM; exact ⟨rfl, ⟨v, h⟩, ho⟩
def lenAt (w : World) (N : Nat) : Nat := match w.cell? ⟨N, 0, none⟩ with | some (.slice _ n _) => n | _ => 0
theorem lenAt_is {w : World} {S : Nat → Prop} {N : Nat} {v : Value} {L : List Int} (h : IsNat Q w S N v L) : lenAt w N = L.length := by
  have hc := h.cell
  obtain ⟨a, c, rfl, -, -, -⟩ := Ints_form h.ints
  simp [lenAt, hc]
theorem IsNat_grown {w w1 : World} {S : Nat → Prop} {N : Nat} {v v' : Value} {L : List Int} {x : Int} {o : Go.Obj} (h : IsNat Q w S N v L) (hS : ∀ k, w.heap.size ≤ k → S k)
    (h' : w1.ownsRow 0 3 1 v' (L.length + 1) (L.map (Value.int .i64) ++ [.int .i64 x])) (hg : (w.alloc o).grownBy w1 v.ownBlock) (ho : v'.ownBlock = v.ownBlock ∨ v'.ownBlock = some (w.heap.size + 1)) :
    IsNat Q (w1.setCell ⟨N, 0, none⟩ v') S N v' (L ++ [x]) ∧ w1.cell? ⟨N, 0, none⟩ = some v ∧ w1.frozen? ⟨N, 0, none⟩ = false ∧ Only S w (w1.setCell ⟨N, 0, none⟩ v') := by
  have hN : w1.heap[N]? = w.heap[N]? := (hg.block N (by have := h.lt; simp; omega) (fun e => h.ne e.symm)).trans (Below.heap_alloc w o N h.lt)
  have hc : w1.heap[N]? = some (Q.obj v) := hN.trans h.cell1
  have hi : Ints w1 0 v' (L ++ [x]) := Ints_snoc h'
  have hs : ∀ k, v'.ownBlock = some k → S k := by
    intro k hk
    rcases ho with e | e
    · exact h.own k (by rw [← e]; exact hk)
    · rw [e] at hk
      have : w.heap.size + 1 = k := by simpa using hk
      exact hS k (by omega)
  have ho : Only S w w1 := ((Only.refl S w).alloc (hS _ (Nat.le_refl _)) o).grown hg (fun k hk => hS k (by simp at hk; omega)) (fun k hk => h.own k hk)
  refine ⟨⟨?_, h.mine, Ints_block hi fun k hk => Below.heap_setCell _ _ _ _ ?_, hs⟩, ?_, ?_, ho.setCell h.mine _⟩
  · simp [World.setCell, Array.getElem?_modify, hc, Rest.obj]
  · rintro rfl
    exact Ints_ne hi hc hk
  · simp [World.cell?, hc, Rest.obj]
  · simp [World.frozen?, hc, Rest.obj]

set_option maxRecDepth 100000 in
set_option maxHeartbeats 1600000 in
theorem extend_any (S : Nat → Prop) (N : Nat) (v : Value) (L : List Int) (n : Nat) (hn : n ≤ 1073741824) (hl : L.length ≤ 1073741824) (w : World) (h : IsNat Q w S N v L) (hS : ∀ k, w.heap.size ≤ k → S k) :
    Calls Try.prog 105 #[.pointer (some ⟨N, 0, none⟩), .int .i64 n] w (MethP Q S N (L ++ List.replicate (n - L.length) 0) w) := by
  obtain ⟨i3, hi, hz0, hz1, hz2⟩ := info_parts Try.info3
  have H := hid h
  have HS := hid hS
  clear h hS
  go_enter Try.func105, Try.ntmps105
  go_wp2
  go_loopw [] (fun wr => ∃ (k : Nat) (u : Value), k ≤ n - L.length ∧ IsNat Q wr S N u (L ++ List.replicate k 0) ∧ Only S w wr) (fun wr => n - lenAt wr N)
  case atStart => exact ⟨0, v, Nat.zero_le _, by simpa using H.out, Only.refl _ _⟩
  case round =>
    obtain ⟨k, u, hk, hI, hO⟩ := hrel
    obtain ⟨M, hM⟩ : ∃ M, M = L ++ List.replicate k 0 := ⟨_, rfl⟩
    have hlen : M.length = L.length + k := by rw [hM]; simp
    rw [← hM] at hI
    have HM := hid hM
    clear hM
    have hLA := hid (lenAt_is hI)
    have hc := hI.cell
    have hf := hI.free
    have hS2 : ∀ j, wr.heap.size ≤ j → S j := fun j hj => HS.out j (Nat.le_trans hO.size hj)
    obtain ⟨a, c, rfl, -, -, -⟩ := Ints_form hI.ints
    by_cases hlt : M.length < n
    · have hlt' : (M.length : Int) < n := by omega
      have HLN := hid hlen
      clear hlen
      have hmx : M.length ≤ 1073741824 := by omega
      go_wp2_with (at_builtin; refine wpList_append_own_at _ rfl _ _ 35 rfl 0 3 i3 (.int .i64 0) 1 8 Try.underlying35 hi hz0 hz1 hz2 rfl (by decide) _ _ _ rfl (World.ownsRow.alloc (show wr.ownsRow 0 3 1 (.slice a M.length c) _ _ from hI.ints) _) ⟨wr.heap.size, 0, none⟩ 1 1 [.int .i64 0] rfl rfl ?c1 ?c2 ?c3 ?c4 ?c5 ?_)
      case c1 => exact cell_one_new _ _ _
      case c2 => intro u hu; simp at hu; subst hu; rfl
      case c3 => unfold maxLen; omega
      case c4 => omega
      case c5 => exact Nat.zero_le _
      intro v' w1 hown' hgrow _ hat
      obtain ⟨R1, R2, R3, R4⟩ := IsNat_grown hI hS2 hown' hgrow hat
      have R1 := hid R1
      have R4 := hid R4
      clear hown' hgrow hat hI hS2 hc hf
      obtain ⟨a', c', rfl, -, -, -⟩ := Ints_form R1.out.ints
      have e : (M ++ [0]).length = M.length + 1 := by simp
      rw [e] at R1 R4
      clear e
      go_wp2
      go_roundw
      case rel =>
        have hk2 : k + 1 ≤ n - L.length := by have := HLN.out; omega
        have e : M ++ [0] = L ++ List.replicate (k + 1) 0 := by rw [HM.out, List.append_assoc, List.replicate_succ']
        refine ⟨k + 1, .slice a' (M.length + 1) c', hk2, ?_, hO.trans R4.out⟩
        rw [← e]
        exact R1.out
      case measure =>
        rw [hLA.out, lenAt_is R1.out]
        simp; omega
    · have hlt' : ¬ (M.length : Int) < n := by omega
      have HLN := hid hlen
      clear hlen
      go_wp2
      go_end0
      refine MethP_mk hI ?_ hO
      rw [HM.out]
      congr 2
      have := HLN.out
      omega
end Go.Proofs.Ytdffmeinofgdgaa
