/- Merged: Ki Kk. -/
import Derived.Test.YteanocjkdehhgaaKg
import Derived.Deep.RegionHeld3
import Derived.Test.YteanocjkdehhgaaRlz
/- The names of the columns: the program and the reference. -/
namespace Go.Proofs.Yteanocjkdehhgaa
open Go.RowKit
open Go.Lib (hid)
set_option linter.unusedVariables false

/-- A slice of strings of a call's own is returned. -/
def StrR (L : List ByteArray) (w : World) (e : Ending) (w' : World) : Prop := ∃ a c, e = .returned (.slice a L.length c) ∧ Strs w' 9 w.heap.size (.slice a L.length c) L ∧ Below w.heap.size w w'
theorem Strs_nil' (w : World) (B : Nat) : Strs w 9 B (.slice none 0 0) [] := World.ownsRow_nil _ _ _ _
theorem Strs_lit0 {w : World} {lo g : Nat} (hl : lo ≤ w.heap.size) (hg : w.heap.size = g) : Strs (w.alloc (.cells #[] 9)) 9 lo (.slice (some ⟨g, 0, none⟩) 0 0) [] := by
  subst hg
  exact ⟨rfl, .inr ⟨w.heap.size, 0, #[], rfl, hl, heap_alloc_new w _, Nat.le_refl _, Nat.zero_le _, rfl, rfl⟩⟩
def nmsC (C : List Cq) : List ByteArray := C.map Cq.n
theorem nmsC_len (C : List Cq) : (nmsC C).length = C.length := by simp [nmsC]
theorem nmsC_take {C : List Cq} {k : Nat} (h : k < C.length) : nmsC (C.take (k + 1)) = nmsC (C.take k) ++ [C[k].n] := by rw [List.take_succ_eq_append_getElem h]; simp only [nmsC, List.map_append, List.map_cons, List.map_nil]
set_option maxRecDepth 100000 in
set_option maxHeartbeats 6400000 in
theorem impl_ColNames {x y z : Value} {C : List Cq} {K : List Tq} {R : List Wq} (hC : C.length ≤ 1048576) (w : World) (h : MdW w x y z C K R) :
    Calls Try.prog 18 #[.agg #[x, y, z]] w (StrR (nmsC C) w) := by
  obtain ⟨a1, c1, b1, d1, e1, f1, rfl, rfl, rfl⟩ := h.form
  have B := hid (below_new' (w := w) (o := .cells #[.slice a1 C.length c1, .slice b1 K.length d1, .slice e1 R.length f1] 51))
  have L1 := hid (LocA.new (w := w) (T := 51) (cs := #[.slice a1 C.length c1, .slice b1 K.length d1, .slice e1 R.length f1]))
  have H := hid h
  clear h
  obtain ⟨i9, hi, hz0, hz1, hz2⟩ := info_parts infoStr
  have HI := hid hi
  have HZ0 := hid hz0
  have HZ1 := hid hz1
  have HZ2 := hid hz2
  clear hi hz0 hz1 hz2
  have HW := hid (show (w.alloc (.cells #[.slice a1 C.length c1, .slice b1 K.length d1, .slice e1 R.length f1] 51)).heap.size = w.heap.size + 1 by simp)
  go_enter Try.func18, Try.ntmps18
  go_wp2
  generalize w.alloc (.cells #[.slice a1 C.length c1, .slice b1 K.length d1, .slice e1 R.length f1] 51) = W at B L1 HW ⊢
  go_loopw [3, 9] (fun v i wr => ∃ (k : Nat) (a' : Option Addr) (c' : Nat), k ≤ C.length ∧ i = .int .i64 k ∧ v = .slice a' k c' ∧ Hid (Strs wr 9 w.heap.size (.slice a' k c') (nmsC (C.take k))) ∧ Below w.heap.size w wr) (fun _ i _ => C.length - (intOf i).toNat)
  case atStart => exact ⟨0, none, 0, Nat.zero_le _, rfl, rfl, hid (Strs_nil' _ _), B.out⟩
  case round =>
    obtain ⟨k, a', c', hk, rfl, rfl, hS, hbel⟩ := hrel
    by_cases hlt : k < C.length
    · obtain ⟨g, o, v1, u1, x1, y1, rfl, hg, q0, q1, q2, q3, q4, q5, q6, q7, R1⟩ := (H.out.old hbel).c.at hlt
      have HT := hid (nmsC_take hlt)
      generalize C[k] = f at q0 q1 q2 q3 q4 q5 q6 q7 R1 HT
      obtain ⟨n, s, A, D, z, F, G, b⟩ := f
      simp only at q0 q1 q2 q3 q4 q5 q6 q7 R1 HT
      obtain ⟨a3, c3, b3, d3, a4, c4, b4, d4, rfl, rfl, rfl, rfl⟩ := R1.form
      clear R1
      have hz1 := hbel.size
      have hsn := hid (show (nmsC (C.take k)).length = k by rw [nmsC_len, List.length_take]; omega)
      have S1 := hid (Strs_old hS.out (below_new' (o := .cells #[.string n, .bool s, .slice a3 A.length c3, .slice b3 D.length d3, .bool z, .slice a4 F.length c4, .slice b4 G.length d4, .bool b] 35)))
      have HB := hid (hbel.alloc hz1 (.cells #[.string n, .bool s, .slice a3 A.length c3, .slice b3 D.length d3, .bool z, .slice a4 F.length c4, .slice b4 G.length d4, .bool b] 35))
      have HZ := hid (show (wr.alloc (.cells #[.string n, .bool s, .slice a3 A.length c3, .slice b3 D.length d3, .bool z, .slice a4 F.length c4, .slice b4 G.length d4, .bool b] 35)).heap.size = wr.heap.size + 1 by simp)
      have a1' : (0 : Int) ≤ k := by omega
      have a2' : (k : Int) < C.length := by omega
      obtain ⟨Lk, hLk⟩ : ∃ L, L = nmsC (C.take k) := ⟨_, rfl⟩
      rw [← hLk] at S1 HT hsn
      clear hLk hbel
      go_wp2_with (at_builtin; refine wpList_append_own _ rfl _ _ 45 rfl w.heap.size 9 i9 (.string ByteArray.empty) 1 16 Try.underlying45 HI.out HZ0.out HZ1.out HZ2.out rfl (by decide) _ _ _ rfl (World.ownsRow.alloc (show (wr.alloc (.cells #[.string n, .bool s, .slice a3 A.length c3, .slice b3 D.length d3, .bool z, .slice a4 F.length c4, .slice b4 G.length d4, .bool b] 35)).ownsRow w.heap.size 9 1 (.slice a' k c') Lk.length (Lk.map Value.string) from S1.out) _) ⟨wr.heap.size + 1, 0, none⟩ 1 1 [.string n] rfl rfl ?c1 ?c2 ?c3 ?c4 ?c5 ?_)
      case c1 => have := cell_one_new (wr.alloc (.cells #[.string n, .bool s, .slice a3 A.length c3, .slice b3 D.length d3, .bool z, .slice a4 F.length c4, .slice b4 G.length d4, .bool b] 35)) (.string n) 9; rw [HZ.out] at this; exact this
      case c2 => intro u hu; simp at hu; subst hu; rfl
      case c3 => rw [hsn.out]; unfold maxLen; omega
      case c4 => rw [hsn.out]; omega
      case c5 => have := HB.out.size; simp at this ⊢; omega
      intro v' w3 hown' hgrow _
      have R3 := Strs_app (x := n) S1.out HB.out HB.out.size hown' hgrow
      have HB3 := hid R3.2
      have S3 := hid R3.1
      rw [← HT.out] at S3
      obtain ⟨a6, n6, c6, rfl⟩ : ∃ a n c, v' = .slice a n c := by
        rcases hown'.2 with ⟨h1, -⟩ | ⟨g, cap, cur, h1, -⟩
        · exact ⟨_, _, _, h1⟩
        · exact ⟨_, _, _, h1⟩
      have hn6 := (Strs_sh S3.out).1
      have hn7 : n6 = k + 1 := by rw [hn6, nmsC_len, List.length_take]; omega
      subst hn7
      clear R3 hown' hgrow hn6
      go_wp2
      go_roundw
      case rel => exact ⟨k + 1, a6, c6, by omega, by go_num, rfl, S3, HB3.out⟩
      case measure => simp [intOf]; omega
    · obtain rfl : k = C.length := by omega
      have HB := hid hbel
      have S1 := hS.out
      rw [List.take_of_length_le (Nat.le_refl _)] at S1
      have S2 := hid S1
      clear hbel S1
      go_wp2
      go_ret
      rw [← nmsC_len]
      exact ⟨_, _, rfl, by rw [nmsC_len]; exact S2.out, HB.out⟩
set_option maxRecDepth 100000 in
set_option maxHeartbeats 6400000 in
theorem spec_ColNames {x y z : Value} {C : List Cq} {K : List Tq} {R : List Wq} (hC : C.length ≤ 1048576) (w : World) (h : MdW w x y z C K R) :
    Calls Try.prog 16 #[.agg #[x, y, z]] w (StrR (nmsC C) w) := by
  obtain ⟨a1, c1, b1, d1, e1, f1, rfl, rfl, rfl⟩ := h.form
  have B := hid (below_new' (w := w) (o := .cells #[.slice a1 C.length c1, .slice b1 K.length d1, .slice e1 R.length f1] 51))
  have L1 := hid (LocA.new (w := w) (T := 51) (cs := #[.slice a1 C.length c1, .slice b1 K.length d1, .slice e1 R.length f1]))
  have H := hid h
  clear h
  obtain ⟨i9, hi, hz0, hz1, hz2⟩ := info_parts infoStr
  have HI := hid hi
  have HZ0 := hid hz0
  have HZ1 := hid hz1
  have HZ2 := hid hz2
  clear hi hz0 hz1 hz2
  have HW := hid (show (w.alloc (.cells #[.slice a1 C.length c1, .slice b1 K.length d1, .slice e1 R.length f1] 51)).heap.size = w.heap.size + 1 by simp)
  go_enter Try.func16, Try.ntmps16
  go_wp2
  generalize w.alloc (.cells #[.slice a1 C.length c1, .slice b1 K.length d1, .slice e1 R.length f1] 51) = W at B L1 HW ⊢
  go_loopw [3, 10] (fun v i wr => ∃ (k : Nat) (a' : Option Addr) (c' : Nat), k ≤ C.length ∧ i = .int .i64 k ∧ v = .slice a' k c' ∧ Hid (Strs wr 9 w.heap.size (.slice a' k c') (nmsC (C.take k))) ∧ Below w.heap.size w wr) (fun _ i _ => C.length - (intOf i).toNat)
  case atStart => exact ⟨0, _, 0, Nat.zero_le _, rfl, rfl, hid (Strs_lit0 B.out.size HW.out), B.out.alloc B.out.size _⟩
  case round =>
    obtain ⟨k, a', c', hk, rfl, rfl, hS, hbel⟩ := hrel
    by_cases hlt : k < C.length
    · obtain ⟨g, o, v1, u1, x1, y1, rfl, hg, q0, q1, q2, q3, q4, q5, q6, q7, R1⟩ := (H.out.old hbel).c.at hlt
      have HT := hid (nmsC_take hlt)
      generalize C[k] = f at q0 q1 q2 q3 q4 q5 q6 q7 R1 HT
      obtain ⟨n, s, A, D, z, F, G, b⟩ := f
      simp only at q0 q1 q2 q3 q4 q5 q6 q7 R1 HT
      obtain ⟨a3, c3, b3, d3, a4, c4, b4, d4, rfl, rfl, rfl, rfl⟩ := R1.form
      clear R1
      have hz1 := hbel.size
      have hsn := hid (show (nmsC (C.take k)).length = k by rw [nmsC_len, List.length_take]; omega)
      have S1 := hid (Strs_old hS.out (below_new' (o := .cells #[.string n, .bool s, .slice a3 A.length c3, .slice b3 D.length d3, .bool z, .slice a4 F.length c4, .slice b4 G.length d4, .bool b] 35)))
      have HB := hid (hbel.alloc hz1 (.cells #[.string n, .bool s, .slice a3 A.length c3, .slice b3 D.length d3, .bool z, .slice a4 F.length c4, .slice b4 G.length d4, .bool b] 35))
      have HZ := hid (show (wr.alloc (.cells #[.string n, .bool s, .slice a3 A.length c3, .slice b3 D.length d3, .bool z, .slice a4 F.length c4, .slice b4 G.length d4, .bool b] 35)).heap.size = wr.heap.size + 1 by simp)
      have a1' : (0 : Int) ≤ k := by omega
      have a2' : (k : Int) < C.length := by omega
      obtain ⟨Lk, hLk⟩ : ∃ L, L = nmsC (C.take k) := ⟨_, rfl⟩
      rw [← hLk] at S1 HT hsn
      clear hLk hbel
      go_wp2_with (at_builtin; refine wpList_append_own _ rfl _ _ 45 rfl w.heap.size 9 i9 (.string ByteArray.empty) 1 16 Try.underlying45 HI.out HZ0.out HZ1.out HZ2.out rfl (by decide) _ _ _ rfl (World.ownsRow.alloc (show (wr.alloc (.cells #[.string n, .bool s, .slice a3 A.length c3, .slice b3 D.length d3, .bool z, .slice a4 F.length c4, .slice b4 G.length d4, .bool b] 35)).ownsRow w.heap.size 9 1 (.slice a' k c') Lk.length (Lk.map Value.string) from S1.out) _) ⟨wr.heap.size + 1, 0, none⟩ 1 1 [.string n] rfl rfl ?c1 ?c2 ?c3 ?c4 ?c5 ?_)
      case c1 => have := cell_one_new (wr.alloc (.cells #[.string n, .bool s, .slice a3 A.length c3, .slice b3 D.length d3, .bool z, .slice a4 F.length c4, .slice b4 G.length d4, .bool b] 35)) (.string n) 9; rw [HZ.out] at this; exact this
      case c2 => intro u hu; simp at hu; subst hu; rfl
      case c3 => rw [hsn.out]; unfold maxLen; omega
      case c4 => rw [hsn.out]; omega
      case c5 => have := HB.out.size; simp at this ⊢; omega
      intro v' w3 hown' hgrow _
      have R3 := Strs_app (x := n) S1.out HB.out HB.out.size hown' hgrow
      have HB3 := hid R3.2
      have S3 := hid R3.1
      rw [← HT.out] at S3
      obtain ⟨a6, n6, c6, rfl⟩ : ∃ a n c, v' = .slice a n c := by
        rcases hown'.2 with ⟨h1, -⟩ | ⟨g, cap, cur, h1, -⟩
        · exact ⟨_, _, _, h1⟩
        · exact ⟨_, _, _, h1⟩
      have hn6 := (Strs_sh S3.out).1
      have hn7 : n6 = k + 1 := by rw [hn6, nmsC_len, List.length_take]; omega
      subst hn7
      clear R3 hown' hgrow hn6
      go_wp2
      go_roundw
      case rel => exact ⟨k + 1, a6, c6, by omega, by go_num, rfl, S3, HB3.out⟩
      case measure => simp [intOf]; omega
    · obtain rfl : k = C.length := by omega
      have HB := hid hbel
      have S1 := hS.out
      rw [List.take_of_length_le (Nat.le_refl _)] at S1
      have S2 := hid S1
      clear hbel S1
      go_wp2
      go_ret
      rw [← nmsC_len]
      exact ⟨_, _, rfl, by rw [nmsC_len]; exact S2.out, HB.out⟩
end Go.Proofs.Yteanocjkdehhgaa

/- Slices of strings and of rows that a call gives, in the laws' words. -/
namespace Go.Proofs.Yteanocjkdehhgaa
open Go.RowKit
open Go.Lib (hid)
set_option linter.unusedVariables false

/-- A slice of strings of the law's own: it lies from lo on, below hi. -/
structure StO (w : World) (v : Value) (L : List ByteArray) (lo hi : Nat) : Prop where
  s : Strs w 9 lo v L
  high : ∀ k, v.ownBlock = some k → k < hi
  h : hi ≤ w.heap.size
theorem StO.of {w' : World} {v : Value} {L : List ByteArray} {lo : Nat} (h : Strs w' 9 lo v L) : StO w' v L lo w'.heap.size := ⟨h, fun k hk => (World.ownsRow.lt h k hk).2, Nat.le_refl _⟩
theorem StO.old {w w' : World} {v : Value} {L : List ByteArray} {lo hi : Nat} (h : StO w v L lo hi) (hb : Below w.heap.size w w') : StO w' v L lo hi := ⟨Strs_old h.s hb, h.high, Nat.le_trans h.h hb.size⟩
theorem StO.onlyG {w w' : World} {v : Value} {L : List ByteArray} {lo hi a b : Nat} (h : StO w v L lo hi) (hb : Only (InG a b w.heap.size) w w') (hd : hi ≤ a ∨ b ≤ lo) : StO w' v L lo hi :=
  ⟨own_block h.s fun k hk => hb.block k fun hs => by have := InG_cases hs; have := h.high k hk; have := h.h; have := (World.ownsRow.lt h.s k hk).1; omega, h.high, Nat.le_trans h.h hb.size⟩
theorem StO.form {w : World} {v : Value} {L : List ByteArray} {lo hi : Nat} (h : StO w v L lo hi) : (v = .slice none 0 0 ∧ L = []) ∨ ∃ g c, v = .slice (some ⟨g, 0, none⟩) L.length c ∧ lo ≤ g ∧ g < hi ∧ g < w.heap.size := by
  rcases Strs_cases h.s with h1 | ⟨g, c, rfl, h1, h2, -⟩
  · exact .inl h1
  · exact .inr ⟨g, c, rfl, h1, h.high g rfl, h2⟩
theorem StO.row {w : World} {a : Option Addr} {n c : Nat} {L : List ByteArray} {lo hi : Nat} (h : StO w (.slice a n c) L lo hi) : Row w a n L := by
  rcases h.form with ⟨h1, rfl⟩ | ⟨g, c', h1, -⟩
  · simp only [Value.slice.injEq] at h1
    obtain ⟨rfl, rfl, rfl⟩ := h1
    exact ⟨rfl, fun h0 => by simp at h0⟩
  · simp only [Value.slice.injEq] at h1
    obtain ⟨rfl, rfl, rfl⟩ := h1
    exact Row_of h.s
theorem eqStringS_o {v1 v2 : Value} {L : List ByteArray} {l1 h1 l2 h2 : Nat} (hL : L.length ≤ 1073741824) (w : World) (o1 : StO w v1 L l1 h1) (o2 : StO w v2 L l2 h2) :
    Calls Try.prog 19 #[v1, v2] w (RetB (.bool true) w) := by
  have k : ∀ {v : Value} {l h : Nat}, StO w v L l h → ∃ a n c, v = .slice a n c := fun ho => by
    rcases ho.form with ⟨rfl, -⟩ | ⟨g, c, rfl, -⟩
    · exact ⟨_, _, _, rfl⟩
    · exact ⟨_, _, _, rfl⟩
  obtain ⟨a1, n1, c1, rfl⟩ := k o1
  obtain ⟨a2, n2, c2, rfl⟩ := k o2
  exact (eqStringS_same a1 a2 n1 n2 c1 c2 L hL w o1.row o2.row).mono fun e w' ⟨he, d, hw⟩ => ⟨he, by subst hw; exact ⟨rfl, rfl, rfl, Nat.le_refl _, fun _ _ => rfl⟩⟩
def MarkSt (v : Value) (n : Nat) (lo : Nat) (w : World) (e : Ending) (w' : World) : Prop := e = .returned (.int .i64 (1 + (n : Int))) ∧ StO w' v (marksS n) lo w.heap.size ∧ Only (InG lo w.heap.size w.heap.size) w w'
set_option maxRecDepth 100000 in
theorem markStringS_o {v : Value} {L : List ByteArray} {lo hi : Nat} (hL : L.length ≤ 1048576) (w : World) (h : StO w v L lo hi) (hlo : lo ≤ w.heap.size) :
    Calls Try.prog 22 #[v, .int .i64 1] w (MarkSt v L.length lo w) := by
  rcases h.form with ⟨rfl, rfl⟩ | ⟨g, c, rfl, h1, h2, h3⟩
  · go_enter Try.func22, Try.ntmps22
    go_wp2
    go_loopw [1, 5] (fun x i wr => i = .int .i64 0 ∧ x = .int .i64 1 ∧ wr = w) (fun _ _ _ => 0)
    case atStart => exact ⟨rfl, rfl, rfl⟩
    case round =>
      obtain ⟨rfl, rfl, rfl⟩ := hrel
      go_wp2
      go_ret
      exact ⟨rfl, ⟨World.ownsRow_nil _ _ _ _, fun k hk => by simp [Value.ownBlock] at hk, Nat.le_refl _⟩, Only.refl _ _⟩
  · refine (markStringS_any lo g c L (by omega) w h.s h1 h3).mono fun e w' ⟨he, hs, hb⟩ => ⟨he, ⟨hs, fun k hk => ?_, hb.size⟩, Only.of_below hb fun k hk => ?_⟩
    · simp [Value.ownBlock] at hk; omega
    · by_cases hc : k < w.heap.size
      · exact .inl ⟨hk, hc⟩
      · exact .inr (by omega)
set_option maxRecDepth 100000 in
theorem heldStringS_o {v : Value} {n : Nat} {lo hi : Nat} (hL : n ≤ 1048576) (w : World) (h : StO w v (marksS n) lo hi) :
    Calls Try.prog 23 #[v, .int .i64 1] w (RetB (.int .i64 (1 + (n : Int))) w) := by
  rcases h.form with ⟨rfl, h0⟩ | ⟨g, c, rfl, h1, h2, h3⟩
  · have hn : n = 0 := by have := congrArg List.length h0; rwa [marks_lenS] at this
    subst hn
    go_enter Try.func23, Try.ntmps23
    go_wp2
    go_loopw [1, 5] (fun x i wr => i = .int .i64 0 ∧ x = .int .i64 1 ∧ wr = w) (fun _ _ _ => 0)
    case atStart => exact ⟨rfl, rfl, rfl⟩
    case round =>
      obtain ⟨rfl, rfl, rfl⟩ := hrel
      go_wp2
      go_ret
      exact ⟨rfl, Below.refl _ _⟩
  · have hs := h.s
    rw [marks_lenS] at hs ⊢
    exact (heldStringS_any lo g c n (by omega) w hs h3).mono fun e w' h => h
/-- A row's struct that is only read, between two heights. -/
def kdL : Kd Er where
  n := 5
  cs := Er.cs
  len := fun e => rfl
  inr := fun (e : Er) (k : Nat) => e.lo ≤ k ∧ k < e.hi
  P := fun (w : World) (e : Er) => ((∃ E, TO false w e.t E e.lo e.hi ∧ keysT E = e.q.K) ∧ ROw w e.v e.u e.q.A e.q.D e.lo e.hi) ∧ e.hi ≤ w.heap.size
  keep := fun {w w' e S} h hb hS => by
    obtain ⟨⟨⟨E, h1, h2⟩, h3⟩, h4⟩ := h
    exact ⟨⟨⟨E, h1.onlyS hb fun k a b => hS k ⟨a, b⟩, h2⟩, h3.onlyS hb fun k a b => hS k ⟨a, b⟩⟩, Nat.le_trans h4 hb.size⟩
  lt := fun {w e} h k hk => by have := h.2; omega
def RLO (w : World) (v : Value) (L : List Wq) (lo hi : Nat) : Prop := (∃ E : List Er, GO kdL 91 w v E lo (fun k => lo ≤ k ∧ k < hi) ∧ E.map Er.q = L) ∧ hi ≤ w.heap.size
theorem RLO.old {w w' : World} {v : Value} {L : List Wq} {lo hi : Nat} (h : RLO w v L lo hi) (hb : Below w.heap.size w w') : RLO w' v L lo hi := by
  obtain ⟨⟨E, h1, h2⟩, h3⟩ := h
  exact ⟨⟨E, h1.old hb, h2⟩, Nat.le_trans h3 hb.size⟩
theorem RLO.onlyG {w w' : World} {v : Value} {L : List Wq} {lo hi a b : Nat} (h : RLO w v L lo hi) (hb : Only (InG a b w.heap.size) w w') (hd : hi ≤ a ∨ b ≤ lo) : RLO w' v L lo hi := by
  obtain ⟨⟨E, h1, h2⟩, h3⟩ := h
  exact ⟨⟨E, h1.only hb fun k hk hs => by have := InG_cases hs; have := hk.1; have := hk.2; omega, h2⟩, Nat.le_trans h3 hb.size⟩
theorem RLO.r {w : World} {v : Value} {L : List Wq} {lo hi : Nat} (h : RLO w v L lo hi) : RS w v L := by
  obtain ⟨⟨E, h1, h2⟩, h3⟩ := h
  refine ⟨E, GO.r (P := fun (w : World) (e : Er) => RwW w e.t e.v e.u e.q.K e.q.A e.q.D) h1 fun x hx => ?_, h2⟩
  obtain ⟨⟨⟨E', a, b⟩, c⟩, -⟩ := hx
  exact ⟨⟨_, _, _, E', a, b⟩, _, _, c⟩
/-- A slice of rows' structs is returned that reads as L. -/
def RSR (L : List Wq) (w : World) (e : Ending) (w' : World) : Prop := ∃ a c, e = .returned (.slice a L.length c) ∧ RLO w' (.slice a L.length c) L w.heap.size w'.heap.size ∧ Below w.heap.size w w'
end Go.Proofs.Yteanocjkdehhgaa
