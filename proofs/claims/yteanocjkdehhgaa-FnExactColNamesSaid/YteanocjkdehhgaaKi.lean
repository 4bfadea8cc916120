/- The names of the columns: the program and the reference. -/
import Derived.Test.YteanocjkdehhgaaKg
import Derived.Deep.RegionHeld3
namespace Go.Proofs.Yteanocjkdehhgaa
open Go.RowKit
open Go.Lib (hid)
set_option linter.unusedVariables false

/-- A slice of strings of a call's own is returned. -/
def StrR (L : List ByteArray) (w : World) (e : Ending) (w' : World) : Prop := ∃ a c, e = .returned (.slice a L.length c) ∧ Strs w' 9 w.heap.size (.slice a L.length c) L ∧ Below w.heap.size w w'
theorem Strs_nil' (w : World) (B : Nat) : Strs w 9 B (.slice none 0 0) [] := World.ownsRow_nil _ _ _ _
theorem Strs_lit0 {w : World} {lo g : Nat} (hl : lo ≤ w.heap.size) (hg : w.heap.size = g) : Strs (w.alloc (.cells #[] 9)) 9 lo (.slice (some ⟨g, 0, none⟩) 0 0) [] := by
  subst hg
  exact ⟨rfl, .inr ⟨w.heap.size, 0, #[], rfl, hl, heap_alloc_new w _, Nat.le_refl _, Nat.zero_le _, rfl, rfl⟩⟩
def nmsC (C : List Cq) : List ByteArray := C.map Cq.n
theorem nmsC_len (C : List Cq) : (nmsC C).length = C.length := by simp [nmsC]
theorem nmsC_take {C : List Cq} {k : Nat} (h : k < C.length) : nmsC (C.take (k + 1)) = nmsC (C.take k) ++ [C[k].n] := by rw [List.take_succ_eq_append_getElem h]; simp only [nmsC, List.map_append, List.map_cons, List.map_nil]
set_option maxRecDepth 100000 in
set_option maxHeartbeats 6400000 in
theorem impl_ColNames {x y z : Value} {C : List Cq} {K : List Tq} {R : List Wq} (hC : C.length ≤ 1048576) (w : World) (h : MdW w x y z C K R) :
    Calls Try.prog 18 #[.agg #[x, y, z]] w (StrR (nmsC C) w) := by
  obtain ⟨a1, c1, b1, d1, e1, f1, rfl, rfl, rfl⟩ := h.form
  have B := hid (below_new' (w := w) (o := .cells #[.slice a1 C.length c1, .slice b1 K.length d1, .slice e1 R.length f1] 51))
  have L1 := hid (LocA.new (w := w) (T := 51) (cs := #[.slice a1 C.length c1, .slice b1 K.length d1, .slice e1 R.length f1]))
  have H := hid h
  clear h
  obtain ⟨i9, hi, hz0, hz1, hz2⟩ := info_parts infoStr
  have HI := hid hi
  have HZ0 := hid hz0
  have HZ1 := hid hz1
  have HZ2 := hid hz2
  clear hi hz0 hz1 hz2
  have HW := hid (show (w.alloc (.cells #[.slice a1 C.length c1, .slice b1 K.length d1, .slice e1 R.length f1] 51)).heap.size = w.heap.size + 1 by simp)
  go_enter Try.func18, Try.ntmps18
  go_wp2
  generalize w.alloc (.cells #[.slice a1 C.length c1, .slice b1 K.length d1, .slice e1 R.length f1] 51) = W at B L1 HW ⊢
  go_loopw [3, 9] (fun v i wr => ∃ (k : Nat) (a' : Option Addr) (c' : Nat), k ≤ C.length ∧ i = .int .i64 k ∧ v = .slice a' k c' ∧ Hid (Strs wr 9 w.heap.size (.slice a' k c') (nmsC (C.take k))) ∧ Below w.heap.size w wr) (fun _ i _ => C.length - (intOf i).toNat)
  case atStart => exact ⟨0, none, 0, Nat.zero_le _, rfl, rfl, hid (Strs_nil' _ _), B.out⟩
  case round =>
    obtain ⟨k, a', c', hk, rfl, rfl, hS, hbel⟩ := hrel
    by_cases hlt : k < C.length
    · obtain ⟨g, o, v1, u1, x1, y1, rfl, hg, q0, q1, q2, q3, q4, q5, q6, q7, R1⟩ := (H.out.old hbel).c.at hlt
      have HT := hid (nmsC_take hlt)
      generalize C[k] = f at q0 q1 q2 q3 q4 q5 q6 q7 R1 HT
      obtain ⟨n, s, A, D, z, F, G, b⟩ := f
      simp only at q0 q1 q2 q3 q4 q5 q6 q7 R1 HT
      obtain ⟨a3, c3, b3, d3, a4, c4, b4, d4, rfl, rfl, rfl, rfl⟩ := R1.form
      clear R1
      have hz1 := hbel.size
      have hsn := hid (show (nmsC (C.take k)).length = k by rw [nmsC_len, List.length_take]; omega)
      have S1 := hid (Strs_old hS.out (below_new' (o := .cells #[.string n, .bool s, .slice a3 A.length c3, .slice b3 D.length d3, .bool z, .slice a4 F.length c4, .slice b4 G.length d4, .bool b] 35)))
      have HB := hid (hbel.alloc hz1 (.cells #[.string n, .bool s, .slice a3 A.length c3, .slice b3 D.length d3, .bool z, .slice a4 F.length c4, .slice b4 G.length d4, .bool b] 35))
      have HZ := hid (show (wr.alloc (.cells #[.string n, .bool s, .slice a3 A.length c3, .slice b3 D.length d3, .bool z, .slice a4 F.length c4, .slice b4 G.length d4, .bool b] 35)).heap.size = wr.heap.size + 1 by simp)
      have a1' : (0 : Int) ≤ k := by omega
      have a2' : (k : Int) < C.length := by omega
      obtain ⟨Lk, hLk⟩ : ∃ L, L = nmsC (C.take k) := ⟨_, rfl⟩
      rw [← hLk] at S1 HT hsn
      clear hLk hbel
      go_wp2_with (at_builtin; refine wpList_append_own _ rfl _ _ 45 rfl w.heap.size 9 i9 (.string ByteArray.empty) 1 16 Try.underlying45 HI.out HZ0.out HZ1.out HZ2.out rfl (by decide) _ _ _ rfl (World.ownsRow.alloc (show (wr.alloc (.cells #[.string n, .bool s, .slice a3 A.length c3, .slice b3 D.length d3, .bool z, .slice a4 F.length c4, .slice b4 G.length d4, .bool b] 35)).ownsRow w.heap.size 9 1 (.slice a' k c') Lk.length (Lk.map Value.string) from S1.out) _) ⟨wr.heap.size + 1, 0, none⟩ 1 1 [.string n] rfl rfl ?c1 ?c2 ?c3 ?c4 ?c5 ?_)
      case c1 => have := cell_one_new (wr.alloc (.cells #[.string n, .bool s, .slice a3 A.length c3, .slice b3 D.length d3, .bool z, .slice a4 F.length c4, .slice b4 G.length d4, .bool b] 35)) (.string n) 9; rw [HZ.out] at this; exact this
      case c2 => intro u hu; simp at hu; subst hu; rfl
      case c3 => rw [hsn.out]; unfold maxLen; omega
      case c4 => rw [hsn.out]; omega
      case c5 => have := HB.out.size; simp at this ⊢; omega
      intro v' w3 hown' hgrow _
      have R3 := Strs_app (x := n) S1.out HB.out HB.out.size hown' hgrow
      have HB3 := hid R3.2
      have S3 := hid R3.1
      rw [← HT.out] at S3
      obtain ⟨a6, n6, c6, rfl⟩ : ∃ a n c, v' = .slice a n c := by
        rcases hown'.2 with ⟨h1, -⟩ | ⟨g, cap, cur, h1, -⟩
        · exact ⟨_, _, _, h1⟩
        · exact ⟨_, _, _, h1⟩
      have hn6 := (Strs_sh S3.out).1
      have hn7 : n6 = k + 1 := by rw [hn6, nmsC_len, List.length_take]; omega
      subst hn7
      clear R3 hown' hgrow hn6
      go_wp2
      go_roundw
      case rel => exact ⟨k + 1, a6, c6, by omega, by go_num, rfl, S3, HB3.out⟩
      case measure => simp [intOf]; omega
    · obtain rfl : k = C.length := by omega
      have HB := hid hbel
      have S1 := hS.out
      rw [List.take_of_length_le (Nat.le_refl _)] at S1
      have S2 := hid S1
      clear hbel S1
      go_wp2
      go_ret
      rw [← nmsC_len]
      exact ⟨_, _, rfl, by rw [nmsC_len]; exact S2.out, HB.out⟩
set_option maxRecDepth 100000 in
set_option maxHeartbeats 6400000 in
theorem spec_ColNames {x y z : Value} {C : List Cq} {K : List Tq} {R : List Wq} (hC : C.length ≤ 1048576) (w : World) (h : MdW w x y z C K R) :
    Calls Try.prog 16 #[.agg #[x, y, z]] w (StrR (nmsC C) w) := by
  obtain ⟨a1, c1, b1, d1, e1, f1, rfl, rfl, rfl⟩ := h.form
  have B := hid (below_new' (w := w) (o := .cells #[.slice a1 C.length c1, .slice b1 K.length d1, .slice e1 R.length f1] 51))
  have L1 := hid (LocA.new (w := w) (T := 51) (cs := #[.slice a1 C.length c1, .slice b1 K.length d1, .slice e1 R.length f1]))
  have H := hid h
  clear h
  obtain ⟨i9, hi, hz0, hz1, hz2⟩ := info_parts infoStr
  have HI := hid hi
  have HZ0 := hid hz0
  have HZ1 := hid hz1
  have HZ2 := hid hz2
  clear hi hz0 hz1 hz2
  have HW := hid (show (w.alloc (.cells #[.slice a1 C.length c1, .slice b1 K.length d1, .slice e1 R.length f1] 51)).heap.size = w.heap.size + 1 by simp)
  go_enter Try.func16, Try.ntmps16
  go_wp2
  generalize w.alloc (.cells #[.slice a1 C.length c1, .slice b1 K.length d1, .slice e1 R.length f1] 51) = W at B L1 HW ⊢
  go_loopw [3, 10] (fun v i wr => ∃ (k : Nat) (a' : Option Addr) (c' : Nat), k ≤ C.length ∧ i = .int .i64 k ∧ v = .slice a' k c' ∧ Hid (Strs wr 9 w.heap.size (.slice a' k c') (nmsC (C.take k))) ∧ Below w.heap.size w wr) (fun _ i _ => C.length - (intOf i).toNat)
  case atStart => exact ⟨0, _, 0, Nat.zero_le _, rfl, rfl, hid (Strs_lit0 B.out.size HW.out), B.out.alloc B.out.size _⟩
  case round =>
    obtain ⟨k, a', c', hk, rfl, rfl, hS, hbel⟩ := hrel
    by_cases hlt : k < C.length
    · obtain ⟨g, o, v1, u1, x1, y1, rfl, hg, q0, q1, q2, q3, q4, q5, q6, q7, R1⟩ := (H.out.old hbel).c.at hlt
      have HT := hid (nmsC_take hlt)
      generalize C[k] = f at q0 q1 q2 q3 q4 q5 q6 q7 R1 HT
      obtain ⟨n, s, A, D, z, F, G, b⟩ := f
      simp only at q0 q1 q2 q3 q4 q5 q6 q7 R1 HT
      obtain ⟨a3, c3, b3, d3, a4, c4, b4, d4, rfl, rfl, rfl, rfl⟩ := R1.form
      clear R1
      have hz1 := hbel.size
      have hsn := hid (show (nmsC (C.take k)).length = k by rw [nmsC_len, List.length_take]; omega)
      have S1 := hid (Strs_old hS.out (below_new' (o := .cells #[.string n, .bool s, .slice a3 A.length c3, .slice b3 D.length d3, .bool z, .slice a4 F.length c4, .slice b4 G.length d4, .bool b] 35)))
      have HB := hid (hbel.alloc hz1 (.cells #[.string n, .bool s, .slice a3 A.length c3, .slice b3 D.length d3, .bool z, .slice a4 F.length c4, .slice b4 G.length d4, .bool b] 35))
      have HZ := hid (show (wr.alloc (.cells #[.string n, .bool s, .slice a3 A.length c3, .slice b3 D.length d3, .bool z, .slice a4 F.length c4, .slice b4 G.length d4, .bool b] 35)).heap.size = wr.heap.size + 1 by simp)
      have a1' : (0 : Int) ≤ k := by omega
      have a2' : (k : Int) < C.length := by omega
      obtain ⟨Lk, hLk⟩ : ∃ L, L = nmsC (C.take k) := ⟨_, rfl⟩
      rw [← hLk] at S1 HT hsn
      clear hLk hbel
      go_wp2_with (at_builtin; refine wpList_append_own _ rfl _ _ 45 rfl w.heap.size 9 i9 (.string ByteArray.empty) 1 16 Try.underlying45 HI.out HZ0.out HZ1.out HZ2.out rfl (by decide) _ _ _ rfl (World.ownsRow.alloc (show (wr.alloc (.cells #[.string n, .bool s, .slice a3 A.length c3, .slice b3 D.length d3, .bool z, .slice a4 F.length c4, .slice b4 G.length d4, .bool b] 35)).ownsRow w.heap.size 9 1 (.slice a' k c') Lk.length (Lk.map Value.string) from S1.out) _) ⟨wr.heap.size + 1, 0, none⟩ 1 1 [.string n] rfl rfl ?c1 ?c2 ?c3 ?c4 ?c5 ?_)
      case c1 => have := cell_one_new (wr.alloc (.cells #[.string n, .bool s, .slice a3 A.length c3, .slice b3 D.length d3, .bool z, .slice a4 F.length c4, .slice b4 G.length d4, .bool b] 35)) (.string n) 9; rw [HZ.out] at this; exact this
      case c2 => intro u hu; simp at hu; subst hu; rfl
      case c3 => rw [hsn.out]; unfold maxLen; omega
      case c4 => rw [hsn.out]; omega
      case c5 => have := HB.out.size; simp at this ⊢; omega
      intro v' w3 hown' hgrow _
      have R3 := Strs_app (x := n) S1.out HB.out HB.out.size hown' hgrow
      have HB3 := hid R3.2
      have S3 := hid R3.1
      rw [← HT.out] at S3
      obtain ⟨a6, n6, c6, rfl⟩ : ∃ a n c, v' = .slice a n c := by
        rcases hown'.2 with ⟨h1, -⟩ | ⟨g, cap, cur, h1, -⟩
        · exact ⟨_, _, _, h1⟩
        · exact ⟨_, _, _, h1⟩
      have hn6 := (Strs_sh S3.out).1
      have hn7 : n6 = k + 1 := by rw [hn6, nmsC_len, List.length_take]; omega
      subst hn7
      clear R3 hown' hgrow hn6
      go_wp2
      go_roundw
      case rel => exact ⟨k + 1, a6, c6, by omega, by go_num, rfl, S3, HB3.out⟩
      case measure => simp [intOf]; omega
    · obtain rfl : k = C.length := by omega
      have HB := hid hbel
      have S1 := hS.out
      rw [List.take_of_length_le (Nat.le_refl _)] at S1
      have S2 := hid S1
      clear hbel S1
      go_wp2
      go_ret
      rw [← nmsC_len]
      exact ⟨_, _, rfl, by rw [nmsC_len]; exact S2.out, HB.out⟩
end Go.Proofs.Yteanocjkdehhgaa
