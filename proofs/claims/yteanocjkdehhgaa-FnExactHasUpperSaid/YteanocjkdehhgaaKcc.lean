/- The laws' helpers on a column's struct: size, copy, equality. -/
import Derived.Test.YteanocjkdehhgaaKc
import Derived.Deep.RegionHeld3
namespace Go.Proofs.Yteanocjkdehhgaa
open Go.RowKit
open Go.Lib (hid)
set_option linter.unusedVariables false

set_option maxRecDepth 100000 in
set_option maxHeartbeats 6400000 in
theorem szCol_yes (n : ByteArray) (s : Bool) (a : Option Addr) (na ca : Nat) (d : Option Addr) (nd cd : Nat) (z : Bool) (f : Option Addr) (nf cf : Nat) (g : Option Addr) (ng cg : Nat) (b : Bool) (y : Int) (h0 : (n.size : Int) + (na : Int) + (nd : Int) + (nf : Int) + (ng : Int) ≤ y) (h1 : y ≤ 1048576) (w : World) :
    Calls Try.prog 10 #[.agg #[.string n, .bool s, .slice a na ca, .slice d nd cd, .bool z, .slice f nf cf, .slice g ng cg, .bool b], .int .i64 y] w (RetB (.int .i64 (y - (n.size : Int) - na - nd - nf - ng)) w) := by
  have B := hid (below_new' (w := w) (o := .cells #[.string n, .bool s, .slice a na ca, .slice d nd cd, .bool z, .slice f nf cf, .slice g ng cg, .bool b] 28))
  have LX := hid (LocA.new (w := w) (T := 28) (cs := #[.string n, .bool s, .slice a na ca, .slice d nd cd, .bool z, .slice f nf cf, .slice g ng cg, .bool b]))
  have e0 : ¬ y - (n.size : Int) < 0 := by omega
  have K1 := hid (szRat_yes s a na ca d nd cd (y - (n.size : Int)) (by omega) (by omega))
  have e1 : ¬ y - (n.size : Int) - (na : Int) - (nd : Int) < 0 := by omega
  have K2 := hid (szRat_yes z f nf cf g ng cg (y - (n.size : Int) - (na : Int) - (nd : Int)) (by omega) (by omega))
  have e2 : ¬ y - (n.size : Int) - (na : Int) - (nd : Int) - (nf : Int) - (ng : Int) < 0 := by omega
  go_enter Try.func10, Try.ntmps10
  go_wp2_with fail
  generalize w.alloc (.cells #[.string n, .bool s, .slice a na ca, .slice d nd cd, .bool z, .slice f nf cf, .slice g ng cg, .bool b] 28) = W at B LX ⊢
  (with_reducible refine (K1.out _).mono ?_)
  rintro e w1 ⟨rfl, b1⟩
  have B := hid (B.out.trans (b1.mono B.out.size))
  have LX := hid (LX.out.old b1)
  have q0 := LX.out.c 4 rfl
  have q1 := LX.out.c 5 rfl
  have q2 := LX.out.c 6 rfl
  clear b1
  go_wp2_with fail
  (with_reducible refine (K2.out _).mono ?_)
  rintro e w2 ⟨rfl, b2⟩
  have B := hid (B.out.trans (b2.mono B.out.size))
  clear b2 q0 q1 q2
  go_wp2
  go_ret
  exact ⟨rfl, B.out⟩
set_option maxRecDepth 100000 in
set_option maxHeartbeats 6400000 in
theorem szCol_no (n : ByteArray) (s : Bool) (a : Option Addr) (na ca : Nat) (d : Option Addr) (nd cd : Nat) (z : Bool) (f : Option Addr) (nf cf : Nat) (g : Option Addr) (ng cg : Nat) (b : Bool) (y : Int) (hn : n.size ≤ maxLen) (ha : na ≤ maxLen) (hd : nd ≤ maxLen) (hf : nf ≤ maxLen) (hg : ng ≤ maxLen) (h0 : y < (n.size : Int) + (na : Int) + (nd : Int) + (nf : Int) + (ng : Int)) (hz : 0 ≤ y) (h1 : y ≤ 1048576) (w : World) :
    Calls Try.prog 10 #[.agg #[.string n, .bool s, .slice a na ca, .slice d nd cd, .bool z, .slice f nf cf, .slice g ng cg, .bool b], .int .i64 y] w (RetB (.int .i64 (-1)) w) := by
  unfold maxLen at *
  have B := hid (below_new' (w := w) (o := .cells #[.string n, .bool s, .slice a na ca, .slice d nd cd, .bool z, .slice f nf cf, .slice g ng cg, .bool b] 28))
  have LX := hid (LocA.new (w := w) (T := 28) (cs := #[.string n, .bool s, .slice a na ca, .slice d nd cd, .bool z, .slice f nf cf, .slice g ng cg, .bool b]))
  by_cases c0 : y < (n.size : Int)
  case pos =>
    have e0 : y - (n.size : Int) < 0 := by omega
    go_enter Try.func10, Try.ntmps10
    go_wp2
    go_ret
    exact ⟨rfl, B.out⟩
  by_cases c1 : y < (n.size : Int) + (na : Int) + (nd : Int)
  case pos =>
    have e0 : ¬ y - (n.size : Int) < 0 := by omega
    have K1 := hid (szRat_no s a na ca d nd cd (y - (n.size : Int)) ha hd (by omega) (by omega) (by omega))
    go_enter Try.func10, Try.ntmps10
    go_wp2_with fail
    generalize w.alloc (.cells #[.string n, .bool s, .slice a na ca, .slice d nd cd, .bool z, .slice f nf cf, .slice g ng cg, .bool b] 28) = W at B LX ⊢
    (with_reducible refine (K1.out _).mono ?_)
    rintro e w1 ⟨rfl, b1⟩
    have B := hid (B.out.trans (b1.mono B.out.size))
    have LX := hid (LX.out.old b1)
    clear b1
    go_wp2
    go_ret
    exact ⟨rfl, B.out⟩
  have e0 : ¬ y - (n.size : Int) < 0 := by omega
  have K1 := hid (szRat_yes s a na ca d nd cd (y - (n.size : Int)) (by omega) (by omega))
  have e1 : ¬ y - (n.size : Int) - (na : Int) - (nd : Int) < 0 := by omega
  have K2 := hid (szRat_no z f nf cf g ng cg (y - (n.size : Int) - (na : Int) - (nd : Int)) hf hg (by omega) (by omega) (by omega))
  go_enter Try.func10, Try.ntmps10
  go_wp2_with fail
  generalize w.alloc (.cells #[.string n, .bool s, .slice a na ca, .slice d nd cd, .bool z, .slice f nf cf, .slice g ng cg, .bool b] 28) = W at B LX ⊢
  (with_reducible refine (K1.out _).mono ?_)
  rintro e w1 ⟨rfl, b1⟩
  have B := hid (B.out.trans (b1.mono B.out.size))
  have LX := hid (LX.out.old b1)
  have q0 := LX.out.c 4 rfl
  have q1 := LX.out.c 5 rfl
  have q2 := LX.out.c 6 rfl
  clear b1
  go_wp2_with fail
  (with_reducible refine (K2.out _).mono ?_)
  rintro e w2 ⟨rfl, b2⟩
  have B := hid (B.out.trans (b2.mono B.out.size))
  clear b2 q0 q1 q2
  go_wp2
  go_ret
  exact ⟨rfl, B.out⟩
/-- A column's struct of a call's own is returned. -/
def ColRM (n : ByteArray) (s : Bool) (A D : List Int) (z : Bool) (F G : List Int) (b : Bool) (w : World) (e : Ending) (w' : World) : Prop := ∃ a c b1 d a' c' b' d' mi, e = .returned (.agg #[.string n, .bool s, .slice a A.length c, .slice b1 D.length d, .bool z, .slice a' F.length c', .slice b' G.length d', .bool b]) ∧ ClM w' (.slice a A.length c) (.slice b1 D.length d) (.slice a' F.length c') (.slice b' G.length d') A D F G w.heap.size mi mi w'.heap.size ∧ w.heap.size ≤ mi ∧ mi ≤ w'.heap.size ∧ Below w.heap.size w w'
set_option maxRecDepth 100000 in
set_option maxHeartbeats 6400000 in
theorem toCol_came (n : ByteArray) (s : Bool) (a : Option Addr) (na ca : Nat) (d : Option Addr) (nd cd : Nat) (z : Bool) (f : Option Addr) (nf cf : Nat) (g : Option Addr) (ng cg : Nat) (b : Bool) (h : Nat) (A D F G : List Int) (hA : A.length ≤ 1073741824) (hD : D.length ≤ 1073741824) (hF : F.length ≤ 1073741824) (hG : G.length ≤ 1073741824) (w : World) (h1 : ClCame w h a na A d nd D f nf F g ng G) :
    Calls Try.prog 12 #[.agg #[.string n, .bool s, .slice a na ca, .slice d nd cd, .bool z, .slice f nf cf, .slice g ng cg, .bool b]] w (ColRM n s A D z F G b w) := by
  have H := hid h1
  have K1 := hid (fun (W : World) (r : CameR W h a na A d nd D) => toRat_came s a na ca d nd cd h A D hA hD W r)
  have K2 := hid (fun (W : World) (r : CameR W h f nf F g ng G) => toRat_came z f nf cf g ng cg h F G hF hG W r)
  clear h1
  have B := hid (show Below w.heap.size w (((w.alloc (.cells #[.string n, .bool s, .slice a na ca, .slice d nd cd, .bool z, .slice f nf cf, .slice g ng cg, .bool b] 28)).alloc (.cells #[.string (ByteArray.mk #[]), .bool false, .slice none 0 0, .slice none 0 0, .bool false, .slice none 0 0, .slice none 0 0, .bool false] 35)).alloc (.cells #[.string n, .bool false, .slice none 0 0, .slice none 0 0, .bool false, .slice none 0 0, .slice none 0 0, .bool false] 35)) from (((Below.refl _ _).alloc (Nat.le_refl _) _).alloc (by simp) _).alloc (by simp; omega) _)
  have LP := hid (show LocA 28 (((w.alloc (.cells #[.string n, .bool s, .slice a na ca, .slice d nd cd, .bool z, .slice f nf cf, .slice g ng cg, .bool b] 28)).alloc (.cells #[.string (ByteArray.mk #[]), .bool false, .slice none 0 0, .slice none 0 0, .bool false, .slice none 0 0, .slice none 0 0, .bool false] 35)).alloc (.cells #[.string n, .bool false, .slice none 0 0, .slice none 0 0, .bool false, .slice none 0 0, .slice none 0 0, .bool false] 35)) w.heap.size #[.string n, .bool s, .slice a na ca, .slice d nd cd, .bool z, .slice f nf cf, .slice g ng cg, .bool b] from (LocA.at rfl).new1.new1)
  have LR := hid (show LocA 35 (((w.alloc (.cells #[.string n, .bool s, .slice a na ca, .slice d nd cd, .bool z, .slice f nf cf, .slice g ng cg, .bool b] 28)).alloc (.cells #[.string (ByteArray.mk #[]), .bool false, .slice none 0 0, .slice none 0 0, .bool false, .slice none 0 0, .slice none 0 0, .bool false] 35)).alloc (.cells #[.string n, .bool false, .slice none 0 0, .slice none 0 0, .bool false, .slice none 0 0, .slice none 0 0, .bool false] 35)) (w.heap.size + 1) #[.string (ByteArray.mk #[]), .bool false, .slice none 0 0, .slice none 0 0, .bool false, .slice none 0 0, .slice none 0 0, .bool false] from (LocA.at (by simp)).new1)
  have LO := hid (show LocA 35 (((w.alloc (.cells #[.string n, .bool s, .slice a na ca, .slice d nd cd, .bool z, .slice f nf cf, .slice g ng cg, .bool b] 28)).alloc (.cells #[.string (ByteArray.mk #[]), .bool false, .slice none 0 0, .slice none 0 0, .bool false, .slice none 0 0, .slice none 0 0, .bool false] 35)).alloc (.cells #[.string n, .bool false, .slice none 0 0, .slice none 0 0, .bool false, .slice none 0 0, .slice none 0 0, .bool false] 35)) (w.heap.size + 1 + 1) #[.string n, .bool false, .slice none 0 0, .slice none 0 0, .bool false, .slice none 0 0, .slice none 0 0, .bool false] from LocA.at (by simp))
  generalize hW : ((w.alloc (.cells #[.string n, .bool s, .slice a na ca, .slice d nd cd, .bool z, .slice f nf cf, .slice g ng cg, .bool b] 28)).alloc (.cells #[.string (ByteArray.mk #[]), .bool false, .slice none 0 0, .slice none 0 0, .bool false, .slice none 0 0, .slice none 0 0, .bool false] 35)).alloc (.cells #[.string n, .bool false, .slice none 0 0, .slice none 0 0, .bool false, .slice none 0 0, .slice none 0 0, .bool false] 35) = W0 at B LP LR LO
  have HW := hid hW
  clear hW
  have hs0 := B.out.size
  have hs1 := LO.out.lt
  have q0 := LP.out.c 0 rfl
  have q1 := LP.out.c 1 rfl
  have q2 := LP.out.c 2 rfl
  have q3 := LP.out.c 3 rfl
  have q4 := LP.out.c 4 rfl
  have q5 := LP.out.c 5 rfl
  have q6 := LP.out.c 6 rfl
  have q7 := LP.out.c 7 rfl
  have fz := LO.out.f 0
  go_enter Try.func12, Try.ntmps12
  go_wp2_with fail
  rw [HW.out]
  clear q0 q1 q2 q3 q4 q5 q6 q7
  (with_reducible refine (K1.out _ (H.out.l.old B.out)).mono ?_)
  clear fz
  rintro e w1 ⟨v, u, rfl, r1, b1⟩
  have hs2 := b1.size
  obtain ⟨a1, c1, bb1, d1, rfl, rfl⟩ := r1.form
  have LP := hid (LP.out.old b1)
  have LR := hid (LR.out.old b1)
  have LO := hid (LO.out.old b1)
  have B := hid (B.out.trans (b1.mono B.out.size))
  have f1 := LO.out.f 1
  have p1 := LO.out.c 1 rfl
  have f2 := LO.out.f 2
  have p2 := LO.out.c 2 rfl
  have f3 := LO.out.f 3
  have p3 := LO.out.c 3 rfl
  have hz : (((w1.setCell ⟨w.heap.size + 1 + 1, 1, none⟩ (.bool s)).setCell ⟨w.heap.size + 1 + 1, 2, none⟩ (.slice a1 A.length c1)).setCell ⟨w.heap.size + 1 + 1, 3, none⟩ (.slice bb1 D.length d1)).heap.size = w1.heap.size := by simp only [size_set]
  have S1 := ((((Only.refl (fun k => w.heap.size + 1 ≤ k ∧ k < w.heap.size + 1 + 1 + 1) w1).setCell (p := ⟨w.heap.size + 1 + 1, 1, none⟩) (by show w.heap.size + 1 ≤ w.heap.size + 1 + 1 ∧ w.heap.size + 1 + 1 < w.heap.size + 1 + 1 + 1; omega) (.bool s)).setCell (p := ⟨w.heap.size + 1 + 1, 2, none⟩) (by show w.heap.size + 1 ≤ w.heap.size + 1 + 1 ∧ w.heap.size + 1 + 1 < w.heap.size + 1 + 1 + 1; omega) (.slice a1 A.length c1)).setCell (p := ⟨w.heap.size + 1 + 1, 3, none⟩) (by show w.heap.size + 1 ≤ w.heap.size + 1 + 1 ∧ w.heap.size + 1 + 1 < w.heap.size + 1 + 1 + 1; omega) (.slice bb1 D.length d1))
  have R1 := hid (r1.onlyS S1 (fun k h1 h2 h3 => by have := h3.1; have := h3.2; omega))
  have B := hid ((((B.out.setCell (p := ⟨w.heap.size + 1 + 1, 1, none⟩) (by show w.heap.size ≤ w.heap.size + 1 + 1; omega) (.bool s)).setCell (p := ⟨w.heap.size + 1 + 1, 2, none⟩) (by show w.heap.size ≤ w.heap.size + 1 + 1; omega) (.slice a1 A.length c1)).setCell (p := ⟨w.heap.size + 1 + 1, 3, none⟩) (by show w.heap.size ≤ w.heap.size + 1 + 1; omega) (.slice bb1 D.length d1)))
  have LP := hid ((((LP.out.setne (i := 1) (x := .bool s) (show w.heap.size ≠ w.heap.size + 1 + 1 by omega)).setne (i := 2) (x := .slice a1 A.length c1) (show w.heap.size ≠ w.heap.size + 1 + 1 by omega)).setne (i := 3) (x := .slice bb1 D.length d1) (show w.heap.size ≠ w.heap.size + 1 + 1 by omega)))
  have LR := hid ((((LR.out.setne (i := 1) (x := .bool s) (show w.heap.size + 1 ≠ w.heap.size + 1 + 1 by omega)).setne (i := 2) (x := .slice a1 A.length c1) (show w.heap.size + 1 ≠ w.heap.size + 1 + 1 by omega)).setne (i := 3) (x := .slice bb1 D.length d1) (show w.heap.size + 1 ≠ w.heap.size + 1 + 1 by omega)))
  have LO := hid (show LocA 35 _ (w.heap.size + 1 + 1) #[.string n, .bool s, .slice a1 A.length c1, .slice bb1 D.length d1, .bool false, .slice none 0 0, .slice none 0 0, .bool false] from ((LO.out.set (i := 1) (x := .bool s)).set (i := 2) (x := .slice a1 A.length c1)).set (i := 3) (x := .slice bb1 D.length d1))
  have q4 := LP.out.c 4 rfl
  have q5 := LP.out.c 5 rfl
  have q6 := LP.out.c 6 rfl
  have q7 := LP.out.c 7 rfl
  clear r1 b1 S1
  go_wp2_with fail
  generalize (((w1.setCell ⟨w.heap.size + 1 + 1, 1, none⟩ (.bool s)).setCell ⟨w.heap.size + 1 + 1, 2, none⟩ (.slice a1 A.length c1)).setCell ⟨w.heap.size + 1 + 1, 3, none⟩ (.slice bb1 D.length d1)) = W2 at B LP LR LO R1 hz q4 q5 q6 q7 ⊢
  clear p1 p2 p3
  (with_reducible refine (K2.out _ (H.out.h.old B.out)).mono ?_)
  clear q4 q5 q6 q7 f1 f2 f3
  rintro e w2 ⟨v, u, rfl, r2, b2⟩
  obtain ⟨a2, c2, bb2, d2, rfl, rfl⟩ := r2.form
  have hs3 := b2.size
  have hsB := B.out.size
  have LP := hid (LP.out.old b2)
  have LR := hid (LR.out.old b2)
  have LO := hid (LO.out.old b2)
  have R1 := hid (R1.out.old b2)
  have B := hid (B.out.trans (b2.mono B.out.size))
  have f0 := LO.out.f 0
  have p0 := LO.out.c 0 rfl
  have g0 := LR.out.f 0
  have o0 := LR.out.c 0 rfl
  have f1 := LO.out.f 1
  have p1 := LO.out.c 1 rfl
  have g1 := LR.out.f 1
  have o1 := LR.out.c 1 rfl
  have f2 := LO.out.f 2
  have p2 := LO.out.c 2 rfl
  have g2 := LR.out.f 2
  have o2 := LR.out.c 2 rfl
  have f3 := LO.out.f 3
  have p3 := LO.out.c 3 rfl
  have g3 := LR.out.f 3
  have o3 := LR.out.c 3 rfl
  have f4 := LO.out.f 4
  have p4 := LO.out.c 4 rfl
  have g4 := LR.out.f 4
  have o4 := LR.out.c 4 rfl
  have f5 := LO.out.f 5
  have p5 := LO.out.c 5 rfl
  have g5 := LR.out.f 5
  have o5 := LR.out.c 5 rfl
  have f6 := LO.out.f 6
  have p6 := LO.out.c 6 rfl
  have g6 := LR.out.f 6
  have o6 := LR.out.c 6 rfl
  have f7 := LO.out.f 7
  have p7 := LO.out.c 7 rfl
  have g7 := LR.out.f 7
  have o7 := LR.out.c 7 rfl
  have q7 := LP.out.c 7 rfl
  have hB := hid (((((((((((((B.out.setCell (p := ⟨w.heap.size + 1 + 1, 4, none⟩) (by show w.heap.size ≤ w.heap.size + 1 + 1; omega) (.bool z)).setCell (p := ⟨w.heap.size + 1 + 1, 5, none⟩) (by show w.heap.size ≤ w.heap.size + 1 + 1; omega) (.slice a2 F.length c2)).setCell (p := ⟨w.heap.size + 1 + 1, 6, none⟩) (by show w.heap.size ≤ w.heap.size + 1 + 1; omega) (.slice bb2 G.length d2)).setCell (p := ⟨w.heap.size + 1 + 1, 7, none⟩) (by show w.heap.size ≤ w.heap.size + 1 + 1; omega) (.bool b)).setCell (p := ⟨w.heap.size + 1, 0, none⟩) (by show w.heap.size ≤ w.heap.size + 1; omega) (.string n)).setCell (p := ⟨w.heap.size + 1, 1, none⟩) (by show w.heap.size ≤ w.heap.size + 1; omega) (.bool s)).setCell (p := ⟨w.heap.size + 1, 2, none⟩) (by show w.heap.size ≤ w.heap.size + 1; omega) (.slice a1 A.length c1)).setCell (p := ⟨w.heap.size + 1, 3, none⟩) (by show w.heap.size ≤ w.heap.size + 1; omega) (.slice bb1 D.length d1)).setCell (p := ⟨w.heap.size + 1, 4, none⟩) (by show w.heap.size ≤ w.heap.size + 1; omega) (.bool z)).setCell (p := ⟨w.heap.size + 1, 5, none⟩) (by show w.heap.size ≤ w.heap.size + 1; omega) (.slice a2 F.length c2)).setCell (p := ⟨w.heap.size + 1, 6, none⟩) (by show w.heap.size ≤ w.heap.size + 1; omega) (.slice bb2 G.length d2)).setCell (p := ⟨w.heap.size + 1, 7, none⟩) (by show w.heap.size ≤ w.heap.size + 1; omega) (.bool b)))
  have S2 := (((((((((((((Only.refl (fun k => w.heap.size + 1 ≤ k ∧ k < w.heap.size + 1 + 1 + 1) w2).setCell (p := ⟨w.heap.size + 1 + 1, 4, none⟩) (by show w.heap.size + 1 ≤ w.heap.size + 1 + 1 ∧ w.heap.size + 1 + 1 < w.heap.size + 1 + 1 + 1; omega) (.bool z)).setCell (p := ⟨w.heap.size + 1 + 1, 5, none⟩) (by show w.heap.size + 1 ≤ w.heap.size + 1 + 1 ∧ w.heap.size + 1 + 1 < w.heap.size + 1 + 1 + 1; omega) (.slice a2 F.length c2)).setCell (p := ⟨w.heap.size + 1 + 1, 6, none⟩) (by show w.heap.size + 1 ≤ w.heap.size + 1 + 1 ∧ w.heap.size + 1 + 1 < w.heap.size + 1 + 1 + 1; omega) (.slice bb2 G.length d2)).setCell (p := ⟨w.heap.size + 1 + 1, 7, none⟩) (by show w.heap.size + 1 ≤ w.heap.size + 1 + 1 ∧ w.heap.size + 1 + 1 < w.heap.size + 1 + 1 + 1; omega) (.bool b)).setCell (p := ⟨w.heap.size + 1, 0, none⟩) (by show w.heap.size + 1 ≤ w.heap.size + 1 ∧ w.heap.size + 1 < w.heap.size + 1 + 1 + 1; omega) (.string n)).setCell (p := ⟨w.heap.size + 1, 1, none⟩) (by show w.heap.size + 1 ≤ w.heap.size + 1 ∧ w.heap.size + 1 < w.heap.size + 1 + 1 + 1; omega) (.bool s)).setCell (p := ⟨w.heap.size + 1, 2, none⟩) (by show w.heap.size + 1 ≤ w.heap.size + 1 ∧ w.heap.size + 1 < w.heap.size + 1 + 1 + 1; omega) (.slice a1 A.length c1)).setCell (p := ⟨w.heap.size + 1, 3, none⟩) (by show w.heap.size + 1 ≤ w.heap.size + 1 ∧ w.heap.size + 1 < w.heap.size + 1 + 1 + 1; omega) (.slice bb1 D.length d1)).setCell (p := ⟨w.heap.size + 1, 4, none⟩) (by show w.heap.size + 1 ≤ w.heap.size + 1 ∧ w.heap.size + 1 < w.heap.size + 1 + 1 + 1; omega) (.bool z)).setCell (p := ⟨w.heap.size + 1, 5, none⟩) (by show w.heap.size + 1 ≤ w.heap.size + 1 ∧ w.heap.size + 1 < w.heap.size + 1 + 1 + 1; omega) (.slice a2 F.length c2)).setCell (p := ⟨w.heap.size + 1, 6, none⟩) (by show w.heap.size + 1 ≤ w.heap.size + 1 ∧ w.heap.size + 1 < w.heap.size + 1 + 1 + 1; omega) (.slice bb2 G.length d2)).setCell (p := ⟨w.heap.size + 1, 7, none⟩) (by show w.heap.size + 1 ≤ w.heap.size + 1 ∧ w.heap.size + 1 < w.heap.size + 1 + 1 + 1; omega) (.bool b))
  have hz2 : ((((((((((((w2.setCell ⟨w.heap.size + 1 + 1, 4, none⟩ (.bool z)).setCell ⟨w.heap.size + 1 + 1, 5, none⟩ (.slice a2 F.length c2)).setCell ⟨w.heap.size + 1 + 1, 6, none⟩ (.slice bb2 G.length d2)).setCell ⟨w.heap.size + 1 + 1, 7, none⟩ (.bool b)).setCell ⟨w.heap.size + 1, 0, none⟩ (.string n)).setCell ⟨w.heap.size + 1, 1, none⟩ (.bool s)).setCell ⟨w.heap.size + 1, 2, none⟩ (.slice a1 A.length c1)).setCell ⟨w.heap.size + 1, 3, none⟩ (.slice bb1 D.length d1)).setCell ⟨w.heap.size + 1, 4, none⟩ (.bool z)).setCell ⟨w.heap.size + 1, 5, none⟩ (.slice a2 F.length c2)).setCell ⟨w.heap.size + 1, 6, none⟩ (.slice bb2 G.length d2)).setCell ⟨w.heap.size + 1, 7, none⟩ (.bool b)).heap.size = w2.heap.size := by simp only [size_set]
  have hF := hid (show ClM ((((((((((((w2.setCell ⟨w.heap.size + 1 + 1, 4, none⟩ (.bool z)).setCell ⟨w.heap.size + 1 + 1, 5, none⟩ (.slice a2 F.length c2)).setCell ⟨w.heap.size + 1 + 1, 6, none⟩ (.slice bb2 G.length d2)).setCell ⟨w.heap.size + 1 + 1, 7, none⟩ (.bool b)).setCell ⟨w.heap.size + 1, 0, none⟩ (.string n)).setCell ⟨w.heap.size + 1, 1, none⟩ (.bool s)).setCell ⟨w.heap.size + 1, 2, none⟩ (.slice a1 A.length c1)).setCell ⟨w.heap.size + 1, 3, none⟩ (.slice bb1 D.length d1)).setCell ⟨w.heap.size + 1, 4, none⟩ (.bool z)).setCell ⟨w.heap.size + 1, 5, none⟩ (.slice a2 F.length c2)).setCell ⟨w.heap.size + 1, 6, none⟩ (.slice bb2 G.length d2)).setCell ⟨w.heap.size + 1, 7, none⟩ (.bool b)) (.slice a1 A.length c1) (.slice bb1 D.length d1) (.slice a2 F.length c2) (.slice bb2 G.length d2) A D F G w.heap.size w1.heap.size w1.heap.size ((((((((((((w2.setCell ⟨w.heap.size + 1 + 1, 4, none⟩ (.bool z)).setCell ⟨w.heap.size + 1 + 1, 5, none⟩ (.slice a2 F.length c2)).setCell ⟨w.heap.size + 1 + 1, 6, none⟩ (.slice bb2 G.length d2)).setCell ⟨w.heap.size + 1 + 1, 7, none⟩ (.bool b)).setCell ⟨w.heap.size + 1, 0, none⟩ (.string n)).setCell ⟨w.heap.size + 1, 1, none⟩ (.bool s)).setCell ⟨w.heap.size + 1, 2, none⟩ (.slice a1 A.length c1)).setCell ⟨w.heap.size + 1, 3, none⟩ (.slice bb1 D.length d1)).setCell ⟨w.heap.size + 1, 4, none⟩ (.bool z)).setCell ⟨w.heap.size + 1, 5, none⟩ (.slice a2 F.length c2)).setCell ⟨w.heap.size + 1, 6, none⟩ (.slice bb2 G.length d2)).setCell ⟨w.heap.size + 1, 7, none⟩ (.bool b)).heap.size from
    ⟨(R1.out.onlyS S2 (fun k h1 h2 h3 => by have := h3.1; have := h3.2; omega)).at (by omega), by have hr := r2.onlyS S2 (fun k h1 h2 h3 => by have := h3.1; have := h3.2; omega); rw [hz2]; rw [hz] at hr; exact hr, .inl (Nat.le_refl _)⟩)
  have hl1 : w.heap.size ≤ w1.heap.size := by omega
  have hl2 : w1.heap.size ≤ ((((((((((((w2.setCell ⟨w.heap.size + 1 + 1, 4, none⟩ (.bool z)).setCell ⟨w.heap.size + 1 + 1, 5, none⟩ (.slice a2 F.length c2)).setCell ⟨w.heap.size + 1 + 1, 6, none⟩ (.slice bb2 G.length d2)).setCell ⟨w.heap.size + 1 + 1, 7, none⟩ (.bool b)).setCell ⟨w.heap.size + 1, 0, none⟩ (.string n)).setCell ⟨w.heap.size + 1, 1, none⟩ (.bool s)).setCell ⟨w.heap.size + 1, 2, none⟩ (.slice a1 A.length c1)).setCell ⟨w.heap.size + 1, 3, none⟩ (.slice bb1 D.length d1)).setCell ⟨w.heap.size + 1, 4, none⟩ (.bool z)).setCell ⟨w.heap.size + 1, 5, none⟩ (.slice a2 F.length c2)).setCell ⟨w.heap.size + 1, 6, none⟩ (.slice bb2 G.length d2)).setCell ⟨w.heap.size + 1, 7, none⟩ (.bool b)).heap.size := by rw [hz2]; omega
  clear r2 b2 S2 hz2 hz
  go_wp2
  exact bodyPost_ret (v := .agg #[.string n, .bool s, .slice a1 A.length c1, .slice bb1 D.length d1, .bool z, .slice a2 F.length c2, .slice bb2 G.length d2, .bool b]) (by simp [results, Try.results12, go_sem, o0, o1, o2, o3, o4, o5, o6, o7]) rfl ⟨_, _, _, _, _, _, _, _, _, rfl, hF.out, hl1, hl2, hB.out⟩
theorem eqRat_cl {s : Bool} {v1 u1 v2 u2 : Value} {A D : List Int} (hA : A.length ≤ 1073741824) (hD : D.length ≤ 1073741824) (W : World) (g1 : ∃ lo hi, ROw W v1 u1 A D lo hi) (g2 : ∃ lo hi, ROw W v2 u2 A D lo hi) : Calls Try.prog 44 #[.agg #[.bool s, v1, u1], .agg #[.bool s, v2, u2]] W (RetB (.bool true) W) := by
  obtain ⟨_, _, a1⟩ := g1
  obtain ⟨_, _, a2⟩ := g2
  exact eqRat_w s v1 u1 v2 u2 A D _ _ _ _ hA hD W a1 a2
set_option maxRecDepth 100000 in
set_option maxHeartbeats 6400000 in
theorem eqCol_k (n : ByteArray) (s z b : Bool) {v1 u1 x1 y1 v2 u2 x2 y2 : Value} {A D F G : List Int} (hA : A.length ≤ 1073741824) (hD : D.length ≤ 1073741824) (hF : F.length ≤ 1073741824) (hG : G.length ≤ 1073741824) (w : World) (o1 : ClW w v1 u1 x1 y1 A D F G) (o2 : ClW w v2 u2 x2 y2 A D F G) :
    Calls Try.prog 14 #[.agg #[.string n, .bool s, v1, u1, .bool z, x1, y1, .bool b], .agg #[.string n, .bool s, v2, u2, .bool z, x2, y2, .bool b]] w (RetB (.bool true) w) := by
  obtain ⟨a1, c1, b1, d1, e1, f1, i1, j1, rfl, rfl, rfl, rfl⟩ := o1.form
  obtain ⟨a2, c2, b2, d2, e2, f2, i2, j2, rfl, rfl, rfl, rfl⟩ := o2.form
  have B := hid (below_new2 (w := w) (o := .cells #[.string n, .bool s, .slice a1 A.length c1, .slice b1 D.length d1, .bool z, .slice e1 F.length f1, .slice i1 G.length j1, .bool b] 35) (o' := .cells #[.string n, .bool s, .slice a2 A.length c2, .slice b2 D.length d2, .bool z, .slice e2 F.length f2, .slice i2 G.length j2, .bool b] 35))
  have L1 := hid ((LocA.at (T := 35) (w := w) (b := w.heap.size) (cs := #[.string n, .bool s, .slice a1 A.length c1, .slice b1 D.length d1, .bool z, .slice e1 F.length f1, .slice i1 G.length j1, .bool b]) rfl).new1 (o := .cells #[.string n, .bool s, .slice a2 A.length c2, .slice b2 D.length d2, .bool z, .slice e2 F.length f2, .slice i2 G.length j2, .bool b] 35))
  have L2 := hid (LocA.at (T := 35) (w := w.alloc (.cells #[.string n, .bool s, .slice a1 A.length c1, .slice b1 D.length d1, .bool z, .slice e1 F.length f1, .slice i1 G.length j1, .bool b] 35)) (b := w.heap.size + 1) (cs := #[.string n, .bool s, .slice a2 A.length c2, .slice b2 D.length d2, .bool z, .slice e2 F.length f2, .slice i2 G.length j2, .bool b]) (by simp))
  have O1 := hid (o1.old B.out)
  have O2 := hid (o2.old B.out)
  have K1 := hid (fun (W : World) (g1 : ClW W (.slice a1 A.length c1) (.slice b1 D.length d1) (.slice e1 F.length f1) (.slice i1 G.length j1) A D F G) (g2 : ClW W (.slice a2 A.length c2) (.slice b2 D.length d2) (.slice e2 F.length f2) (.slice i2 G.length j2) A D F G) => eqRat_cl (s := s) hA hD W g1.l g2.l)
  have K2 := hid (fun (W : World) (g1 : ClW W (.slice a1 A.length c1) (.slice b1 D.length d1) (.slice e1 F.length f1) (.slice i1 G.length j1) A D F G) (g2 : ClW W (.slice a2 A.length c2) (.slice b2 D.length d2) (.slice e2 F.length f2) (.slice i2 G.length j2) A D F G) => eqRat_cl (s := z) hF hG W g1.h g2.h)
  clear o1 o2
  generalize hW : (w.alloc (.cells #[.string n, .bool s, .slice a1 A.length c1, .slice b1 D.length d1, .bool z, .slice e1 F.length f1, .slice i1 G.length j1, .bool b] 35)).alloc (.cells #[.string n, .bool s, .slice a2 A.length c2, .slice b2 D.length d2, .bool z, .slice e2 F.length f2, .slice i2 G.length j2, .bool b] 35) = W0 at B L1 L2 O1 O2
  have HW := hid hW
  clear hW
  go_enter Try.func14, Try.ntmps14
  go_wp2_with fail
  rw [HW.out]
  (with_reducible refine (K1.out _ O1.out O2.out).mono ?_)
  rintro e w1 ⟨rfl, g1⟩
  have O1 := hid (O1.out.old g1)
  have O2 := hid (O2.out.old g1)
  have L1 := hid (L1.out.old g1)
  have L2 := hid (L2.out.old g1)
  have B := hid (B.out.trans (g1.mono B.out.size))
  have q0 := L1.out.c 4 rfl
  have q1 := L1.out.c 5 rfl
  have q2 := L1.out.c 6 rfl
  have q4 := L2.out.c 4 rfl
  have q5 := L2.out.c 5 rfl
  have q6 := L2.out.c 6 rfl
  clear g1
  go_wp2_with fail
  (with_reducible refine (K2.out _ O1.out O2.out).mono ?_)
  rintro e w2 ⟨rfl, g1⟩
  have L1 := hid (L1.out.old g1)
  have L2 := hid (L2.out.old g1)
  have B := hid (B.out.trans (g1.mono B.out.size))
  clear g1 q0 q1 q2 q4 q5 q6
  have q3 := L1.out.c 7 rfl
  have q7 := L2.out.c 7 rfl
  go_wp2
  go_ret
  exact ⟨rfl, B.out⟩
end Go.Proofs.Yteanocjkdehhgaa
