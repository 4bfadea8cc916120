/- The walk of the law FnWhole. -/
import Derived.Test.YtleechafachkaaaDoorBg
import Derived.Test.YtleechafachkaaaDoorNa
import Derived.IntWalk
import Derived.Deep.RegionHeld3
import Derived.Deep.DeepCutAuto
namespace Go.Proofs.YtleechafachkaaaDoor
open Go.RowKit
open Go.Lib (hid)
set_option linter.unusedVariables false

/-- An integer of the law's own has been laid into a variable of its own. -/
def LaidB (T : TypeId) (W : World) (V : Int) (sl : Value) (wx : World) : Prop := ∃ g s a n c, sl = .pointer (some ⟨g, 0, none⟩) ∧ Loc T wx g s (.slice a n c) ∧ BigV wx s (.slice a n c) V ∧ W.heap.size ≤ g ∧ Below W.heap.size W wx
theorem LaidB_a {T : TypeId} {W wf : World} {V : Int} {s : Bool} {a : Option Addr} {n c : Nat} (hi : BigV wf s (.slice a n c) V) (hb : Below W.heap.size W wf) :
    LaidB T W V (.pointer (some ⟨wf.heap.size, 0, none⟩)) (wf.alloc (.cells #[.bool s, .slice a n c] T)) :=
  ⟨wf.heap.size, s, a, n, c, rfl, Loc.new, hi.old below_new', hb.size, hb.alloc hb.size _⟩
theorem LaidB_b {T : TypeId} {W wf : World} {V : Int} {s : Bool} {a : Option Addr} {n c N : Nat} (hT : T ≠ 3) (hL : Loc T wf N false (.slice none 0 0)) (hN : W.heap.size ≤ N) (hi : BigV wf s (.slice a n c) V) (hb : Below W.heap.size W wf) :
    LaidB T W V (.pointer (some ⟨N, 0, none⟩)) ((wf.setCell ⟨N, 0, none⟩ (.bool s)).setCell ⟨N, 1, none⟩ (.slice a n c)) := by
  obtain ⟨L, lo, hi', o, e1, e2⟩ := hi
  have hne := hL.ne hT o.ints
  refine ⟨N, s, a, n, c, rfl, ?_, ⟨L, lo, hi', ⟨Ints_set (Ints_set o.ints hne) hne, o.high⟩, e1, e2⟩, hN, (hb.setCell hN _).setCell hN _⟩
  unfold Loc at hL ⊢
  simp [World.setCell, Array.getElem?_modify, hL]
theorem ByteRow.old {w w' : World} {a : Option Addr} {n : Nat} {Z : List Int} (h : ByteRow w a n Z) (hb : Below w.heap.size w w') : ByteRow w' a n Z := ByteRow_below h hb
theorem pw_facts : pw 3 + pw 3 < pw 4 ∧ pw 3 * pw 4 < pw 8 ∧ pw 3 * pw 3 < pw 8 ∧ pw 8 + pw 8 < pw 60 ∧ pw 4 < pw 60 := by decide
theorem sgn_flip {x y : Int} : -sgn (-x - -y) = sgn (x - y) := by
  rcases sgn_cases (-x - -y) with ⟨h, e⟩ | ⟨h, e⟩ | ⟨h, e⟩ <;> rcases sgn_cases (x - y) with ⟨h', e'⟩ | ⟨h', e'⟩ | ⟨h', e'⟩ <;> omega

set_option maxRecDepth 100000 in
set_option maxHeartbeats 12800000 in
theorem law_Whole (a : Option Addr) (n c : Nat) (Z : List Int) (hn : n ≤ maxLen) (w : World) (hr : ByteRow w a n Z) (hp : Pow10 w) :
    Calls Tryd.prog 3 #[.slice a n c] w (RetB (.bool true) w) := by
  unfold maxLen at hn
  by_cases hA : 1048576 < (n : Int)
  · go_enter Tryd.func3, Tryd.ntmps3
    go_wp2
    go_ret
    exact ⟨rfl, Below.refl _ _⟩
  have hZ : Z.length ≤ 1048576 := by have := hr.1; omega
  have KM := hid (fun (W : World) (h : ByteRow W a n Z) (t : Int) t0 t1 => make_big a n c Z t hZ W h t0 t1)
  have R := hid hr
  have PP := hid hp
  have B := hid (Below.refl w.heap.size w)
  clear hr hp
  go_enter Tryd.func3, Tryd.ntmps3
  go_wp2_with fail
  (with_reducible refine (KM.out _ R.out 1 (by decide) (by decide)).mono ?_)
  rintro e w1 ⟨x, s1, a1, n1, c1, x0, x1, rfl, hv, b1⟩
  have X := hid hv
  have R := hid (R.out.old b1)
  have PP := hid (PP.out.old b1)
  have B := hid (B.out.trans (b1.mono B.out.size))
  clear hv b1
  have R := hid (R.out.old (below_new' (o := .cells #[.bool s1, .slice a1 n1 c1] 25)))
  have PP := hid (PP.out.old (below_new' (o := .cells #[.bool s1, .slice a1 n1 c1] 25)))
  have X := hid (X.out.old (below_new' (o := .cells #[.bool s1, .slice a1 n1 c1] 25)))
  have B := hid (B.out.alloc B.out.size (.cells #[.bool s1, .slice a1 n1 c1] 25))
  have LX := hid (Loc.new (w := w1) (T := 25) (s := s1) (v := .slice a1 n1 c1))
  go_wp2_with fail
  (with_reducible refine (KM.out _ R.out 2 (by decide) (by decide)).mono ?_)
  rintro e w2 ⟨y, s2, a2, n2, c2, y0, y1, rfl, hv, b1⟩
  have Y := hid hv
  have R := hid (R.out.old b1)
  have PP := hid (PP.out.old b1)
  have X := hid (X.out.old b1)
  have LX := hid (LX.out.old b1)
  have B := hid (B.out.trans (b1.mono B.out.size))
  clear hv b1
  have R := hid (R.out.old (below_new' (o := .cells #[.bool s2, .slice a2 n2 c2] 25)))
  have PP := hid (PP.out.old (below_new' (o := .cells #[.bool s2, .slice a2 n2 c2] 25)))
  have X := hid (X.out.old (below_new' (o := .cells #[.bool s2, .slice a2 n2 c2] 25)))
  have LX := hid (LX.out.old (below_new' (o := .cells #[.bool s2, .slice a2 n2 c2] 25)))
  have Y := hid (Y.out.old (below_new' (o := .cells #[.bool s2, .slice a2 n2 c2] 25)))
  have B := hid (B.out.alloc B.out.size (.cells #[.bool s2, .slice a2 n2 c2] 25))
  have LY := hid (Loc.new (w := w2) (T := 25) (s := s2) (v := .slice a2 n2 c2))
  go_wp2_with fail
  (with_reducible refine (KM.out _ R.out 3 (by decide) (by decide)).mono ?_)
  rintro e w3 ⟨z, s3, a3, n3, c3, z0, z1, rfl, hv, b1⟩
  have ZZ := hid hv
  have R := hid (R.out.old b1)
  have PP := hid (PP.out.old b1)
  have X := hid (X.out.old b1)
  have LX := hid (LX.out.old b1)
  have Y := hid (Y.out.old b1)
  have LY := hid (LY.out.old b1)
  have B := hid (B.out.trans (b1.mono B.out.size))
  clear hv b1
  have R := hid (R.out.old (below_new' (o := .cells #[.bool s3, .slice a3 n3 c3] 25)))
  have PP := hid (PP.out.old (below_new' (o := .cells #[.bool s3, .slice a3 n3 c3] 25)))
  have X := hid (X.out.old (below_new' (o := .cells #[.bool s3, .slice a3 n3 c3] 25)))
  have LX := hid (LX.out.old (below_new' (o := .cells #[.bool s3, .slice a3 n3 c3] 25)))
  have Y := hid (Y.out.old (below_new' (o := .cells #[.bool s3, .slice a3 n3 c3] 25)))
  have LY := hid (LY.out.old (below_new' (o := .cells #[.bool s3, .slice a3 n3 c3] 25)))
  have ZZ := hid (ZZ.out.old (below_new' (o := .cells #[.bool s3, .slice a3 n3 c3] 25)))
  have B := hid (B.out.alloc B.out.size (.cells #[.bool s3, .slice a3 n3 c3] 25))
  have LZ := hid (Loc.new (w := w3) (T := 25) (s := s3) (v := .slice a3 n3 c3))
  obtain ⟨p1, p2, p3, p4, p5⟩ := pw_facts
  have hxy := mul_ab ⟨z0, z1⟩ (show -(pw 4) < x + y ∧ x + y < pw 4 by omega)
  have hzx := mul_ab ⟨z0, z1⟩ ⟨x0, x1⟩
  have hzy := mul_ab ⟨z0, z1⟩ ⟨y0, y1⟩
  have F := hid (show ((x + y).natAbs : Int) < pw 60 ∧ ((z * (x + y)).natAbs : Int) < pw 60 ∧ ((z * x).natAbs : Int) < pw 60 ∧ ((z * y).natAbs : Int) < pw 60 ∧ ((z * x + z * y).natAbs : Int) < pw 60 ∧ z * x + z * y = z * (x + y) ∧ ((x + y - y).natAbs : Int) < pw 60 ∧ x + y - y = x from
    ⟨by omega, by omega, by omega, by omega, by omega, (Int.mul_add z x y).symm, by omega, by omega⟩)
  obtain ⟨d, hd⟩ : ∃ d, d = sgn (-x - -y) := ⟨_, rfl⟩
  have HD := hid hd
  have hdb := sgn_cases (-x - -y)
  rw [← hd] at hdb
  have hd0 : -1 ≤ d := by omega
  have hd1 : d ≤ 1 := by omega
  have HDN := hid (show -d = sgn (x - y) by rw [hd]; exact sgn_flip)
  clear hd hdb p1 p2 p3 p4 p5 hxy hzx hzy x0 x1 y0 y1 z0 z1 KM
  have KMX := hid (fun (W : World) (h1 : BigV W s3 (.slice a3 n3 c3) z) (h2 : BigV W s1 (.slice a1 n1 c1) x) => mul_big h1 h2 F.out.2.2.1)
  have KMY := hid (fun (W : World) (h1 : BigV W s3 (.slice a3 n3 c3) z) (h2 : BigV W s2 (.slice a2 n2 c2) y) => mul_big h1 h2 F.out.2.2.2.1)
  have KAQ := hid (fun (W : World) (s t : Bool) (u v : Value) (h1 : BigV W s u (z * x)) (h2 : BigV W t v (z * y)) => add_big h1 h2 F.out.2.2.2.2.1)
  rw [F.out.2.2.2.2.2.1] at KAQ
  have q0 := LX.out.c0
  have q1 := LX.out.c1
  have q2 := LY.out.c0
  have q3 := LY.out.c1
  go_wp2_with fail
  (with_reducible refine (add_big X.out Y.out F.out.1).mono ?_)
  clear q0 q1 q2 q3
  rintro e w4 ⟨s4, a4, n4, c4, rfl, hv, b1⟩
  have SS := hid hv
  have R := hid (R.out.old b1)
  have PP := hid (PP.out.old b1)
  have X := hid (X.out.old b1)
  have LX := hid (LX.out.old b1)
  have Y := hid (Y.out.old b1)
  have LY := hid (LY.out.old b1)
  have ZZ := hid (ZZ.out.old b1)
  have LZ := hid (LZ.out.old b1)
  have B := hid (B.out.trans (b1.mono B.out.size))
  clear hv b1
  have R := hid (R.out.old (below_new' (o := .cells #[.bool s4, .slice a4 n4 c4] 25)))
  have PP := hid (PP.out.old (below_new' (o := .cells #[.bool s4, .slice a4 n4 c4] 25)))
  have X := hid (X.out.old (below_new' (o := .cells #[.bool s4, .slice a4 n4 c4] 25)))
  have LX := hid (LX.out.old (below_new' (o := .cells #[.bool s4, .slice a4 n4 c4] 25)))
  have Y := hid (Y.out.old (below_new' (o := .cells #[.bool s4, .slice a4 n4 c4] 25)))
  have LY := hid (LY.out.old (below_new' (o := .cells #[.bool s4, .slice a4 n4 c4] 25)))
  have ZZ := hid (ZZ.out.old (below_new' (o := .cells #[.bool s4, .slice a4 n4 c4] 25)))
  have LZ := hid (LZ.out.old (below_new' (o := .cells #[.bool s4, .slice a4 n4 c4] 25)))
  have SS := hid (SS.out.old (below_new' (o := .cells #[.bool s4, .slice a4 n4 c4] 25)))
  have B := hid (B.out.alloc B.out.size (.cells #[.bool s4, .slice a4 n4 c4] 25))
  have LS := hid (Loc.new (w := w4) (T := 25) (s := s4) (v := .slice a4 n4 c4))
  have q0 := LZ.out.c0
  have q1 := LZ.out.c1
  have q2 := LS.out.c0
  have q3 := LS.out.c1
  go_wp2_with fail
  (with_reducible refine (mul_big ZZ.out SS.out F.out.2.1).mono ?_)
  clear q0 q1 q2 q3
  rintro e w5 ⟨s5, a5, n5, c5, rfl, hv, b1⟩
  have P := hid hv
  have R := hid (R.out.old b1)
  have PP := hid (PP.out.old b1)
  have X := hid (X.out.old b1)
  have LX := hid (LX.out.old b1)
  have Y := hid (Y.out.old b1)
  have LY := hid (LY.out.old b1)
  have ZZ := hid (ZZ.out.old b1)
  have LZ := hid (LZ.out.old b1)
  have SS := hid (SS.out.old b1)
  have LS := hid (LS.out.old b1)
  have B := hid (B.out.trans (b1.mono B.out.size))
  clear hv b1
  have R := hid (R.out.old (below_new' (o := .cells #[.bool s5, .slice a5 n5 c5] 25)))
  have PP := hid (PP.out.old (below_new' (o := .cells #[.bool s5, .slice a5 n5 c5] 25)))
  have X := hid (X.out.old (below_new' (o := .cells #[.bool s5, .slice a5 n5 c5] 25)))
  have LX := hid (LX.out.old (below_new' (o := .cells #[.bool s5, .slice a5 n5 c5] 25)))
  have Y := hid (Y.out.old (below_new' (o := .cells #[.bool s5, .slice a5 n5 c5] 25)))
  have LY := hid (LY.out.old (below_new' (o := .cells #[.bool s5, .slice a5 n5 c5] 25)))
  have ZZ := hid (ZZ.out.old (below_new' (o := .cells #[.bool s5, .slice a5 n5 c5] 25)))
  have LZ := hid (LZ.out.old (below_new' (o := .cells #[.bool s5, .slice a5 n5 c5] 25)))
  have SS := hid (SS.out.old (below_new' (o := .cells #[.bool s5, .slice a5 n5 c5] 25)))
  have LS := hid (LS.out.old (below_new' (o := .cells #[.bool s5, .slice a5 n5 c5] 25)))
  have P := hid (P.out.old (below_new' (o := .cells #[.bool s5, .slice a5 n5 c5] 25)))
  have B := hid (B.out.alloc B.out.size (.cells #[.bool s5, .slice a5 n5 c5] 25))
  have LP := hid (Loc.new (w := w5) (T := 25) (s := s5) (v := .slice a5 n5 c5))
  obtain ⟨V, hV⟩ : ∃ V, V = z * (x + y) := ⟨_, rfl⟩
  rw [← hV] at P KAQ
  obtain ⟨zp, hzp⟩ : ∃ r, r = fmtZ V := ⟨_, rfl⟩
  obtain ⟨zx, hzx⟩ : ∃ r, r = fmtZ x := ⟨_, rfl⟩
  have HZP := hid hzp
  have HZX := hid hzx
  clear hV hzp hzx
  obtain ⟨W, hW⟩ : ∃ W, W = w5.alloc (.cells #[.bool s5, .slice a5 n5 c5] 25) := ⟨_, rfl⟩
  go_upto_region 8 with fail
  rw [← hW] at R PP X LX Y LY ZZ LZ SS LS P LP B ⊢
  have hgP : w5.heap.size < W.heap.size := LP.out.lt
  clear hW
  go_cut [8] (fun sl wx => LaidB 25 W V sl wx)
  case first =>
    have XD := hid (X.out.old (Below_drew1 (Below.refl W.heap.size W)))
    have XE := hid (X.out.old (Below_drew1 (below_new' (w := W) (o := .cells #[.bool false, .slice none 0 0] 25))))
    have YD := hid (Y.out.old (Below_drew1 (Below.refl W.heap.size W)))
    have YE := hid (Y.out.old (Below_drew1 (below_new' (w := W) (o := .cells #[.bool false, .slice none 0 0] 25))))
    have ZZD := hid (ZZ.out.old (Below_drew1 (Below.refl W.heap.size W)))
    have ZZE := hid (ZZ.out.old (Below_drew1 (below_new' (w := W) (o := .cells #[.bool false, .slice none 0 0] 25))))
    have LXD := hid (LX.out.old (Below_drew1 (Below.refl W.heap.size W)))
    have LXE := hid (LX.out.old (Below_drew1 (below_new' (w := W) (o := .cells #[.bool false, .slice none 0 0] 25))))
    have LYD := hid (LY.out.old (Below_drew1 (Below.refl W.heap.size W)))
    have LYE := hid (LY.out.old (Below_drew1 (below_new' (w := W) (o := .cells #[.bool false, .slice none 0 0] 25))))
    have LZD := hid (LZ.out.old (Below_drew1 (Below.refl W.heap.size W)))
    have LZE := hid (LZ.out.old (Below_drew1 (below_new' (w := W) (o := .cells #[.bool false, .slice none 0 0] 25))))
    have CD := hid (show Below W.heap.size W W.drew from Below_drew1 (Below.refl _ _))
    have CE := hid (show Below W.heap.size W (W.alloc (.cells #[.bool false, .slice none 0 0] 25)).drew from Below_drew1 below_new')
    have NE := hid (show Loc 25 (W.alloc (.cells #[.bool false, .slice none 0 0] 25)).drew W.heap.size false (.slice none 0 0) from Loc.new)
    have hNW : W.heap.size ≤ W.heap.size := Nat.le_refl _
    have ltx := LX.out.lt
    have lty := LY.out.lt
    have ltz := LZ.out.lt
    have q0 := LXD.out.c0
    have q1 := LXD.out.c1
    have q2 := LYD.out.c0
    have q3 := LYD.out.c1
    have q4 := LZD.out.c0
    have q5 := LZD.out.c1
    go_region_held3 (fun w' => w'.cell? ⟨w1.heap.size, 0, none⟩ = some (.bool s1) ∧ w'.cell? ⟨w1.heap.size, 1, none⟩ = some (.slice a1 n1 c1) ∧ w'.cell? ⟨w2.heap.size, 0, none⟩ = some (.bool s2) ∧ w'.cell? ⟨w2.heap.size, 1, none⟩ = some (.slice a2 n2 c2) ∧ w'.cell? ⟨w3.heap.size, 0, none⟩ = some (.bool s3) ∧ w'.cell? ⟨w3.heap.size, 1, none⟩ = some (.slice a3 n3 c3)) (first | exact ⟨q0, q1, q2, q3, q4, q5⟩ | exact ⟨LXE.out.c0, LXE.out.c1, LYE.out.c0, LYE.out.c1, LZE.out.c0, LZE.out.c1⟩ | exact ⟨(LXC.out.new1).c0, (LXC.out.new1).c1, (LYC.out.new1).c0, (LYC.out.new1).c1, (LZC.out.new1).c0, (LZC.out.new1).c1⟩ | exact ⟨(cell_set2 (Nat.ne_of_lt (by omega))).trans q0, (cell_set2 (Nat.ne_of_lt (by omega))).trans q1, (cell_set2 (Nat.ne_of_lt (by omega))).trans q2, (cell_set2 (Nat.ne_of_lt (by omega))).trans q3, (cell_set2 (Nat.ne_of_lt (by omega))).trans q4, (cell_set2 (Nat.ne_of_lt (by omega))).trans q5⟩ | go_keep) (first | (go_at_call 9; (with_reducible refine (KMX.out _ ZZD.out XD.out).mono ?_); rintro e v1 ⟨sv1, av1, nv1, cv1, rfl, hv, b1⟩; have M1 := hid hv; have CC := hid (CD.out.trans (b1.mono CD.out.size)); have XC := hid (XD.out.old b1); have YC := hid (YD.out.old b1); have ZZC := hid (ZZD.out.old b1); have LXC := hid (LXD.out.old b1); have LYC := hid (LYD.out.old b1); have LZC := hid (LZD.out.old b1); have q0 := LXC.out.c0; have q1 := LXC.out.c1; have q2 := LYC.out.c0; have q3 := LYC.out.c1; have q4 := LZC.out.c0; have q5 := LZC.out.c1; clear hv b1) | (go_at_call 9; (with_reducible refine (KMX.out _ ZZE.out XE.out).mono ?_); rintro e v1 ⟨sv1, av1, nv1, cv1, rfl, hv, b1⟩; have M1 := hid hv; have CC := hid (CE.out.trans (b1.mono CE.out.size)); have NZ := hid (NE.out.old b1); have XC := hid (XE.out.old b1); have YC := hid (YE.out.old b1); have ZZC := hid (ZZE.out.old b1); have LXC := hid (LXE.out.old b1); have LYC := hid (LYE.out.old b1); have LZC := hid (LZE.out.old b1); have q0 := LXC.out.c0; have q1 := LXC.out.c1; have q2 := LYC.out.c0; have q3 := LYC.out.c1; have q4 := LZC.out.c0; have q5 := LZC.out.c1; clear hv b1) | (go_at_call 9; (with_reducible refine (KMY.out _ ZZC.out YC.out).mono ?_); rintro e v2 ⟨sv2, av2, nv2, cv2, rfl, hv, b1⟩; have M2 := hid hv; have M1 := hid (M1.out.old b1); have CC := hid (CC.out.trans (b1.mono CC.out.size)); (try have NZ := hid (NZ.out.old b1)); have XC := hid (XC.out.old b1); have YC := hid (YC.out.old b1); have ZZC := hid (ZZC.out.old b1); have LXC := hid (LXC.out.old b1); have LYC := hid (LYC.out.old b1); have LZC := hid (LZC.out.old b1); have q0 := LXC.out.c0; have q1 := LXC.out.c1; have q2 := LYC.out.c0; have q3 := LYC.out.c1; have q4 := LZC.out.c0; have q5 := LZC.out.c1; clear hv b1) | (go_at_call 9; (with_reducible refine (KMY.out _ (ZZC.out.old (below_new' (o := .cells #[.bool false, .slice none 0 0] 25))) (YC.out.old (below_new' (o := .cells #[.bool false, .slice none 0 0] 25)))).mono ?_); rintro e v2 ⟨sv2, av2, nv2, cv2, rfl, hv, b1⟩; have M2 := hid hv; have hNZ : W.heap.size ≤ v1.heap.size := CC.out.size; have NZ := hid ((Loc.new (w := v1) (T := 25) (s := false) (v := .slice none 0 0)).old b1); have M1 := hid ((M1.out.old (below_new' (o := .cells #[.bool false, .slice none 0 0] 25))).old b1); have CC := hid ((CC.out.alloc CC.out.size (.cells #[.bool false, .slice none 0 0] 25)).trans (b1.mono (CC.out.alloc CC.out.size (.cells #[.bool false, .slice none 0 0] 25)).size)); have XC := hid (XC.out.old (below_new' (o := .cells #[.bool false, .slice none 0 0] 25))); have YC := hid (YC.out.old (below_new' (o := .cells #[.bool false, .slice none 0 0] 25))); have ZZC := hid (ZZC.out.old (below_new' (o := .cells #[.bool false, .slice none 0 0] 25))); have LXC := hid (LXC.out.old (below_new' (o := .cells #[.bool false, .slice none 0 0] 25))); have LYC := hid (LYC.out.old (below_new' (o := .cells #[.bool false, .slice none 0 0] 25))); have LZC := hid (LZC.out.old (below_new' (o := .cells #[.bool false, .slice none 0 0] 25))); have XC := hid (XC.out.old b1); have YC := hid (YC.out.old b1); have ZZC := hid (ZZC.out.old b1); have LXC := hid (LXC.out.old b1); have LYC := hid (LYC.out.old b1); have LZC := hid (LZC.out.old b1); have q0 := LXC.out.c0; have q1 := LXC.out.c1; have q2 := LYC.out.c0; have q3 := LYC.out.c1; have q4 := LZC.out.c0; have q5 := LZC.out.c1; clear hv b1) | (go_at_call 8; (with_reducible refine (KAQ.out _ _ _ _ _ M1.out M2.out).mono ?_); rintro e v3 ⟨sv3, av3, nv3, cv3, rfl, hv, b1⟩; have M3 := hid hv; (try (have NZ := hid (NZ.out.old b1); have f0 := NZ.out.f0 0; have f1 := NZ.out.f0 1; have p0 := NZ.out.c0; have p1 := NZ.out.c1)); have CC := hid (CC.out.trans (b1.mono CC.out.size)); have LXC := hid (LXC.out.old b1); have LYC := hid (LYC.out.old b1); have LZC := hid (LZC.out.old b1); have q0 := LXC.out.c0; have q1 := LXC.out.c1; have q2 := LYC.out.c0; have q3 := LYC.out.c1; have q4 := LZC.out.c0; have q5 := LZC.out.c1; clear hv b1) | (go_at_call 8; (with_reducible refine (KAQ.out _ _ _ _ _ (M1.out.old (below_new' (o := .cells #[.bool false, .slice none 0 0] 25))) (M2.out.old (below_new' (o := .cells #[.bool false, .slice none 0 0] 25)))).mono ?_); rintro e v3 ⟨sv3, av3, nv3, cv3, rfl, hv, b1⟩; have M3 := hid hv; have hNZ : W.heap.size ≤ v2.heap.size := CC.out.size; have NZ := hid (Loc.new (w := v2) (T := 25) (s := false) (v := .slice none 0 0)); have NZ := hid (NZ.out.old b1); have f0 := NZ.out.f0 0; have f1 := NZ.out.f0 1; have p0 := NZ.out.c0; have p1 := NZ.out.c1; have CC := hid ((CC.out.alloc CC.out.size (.cells #[.bool false, .slice none 0 0] 25)).trans (b1.mono (CC.out.alloc CC.out.size (.cells #[.bool false, .slice none 0 0] 25)).size)); have LXC := hid (LXC.out.old (below_new' (o := .cells #[.bool false, .slice none 0 0] 25))); have LYC := hid (LYC.out.old (below_new' (o := .cells #[.bool false, .slice none 0 0] 25))); have LZC := hid (LZC.out.old (below_new' (o := .cells #[.bool false, .slice none 0 0] 25))); have LXC := hid (LXC.out.old b1); have LYC := hid (LYC.out.old b1); have LZC := hid (LZC.out.old b1); have q0 := LXC.out.c0; have q1 := LXC.out.c1; have q2 := LYC.out.c0; have q3 := LYC.out.c1; have q4 := LZC.out.c0; have q5 := LZC.out.c1; clear hv b1))
    all_goals
      go_wp2_with fail
      go_meet
      first | exact LaidB_a M3.out CC.out | exact LaidB_b (by decide) NZ.out (by omega) M3.out CC.out
  case rest =>
    generalize wc = w6 at hcut ⊢
    obtain ⟨g6, s6, a6, n6, c6, rfl, hL, hv, y1, b1⟩ := hcut
    have LQ := hid hL
    have QQ := hid hv
    have R := hid (R.out.old b1)
    have PP := hid (PP.out.old b1)
    have X := hid (X.out.old b1)
    have LX := hid (LX.out.old b1)
    have Y := hid (Y.out.old b1)
    have LY := hid (LY.out.old b1)
    have ZZ := hid (ZZ.out.old b1)
    have LZ := hid (LZ.out.old b1)
    have SS := hid (SS.out.old b1)
    have LS := hid (LS.out.old b1)
    have P := hid (P.out.old b1)
    have LP := hid (LP.out.old b1)
    have B := hid (B.out.trans (b1.mono B.out.size))
    clear hL hv b1
    go_wp2_with fail
    have R := hid (R.out.old (Below_drew1 (Below.refl w6.heap.size w6)))
    have PP := hid (PP.out.old (Below_drew1 (Below.refl w6.heap.size w6)))
    have X := hid (X.out.old (Below_drew1 (Below.refl w6.heap.size w6)))
    have LX := hid (LX.out.old (Below_drew1 (Below.refl w6.heap.size w6)))
    have Y := hid (Y.out.old (Below_drew1 (Below.refl w6.heap.size w6)))
    have LY := hid (LY.out.old (Below_drew1 (Below.refl w6.heap.size w6)))
    have ZZ := hid (ZZ.out.old (Below_drew1 (Below.refl w6.heap.size w6)))
    have LZ := hid (LZ.out.old (Below_drew1 (Below.refl w6.heap.size w6)))
    have SS := hid (SS.out.old (Below_drew1 (Below.refl w6.heap.size w6)))
    have LS := hid (LS.out.old (Below_drew1 (Below.refl w6.heap.size w6)))
    have P := hid (P.out.old (Below_drew1 (Below.refl w6.heap.size w6)))
    have LP := hid (LP.out.old (Below_drew1 (Below.refl w6.heap.size w6)))
    have LQ := hid (LQ.out.old (Below_drew1 (Below.refl w6.heap.size w6)))
    have QQ := hid (QQ.out.old (Below_drew1 (Below.refl w6.heap.size w6)))
    have B := hid (Below_drew1 B.out)
    have hwd : IntKind.i64.wrap (-d) = -d := IntWalk.i64_in _ (by omega)
    have q0 := LS.out.c0
    have q1 := LS.out.c1
    have q2 := LP.out.c0
    have q3 := LP.out.c1
    have q4 := LQ.out.c0
    have q5 := LQ.out.c1
    have q6 := LY.out.c0
    have q7 := LY.out.c1
    have q8 := LX.out.c0
    have q9 := LX.out.c1
    go_region_held3 (fun w' => w'.cell? ⟨w4.heap.size, 0, none⟩ = some (.bool s4) ∧ w'.cell? ⟨w4.heap.size, 1, none⟩ = some (.slice a4 n4 c4) ∧ w'.cell? ⟨w5.heap.size, 0, none⟩ = some (.bool s5) ∧ w'.cell? ⟨w5.heap.size, 1, none⟩ = some (.slice a5 n5 c5) ∧ w'.cell? ⟨g6, 0, none⟩ = some (.bool s6) ∧ w'.cell? ⟨g6, 1, none⟩ = some (.slice a6 n6 c6) ∧ w'.cell? ⟨w2.heap.size, 0, none⟩ = some (.bool s2) ∧ w'.cell? ⟨w2.heap.size, 1, none⟩ = some (.slice a2 n2 c2) ∧ w'.cell? ⟨w1.heap.size, 0, none⟩ = some (.bool s1) ∧ w'.cell? ⟨w1.heap.size, 1, none⟩ = some (.slice a1 n1 c1)) (first | exact ⟨q0, q1, q2, q3, q4, q5, q6, q7, q8, q9⟩) (first | (go_at_call 10; (with_reducible refine (ok_big SS.out).mono ?_); rintro e wn ⟨rfl, b1⟩; have R := hid (R.out.old b1); have PP := hid (PP.out.old b1); have X := hid (X.out.old b1); have LX := hid (LX.out.old b1); have Y := hid (Y.out.old b1); have LY := hid (LY.out.old b1); have ZZ := hid (ZZ.out.old b1); have LZ := hid (LZ.out.old b1); have SS := hid (SS.out.old b1); have LS := hid (LS.out.old b1); have P := hid (P.out.old b1); have LP := hid (LP.out.old b1); have LQ := hid (LQ.out.old b1); have QQ := hid (QQ.out.old b1); have B := hid (B.out.trans (b1.mono B.out.size)); have q0 := LS.out.c0; have q1 := LS.out.c1; have q2 := LP.out.c0; have q3 := LP.out.c1; have q4 := LQ.out.c0; have q5 := LQ.out.c1; have q6 := LY.out.c0; have q7 := LY.out.c1; have q8 := LX.out.c0; have q9 := LX.out.c1; clear b1) | (go_at_call 10; (with_reducible refine (ok_big P.out).mono ?_); rintro e wn ⟨rfl, b1⟩; have R := hid (R.out.old b1); have PP := hid (PP.out.old b1); have X := hid (X.out.old b1); have LX := hid (LX.out.old b1); have Y := hid (Y.out.old b1); have LY := hid (LY.out.old b1); have ZZ := hid (ZZ.out.old b1); have LZ := hid (LZ.out.old b1); have SS := hid (SS.out.old b1); have LS := hid (LS.out.old b1); have P := hid (P.out.old b1); have LP := hid (LP.out.old b1); have LQ := hid (LQ.out.old b1); have QQ := hid (QQ.out.old b1); have B := hid (B.out.trans (b1.mono B.out.size)); have q0 := LS.out.c0; have q1 := LS.out.c1; have q2 := LP.out.c0; have q3 := LP.out.c1; have q4 := LQ.out.c0; have q5 := LQ.out.c1; have q6 := LY.out.c0; have q7 := LY.out.c1; have q8 := LX.out.c0; have q9 := LX.out.c1; clear b1) | (go_at_call 11; (with_reducible refine (fmt_big P.out PP.out HZP.out).mono ?_); rintro e wn ⟨rfl, b1⟩; have R := hid (R.out.old b1); have PP := hid (PP.out.old b1); have X := hid (X.out.old b1); have LX := hid (LX.out.old b1); have Y := hid (Y.out.old b1); have LY := hid (LY.out.old b1); have ZZ := hid (ZZ.out.old b1); have LZ := hid (LZ.out.old b1); have SS := hid (SS.out.old b1); have LS := hid (LS.out.old b1); have P := hid (P.out.old b1); have LP := hid (LP.out.old b1); have LQ := hid (LQ.out.old b1); have QQ := hid (QQ.out.old b1); have B := hid (B.out.trans (b1.mono B.out.size)); have q0 := LS.out.c0; have q1 := LS.out.c1; have q2 := LP.out.c0; have q3 := LP.out.c1; have q4 := LQ.out.c0; have q5 := LQ.out.c1; have q6 := LY.out.c0; have q7 := LY.out.c1; have q8 := LX.out.c0; have q9 := LX.out.c1; clear b1) | (go_at_call 11; (with_reducible refine (fmt_big QQ.out PP.out HZP.out).mono ?_); rintro e wn ⟨rfl, b1⟩; have R := hid (R.out.old b1); have PP := hid (PP.out.old b1); have X := hid (X.out.old b1); have LX := hid (LX.out.old b1); have Y := hid (Y.out.old b1); have LY := hid (LY.out.old b1); have ZZ := hid (ZZ.out.old b1); have LZ := hid (LZ.out.old b1); have SS := hid (SS.out.old b1); have LS := hid (LS.out.old b1); have P := hid (P.out.old b1); have LP := hid (LP.out.old b1); have LQ := hid (LQ.out.old b1); have QQ := hid (QQ.out.old b1); have B := hid (B.out.trans (b1.mono B.out.size)); have q0 := LS.out.c0; have q1 := LS.out.c1; have q2 := LP.out.c0; have q3 := LP.out.c1; have q4 := LQ.out.c0; have q5 := LQ.out.c1; have q6 := LY.out.c0; have q7 := LY.out.c1; have q8 := LX.out.c0; have q9 := LX.out.c1; clear b1) | (go_at_call 12; (with_reducible refine (sub_big SS.out Y.out F.out.2.2.2.2.2.2.1).mono ?_); rintro e wn ⟨st1, at1, nt1, ct1, rfl, hv, b1⟩; rw [F.out.2.2.2.2.2.2.2] at hv; have T1 := hid hv; have R := hid (R.out.old b1); have PP := hid (PP.out.old b1); have X := hid (X.out.old b1); have LX := hid (LX.out.old b1); have Y := hid (Y.out.old b1); have LY := hid (LY.out.old b1); have ZZ := hid (ZZ.out.old b1); have LZ := hid (LZ.out.old b1); have SS := hid (SS.out.old b1); have LS := hid (LS.out.old b1); have P := hid (P.out.old b1); have LP := hid (LP.out.old b1); have LQ := hid (LQ.out.old b1); have QQ := hid (QQ.out.old b1); have B := hid (B.out.trans (b1.mono B.out.size)); have q0 := LS.out.c0; have q1 := LS.out.c1; have q2 := LP.out.c0; have q3 := LP.out.c1; have q4 := LQ.out.c0; have q5 := LQ.out.c1; have q6 := LY.out.c0; have q7 := LY.out.c1; have q8 := LX.out.c0; have q9 := LX.out.c1; clear hv b1) | (go_at_call 11; (with_reducible refine (fmt_big T1.out PP.out HZX.out).mono ?_); rintro e wn ⟨rfl, b1⟩; have R := hid (R.out.old b1); have PP := hid (PP.out.old b1); have X := hid (X.out.old b1); have LX := hid (LX.out.old b1); have Y := hid (Y.out.old b1); have LY := hid (LY.out.old b1); have ZZ := hid (ZZ.out.old b1); have LZ := hid (LZ.out.old b1); have SS := hid (SS.out.old b1); have LS := hid (LS.out.old b1); have P := hid (P.out.old b1); have LP := hid (LP.out.old b1); have LQ := hid (LQ.out.old b1); have QQ := hid (QQ.out.old b1); have B := hid (B.out.trans (b1.mono B.out.size)); have q0 := LS.out.c0; have q1 := LS.out.c1; have q2 := LP.out.c0; have q3 := LP.out.c1; have q4 := LQ.out.c0; have q5 := LQ.out.c1; have q6 := LY.out.c0; have q7 := LY.out.c1; have q8 := LX.out.c0; have q9 := LX.out.c1; clear b1) | (go_at_call 11; (with_reducible refine (fmt_big X.out PP.out HZX.out).mono ?_); rintro e wn ⟨rfl, b1⟩; have R := hid (R.out.old b1); have PP := hid (PP.out.old b1); have X := hid (X.out.old b1); have LX := hid (LX.out.old b1); have Y := hid (Y.out.old b1); have LY := hid (LY.out.old b1); have ZZ := hid (ZZ.out.old b1); have LZ := hid (LZ.out.old b1); have SS := hid (SS.out.old b1); have LS := hid (LS.out.old b1); have P := hid (P.out.old b1); have LP := hid (LP.out.old b1); have LQ := hid (LQ.out.old b1); have QQ := hid (QQ.out.old b1); have B := hid (B.out.trans (b1.mono B.out.size)); have q0 := LS.out.c0; have q1 := LS.out.c1; have q2 := LP.out.c0; have q3 := LP.out.c1; have q4 := LQ.out.c0; have q5 := LQ.out.c1; have q6 := LY.out.c0; have q7 := LY.out.c1; have q8 := LX.out.c0; have q9 := LX.out.c1; clear b1) | (go_at_call 13; (with_reducible refine (cmp_big X.out Y.out HDN.out).mono ?_); rintro e wn ⟨rfl, b1⟩; have R := hid (R.out.old b1); have PP := hid (PP.out.old b1); have X := hid (X.out.old b1); have LX := hid (LX.out.old b1); have Y := hid (Y.out.old b1); have LY := hid (LY.out.old b1); have ZZ := hid (ZZ.out.old b1); have LZ := hid (LZ.out.old b1); have SS := hid (SS.out.old b1); have LS := hid (LS.out.old b1); have P := hid (P.out.old b1); have LP := hid (LP.out.old b1); have LQ := hid (LQ.out.old b1); have QQ := hid (QQ.out.old b1); have B := hid (B.out.trans (b1.mono B.out.size)); have q0 := LS.out.c0; have q1 := LS.out.c1; have q2 := LP.out.c0; have q3 := LP.out.c1; have q4 := LQ.out.c0; have q5 := LQ.out.c1; have q6 := LY.out.c0; have q7 := LY.out.c1; have q8 := LX.out.c0; have q9 := LX.out.c1; clear b1) | (go_at_call 14; (with_reducible refine (neg_big X.out).mono ?_); rintro e wn ⟨st2, at2, nt2, ct2, rfl, hv, b1⟩; have T2 := hid hv; have R := hid (R.out.old b1); have PP := hid (PP.out.old b1); have X := hid (X.out.old b1); have LX := hid (LX.out.old b1); have Y := hid (Y.out.old b1); have LY := hid (LY.out.old b1); have ZZ := hid (ZZ.out.old b1); have LZ := hid (LZ.out.old b1); have SS := hid (SS.out.old b1); have LS := hid (LS.out.old b1); have P := hid (P.out.old b1); have LP := hid (LP.out.old b1); have LQ := hid (LQ.out.old b1); have QQ := hid (QQ.out.old b1); have B := hid (B.out.trans (b1.mono B.out.size)); have q0 := LS.out.c0; have q1 := LS.out.c1; have q2 := LP.out.c0; have q3 := LP.out.c1; have q4 := LQ.out.c0; have q5 := LQ.out.c1; have q6 := LY.out.c0; have q7 := LY.out.c1; have q8 := LX.out.c0; have q9 := LX.out.c1; clear hv b1) | (go_at_call 14; (with_reducible refine (neg_big Y.out).mono ?_); rintro e wn ⟨st3, at3, nt3, ct3, rfl, hv, b1⟩; have T3 := hid hv; have T2 := hid (T2.out.old b1); have R := hid (R.out.old b1); have PP := hid (PP.out.old b1); have X := hid (X.out.old b1); have LX := hid (LX.out.old b1); have Y := hid (Y.out.old b1); have LY := hid (LY.out.old b1); have ZZ := hid (ZZ.out.old b1); have LZ := hid (LZ.out.old b1); have SS := hid (SS.out.old b1); have LS := hid (LS.out.old b1); have P := hid (P.out.old b1); have LP := hid (LP.out.old b1); have LQ := hid (LQ.out.old b1); have QQ := hid (QQ.out.old b1); have B := hid (B.out.trans (b1.mono B.out.size)); have q0 := LS.out.c0; have q1 := LS.out.c1; have q2 := LP.out.c0; have q3 := LP.out.c1; have q4 := LQ.out.c0; have q5 := LQ.out.c1; have q6 := LY.out.c0; have q7 := LY.out.c1; have q8 := LX.out.c0; have q9 := LX.out.c1; clear hv b1) | (go_at_call 13; (with_reducible refine (cmp_big T2.out T3.out HD.out).mono ?_); rintro e wn ⟨rfl, b1⟩; have R := hid (R.out.old b1); have PP := hid (PP.out.old b1); have X := hid (X.out.old b1); have LX := hid (LX.out.old b1); have Y := hid (Y.out.old b1); have LY := hid (LY.out.old b1); have ZZ := hid (ZZ.out.old b1); have LZ := hid (LZ.out.old b1); have SS := hid (SS.out.old b1); have LS := hid (LS.out.old b1); have P := hid (P.out.old b1); have LP := hid (LP.out.old b1); have LQ := hid (LQ.out.old b1); have QQ := hid (QQ.out.old b1); have B := hid (B.out.trans (b1.mono B.out.size)); have q0 := LS.out.c0; have q1 := LS.out.c1; have q2 := LP.out.c0; have q3 := LP.out.c1; have q4 := LQ.out.c0; have q5 := LQ.out.c1; have q6 := LY.out.c0; have q7 := LY.out.c1; have q8 := LX.out.c0; have q9 := LX.out.c1; clear b1) | (go_at_call 15; (with_reducible refine (of_big (n := -7) (by decide) (by decide) _).mono ?_); rintro e wn ⟨st4, at4, nt4, ct4, rfl, hv, b1⟩; have T4 := hid hv; have R := hid (R.out.old b1); have PP := hid (PP.out.old b1); have X := hid (X.out.old b1); have LX := hid (LX.out.old b1); have Y := hid (Y.out.old b1); have LY := hid (LY.out.old b1); have ZZ := hid (ZZ.out.old b1); have LZ := hid (LZ.out.old b1); have SS := hid (SS.out.old b1); have LS := hid (LS.out.old b1); have P := hid (P.out.old b1); have LP := hid (LP.out.old b1); have LQ := hid (LQ.out.old b1); have QQ := hid (QQ.out.old b1); have B := hid (B.out.trans (b1.mono B.out.size)); have q0 := LS.out.c0; have q1 := LS.out.c1; have q2 := LP.out.c0; have q3 := LP.out.c1; have q4 := LQ.out.c0; have q5 := LQ.out.c1; have q6 := LY.out.c0; have q7 := LY.out.c1; have q8 := LX.out.c0; have q9 := LX.out.c1; clear hv b1) | (go_at_call 11; (with_reducible refine (fmt_big T4.out PP.out fmt_m7.symm).mono ?_); rintro e wn ⟨rfl, b1⟩; have R := hid (R.out.old b1); have PP := hid (PP.out.old b1); have X := hid (X.out.old b1); have LX := hid (LX.out.old b1); have Y := hid (Y.out.old b1); have LY := hid (LY.out.old b1); have ZZ := hid (ZZ.out.old b1); have LZ := hid (LZ.out.old b1); have SS := hid (SS.out.old b1); have LS := hid (LS.out.old b1); have P := hid (P.out.old b1); have LP := hid (LP.out.old b1); have LQ := hid (LQ.out.old b1); have QQ := hid (QQ.out.old b1); have B := hid (B.out.trans (b1.mono B.out.size)); have q0 := LS.out.c0; have q1 := LS.out.c1; have q2 := LP.out.c0; have q3 := LP.out.c1; have q4 := LQ.out.c0; have q5 := LQ.out.c1; have q6 := LY.out.c0; have q7 := LY.out.c1; have q8 := LX.out.c0; have q9 := LX.out.c1; clear b1))
    go_wp2
    go_ret
    exact ⟨rfl, B.out⟩

end Go.Proofs.YtleechafachkaaaDoor
