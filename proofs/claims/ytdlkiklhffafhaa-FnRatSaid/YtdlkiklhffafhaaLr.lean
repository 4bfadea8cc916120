/- The walk of the law FnRat. -/
import Derived.Test.YtdlkiklhffafhaaMtu
namespace Go.Proofs.Ytdlkiklhffafhaa
open Go.RowKit
open Go.Lib (hid)
set_option linter.unusedVariables false

theorem eq_same {w : World} {s t : Bool} {v u v' u' : Value} {x : Rat} (h : RatX w s v u x) (h' : RatX w t v' u' x) : Calls Try.prog 23 #[.agg #[.bool s, v, u], .agg #[.bool t, v', u']] w (RetB (.bool true) w) :=
  eq_rat h h' (decide_eq_true rfl)
set_option maxRecDepth 100000 in
set_option maxHeartbeats 25600000 in
theorem law_FnRat (a : Option Addr) (n c : Nat) (Z : List Int) (hn : n ≤ maxLen) (w : World) (hr : ByteRow w a n Z) :
    Calls Try.prog 3 #[.slice a n c] w fun e w' => e = .returned (.bool true) ∧ Below w.heap.size w w' := by
  unfold maxLen at hn
  by_cases hA : 1048576 < (n : Int)
  · go_enter Try.func3, Try.ntmps3
    go_wp2
    go_ret
    exact ⟨rfl, Below.refl _ _⟩
  have hZ : Z.length ≤ 1048576 := by have := hr.1; omega
  have KM := hid (fun (W : World) (h : ByteRow W a n Z) (t : Int) t0 t1 => MakeRat_any a n c Z t hZ W h t0 t1)
  have RW := hid hr
  have B := hid (Below.refl w.heap.size w)
  clear hr
  go_enter Try.func3, Try.ntmps3
  go_wp2_with fail
  (with_reducible refine (KM.out _ RW.out 1 (by decide) (by decide)).mono ?_)
  rintro e w1 ⟨x, v1, u1, hx, rfl, i1, i2, bw⟩
  have Sx := hid hx
  have RW := hid (ByteRow_below RW.out bw)
  have B := hid (B.out.trans (bw.mono B.out.size))
  have Rx := hid (RatX_of i1 i2 (szq_fit hx (by decide)))
  obtain ⟨a1, c1, rfl, -⟩ := Ints_form i1
  obtain ⟨b1, d1, rfl, -⟩ := Ints_form i2
  obtain ⟨g1, hg1⟩ : ∃ zz, zz = gzs x.num := ⟨_, rfl⟩
  obtain ⟨n1, hn1⟩ : ∃ zz, zz = (gzl x.num).length := ⟨_, rfl⟩
  obtain ⟨m1, hm1⟩ : ∃ zz, zz = (gzl (x.den : Int)).length := ⟨_, rfl⟩
  rw [← hg1, ← hn1, ← hm1] at Rx
  rw [← hg1]
  try rw [← hn1]
  try rw [← hm1]
  clear i1 i2 bw hx hg1 hn1 hm1
  have Rx := hid (Rx.out.old (below_new' (o := .cells #[.bool g1, .slice a1 n1 c1, .slice b1 m1 d1] 27)))
  have RW := hid (ByteRow_below RW.out (below_new' (o := .cells #[.bool g1, .slice a1 n1 c1, .slice b1 m1 d1] 27)))
  have B := hid (B.out.alloc B.out.size (.cells #[.bool g1, .slice a1 n1 c1, .slice b1 m1 d1] 27))
  have Lx := hid (LocA.new (w := w1) (T := 27) (cs := #[.bool g1, .slice a1 n1 c1, .slice b1 m1 d1]))
  go_wp2_with fail
  (with_reducible refine (KM.out _ RW.out 2 (by decide) (by decide)).mono ?_)
  rintro e w2 ⟨y, v2, u2, hx, rfl, i1, i2, bw⟩
  have Sy := hid hx
  have RW := hid (ByteRow_below RW.out bw)
  have Rx := hid (Rx.out.old bw)
  have Lx := hid (Lx.out.old bw)
  have B := hid (B.out.trans (bw.mono B.out.size))
  have Ry := hid (RatX_of i1 i2 (szq_fit hx (by decide)))
  obtain ⟨a2, c2, rfl, -⟩ := Ints_form i1
  obtain ⟨b2, d2, rfl, -⟩ := Ints_form i2
  obtain ⟨g2, hg2⟩ : ∃ zz, zz = gzs y.num := ⟨_, rfl⟩
  obtain ⟨n2, hn2⟩ : ∃ zz, zz = (gzl y.num).length := ⟨_, rfl⟩
  obtain ⟨m2, hm2⟩ : ∃ zz, zz = (gzl (y.den : Int)).length := ⟨_, rfl⟩
  rw [← hg2, ← hn2, ← hm2] at Ry
  rw [← hg2]
  try rw [← hn2]
  try rw [← hm2]
  clear i1 i2 bw hx hg2 hn2 hm2
  have Rx := hid (Rx.out.old (below_new' (o := .cells #[.bool g2, .slice a2 n2 c2, .slice b2 m2 d2] 27)))
  have Lx := hid (Lx.out.old (below_new' (o := .cells #[.bool g2, .slice a2 n2 c2, .slice b2 m2 d2] 27)))
  have Ry := hid (Ry.out.old (below_new' (o := .cells #[.bool g2, .slice a2 n2 c2, .slice b2 m2 d2] 27)))
  have RW := hid (ByteRow_below RW.out (below_new' (o := .cells #[.bool g2, .slice a2 n2 c2, .slice b2 m2 d2] 27)))
  have B := hid (B.out.alloc B.out.size (.cells #[.bool g2, .slice a2 n2 c2, .slice b2 m2 d2] 27))
  have Ly := hid (LocA.new (w := w2) (T := 27) (cs := #[.bool g2, .slice a2 n2 c2, .slice b2 m2 d2]))
  go_wp2_with fail
  (with_reducible refine (KM.out _ RW.out 3 (by decide) (by decide)).mono ?_)
  rintro e w3 ⟨z, v3, u3, hx, rfl, i1, i2, bw⟩
  have Sz := hid hx
  have RW := hid (ByteRow_below RW.out bw)
  have Rx := hid (Rx.out.old bw)
  have Lx := hid (Lx.out.old bw)
  have Ry := hid (Ry.out.old bw)
  have Ly := hid (Ly.out.old bw)
  have B := hid (B.out.trans (bw.mono B.out.size))
  have Rz := hid (RatX_of i1 i2 (szq_fit hx (by decide)))
  obtain ⟨a3, c3, rfl, -⟩ := Ints_form i1
  obtain ⟨b3, d3, rfl, -⟩ := Ints_form i2
  obtain ⟨g3, hg3⟩ : ∃ zz, zz = gzs z.num := ⟨_, rfl⟩
  obtain ⟨n3, hn3⟩ : ∃ zz, zz = (gzl z.num).length := ⟨_, rfl⟩
  obtain ⟨m3, hm3⟩ : ∃ zz, zz = (gzl (z.den : Int)).length := ⟨_, rfl⟩
  rw [← hg3, ← hn3, ← hm3] at Rz
  rw [← hg3]
  try rw [← hn3]
  try rw [← hm3]
  clear i1 i2 bw hx hg3 hn3 hm3
  have Rx := hid (Rx.out.old (below_new' (o := .cells #[.bool g3, .slice a3 n3 c3, .slice b3 m3 d3] 27)))
  have Lx := hid (Lx.out.old (below_new' (o := .cells #[.bool g3, .slice a3 n3 c3, .slice b3 m3 d3] 27)))
  have Ry := hid (Ry.out.old (below_new' (o := .cells #[.bool g3, .slice a3 n3 c3, .slice b3 m3 d3] 27)))
  have Ly := hid (Ly.out.old (below_new' (o := .cells #[.bool g3, .slice a3 n3 c3, .slice b3 m3 d3] 27)))
  have Rz := hid (Rz.out.old (below_new' (o := .cells #[.bool g3, .slice a3 n3 c3, .slice b3 m3 d3] 27)))
  have RW := hid (ByteRow_below RW.out (below_new' (o := .cells #[.bool g3, .slice a3 n3 c3, .slice b3 m3 d3] 27)))
  have B := hid (B.out.alloc B.out.size (.cells #[.bool g3, .slice a3 n3 c3, .slice b3 m3 d3] 27))
  have Lz := hid (LocA.new (w := w3) (T := 27) (cs := #[.bool g3, .slice a3 n3 c3, .slice b3 m3 d3]))
  clear RW KM
  have sx := Sx.out
  have sy := Sy.out
  have sz := Sz.out
  have f1 := hid (szq_fit (szq_add sx sy) (by decide))
  have f2 := hid (szq_fit (szq_mul sz (szq_add sx sy)) (by decide))
  have f3 := hid (szq_fit (szq_mul sz sx) (by decide))
  have f4 := hid (szq_fit (szq_mul sz sy) (by decide))
  have f5 := hid (szq_fit (szq_add (szq_mul sz sx) (szq_mul sz sy)) (by decide))
  have f6 := hid (szq_fit sx (by decide))
  have f7 := hid (szq_fit (szq_mul sx sy) (by decide))
  clear sx sy sz
  have E1 := hid (decide_eq_true (show z * (x + y) = z * x + z * y from Rat.mul_add z x y))
  have E2 := hid (show x + y - y = x from add_sub_self x y)
  have E3 := hid (show y ≠ 0 → x * y / y = x from fun h => mul_div_self h)
  have E4 := hid (show - -x = x from Rat.neg_neg x)
  have E5 := hid (show sgn y.num = 0 ↔ y = 0 from by
    rw [← Rat.num_eq_zero]
    rcases sgn_cases y.num with ⟨h1, h2⟩ | ⟨h1, h2⟩ | ⟨h1, h2⟩ <;> omega)
  obtain ⟨W, hW⟩ : ∃ W, W = w3.alloc (.cells #[.bool g3, .slice a3 n3 c3, .slice b3 m3 d3] 27) := ⟨_, rfl⟩
  have HW := hid hW
  rw [← hW] at Rx Ry Rz Lx Ly Lz B
  clear hW
  go_upto_region 6 with fail
  rw [← HW.out]
  go_cut [6] (fun sl wx => LaidQ W (z * (x + y)) sl wx)
  case first =>
    have RxD := hid (Rx.out.old (Below_drew1 (Below.refl _ _)))
    have RxE := hid (Rx.out.old (Below_drew1 (below_new' (o := .cells #[.bool false, .slice none 0 0, .slice none 0 0] 27))))
    have LxD := hid (Lx.out.old (Below_drew1 (Below.refl _ _)))
    have LxE := hid (Lx.out.old (Below_drew1 (below_new' (o := .cells #[.bool false, .slice none 0 0, .slice none 0 0] 27))))
    have RyD := hid (Ry.out.old (Below_drew1 (Below.refl _ _)))
    have RyE := hid (Ry.out.old (Below_drew1 (below_new' (o := .cells #[.bool false, .slice none 0 0, .slice none 0 0] 27))))
    have LyD := hid (Ly.out.old (Below_drew1 (Below.refl _ _)))
    have LyE := hid (Ly.out.old (Below_drew1 (below_new' (o := .cells #[.bool false, .slice none 0 0, .slice none 0 0] 27))))
    have RzD := hid (Rz.out.old (Below_drew1 (Below.refl _ _)))
    have RzE := hid (Rz.out.old (Below_drew1 (below_new' (o := .cells #[.bool false, .slice none 0 0, .slice none 0 0] 27))))
    have LzD := hid (Lz.out.old (Below_drew1 (Below.refl _ _)))
    have LzE := hid (Lz.out.old (Below_drew1 (below_new' (o := .cells #[.bool false, .slice none 0 0, .slice none 0 0] 27))))
    have CD := hid (show Below W.heap.size W W.drew from Below_drew1 (Below.refl _ _))
    have CE := hid (show Below W.heap.size W (W.alloc (.cells #[.bool false, .slice none 0 0, .slice none 0 0] 27)).drew from Below_drew1 below_new')
    have NE := hid (show LocA 27 (W.alloc (.cells #[.bool false, .slice none 0 0, .slice none 0 0] 27)).drew W.heap.size #[.bool false, .slice none 0 0, .slice none 0 0] from LocA.new)
    have hlz := Lz.out.lt
    have hlx := Lx.out.lt
    have hly := Ly.out.lt
    have q0 := LzD.out.c 0 rfl
    have q1 := LzD.out.c 1 rfl
    have q2 := LzD.out.c 2 rfl
    have q3 := LxD.out.c 0 rfl
    have q4 := LxD.out.c 1 rfl
    have q5 := LxD.out.c 2 rfl
    have q6 := LyD.out.c 0 rfl
    have q7 := LyD.out.c 1 rfl
    have q8 := LyD.out.c 2 rfl
    go_region_held3 (fun w' => w'.cell? ⟨w3.heap.size, 0, none⟩ = some (.bool g3) ∧ w'.cell? ⟨w3.heap.size, 1, none⟩ = some (.slice a3 n3 c3) ∧ w'.cell? ⟨w3.heap.size, 2, none⟩ = some (.slice b3 m3 d3) ∧ w'.cell? ⟨w1.heap.size, 0, none⟩ = some (.bool g1) ∧ w'.cell? ⟨w1.heap.size, 1, none⟩ = some (.slice a1 n1 c1) ∧ w'.cell? ⟨w1.heap.size, 2, none⟩ = some (.slice b1 m1 d1) ∧ w'.cell? ⟨w2.heap.size, 0, none⟩ = some (.bool g2) ∧ w'.cell? ⟨w2.heap.size, 1, none⟩ = some (.slice a2 n2 c2) ∧ w'.cell? ⟨w2.heap.size, 2, none⟩ = some (.slice b2 m2 d2)) (first | exact ⟨q0, q1, q2, q3, q4, q5, q6, q7, q8⟩ | exact ⟨LzE.out.c 0 rfl, LzE.out.c 1 rfl, LzE.out.c 2 rfl, LxE.out.c 0 rfl, LxE.out.c 1 rfl, LxE.out.c 2 rfl, LyE.out.c 0 rfl, LyE.out.c 1 rfl, LyE.out.c 2 rfl⟩ | exact ⟨(LzC.out.new1).c 0 rfl, (LzC.out.new1).c 1 rfl, (LzC.out.new1).c 2 rfl, (LxC.out.new1).c 0 rfl, (LxC.out.new1).c 1 rfl, (LxC.out.new1).c 2 rfl, (LyC.out.new1).c 0 rfl, (LyC.out.new1).c 1 rfl, (LyC.out.new1).c 2 rfl⟩ | exact ⟨(cell_set3 (by have := NZ.out.2; omega)).trans q0, (cell_set3 (by have := NZ.out.2; omega)).trans q1, (cell_set3 (by have := NZ.out.2; omega)).trans q2, (cell_set3 (by have := NZ.out.2; omega)).trans q3, (cell_set3 (by have := NZ.out.2; omega)).trans q4, (cell_set3 (by have := NZ.out.2; omega)).trans q5, (cell_set3 (by have := NZ.out.2; omega)).trans q6, (cell_set3 (by have := NZ.out.2; omega)).trans q7, (cell_set3 (by have := NZ.out.2; omega)).trans q8⟩ | go_keep) (first | (go_at_call 21; (with_reducible refine (add_rat (by first | exact RxC.out | exact RxC.out.old (below_new' (o := .cells #[.bool false, .slice none 0 0, .slice none 0 0] 27)) | exact RxD.out | exact RxE.out) (by first | exact RyC.out | exact RyC.out.old (below_new' (o := .cells #[.bool false, .slice none 0 0, .slice none 0 0] 27)) | exact RyD.out | exact RyE.out) rfl f1.out).mono ?_); rintro e wq ⟨gs, aa, nn, cc, bb, mm, dd, rfl, hr, b1⟩; (try (first | (have NZ := hid (And.intro (NZ.out.1.old b1) NZ.out.2)) | (have NZ := hid (And.intro (NE.out.old b1) (show W.heap.size ≤ W.heap.size from Nat.le_refl _))) | (have NZ := hid (And.intro ((LocA.new (T := 27) (cs := #[.bool false, .slice none 0 0, .slice none 0 0])).old b1) CC.out.size)))); (first | (have CC := hid (CC.out.trans (b1.mono CC.out.size))) | (have CC := hid ((CC.out.alloc CC.out.size (.cells #[.bool false, .slice none 0 0, .slice none 0 0] 27)).trans (b1.mono (Nat.le_trans CC.out.size (by simp))))) | (have CC := hid (CD.out.trans (b1.mono CD.out.size))) | (have CC := hid (CE.out.trans (b1.mono CE.out.size)))); (first | (have RxC := hid (RxC.out.old b1)) | (have RxC := hid ((RxC.out.old (below_new' (o := .cells #[.bool false, .slice none 0 0, .slice none 0 0] 27))).old b1)) | (have RxC := hid (RxD.out.old b1)) | (have RxC := hid (RxE.out.old b1))); (first | (have LxC := hid (LxC.out.old b1)) | (have LxC := hid ((LxC.out.old (below_new' (o := .cells #[.bool false, .slice none 0 0, .slice none 0 0] 27))).old b1)) | (have LxC := hid (LxD.out.old b1)) | (have LxC := hid (LxE.out.old b1))); (first | (have RyC := hid (RyC.out.old b1)) | (have RyC := hid ((RyC.out.old (below_new' (o := .cells #[.bool false, .slice none 0 0, .slice none 0 0] 27))).old b1)) | (have RyC := hid (RyD.out.old b1)) | (have RyC := hid (RyE.out.old b1))); (first | (have LyC := hid (LyC.out.old b1)) | (have LyC := hid ((LyC.out.old (below_new' (o := .cells #[.bool false, .slice none 0 0, .slice none 0 0] 27))).old b1)) | (have LyC := hid (LyD.out.old b1)) | (have LyC := hid (LyE.out.old b1))); (first | (have RzC := hid (RzC.out.old b1)) | (have RzC := hid ((RzC.out.old (below_new' (o := .cells #[.bool false, .slice none 0 0, .slice none 0 0] 27))).old b1)) | (have RzC := hid (RzD.out.old b1)) | (have RzC := hid (RzE.out.old b1))); (first | (have LzC := hid (LzC.out.old b1)) | (have LzC := hid ((LzC.out.old (below_new' (o := .cells #[.bool false, .slice none 0 0, .slice none 0 0] 27))).old b1)) | (have LzC := hid (LzD.out.old b1)) | (have LzC := hid (LzE.out.old b1))); have RSC := hid hr; have q0 := LzC.out.c 0 rfl; have q1 := LzC.out.c 1 rfl; have q2 := LzC.out.c 2 rfl; have q3 := LxC.out.c 0 rfl; have q4 := LxC.out.c 1 rfl; have q5 := LxC.out.c 2 rfl; have q6 := LyC.out.c 0 rfl; have q7 := LyC.out.c 1 rfl; have q8 := LyC.out.c 2 rfl; clear hr b1) | (go_at_call 20; (with_reducible refine (mul_rat (by first | exact RzC.out | exact RzC.out.old (below_new' (o := .cells #[.bool false, .slice none 0 0, .slice none 0 0] 27)) | exact RzD.out | exact RzE.out) (by first | exact RSC.out | exact RSC.out.old (below_new' (o := .cells #[.bool false, .slice none 0 0, .slice none 0 0] 27)) | exact RSD.out | exact RSE.out) rfl f2.out).mono ?_); rintro e wq ⟨gs, aa, nn, cc, bb, mm, dd, rfl, hr, b1⟩; (try (first | (have NZ := hid (And.intro (NZ.out.1.old b1) NZ.out.2)) | (have NZ := hid (And.intro (NE.out.old b1) (show W.heap.size ≤ W.heap.size from Nat.le_refl _))) | (have NZ := hid (And.intro ((LocA.new (T := 27) (cs := #[.bool false, .slice none 0 0, .slice none 0 0])).old b1) CC.out.size)))); (first | (have CC := hid (CC.out.trans (b1.mono CC.out.size))) | (have CC := hid ((CC.out.alloc CC.out.size (.cells #[.bool false, .slice none 0 0, .slice none 0 0] 27)).trans (b1.mono (Nat.le_trans CC.out.size (by simp))))) | (have CC := hid (CD.out.trans (b1.mono CD.out.size))) | (have CC := hid (CE.out.trans (b1.mono CE.out.size)))); (first | (have RxC := hid (RxC.out.old b1)) | (have RxC := hid ((RxC.out.old (below_new' (o := .cells #[.bool false, .slice none 0 0, .slice none 0 0] 27))).old b1)) | (have RxC := hid (RxD.out.old b1)) | (have RxC := hid (RxE.out.old b1))); (first | (have LxC := hid (LxC.out.old b1)) | (have LxC := hid ((LxC.out.old (below_new' (o := .cells #[.bool false, .slice none 0 0, .slice none 0 0] 27))).old b1)) | (have LxC := hid (LxD.out.old b1)) | (have LxC := hid (LxE.out.old b1))); (first | (have RyC := hid (RyC.out.old b1)) | (have RyC := hid ((RyC.out.old (below_new' (o := .cells #[.bool false, .slice none 0 0, .slice none 0 0] 27))).old b1)) | (have RyC := hid (RyD.out.old b1)) | (have RyC := hid (RyE.out.old b1))); (first | (have LyC := hid (LyC.out.old b1)) | (have LyC := hid ((LyC.out.old (below_new' (o := .cells #[.bool false, .slice none 0 0, .slice none 0 0] 27))).old b1)) | (have LyC := hid (LyD.out.old b1)) | (have LyC := hid (LyE.out.old b1))); (first | (have RzC := hid (RzC.out.old b1)) | (have RzC := hid ((RzC.out.old (below_new' (o := .cells #[.bool false, .slice none 0 0, .slice none 0 0] 27))).old b1)) | (have RzC := hid (RzD.out.old b1)) | (have RzC := hid (RzE.out.old b1))); (first | (have LzC := hid (LzC.out.old b1)) | (have LzC := hid ((LzC.out.old (below_new' (o := .cells #[.bool false, .slice none 0 0, .slice none 0 0] 27))).old b1)) | (have LzC := hid (LzD.out.old b1)) | (have LzC := hid (LzE.out.old b1))); (first | (have RSC := hid (RSC.out.old b1)) | (have RSC := hid ((RSC.out.old (below_new' (o := .cells #[.bool false, .slice none 0 0, .slice none 0 0] 27))).old b1))); have RAC := hid hr; have q0 := LzC.out.c 0 rfl; have q1 := LzC.out.c 1 rfl; have q2 := LzC.out.c 2 rfl; have q3 := LxC.out.c 0 rfl; have q4 := LxC.out.c 1 rfl; have q5 := LxC.out.c 2 rfl; have q6 := LyC.out.c 0 rfl; have q7 := LyC.out.c 1 rfl; have q8 := LyC.out.c 2 rfl; (try (have f0 := NZ.out.1.f 0; have f1 := NZ.out.1.f 1; have f2 := NZ.out.1.f 2; have p0 := NZ.out.1.c 0 rfl; have p1 := NZ.out.1.c 1 rfl; have p2 := NZ.out.1.c 2 rfl)); clear hr b1))
    all_goals
      go_wp2_with fail
      go_meet
      first | exact LaidQ_a RAC.out CC.out | exact LaidQ_b NZ.out.1 NZ.out.2 RAC.out CC.out
  case rest =>
    generalize wc = w4 at hcut ⊢
    obtain ⟨g4x, g4, a4, n4, c4, b4, m4, d4, rfl, hL, hR, hg, b1⟩ := hcut
    have LA := hid hL
    have RA := hid hR
    have hg4 := hg
    have Rx := hid (Rx.out.old b1)
    have Lx := hid (Lx.out.old b1)
    have Ry := hid (Ry.out.old b1)
    have Ly := hid (Ly.out.old b1)
    have Rz := hid (Rz.out.old b1)
    have Lz := hid (Lz.out.old b1)
    have B := hid (B.out.trans (b1.mono B.out.size))
    clear hL hR b1 hg
    go_upto_region 7 with fail
    go_cut [7] (fun sl wx => LaidQ w4 (z * x + z * y) sl wx)
    case first =>
      have RxD := hid (Rx.out.old (Below_drew1 (Below.refl _ _)))
      have RxE := hid (Rx.out.old (Below_drew1 (below_new' (o := .cells #[.bool false, .slice none 0 0, .slice none 0 0] 27))))
      have LxD := hid (Lx.out.old (Below_drew1 (Below.refl _ _)))
      have LxE := hid (Lx.out.old (Below_drew1 (below_new' (o := .cells #[.bool false, .slice none 0 0, .slice none 0 0] 27))))
      have RyD := hid (Ry.out.old (Below_drew1 (Below.refl _ _)))
      have RyE := hid (Ry.out.old (Below_drew1 (below_new' (o := .cells #[.bool false, .slice none 0 0, .slice none 0 0] 27))))
      have LyD := hid (Ly.out.old (Below_drew1 (Below.refl _ _)))
      have LyE := hid (Ly.out.old (Below_drew1 (below_new' (o := .cells #[.bool false, .slice none 0 0, .slice none 0 0] 27))))
      have RzD := hid (Rz.out.old (Below_drew1 (Below.refl _ _)))
      have RzE := hid (Rz.out.old (Below_drew1 (below_new' (o := .cells #[.bool false, .slice none 0 0, .slice none 0 0] 27))))
      have LzD := hid (Lz.out.old (Below_drew1 (Below.refl _ _)))
      have LzE := hid (Lz.out.old (Below_drew1 (below_new' (o := .cells #[.bool false, .slice none 0 0, .slice none 0 0] 27))))
      have RAD := hid (RA.out.old (Below_drew1 (Below.refl _ _)))
      have RAE := hid (RA.out.old (Below_drew1 (below_new' (o := .cells #[.bool false, .slice none 0 0, .slice none 0 0] 27))))
      have LAD := hid (LA.out.old (Below_drew1 (Below.refl _ _)))
      have LAE := hid (LA.out.old (Below_drew1 (below_new' (o := .cells #[.bool false, .slice none 0 0, .slice none 0 0] 27))))
      have CD := hid (show Below w4.heap.size w4 w4.drew from Below_drew1 (Below.refl _ _))
      have CE := hid (show Below w4.heap.size w4 (w4.alloc (.cells #[.bool false, .slice none 0 0, .slice none 0 0] 27)).drew from Below_drew1 below_new')
      have NE := hid (show LocA 27 (w4.alloc (.cells #[.bool false, .slice none 0 0, .slice none 0 0] 27)).drew w4.heap.size #[.bool false, .slice none 0 0, .slice none 0 0] from LocA.new)
      have hlz := Lz.out.lt
      have hlx := Lx.out.lt
      have hly := Ly.out.lt
      have q0 := LzD.out.c 0 rfl
      have q1 := LzD.out.c 1 rfl
      have q2 := LzD.out.c 2 rfl
      have q3 := LxD.out.c 0 rfl
      have q4 := LxD.out.c 1 rfl
      have q5 := LxD.out.c 2 rfl
      have q6 := LyD.out.c 0 rfl
      have q7 := LyD.out.c 1 rfl
      have q8 := LyD.out.c 2 rfl
      go_region_held3 (fun w' => w'.cell? ⟨w3.heap.size, 0, none⟩ = some (.bool g3) ∧ w'.cell? ⟨w3.heap.size, 1, none⟩ = some (.slice a3 n3 c3) ∧ w'.cell? ⟨w3.heap.size, 2, none⟩ = some (.slice b3 m3 d3) ∧ w'.cell? ⟨w1.heap.size, 0, none⟩ = some (.bool g1) ∧ w'.cell? ⟨w1.heap.size, 1, none⟩ = some (.slice a1 n1 c1) ∧ w'.cell? ⟨w1.heap.size, 2, none⟩ = some (.slice b1 m1 d1) ∧ w'.cell? ⟨w2.heap.size, 0, none⟩ = some (.bool g2) ∧ w'.cell? ⟨w2.heap.size, 1, none⟩ = some (.slice a2 n2 c2) ∧ w'.cell? ⟨w2.heap.size, 2, none⟩ = some (.slice b2 m2 d2)) (first | exact ⟨q0, q1, q2, q3, q4, q5, q6, q7, q8⟩ | exact ⟨LzE.out.c 0 rfl, LzE.out.c 1 rfl, LzE.out.c 2 rfl, LxE.out.c 0 rfl, LxE.out.c 1 rfl, LxE.out.c 2 rfl, LyE.out.c 0 rfl, LyE.out.c 1 rfl, LyE.out.c 2 rfl⟩ | exact ⟨(LzC.out.new1).c 0 rfl, (LzC.out.new1).c 1 rfl, (LzC.out.new1).c 2 rfl, (LxC.out.new1).c 0 rfl, (LxC.out.new1).c 1 rfl, (LxC.out.new1).c 2 rfl, (LyC.out.new1).c 0 rfl, (LyC.out.new1).c 1 rfl, (LyC.out.new1).c 2 rfl⟩ | exact ⟨(cell_set3 (by have := NZ.out.2; omega)).trans q0, (cell_set3 (by have := NZ.out.2; omega)).trans q1, (cell_set3 (by have := NZ.out.2; omega)).trans q2, (cell_set3 (by have := NZ.out.2; omega)).trans q3, (cell_set3 (by have := NZ.out.2; omega)).trans q4, (cell_set3 (by have := NZ.out.2; omega)).trans q5, (cell_set3 (by have := NZ.out.2; omega)).trans q6, (cell_set3 (by have := NZ.out.2; omega)).trans q7, (cell_set3 (by have := NZ.out.2; omega)).trans q8⟩ | go_keep) (first | (go_at_call 20; (with_reducible refine (mul_rat (by first | exact RzC.out | exact RzC.out.old (below_new' (o := .cells #[.bool false, .slice none 0 0, .slice none 0 0] 27)) | exact RzD.out | exact RzE.out) (by first | exact RxC.out | exact RxC.out.old (below_new' (o := .cells #[.bool false, .slice none 0 0, .slice none 0 0] 27)) | exact RxD.out | exact RxE.out) rfl f3.out).mono ?_); rintro e wq ⟨gs, aa, nn, cc, bb, mm, dd, rfl, hr, b1⟩; (try (first | (have NZ := hid (And.intro (NZ.out.1.old b1) NZ.out.2)) | (have NZ := hid (And.intro (NE.out.old b1) (show w4.heap.size ≤ w4.heap.size from Nat.le_refl _))) | (have NZ := hid (And.intro ((LocA.new (T := 27) (cs := #[.bool false, .slice none 0 0, .slice none 0 0])).old b1) CC.out.size)))); (first | (have CC := hid (CC.out.trans (b1.mono CC.out.size))) | (have CC := hid ((CC.out.alloc CC.out.size (.cells #[.bool false, .slice none 0 0, .slice none 0 0] 27)).trans (b1.mono (Nat.le_trans CC.out.size (by simp))))) | (have CC := hid (CD.out.trans (b1.mono CD.out.size))) | (have CC := hid (CE.out.trans (b1.mono CE.out.size)))); (first | (have RxC := hid (RxC.out.old b1)) | (have RxC := hid ((RxC.out.old (below_new' (o := .cells #[.bool false, .slice none 0 0, .slice none 0 0] 27))).old b1)) | (have RxC := hid (RxD.out.old b1)) | (have RxC := hid (RxE.out.old b1))); (first | (have LxC := hid (LxC.out.old b1)) | (have LxC := hid ((LxC.out.old (below_new' (o := .cells #[.bool false, .slice none 0 0, .slice none 0 0] 27))).old b1)) | (have LxC := hid (LxD.out.old b1)) | (have LxC := hid (LxE.out.old b1))); (first | (have RyC := hid (RyC.out.old b1)) | (have RyC := hid ((RyC.out.old (below_new' (o := .cells #[.bool false, .slice none 0 0, .slice none 0 0] 27))).old b1)) | (have RyC := hid (RyD.out.old b1)) | (have RyC := hid (RyE.out.old b1))); (first | (have LyC := hid (LyC.out.old b1)) | (have LyC := hid ((LyC.out.old (below_new' (o := .cells #[.bool false, .slice none 0 0, .slice none 0 0] 27))).old b1)) | (have LyC := hid (LyD.out.old b1)) | (have LyC := hid (LyE.out.old b1))); (first | (have RzC := hid (RzC.out.old b1)) | (have RzC := hid ((RzC.out.old (below_new' (o := .cells #[.bool false, .slice none 0 0, .slice none 0 0] 27))).old b1)) | (have RzC := hid (RzD.out.old b1)) | (have RzC := hid (RzE.out.old b1))); (first | (have LzC := hid (LzC.out.old b1)) | (have LzC := hid ((LzC.out.old (below_new' (o := .cells #[.bool false, .slice none 0 0, .slice none 0 0] 27))).old b1)) | (have LzC := hid (LzD.out.old b1)) | (have LzC := hid (LzE.out.old b1))); (first | (have RAC := hid (RAC.out.old b1)) | (have RAC := hid ((RAC.out.old (below_new' (o := .cells #[.bool false, .slice none 0 0, .slice none 0 0] 27))).old b1)) | (have RAC := hid (RAD.out.old b1)) | (have RAC := hid (RAE.out.old b1))); (first | (have LAC := hid (LAC.out.old b1)) | (have LAC := hid ((LAC.out.old (below_new' (o := .cells #[.bool false, .slice none 0 0, .slice none 0 0] 27))).old b1)) | (have LAC := hid (LAD.out.old b1)) | (have LAC := hid (LAE.out.old b1))); have RMC := hid hr; have q0 := LzC.out.c 0 rfl; have q1 := LzC.out.c 1 rfl; have q2 := LzC.out.c 2 rfl; have q3 := LxC.out.c 0 rfl; have q4 := LxC.out.c 1 rfl; have q5 := LxC.out.c 2 rfl; have q6 := LyC.out.c 0 rfl; have q7 := LyC.out.c 1 rfl; have q8 := LyC.out.c 2 rfl; clear hr b1) | (go_at_call 20; (with_reducible refine (mul_rat (by first | exact RzC.out | exact RzC.out.old (below_new' (o := .cells #[.bool false, .slice none 0 0, .slice none 0 0] 27)) | exact RzD.out | exact RzE.out) (by first | exact RyC.out | exact RyC.out.old (below_new' (o := .cells #[.bool false, .slice none 0 0, .slice none 0 0] 27)) | exact RyD.out | exact RyE.out) rfl f4.out).mono ?_); rintro e wq ⟨gs, aa, nn, cc, bb, mm, dd, rfl, hr, b1⟩; (try (first | (have NZ := hid (And.intro (NZ.out.1.old b1) NZ.out.2)) | (have NZ := hid (And.intro (NE.out.old b1) (show w4.heap.size ≤ w4.heap.size from Nat.le_refl _))) | (have NZ := hid (And.intro ((LocA.new (T := 27) (cs := #[.bool false, .slice none 0 0, .slice none 0 0])).old b1) CC.out.size)))); (first | (have CC := hid (CC.out.trans (b1.mono CC.out.size))) | (have CC := hid ((CC.out.alloc CC.out.size (.cells #[.bool false, .slice none 0 0, .slice none 0 0] 27)).trans (b1.mono (Nat.le_trans CC.out.size (by simp))))) | (have CC := hid (CD.out.trans (b1.mono CD.out.size))) | (have CC := hid (CE.out.trans (b1.mono CE.out.size)))); (first | (have RxC := hid (RxC.out.old b1)) | (have RxC := hid ((RxC.out.old (below_new' (o := .cells #[.bool false, .slice none 0 0, .slice none 0 0] 27))).old b1)) | (have RxC := hid (RxD.out.old b1)) | (have RxC := hid (RxE.out.old b1))); (first | (have LxC := hid (LxC.out.old b1)) | (have LxC := hid ((LxC.out.old (below_new' (o := .cells #[.bool false, .slice none 0 0, .slice none 0 0] 27))).old b1)) | (have LxC := hid (LxD.out.old b1)) | (have LxC := hid (LxE.out.old b1))); (first | (have RyC := hid (RyC.out.old b1)) | (have RyC := hid ((RyC.out.old (below_new' (o := .cells #[.bool false, .slice none 0 0, .slice none 0 0] 27))).old b1)) | (have RyC := hid (RyD.out.old b1)) | (have RyC := hid (RyE.out.old b1))); (first | (have LyC := hid (LyC.out.old b1)) | (have LyC := hid ((LyC.out.old (below_new' (o := .cells #[.bool false, .slice none 0 0, .slice none 0 0] 27))).old b1)) | (have LyC := hid (LyD.out.old b1)) | (have LyC := hid (LyE.out.old b1))); (first | (have RzC := hid (RzC.out.old b1)) | (have RzC := hid ((RzC.out.old (below_new' (o := .cells #[.bool false, .slice none 0 0, .slice none 0 0] 27))).old b1)) | (have RzC := hid (RzD.out.old b1)) | (have RzC := hid (RzE.out.old b1))); (first | (have LzC := hid (LzC.out.old b1)) | (have LzC := hid ((LzC.out.old (below_new' (o := .cells #[.bool false, .slice none 0 0, .slice none 0 0] 27))).old b1)) | (have LzC := hid (LzD.out.old b1)) | (have LzC := hid (LzE.out.old b1))); (first | (have RAC := hid (RAC.out.old b1)) | (have RAC := hid ((RAC.out.old (below_new' (o := .cells #[.bool false, .slice none 0 0, .slice none 0 0] 27))).old b1)) | (have RAC := hid (RAD.out.old b1)) | (have RAC := hid (RAE.out.old b1))); (first | (have LAC := hid (LAC.out.old b1)) | (have LAC := hid ((LAC.out.old (below_new' (o := .cells #[.bool false, .slice none 0 0, .slice none 0 0] 27))).old b1)) | (have LAC := hid (LAD.out.old b1)) | (have LAC := hid (LAE.out.old b1))); (first | (have RMC := hid (RMC.out.old b1)) | (have RMC := hid ((RMC.out.old (below_new' (o := .cells #[.bool false, .slice none 0 0, .slice none 0 0] 27))).old b1))); have RNC := hid hr; have q0 := LzC.out.c 0 rfl; have q1 := LzC.out.c 1 rfl; have q2 := LzC.out.c 2 rfl; have q3 := LxC.out.c 0 rfl; have q4 := LxC.out.c 1 rfl; have q5 := LxC.out.c 2 rfl; have q6 := LyC.out.c 0 rfl; have q7 := LyC.out.c 1 rfl; have q8 := LyC.out.c 2 rfl; clear hr b1) | (go_at_call 21; (with_reducible refine (add_rat (by first | exact RMC.out | exact RMC.out.old (below_new' (o := .cells #[.bool false, .slice none 0 0, .slice none 0 0] 27)) | exact RMD.out | exact RME.out) (by first | exact RNC.out | exact RNC.out.old (below_new' (o := .cells #[.bool false, .slice none 0 0, .slice none 0 0] 27)) | exact RND.out | exact RNE.out) rfl f5.out).mono ?_); rintro e wq ⟨gs, aa, nn, cc, bb, mm, dd, rfl, hr, b1⟩; (try (first | (have NZ := hid (And.intro (NZ.out.1.old b1) NZ.out.2)) | (have NZ := hid (And.intro (NE.out.old b1) (show w4.heap.size ≤ w4.heap.size from Nat.le_refl _))) | (have NZ := hid (And.intro ((LocA.new (T := 27) (cs := #[.bool false, .slice none 0 0, .slice none 0 0])).old b1) CC.out.size)))); (first | (have CC := hid (CC.out.trans (b1.mono CC.out.size))) | (have CC := hid ((CC.out.alloc CC.out.size (.cells #[.bool false, .slice none 0 0, .slice none 0 0] 27)).trans (b1.mono (Nat.le_trans CC.out.size (by simp))))) | (have CC := hid (CD.out.trans (b1.mono CD.out.size))) | (have CC := hid (CE.out.trans (b1.mono CE.out.size)))); (first | (have RxC := hid (RxC.out.old b1)) | (have RxC := hid ((RxC.out.old (below_new' (o := .cells #[.bool false, .slice none 0 0, .slice none 0 0] 27))).old b1)) | (have RxC := hid (RxD.out.old b1)) | (have RxC := hid (RxE.out.old b1))); (first | (have LxC := hid (LxC.out.old b1)) | (have LxC := hid ((LxC.out.old (below_new' (o := .cells #[.bool false, .slice none 0 0, .slice none 0 0] 27))).old b1)) | (have LxC := hid (LxD.out.old b1)) | (have LxC := hid (LxE.out.old b1))); (first | (have RyC := hid (RyC.out.old b1)) | (have RyC := hid ((RyC.out.old (below_new' (o := .cells #[.bool false, .slice none 0 0, .slice none 0 0] 27))).old b1)) | (have RyC := hid (RyD.out.old b1)) | (have RyC := hid (RyE.out.old b1))); (first | (have LyC := hid (LyC.out.old b1)) | (have LyC := hid ((LyC.out.old (below_new' (o := .cells #[.bool false, .slice none 0 0, .slice none 0 0] 27))).old b1)) | (have LyC := hid (LyD.out.old b1)) | (have LyC := hid (LyE.out.old b1))); (first | (have RzC := hid (RzC.out.old b1)) | (have RzC := hid ((RzC.out.old (below_new' (o := .cells #[.bool false, .slice none 0 0, .slice none 0 0] 27))).old b1)) | (have RzC := hid (RzD.out.old b1)) | (have RzC := hid (RzE.out.old b1))); (first | (have LzC := hid (LzC.out.old b1)) | (have LzC := hid ((LzC.out.old (below_new' (o := .cells #[.bool false, .slice none 0 0, .slice none 0 0] 27))).old b1)) | (have LzC := hid (LzD.out.old b1)) | (have LzC := hid (LzE.out.old b1))); (first | (have RAC := hid (RAC.out.old b1)) | (have RAC := hid ((RAC.out.old (below_new' (o := .cells #[.bool false, .slice none 0 0, .slice none 0 0] 27))).old b1)) | (have RAC := hid (RAD.out.old b1)) | (have RAC := hid (RAE.out.old b1))); (first | (have LAC := hid (LAC.out.old b1)) | (have LAC := hid ((LAC.out.old (below_new' (o := .cells #[.bool false, .slice none 0 0, .slice none 0 0] 27))).old b1)) | (have LAC := hid (LAD.out.old b1)) | (have LAC := hid (LAE.out.old b1))); (first | (have RMC := hid (RMC.out.old b1)) | (have RMC := hid ((RMC.out.old (below_new' (o := .cells #[.bool false, .slice none 0 0, .slice none 0 0] 27))).old b1))); (first | (have RNC := hid (RNC.out.old b1)) | (have RNC := hid ((RNC.out.old (below_new' (o := .cells #[.bool false, .slice none 0 0, .slice none 0 0] 27))).old b1))); have RBC := hid hr; have q0 := LzC.out.c 0 rfl; have q1 := LzC.out.c 1 rfl; have q2 := LzC.out.c 2 rfl; have q3 := LxC.out.c 0 rfl; have q4 := LxC.out.c 1 rfl; have q5 := LxC.out.c 2 rfl; have q6 := LyC.out.c 0 rfl; have q7 := LyC.out.c 1 rfl; have q8 := LyC.out.c 2 rfl; (try (have f0 := NZ.out.1.f 0; have f1 := NZ.out.1.f 1; have f2 := NZ.out.1.f 2; have p0 := NZ.out.1.c 0 rfl; have p1 := NZ.out.1.c 1 rfl; have p2 := NZ.out.1.c 2 rfl)); clear hr b1))
      all_goals
        go_wp2_with fail
        go_meet
        first | exact LaidQ_a RBC.out CC.out | exact LaidQ_b NZ.out.1 NZ.out.2 RBC.out CC.out
    case rest =>
      generalize wc = w5 at hcut ⊢
      obtain ⟨g5x, g5, a5, n5, c5, b5, m5, d5, rfl, hL, hR, hg, b1⟩ := hcut
      have LBq := hid hL
      have RBq := hid hR
      have hg5 := hg
      have Rx := hid (Rx.out.old b1)
      have Lx := hid (Lx.out.old b1)
      have Ry := hid (Ry.out.old b1)
      have Ly := hid (Ly.out.old b1)
      have Rz := hid (Rz.out.old b1)
      have Lz := hid (Lz.out.old b1)
      have RA := hid (RA.out.old b1)
      have LA := hid (LA.out.old b1)
      have B := hid (B.out.trans (b1.mono B.out.size))
      clear hL hR b1 hg
      go_wp2_with fail
      have Rx := hid (Rx.out.old (Below_drew1 (Below.refl _ _)))
      have Lx := hid (Lx.out.old (Below_drew1 (Below.refl _ _)))
      have Ry := hid (Ry.out.old (Below_drew1 (Below.refl _ _)))
      have Ly := hid (Ly.out.old (Below_drew1 (Below.refl _ _)))
      have Rz := hid (Rz.out.old (Below_drew1 (Below.refl _ _)))
      have Lz := hid (Lz.out.old (Below_drew1 (Below.refl _ _)))
      have RA := hid (RA.out.old (Below_drew1 (Below.refl _ _)))
      have LA := hid (LA.out.old (Below_drew1 (Below.refl _ _)))
      have RBq := hid (RBq.out.old (Below_drew1 (Below.refl _ _)))
      have LBq := hid (LBq.out.old (Below_drew1 (Below.refl _ _)))
      have B := hid (Below_drew1 B.out)
      have q0 := LA.out.c 0 rfl
      have q1 := LA.out.c 1 rfl
      have q2 := LA.out.c 2 rfl
      have q3 := LBq.out.c 0 rfl
      have q4 := LBq.out.c 1 rfl
      have q5 := LBq.out.c 2 rfl
      have q6 := Lx.out.c 0 rfl
      have q7 := Lx.out.c 1 rfl
      have q8 := Lx.out.c 2 rfl
      have q9 := Ly.out.c 0 rfl
      have q10 := Ly.out.c 1 rfl
      have q11 := Ly.out.c 2 rfl
      go_region_held3 (fun w' => w'.cell? ⟨g4x, 0, none⟩ = some (.bool g4) ∧ w'.cell? ⟨g4x, 1, none⟩ = some (.slice a4 n4 c4) ∧ w'.cell? ⟨g4x, 2, none⟩ = some (.slice b4 m4 d4) ∧ w'.cell? ⟨g5x, 0, none⟩ = some (.bool g5) ∧ w'.cell? ⟨g5x, 1, none⟩ = some (.slice a5 n5 c5) ∧ w'.cell? ⟨g5x, 2, none⟩ = some (.slice b5 m5 d5) ∧ w'.cell? ⟨w1.heap.size, 0, none⟩ = some (.bool g1) ∧ w'.cell? ⟨w1.heap.size, 1, none⟩ = some (.slice a1 n1 c1) ∧ w'.cell? ⟨w1.heap.size, 2, none⟩ = some (.slice b1 m1 d1) ∧ w'.cell? ⟨w2.heap.size, 0, none⟩ = some (.bool g2) ∧ w'.cell? ⟨w2.heap.size, 1, none⟩ = some (.slice a2 n2 c2) ∧ w'.cell? ⟨w2.heap.size, 2, none⟩ = some (.slice b2 m2 d2)) (first | exact ⟨q0, q1, q2, q3, q4, q5, q6, q7, q8, q9, q10, q11⟩) (first | (go_at_call 22; (with_reducible refine (okk_rat RA.out).mono ?_); rintro e wq ⟨rfl, b1⟩; have Rx := hid (Rx.out.old b1); have Lx := hid (Lx.out.old b1); have Ry := hid (Ry.out.old b1); have Ly := hid (Ly.out.old b1); have Rz := hid (Rz.out.old b1); have Lz := hid (Lz.out.old b1); have RA := hid (RA.out.old b1); have LA := hid (LA.out.old b1); have RBq := hid (RBq.out.old b1); have LBq := hid (LBq.out.old b1); (try have R1 := hid (R1.out.old b1)); (try have R2 := hid (R2.out.old b1)); have B := hid (B.out.trans (b1.mono B.out.size)); have q0 := LA.out.c 0 rfl; have q1 := LA.out.c 1 rfl; have q2 := LA.out.c 2 rfl; have q3 := LBq.out.c 0 rfl; have q4 := LBq.out.c 1 rfl; have q5 := LBq.out.c 2 rfl; have q6 := Lx.out.c 0 rfl; have q7 := Lx.out.c 1 rfl; have q8 := Lx.out.c 2 rfl; have q9 := Ly.out.c 0 rfl; have q10 := Ly.out.c 1 rfl; have q11 := Ly.out.c 2 rfl; clear b1) | (go_at_call 23; (with_reducible refine (eq_rat RA.out RBq.out E1.out).mono ?_); rintro e wq ⟨rfl, b1⟩; have Rx := hid (Rx.out.old b1); have Lx := hid (Lx.out.old b1); have Ry := hid (Ry.out.old b1); have Ly := hid (Ly.out.old b1); have Rz := hid (Rz.out.old b1); have Lz := hid (Lz.out.old b1); have RA := hid (RA.out.old b1); have LA := hid (LA.out.old b1); have RBq := hid (RBq.out.old b1); have LBq := hid (LBq.out.old b1); (try have R1 := hid (R1.out.old b1)); (try have R2 := hid (R2.out.old b1)); have B := hid (B.out.trans (b1.mono B.out.size)); have q0 := LA.out.c 0 rfl; have q1 := LA.out.c 1 rfl; have q2 := LA.out.c 2 rfl; have q3 := LBq.out.c 0 rfl; have q4 := LBq.out.c 1 rfl; have q5 := LBq.out.c 2 rfl; have q6 := Lx.out.c 0 rfl; have q7 := Lx.out.c 1 rfl; have q8 := Lx.out.c 2 rfl; have q9 := Ly.out.c 0 rfl; have q10 := Ly.out.c 1 rfl; have q11 := Ly.out.c 2 rfl; clear b1) | (go_at_call 21; (with_reducible refine (add_rat Rx.out Ry.out rfl f1.out).mono ?_); rintro e wq ⟨gs, aa, nn, cc, bb, mm, dd, rfl, hr, b1⟩; have Rx := hid (Rx.out.old b1); have Lx := hid (Lx.out.old b1); have Ry := hid (Ry.out.old b1); have Ly := hid (Ly.out.old b1); have Rz := hid (Rz.out.old b1); have Lz := hid (Lz.out.old b1); have RA := hid (RA.out.old b1); have LA := hid (LA.out.old b1); have RBq := hid (RBq.out.old b1); have LBq := hid (LBq.out.old b1); (try have R2 := hid (R2.out.old b1)); have R1 := hid hr; clear hr; have B := hid (B.out.trans (b1.mono B.out.size)); have q0 := LA.out.c 0 rfl; have q1 := LA.out.c 1 rfl; have q2 := LA.out.c 2 rfl; have q3 := LBq.out.c 0 rfl; have q4 := LBq.out.c 1 rfl; have q5 := LBq.out.c 2 rfl; have q6 := Lx.out.c 0 rfl; have q7 := Lx.out.c 1 rfl; have q8 := Lx.out.c 2 rfl; have q9 := Ly.out.c 0 rfl; have q10 := Ly.out.c 1 rfl; have q11 := Ly.out.c 2 rfl; clear b1) | (go_at_call 24; (with_reducible refine (sub_rat R1.out Ry.out E2.out f6.out).mono ?_); rintro e wq ⟨gs, aa, nn, cc, bb, mm, dd, rfl, hr, b1⟩; have Rx := hid (Rx.out.old b1); have Lx := hid (Lx.out.old b1); have Ry := hid (Ry.out.old b1); have Ly := hid (Ly.out.old b1); have Rz := hid (Rz.out.old b1); have Lz := hid (Lz.out.old b1); have RA := hid (RA.out.old b1); have LA := hid (LA.out.old b1); have RBq := hid (RBq.out.old b1); have LBq := hid (LBq.out.old b1); (try have R1 := hid (R1.out.old b1)); have R2 := hid hr; clear hr; have B := hid (B.out.trans (b1.mono B.out.size)); have q0 := LA.out.c 0 rfl; have q1 := LA.out.c 1 rfl; have q2 := LA.out.c 2 rfl; have q3 := LBq.out.c 0 rfl; have q4 := LBq.out.c 1 rfl; have q5 := LBq.out.c 2 rfl; have q6 := Lx.out.c 0 rfl; have q7 := Lx.out.c 1 rfl; have q8 := Lx.out.c 2 rfl; have q9 := Ly.out.c 0 rfl; have q10 := Ly.out.c 1 rfl; have q11 := Ly.out.c 2 rfl; clear b1) | (go_at_call 23; (with_reducible refine (eq_same R2.out Rx.out).mono ?_); rintro e wq ⟨rfl, b1⟩; have Rx := hid (Rx.out.old b1); have Lx := hid (Lx.out.old b1); have Ry := hid (Ry.out.old b1); have Ly := hid (Ly.out.old b1); have Rz := hid (Rz.out.old b1); have Lz := hid (Lz.out.old b1); have RA := hid (RA.out.old b1); have LA := hid (LA.out.old b1); have RBq := hid (RBq.out.old b1); have LBq := hid (LBq.out.old b1); (try have R1 := hid (R1.out.old b1)); (try have R2 := hid (R2.out.old b1)); have B := hid (B.out.trans (b1.mono B.out.size)); have q0 := LA.out.c 0 rfl; have q1 := LA.out.c 1 rfl; have q2 := LA.out.c 2 rfl; have q3 := LBq.out.c 0 rfl; have q4 := LBq.out.c 1 rfl; have q5 := LBq.out.c 2 rfl; have q6 := Lx.out.c 0 rfl; have q7 := Lx.out.c 1 rfl; have q8 := Lx.out.c 2 rfl; have q9 := Ly.out.c 0 rfl; have q10 := Ly.out.c 1 rfl; have q11 := Ly.out.c 2 rfl; clear b1))
      clear q0 q1 q2 q3 q4 q5 q6 q7 q8 q9 q10 q11
      have q0 := Ly.out.c 0 rfl
      have q1 := Ly.out.c 1 rfl
      have q2 := Ly.out.c 2 rfl
      obtain ⟨sg, hsg⟩ : ∃ z, z = sgn y.num := ⟨_, rfl⟩
      have HSG := hid (show sgn y.num = sg from hsg.symm)
      have HY := hid (show sg = 0 ↔ y = 0 by rw [hsg]; exact E5.out)
      clear hsg
      go_wp2_with fail
      (with_reducible refine (sign_rat Ry.out HSG.out).mono ?_)
      clear q0 q1 q2
      rintro e ws ⟨rfl, b1⟩
      have Rx := hid (Rx.out.old b1)
      have Lx := hid (Lx.out.old b1)
      have Ry := hid (Ry.out.old b1)
      have Ly := hid (Ly.out.old b1)
      have Rz := hid (Rz.out.old b1)
      have Lz := hid (Lz.out.old b1)
      have RA := hid (RA.out.old b1)
      have LA := hid (LA.out.old b1)
      have RBq := hid (RBq.out.old b1)
      have LBq := hid (LBq.out.old b1)
      have B := hid (B.out.trans (b1.mono B.out.size))
      clear b1
      by_cases hs : sg = 0
      · have h0 := hid (HY.out.1 hs)
        have hb : (sg == 0) = true := by simp [hs]
        clear hs
        have q0 := Lx.out.c 0 rfl
        have q1 := Lx.out.c 1 rfl
        have q2 := Lx.out.c 2 rfl
        have q3 := Ly.out.c 0 rfl
        have q4 := Ly.out.c 1 rfl
        have q5 := Ly.out.c 2 rfl
        go_wp2_with fail
        (with_reducible refine (div_zero_rat Rx.out Ry.out h0.out).mono ?_)
        rintro e wd ⟨a1, c1, b2, d1, rfl, hz, b1⟩
        have HZ := hid hz
        have B := hid (B.out.trans (b1.mono B.out.size))
        clear hz b1 q0 q1 q2 q3 q4 q5
        go_wp2_with fail
        (with_reducible refine (ok_zero HZ.out).mono ?_)
        rintro e we ⟨rfl, b1⟩
        have B := hid (B.out.trans (b1.mono B.out.size))
        clear b1
        go_wp2
        go_ret
        exact ⟨rfl, B.out⟩
      · have h0 := hid (fun h => hs (HY.out.2 h))
        have hb : (sg == 0) = false := beq_eq_false_iff_ne.2 hs
        clear hs
        go_wp2_with fail
        have Rx := hid (Rx.out.old (Below_drew1 (Below.refl _ _)))
        have Lx := hid (Lx.out.old (Below_drew1 (Below.refl _ _)))
        have Ry := hid (Ry.out.old (Below_drew1 (Below.refl _ _)))
        have Ly := hid (Ly.out.old (Below_drew1 (Below.refl _ _)))
        have Rz := hid (Rz.out.old (Below_drew1 (Below.refl _ _)))
        have Lz := hid (Lz.out.old (Below_drew1 (Below.refl _ _)))
        have RA := hid (RA.out.old (Below_drew1 (Below.refl _ _)))
        have LA := hid (LA.out.old (Below_drew1 (Below.refl _ _)))
        have RBq := hid (RBq.out.old (Below_drew1 (Below.refl _ _)))
        have LBq := hid (LBq.out.old (Below_drew1 (Below.refl _ _)))
        have B := hid (Below_drew1 B.out)
        have q0 := Lx.out.c 0 rfl
        have q1 := Lx.out.c 1 rfl
        have q2 := Lx.out.c 2 rfl
        have q3 := Ly.out.c 0 rfl
        have q4 := Ly.out.c 1 rfl
        have q5 := Ly.out.c 2 rfl
        go_region_held3 (fun w' => w'.cell? ⟨w1.heap.size, 0, none⟩ = some (.bool g1) ∧ w'.cell? ⟨w1.heap.size, 1, none⟩ = some (.slice a1 n1 c1) ∧ w'.cell? ⟨w1.heap.size, 2, none⟩ = some (.slice b1 m1 d1) ∧ w'.cell? ⟨w2.heap.size, 0, none⟩ = some (.bool g2) ∧ w'.cell? ⟨w2.heap.size, 1, none⟩ = some (.slice a2 n2 c2) ∧ w'.cell? ⟨w2.heap.size, 2, none⟩ = some (.slice b2 m2 d2)) (first | exact ⟨q0, q1, q2, q3, q4, q5⟩) (first | (go_at_call 20; (with_reducible refine (mul_rat Rx.out Ry.out rfl f7.out).mono ?_); rintro e wq ⟨gs, aa, nn, cc, bb, mm, dd, rfl, hr, b1⟩; have Rx := hid (Rx.out.old b1); have Lx := hid (Lx.out.old b1); have Ry := hid (Ry.out.old b1); have Ly := hid (Ly.out.old b1); have Rz := hid (Rz.out.old b1); have Lz := hid (Lz.out.old b1); have RA := hid (RA.out.old b1); have LA := hid (LA.out.old b1); have RBq := hid (RBq.out.old b1); have LBq := hid (LBq.out.old b1); (try have R2 := hid (R2.out.old b1)); (try have R3 := hid (R3.out.old b1)); (try have R4 := hid (R4.out.old b1)); have R1 := hid hr; clear hr; have B := hid (B.out.trans (b1.mono B.out.size)); have q0 := Lx.out.c 0 rfl; have q1 := Lx.out.c 1 rfl; have q2 := Lx.out.c 2 rfl; have q3 := Ly.out.c 0 rfl; have q4 := Ly.out.c 1 rfl; have q5 := Ly.out.c 2 rfl; clear b1) | (go_at_call 26; (with_reducible refine (div_rat R1.out Ry.out h0.out (E3.out h0.out) f6.out).mono ?_); rintro e wq ⟨gs, aa, nn, cc, bb, mm, dd, rfl, hr, b1⟩; have Rx := hid (Rx.out.old b1); have Lx := hid (Lx.out.old b1); have Ry := hid (Ry.out.old b1); have Ly := hid (Ly.out.old b1); have Rz := hid (Rz.out.old b1); have Lz := hid (Lz.out.old b1); have RA := hid (RA.out.old b1); have LA := hid (LA.out.old b1); have RBq := hid (RBq.out.old b1); have LBq := hid (LBq.out.old b1); (try have R1 := hid (R1.out.old b1)); (try have R3 := hid (R3.out.old b1)); (try have R4 := hid (R4.out.old b1)); have R2 := hid hr; clear hr; have B := hid (B.out.trans (b1.mono B.out.size)); have q0 := Lx.out.c 0 rfl; have q1 := Lx.out.c 1 rfl; have q2 := Lx.out.c 2 rfl; have q3 := Ly.out.c 0 rfl; have q4 := Ly.out.c 1 rfl; have q5 := Ly.out.c 2 rfl; clear b1) | (go_at_call 23; (with_reducible refine (eq_same R2.out Rx.out).mono ?_); rintro e wq ⟨rfl, b1⟩; have Rx := hid (Rx.out.old b1); have Lx := hid (Lx.out.old b1); have Ry := hid (Ry.out.old b1); have Ly := hid (Ly.out.old b1); have Rz := hid (Rz.out.old b1); have Lz := hid (Lz.out.old b1); have RA := hid (RA.out.old b1); have LA := hid (LA.out.old b1); have RBq := hid (RBq.out.old b1); have LBq := hid (LBq.out.old b1); (try have R1 := hid (R1.out.old b1)); (try have R2 := hid (R2.out.old b1)); (try have R3 := hid (R3.out.old b1)); (try have R4 := hid (R4.out.old b1)); have B := hid (B.out.trans (b1.mono B.out.size)); have q0 := Lx.out.c 0 rfl; have q1 := Lx.out.c 1 rfl; have q2 := Lx.out.c 2 rfl; have q3 := Ly.out.c 0 rfl; have q4 := Ly.out.c 1 rfl; have q5 := Ly.out.c 2 rfl; clear b1) | (go_at_call 27; (with_reducible refine (neg_rat Rx.out rfl).mono ?_); rintro e wq ⟨gs, aa, nn, cc, bb, mm, dd, rfl, hr, b1⟩; have Rx := hid (Rx.out.old b1); have Lx := hid (Lx.out.old b1); have Ry := hid (Ry.out.old b1); have Ly := hid (Ly.out.old b1); have Rz := hid (Rz.out.old b1); have Lz := hid (Lz.out.old b1); have RA := hid (RA.out.old b1); have LA := hid (LA.out.old b1); have RBq := hid (RBq.out.old b1); have LBq := hid (LBq.out.old b1); (try have R1 := hid (R1.out.old b1)); (try have R2 := hid (R2.out.old b1)); (try have R4 := hid (R4.out.old b1)); have R3 := hid hr; clear hr; have B := hid (B.out.trans (b1.mono B.out.size)); have q0 := Lx.out.c 0 rfl; have q1 := Lx.out.c 1 rfl; have q2 := Lx.out.c 2 rfl; have q3 := Ly.out.c 0 rfl; have q4 := Ly.out.c 1 rfl; have q5 := Ly.out.c 2 rfl; clear b1) | (go_at_call 27; (with_reducible refine (neg_rat R3.out E4.out).mono ?_); rintro e wq ⟨gs, aa, nn, cc, bb, mm, dd, rfl, hr, b1⟩; have Rx := hid (Rx.out.old b1); have Lx := hid (Lx.out.old b1); have Ry := hid (Ry.out.old b1); have Ly := hid (Ly.out.old b1); have Rz := hid (Rz.out.old b1); have Lz := hid (Lz.out.old b1); have RA := hid (RA.out.old b1); have LA := hid (LA.out.old b1); have RBq := hid (RBq.out.old b1); have LBq := hid (LBq.out.old b1); (try have R1 := hid (R1.out.old b1)); (try have R2 := hid (R2.out.old b1)); (try have R3 := hid (R3.out.old b1)); have R4 := hid hr; clear hr; have B := hid (B.out.trans (b1.mono B.out.size)); have q0 := Lx.out.c 0 rfl; have q1 := Lx.out.c 1 rfl; have q2 := Lx.out.c 2 rfl; have q3 := Ly.out.c 0 rfl; have q4 := Ly.out.c 1 rfl; have q5 := Ly.out.c 2 rfl; clear b1) | (go_at_call 23; (with_reducible refine (eq_same R4.out Rx.out).mono ?_); rintro e wq ⟨rfl, b1⟩; have Rx := hid (Rx.out.old b1); have Lx := hid (Lx.out.old b1); have Ry := hid (Ry.out.old b1); have Ly := hid (Ly.out.old b1); have Rz := hid (Rz.out.old b1); have Lz := hid (Lz.out.old b1); have RA := hid (RA.out.old b1); have LA := hid (LA.out.old b1); have RBq := hid (RBq.out.old b1); have LBq := hid (LBq.out.old b1); (try have R1 := hid (R1.out.old b1)); (try have R2 := hid (R2.out.old b1)); (try have R3 := hid (R3.out.old b1)); (try have R4 := hid (R4.out.old b1)); have B := hid (B.out.trans (b1.mono B.out.size)); have q0 := Lx.out.c 0 rfl; have q1 := Lx.out.c 1 rfl; have q2 := Lx.out.c 2 rfl; have q3 := Ly.out.c 0 rfl; have q4 := Ly.out.c 1 rfl; have q5 := Ly.out.c 2 rfl; clear b1))
        clear q0 q1 q2 q3 q4 q5
        go_wp2
        go_ret
        exact ⟨rfl, B.out⟩
end Go.Proofs.Ytdlkiklhffafhaa
