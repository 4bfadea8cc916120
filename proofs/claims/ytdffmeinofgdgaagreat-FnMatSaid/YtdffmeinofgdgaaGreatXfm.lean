/- The law FnMat. -/
import Derived.Test.YtdffmeinofgdgaaGreatXml
import Derived.Test.YtdffmeinofgdgaaGreatXo
import Derived.Test.YtdffmeinofgdgaaGreatXq
import Derived.Test.YtdffmeinofgdgaaGreatXd
import Derived.Test.YtdffmeinofgdgaaGreatXe
import Derived.Test.YtdffmeinofgdgaaGreatXg
import Derived.Test.YtdffmeinofgdgaaGreatXi
import Derived.Test.YtdffmeinofgdgaaGreatXk
import Derived.Deep.RegionHeld3
import Derived.Deep.DeepCutAuto
namespace Go.Proofs.YtdffmeinofgdgaaGreat
open Go.RowKit
open Go.Lib (hid)
set_option linter.unusedVariables false

theorem mat_all {A B : List (List Fq)} {V : List Fq} (hA : FewR 3 A) (lA : A.length = 2) (hB : FewR 2 B) (lB : B.length = 3) (hV : Few1 V) (lV : V.length = 2) :
    ∃ (AB T1 T2 T3 T4 T6 T7 T8 I3 : List (List Fq)) (V1 V2 V3 V4 V5 V6 : List Fq), (matMul A B = AB ∧ matT A = T1 ∧ matT T1 = T2 ∧ matT AB = T3 ∧ matT B = T4 ∧ matMul T4 T1 = T6 ∧ matI 3 = I3 ∧ matMul A I3 = T7 ∧ matC A [0, 1, 2] = T8) ∧
      (matV AB V = V1 ∧ matV B V = V2 ∧ matV A V2 = V3 ∧ vecM V AB = V4 ∧ vecM V A = V5 ∧ vecM V5 B = V6) ∧
      (matOk AB = true ∧ eqM T2 A = true ∧ eqV V1 V3 = true ∧ eqM T3 T6 = true ∧ eqV V4 V6 = true ∧ eqM T7 A = true ∧ eqM T8 A = true) ∧
      (Sm2 A ∧ Sm2 B ∧ Sm2 AB ∧ Sm2 T1 ∧ Sm2 T2 ∧ Sm2 T3 ∧ Sm2 T4 ∧ Sm2 T6 ∧ Sm2 T7 ∧ Sm2 T8 ∧ Sm2 I3) ∧ (Sm V ∧ Sm V1 ∧ Sm V2 ∧ Sm V3 ∧ Sm V4 ∧ Sm V5 ∧ Sm V6) := by
  obtain ⟨e1, e2, e3, e4, e5, e6, e7⟩ := mat_laws hA lA hB lB hV lV
  have big : ∀ {M : List (List Fq)}, M.length ≤ 40 ∧ szM M ≤ 78400 → Sm2 M := fun h => Sm2.of (by omega)
  have vbig : ∀ {K : List Fq}, szK K ≤ 2000 → Sm K := fun h => Sm.of (by omega)
  exact ⟨_, _, _, _, _, _, _, _, _, _, _, _, _, _, _, ⟨rfl, rfl, rfl, rfl, rfl, rfl, rfl, rfl, rfl⟩, ⟨rfl, rfl, rfl, rfl, rfl, rfl⟩, ⟨e1, e2, e3, e4, e5, e6, e7⟩,
    ⟨FewR_Sm2 hA (by decide) (by omega), FewR_Sm2 hB (by decide) (by omega), big (matMul_sz _ _), big (matT_sz _), big (matT_sz _), big (matT_sz _), big (matT_sz _), big (matMul_sz _ _), big (matMul_sz _ _), big (matC_sz _ _), big (matI_sz _)⟩,
    ⟨Few1_Sm hV (by omega), vbig (matV_sz _ _), vbig (matV_sz _ _), vbig (matV_sz _ _), vecM_Sm _ _, vecM_Sm _ _, vecM_Sm _ _⟩⟩
set_option maxRecDepth 100000 in
set_option maxHeartbeats 25600000 in
theorem law_FnMat (a : Option Addr) (n c : Nat) (Z : List Int) (hm : n ≤ maxLen) (w : World) (hr : ByteRow w a n Z) :
    Calls Tryz.prog 3 #[.slice a n c] w (RetB (.bool true) w) := by
  have hZn : Z.length = n := hr.1.symm
  unfold maxLen at hm
  by_cases hA : 1048576 < (n : Int)
  · have B := hid (Below.refl w.heap.size w)
    go_enter Tryz.func3, Tryz.ntmps3
    go_wp2
    go_ret
    exact ⟨rfl, Below.refl _ _⟩
  have hZ : Z.length ≤ 1048576 := by omega
  have KM1 := hid (show Calls Tryz.prog 7 #[.slice a n c, .int .i64 2, .int .i64 3, .int .i64 1] w (MakeM 2 3 w) from MakeMat_any 2 3 (by decide) (by decide) a n c Z 1 hZ w hr (by decide) (by decide))
  have KM2 := hid (fun (W : World) (h : ByteRow W a n Z) => show Calls Tryz.prog 7 #[.slice a n c, .int .i64 3, .int .i64 2, .int .i64 2] W (MakeM 3 2 W) from MakeMat_any 3 2 (by decide) (by decide) a n c Z 2 hZ W h (by decide) (by decide))
  have KV := hid (fun (W : World) (h : ByteRow W a n Z) => show Calls Tryz.prog 8 #[.slice a n c, .int .i64 2, .int .i64 3] W (MakeV 2 W) from MakeVec_any 2 (by decide) a n c Z 3 hZ W h (by decide) (by decide))
  have RW := hid hr
  clear hr hZn
  go_enter Tryz.func3, Tryz.ntmps3
  go_wp2_with fail
  (with_reducible refine (KM1.out).mono ?_)
  rintro e w1 ⟨A, aA, cA, lA, fA, rfl, vA, b1⟩
  have RW := hid (ByteRow_below RW.out b1)
  have B := hid b1
  have HA := hid vA.mw
  clear vA b1
  go_wp2_with fail
  (with_reducible refine (KM2.out _ RW.out).mono ?_)
  rintro e w2 ⟨B', aB, cB, lB, fB, rfl, vB, b2⟩
  have RW := hid (ByteRow_below RW.out b2)
  have B := hid (B.out.trans (b2.mono B.out.size))
  have HA := hid (HA.out.old b2)
  have HB := hid vB.mw
  clear vB b2
  go_wp2_with fail
  (with_reducible refine (KV.out _ RW.out).mono ?_)
  rintro e w3 ⟨V, aV, cV, lV, fV, rfl, vV, b3⟩
  have B := hid (B.out.trans (b3.mono B.out.size))
  have HA := hid (HA.out.old b3)
  have HB := hid (HB.out.old b3)
  have HV := hid vV.vw
  clear vV b3 RW KM1 KM2 KV
  obtain ⟨AB, T1, T2, T3, T4, T6, T7, T8, I3, V1, V2, V3, V4, V5, V6, ⟨d1, d2, d3, d4, d5, d6, d7, d8, d9⟩, ⟨d10, d11, d12, d13, d14, d15⟩, ⟨e1, e2, e3, e4, e5, e6, e7⟩, ⟨sA, sB, sAB, sT1, sT2, sT3, sT4, sT6, sT7, sT8, sI3⟩, ⟨sV, sV1, sV2, sV3, sV4, sV5, sV6⟩⟩ := mat_all fA lA fB lB fV lV
  have hd1 := hid d1
  have hd2 := hid d2
  have hd3 := hid d3
  have hd4 := hid d4
  have hd5 := hid d5
  have hd6 := hid d6
  have hd7 := hid d7
  have hd8 := hid d8
  have hd9 := hid d9
  have hd10 := hid d10
  have hd11 := hid d11
  have hd12 := hid d12
  have hd13 := hid d13
  have hd14 := hid d14
  have hd15 := hid d15
  have he1 := hid e1
  have he2 := hid e2
  have he3 := hid e3
  have he4 := hid e4
  have he5 := hid e5
  have he6 := hid e6
  have he7 := hid e7
  have hsA := hid sA
  have hsB := hid sB
  have hsAB := hid sAB
  have hsT1 := hid sT1
  have hsT2 := hid sT2
  have hsT3 := hid sT3
  have hsT4 := hid sT4
  have hsT6 := hid sT6
  have hsT7 := hid sT7
  have hsT8 := hid sT8
  have hsI3 := hid sI3
  have hsV := hid sV
  have hsV1 := hid sV1
  have hsV2 := hid sV2
  have hsV3 := hid sV3
  have hsV4 := hid sV4
  have hsV5 := hid sV5
  have hsV6 := hid sV6
  clear d1 d2 d3 d4 d5 d6 d7 d8 d9 d10 d11 d12 d13 d14 d15 e1 e2 e3 e4 e5 e6 e7 sA sB sAB sT1 sT2 sT3 sT4 sT6 sT7 sT8 sI3 sV sV1 sV2 sV3 sV4 sV5 sV6 fA lA fB lB fV lV
  have K := hid (impl_MatMul (c := cA) (d := cB) hsA.out hsB.out w3 HA.out HB.out)
  rw [hd1.out] at K
  go_wp2_with fail
  (with_reducible refine (K.out).mono ?_)
  rintro e w4 ⟨a4, n4, c4, rfl, m4, b4⟩
  have B := hid (B.out.trans (b4.mono B.out.size))
  have HA := hid (HA.out.old b4)
  have HB := hid (HB.out.old b4)
  have HV := hid (HV.out.old b4)
  have HAB := hid m4.mw
  clear m4
  clear b4 K
  have K := hid (impl_MatOk (c := c4) hsAB.out w4 HAB.out)
  rw [he1.out] at K
  go_wp2_with fail
  (with_reducible refine (K.out).mono ?_)
  rintro e w5 ⟨rfl, b5⟩
  have B := hid (B.out.trans (b5.mono B.out.size))
  have HA := hid (HA.out.old b5)
  have HB := hid (HB.out.old b5)
  have HV := hid (HV.out.old b5)
  have HAB := hid (HAB.out.old b5)
  clear b5 K
  have K := hid (impl_MatTranspose (c := cA) hsA.out w5 HA.out)
  rw [hd2.out] at K
  go_wp2_with fail
  (with_reducible refine (K.out).mono ?_)
  rintro e w6 ⟨a6, n6, c6, rfl, m6, b6⟩
  have B := hid (B.out.trans (b6.mono B.out.size))
  have HA := hid (HA.out.old b6)
  have HB := hid (HB.out.old b6)
  have HV := hid (HV.out.old b6)
  have HAB := hid (HAB.out.old b6)
  have HT1 := hid m6.mw
  clear m6
  clear b6 K
  have K := hid (impl_MatTranspose (c := c6) hsT1.out w6 HT1.out)
  rw [hd3.out] at K
  go_wp2_with fail
  (with_reducible refine (K.out).mono ?_)
  rintro e w7 ⟨a7, n7, c7, rfl, m7, b7⟩
  have B := hid (B.out.trans (b7.mono B.out.size))
  have HA := hid (HA.out.old b7)
  have HB := hid (HB.out.old b7)
  have HV := hid (HV.out.old b7)
  have HAB := hid (HAB.out.old b7)
  have HT1 := hid (HT1.out.old b7)
  have HT2 := hid m7.mw
  clear m7
  clear b7 K
  have K := hid (impl_MatEqual (c := c7) (d := cA) hsT2.out hsA.out w7 HT2.out HA.out)
  rw [he2.out] at K
  go_wp2_with fail
  (with_reducible refine (K.out).mono ?_)
  rintro e w8 ⟨rfl, b8⟩
  have B := hid (B.out.trans (b8.mono B.out.size))
  clear HT1
  clear HT2
  have HA := hid (HA.out.old b8)
  have HB := hid (HB.out.old b8)
  have HV := hid (HV.out.old b8)
  have HAB := hid (HAB.out.old b8)
  clear b8 K
  have K := hid (impl_MatVec (c := c4) (d := cV) hsAB.out hsV.out w8 HAB.out HV.out)
  rw [hd10.out] at K
  go_wp2_with fail
  (with_reducible refine (K.out).mono ?_)
  rintro e w9 ⟨a9, n9, c9, rfl, m9, b9⟩
  have B := hid (B.out.trans (b9.mono B.out.size))
  have HA := hid (HA.out.old b9)
  have HB := hid (HB.out.old b9)
  have HV := hid (HV.out.old b9)
  have HAB := hid (HAB.out.old b9)
  have HV1 := hid m9.vw
  clear m9
  clear b9 K
  have K := hid (impl_MatVec (c := cB) (d := cV) hsB.out hsV.out w9 HB.out HV.out)
  rw [hd11.out] at K
  go_wp2_with fail
  (with_reducible refine (K.out).mono ?_)
  rintro e w10 ⟨a10, n10, c10, rfl, m10, b10⟩
  have B := hid (B.out.trans (b10.mono B.out.size))
  have HA := hid (HA.out.old b10)
  have HB := hid (HB.out.old b10)
  have HV := hid (HV.out.old b10)
  have HAB := hid (HAB.out.old b10)
  have HV1 := hid (HV1.out.old b10)
  have HV2 := hid m10.vw
  clear m10
  clear b10 K
  have K := hid (impl_MatVec (c := cA) (d := c10) hsA.out hsV2.out w10 HA.out HV2.out)
  rw [hd12.out] at K
  go_wp2_with fail
  (with_reducible refine (K.out).mono ?_)
  rintro e w11 ⟨a11, n11, c11, rfl, m11, b11⟩
  have B := hid (B.out.trans (b11.mono B.out.size))
  have HA := hid (HA.out.old b11)
  have HB := hid (HB.out.old b11)
  have HV := hid (HV.out.old b11)
  have HAB := hid (HAB.out.old b11)
  have HV1 := hid (HV1.out.old b11)
  have HV2 := hid (HV2.out.old b11)
  have HV3 := hid m11.vw
  clear m11
  clear b11 K
  have K := hid (impl_VecEqual_w (c := c9) (d := c11) hsV1.out hsV3.out w11 HV1.out HV3.out)
  rw [he3.out] at K
  go_wp2_with fail
  (with_reducible refine (K.out).mono ?_)
  rintro e w12 ⟨rfl, b12⟩
  have B := hid (B.out.trans (b12.mono B.out.size))
  clear HV1
  clear HV2
  clear HV3
  have HA := hid (HA.out.old b12)
  have HB := hid (HB.out.old b12)
  have HV := hid (HV.out.old b12)
  have HAB := hid (HAB.out.old b12)
  clear b12 K
  have K := hid (impl_MatTranspose (c := c4) hsAB.out w12 HAB.out)
  rw [hd4.out] at K
  go_wp2_with fail
  (with_reducible refine (K.out).mono ?_)
  rintro e w13 ⟨a13, n13, c13, rfl, m13, b13⟩
  have B := hid (B.out.trans (b13.mono B.out.size))
  have HA := hid (HA.out.old b13)
  have HB := hid (HB.out.old b13)
  have HV := hid (HV.out.old b13)
  have HAB := hid (HAB.out.old b13)
  have HT3 := hid m13.mw
  clear m13
  clear b13 K
  have K := hid (impl_MatTranspose (c := cB) hsB.out w13 HB.out)
  rw [hd5.out] at K
  go_wp2_with fail
  (with_reducible refine (K.out).mono ?_)
  rintro e w14 ⟨a14, n14, c14, rfl, m14, b14⟩
  have B := hid (B.out.trans (b14.mono B.out.size))
  have HA := hid (HA.out.old b14)
  have HB := hid (HB.out.old b14)
  have HV := hid (HV.out.old b14)
  have HAB := hid (HAB.out.old b14)
  have HT3 := hid (HT3.out.old b14)
  have HT4 := hid m14.mw
  clear m14
  clear b14 K
  have K := hid (impl_MatTranspose (c := cA) hsA.out w14 HA.out)
  rw [hd2.out] at K
  go_wp2_with fail
  (with_reducible refine (K.out).mono ?_)
  rintro e w15 ⟨a15, n15, c15, rfl, m15, b15⟩
  have B := hid (B.out.trans (b15.mono B.out.size))
  have HA := hid (HA.out.old b15)
  have HB := hid (HB.out.old b15)
  have HV := hid (HV.out.old b15)
  have HAB := hid (HAB.out.old b15)
  have HT3 := hid (HT3.out.old b15)
  have HT4 := hid (HT4.out.old b15)
  have HT1 := hid m15.mw
  clear m15
  clear b15 K
  have K := hid (impl_MatMul (c := c14) (d := c15) hsT4.out hsT1.out w15 HT4.out HT1.out)
  rw [hd6.out] at K
  go_wp2_with fail
  (with_reducible refine (K.out).mono ?_)
  rintro e w16 ⟨a16, n16, c16, rfl, m16, b16⟩
  have B := hid (B.out.trans (b16.mono B.out.size))
  have HA := hid (HA.out.old b16)
  have HB := hid (HB.out.old b16)
  have HV := hid (HV.out.old b16)
  have HAB := hid (HAB.out.old b16)
  have HT3 := hid (HT3.out.old b16)
  have HT4 := hid (HT4.out.old b16)
  have HT1 := hid (HT1.out.old b16)
  have HT6 := hid m16.mw
  clear m16
  clear b16 K
  have K := hid (impl_MatEqual (c := c13) (d := c16) hsT3.out hsT6.out w16 HT3.out HT6.out)
  rw [he4.out] at K
  go_wp2_with fail
  (with_reducible refine (K.out).mono ?_)
  rintro e w17 ⟨rfl, b17⟩
  have B := hid (B.out.trans (b17.mono B.out.size))
  clear HT1
  clear HT3
  clear HT4
  clear HT6
  have HA := hid (HA.out.old b17)
  have HB := hid (HB.out.old b17)
  have HV := hid (HV.out.old b17)
  have HAB := hid (HAB.out.old b17)
  clear b17 K
  have K := hid (impl_VecMat (c := c4) (d := cV) hsV.out hsAB.out w17 HV.out HAB.out)
  rw [hd13.out] at K
  go_wp2_with fail
  (with_reducible refine (K.out).mono ?_)
  rintro e w18 ⟨a18, n18, c18, rfl, m18, b18⟩
  have B := hid (B.out.trans (b18.mono B.out.size))
  have HA := hid (HA.out.old b18)
  have HB := hid (HB.out.old b18)
  have HV := hid (HV.out.old b18)
  have HAB := hid (HAB.out.old b18)
  have HV4 := hid m18.vw
  clear m18
  clear b18 K
  have K := hid (impl_VecMat (c := cA) (d := cV) hsV.out hsA.out w18 HV.out HA.out)
  rw [hd14.out] at K
  go_wp2_with fail
  (with_reducible refine (K.out).mono ?_)
  rintro e w19 ⟨a19, n19, c19, rfl, m19, b19⟩
  have B := hid (B.out.trans (b19.mono B.out.size))
  have HA := hid (HA.out.old b19)
  have HB := hid (HB.out.old b19)
  have HV := hid (HV.out.old b19)
  have HAB := hid (HAB.out.old b19)
  have HV4 := hid (HV4.out.old b19)
  have HV5 := hid m19.vw
  clear m19
  clear b19 K
  have K := hid (impl_VecMat (c := cB) (d := c19) hsV5.out hsB.out w19 HV5.out HB.out)
  rw [hd15.out] at K
  go_wp2_with fail
  (with_reducible refine (K.out).mono ?_)
  rintro e w20 ⟨a20, n20, c20, rfl, m20, b20⟩
  have B := hid (B.out.trans (b20.mono B.out.size))
  have HA := hid (HA.out.old b20)
  have HB := hid (HB.out.old b20)
  have HV := hid (HV.out.old b20)
  have HAB := hid (HAB.out.old b20)
  have HV4 := hid (HV4.out.old b20)
  have HV5 := hid (HV5.out.old b20)
  have HV6 := hid m20.vw
  clear m20
  clear b20 K
  have K := hid (impl_VecEqual_w (c := c18) (d := c20) hsV4.out hsV6.out w20 HV4.out HV6.out)
  rw [he5.out] at K
  go_wp2_with fail
  (with_reducible refine (K.out).mono ?_)
  rintro e w21 ⟨rfl, b21⟩
  have B := hid (B.out.trans (b21.mono B.out.size))
  clear HV4
  clear HV5
  clear HV6
  clear HV
  clear HAB
  clear HB
  have HA := hid (HA.out.old b21)
  clear b21 K
  have K := hid (impl_MatIdentity 3 (by decide) (by decide) w21 )
  rw [hd7.out] at K
  go_wp2_with fail
  (with_reducible refine (K.out).mono ?_)
  rintro e w22 ⟨a22, n22, c22, rfl, m22, b22⟩
  have B := hid (B.out.trans (b22.mono B.out.size))
  have HA := hid (HA.out.old b22)
  have HI3 := hid m22.mw
  clear m22
  clear b22 K
  have K := hid (impl_MatMul (c := cA) (d := c22) hsA.out hsI3.out w22 HA.out HI3.out)
  rw [hd8.out] at K
  go_wp2_with fail
  (with_reducible refine (K.out).mono ?_)
  rintro e w23 ⟨a23, n23, c23, rfl, m23, b23⟩
  have B := hid (B.out.trans (b23.mono B.out.size))
  have HA := hid (HA.out.old b23)
  have HI3 := hid (HI3.out.old b23)
  have HT7 := hid m23.mw
  clear m23
  clear b23 K
  have K := hid (impl_MatEqual (c := c23) (d := cA) hsT7.out hsA.out w23 HT7.out HA.out)
  rw [he6.out] at K
  go_wp2_with fail
  (with_reducible refine (K.out).mono ?_)
  rintro e w24 ⟨rfl, b24⟩
  have B := hid (B.out.trans (b24.mono B.out.size))
  clear HT7
  clear HI3
  have HA := hid (HA.out.old b24)
  clear b24 K
  have HR := hid (show RowI (w24.alloc (.cells #[.int .i64 0, .int .i64 1, .int .i64 2] 3)) (some ⟨w24.heap.size, 0, none⟩) 3 [0, 1, 2] from ⟨rfl, fun _ => ⟨_, _, rfl, by simp, fun i hi => by
    have hL := LocA.new (w := w24) (T := 3) (cs := #[.int .i64 0, .int .i64 1, .int .i64 2])
    rcases (by simp at hi; omega : i = 0 ∨ i = 1 ∨ i = 2) with rfl | rfl | rfl
    · exact hL.c 0 (v := .int .i64 0) rfl
    · exact hL.c 1 (v := .int .i64 1) rfl
    · exact hL.c 2 (v := .int .i64 2) rfl⟩⟩)
  have HA := hid (HA.out.old (below_new' (o := .cells #[.int .i64 0, .int .i64 1, .int .i64 2] 3)))
  have B := hid (B.out.alloc B.out.size (.cells #[.int .i64 0, .int .i64 1, .int .i64 2] 3))
  have K := hid (impl_MatCols (c := cA) (d := 3) hsA.out (by decide) (w24.alloc (.cells #[.int .i64 0, .int .i64 1, .int .i64 2] 3)) HA.out HR.out)
  rw [hd9.out] at K
  go_wp2_with fail
  (with_reducible refine (K.out).mono ?_)
  rintro e w25 ⟨a25, n25, c25, rfl, m25, b25⟩
  have B := hid (B.out.trans (b25.mono B.out.size))
  have HA := hid (HA.out.old b25)
  have HT8 := hid m25.mw
  clear m25 b25 K HR
  have K := hid (impl_MatEqual (c := c25) (d := cA) hsT8.out hsA.out w25 HT8.out HA.out)
  rw [he7.out] at K
  go_wp2_with fail
  (with_reducible refine (K.out).mono ?_)
  rintro e w26 ⟨rfl, b26⟩
  have B := hid (B.out.trans (b26.mono B.out.size))
  have HA := hid (HA.out.old b26)
  have HT8 := hid (HT8.out.old b26)
  clear b26 K
  go_wp2
  go_ret
  exact ⟨rfl, B.out⟩
end Go.Proofs.YtdffmeinofgdgaaGreat
