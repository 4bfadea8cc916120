/- Laws of matrices: the mathematics. -/
import Derived.Test.YtdffmeinofgdgaaGreatXw
import Derived.Test.YtdffmeinofgdgaaGreatXmk
namespace Go.Proofs.YtdffmeinofgdgaaGreat
open Go.RowKit
open Go.Lib (hid)
set_option linter.unusedVariables false

theorem eqM_refl : ∀ M : List (List Fq), eqM M M = true
  | [] => rfl
  | K :: M => by simp [eqM, eqV_refl K, eqM_refl M]
theorem addF_zero {x : Rat} {a : Nat} (h : szq x a) (ha : a ≤ 24) : addF ((0 : Int) : Rat) x = some x := by
  unfold addF
  rw [show ((0 : Int) : Rat) + x = x by rw [show ((0 : Int) : Rat) = 0 from rfl, Rat.zero_add]]
  exact capF_yes (szq_fit h ha)
theorem zipS {a b : Nat} (h : a + b + 1 ≤ 24) : ∀ {S T : List Rat}, Sz S a → Sz T b → List.zipWith (bq addF) (S.map Option.some) (T.map Option.some) = (List.zipWith (· + ·) S T).map Option.some
  | [], _, _, _ => rfl
  | _ :: _, [], _, _ => rfl
  | x :: S, y :: T, hS, hT => by
    have ih := zipS h (S := S) (T := T) (fun z hz => hS z (List.mem_cons_of_mem _ hz)) (fun z hz => hT z (List.mem_cons_of_mem _ hz))
    rw [List.map_cons, List.map_cons, List.zipWith_cons_cons, List.zipWith_cons_cons, List.map_cons, ih, bq_some, addF_some h (hS x (List.mem_cons_self ..)) (hT y (List.mem_cons_self ..))]
theorem zip0 {a : Nat} (h : a ≤ 24) : ∀ {T : List Rat}, Sz T a → List.zipWith (bq addF) (List.replicate T.length (some ((0 : Int) : Rat))) (T.map Option.some) = T.map Option.some
  | [], _ => rfl
  | y :: T, hT => by
    have ih := zip0 h (T := T) (fun z hz => hT z (List.mem_cons_of_mem _ hz))
    rw [List.length_cons, List.replicate_succ, List.map_cons, List.zipWith_cons_cons, ih, bq_some, addF_zero (hT y (List.mem_cons_self ..)) h]
theorem Sz_scale {X : List Rat} {q : Rat} {a b : Nat} (hX : Sz X a) (hq : szq q b) : Sz (X.map (· * q)) (a + b) := fun z hz => by
  obtain ⟨x, hx, rfl⟩ := List.mem_map.1 hz
  exact szq_mul (hX x hx) hq
theorem Sz2 {x y : Rat} {a : Nat} (hx : szq x a) (hy : szq y a) : Sz [x, y] a := fun z hz => by
  simp only [List.mem_cons, List.not_mem_nil, or_false] at hz
  rcases hz with rfl | rfl
  · exact hx
  · exact hy
theorem Sz3 {x y u : Rat} {a : Nat} (hx : szq x a) (hy : szq y a) (hu : szq u a) : Sz [x, y, u] a := fun z hz => by
  simp only [List.mem_cons, List.not_mem_nil, or_false] at hz
  rcases hz with rfl | rfl | rfl
  · exact hx
  · exact hy
  · exact hu
theorem matOk_fv {XX : List (List Rat)} {a W : Nat} (h : ∀ X ∈ XX, Sz X a ∧ X.length = W) (ha : a ≤ 24) (hW : W ≤ 40) (hl : XX.length ≤ 40) : matOk (XX.map fv) = true := by
  have hw : ∀ k (hk : k < (XX.map fv).length), ((XX.map fv)[k]).length = W ∧ oks (vals (XX.map fv)[k]) = true := fun k hk => by
    rw [List.length_map] at hk
    have hx := h _ (List.getElem_mem hk)
    rw [List.getElem_map, fv_len]
    exact ⟨hx.2, oks_fv hx.1 ha (by omega)⟩
  refine matOk_yes (by rw [List.length_map]; exact hl) fun k hk => ⟨?_, (hw k hk).2⟩
  rw [(hw k hk).1, matW_at (by omega), (hw 0 (by omega)).1]
theorem ok2 {X Y : List Rat} {a W : Nat} (hX : Sz X a) (hY : Sz Y a) (lX : X.length = W) (lY : Y.length = W) (ha : a ≤ 24) (hW : W ≤ 40) : matOk [fv X, fv Y] = true :=
  matOk_fv (XX := [X, Y]) (W := W) (fun Z hZ => by
    simp only [List.mem_cons, List.not_mem_nil, or_false] at hZ
    rcases hZ with rfl | rfl
    · exact ⟨hX, lX⟩
    · exact ⟨hY, lY⟩) ha hW (show 2 ≤ 40 by decide)
theorem ok3 {X Y Z : List Rat} {a W : Nat} (hX : Sz X a) (hY : Sz Y a) (hZ : Sz Z a) (lX : X.length = W) (lY : Y.length = W) (lZ : Z.length = W) (ha : a ≤ 24) (hW : W ≤ 40) : matOk [fv X, fv Y, fv Z] = true :=
  matOk_fv (XX := [X, Y, Z]) (W := W) (fun U hU => by
    simp only [List.mem_cons, List.not_mem_nil, or_false] at hU
    rcases hU with rfl | rfl | rfl
    · exact ⟨hX, lX⟩
    · exact ⟨hY, lY⟩
    · exact ⟨hZ, lZ⟩) ha hW (show 3 ≤ 40 by decide)
set_option maxRecDepth 100000 in
theorem dot2 {x y p q : Rat} {a b : Nat} (hx : szq x a) (hy : szq y a) (hp : szq p b) (hq : szq q b) (h : (a + b) + (a + b) + 1 ≤ 24) :
    dotO (fv [x, y]) (fv [p, q]) = some (x * p + y * q) ∧ szq (x * p + y * q) ((a + b) + (a + b) + 1) := by
  have h1 := szq_mul hx hp
  have h2 := szq_mul hy hq
  refine ⟨?_, szq_add h1 h2⟩
  have e0 : zw mulF (fv [x, y]) (fv [p, q]) = [bq mulF (fqo (some x)).o (fqo (some p)).o, bq mulF (fqo (some y)).o (fqo (some q)).o] := rfl
  have e1 : (fv [x, y]).length = (fv [p, q]).length ∧ (fv [x, y]).length ≤ 40 := by rw [fv_len, fv_len]; simp
  unfold dotO
  rw [if_pos e1, e0]
  unfold dacc
  rw [List.foldl_cons, List.foldl_cons, List.foldl_nil]
  rw [fq_some hx (by omega), fq_some hp (by omega), fq_some hy (by omega), fq_some hq (by omega), bq_some, bq_some, mulF_some (by omega) hx hp, mulF_some (by omega) hy hq, bq_some, addF_zero h1 (by omega), bq_some, addF_some h h1 h2]
set_option maxRecDepth 100000 in
theorem dot3 {x y z p q r : Rat} {a b : Nat} (hx : szq x a) (hy : szq y a) (hz : szq z a) (hp : szq p b) (hq : szq q b) (hr : szq r b) (h : (a + b) + (a + b) + 1 + (a + b) + 1 ≤ 24) :
    dotO (fv [x, y, z]) (fv [p, q, r]) = some (x * p + y * q + z * r) ∧ szq (x * p + y * q + z * r) ((a + b) + (a + b) + 1 + (a + b) + 1) := by
  have h1 := szq_mul hx hp
  have h2 := szq_mul hy hq
  have h3 := szq_mul hz hr
  have h4 := szq_add h1 h2
  refine ⟨?_, szq_add h4 h3⟩
  have e0 : zw mulF (fv [x, y, z]) (fv [p, q, r]) = [bq mulF (fqo (some x)).o (fqo (some p)).o, bq mulF (fqo (some y)).o (fqo (some q)).o, bq mulF (fqo (some z)).o (fqo (some r)).o] := rfl
  have e1 : (fv [x, y, z]).length = (fv [p, q, r]).length ∧ (fv [x, y, z]).length ≤ 40 := by rw [fv_len, fv_len]; simp
  unfold dotO
  rw [if_pos e1, e0]
  unfold dacc
  rw [List.foldl_cons, List.foldl_cons, List.foldl_cons, List.foldl_nil]
  rw [fq_some hx (by omega), fq_some hp (by omega), fq_some hy (by omega), fq_some hq (by omega), fq_some hz (by omega), fq_some hr (by omega), bq_some, bq_some, bq_some, mulF_some (by omega) hx hp, mulF_some (by omega) hy hq, mulF_some (by omega) hz hr, bq_some, addF_zero h1 (by omega), bq_some, addF_some (by omega) h1 h2, bq_some, addF_some h h4 h3]
theorem vec2 {X Y : List Rat} {p q : Rat} {a b W : Nat} (hX : Sz X a) (hY : Sz Y a) (hp : szq p b) (hq : szq q b) (lX : X.length = W) (lY : Y.length = W) (hW : W ≤ 40) (h : (a + b) + (a + b) + 1 ≤ 24) :
    vecM (fv [p, q]) [fv X, fv Y] = fv (List.zipWith (· + ·) (X.map (· * p)) (Y.map (· * q))) ∧ Sz (List.zipWith (· + ·) (X.map (· * p)) (Y.map (· * q))) ((a + b) + (a + b) + 1) := by
  have s1 := Sz_scale hX hp
  have s2 := Sz_scale hY hq
  refine ⟨?_, Sz_zip (fun x y hx hy => szq_add hx hy) s1 s2⟩
  unfold vecM
  rw [if_pos ⟨⟨ok2 hX hY lX lY (by omega) hW, oks_fv (Sz2 hp hq) (by omega) (show 2 ≤ 40 by decide)⟩, rfl⟩, show matW [fv X, fv Y] = W by rw [← lX]; exact fv_len X]
  show vres (List.zipWith (bq addF) (List.zipWith (bq addF) (List.replicate W (some ((0 : Int) : Rat))) (smO (fv X) (fqo (some p)).o)) (smO (fv Y) (fqo (some q)).o)) = _
  rw [fq_some hp (by omega), fq_some hq (by omega), smO_fv hp (by omega) hX, smO_fv hq (by omega) hY, show W = (X.map (· * p)).length by rw [List.length_map, lX], zip0 (by omega) s1, zipS h s1 s2]
  exact vres_some (by rw [List.length_zipWith, List.length_map, List.length_map]; omega)
theorem vec3 {X Y Z : List Rat} {p q r : Rat} {a b W : Nat} (hX : Sz X a) (hY : Sz Y a) (hZ : Sz Z a) (hp : szq p b) (hq : szq q b) (hr : szq r b) (lX : X.length = W) (lY : Y.length = W) (lZ : Z.length = W) (hW : W ≤ 40) (h : (a + b) + (a + b) + 1 + (a + b) + 1 ≤ 24) :
    vecM (fv [p, q, r]) [fv X, fv Y, fv Z] = fv (List.zipWith (· + ·) (List.zipWith (· + ·) (X.map (· * p)) (Y.map (· * q))) (Z.map (· * r))) ∧ Sz (List.zipWith (· + ·) (List.zipWith (· + ·) (X.map (· * p)) (Y.map (· * q))) (Z.map (· * r))) ((a + b) + (a + b) + 1 + (a + b) + 1) := by
  have s1 := Sz_scale hX hp
  have s2 := Sz_scale hY hq
  have s3 := Sz_scale hZ hr
  have s4 : Sz (List.zipWith (· + ·) (X.map (· * p)) (Y.map (· * q))) ((a + b) + (a + b) + 1) := Sz_zip (fun x y hx hy => szq_add hx hy) s1 s2
  refine ⟨?_, Sz_zip (fun x y hx hy => szq_add hx hy) s4 s3⟩
  unfold vecM
  rw [if_pos ⟨⟨ok3 hX hY hZ lX lY lZ (by omega) hW, oks_fv (Sz3 hp hq hr) (by omega) (show 3 ≤ 40 by decide)⟩, rfl⟩, show matW [fv X, fv Y, fv Z] = W by rw [← lX]; exact fv_len X]
  show vres (List.zipWith (bq addF) (List.zipWith (bq addF) (List.zipWith (bq addF) (List.replicate W (some ((0 : Int) : Rat))) (smO (fv X) (fqo (some p)).o)) (smO (fv Y) (fqo (some q)).o)) (smO (fv Z) (fqo (some r)).o)) = _
  rw [fq_some hp (by omega), fq_some hq (by omega), fq_some hr (by omega), smO_fv hp (by omega) hX, smO_fv hq (by omega) hY, smO_fv hr (by omega) hZ, show W = (X.map (· * p)).length by rw [List.length_map, lX], zip0 (by omega) s1, zipS (by omega) s1 s2, zipS h s4 s3]
  exact vres_some (by rw [List.length_zipWith, List.length_zipWith, List.length_map, List.length_map, List.length_map]; omega)
theorem mul23 {K L R S : List Fq} {J : List (List Fq)} {W : Nat} (hM : matOk [K, L] = true) (hJ : matOk J = true) (hw : K.length = J.length) (h0 : 0 < J.length) (hW : matW J = W) (e1 : vecM K J = R) (e2 : vecM L J = S) (l1 : R.length = W) (l2 : S.length = W) : matMul [K, L] J = [R, S] := by
  unfold matMul
  rw [if_pos ⟨⟨hM, hJ⟩, hw, h0⟩, hW]
  show bmF 2 W (fun i => vecM (([K, L] : List (List Fq)).getD i []) J) = _
  rw [bmF_yes]
  · show [vecM K J, vecM L J] = _
    rw [e1, e2]
  · intro i hi
    rcases (by omega : i = 0 ∨ i = 1) with rfl | rfl
    · show (vecM K J).length = W
      rw [e1, l1]
    · show (vecM L J).length = W
      rw [e2, l2]
theorem few2 {K : List Fq} (h : Few1 K) (l : K.length = 2) : ∃ x y, K = fv [x, y] ∧ szq x 1 ∧ szq y 1 := by
  obtain ⟨X, rfl, hX⟩ := few_fv h
  rw [fv_len] at l
  match X, l, hX with
  | [x, y], _, hX => exact ⟨x, y, rfl, hX x (by simp), hX y (by simp)⟩
theorem few3 {K : List Fq} (h : Few1 K) (l : K.length = 3) : ∃ x y z, K = fv [x, y, z] ∧ szq x 1 ∧ szq y 1 ∧ szq z 1 := by
  obtain ⟨X, rfl, hX⟩ := few_fv h
  rw [fv_len] at l
  match X, l, hX with
  | [x, y, z], _, hX => exact ⟨x, y, z, rfl, hX x (by simp), hX y (by simp), hX z (by simp)⟩
theorem FewR_Sm2 {k : Nat} {M : List (List Fq)} (h : FewR k M) (hk : k ≤ 4) (hm : M.length ≤ 4) : Sm2 M := by
  refine ⟨fun K hK => ?_, by omega⟩
  obtain ⟨hl, hf⟩ := h K hK
  obtain ⟨X, rfl, hX⟩ := few_fv hf
  rw [fv_len] at hl
  exact Sm_fv hX (by decide) (by omega)
theorem Few1_Sm {K : List Fq} (h : Few1 K) (hk : K.length ≤ 4) : Sm K := by
  obtain ⟨X, rfl, hX⟩ := few_fv h
  rw [fv_len] at hk
  exact Sm_fv hX (by decide) hk
def one : Rat := ((1 : Int) : Rat)
def nul : Rat := ((0 : Int) : Rat)
theorem szq_one1 : szq one 1 := by constructor <;> decide
theorem szq_nul1 : szq nul 1 := by constructor <;> decide
theorem matI3 : matI 3 = [fv [one, nul, nul], fv [nul, one, nul], fv [nul, nul, one]] := by rfl
set_option maxRecDepth 100000 in
set_option maxHeartbeats 3200000 in
/-- What the law asks of a matrix of two rows, one of three, and a vector of two small fractions. -/
theorem mat_laws {A B : List (List Fq)} {V : List Fq} (hA : FewR 3 A) (lA : A.length = 2) (hB : FewR 2 B) (lB : B.length = 3) (hV : Few1 V) (lV : V.length = 2) :
    matOk (matMul A B) = true ∧ eqM (matT (matT A)) A = true ∧ eqV (matV (matMul A B) V) (matV A (matV B V)) = true ∧ eqM (matT (matMul A B)) (matMul (matT B) (matT A)) = true ∧ eqV (vecM V (matMul A B)) (vecM (vecM V A) B) = true ∧ eqM (matMul A (matI 3)) A = true ∧ eqM (matC A [0, 1, 2]) A = true := by
  match A, lA, hA with
  | [K1, K2], _, hA =>
  match B, lB, hB with
  | [L1, L2, L3], _, hB =>
  obtain ⟨a, b, c, rfl, ha, hb, hc⟩ := few3 (hA K1 (by simp)).2 (hA K1 (by simp)).1
  obtain ⟨d, e, f, rfl, hd, he, hf⟩ := few3 (hA K2 (by simp)).2 (hA K2 (by simp)).1
  obtain ⟨g, h, rfl, hg, hh⟩ := few2 (hB L1 (by simp)).2 (hB L1 (by simp)).1
  obtain ⟨i, j, rfl, hi, hj⟩ := few2 (hB L2 (by simp)).2 (hB L2 (by simp)).1
  obtain ⟨k, l, rfl, hk, hl⟩ := few2 (hB L3 (by simp)).2 (hB L3 (by simp)).1
  obtain ⟨p, q, rfl, hp, hq⟩ := few2 hV lV
  have okA : matOk [fv [a, b, c], fv [d, e, f]] = true := ok2 (Sz3 ha hb hc) (Sz3 hd he hf) rfl rfl (by decide) (by simp)
  have okB : matOk [fv [g, h], fv [i, j], fv [k, l]] = true := ok3 (Sz2 hg hh) (Sz2 hi hj) (Sz2 hk hl) rfl rfl rfl (by decide) (by simp)
  have r1 := vec3 (Sz2 hg hh) (Sz2 hi hj) (Sz2 hk hl) ha hb hc rfl rfl rfl (by simp) (by decide)
  have r2 := vec3 (Sz2 hg hh) (Sz2 hi hj) (Sz2 hk hl) hd he hf rfl rfl rfl (by simp) (by decide)
  have eAB : matMul [fv [a, b, c], fv [d, e, f]] [fv [g, h], fv [i, j], fv [k, l]] = [fv [g * a + i * b + k * c, h * a + j * b + l * c], fv [g * d + i * e + k * f, h * d + j * e + l * f]] := mul23 okA okB rfl (by simp) (W := 2) rfl r1.1 r2.1 rfl rfl
  have z1 := r1.2
  have z2 := r2.2
  simp only [List.map_cons, List.map_nil, List.zipWith_cons_cons, List.zipWith_nil_left] at z1 z2
  have okAB := ok2 z1 z2 rfl rfl (by decide) (by simp)
  have t1 : matT [fv [a, b, c], fv [d, e, f]] = [fv [a, d], fv [b, e], fv [c, f]] := by unfold matT; rw [if_pos okA]; rfl
  have okT : matOk [fv [a, d], fv [b, e], fv [c, f]] = true := ok3 (Sz2 ha hd) (Sz2 hb he) (Sz2 hc hf) rfl rfl rfl (by decide) (by simp)
  have t2 : matT [fv [a, d], fv [b, e], fv [c, f]] = [fv [a, b, c], fv [d, e, f]] := by unfold matT; rw [if_pos okT]; rfl
  have t3 : matT [fv [g, h], fv [i, j], fv [k, l]] = [fv [g, i, k], fv [h, j, l]] := by unfold matT; rw [if_pos okB]; rfl
  have okS : matOk [fv [g, i, k], fv [h, j, l]] = true := ok2 (Sz3 hg hi hk) (Sz3 hh hj hl) rfl rfl (by decide) (by simp)
  rw [eAB]
  refine ⟨okAB, by rw [t1, t2]; exact eqM_refl _, ?_, ?_, ?_, ?_, ?_⟩
  · have m1 : matV [fv [g, h], fv [i, j], fv [k, l]] (fv [p, q]) = fv [g * p + h * q, i * p + j * q, k * p + l * q] := by
      unfold matV
      rw [if_pos okB]
      show vres [dotO (fv [g, h]) (fv [p, q]), dotO (fv [i, j]) (fv [p, q]), dotO (fv [k, l]) (fv [p, q])] = _
      rw [(dot2 hg hh hp hq (by decide)).1, (dot2 hi hj hp hq (by decide)).1, (dot2 hk hl hp hq (by decide)).1]
      exact vres_some (X := [_, _, _]) (show 3 ≤ 40 by decide)
    have y1 := (dot2 hg hh hp hq (by decide)).2
    have y2 := (dot2 hi hj hp hq (by decide)).2
    have y3 := (dot2 hk hl hp hq (by decide)).2
    have m2 : matV [fv [a, b, c], fv [d, e, f]] (fv [g * p + h * q, i * p + j * q, k * p + l * q]) = fv [a * (g * p + h * q) + b * (i * p + j * q) + c * (k * p + l * q), d * (g * p + h * q) + e * (i * p + j * q) + f * (k * p + l * q)] := by
      unfold matV
      rw [if_pos okA]
      show vres [dotO (fv [a, b, c]) _, dotO (fv [d, e, f]) _] = _
      rw [(dot3 ha hb hc y1 y2 y3 (by decide)).1, (dot3 hd he hf y1 y2 y3 (by decide)).1]
      exact vres_some (X := [_, _]) (show 2 ≤ 40 by decide)
    have m3 : matV [fv [g * a + i * b + k * c, h * a + j * b + l * c], fv [g * d + i * e + k * f, h * d + j * e + l * f]] (fv [p, q]) = fv [(g * a + i * b + k * c) * p + (h * a + j * b + l * c) * q, (g * d + i * e + k * f) * p + (h * d + j * e + l * f) * q] := by
      unfold matV
      rw [if_pos okAB]
      show vres [dotO (fv [g * a + i * b + k * c, h * a + j * b + l * c]) _, dotO (fv [g * d + i * e + k * f, h * d + j * e + l * f]) _] = _
      rw [(dot2 (z1 _ (by simp)) (z1 _ (by simp)) hp hq (by decide)).1, (dot2 (z2 _ (by simp)) (z2 _ (by simp)) hp hq (by decide)).1]
      exact vres_some (X := [_, _]) (show 2 ≤ 40 by decide)
    rw [m1, m2, m3, show (g * a + i * b + k * c) * p + (h * a + j * b + l * c) * q = a * (g * p + h * q) + b * (i * p + j * q) + c * (k * p + l * q) by grind, show (g * d + i * e + k * f) * p + (h * d + j * e + l * f) * q = d * (g * p + h * q) + e * (i * p + j * q) + f * (k * p + l * q) by grind]
    exact eqV_refl _
  · have t4 : matT [fv [g * a + i * b + k * c, h * a + j * b + l * c], fv [g * d + i * e + k * f, h * d + j * e + l * f]] = [fv [g * a + i * b + k * c, g * d + i * e + k * f], fv [h * a + j * b + l * c, h * d + j * e + l * f]] := by unfold matT; rw [if_pos okAB]; rfl
    have s1 := vec3 (Sz2 ha hd) (Sz2 hb he) (Sz2 hc hf) hg hi hk rfl rfl rfl (by simp) (by decide)
    have s2 := vec3 (Sz2 ha hd) (Sz2 hb he) (Sz2 hc hf) hh hj hl rfl rfl rfl (by simp) (by decide)
    have e4 : matMul [fv [g, i, k], fv [h, j, l]] [fv [a, d], fv [b, e], fv [c, f]] = [fv [a * g + b * i + c * k, d * g + e * i + f * k], fv [a * h + b * j + c * l, d * h + e * j + f * l]] := mul23 okS okT rfl (by simp) (W := 2) rfl s1.1 s2.1 rfl rfl
    rw [t4, t3, t1, e4, show a * g + b * i + c * k = g * a + i * b + k * c by grind, show d * g + e * i + f * k = g * d + i * e + k * f by grind, show a * h + b * j + c * l = h * a + j * b + l * c by grind, show d * h + e * j + f * l = h * d + j * e + l * f by grind]
    exact eqM_refl _
  · have u1 := vec2 (Sz3 ha hb hc) (Sz3 hd he hf) hp hq rfl rfl (by simp) (by decide)
    have e1 : vecM (fv [p, q]) [fv [a, b, c], fv [d, e, f]] = fv [a * p + d * q, b * p + e * q, c * p + f * q] := u1.1
    have y := u1.2
    simp only [List.map_cons, List.map_nil, List.zipWith_cons_cons, List.zipWith_nil_left] at y
    have u2 := vec3 (Sz2 hg hh) (Sz2 hi hj) (Sz2 hk hl) (y _ (by simp : a * p + d * q ∈ _)) (y _ (by simp : b * p + e * q ∈ _)) (y _ (by simp : c * p + f * q ∈ _)) rfl rfl rfl (by simp) (by decide)
    have e2 : vecM (fv [a * p + d * q, b * p + e * q, c * p + f * q]) [fv [g, h], fv [i, j], fv [k, l]] = fv [g * (a * p + d * q) + i * (b * p + e * q) + k * (c * p + f * q), h * (a * p + d * q) + j * (b * p + e * q) + l * (c * p + f * q)] := u2.1
    have u3 := vec2 z1 z2 hp hq rfl rfl (by simp) (by decide)
    have e3 : vecM (fv [p, q]) [fv [g * a + i * b + k * c, h * a + j * b + l * c], fv [g * d + i * e + k * f, h * d + j * e + l * f]] = fv [(g * a + i * b + k * c) * p + (g * d + i * e + k * f) * q, (h * a + j * b + l * c) * p + (h * d + j * e + l * f) * q] := u3.1
    rw [e1, e2, e3, show (g * a + i * b + k * c) * p + (g * d + i * e + k * f) * q = g * (a * p + d * q) + i * (b * p + e * q) + k * (c * p + f * q) by grind, show (h * a + j * b + l * c) * p + (h * d + j * e + l * f) * q = h * (a * p + d * q) + j * (b * p + e * q) + l * (c * p + f * q) by grind]
    exact eqV_refl _
  · have okI : matOk [fv [one, nul, nul], fv [nul, one, nul], fv [nul, nul, one]] = true := ok3 (Sz3 szq_one1 szq_nul1 szq_nul1) (Sz3 szq_nul1 szq_one1 szq_nul1) (Sz3 szq_nul1 szq_nul1 szq_one1) rfl rfl rfl (by decide) (by simp)
    have s1 := vec3 (Sz3 szq_one1 szq_nul1 szq_nul1) (Sz3 szq_nul1 szq_one1 szq_nul1) (Sz3 szq_nul1 szq_nul1 szq_one1) ha hb hc rfl rfl rfl (by simp) (by decide)
    have s2 := vec3 (Sz3 szq_one1 szq_nul1 szq_nul1) (Sz3 szq_nul1 szq_one1 szq_nul1) (Sz3 szq_nul1 szq_nul1 szq_one1) hd he hf rfl rfl rfl (by simp) (by decide)
    have e6 : matMul [fv [a, b, c], fv [d, e, f]] [fv [one, nul, nul], fv [nul, one, nul], fv [nul, nul, one]] = [fv [one * a + nul * b + nul * c, nul * a + one * b + nul * c, nul * a + nul * b + one * c], fv [one * d + nul * e + nul * f, nul * d + one * e + nul * f, nul * d + nul * e + one * f]] := mul23 okA okI rfl (by simp) (W := 3) rfl s1.1 s2.1 rfl rfl
    rw [matI3, e6, show one = 1 from rfl, show nul = 0 from rfl]
    have w1 : ∀ x y z : Rat, 1 * x + 0 * y + 0 * z = x := by intro x y z; grind
    have w2 : ∀ x y z : Rat, 0 * x + 1 * y + 0 * z = y := by intro x y z; grind
    have w3 : ∀ x y z : Rat, 0 * x + 0 * y + 1 * z = z := by intro x y z; grind
    rw [w1, w2, w3, w1, w2, w3]
    exact eqM_refl _
  · have e7 : matC [fv [a, b, c], fv [d, e, f]] [0, 1, 2] = [fv [a, b, c], fv [d, e, f]] := by
      unfold matC
      rw [if_pos ⟨⟨okA, by decide⟩, rfl⟩]
      rfl
    rw [e7]
    exact eqM_refl _
end Go.Proofs.YtdffmeinofgdgaaGreat
