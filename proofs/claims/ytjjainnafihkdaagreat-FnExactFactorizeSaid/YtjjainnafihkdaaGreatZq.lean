import Derived.Test.YtjjainnafihkdaaGreatZs
set_option maxRecDepth 512
set_option maxHeartbeats 200000
set_option linter.unusedVariables false
set_option linter.unusedSimpArgs false
namespace Go.Proofs.YtjjainnafihkdaaGreat
open Go.RowKit
open Go.Lib (hid)
theorem un_join : ∀ (M O : List (List Fq)), un (joinF M O) = joinR (un M) (un O)
 | [], _ => rfl
 | _ :: _, [] => rfl
 |K :: M, L :: O => by
  have ih := un_join M O
  unfold un joinF joinR at ih ⊢
  simp only [List.zipWith_cons_cons, List.map_cons, List.map_append, ih]
theorem un_matI {n : Nat} (h : n ≤ 40) : un (matI (n : Int)) = idR n := by
 rw [matI_yes h]
 unfold un idR
 rw [List.map_map]
 refine List.map_congr_left fun i hi => ?_
 have hi' := List.mem_range.1 hi
 simp only [Function.comp_apply]
 have hu : unitK (n : Int) (i : Int) = rv ((List.range n).map fun j => if j = i then (1 : Rat) else 0) := by
  rw [unitK_kv h hi' []]
  unfold kvJ
  congr 1
  refine List.map_congr_left fun j hj => ?_
  rw [if_neg (show ¬(j < i ∧ j < 0) by omega)]
 rw [hu, un_fr]
 intro x hx
 obtain ⟨j, -, rfl⟩ := List.mem_map.1 hx
 split
 ·exact fit_one
 ·exact fit_zero
theorem matI_len {n : Nat} (h : n ≤ 40) : (matI (n : Int)).length = n := by rw [matI_yes h]; simp
theorem unit_ok {n i : Nat} (h : n ≤ 40) (hi : i < n) : (unitK (n : Int) (i : Int)).length = n ∧ oks (vals (unitK (n : Int) (i : Int))) = true := by
 rw [unitK_kv h hi []]
 refine ⟨by rw [rv_len, kvJ_len], oks_rv ?_ (by rw [kvJ_len]; exact h)⟩
 intro x hx
 obtain ⟨j, hj, rfl⟩ := List.getElem_of_mem hx
 rw [kvJ_at, if_neg (show ¬(j < i ∧ j < 0) by omega)]
 split
 ·exact fit_one
 ·exact fit_zero
theorem matI_row {n : Nat} (h : n ≤ 40) : ∀ k (hk : k < (matI (n : Int)).length), (matI (n : Int))[k].length = n ∧ oks (vals (matI (n : Int))[k]) = true := fun k hk => by
 rw [matI_len h] at hk
 have e : (matI (n : Int))[k]'(by rw [matI_len h]; exact hk) = unitK (n : Int) (k : Int) := by simp [matI_yes h]
 rw [e]
 exact unit_ok h hk
theorem matI_w {n : Nat} (h : n ≤ 40) (h0 : 0 < n) : matW (matI (n : Int)) = n := by
 rw [matW_at (by rw [matI_len h]; exact h0)]
 exact (matI_row h 0 _).1
theorem matI_ok {n : Nat} (h : n ≤ 40) : matOk (matI (n : Int)) = true := by
 refine matOk_yes (by rw [matI_len h]; exact h) fun k hk => ?_
 have hk' := hk
 rw [matI_len h] at hk'
 rw [matI_w h (by omega)]
 exact matI_row h k hk
theorem matI_sm {n : Nat} (h : n ≤ 40) : Sm2 (matI (n : Int)) := by
 have := matI_sz (n : Int)
 exact Sm2.of (by omega)
noncomputable def invM (M : List (List Fq)) : Option (List (List Rat)) := if (matOk M = true ∧ M.length ≠ 0) ∧ M.length = matW M ∧ M.length + M.length ≤ 40 then invK (un M) M.length else none
noncomputable def invF (M : List (List Fq)) : List (List Fq) := match invM M with
 | none => []
 | some S => S.map rv
noncomputable def invB (M : List (List Fq)) : Bool := (invM M).isSome
theorem invM_no {M : List (List Fq)} (h : ¬ ((matOk M = true ∧ M.length ≠ 0) ∧ M.length = matW M ∧ M.length + M.length ≤ 40)) : invM M = none := by unfold invM; rw [if_neg h]
theorem inv_none {M : List (List Fq)} (h : invM M = none) : invF M = [] ∧ invB M = false := by unfold invF invB; rw [h]; exact ⟨rfl, rfl⟩
theorem inv_some {M : List (List Fq)} {S : List (List Rat)} (h : invM M = some S) : invF M = S.map rv ∧ invB M = true := by unfold invF invB; rw [h]; exact ⟨rfl, rfl⟩
theorem inv_join {M : List (List Fq)} (hM : matOk M = true) (h0 : M.length ≠ 0) (hw : M.length = matW M) :
  (40 < M.length + M.length → matOk (joinF M (matI (M.length : Int))) = false) ∧
  (M.length + M.length ≤ 40 → matOk (joinF M (matI (M.length : Int))) = true ∧ matW (joinF M (matI (M.length : Int))) = M.length + M.length ∧ un (joinF M (matI (M.length : Int))) = joinR (un M) (idR M.length) ∧ Rows M.length (un M) ∧ Rows M.length (idR M.length) ∧ invM M = invK (un M) M.length) := by
 have hn := matOk_n hM
 have hl : M.length ≤ (matI (M.length : Int)).length := by rw [matI_len hn]; exact Nat.le_refl _
 have hjw : matW (joinF M (matI (M.length : Int))) = M.length + M.length := by rw [join_w hl (by omega), matI_w hn (by omega), ← hw]
 refine ⟨fun h => ?_, fun h => ⟨join_yes hl hM (matI_ok hn) (by rw [matI_w hn (by omega), ← hw]; exact h), hjw, by rw [un_join, un_matI hn], ?_, ?_, by unfold invM; rw [if_pos ⟨⟨hM, h0⟩, hw, h⟩]⟩⟩
 ·cases e : matOk (joinF M (matI (M.length : Int))) with
  | false => rfl
  |true =>
   have := matOk_w e
   rw [hjw] at this
   omega
 ·have := (un_rv hM).2
  rw [← hw] at this
  exact this
 ·have := (un_rv (matI_ok hn)).2
  rw [un_matI hn, matI_w hn (by omega)] at this
  exact this
theorem invF_sz (M : List (List Fq)) : (invF M).length ≤ 40 ∧ szM (invF M) ≤ 78400 := by
 cases e : invM M with
 | none => rw [(inv_none e).1]; simp [szM]
 |some S =>
  rw [(inv_some e).1]
  unfold invM at e
  split at e
  ·rename_i hc
   obtain ⟨⟨hM, h0⟩, hw, h40⟩ := hc
   obtain ⟨-, -, hu, hR, hI, -⟩ := (inv_join hM h0 hw).2 h40
   have hn := matOk_n hM
   have hJ := hR.join hI (by rw [un_len, idR_len])
   unfold invK at e
   split at e
   ·cases e
   ·rename_i S' ps hr
    split at e
    ·simp only [Option.some.injEq] at e
     subst e
     obtain ⟨i1, i2, -⟩ := redK_inv hJ hr
     rw [joinR_len (by rw [un_len, idR_len]), un_len] at i2
     have hl : ((S'.map fun X => X.drop M.length).map rv).length ≤ 40 := by rw [List.length_map, List.length_map, i2]; exact hn
     refine ⟨hl, szM_40 hl fun K hK => ?_⟩
     obtain ⟨Y, hY, rfl⟩ := List.mem_map.1 hK
     obtain ⟨X, hX, rfl⟩ := List.mem_map.1 hY
     exact fv_sz (fun x hx => i1.af X hX x (List.mem_of_mem_drop hx)) (by rw [List.length_drop, i1.len X hX]; omega)
    ·cases e
  ·cases e
def InvG (K : List (List Fq)) (B : Bool) (w : World) (e : Ending) (w' : World) : Prop := ∃ a n c, e = .returned (.tuple #[.slice a n c, .bool B]) ∧ MAK w' (.slice a n c) K w.heap.size w'.heap.size ∧ Below w.heap.size w w'
theorem InvG_no {K : List (List Fq)} {B : Bool} {w w' : World} (hK : K = []) (hB : B = false) (hb : Below w.heap.size w w') : InvG K B w (.returned (.tuple #[.slice none 0 0, .bool false])) w' := by
 subst hK hB
 exact ⟨_, _, _, rfl, .inl ⟨rfl, rfl⟩, hb⟩
def InvS (K : List (List Fq)) (B : Bool) (w : World) (e : Ending) (w' : World) : Prop := ∃ a n c, e = .returned (.tuple #[.slice a n c, .bool B]) ∧ MW w' a n K w.heap.size w'.heap.size ∧ Below w.heap.size w w'
theorem InvS_no {K : List (List Fq)} {B : Bool} {w w' : World} (hK : K = []) (hB : B = false) (hb : Below w.heap.size w w') : InvS K B w (.returned (.tuple #[.slice none 0 0, .bool false])) w' := by
 subst hK hB
 exact ⟨_, _, _, rfl, MW_nil _ _ _ _, hb⟩
end Go.Proofs.YtjjainnafihkdaaGreat
