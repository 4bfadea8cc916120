/- Marks on slices of rows' structs. -/
import Derived.Test.YteanocjkdehhgaaKb
import Derived.Deep.RegionHeld3
namespace Go.Proofs.Yteanocjkdehhgaa
open Go.RowKit
open Go.Lib (hid)
set_option linter.unusedVariables false

variable {α : Type} {D : Kd α} {T : TypeId}
theorem GO.inel' {w w' : World} {v : Value} {F : List α} {lo i : Nat} {S : Nat → Prop} {e1 : α} (hi : i < F.length) (h : GO D T w v (F.set i e1) lo S) {e : α} (hc : D.cs e = D.cs e1) (hr : ∀ k, D.inr e k → D.inr e1 k) (hb : Only (fun k => D.inr e1 k ∨ w.heap.size ≤ k) w w') (hp : D.P w' e) : GO D T w' v (F.set i e) lo S := by
  have hi' : i < (F.set i e1).length := by rw [List.length_set]; exact hi
  have e0 := list_set_at hi e1
  have := h.inel hi' (e := e) (by rw [e0]; exact hc) (by rw [e0]; exact hr) (by rw [e0]; exact hb) hp
  rwa [List.set_set] at this
theorem GO.putc' {w : World} {g n c : Nat} {F : List α} {lo i : Nat} {S : Nat → Prop} {e1 : α} (hi : i < F.length) (h : GO D T w (.slice (some ⟨g, 0, none⟩) n c) (F.set i e1) lo S) (j : Nat) (hj : j < D.n) {x : Value} (e : α) (hc : D.cs e = (D.cs e1).set j x) (hr : ∀ k, D.inr e k → D.inr e1 k) (hp : ∀ w, D.P w e1 → D.P w e) :
    GO D T (w.setCell ⟨g, i * D.n + j, none⟩ x) (.slice (some ⟨g, 0, none⟩) n c) (F.set i e) lo S := by
  have hi' : i < (F.set i e1).length := by rw [List.length_set]; exact hi
  have e0 := list_set_at hi e1
  have := h.putc hi' j hj e (by rw [e0]; exact hc) (by rw [e0]; exact hr) (by rw [e0]; exact hp)
  rwa [List.set_set] at this
theorem GO.set_el {w : World} {v : Value} {F : List α} {lo i : Nat} {S : Nat → Prop} {e : α} (hi : i < F.length) (h : GO D T w v (F.set i e) lo S) : D.P w e :=
  h.el e (List.mem_iff_getElem.2 ⟨i, by rw [List.length_set]; exact hi, list_set_at hi e⟩)
theorem GO.set_cell {w : World} {g n c : Nat} {F : List α} {lo i : Nat} {S : Nat → Prop} {e : α} (hi : i < F.length) (h : GO D T w (.slice (some ⟨g, 0, none⟩) n c) (F.set i e) lo S) (j : Nat) {x : Value} (hx : (D.cs e)[j]? = some x) : w.cell? ⟨g, i * D.n + j, none⟩ = some x := by
  refine h.cell (i := i) (by rw [List.length_set]; exact hi) j ?_
  rw [list_set_at hi e]
  exact hx
theorem GO.rgs {w : World} {v : Value} {F : List α} {lo i : Nat} {S : Nat → Prop} {e : α} (hi : i < F.length) (h : GO D T w v (F.set i e) lo S) : ∀ k, D.inr e k → S k :=
  h.rg e (List.mem_iff_getElem.2 ⟨i, by rw [List.length_set]; exact hi, list_set_at hi e⟩)
def MarkTS (S : Nat → Prop) (v : Value) (E : List Et) (m : Int) (lo hi : Nat) (w : World) (e : Ending) (w' : World) : Prop := e = .returned (.int .i64 (m + (szT (keysT E) : Int))) ∧ TO true w' v (mkET E m) lo hi ∧ Only S w w'
set_option maxRecDepth 100000 in
set_option maxHeartbeats 3200000 in
theorem markTermS_S {S : Nat → Prop} (v : Value) (E : List Et) (m : Int) (lo hi : Nat) (hK : szT (keysT E) ≤ 33554432) (m0 : 0 ≤ m) (m1 : m ≤ 67108864) (w : World) (o1 : TO true w v E lo hi) (s0 : ∀ k, v.ownBlock = some k → S k) (s1 : ∀ e ∈ E, ∀ k, (e.v.ownBlock = some k ∨ e.u.ownBlock = some k) → S k) :
    Calls Try.prog 54 #[v, .int .i64 m] w (MarkTS S v E m lo hi w) := by
  have HK := hid hK
  have HS0 := hid s0
  have HS1 := hid s1
  clear s0 s1
  have hsz := szT_len (keysT E)
  rw [keysT_len] at hsz
  have O1 := hid o1
  obtain ⟨a, c, rfl, -⟩ := o1.form
  clear o1 hK
  have hEl : E.length ≤ 33554432 := by have := HK.out; omega
  clear hsz
  go_enter Try.func54, Try.ntmps54
  go_wp2
  go_loopw [1, 5] (fun x i wr => ∃ (k : Nat) (y : Int), k ≤ E.length ∧ i = .int .i64 k ∧ x = .int .i64 y ∧ Hid (y = m + (szT (keysT (E.take k)) : Int)) ∧ Hid (TO true wr (.slice a E.length c) (mkdT E m k) lo hi) ∧ Hid (Only S w wr)) (fun _ i _ => E.length - (intOf i).toNat)
  case atStart => exact ⟨0, m, Nat.zero_le _, rfl, rfl, hid (by simp [keysT, szT]), hid (by rw [mkdT_zero]; exact O1.out), hid (Only.refl _ _)⟩
  case round =>
    obtain ⟨k, y, hk, rfl, rfl, hy, hV, hB⟩ := hrel
    by_cases hlt : k < E.length
    · have hl := hid (mkdT_len (E := E) (m := m) (k := k) hk)
      have hlm := hid (show k < (mkdT E m k).length by rw [hl.out]; exact hlt)
      obtain ⟨g, rfl, -, hg1, hg2, hg⟩ := hV.out.pos (by rw [hl.out]; omega)
      have hat := mkdT_at (m := m) hlt
      have hset := hid (mkdT_set (m := m) hlt)
      have hy2 := hy.out
      have hn := szT_at (K := keysT E) (k := k) (by rw [keysT_len]; exact hlt)
      have hst := szT_take (K := keysT E) (k := k) (by rw [keysT_len]; exact hlt)
      rw [keysT_at hlt, ← keysT_take] at hn
      rw [keysT_at hlt, ← keysT_take, ← keysT_take] at hst
      have hKv := HK.out
      have q012 := hV.out.cell hlm.out
      have R := hV.out.at hlm.out
      have V1 := hid (hV.out.puts hlm.out y ((y + 1) % 3 == 0))
      rw [hat] at q012 R V1
      rw [← hy2] at hset
      clear hat hy2
      have hs1 := HS1.out _ (List.getElem_mem hlt)
      have hgS := HS0.out g rfl
      generalize hE : E[k] = e1 at q012 R V1 hset hn hst hs1
      clear hE
      obtain ⟨⟨x0, s, A, D⟩, x1, y1⟩ := e1
      simp only [Tq.n, Tq.mk'] at q012 R V1 hset hn hst
      obtain ⟨a3, c3, b3, d3, rfl, rfl⟩ := R.form
      have HSE := hid hs1
      clear R hs1
      have HST := hid hst
      obtain ⟨qc, q0, q1, q2⟩ := q012
      have f0 := hV.out.free (k * 4)
      have f1 := hV.out.free (k * 4 + 1)
      have y0 : 0 ≤ y := by have := hy.out; omega
      have yb : y ≤ 134217728 := by have := hy.out; omega
      have hA : A.length ≤ 33554432 := by omega
      have hD : D.length ≤ 33554432 := by omega
      have B1 := hid ((hB.out.setCell (p := ⟨g, k * 4, none⟩) hgS (.int .i64 y)).setCell (p := ⟨g, k * 4 + 1, none⟩) hgS (.bool ((y + 1) % 3 == 0)))
      have KA := hid (fun (W : World) (V : TO true W (.slice (some ⟨g, 0, none⟩) E.length c) ((mkdT E m k).set k ⟨⟨y, (y + 1) % 3 == 0, A, D⟩, .slice a3 A.length c3, .slice b3 D.length d3⟩) lo hi) =>
        markIntS_any lo (.slice a3 A.length c3) A (y + 2) (by omega) (by omega) (by omega) (fun j => (Value.slice a3 A.length c3).ownBlock = some j) W (V.set_at hlm.out).a.ints (fun j hj => hj))
      have KD := hid (fun (W : World) (V : TO true W (.slice (some ⟨g, 0, none⟩) E.length c) ((mkdT E m k).set k ⟨⟨y, (y + 1) % 3 == 0, marks A.length (y + 2), D⟩, .slice a3 A.length c3, .slice b3 D.length d3⟩) lo hi) =>
        markIntS_any lo (.slice b3 D.length d3) D (y + 2 + (A.length : Int)) (by omega) (by omega) (by omega) (fun j => (Value.slice b3 D.length d3).ownBlock = some j) W (V.set_at hlm.out).d.ints (fun j hj => hj))
      have a1' : (0 : Int) ≤ k := by omega
      have a2' : (k : Int) < E.length := by omega
      have a3 : y + 1 + 1 = y + 2 := by omega
      clear hst hn
      go_wp2_with fail
      (with_reducible refine (KA.out _ V1.out).mono ?_)
      rintro e w2 ⟨rfl, hi2, ho2⟩
      have V2 := hid (V1.out.inA' hlm.out ho2 hi2)
      have B2 := hid (B1.out.trans (ho2.mono fun j hj => HSE.out j (.inl hj)))
      obtain ⟨qc, q0, q1, q2⟩ := V2.out.set_cell hlm.out
      clear hi2 ho2 f0 f1
      go_wp2_with fail
      (with_reducible refine (KD.out _ V2.out).mono ?_)
      rintro e w3 ⟨rfl, hi3, ho3⟩
      have V3 := hid (V2.out.inD' hlm.out ho3 hi3)
      have B3 := hid (B2.out.trans (ho3.mono fun j hj => HSE.out j (.inr hj)))
      clear hi3 ho3 qc q0 q1 q2
      go_wp2
      go_roundw
      case rel => exact ⟨k + 1, y + 2 + (A.length : Int) + (D.length : Int), by omega, by go_num, rfl, hid (by have := hy.out; have := HST.out; omega), hid (by rw [← hset.out]; exact V3.out), B3⟩
      case measure => simp [intOf]; omega
    · obtain rfl : k = E.length := by omega
      go_wp2
      go_ret
      have h1 := hV.out
      rw [mkdT_all] at h1
      have h2 := hy.out
      rw [List.take_length] at h2
      subst h2
      exact ⟨rfl, h1, hB.out⟩
set_option maxRecDepth 100000 in
set_option maxHeartbeats 3200000 in
theorem heldTermS_R (p : Bool) (v : Value) (E E0 : List Et) (m : Int) (lo hi : Nat) (hm : keysT E = keysT (mkET E0 m)) (hK : szT (keysT E0) ≤ 33554432) (m0 : 0 ≤ m) (m1 : m ≤ 67108864) (w : World) (o1 : TO p w v E lo hi) :
    Calls Try.prog 61 #[v, .int .i64 m] w (RetB (.int .i64 (m + (szT (keysT E0) : Int))) w) := by
  have HK := hid hK
  have hsz := szT_len (keysT E0)
  rw [keysT_len] at hsz
  have hl : E.length = E0.length := by have := congrArg List.length hm; rwa [keysT_len, keysT_len, mkET_len] at this
  have HL := hid hl
  have HM := hid hm
  have O1 := hid o1
  obtain ⟨a, c, rfl, -⟩ := o1.form
  clear o1 hK hm
  have hEl : E0.length ≤ 33554432 := by have := HK.out; omega
  clear hsz
  rw [hl] at O1 ⊢
  clear hl
  go_enter Try.func61, Try.ntmps61
  go_wp2
  go_loopw [1, 5] (fun x i wr => ∃ (k : Nat) (y : Int), k ≤ E0.length ∧ i = .int .i64 k ∧ x = .int .i64 y ∧ Hid (y = m + (szT (keysT (E0.take k)) : Int)) ∧ Below w.heap.size w wr) (fun _ i _ => E0.length - (intOf i).toNat)
  case atStart => exact ⟨0, m, Nat.zero_le _, rfl, rfl, hid (by simp [keysT, szT]), Below.refl _ _⟩
  case round =>
    obtain ⟨k, y, hk, rfl, rfl, hy, hbel⟩ := hrel
    have hB := hid hbel
    by_cases hlt : k < E0.length
    · have hlm := hid (show k < E.length by rw [HL.out]; exact hlt)
      have V := hid (O1.out.old hbel)
      obtain ⟨g, rfl, -, hg1, hg2, hg⟩ := V.out.pos (by rw [HL.out]; omega)
      have hy2 := hy.out
      have hn := szT_at (K := keysT E0) (k := k) (by rw [keysT_len]; exact hlt)
      have hst := szT_take (K := keysT E0) (k := k) (by rw [keysT_len]; exact hlt)
      rw [keysT_at hlt, ← keysT_take] at hn
      rw [keysT_at hlt, ← keysT_take, ← keysT_take] at hst
      have hKv := HK.out
      have q012 := V.out.cell hlm.out
      have R := V.out.at hlm.out
      have hkey : E[k].q = E0[k].q.mk' y := by
        have h1 := keysT_at hlm.out
        have h2 := keysT_at (E := mkET E0 m) (k := k) (by rw [mkET_len]; exact hlt)
        have h3 := mkET_at E0 m k hlt
        refine h1.symm.trans ?_
        simp only [HM.out]
        rw [h2, h3, hy2]
      generalize E[k] = e1 at q012 R hkey
      generalize E0[k] = e0 at hkey hn hst
      obtain ⟨q, x1, y1⟩ := e1
      simp only at hkey
      subst hkey
      obtain ⟨⟨xc, s, A, D⟩, x0, y0⟩ := e0
      simp only [Tq.n, Tq.mk'] at q012 R hn hst
      obtain ⟨a3, c3, b3, d3, rfl, rfl⟩ := R.form
      rw [marks_len, marks_len] at q012 R
      have HST := hid hst
      obtain ⟨qc, q0, q1, q2⟩ := q012
      have y0' : 0 ≤ y := by have := hy.out; omega
      have yb : y ≤ 134217728 := by have := hy.out; omega
      have hA : A.length ≤ 33554432 := by omega
      have hD : D.length ≤ 33554432 := by omega
      have KA := hid (fun (W : World) (hb : Below wr.heap.size wr W) => heldIntS_obj (.slice a3 A.length c3) A.length (y + 2) lo hi (by omega) (by omega) (by omega) W (R.a.old hb))
      have KD := hid (fun (W : World) (hb : Below wr.heap.size wr W) => heldIntS_obj (.slice b3 D.length d3) D.length (y + 2 + (A.length : Int)) lo hi (by omega) (by omega) (by omega) W (R.d.old hb))
      have c1' : ¬ y + 2 + (A.length : Int) < 0 := by omega
      have c2' : ¬ y + 2 + (A.length : Int) + (D.length : Int) < 0 := by omega
      have a1' : (0 : Int) ≤ k := by omega
      have a2' : (k : Int) < E0.length := by omega
      have a3 : y + 1 + 1 = y + 2 := by omega
      clear hst hn R hbel hy2
      go_wp2_with fail
      (with_reducible refine (KA.out _ (Below.refl _ _)).mono ?_)
      rintro e w2 ⟨rfl, hb⟩
      have hB := hid (hB.out.trans (hb.mono hB.out.size))
      have q2 := (hb.cell (p := ⟨g, k * 4 + 3, none⟩) hg).trans q2
      have HB := hid hb
      clear hb qc q0 q1
      go_wp2_with fail
      (with_reducible refine (KD.out _ HB.out).mono ?_)
      rintro e w3 ⟨rfl, hb⟩
      have hB := hid (hB.out.trans (hb.mono hB.out.size))
      clear hb q2
      go_wp2
      go_roundw
      case rel => exact ⟨k + 1, y + 2 + (A.length : Int) + (D.length : Int), by omega, by go_num, rfl, hid (by have := hy.out; have := HST.out; omega), hB.out⟩
      case measure => simp [intOf]; omega
    · obtain rfl : k = E0.length := by omega
      clear hbel
      go_wp2
      go_ret
      have h2 := hy.out
      rw [List.take_length] at h2
      exact ⟨ret_in h2, hB.out⟩
theorem markTermS_r {v : Value} {K : List Tq} {m : Int} {lo hi : Nat} (hK : szT K ≤ 33554432) (m0 : 0 ≤ m) (m1 : m ≤ 67108864) (w : World) (o1 : TK true w v K lo hi) :
    Calls Try.prog 54 #[v, .int .i64 m] w (MarkTK v K m lo hi w) := by
  obtain ⟨E, o1, rfl⟩ := o1
  exact (markTermS_S (S := InS lo hi) v E m lo hi hK m0 m1 w o1 (fun k hk => ⟨(o1.lt k hk).1, o1.high k hk⟩) (fun e he k hk => by
    have r := o1.el e he
    rcases hk with hk | hk
    · exact ⟨(Ints_lt r.a.ints k hk).1, r.a.high k hk⟩
    · exact ⟨(Ints_lt r.d.ints k hk).1, r.d.high k hk⟩)).mono fun e w' ⟨he, hv, ho⟩ => ⟨he, ⟨_, hv, keysT_mkE E m⟩, ho.mono fun k hk => .inl hk⟩
theorem heldTermS_r {p : Bool} {v : Value} {K : List Tq} {m : Int} {lo hi : Nat} (hK : szT K ≤ 33554432) (m0 : 0 ≤ m) (m1 : m ≤ 67108864) (w : World) (o1 : TK p w v (mkT K m) lo hi) :
    Calls Try.prog 61 #[v, .int .i64 m] w (RetB (.int .i64 (m + (szT K : Int))) w) := by
  obtain ⟨E, o1, e⟩ := o1
  have hk : keysT (K.map fun f => (⟨f, .slice none 0 0, .slice none 0 0⟩ : Et)) = K := by simp [keysT, Function.comp_def]
  have := heldTermS_R p v E (K.map fun f => ⟨f, .slice none 0 0, .slice none 0 0⟩) m lo hi (by rw [keysT_mkE, hk, e]) (by rw [hk]; exact hK) m0 m1 w o1
  rwa [hk] at this
theorem mkET_mem : ∀ {E : List Et} {m : Int} {x : Et}, x ∈ mkET E m → ∃ e ∈ E, x.v = e.v ∧ x.u = e.u
  | [], _, x, h => by simp [mkET] at h
  | e :: E, m, x, h => by
    simp only [mkET, List.mem_cons] at h
    rcases h with rfl | h
    · exact ⟨e, .head _, rfl, rfl⟩
    · obtain ⟨e', h1, h2⟩ := mkET_mem h
      exact ⟨e', .tail _ h1, h2⟩
theorem Obj.keepS {w w' : World} {v : Value} {L : List Int} {lo hi : Nat} {S : Nat → Prop} (h : Obj w v L lo hi) (hb : Only S w w') (hd : ∀ k, v.ownBlock = some k → ¬ S k) : Obj w' v L lo hi := ⟨Ints_only h.ints hb hd, h.high⟩
theorem TO.keepS {p : Bool} {w w' : World} {v : Value} {E : List Et} {lo hi : Nat} {S : Nat → Prop} (h : TO p w v E lo hi) (hb : Only S w w') (h0 : ∀ k, v.ownBlock = some k → ¬ S k) (h1 : ∀ e ∈ E, ∀ k, (e.v.ownBlock = some k ∨ e.u.ownBlock = some k) → ¬ S k) : TO p w' v E lo hi :=
  ⟨own_block h.row fun k hk => hb.block k (h0 k hk), h.high, fun e he => ⟨(h.el e he).a.keepS hb fun k hk => h1 e he k (.inl hk), (h.el e he).d.keepS hb fun k hk => h1 e he k (.inr hk)⟩, h.nd, h.ap⟩
/-- The terms of a row's struct are marked. -/
theorem markTermS_g {t v u : Value} {K : List Tq} {A D : List Int} {lo hi : Nat} {m : Int} (hK : szT K ≤ 33554432) (m0 : 0 ≤ m) (m1 : m ≤ 67108864) (w : World) (h : RwG w t v u K A D lo hi) :
    Calls Try.prog 54 #[t, .int .i64 m] w (fun e w' => e = .returned (.int .i64 (m + (szT K : Int))) ∧ RwG w' t v u (mkT K m) A D lo hi ∧ Only (InS lo hi) w w') := by
  obtain ⟨E, hE, rfl, ha⟩ := h.t
  have hne : ∀ {y : Value} {L : List Int}, Obj w y L lo hi → ∀ k, t.ownBlock = some k → y.ownBlock ≠ some k := fun ho k hk => own_ne hE.row ho.ints (by decide) k hk
  have hr := h.r
  refine (markTermS_S (S := fun k => t.ownBlock = some k ∨ ∃ e ∈ E, e.v.ownBlock = some k ∨ e.u.ownBlock = some k) t E m lo hi hK m0 m1 w hE (fun k hk => .inl hk) (fun e he k hk => .inr ⟨e, he, hk⟩)).mono fun e w' hh => ?_
  obtain ⟨h1, h2, h3⟩ := hh
  refine ⟨h1, ⟨⟨_, h2, keysT_mkE E m, fun x hx k hk => ?_⟩, ⟨hr.a.keepS h3 fun k hk hs => ?_, hr.d.keepS h3 fun k hk hs => ?_, hr.ne⟩⟩, h3.mono fun k hk => ?_⟩
  · obtain ⟨e', he', e1, e2⟩ := mkET_mem hx
    rw [e1, e2] at hk
    exact ha e' he' k hk
  · rcases hs with hs | ⟨x, hx, hs⟩
    · exact hne hr.a k hs hk
    · exact (ha x hx k hs).1 hk
  · rcases hs with hs | ⟨x, hx, hs⟩
    · exact hne hr.d k hs hk
    · exact (ha x hx k hs).2 hk
  · rcases hk with hk | ⟨x, hx, hk⟩
    · exact ⟨(hE.lt k hk).1, hE.high k hk⟩
    · have r := hE.el x hx
      rcases hk with hk | hk
      · exact ⟨(Ints_lt r.a.ints k hk).1, r.a.high k hk⟩
      · exact ⟨(Ints_lt r.d.ints k hk).1, r.d.high k hk⟩
theorem RwG.inA {w w' : World} {t v u : Value} {K : List Tq} {A D A' : List Int} {lo hi : Nat} (h : RwG w t v u K A D lo hi) (hb : Only (fun k => v.ownBlock = some k) w w') (ha : Ints w' lo v A') : RwG w' t v u K A' D lo hi := by
  obtain ⟨E, hE, e, hx⟩ := h.t
  exact ⟨⟨E, hE.keepS hb (fun k hk hs => own_ne hE.row h.r.a.ints (by decide) k hk hs) (fun x hm k hk hs => (hx x hm k hk).1 hs), e, hx⟩, h.r.inA hb ha⟩
theorem RwG.inD {w w' : World} {t v u : Value} {K : List Tq} {A D D' : List Int} {lo hi : Nat} (h : RwG w t v u K A D lo hi) (hb : Only (fun k => u.ownBlock = some k) w w') (ha : Ints w' lo u D') : RwG w' t v u K A D' lo hi := by
  obtain ⟨E, hE, e, hx⟩ := h.t
  exact ⟨⟨E, hE.keepS hb (fun k hk hs => own_ne hE.row h.r.d.ints (by decide) k hk hs) (fun x hm k hk hs => (hx x hm k hk).2 hs), e, hx⟩, h.r.inD hb ha⟩
def Wq.mk' (q : Wq) (y : Int) : Wq := ⟨mkT q.K y, y + (szT q.K : Int), (y + (szT q.K : Int) + 1) % 3 == 0, marks q.A.length (y + (szT q.K : Int) + 2), marks q.D.length (y + (szT q.K : Int) + 2 + (q.A.length : Int))⟩
def Er.mk1 (e : Er) (y : Int) : Er := ⟨e.q.mk' y, e.t, e.v, e.u, e.lo, e.hi⟩
def Er.n (e : Er) : Nat := e.q.n
def mkR (L : List Wq) (m : Int) : List Wq := mkG Wq.mk' Wq.n L m
theorem mkR_len (L : List Wq) (m : Int) : (mkR L m).length = L.length := mkG_len _ _ _ _
/-- What a marking call leaves. -/
def MarkRS (v : Value) (L : List Wq) (m : Int) (lo : Nat) (S : Nat → Prop) (w : World) (e : Ending) (w' : World) : Prop := e = .returned (.int .i64 (m + (tot Wq.n L : Int))) ∧ RM w' v (mkR L m) lo S ∧ Only (fun k => S k ∨ w.heap.size ≤ k) w w'
set_option maxRecDepth 100000 in
set_option maxHeartbeats 12800000 in
theorem markRowS_k {v : Value} {L : List Wq} {m : Int} {lo : Nat} {S : Nat → Prop} (hK : m + (tot Wq.n L : Int) ≤ 67108864) (hK2 : tot Wq.n L ≤ 33554432) (m0 : 0 ≤ m) (w : World) (o1 : RM w v L lo S) :
    Calls Try.prog 27 #[v, .int .i64 m] w (MarkRS v L m lo S w) := by
  obtain ⟨E, o1, rfl⟩ := o1
  have HK := hid hK
  have HK2 := hid hK2
  have hsz := tot_len Wq.n1 (E.map Er.q)
  rw [List.length_map] at hsz
  have O1 := hid o1
  obtain ⟨a, c, rfl, -⟩ := o1.form
  clear o1 hK hK2
  rw [tot_map] at HK2
  change Hid (tot Er.n E ≤ _) at HK2
  have hEl : E.length ≤ 67108864 := by have := HK.out; omega
  clear hsz
  go_enter Try.func27, Try.ntmps27
  go_wp2
  go_loopw [1, 5] (fun x i wr => ∃ (k : Nat) (y : Int), k ≤ E.length ∧ i = .int .i64 k ∧ x = .int .i64 y ∧ Hid (y = m + (tot Er.n (E.take k) : Int)) ∧ Hid (GO kdR 91 wr (.slice a E.length c) (mkdG Er.mk1 Er.n E m k) lo S) ∧ Hid (Only (fun k => S k ∨ w.heap.size ≤ k) w wr)) (fun _ i _ => E.length - (intOf i).toNat)
  case atStart => exact ⟨0, m, Nat.zero_le _, rfl, rfl, hid (by simp [tot]), hid (by rw [mkdG_zero]; exact O1.out), hid (Only.refl _ _)⟩
  case round =>
    obtain ⟨k, y, hk, rfl, rfl, hy, hV, hB⟩ := hrel
    by_cases hlt : k < E.length
    · have hl := hid (mkdG_len Er.mk1 Er.n (E := E) (m := m) (k := k) hk)
      have hlm := hid (show k < (mkdG Er.mk1 Er.n E m k).length by rw [hl.out]; exact hlt)
      obtain ⟨g, rfl, -, -, hgS, hg⟩ := hV.out.pos (by rw [hl.out]; omega)
      have hat := mkdG_at Er.mk1 Er.n (m := m) hlt
      have hset := hid (mkdG_set Er.mk1 Er.n (m := m) hlt)
      have hy2 := hy.out
      have hn := tot_at Er.n hlt
      have hst := tot_take Er.n hlt
      have hKv := HK.out
      rw [tot_map] at hKv
      change m + (tot Er.n E : Int) ≤ _ at hKv
      have V0 := hV.out
      rw [← List.set_getElem_self hlm.out, hat] at V0
      rw [← hy2] at hset
      clear hat hy2
      generalize hE : E[k] = e1 at V0 hset hn hst
      clear hE
      obtain ⟨⟨K, x, s, A, D⟩, t, v, u, l0, l2⟩ := e1
      have hP := V0.set_el hlm.out
      obtain ⟨a3, c3, b3, d3, e3, f3, ht, hv, hu⟩ := hP.1.form
      simp only at ht hv hu
      subst ht hv hu
      simp only [Er.n, Wq.n] at hn hst
      have V0 := hid (show GO kdR 91 wr (.slice (some ⟨g, 0, none⟩) E.length c) ((mkdG Er.mk1 Er.n E m k).set k (⟨⟨K, x, s, A, D⟩, .slice a3 K.length c3, .slice b3 A.length d3, .slice e3 D.length f3, l0, l2⟩ : Er)) lo S from V0)
      have HP := hid (show RwG wr (.slice a3 K.length c3) (.slice b3 A.length d3) (.slice e3 D.length f3) K A D l0 l2 ∧ l2 ≤ wr.heap.size from hP)
      clear hP
      have HST := hid hst
      have y0 : 0 ≤ y := by have := hy.out; omega
      have yb : y ≤ 67108864 := by have := hy.out; omega
      have hA : A.length ≤ 67108864 := by omega
      have hD : D.length ≤ 67108864 := by omega
      have hKs : szT K ≤ 33554432 := by have := HK2.out; omega
      obtain ⟨y1, hy1⟩ : ∃ y1, y1 = y + (szT K : Int) := ⟨_, rfl⟩
      have KT := hid (show Calls Try.prog 54 #[.slice a3 K.length c3, .int .i64 y] wr (fun e w' => e = .returned (.int .i64 y1) ∧ RwG w' (.slice a3 K.length c3) (.slice b3 A.length d3) (.slice e3 D.length f3) (mkT K y) A D l0 l2 ∧ Only (InS l0 l2) wr w') from by
        have := markTermS_g hKs y0 yb wr HP.out.1
        rwa [← hy1] at this)
      have y10 : 0 ≤ y1 := by omega
      have y1b : y1 ≤ 134217728 := by omega
      have HY1 := hid hy1
      clear hy1
      have KA := hid (fun (W : World) (V : GO kdR 91 W (.slice (some ⟨g, 0, none⟩) E.length c) ((mkdG Er.mk1 Er.n E m k).set k (⟨⟨mkT K y, y1, ((y1 + 1) % 3 == 0), A, D⟩, .slice a3 K.length c3, .slice b3 A.length d3, .slice e3 D.length f3, l0, l2⟩ : Er)) lo S) =>
        markIntS_any l0 (.slice b3 A.length d3) A (y1 + 2) (by omega) (by omega) (by omega) (fun j => (Value.slice b3 A.length d3).ownBlock = some j) W (V.set_el hlm.out).1.r.a.ints (fun j hj => hj))
      have KD := hid (fun (W : World) (V : GO kdR 91 W (.slice (some ⟨g, 0, none⟩) E.length c) ((mkdG Er.mk1 Er.n E m k).set k (⟨⟨mkT K y, y1, ((y1 + 1) % 3 == 0), marks A.length (y1 + 2), D⟩, .slice a3 K.length c3, .slice b3 A.length d3, .slice e3 D.length f3, l0, l2⟩ : Er)) lo S) =>
        markIntS_any l0 (.slice e3 D.length f3) D (y1 + 2 + (A.length : Int)) (by omega) (by omega) (by omega) (fun j => (Value.slice e3 D.length f3).ownBlock = some j) W (V.set_el hlm.out).1.r.d.ints (fun j hj => hj))
      have q0 := V0.out.set_cell hlm.out 0 rfl
      have q1 := V0.out.set_cell hlm.out 1 rfl
      have q2 := V0.out.set_cell hlm.out 2 rfl
      have a1' : (0 : Int) ≤ k := by omega
      have a2' : (k : Int) < E.length := by omega
      have a3' : y1 + 1 + 1 = y1 + 2 := by omega
      clear hst hn
      have q0 := show wr.cell? ⟨g, k * 5, none⟩ = some (.slice a3 K.length c3) from q0
      clear q1 q2
      go_wp2_with fail
      (with_reducible refine KT.out.mono ?_)
      rintro e w2 ⟨rfl, hT2, ho2⟩
      have hz2 := ho2.size
      have V1 := hid (show GO kdR 91 w2 (.slice (some ⟨g, 0, none⟩) E.length c) ((mkdG Er.mk1 Er.n E m k).set k (⟨⟨mkT K y, x, s, A, D⟩, .slice a3 K.length c3, .slice b3 A.length d3, .slice e3 D.length f3, l0, l2⟩ : Er)) lo S from V0.out.inel' hlm.out rfl (fun k hk => hk) (ho2.mono fun j hj => .inl hj) ⟨hT2, Nat.le_trans HP.out.2 hz2⟩)
      have B2 := hid (hB.out.trans (ho2.mono fun j hj => .inl (V0.out.rgs hlm.out j hj)))
      have V2 := hid (show GO kdR 91 (w2.setCell ⟨g, k * 5 + 1, none⟩ (.int .i64 y1)) (.slice (some ⟨g, 0, none⟩) E.length c) ((mkdG Er.mk1 Er.n E m k).set k (⟨⟨mkT K y, y1, s, A, D⟩, .slice a3 K.length c3, .slice b3 A.length d3, .slice e3 D.length f3, l0, l2⟩ : Er)) lo S from V1.out.putc' hlm.out 1 (by decide) _ rfl (fun k hk => hk) (fun w h => h))
      have V3 := hid (show GO kdR 91 ((w2.setCell ⟨g, k * 5 + 1, none⟩ (.int .i64 y1)).setCell ⟨g, k * 5 + 2, none⟩ (.bool ((y1 + 1) % 3 == 0))) (.slice (some ⟨g, 0, none⟩) E.length c) ((mkdG Er.mk1 Er.n E m k).set k (⟨⟨mkT K y, y1, ((y1 + 1) % 3 == 0), A, D⟩, .slice a3 K.length c3, .slice b3 A.length d3, .slice e3 D.length f3, l0, l2⟩ : Er)) lo S from V2.out.putc' hlm.out 2 (by decide) _ rfl (fun k hk => hk) (fun w h => h))
      have B3 := hid (show Only (fun k => S k ∨ w.heap.size ≤ k) w ((w2.setCell ⟨g, k * 5 + 1, none⟩ (.int .i64 y1)).setCell ⟨g, k * 5 + 2, none⟩ (.bool ((y1 + 1) % 3 == 0))) from (B2.out.setCell (p := ⟨g, k * 5 + 1, none⟩) (.inl hgS) (.int .i64 y1)).setCell (p := ⟨g, k * 5 + 2, none⟩) (.inl hgS) (.bool ((y1 + 1) % 3 == 0)))
      have q1 := show w2.cell? ⟨g, k * 5 + 1, none⟩ = some (.int .i64 x) from V1.out.set_cell hlm.out 1 rfl
      have q2 := show w2.cell? ⟨g, k * 5 + 2, none⟩ = some (.bool s) from V1.out.set_cell hlm.out 2 rfl
      have q3 := show w2.cell? ⟨g, k * 5 + 3, none⟩ = some (.slice b3 A.length d3) from V1.out.set_cell hlm.out 3 rfl
      have f1 := V1.out.free (k * 5 + 1)
      have f2 := V1.out.free (k * 5 + 2)
      clear hT2 ho2 q0
      go_wp2_with fail
      (with_reducible refine (KA.out _ V3.out).mono ?_)
      rintro e w3 ⟨rfl, hi3, ho3⟩
      have V4 := hid (show GO kdR 91 w3 (.slice (some ⟨g, 0, none⟩) E.length c) ((mkdG Er.mk1 Er.n E m k).set k (⟨⟨mkT K y, y1, ((y1 + 1) % 3 == 0), marks A.length (y1 + 2), D⟩, .slice a3 K.length c3, .slice b3 A.length d3, .slice e3 D.length f3, l0, l2⟩ : Er)) lo S from by
        have hp := V3.out.set_el hlm.out
        exact V3.out.inel' hlm.out rfl (fun k hk => hk) (ho3.mono fun j hj => .inl ⟨(Ints_lt hp.1.r.a.ints j hj).1, hp.1.r.a.high j hj⟩)
          ⟨hp.1.inA ho3 hi3, Nat.le_trans hp.2 ho3.size⟩)
      have B4 := hid (B3.out.trans (ho3.mono fun j hj => by
        have hp := V3.out.set_el hlm.out
        exact .inl (V3.out.rgs hlm.out j ⟨(Ints_lt hp.1.r.a.ints j hj).1, hp.1.r.a.high j hj⟩)))
      have q4 := show w3.cell? ⟨g, k * 5 + 4, none⟩ = some (.slice e3 D.length f3) from V4.out.set_cell hlm.out 4 rfl
      clear hi3 ho3 f1 f2 q1 q2 q3
      go_wp2_with fail
      (with_reducible refine (KD.out _ V4.out).mono ?_)
      rintro e w4 ⟨rfl, hi3, ho3⟩
      have V5 := hid (show GO kdR 91 w4 (.slice (some ⟨g, 0, none⟩) E.length c) ((mkdG Er.mk1 Er.n E m k).set k (⟨⟨mkT K y, y1, ((y1 + 1) % 3 == 0), marks A.length (y1 + 2), marks D.length (y1 + 2 + (A.length : Int))⟩, .slice a3 K.length c3, .slice b3 A.length d3, .slice e3 D.length f3, l0, l2⟩ : Er)) lo S from by
        have hp := V4.out.set_el hlm.out
        exact V4.out.inel' hlm.out rfl (fun k hk => hk) (ho3.mono fun j hj => .inl ⟨(Ints_lt hp.1.r.d.ints j hj).1, hp.1.r.d.high j hj⟩)
          ⟨hp.1.inD ho3 hi3, Nat.le_trans hp.2 ho3.size⟩)
      have B5 := hid (B4.out.trans (ho3.mono fun j hj => by
        have hp := V4.out.set_el hlm.out
        exact .inl (V4.out.rgs hlm.out j ⟨(Ints_lt hp.1.r.d.ints j hj).1, hp.1.r.d.high j hj⟩)))
      clear hi3 ho3 q4
      go_wp2
      go_roundw
      case rel => exact ⟨k + 1, y1 + 2 + (A.length : Int) + (D.length : Int), by omega, by go_num, rfl, hid (by have := hy.out; have := HST.out; have := HY1.out; omega), hid (by rw [← hset.out]; have := V5.out; rw [HY1.out] at this; exact this), B5⟩
      case measure => simp [intOf]; omega
    · obtain rfl : k = E.length := by omega
      go_wp2
      go_ret
      have h1 := hV.out
      rw [mkdG_all] at h1
      have h2 := hy.out
      rw [List.take_length] at h2
      refine ⟨by rw [h2, tot_map]; rfl, ⟨_, h1, ?_⟩, hB.out⟩
      exact mkG_map (q := Er.q) (f' := Wq.mk') (n' := Wq.n) (fun e m => rfl) (fun e => rfl) E m
set_option maxRecDepth 100000 in
set_option maxHeartbeats 12800000 in
theorem heldRowS_k {v : Value} {L : List Wq} {m : Int} {lo : Nat} {S : Nat → Prop} (hK : m + (tot Wq.n L : Int) ≤ 67108864) (hK2 : tot Wq.n L ≤ 33554432) (m0 : 0 ≤ m) (w : World) (o1 : RM w v (mkR L m) lo S) :
    Calls Try.prog 28 #[v, .int .i64 m] w (RetB (.int .i64 (m + (tot Wq.n L : Int))) w) := by
  obtain ⟨E, o1, he⟩ := o1
  have HK := hid hK
  have HK2 := hid hK2
  have hsz := tot_len Wq.n1 L
  have hl : E.length = L.length := by have := congrArg List.length he; rwa [List.length_map, mkR_len] at this
  have HL := hid hl
  have HM := hid he
  have O1 := hid o1
  obtain ⟨a, c, rfl, -⟩ := o1.form
  clear o1 hK hK2 he
  have hEl : L.length ≤ 67108864 := by have := HK.out; omega
  clear hsz
  rw [hl] at O1 ⊢
  clear hl
  go_enter Try.func28, Try.ntmps28
  go_wp2
  go_loopw [1, 5] (fun x i wr => ∃ (k : Nat) (y : Int), k ≤ L.length ∧ i = .int .i64 k ∧ x = .int .i64 y ∧ Hid (y = m + (tot Wq.n (L.take k) : Int)) ∧ Below w.heap.size w wr) (fun _ i _ => L.length - (intOf i).toNat)
  case atStart => exact ⟨0, m, Nat.zero_le _, rfl, rfl, hid (by simp [tot]), Below.refl _ _⟩
  case round =>
    obtain ⟨k, y, hk, rfl, rfl, hy, hbel⟩ := hrel
    have hB := hid hbel
    by_cases hlt : k < L.length
    · have hlm := hid (show k < E.length by rw [HL.out]; exact hlt)
      have V := hid (O1.out.old hbel)
      obtain ⟨g, rfl, -, -, -, hg⟩ := V.out.pos (by rw [HL.out]; omega)
      have hy2 := hy.out
      have hn := tot_at Wq.n hlt
      have hst := tot_take Wq.n hlt
      have hKv := HK.out
      have hkey : E[k].q = (L[k]).mk' y := by
        have h1 : (E.map Er.q)[k]'(by rw [List.length_map]; exact hlm.out) = E[k].q := List.getElem_map Er.q
        have h2 := mkG_at Wq.mk' Wq.n L m k hlt
        rw [← h1, hy2, ← h2]
        simp only [HM.out, mkR]
      have R := V.out.el _ (List.getElem_mem hlm.out)
      have q0 := V.out.cell hlm.out 0 rfl
      have q1 := V.out.cell hlm.out 1 rfl
      have q2 := V.out.cell hlm.out 2 rfl
      have q3 := V.out.cell hlm.out 3 rfl
      have q4 := V.out.cell hlm.out 4 rfl
      generalize E[k] = e1 at q0 q1 q2 q3 q4 R hkey
      generalize L[k] = e0 at hkey hn hst
      obtain ⟨q, t, v, u, l0, l2⟩ := e1
      simp only at hkey
      subst hkey
      obtain ⟨K, x, s, A, D⟩ := e0
      have R := show RwG wr t v u (mkT K y) (marks A.length (y + (szT K : Int) + 2)) (marks D.length (y + (szT K : Int) + 2 + (A.length : Int))) l0 l2 from R.1
      simp only [Wq.n] at hn hst
      have HST := hid hst
      obtain ⟨a3, c3, b3, d3, e3, f3, rfl, rfl, rfl⟩ := R.form
      rw [marks_len, marks_len, mkT_len] at R
      have q0 := show wr.cell? ⟨g, k * 5, none⟩ = some (.slice a3 (mkT K y).length c3) from q0
      have q3 := show wr.cell? ⟨g, k * 5 + 3, none⟩ = some (.slice b3 (marks A.length (y + (szT K : Int) + 2)).length d3) from q3
      have q4 := show wr.cell? ⟨g, k * 5 + 4, none⟩ = some (.slice e3 (marks D.length (y + (szT K : Int) + 2 + (A.length : Int))).length f3) from q4
      have q1 := show wr.cell? ⟨g, k * 5 + 1, none⟩ = some (.int .i64 (y + (szT K : Int))) from q1
      have q2 := show wr.cell? ⟨g, k * 5 + 2, none⟩ = some (.bool ((y + (szT K : Int) + 1) % 3 == 0)) from q2
      rw [mkT_len] at q0
      rw [marks_len] at q3 q4
      have y0 : 0 ≤ y := by have := hy.out; omega
      have yb : y ≤ 67108864 := by have := hy.out; omega
      have hA : A.length ≤ 67108864 := by omega
      have hD : D.length ≤ 67108864 := by omega
      have hKs : szT K ≤ 33554432 := by have := HK2.out; omega
      have yb4 : y ≤ 67108864 := by have := hy.out; omega
      obtain ⟨N0, hN0⟩ : ∃ N0, N0 = K.length := ⟨_, rfl⟩
      have KT := hid (fun (W : World) (hb : Below wr.heap.size wr W) => heldTermS_r (K := K) (m := y) hKs y0 yb4 W (R.tk.old hb))
      have KA := hid (fun (W : World) (hb : Below wr.heap.size wr W) => heldIntS_obj (.slice b3 A.length d3) A.length (y + (szT K : Int) + 2) l0 l2 (by omega) (by omega) (by omega) W (R.r.a.old hb))
      have KD := hid (fun (W : World) (hb : Below wr.heap.size wr W) => heldIntS_obj (.slice e3 D.length f3) D.length (y + (szT K : Int) + 2 + (A.length : Int)) l0 l2 (by omega) (by omega) (by omega) W (R.r.d.old hb))
      rw [← hN0] at KT q0
      clear hN0
      obtain ⟨y1, hy1⟩ : ∃ y1, y1 = y + (szT K : Int) := ⟨_, rfl⟩
      have HY1 := hid hy1
      have y1b : y1 ≤ 134217728 := by omega
      have y10 : 0 ≤ y1 := by omega
      rw [← hy1] at q1 q2 KT KA KD
      clear hy1
      have c0' : ¬ y1 < 0 := by omega
      have c1' : ¬ y1 + 2 + (A.length : Int) < 0 := by omega
      have c2' : ¬ y1 + 2 + (A.length : Int) + (D.length : Int) < 0 := by omega
      have a1' : (0 : Int) ≤ k := by omega
      have a2' : (k : Int) < L.length := by omega
      have a3' : y1 + 1 + 1 = y1 + 2 := by omega
      clear hst hn R hbel hy2
      go_wp2_with fail
      (with_reducible refine (KT.out _ (Below.refl _ _)).mono ?_)
      rintro e w2 ⟨rfl, hb⟩
      have hB := hid (hB.out.trans (hb.mono hB.out.size))
      have q1 := (hb.cell (p := ⟨g, k * 5 + 1, none⟩) hg).trans q1
      have q2 := (hb.cell (p := ⟨g, k * 5 + 2, none⟩) hg).trans q2
      have q3 := (hb.cell (p := ⟨g, k * 5 + 3, none⟩) hg).trans q3
      have q4 := hid ((hb.cell (p := ⟨g, k * 5 + 4, none⟩) hg).trans q4)
      have HB := hid hb
      clear hb q0
      go_wp2_with fail
      (with_reducible refine (KA.out _ HB.out).mono ?_)
      rintro e w3 ⟨rfl, hb⟩
      have hB := hid (hB.out.trans (hb.mono hB.out.size))
      have q4 := (hb.cell (p := ⟨g, k * 5 + 4, none⟩) (Nat.lt_of_lt_of_le hg HB.out.size)).trans q4.out
      have HB := hid (HB.out.trans (hb.mono HB.out.size))
      clear hb q1 q2 q3
      go_wp2_with fail
      (with_reducible refine (KD.out _ HB.out).mono ?_)
      rintro e w4 ⟨rfl, hb⟩
      have hB := hid (hB.out.trans (hb.mono hB.out.size))
      clear hb q4
      go_wp2
      go_roundw
      case rel => exact ⟨k + 1, y1 + 2 + (A.length : Int) + (D.length : Int), by omega, by go_num, rfl, hid (by have := hy.out; have := HST.out; have := HY1.out; omega), hB.out⟩
      case measure => simp [intOf]; omega
    · obtain rfl : k = L.length := by omega
      clear hbel
      go_wp2
      go_ret
      have h2 := hy.out
      rw [List.take_length] at h2
      exact ⟨ret_in h2, hB.out⟩
end Go.Proofs.Yteanocjkdehhgaa
