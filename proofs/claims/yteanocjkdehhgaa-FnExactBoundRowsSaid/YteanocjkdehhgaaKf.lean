/- Marks on slices of columns' structs. -/
import Derived.Test.YteanocjkdehhgaaKd
import Derived.Test.YteanocjkdehhgaaKe
import Derived.Test.YteanocjkdehhgaaMtx
import Derived.Deep.RegionHeld3
namespace Go.Proofs.Yteanocjkdehhgaa
open Go.RowKit
open Go.Lib (hid)
set_option linter.unusedVariables false

def Cq.mk' (q : Cq) (y : Int) : Cq := ⟨mkTs y, (y + 1) % 3 == 0, marks q.A.length (y + 2), marks q.D.length (y + 2 + (q.A.length : Int)), (y + 2 + (q.A.length : Int) + (q.D.length : Int)) % 3 == 0, marks q.F.length (y + 2 + (q.A.length : Int) + (q.D.length : Int) + 1), marks q.G.length (y + 2 + (q.A.length : Int) + (q.D.length : Int) + 1 + (q.F.length : Int)), (y + 2 + (q.A.length : Int) + (q.D.length : Int) + 1 + (q.F.length : Int) + (q.G.length : Int)) % 3 == 0⟩
def Ec.mk1 (e : Ec) (y : Int) : Ec := ⟨e.q.mk' y, e.v, e.u, e.v', e.u', e.l1, e.h1, e.l2, e.h2⟩
def Ec.nm (e : Ec) : Nat := e.q.nm
def mkC (L : List Cq) (m : Int) : List Cq := mkG Cq.mk' Cq.nm L m
theorem mkC_len (L : List Cq) (m : Int) : (mkC L m).length = L.length := mkG_len _ _ _ _
/-- What a marking call leaves. -/
def MarkCS (v : Value) (L : List Cq) (m : Int) (lo : Nat) (S : Nat → Prop) (w : World) (e : Ending) (w' : World) : Prop := e = .returned (.int .i64 (m + (tot Cq.nm L : Int))) ∧ CM w' v (mkC L m) lo S ∧ Only (fun k => S k ∨ w.heap.size ≤ k) w w'
set_option maxRecDepth 100000 in
set_option maxHeartbeats 12800000 in
theorem markColS_k {v : Value} {L : List Cq} {m : Int} {lo : Nat} {S : Nat → Prop} (hK : m + (tot Cq.nm L : Int) ≤ 67108864) (m0 : 0 < m) (w : World) (o1 : CM w v L lo S) :
    Calls Try.prog 53 #[v, .int .i64 m] w (MarkCS v L m lo S w) := by
  obtain ⟨E, o1, rfl⟩ := o1
  have HK := hid hK
  have hsz := tot_len Cq.n1 (E.map Ec.q)
  rw [List.length_map] at hsz
  have O1 := hid o1
  obtain ⟨a, c, rfl, -⟩ := o1.form
  clear o1 hK
  have hEl : E.length ≤ 67108864 := by have := HK.out; omega
  clear hsz
  go_enter Try.func53, Try.ntmps53
  go_wp2
  go_loopw [1, 5] (fun x i wr => ∃ (k : Nat) (y : Int), k ≤ E.length ∧ i = .int .i64 k ∧ x = .int .i64 y ∧ Hid (y = m + (tot Ec.nm (E.take k) : Int)) ∧ Hid (GO kdC 35 wr (.slice a E.length c) (mkdG Ec.mk1 Ec.nm E m k) lo S) ∧ Hid (Only (fun k => S k ∨ w.heap.size ≤ k) w wr)) (fun _ i _ => E.length - (intOf i).toNat)
  case atStart => exact ⟨0, m, Nat.zero_le _, rfl, rfl, hid (by simp [tot]), hid (by rw [mkdG_zero]; exact O1.out), hid (Only.refl _ _)⟩
  case round =>
    obtain ⟨k, y, hk, rfl, rfl, hy, hV, hB⟩ := hrel
    by_cases hlt : k < E.length
    · have hl := hid (mkdG_len Ec.mk1 Ec.nm (E := E) (m := m) (k := k) hk)
      have hlm := hid (show k < (mkdG Ec.mk1 Ec.nm E m k).length by rw [hl.out]; exact hlt)
      obtain ⟨g, rfl, -, -, hgS, hg⟩ := hV.out.pos (by rw [hl.out]; omega)
      have hat := mkdG_at Ec.mk1 Ec.nm (m := m) hlt
      have hset := hid (mkdG_set Ec.mk1 Ec.nm (m := m) hlt)
      have hy2 := hy.out
      have hn := tot_at Ec.nm hlt
      have hst := tot_take Ec.nm hlt
      have hKv := HK.out
      rw [tot_map] at hKv
      change m + (tot Ec.nm E : Int) ≤ _ at hKv
      have V0 := hV.out
      rw [← List.set_getElem_self hlm.out, hat] at V0
      rw [← hy2] at hset
      clear hat hy2
      generalize hE : E[k] = e1 at V0 hset hn hst
      clear hE
      obtain ⟨⟨n, s, A, D, z, F, G, b⟩, v, u, v', u', l1, h1, l2, h2⟩ := e1
      have hP := V0.set_el hlm.out
      obtain ⟨a3, c3, b3, d3, hv, hu⟩ := hP.1.l.form
      obtain ⟨a4, c4, b4, d4, hv', hu'⟩ := hP.1.h.form
      simp only at hv hu hv' hu'
      subst hv hu hv' hu'
      simp only [Ec.nm, Cq.nm] at hn hst
      have V0 := hid (show GO kdC 35 wr (.slice (some ⟨g, 0, none⟩) E.length c) ((mkdG Ec.mk1 Ec.nm E m k).set k (⟨⟨n, s, A, D, z, F, G, b⟩, .slice a3 A.length c3, .slice b3 D.length d3, .slice a4 F.length c4, .slice b4 G.length d4, l1, h1, l2, h2⟩ : Ec)) lo S from V0)
      clear hP
      have HST := hid hst
      have y0 : 0 < y := by have := hy.out; omega
      have yb : y ≤ 67108864 := by have := hy.out; omega
      have hA : A.length ≤ 67108864 := by omega
      have hD : D.length ≤ 67108864 := by omega
      have hF : F.length ≤ 67108864 := by omega
      have hG : G.length ≤ 67108864 := by omega
      obtain ⟨y2, hy2⟩ : ∃ y2, y2 = y + 2 + (A.length : Int) + (D.length : Int) := ⟨_, rfl⟩
      obtain ⟨y3, hy3⟩ : ∃ y3, y3 = y2 + 1 + (F.length : Int) + (G.length : Int) := ⟨_, rfl⟩
      have HY2 := hid hy2
      have HY3 := hid hy3
      have y20 : 0 ≤ y2 := by omega
      have y2b : y2 ≤ 268435456 := by omega
      have y30 : 0 ≤ y3 := by omega
      have y3b : y3 ≤ 536870912 := by omega
      have KA := hid (fun (W : World) (V : GO kdC 35 W (.slice (some ⟨g, 0, none⟩) E.length c) ((mkdG Ec.mk1 Ec.nm E m k).set k (⟨⟨mkTs y, ((y + 1) % 3 == 0), A, D, z, F, G, b⟩, .slice a3 A.length c3, .slice b3 D.length d3, .slice a4 F.length c4, .slice b4 G.length d4, l1, h1, l2, h2⟩ : Ec)) lo S) =>
        markIntS_any l1 (Value.slice a3 A.length c3) A (y + 2) (by omega) (by omega) (by omega) (fun j => (Value.slice a3 A.length c3).ownBlock = some j) W (V.set_el hlm.out).1.l.a.ints (fun j hj => hj))
      have KD := hid (fun (W : World) (V : GO kdC 35 W (.slice (some ⟨g, 0, none⟩) E.length c) ((mkdG Ec.mk1 Ec.nm E m k).set k (⟨⟨mkTs y, ((y + 1) % 3 == 0), marks A.length (y + 2), D, z, F, G, b⟩, .slice a3 A.length c3, .slice b3 D.length d3, .slice a4 F.length c4, .slice b4 G.length d4, l1, h1, l2, h2⟩ : Ec)) lo S) =>
        markIntS_any l1 (Value.slice b3 D.length d3) D (y + 2 + (A.length : Int)) (by omega) (by omega) (by omega) (fun j => (Value.slice b3 D.length d3).ownBlock = some j) W (V.set_el hlm.out).1.l.d.ints (fun j hj => hj))
      have KF := hid (fun (W : World) (V : GO kdC 35 W (.slice (some ⟨g, 0, none⟩) E.length c) ((mkdG Ec.mk1 Ec.nm E m k).set k (⟨⟨mkTs y, ((y + 1) % 3 == 0), marks A.length (y + 2), marks D.length (y + 2 + (A.length : Int)), (y2 % 3 == 0), F, G, b⟩, .slice a3 A.length c3, .slice b3 D.length d3, .slice a4 F.length c4, .slice b4 G.length d4, l1, h1, l2, h2⟩ : Ec)) lo S) =>
        markIntS_any l2 (Value.slice a4 F.length c4) F (y2 + 1) (by omega) (by omega) (by omega) (fun j => (Value.slice a4 F.length c4).ownBlock = some j) W (V.set_el hlm.out).1.h.a.ints (fun j hj => hj))
      have KG := hid (fun (W : World) (V : GO kdC 35 W (.slice (some ⟨g, 0, none⟩) E.length c) ((mkdG Ec.mk1 Ec.nm E m k).set k (⟨⟨mkTs y, ((y + 1) % 3 == 0), marks A.length (y + 2), marks D.length (y + 2 + (A.length : Int)), (y2 % 3 == 0), marks F.length (y2 + 1), G, b⟩, .slice a3 A.length c3, .slice b3 D.length d3, .slice a4 F.length c4, .slice b4 G.length d4, l1, h1, l2, h2⟩ : Ec)) lo S) =>
        markIntS_any l2 (Value.slice b4 G.length d4) G (y2 + 1 + (F.length : Int)) (by omega) (by omega) (by omega) (fun j => (Value.slice b4 G.length d4).ownBlock = some j) W (V.set_el hlm.out).1.h.d.ints (fun j hj => hj))
      have KT := hid (fun (W : World) => markText_any y y0 (by omega) W)
      clear hy2 hy3
      have a1' : (0 : Int) ≤ k := by omega
      have a2' : (k : Int) < E.length := by omega
      have a3' : y + 1 + 1 = y + 2 := by omega
      clear hst hn
      go_wp2_with fail
      (with_reducible refine (KT.out _).mono ?_)
      rintro e w2 ⟨rfl, hb2⟩
      have V0 := hid (V0.out.old hb2)
      have B2 := hid (hB.out.trans (Only.of_below hb2 fun k hk => .inr (Nat.le_trans hB.out.size hk)))
      have V1 := hid (show GO kdC 35 (w2.setCell ⟨g, k * 8, none⟩ (.string (mkTs y))) (.slice (some ⟨g, 0, none⟩) E.length c) ((mkdG Ec.mk1 Ec.nm E m k).set k (⟨⟨mkTs y, s, A, D, z, F, G, b⟩, .slice a3 A.length c3, .slice b3 D.length d3, .slice a4 F.length c4, .slice b4 G.length d4, l1, h1, l2, h2⟩ : Ec)) lo S from V0.out.putc' hlm.out 0 (by decide) _ rfl (fun k hk => hk) (fun w h => h))
      have V2 := hid (show GO kdC 35 ((w2.setCell ⟨g, k * 8, none⟩ (.string (mkTs y))).setCell ⟨g, k * 8 + 1, none⟩ (.bool ((y + 1) % 3 == 0))) (.slice (some ⟨g, 0, none⟩) E.length c) ((mkdG Ec.mk1 Ec.nm E m k).set k (⟨⟨mkTs y, ((y + 1) % 3 == 0), A, D, z, F, G, b⟩, .slice a3 A.length c3, .slice b3 D.length d3, .slice a4 F.length c4, .slice b4 G.length d4, l1, h1, l2, h2⟩ : Ec)) lo S from V1.out.putc' hlm.out 1 (by decide) _ rfl (fun k hk => hk) (fun w h => h))
      have B2 := hid (show Only (fun k => S k ∨ w.heap.size ≤ k) w ((w2.setCell ⟨g, k * 8, none⟩ (.string (mkTs y))).setCell ⟨g, k * 8 + 1, none⟩ (.bool ((y + 1) % 3 == 0))) from (B2.out.setCell (p := ⟨g, k * 8, none⟩) (.inl hgS) (.string (mkTs y))).setCell (p := ⟨g, k * 8 + 1, none⟩) (.inl hgS) (.bool ((y + 1) % 3 == 0)))
      have q0 := show w2.cell? ⟨g, k * 8, none⟩ = some (.string n) from V0.out.set_cell hlm.out 0 rfl
      have q1 := show w2.cell? ⟨g, k * 8 + 1, none⟩ = some (.bool s) from V0.out.set_cell hlm.out 1 rfl
      have q2 := show w2.cell? ⟨g, k * 8 + 2, none⟩ = some (.slice a3 A.length c3) from V0.out.set_cell hlm.out 2 rfl
      have f0 := V0.out.free (k * 8)
      have f1 := V0.out.free (k * 8 + 1)
      clear hb2
      go_wp2_with fail
      (with_reducible refine (KA.out _ V2.out).mono ?_)
      rintro e w3 ⟨rfl, hi3, ho3⟩
      have V3 := hid (show GO kdC 35 w3 (.slice (some ⟨g, 0, none⟩) E.length c) ((mkdG Ec.mk1 Ec.nm E m k).set k (⟨⟨mkTs y, ((y + 1) % 3 == 0), marks A.length (y + 2), D, z, F, G, b⟩, .slice a3 A.length c3, .slice b3 D.length d3, .slice a4 F.length c4, .slice b4 G.length d4, l1, h1, l2, h2⟩ : Ec)) lo S from by
        have hp := V2.out.set_el hlm.out
        exact V2.out.inel' hlm.out rfl (fun k hk => hk) (ho3.mono fun j hj => .inl (.inl ⟨(Ints_lt hp.1.l.a.ints j hj).1, hp.1.l.a.high j hj⟩))
          ⟨⟨hp.1.l.inA ho3 hi3, (hp.1.h.onlyS ho3 (fun j k1 k2 hj => by have k3 : l1 ≤ j := (Ints_lt hp.1.l.a.ints j hj).1; have k4 : j < h1 := hp.1.l.a.high j hj; have k5 : h1 ≤ l2 ∨ h2 ≤ l1 := hp.1.d; have k6 : l2 ≤ j := k1; have k7 : j < h2 := k2; omega)), hp.1.d⟩, Nat.le_trans hp.2.1 ho3.size, Nat.le_trans hp.2.2 ho3.size⟩)
      have B3 := hid (B2.out.trans (ho3.mono fun j hj => by
        have hp := V2.out.set_el hlm.out
        exact .inl (V2.out.rgs hlm.out j (.inl ⟨(Ints_lt hp.1.l.a.ints j hj).1, hp.1.l.a.high j hj⟩))))
      have q3 := show w3.cell? ⟨g, k * 8 + 3, none⟩ = some (.slice b3 D.length d3) from V3.out.set_cell hlm.out 3 rfl
      clear hi3 ho3 f0 f1 q0 q1 q2
      go_wp2_with fail
      (with_reducible refine (KD.out _ V3.out).mono ?_)
      rintro e w4 ⟨rfl, hi3, ho3⟩
      have V4 := hid (show GO kdC 35 w4 (.slice (some ⟨g, 0, none⟩) E.length c) ((mkdG Ec.mk1 Ec.nm E m k).set k (⟨⟨mkTs y, ((y + 1) % 3 == 0), marks A.length (y + 2), marks D.length (y + 2 + (A.length : Int)), z, F, G, b⟩, .slice a3 A.length c3, .slice b3 D.length d3, .slice a4 F.length c4, .slice b4 G.length d4, l1, h1, l2, h2⟩ : Ec)) lo S from by
        have hp := V3.out.set_el hlm.out
        exact V3.out.inel' hlm.out rfl (fun k hk => hk) (ho3.mono fun j hj => .inl (.inl ⟨(Ints_lt hp.1.l.d.ints j hj).1, hp.1.l.d.high j hj⟩))
          ⟨⟨hp.1.l.inD ho3 hi3, (hp.1.h.onlyS ho3 (fun j k1 k2 hj => by have k3 : l1 ≤ j := (Ints_lt hp.1.l.d.ints j hj).1; have k4 : j < h1 := hp.1.l.d.high j hj; have k5 : h1 ≤ l2 ∨ h2 ≤ l1 := hp.1.d; have k6 : l2 ≤ j := k1; have k7 : j < h2 := k2; omega)), hp.1.d⟩, Nat.le_trans hp.2.1 ho3.size, Nat.le_trans hp.2.2 ho3.size⟩)
      have B4 := hid (B3.out.trans (ho3.mono fun j hj => by
        have hp := V3.out.set_el hlm.out
        exact .inl (V3.out.rgs hlm.out j (.inl ⟨(Ints_lt hp.1.l.d.ints j hj).1, hp.1.l.d.high j hj⟩))))
      have hyx : y + 2 + (A.length : Int) + (D.length : Int) = y2 := HY2.out.symm
      have V5 := hid (show GO kdC 35 (w4.setCell ⟨g, k * 8 + 4, none⟩ (.bool (y2 % 3 == 0))) (.slice (some ⟨g, 0, none⟩) E.length c) ((mkdG Ec.mk1 Ec.nm E m k).set k (⟨⟨mkTs y, ((y + 1) % 3 == 0), marks A.length (y + 2), marks D.length (y + 2 + (A.length : Int)), (y2 % 3 == 0), F, G, b⟩, .slice a3 A.length c3, .slice b3 D.length d3, .slice a4 F.length c4, .slice b4 G.length d4, l1, h1, l2, h2⟩ : Ec)) lo S from V4.out.putc' hlm.out 4 (by decide) _ rfl (fun k hk => hk) (fun w h => h))
      have B4 := hid (show Only (fun k => S k ∨ w.heap.size ≤ k) w (w4.setCell ⟨g, k * 8 + 4, none⟩ (.bool (y2 % 3 == 0))) from B4.out.setCell (p := ⟨g, k * 8 + 4, none⟩) (.inl hgS) (.bool (y2 % 3 == 0)))
      have q4 := show w4.cell? ⟨g, k * 8 + 4, none⟩ = some (.bool z) from V4.out.set_cell hlm.out 4 rfl
      have q5 := show w4.cell? ⟨g, k * 8 + 5, none⟩ = some (.slice a4 F.length c4) from V4.out.set_cell hlm.out 5 rfl
      have f4 := V4.out.free (k * 8 + 4)
      clear hi3 ho3 q3
      go_wp2_with fail
      (with_reducible refine (KF.out _ V5.out).mono ?_)
      rintro e w5 ⟨rfl, hi3, ho3⟩
      have V6 := hid (show GO kdC 35 w5 (.slice (some ⟨g, 0, none⟩) E.length c) ((mkdG Ec.mk1 Ec.nm E m k).set k (⟨⟨mkTs y, ((y + 1) % 3 == 0), marks A.length (y + 2), marks D.length (y + 2 + (A.length : Int)), (y2 % 3 == 0), marks F.length (y2 + 1), G, b⟩, .slice a3 A.length c3, .slice b3 D.length d3, .slice a4 F.length c4, .slice b4 G.length d4, l1, h1, l2, h2⟩ : Ec)) lo S from by
        have hp := V5.out.set_el hlm.out
        exact V5.out.inel' hlm.out rfl (fun k hk => hk) (ho3.mono fun j hj => .inl (.inr ⟨(Ints_lt hp.1.h.a.ints j hj).1, hp.1.h.a.high j hj⟩))
          ⟨⟨(hp.1.l.onlyS ho3 (fun j k1 k2 hj => by have k3 : l2 ≤ j := (Ints_lt hp.1.h.a.ints j hj).1; have k4 : j < h2 := hp.1.h.a.high j hj; have k5 : h1 ≤ l2 ∨ h2 ≤ l1 := hp.1.d; have k6 : l1 ≤ j := k1; have k7 : j < h1 := k2; omega)), hp.1.h.inA ho3 hi3, hp.1.d⟩, Nat.le_trans hp.2.1 ho3.size, Nat.le_trans hp.2.2 ho3.size⟩)
      have B5 := hid (B4.out.trans (ho3.mono fun j hj => by
        have hp := V5.out.set_el hlm.out
        exact .inl (V5.out.rgs hlm.out j (.inr ⟨(Ints_lt hp.1.h.a.ints j hj).1, hp.1.h.a.high j hj⟩))))
      have q6 := show w5.cell? ⟨g, k * 8 + 6, none⟩ = some (.slice b4 G.length d4) from V6.out.set_cell hlm.out 6 rfl
      clear hi3 ho3 f4 q4 q5
      go_wp2_with fail
      (with_reducible refine (KG.out _ V6.out).mono ?_)
      rintro e w6 ⟨rfl, hi3, ho3⟩
      have V7 := hid (show GO kdC 35 w6 (.slice (some ⟨g, 0, none⟩) E.length c) ((mkdG Ec.mk1 Ec.nm E m k).set k (⟨⟨mkTs y, ((y + 1) % 3 == 0), marks A.length (y + 2), marks D.length (y + 2 + (A.length : Int)), (y2 % 3 == 0), marks F.length (y2 + 1), marks G.length (y2 + 1 + (F.length : Int)), b⟩, .slice a3 A.length c3, .slice b3 D.length d3, .slice a4 F.length c4, .slice b4 G.length d4, l1, h1, l2, h2⟩ : Ec)) lo S from by
        have hp := V6.out.set_el hlm.out
        exact V6.out.inel' hlm.out rfl (fun k hk => hk) (ho3.mono fun j hj => .inl (.inr ⟨(Ints_lt hp.1.h.d.ints j hj).1, hp.1.h.d.high j hj⟩))
          ⟨⟨(hp.1.l.onlyS ho3 (fun j k1 k2 hj => by have k3 : l2 ≤ j := (Ints_lt hp.1.h.d.ints j hj).1; have k4 : j < h2 := hp.1.h.d.high j hj; have k5 : h1 ≤ l2 ∨ h2 ≤ l1 := hp.1.d; have k6 : l1 ≤ j := k1; have k7 : j < h1 := k2; omega)), hp.1.h.inD ho3 hi3, hp.1.d⟩, Nat.le_trans hp.2.1 ho3.size, Nat.le_trans hp.2.2 ho3.size⟩)
      have B6 := hid (B5.out.trans (ho3.mono fun j hj => by
        have hp := V6.out.set_el hlm.out
        exact .inl (V6.out.rgs hlm.out j (.inr ⟨(Ints_lt hp.1.h.d.ints j hj).1, hp.1.h.d.high j hj⟩))))
      have hyz : y2 + 1 + (F.length : Int) + (G.length : Int) = y3 := HY3.out.symm
      have V8 := hid (show GO kdC 35 (w6.setCell ⟨g, k * 8 + 7, none⟩ (.bool (y3 % 3 == 0))) (.slice (some ⟨g, 0, none⟩) E.length c) ((mkdG Ec.mk1 Ec.nm E m k).set k (⟨⟨mkTs y, ((y + 1) % 3 == 0), marks A.length (y + 2), marks D.length (y + 2 + (A.length : Int)), (y2 % 3 == 0), marks F.length (y2 + 1), marks G.length (y2 + 1 + (F.length : Int)), (y3 % 3 == 0)⟩, .slice a3 A.length c3, .slice b3 D.length d3, .slice a4 F.length c4, .slice b4 G.length d4, l1, h1, l2, h2⟩ : Ec)) lo S from V7.out.putc' hlm.out 7 (by decide) _ rfl (fun k hk => hk) (fun w h => h))
      have B6 := hid (show Only (fun k => S k ∨ w.heap.size ≤ k) w (w6.setCell ⟨g, k * 8 + 7, none⟩ (.bool (y3 % 3 == 0))) from B6.out.setCell (p := ⟨g, k * 8 + 7, none⟩) (.inl hgS) (.bool (y3 % 3 == 0)))
      have q7 := show w6.cell? ⟨g, k * 8 + 7, none⟩ = some (.bool b) from V7.out.set_cell hlm.out 7 rfl
      have f7 := V7.out.free (k * 8 + 7)
      have HEL := hid (show (⟨⟨mkTs y, ((y + 1) % 3 == 0), marks A.length (y + 2), marks D.length (y + 2 + (A.length : Int)), (y2 % 3 == 0), marks F.length (y2 + 1), marks G.length (y2 + 1 + (F.length : Int)), (y3 % 3 == 0)⟩, .slice a3 A.length c3, .slice b3 D.length d3, .slice a4 F.length c4, .slice b4 G.length d4, l1, h1, l2, h2⟩ : Ec) = Ec.mk1 ⟨⟨n, s, A, D, z, F, G, b⟩, .slice a3 A.length c3, .slice b3 D.length d3, .slice a4 F.length c4, .slice b4 G.length d4, l1, h1, l2, h2⟩ y by rw [HY3.out, HY2.out]; rfl)
      clear hi3 ho3 q6
      go_wp2
      go_roundw
      case rel => exact ⟨k + 1, y3 + 1, by omega, by go_num, rfl, hid (by have := hy.out; have := HST.out; have := HY2.out; have := HY3.out; omega), hid (by rw [← hset.out, ← HEL.out]; exact V8.out), B6⟩
      case measure => simp [intOf]; omega
    · obtain rfl : k = E.length := by omega
      go_wp2
      go_ret
      have h1 := hV.out
      rw [mkdG_all] at h1
      have h2 := hy.out
      rw [List.take_length] at h2
      refine ⟨by rw [h2, tot_map]; rfl, ⟨_, h1, ?_⟩, hB.out⟩
      exact mkG_map (q := Ec.q) (f' := Cq.mk') (n' := Cq.nm) (fun e m => rfl) (fun e => rfl) E m
end Go.Proofs.Yteanocjkdehhgaa
