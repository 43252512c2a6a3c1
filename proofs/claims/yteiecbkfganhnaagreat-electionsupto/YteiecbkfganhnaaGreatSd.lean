/- A script as it is handed in: it reads as steps; what is saved reads as entries. -/
import Derived.Test.YteiecbkfganhnaaGreatKTake
import Derived.Test.YteiecbkfganhnaaGreatKLw
import Derived.Test.YteiecbkfganhnaaGreatRows
import Derived.ProofKit
import Derived.SizedLaws
import Derived.Carry
import Derived.Lib.SmallJoins
import Derived.OpenShut
import Derived.JoinedCond
import Derived.Deep.SlicePairs

namespace Go.Proofs.YteiecbkfganhnaaGreat

open Go.ChangeShapes Go.WideShapes Go.ChangeAt Go.RowKit Go.Joins

theorem Tryz.ownU : ownKnob Tryz.prog.godebug = none := by kernel_rfl

theorem Tryz.laidOutU : laidOutB Tryz.prog = true := by kernel_rfl

theorem Tryz.uE : Tryz.prog.cellsOf 66 = 2 := by kernel_rfl

theorem Tryz.uS : Tryz.prog.cellsOf 24 = 3 := by kernel_rfl

theorem Tryz.uT : Tryz.prog.cellsOf 32 = 14 := by kernel_rfl

theorem Tryz.uM : Tryz.prog.cellsOf 30 = 9 := by kernel_rfl

theorem Tryz.uI : Tryz.prog.cellsOf 3 = 1 := by kernel_rfl

theorem Tryz.uL : Tryz.prog.cellsOf 22 = 1 := by kernel_rfl

theorem Tryz.uB : Tryz.prog.cellsOf 4 = 1 := by kernel_rfl

theorem Tryz.uX : Tryz.prog.cellsOf 9 = 1 := by kernel_rfl

theorem bulk_one {H : Type} (d : DataW H) : 1 ≤ Rows.uptoBulk d := by
  cases d with
  | lit l => cases l <;> simp [Rows.uptoBulk]
  | nil => simp [Rows.uptoBulk]
  | ptr d => simp [Rows.uptoBulk]
  | slice elems spare => simp [Rows.uptoBulk]
  | agg parts => simp [Rows.uptoBulk]
  | iface t d => simp [Rows.uptoBulk]
  | map entries => simp [Rows.uptoBulk]
  | held h => simp [Rows.uptoBulk]

theorem bulk_part {H : Type} {d : DataW H} {l : List (DataW H)} (h : d ∈ l) : Rows.uptoBulk d ≤ Rows.uptoBulkAll l := by
  induction l with
  | nil => cases h
  | cons x r ih =>
    simp only [Rows.uptoBulkAll]
    cases List.mem_cons.1 h with
    | inl e => subst e; omega
    | inr e => have := ih e; omega

theorem bulk_len {H : Type} (l : List (DataW H)) : l.length ≤ Rows.uptoBulkAll l := by
  induction l with
  | nil => simp [Rows.uptoBulkAll]
  | cons x r ih => have := bulk_one x; simp only [Rows.uptoBulkAll, List.length_cons]; omega

/-- Entries that are handed in. -/
theorem ents_bulk {H : Type} {enc : TypeId × Value → H} {W : World} {fuel : Nat} {c : Value} {y : DataW H × List MemPlace}
    (h : DataW.trod enc Tryz.prog W 0 (fun _ => true) true fuel 22 [c] = some y) (hz : Rows.uptoBulk y.1 ≤ 1048576) :
    ∃ (es : List Ent) (eo : Option Addr) (ec : Nat), c = .slice eo es.length ec ∧ es.length ≤ ec ∧ EntsIn W c es ∧ es.length ≤ 1048576 := by
  rcases Go.Deep.open_slice_pairs Tryz.underlying22 Tryz.underlying66 Tryz.uE rfl rfl (by kernel_rfl) (by kernel_rfl) h with ⟨hc, _⟩ | ⟨a, len, cap, m, n, V0, V1, D0, D1, P0, P1, hc, _, hl, _, hm, hx, hcell⟩
  · simp at hc
    subst hc
    exact ⟨[], none, 0, rfl, Nat.le_refl _, ⟨none, 0, rfl, fun _ => rfl, fun k e hk => by simp at hk⟩, by simp⟩
  · simp at hc
    subst hc
    have hlm : len ≤ m := by rw [hm]; simp; exact hl
    have hent : ∀ i, i < len → ∃ e : Ent, V0 i = .int .i64 e.1 ∧ V1 i = .string e.2 := fun i hi => by
      obtain ⟨_, _, h0, h1⟩ := hcell i (by omega)
      obtain ⟨x, e0, _, _⟩ := DataW.trod_int Tryz.underlying3 h0
      obtain ⟨s, e1, _, _⟩ := DataW.trod_string Tryz.underlying9 h1
      simp at e0 e1
      exact ⟨(x, s), e0, e1⟩
    obtain ⟨f, hf⟩ := Go.Deep.choose_lt hent
    refine ⟨(List.range len).map f, some a, cap, by simp, by simpa using hl, ⟨some a, cap, by simp, fun h => by simp at h, fun k e hk => ?_⟩, ?_⟩
    · simp only [List.getElem?_map] at hk
      by_cases hkl : k < len
      · rw [List.getElem?_range hkl] at hk
        simp at hk
        subst hk
        obtain ⟨h0, h1, _, _⟩ := hcell k (by omega)
        obtain ⟨b, off, spot⟩ := a
        have hspot : spot = none := by simpa [Addr.add] using World.cell?_spot (hcell 0 (by omega)).1
        subst hspot
        refine ⟨b, off, rfl, ?_, ?_⟩
        · rw [← (hf k hkl).1, ← h0, add_plain]
        · rw [← (hf k hkl).2, ← h1, add_plain, Nat.add_assoc]
      · rw [List.getElem?_eq_none (by simp; omega)] at hk
        simp at hk
    · rw [hx] at hz
      simp only [Rows.uptoBulk] at hz
      have hb := Nat.le_trans (bulk_len (H := H) _) (Nat.le_trans (Nat.le_add_right _ _) (Nat.le_trans (Nat.le_succ _) hz))
      simpa using hb

/-- A struct of 6 fields, opened. -/
theorem struct6 {H : Type} {enc : TypeId × Value → H} {P : Program} {w : World} {base : Nat} {spare : Nat → Bool} {held : Bool} {e : TypeId} {f0 f1 f2 f3 f4 f5 : Field} {n : Nat} {cs : List Value} {d : DataW H × List MemPlace} (he : P.underlying e = some (.struct #[f0, f1, f2, f3, f4, f5]))
    (o0 : f0.offset = 0) (o1 : f1.offset = 1) (o2 : f2.offset = 2) (o3 : f3.offset = 3) (o4 : f4.offset = 12) (o5 : f5.offset = 13) (c0 : P.cellsOf f0.type = 1) (c1 : P.cellsOf f1.type = 1) (c2 : P.cellsOf f2.type = 1) (c3 : P.cellsOf f3.type = 9) (c4 : P.cellsOf f4.type = 1) (c5 : P.cellsOf f5.type = 1) (hlen : cs.length = 14) (h : DataW.trod enc P w base spare held n e cs = some d) :
    ∃ v0 v1 v2 v3 v4 v5 v6 v7 v8 v9 v10 v11 v12 v13 y0 y1 y2 y3 y4 y5 k, cs = [v0, v1, v2, v3, v4, v5, v6, v7, v8, v9, v10, v11, v12, v13] ∧ d.1 = .agg [y0.1, y1.1, y2.1, y3.1, y4.1, y5.1] ∧ DataW.trod enc P w base spare held k f0.type [v0] = some y0 ∧ DataW.trod enc P w base spare held k f1.type [v1] = some y1 ∧ DataW.trod enc P w base spare held k f2.type [v2] = some y2 ∧ DataW.trod enc P w base spare held k f3.type [v3, v4, v5, v6, v7, v8, v9, v10, v11] = some y3 ∧ DataW.trod enc P w base spare held k f4.type [v12] = some y4 ∧ DataW.trod enc P w base spare held k f5.type [v13] = some y5 := by
  obtain ⟨xs, k, _, hxy, _, hxl, hf⟩ := DataW.trod_struct he h
  match xs, hxl, cs, hlen with
  | [y0, y1, y2, y3, y4, y5], _, [v0, v1, v2, v3, v4, v5, v6, v7, v8, v9, v10, v11, v12, v13], _ =>
    have g0 := hf 0 f0 rfl
    have g1 := hf 1 f1 rfl
    have g2 := hf 2 f2 rfl
    have g3 := hf 3 f3 rfl
    have g4 := hf 4 f4 rfl
    have g5 := hf 5 f5 rfl
    simp [o0, c0] at g0
    simp [o1, c1] at g1
    simp [o2, c2] at g2
    simp [o3, c3] at g3
    simp [o4, c4] at g4
    simp [o5, c5] at g5
    exact ⟨v0, v1, v2, v3, v4, v5, v6, v7, v8, v9, v10, v11, v12, v13, y0, y1, y2, y3, y4, y5, k, rfl, by rw [hxy]; rfl, g0, g1, g2, g3, g4, g5⟩

/-- A struct of 9 fields, opened. -/
theorem struct9 {H : Type} {enc : TypeId × Value → H} {P : Program} {w : World} {base : Nat} {spare : Nat → Bool} {held : Bool} {e : TypeId} {f0 f1 f2 f3 f4 f5 f6 f7 f8 : Field} {n : Nat} {cs : List Value} {d : DataW H × List MemPlace} (he : P.underlying e = some (.struct #[f0, f1, f2, f3, f4, f5, f6, f7, f8]))
    (o0 : f0.offset = 0) (o1 : f1.offset = 1) (o2 : f2.offset = 2) (o3 : f3.offset = 3) (o4 : f4.offset = 4) (o5 : f5.offset = 5) (o6 : f6.offset = 6) (o7 : f7.offset = 7) (o8 : f8.offset = 8) (c0 : P.cellsOf f0.type = 1) (c1 : P.cellsOf f1.type = 1) (c2 : P.cellsOf f2.type = 1) (c3 : P.cellsOf f3.type = 1) (c4 : P.cellsOf f4.type = 1) (c5 : P.cellsOf f5.type = 1) (c6 : P.cellsOf f6.type = 1) (c7 : P.cellsOf f7.type = 1) (c8 : P.cellsOf f8.type = 1) (hlen : cs.length = 9) (h : DataW.trod enc P w base spare held n e cs = some d) :
    ∃ v0 v1 v2 v3 v4 v5 v6 v7 v8 y0 y1 y2 y3 y4 y5 y6 y7 y8 k, cs = [v0, v1, v2, v3, v4, v5, v6, v7, v8] ∧ d.1 = .agg [y0.1, y1.1, y2.1, y3.1, y4.1, y5.1, y6.1, y7.1, y8.1] ∧ DataW.trod enc P w base spare held k f0.type [v0] = some y0 ∧ DataW.trod enc P w base spare held k f1.type [v1] = some y1 ∧ DataW.trod enc P w base spare held k f2.type [v2] = some y2 ∧ DataW.trod enc P w base spare held k f3.type [v3] = some y3 ∧ DataW.trod enc P w base spare held k f4.type [v4] = some y4 ∧ DataW.trod enc P w base spare held k f5.type [v5] = some y5 ∧ DataW.trod enc P w base spare held k f6.type [v6] = some y6 ∧ DataW.trod enc P w base spare held k f7.type [v7] = some y7 ∧ DataW.trod enc P w base spare held k f8.type [v8] = some y8 := by
  obtain ⟨xs, k, _, hxy, _, hxl, hf⟩ := DataW.trod_struct he h
  match xs, hxl, cs, hlen with
  | [y0, y1, y2, y3, y4, y5, y6, y7, y8], _, [v0, v1, v2, v3, v4, v5, v6, v7, v8], _ =>
    have g0 := hf 0 f0 rfl
    have g1 := hf 1 f1 rfl
    have g2 := hf 2 f2 rfl
    have g3 := hf 3 f3 rfl
    have g4 := hf 4 f4 rfl
    have g5 := hf 5 f5 rfl
    have g6 := hf 6 f6 rfl
    have g7 := hf 7 f7 rfl
    have g8 := hf 8 f8 rfl
    simp [o0, c0] at g0
    simp [o1, c1] at g1
    simp [o2, c2] at g2
    simp [o3, c3] at g3
    simp [o4, c4] at g4
    simp [o5, c5] at g5
    simp [o6, c6] at g6
    simp [o7, c7] at g7
    simp [o8, c8] at g8
    exact ⟨v0, v1, v2, v3, v4, v5, v6, v7, v8, y0, y1, y2, y3, y4, y5, y6, y7, y8, k, rfl, by rw [hxy]; rfl, g0, g1, g2, g3, g4, g5, g6, g7, g8⟩

/-- One step that is handed in. -/
theorem step_bulk {H : Type} {enc : TypeId × Value → H} {W : World} {fuel : Nat} {cs : List Value} {y : DataW H × List MemPlace} (hlen : cs.length = 14)
    (h : DataW.trod enc Tryz.prog W 0 (fun _ => true) true fuel 32 cs = some y) (hz : Rows.uptoBulk y.1 ≤ 1048576) :
    ∃ t : Stn, cs = t.cs.toList ∧ StnOk W tgAll t := by
  obtain ⟨v0, v1, v2, v3, v4, v5, v6, v7, v8, v9, v10, v11, v12, v13, y0, y1, y2, y3, y4, y5, k, rfl, hy, g0, g1, g2, g3, g4, g5⟩ := struct6 Tryz.underlying32 rfl rfl rfl rfl rfl rfl Tryz.uI Tryz.uI Tryz.uI Tryz.uM Tryz.uX Tryz.uI hlen h
  have hz3 : Rows.uptoBulk y3.1 ≤ 1048576 := by
    have h1 : Rows.uptoBulk y3.1 ≤ Rows.uptoBulkAll [y0.1, y1.1, y2.1, y3.1, y4.1, y5.1] := bulk_part (by simp)
    rw [hy] at hz
    simp only [Rows.uptoBulk] at hz
    omega
  obtain ⟨w0, w1, w2, w3, w4, w5, w6, w7, w8, z0, z1, z2, z3, z4, z5, z6, z7, z8, k2, hm, hy3, m0, m1, m2, m3, m4, m5, m6, m7, m8⟩ := struct9 Tryz.underlying30 rfl rfl rfl rfl rfl rfl rfl rfl rfl Tryz.uI Tryz.uI Tryz.uI Tryz.uI Tryz.uI Tryz.uI Tryz.uI Tryz.uL Tryz.uB rfl g3
  simp only [List.cons.injEq, and_true] at hm
  obtain ⟨rfl, rfl, rfl, rfl, rfl, rfl, rfl, rfl, rfl⟩ := hm
  have hz7 : Rows.uptoBulk z7.1 ≤ 1048576 := by
    have h1 : Rows.uptoBulk z7.1 ≤ Rows.uptoBulkAll [z0.1, z1.1, z2.1, z3.1, z4.1, z5.1, z6.1, z7.1, z8.1] := bulk_part (by simp)
    rw [hy3] at hz3
    simp only [Rows.uptoBulk] at hz3
    omega
  obtain ⟨kind, e_kind, _, _⟩ := DataW.trod_int Tryz.underlying3 g0
  obtain ⟨a, e_a, _, _⟩ := DataW.trod_int Tryz.underlying3 g1
  obtain ⟨q, e_q, _, _⟩ := DataW.trod_int Tryz.underlying3 g2
  obtain ⟨mk, e_mk, _, _⟩ := DataW.trod_int Tryz.underlying3 m0
  obtain ⟨mf, e_mf, _, _⟩ := DataW.trod_int Tryz.underlying3 m1
  obtain ⟨mt, e_mt, _, _⟩ := DataW.trod_int Tryz.underlying3 m2
  obtain ⟨mT, e_mT, _, _⟩ := DataW.trod_int Tryz.underlying3 m3
  obtain ⟨mi, e_mi, _, _⟩ := DataW.trod_int Tryz.underlying3 m4
  obtain ⟨ml, e_ml, _, _⟩ := DataW.trod_int Tryz.underlying3 m5
  obtain ⟨mc, e_mc, _, _⟩ := DataW.trod_int Tryz.underlying3 m6
  obtain ⟨mg, e_mg, _⟩ := DataW.trod_bool Tryz.underlying4 m8
  obtain ⟨c, e_c, _, _⟩ := DataW.trod_string Tryz.underlying9 g4
  obtain ⟨x, e_x, _, _⟩ := DataW.trod_int Tryz.underlying3 g5
  obtain ⟨es, eo, ec, hev, hec, hE, hl9⟩ := ents_bulk m7 hz7
  simp only [List.cons.injEq, and_true] at e_kind e_a e_q e_mk e_mf e_mt e_mT e_mi e_ml e_mc e_mg e_c e_x
  subst e_kind e_a e_q e_mk e_mf e_mt e_mT e_mi e_ml e_mc e_mg e_c e_x
  exact ⟨⟨kind, a, q, ⟨mk, mf, mt, mT, mi, ml, mc, es, mg⟩, _, c, x⟩, rfl, eo, ec, hev, hec, hE, hl9, fun _ _ _ => rfl⟩

theorem script_bulk {H : Type} {enc : TypeId × Value → H} {W : World} {fuel : Nat} {c : Value} {y : DataW H × List MemPlace}
    (h : DataW.trod enc Tryz.prog W 0 (fun _ => true) true fuel 33 [c] = some y) (hz : Rows.uptoBulk y.1 ≤ 1048576) : ∃ l : List Stn, ScrIn W tgAll c l ∧ l.length ≤ 1048576 := by
  rcases Go.Deep.open_slice Tryz.underlying33 h with ⟨hc, _⟩ | ⟨a, len, cap, m, n, D, Pl, hc, _, hl, _, hmm, hx, hcell⟩
  · simp at hc
    subst hc
    exact ⟨[], ⟨none, 0, rfl, fun k s hk => by simp at hk⟩, by simp⟩
  · simp at hc
    subst hc
    have hlm : len ≤ m := by rw [hmm]; simp; exact hl
    rw [hx] at hz
    simp only [Rows.uptoBulk] at hz
    have hent : ∀ i, i < len → ∃ t : Stn, StnOk W tgAll t ∧ ∀ j u, t.cs[j]? = some u → W.cell? (a.add (i * 14 + j)) = some u := fun i hi => by
      obtain ⟨cs', h1, h2⟩ := hcell i (by omega)
      rw [Tryz.uT] at h1
      have hDi : Rows.uptoBulk (D i) ≤ 1048576 := by
        have h3 : Rows.uptoBulk (D i) ≤ Rows.uptoBulkAll ((List.range len).map D) := bulk_part (List.mem_map.2 ⟨i, List.mem_range.2 hi, rfl⟩)
        omega
      obtain ⟨_, hlen, hce⟩ := World.cells?_some h1
      obtain ⟨t, ht, hok⟩ := step_bulk hlen h2 hDi
      refine ⟨t, hok, fun j u hj => ?_⟩
      have hj14 : j < 14 := by have := (Array.getElem?_eq_some_iff.1 hj).1; rw [Stn.cs_size] at this; exact this
      have e0 := hce j (by omega)
      rw [Go.Deep.add_add] at e0
      rw [e0, ht, Array.getElem?_toList]
      exact hj
    haveI : Inhabited Stn := ⟨⟨0, 0, 0, ⟨0, 0, 0, 0, 0, 0, 0, [], false⟩, .bool false, ⟨#[]⟩, 0⟩⟩
    obtain ⟨f, hf⟩ := Go.Deep.choose_lt hent
    refine ⟨(List.range len).map f, ⟨some a, cap, by simp, fun k s hk => ?_⟩, ?_⟩
    · simp only [List.getElem?_map] at hk
      by_cases hkl : k < len
      · rw [List.getElem?_range hkl] at hk
        simp at hk
        subst hk
        obtain ⟨hok, hc⟩ := hf k hkl
        obtain ⟨b, off, spot⟩ := a
        have hspot : spot = none := by simpa [Addr.add] using World.cell?_spot ((hf 0 (by omega)).2 0 _ rfl)
        subst hspot
        refine ⟨hok, b, off, rfl, rfl, fun j u hj => ?_⟩
        rw [← hc j u hj, add_plain, Nat.add_assoc]
      · rw [List.getElem?_eq_none (by simp; omega)] at hk
        simp at hk
    · have hb := Nat.le_trans (bulk_len (H := H) _) (Nat.le_trans (Nat.le_add_right _ _) (Nat.le_trans (Nat.le_succ _) hz))
      simpa using hb

end Go.Proofs.YteiecbkfganhnaaGreat
