/- markEntries, markTexts. -/
import Derived.Test.YteiecbkfganhnaaGreatReads
import Derived.Test.YteiecbkfganhnaaGreatGrow
namespace Go.Proofs.YteiecbkfganhnaaGreat
open Go.RowKit

/-- Behind markEntries. -/
def MarkedE (i gb : Nat) (w : World) (tg : Tags) (c0 c1 c2 c3 : Value) (b : BV) (ne : Nat) (T : Nat × Nat) (w' : World) : Prop :=
  ∃ e tg', GameBlk w' gb c0 c1 c2 c3 { b with e := e } ∧ tg' gb = tG i ∧ MarkE i w' tg' e (ne + 1) ∧ Stp (fun U => U = tG i ∨ U = tE i ∨ U = T) w tg w' tg'

theorem mark_fin {i gb n ne N1 : Nat} {w W0 w3 w4 : World} {tg tg0 tg3 tg4 : Tags} {c0 c1 c2 c3 : Value} {b : BV} {T : Nat × Nat} {M : Int} {v o1 o2 o3 e' : Value} {xs : List Value} {n0 : Nat} {ys : List Value}
    (hTG : T ≠ tG i) (hTE : T ≠ tE i) (hT0 : T ≠ (0, 0)) (hn : n ≤ 1000000) (hN : N1 = 4 * ne) (hM : M = -1 - (ne : Int)) (hxl : xs.length = N1)
    (hW : ∀ (k : Nat) (v : Value), xs[k]? = some v → ∃ m, m ≤ 1000003 ∧ SeenE w tg v (List.replicate m (mkE (k / 4))))
    (hv : Own w tg T 66 2 v n0 ys) (hs0 : Stp (fun _ => False) w tg W0 tg0) (hs3 : Stp (fun U => U = T) W0 tg0 w3 tg3) (hs4 : Stp (fun U => U = tE i) w3 tg3 w4 tg4)
    (hO3 : Own w3 tg3 T 66 2 v n (rep [.int .i64 M, .string ⟨#[]⟩] n)) (h1 : Good w3 tg3 [.int .i64 M, .string ⟨#[]⟩] v o1 (n + 1)) (h2 : Good w3 tg3 [.int .i64 M, .string ⟨#[]⟩] v o2 (n + 2)) (h3 : Good w3 tg3 [.int .i64 M, .string ⟨#[]⟩] v o3 (n + 3))
    (hO4 : Own w4 tg4 (tE i) 22 1 e' (N1 + 4) (xs ++ [v, o1, o2, o3])) (hG4 : GameBlk w4 gb c0 c1 c2 c3 b) (hg4 : tg4 gb = tG i) :
    MarkedE i gb w tg c0 c1 c2 c3 b ne T (w4.setCell ⟨gb, 4, none⟩ e') := by
  have hs5 : Stp (fun U => U = tG i) w4 tg4 (w4.setCell ⟨gb, 4, none⟩ e') tg4 := Stp.setCell (a := ⟨gb, 4, none⟩) hg4 e'
  have hall : Stp (fun U => U = tG i ∨ U = tE i ∨ U = T) w tg (w4.setCell ⟨gb, 4, none⟩ e') tg4 :=
    (((hs0.mono fun _ h => h.elim).trans (hs3.mono fun _ h => .inr (.inr h))).trans (hs4.mono fun _ h => .inr (.inl h))).trans (hs5.mono fun _ h => .inl h)
  have hO5 := (hO3.step hs4 hTE).step hs5 hTG
  have hstep : ∀ {y : Value} {p : Nat}, Good w3 tg3 [.int .i64 M, .string ⟨#[]⟩] v y p → Good (w4.setCell ⟨gb, 4, none⟩ e') tg4 [.int .i64 M, .string ⟨#[]⟩] v y p := fun h =>
    (h.step hO3.2 hs4 (by simp) hTE).step (hO3.step hs4 hTE).2 hs5 (by simp) hTG
  have hfin := hall.unTag hv.2 (.inr (.inr rfl))
  refine ⟨e', unTag v tg4, hG4.setE e', ?_, ⟨xs ++ [v, o1, o2, o3], ?_, fun k y hk => ?_⟩, hfin⟩
  · have : ¬ v.ownBlock = some gb := fun he => hTG ((hO5.2 gb he).symm.trans hg4)
    simp only [unTag, this, if_false]
    exact hg4
  · rw [show 4 * (ne + 1) = N1 + 4 by omega]
    exact (hO4.step hs5 (by simp)).unTag hO5.2 (fun h => hTE h.symm)
  · by_cases hkl : k < xs.length
    · rw [List.getElem?_append_left hkl] at hk
      obtain ⟨m, hm, hse⟩ := hW k y hk
      refine ⟨m, hm, hse.step hfin ?_⟩
      rintro (h | h | h)
      · simp at h
      · simp at h
      · exact hT0 h.symm
    · have hk4 : k / 4 = ne := by
        have := (List.getElem?_eq_some_iff.1 hk).1
        simp at this
        omega
      rw [hk4]
      rw [List.getElem?_append_right (by omega)] at hk
      have hmk : mkE ne = (M, ⟨#[]⟩) := by rw [hM]
      rw [hmk]
      match k - xs.length, hk with
      | 0, hk => simp at hk; subst hk; exact ⟨n, by omega, seenE_self (x := (M, ⟨#[]⟩)) hO5⟩
      | 1, hk => simp at hk; subst hk; exact ⟨n + 1, by omega, (hstep h1).seenE (x := (M, ⟨#[]⟩))⟩
      | 2, hk => simp at hk; subst hk; exact ⟨n + 2, by omega, (hstep h2).seenE (x := (M, ⟨#[]⟩))⟩
      | 3, hk => simp at hk; subst hk; exact ⟨n + 3, by omega, (hstep h3).seenE (x := (M, ⟨#[]⟩))⟩
      | j + 4, hk => simp at hk

set_option maxRecDepth 100000 in
set_option maxHeartbeats 1000000 in
theorem markEntries_any (i gb : Nat) (w : World) (tg : Tags) (c0 c1 c2 c3 : Value) (b : BV) (ne : Nat) (T : Nat × Nat) (v : Value) (es : List Ent)
    (hG : GameBlk w gb c0 c1 c2 c3 b) (hg : tg gb = tG i) (hE : MarkE i w tg b.e ne) (hv : Own w tg T 66 2 v es.length (eC es)) (hTG : T ≠ tG i) (hTE : T ≠ tE i) (hT0 : T ≠ (0, 0)) (hT1 : T ≠ (0, 1)) (hes : es.length ≤ 1000000) (hl : ne ≤ 1000000000) :
    Calls Tryz.prog 84 #[.pointer (some ⟨gb, 4, none⟩), v] w fun e w' => e = .returned (.tuple #[]) ∧ MarkedE i gb w tg c0 c1 c2 c3 b ne T w' := by
  obtain ⟨xs, hx, hwl⟩ := hE.rows
  obtain ⟨N1, hN1⟩ : ∃ N, N = 4 * ne := ⟨_, rfl⟩
  rw [← hN1] at hx
  have hb1 : N1 ≤ 4000000000 := by omega
  obtain ⟨be, bm, bt, bwe, bre, bwm, brm, bwt, brt⟩ := b
  simp only at hx
  obtain ⟨ea, ec, rfl⟩ := hx.form
  obtain ⟨vo, vc, rfl⟩ := hv.form
  have g4 := hG.c4
  simp only at g4
  have HN1 := hide hN1
  have HG := hide hG
  have HW := hide hwl
  have HX := hide hx
  have HV := hide hv
  clear hG hE hwl hx hN1 hl hv
  go_enter Tryz.func84, Tryz.ntmps84
  go_wp2
  have hs0 : Stp (fun _ => False) w tg (w.alloc (Obj.cells #[.int .i64 (-1 - (N1 : Int) / 4), .string ⟨#[]⟩] 66)) (newTag w.heap.size tg (0, 1)) := Stp.alloc w tg _ (0, 1)
  have HX0 := hide ((unhide HX).step hs0 (fun h => h))
  have HV0 := hide ((unhide HV).step hs0 (fun h => h))
  have HG0 := hide ((unhide HG).step hg hs0 (fun h => h))
  have hmb : newTag w.heap.size tg (0, 1) w.heap.size = (0, 1) := newTag_new (Nat.le_refl _)
  have hmh := heap_alloc_new w (Obj.cells #[.int .i64 (-1 - (N1 : Int) / 4), .string ⟨#[]⟩] 66)
  have hml : w.heap.size < (w.alloc (Obj.cells #[.int .i64 (-1 - (N1 : Int) / 4), .string ⟨#[]⟩] 66)).heap.size := by simp
  have HM : Hid (-1 - (N1 : Int) / 4 = -1 - (ne : Int)) := by have := unhide HN1; show _ = _; omega
  replace hs0 := hide hs0
  replace hmb := hide hmb
  replace hmh := hide hmh
  replace hml := hide hml
  generalize -1 - (N1 : Int) / 4 = M at *
  generalize w.alloc (Obj.cells #[.int .i64 M, .string ⟨#[]⟩] 66) = W0 at *
  generalize newTag w.heap.size tg (0, 1) = tg0 at *
  generalize w.heap.size = mb at *
  go_loopw [5] (fun i wr => ∃ j : Nat, j ≤ es.length ∧ i = .int .i64 j ∧ Own wr tg0 T 66 2 (.slice vo es.length vc) es.length (eC (List.replicate j (M, ⟨#[]⟩) ++ es.drop j)) ∧ Stp (fun U => U = T) W0 tg0 wr tg0) (fun i _ => es.length - (intOf i).toNat)
  case atStart => exact ⟨0, Nat.zero_le _, rfl, by simpa using unhide HV0, Stp.refl _ _ _⟩
  case round =>
    obtain ⟨j, hj, rfl, ho, hs⟩ := hrel
    have hm := (hs.keep mb (unhide hml) (by rw [unhide hmb]; exact fun h => hT1 h.symm)).1.trans (unhide hmh)
    have m0 : wr.cell? ⟨mb, 0, none⟩ = some (.int .i64 M) := cell_of_row wr mb 0 _ _ _ hm
    have m1 : wr.cell? ⟨mb, 1, none⟩ = some (.string ⟨#[]⟩) := cell_of_row wr mb 1 _ _ _ hm
    by_cases hlt : j < es.length
    · obtain ⟨vg, rfl, tv, f0, f1, ⟨a0, k0⟩, ⟨a1, k1⟩⟩ := own_cells2 ho hlt
      have i1 : (0 : Int) ≤ (j : Int) := by omega
      have i2 : (j : Int) < (es.length : Int) := by omega
      replace ho := hide ho
      replace hs := hide hs
      replace tv := hide tv
      clear hm g4
      go_wp2
      go_roundw
      case rel =>
        refine ⟨j + 1, by omega, by go_num, ?_, ?_⟩
        · rw [← repl_set es (M, ⟨#[]⟩) j hlt]
          exact own_set2 (j := j) (M, ⟨#[]⟩) (unhide ho)
        · exact ((unhide hs).trans (Stp.setCell (a := ⟨vg, _, none⟩) (unhide tv) _)).trans (Stp.setCell (a := ⟨vg, _, none⟩) (unhide tv) _)
      case measure => simp [intOf]; omega
    · have hjn : j = es.length := by omega
      subst hjn
      obtain ⟨i0, hi, hz0, hz1, hz2⟩ := info_parts infoEntry
      obtain ⟨i9, hi9, hy0, hy1, hy2⟩ := info_parts infoSE
      have ho' : Own wr tg0 T 66 2 (.slice vo es.length vc) es.length (rep [.int .i64 M, .string ⟨#[]⟩] es.length) := by
        rw [← rep_eC (M, ⟨#[]⟩)]; simpa using ho
      have HO := hide ho'
      have HS := hide hs
      have HMH := hide hm
      clear hm ho ho' hs g4
      go_wp2_with (at_builtin; go_must (refine wpList_append_cases rfl (.tmp 27) (.tmp 29) 22 rfl 0 66 i0 _ 2 24 Tryz.underlying22 hi hz0 hz1 hz2 rfl (by decide) (.slice vo es.length vc) es.length (rep [.int .i64 M, .string ⟨#[]⟩] es.length) rfl ((unhide HO).1.alloc _) ⟨wr.heap.size, 0, none⟩ 1 1 (rep [.int .i64 M, .string ⟨#[]⟩] 1) rfl rfl (by exact cells_new _ _ _) (repE_one M _ _) (by decide) (by unfold maxLen; omega) (by omega) (Nat.zero_le _) ?_))
      intro g1 q1 w1 hown1 hc1
      obtain ⟨tg1, HO1, HS1, GD1, _⟩ := mark_push rfl hT0 (unhide HO) hown1 hc1 (by decide)
      have HM1 := HS1.keep mb (Nat.lt_of_lt_of_le (unhide hml) (unhide HS).size) (by rw [unhide hmb]; exact fun h => hT1 h.symm)
      have hm1 := HM1.1.trans (unhide HMH)
      have tm1 := HM1.2.trans (unhide hmb)
      have hl1 := Nat.lt_of_lt_of_le (Nat.lt_of_lt_of_le (unhide hml) (unhide HS).size) HS1.size
      have m2 : w1.cell? ⟨mb, 0, none⟩ = some (.int .i64 M) := cell_of_row w1 mb 0 _ _ _ hm1
      have m3 : w1.cell? ⟨mb, 1, none⟩ = some (.string ⟨#[]⟩) := cell_of_row w1 mb 1 _ _ _ hm1
      replace HO1 := hide HO1
      replace HS1 := hide ((unhide HS).trans HS1)
      replace GD1 := hide GD1
      replace hm1 := hide hm1
      replace tm1 := hide tm1
      replace hl1 := hide hl1
      clear hown1 hc1 HM1 m0 m1 HO HS HMH
      go_wp2_with (at_builtin; go_must (refine wpList_append_cases rfl (.tmp 31) (.tmp 34) 22 rfl 0 66 i0 _ 2 24 Tryz.underlying22 hi hz0 hz1 hz2 rfl (by decide) (.slice vo es.length vc) es.length (rep [.int .i64 M, .string ⟨#[]⟩] es.length) rfl ((unhide HO1).1.alloc _) ⟨w1.heap.size, 0, none⟩ 2 2 (rep [.int .i64 M, .string ⟨#[]⟩] 2) rfl rfl (by exact cells_new _ _ _) (repE_one M _ _) (by decide) (by unfold maxLen; omega) (by omega) (Nat.zero_le _) ?_))
      intro g2 q2 w2 hown2 hc2
      obtain ⟨tg2, HO2, HS2, GD2, GP2⟩ := mark_push rfl hT0 (unhide HO1) hown2 hc2 (by decide)
      have GD12 := hide (GP2 _ _ (unhide GD1) (by omega))
      have HM2 := HS2.keep mb (unhide hl1) (by rw [unhide tm1]; exact fun h => hT1 h.symm)
      have hm2 := HM2.1.trans (unhide hm1)
      have tm2 := HM2.2.trans (unhide tm1)
      have hl2 := Nat.lt_of_lt_of_le (unhide hl1) HS2.size
      have m4 : w2.cell? ⟨mb, 0, none⟩ = some (.int .i64 M) := cell_of_row w2 mb 0 _ _ _ hm2
      have m5 : w2.cell? ⟨mb, 1, none⟩ = some (.string ⟨#[]⟩) := cell_of_row w2 mb 1 _ _ _ hm2
      replace HO2 := hide HO2
      replace HS2 := hide ((unhide HS1).trans HS2)
      replace GD2 := hide GD2
      clear hown2 hc2 HM2 hm2 tm2 hl2 m2 m3 HO1 HS1 GD1 GP2 hm1 tm1 hl1
      go_wp2_with (at_builtin; go_must (refine wpList_append_cases rfl (.tmp 36) (.tmp 40) 22 rfl 0 66 i0 _ 2 24 Tryz.underlying22 hi hz0 hz1 hz2 rfl (by decide) (.slice vo es.length vc) es.length (rep [.int .i64 M, .string ⟨#[]⟩] es.length) rfl ((unhide HO2).1.alloc _) ⟨w2.heap.size, 0, none⟩ 3 3 (rep [.int .i64 M, .string ⟨#[]⟩] 3) rfl rfl (by exact cells_new _ _ _) (repE_one M _ _) (by decide) (by unfold maxLen; omega) (by omega) (Nat.zero_le _) ?_))
      intro g3 q3 w3 hown3 hc3
      obtain ⟨tg3, HO3, HS3, GD3, GP3⟩ := mark_push rfl hT0 (unhide HO2) hown3 hc3 (by decide)
      have GD13 := hide (GP3 _ _ (unhide GD12) (by omega))
      have GD23 := hide (GP3 _ _ (unhide GD2) (by omega))
      replace HS3 := (unhide HS2).trans HS3
      have HX3 := hide ((unhide HX0).step HS3 (fun h => hTE h.symm))
      obtain ⟨hG3, hg3⟩ := (unhide HG0).1.step (unhide HG0).2 HS3 (fun h => hTG h.symm)
      have k4 := hG3.c4
      simp only at k4
      have f4 := hG3.free 4
      replace HS3 := hide HS3
      replace HO3 := hide HO3
      replace GD3 := hide GD3
      replace hG3 := hide hG3
      replace hg3 := hide hg3
      clear hown3 hc3 GP3 m4 m5 HO2 HS2 GD2 GD12
      go_wp2_with (at_builtin; go_must (refine wpList_append_lies _ rfl (.tmp 46) (.tmp 51) 47 rfl 0 22 i9 _ 1 24 Tryz.underlying47 hi9 hy0 hy1 hy2 rfl (by decide) (.slice ea N1 ec) N1 xs rfl ((unhide HX3).1.alloc _) ⟨w3.heap.size, 0, none⟩ 4 4 [.slice vo es.length vc, .slice (some ⟨g1, 0, none⟩) (es.length + 1) q1, .slice (some ⟨g2, 0, none⟩) (es.length + 2) q2, .slice (some ⟨g3, 0, none⟩) (es.length + 3) q3] rfl rfl (by exact cells_new _ _ _) (by intro u hu; simp at hu; rcases hu with rfl | rfl | rfl | rfl <;> rfl) (by decide) (by unfold maxLen; omega) (by omega) (Nat.zero_le _) (w3.heap.size + 1) (by simp) ?_))
      intro g4 q4 w4 hown4 hgrow4 hat4 hlt4
      obtain ⟨tg4, HO4, HS4⟩ := (unhide HX3).pushed hgrow4 hown4 hat4
      obtain ⟨hG4, hg4⟩ := (unhide hG3).step (unhide hg3) HS4 (by simp)
      have k4' := hG4.c4
      have f4' := hG4.free 4
      replace HO4 := hide HO4
      replace HS4 := hide HS4
      replace hG4 := hide hG4
      replace hg4 := hide hg4
      clear hown4 hgrow4 hat4 hlt4 k4 f4
      go_wp2
      go_end0
      exact ⟨rfl, mark_fin hTG hTE hT0 hes (unhide HN1) (unhide HM) (by simpa using (unhide HX).1.1) (unhide HW) (unhide HV) (unhide hs0) (unhide HS3) (unhide HS4) (unhide HO3) (unhide GD13) (unhide GD23) (unhide GD3) (unhide HO4) (unhide hG4) (unhide hg4)⟩

/-- Behind markTexts. -/
def MarkedT (i gb : Nat) (w : World) (tg : Tags) (c0 c1 c2 c3 : Value) (b : BV) (ne : Nat) (T : Nat × Nat) (w' : World) : Prop :=
  ∃ e tg', GameBlk w' gb c0 c1 c2 c3 { b with t := e } ∧ tg' gb = tG i ∧ MarkT i w' tg' e (ne + 1) ∧ Stp (fun U => U = tG i ∨ U = tT i ∨ U = T) w tg w' tg'

theorem mark_finT {i gb n ne N1 : Nat} {w W0 w3 w4 : World} {tg tg0 tg3 tg4 : Tags} {c0 c1 c2 c3 : Value} {b : BV} {T : Nat × Nat} {M : ByteArray} {v o1 o2 o3 e' : Value} {xs : List Value} {n0 : Nat} {ys : List Value}
    (hTG : T ≠ tG i) (hTE : T ≠ tT i) (hT0 : T ≠ (0, 0)) (hn : n ≤ 1000000) (hN : N1 = 4 * ne) (hM : M = txt ne) (hxl : xs.length = N1)
    (hW : ∀ (k : Nat) (v : Value), xs[k]? = some v → ∃ m, m ≤ 1000003 ∧ SeenT w tg v (List.replicate m (txt (k / 4))))
    (hv : Own w tg T 9 1 v n0 ys) (hs0 : Stp (fun _ => False) w tg W0 tg0) (hs3 : Stp (fun U => U = T) W0 tg0 w3 tg3) (hs4 : Stp (fun U => U = tT i) w3 tg3 w4 tg4)
    (hO3 : Own w3 tg3 T 9 1 v n (rep [.string M] n)) (h1 : Good w3 tg3 [.string M] v o1 (n + 1)) (h2 : Good w3 tg3 [.string M] v o2 (n + 2)) (h3 : Good w3 tg3 [.string M] v o3 (n + 3))
    (hO4 : Own w4 tg4 (tT i) 99 1 e' (N1 + 4) (xs ++ [v, o1, o2, o3])) (hG4 : GameBlk w4 gb c0 c1 c2 c3 b) (hg4 : tg4 gb = tG i) :
    MarkedT i gb w tg c0 c1 c2 c3 b ne T (w4.setCell ⟨gb, 6, none⟩ e') := by
  have hs5 : Stp (fun U => U = tG i) w4 tg4 (w4.setCell ⟨gb, 6, none⟩ e') tg4 := Stp.setCell (a := ⟨gb, 6, none⟩) hg4 e'
  have hall : Stp (fun U => U = tG i ∨ U = tT i ∨ U = T) w tg (w4.setCell ⟨gb, 6, none⟩ e') tg4 :=
    (((hs0.mono fun _ h => h.elim).trans (hs3.mono fun _ h => .inr (.inr h))).trans (hs4.mono fun _ h => .inr (.inl h))).trans (hs5.mono fun _ h => .inl h)
  have hO5 := (hO3.step hs4 hTE).step hs5 hTG
  have hstep : ∀ {y : Value} {p : Nat}, Good w3 tg3 [.string M] v y p → Good (w4.setCell ⟨gb, 6, none⟩ e') tg4 [.string M] v y p := fun h =>
    (h.step hO3.2 hs4 (by simp) hTE).step (hO3.step hs4 hTE).2 hs5 (by simp) hTG
  have hfin := hall.unTag hv.2 (.inr (.inr rfl))
  refine ⟨e', unTag v tg4, hG4.setT e', ?_, ⟨xs ++ [v, o1, o2, o3], ?_, fun k y hk => ?_⟩, hfin⟩
  · have : ¬ v.ownBlock = some gb := fun he => hTG ((hO5.2 gb he).symm.trans hg4)
    simp only [unTag, this, if_false]
    exact hg4
  · rw [show 4 * (ne + 1) = N1 + 4 by omega]
    exact (hO4.step hs5 (by simp)).unTag hO5.2 (fun h => hTE h.symm)
  · by_cases hkl : k < xs.length
    · rw [List.getElem?_append_left hkl] at hk
      obtain ⟨m, hm, hse⟩ := hW k y hk
      refine ⟨m, hm, hse.step hfin ?_⟩
      rintro (h | h | h)
      · simp at h
      · simp at h
      · exact hT0 h.symm
    · have hk4 : k / 4 = ne := by
        have := (List.getElem?_eq_some_iff.1 hk).1
        simp at this
        omega
      rw [hk4]
      rw [List.getElem?_append_right (by omega)] at hk
      rw [← hM]
      match k - xs.length, hk with
      | 0, hk => simp at hk; subst hk; exact ⟨n, by omega, seenT_self hO5⟩
      | 1, hk => simp at hk; subst hk; exact ⟨n + 1, by omega, (hstep h1).seenT⟩
      | 2, hk => simp at hk; subst hk; exact ⟨n + 2, by omega, (hstep h2).seenT⟩
      | 3, hk => simp at hk; subst hk; exact ⟨n + 3, by omega, (hstep h3).seenT⟩
      | j + 4, hk => simp at hk

set_option maxRecDepth 100000 in
set_option maxHeartbeats 1000000 in
theorem markTexts_any (i gb : Nat) (w : World) (tg : Tags) (c0 c1 c2 c3 : Value) (b : BV) (ne : Nat) (T : Nat × Nat) (v : Value) (es : List ByteArray)
    (hG : GameBlk w gb c0 c1 c2 c3 b) (hg : tg gb = tG i) (hE : MarkT i w tg b.t ne) (hv : Own w tg T 9 1 v es.length (tC es)) (hTG : T ≠ tG i) (hTE : T ≠ tT i) (hT0 : T ≠ (0, 0)) (hes : es.length ≤ 1000000) (hl : ne ≤ 1000000000) :
    Calls Tryz.prog 86 #[.pointer (some ⟨gb, 4, none⟩), v] w fun e w' => e = .returned (.tuple #[]) ∧ MarkedT i gb w tg c0 c1 c2 c3 b ne T w' := by
  obtain ⟨xs, hx, hwl⟩ := hE.rows
  obtain ⟨N1, hN1⟩ : ∃ N, N = 4 * ne := ⟨_, rfl⟩
  rw [← hN1] at hx
  have hb1 : N1 ≤ 4000000000 := by omega
  obtain ⟨be, bm, bt, bwe, bre, bwm, brm, bwt, brt⟩ := b
  simp only at hx
  obtain ⟨ea, ec, rfl⟩ := hx.form
  obtain ⟨vo, vc, rfl⟩ := hv.form
  have g4 := hG.c6
  simp only at g4
  have HN1 := hide hN1
  have HNE := hide hl
  have HG := hide hG
  have HW := hide hwl
  have HX := hide hx
  have HV := hide hv
  clear hG hE hwl hx hN1 hl hv
  go_enter Tryz.func86, Tryz.ntmps86
  go_wp2_with (go_at_call 88; refine (text_at _ ne _ (by have := unhide HNE; omega) (by have := unhide HN1; omega)).mono ?_; rintro e W0 ⟨rfl, hb0⟩)
  have hs0 : Stp (fun _ => False) w tg W0 (newTag w.heap.size tg (0, 0)) := Stp.ofBelow hb0 tg (0, 0)
  have HX0 := hide ((unhide HX).step hs0 (fun h => h))
  have HV0 := hide ((unhide HV).step hs0 (fun h => h))
  have HG0 := hide ((unhide HG).step hg hs0 (fun h => h))
  obtain ⟨M, hM⟩ : ∃ M, M = txt ne := ⟨_, rfl⟩
  rw [← hM]
  replace hM := hide hM
  replace hs0 := hide hs0
  clear hb0
  generalize newTag w.heap.size tg (0, 0) = tg0 at *
  go_loopw [5] (fun i wr => ∃ j : Nat, j ≤ es.length ∧ i = .int .i64 j ∧ Own wr tg0 T 9 1 (.slice vo es.length vc) es.length (tC (List.replicate j M ++ es.drop j)) ∧ Stp (fun U => U = T) W0 tg0 wr tg0) (fun i _ => es.length - (intOf i).toNat)
  case atStart => exact ⟨0, Nat.zero_le _, rfl, by simpa using unhide HV0, Stp.refl _ _ _⟩
  case round =>
    obtain ⟨j, hj, rfl, ho, hs⟩ := hrel
    by_cases hlt : j < es.length
    · obtain ⟨vg, rfl, tv, f0, ⟨a0, k0⟩⟩ := own_cells1 ho hlt
      have i1 : (0 : Int) ≤ (j : Int) := by omega
      have i2 : (j : Int) < (es.length : Int) := by omega
      replace ho := hide ho
      replace hs := hide hs
      replace tv := hide tv
      clear g4
      go_wp2
      go_roundw
      case rel =>
        refine ⟨j + 1, by omega, by go_num, ?_, ?_⟩
        · rw [← replT_set es M j hlt]
          exact own_set1 (j := j) M (unhide ho)
        · exact (unhide hs).trans (Stp.setCell (a := ⟨vg, _, none⟩) (unhide tv) _)
      case measure => simp [intOf]; omega
    · have hjn : j = es.length := by omega
      subst hjn
      obtain ⟨i0, hi, hz0, hz1, hz2⟩ := info_parts infoStr
      obtain ⟨i9, hi9, hy0, hy1, hy2⟩ := info_parts infoST
      have ho' : Own wr tg0 T 9 1 (.slice vo es.length vc) es.length (rep [.string M] es.length) := by
        rw [← rep_tC]; simpa using ho
      have HO := hide ho'
      have HS := hide hs
      clear ho ho' hs g4
      go_wp2_with (at_builtin; go_must (refine wpList_append_cases rfl (.tmp 26) (.tmp 28) 99 rfl 0 9 i0 _ 1 16 Tryz.underlying99 hi hz0 hz1 hz2 rfl (by decide) (.slice vo es.length vc) es.length (rep [.string M] es.length) rfl ((unhide HO).1.alloc _) ⟨wr.heap.size, 0, none⟩ 1 1 (rep [.string M] 1) rfl rfl (by exact cells_new _ _ _) (repT_one M _) (by decide) (by unfold maxLen; omega) (by omega) (Nat.zero_le _) ?_))
      intro g1 q1 w1 hown1 hc1
      obtain ⟨tg1, HO1, HS1, GD1, _⟩ := mark_push rfl hT0 (unhide HO) hown1 hc1 (by decide)
      replace HO1 := hide HO1
      replace HS1 := hide ((unhide HS).trans HS1)
      replace GD1 := hide GD1
      clear hown1 hc1 HO HS
      go_wp2_with (at_builtin; go_must (refine wpList_append_cases rfl (.tmp 30) (.tmp 33) 99 rfl 0 9 i0 _ 1 16 Tryz.underlying99 hi hz0 hz1 hz2 rfl (by decide) (.slice vo es.length vc) es.length (rep [.string M] es.length) rfl ((unhide HO1).1.alloc _) ⟨w1.heap.size, 0, none⟩ 2 2 (rep [.string M] 2) rfl rfl (by exact cells_new _ _ _) (repT_one M _) (by decide) (by unfold maxLen; omega) (by omega) (Nat.zero_le _) ?_))
      intro g2 q2 w2 hown2 hc2
      obtain ⟨tg2, HO2, HS2, GD2, GP2⟩ := mark_push rfl hT0 (unhide HO1) hown2 hc2 (by decide)
      have GD12 := hide (GP2 _ _ (unhide GD1) (by omega))
      replace HO2 := hide HO2
      replace HS2 := hide ((unhide HS1).trans HS2)
      replace GD2 := hide GD2
      clear hown2 hc2 HO1 HS1 GD1 GP2
      go_wp2_with (at_builtin; go_must (refine wpList_append_cases rfl (.tmp 35) (.tmp 39) 99 rfl 0 9 i0 _ 1 16 Tryz.underlying99 hi hz0 hz1 hz2 rfl (by decide) (.slice vo es.length vc) es.length (rep [.string M] es.length) rfl ((unhide HO2).1.alloc _) ⟨w2.heap.size, 0, none⟩ 3 3 (rep [.string M] 3) rfl rfl (by exact cells_new _ _ _) (repT_one M _) (by decide) (by unfold maxLen; omega) (by omega) (Nat.zero_le _) ?_))
      intro g3 q3 w3 hown3 hc3
      obtain ⟨tg3, HO3, HS3, GD3, GP3⟩ := mark_push rfl hT0 (unhide HO2) hown3 hc3 (by decide)
      have GD13 := hide (GP3 _ _ (unhide GD12) (by omega))
      have GD23 := hide (GP3 _ _ (unhide GD2) (by omega))
      replace HS3 := (unhide HS2).trans HS3
      have HX3 := hide ((unhide HX0).step HS3 (fun h => hTE h.symm))
      obtain ⟨hG3, hg3⟩ := (unhide HG0).1.step (unhide HG0).2 HS3 (fun h => hTG h.symm)
      have k4 := hG3.c6
      simp only at k4
      have f4 := hG3.free 6
      replace HS3 := hide HS3
      replace HO3 := hide HO3
      replace GD3 := hide GD3
      replace hG3 := hide hG3
      replace hg3 := hide hg3
      clear hown3 hc3 GP3 HO2 HS2 GD2 GD12
      go_wp2_with (at_builtin; go_must (refine wpList_append_lies _ rfl (.tmp 45) (.tmp 50) 49 rfl 0 99 i9 _ 1 24 Tryz.underlying49 hi9 hy0 hy1 hy2 rfl (by decide) (.slice ea N1 ec) N1 xs rfl ((unhide HX3).1.alloc _) ⟨w3.heap.size, 0, none⟩ 4 4 [.slice vo es.length vc, .slice (some ⟨g1, 0, none⟩) (es.length + 1) q1, .slice (some ⟨g2, 0, none⟩) (es.length + 2) q2, .slice (some ⟨g3, 0, none⟩) (es.length + 3) q3] rfl rfl (by exact cells_new _ _ _) (by intro u hu; simp at hu; rcases hu with rfl | rfl | rfl | rfl <;> rfl) (by decide) (by unfold maxLen; omega) (by omega) (Nat.zero_le _) (w3.heap.size + 1) (by simp) ?_))
      intro g4 q4 w4 hown4 hgrow4 hat4 hlt4
      obtain ⟨tg4, HO4, HS4⟩ := (unhide HX3).pushed hgrow4 hown4 hat4
      obtain ⟨hG4, hg4⟩ := (unhide hG3).step (unhide hg3) HS4 (by simp)
      have k4' := hG4.c6
      have f4' := hG4.free 6
      replace HO4 := hide HO4
      replace HS4 := hide HS4
      replace hG4 := hide hG4
      replace hg4 := hide hg4
      clear hown4 hgrow4 hat4 hlt4 k4 f4
      go_wp2
      go_end0
      exact ⟨rfl, mark_finT hTG hTE hT0 hes (unhide HN1) (unhide hM) (by simpa using (unhide HX).1.1) (unhide HW) (unhide HV) (unhide hs0) (unhide HS3) (unhide HS4) (unhide HO3) (unhide GD13) (unhide GD23) (unhide GD3) (unhide HO4) (unhide hG4) (unhide hg4)⟩

end Go.Proofs.YteiecbkfganhnaaGreat
