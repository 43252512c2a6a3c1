/- The program's node: an Ask is answered. -/
import Derived.Test.YteiecbkfganhnaaGreatKBmB

namespace Go.Proofs.YteiecbkfganhnaaGreat

open Go.RowKit Go.MuLone

theorem ints_one (w : World) (x : Int) : IntsIn (w.alloc (.cells #[.int .i64 x] 3)) (.slice (some ⟨w.heap.size, 0, none⟩) 1 1) [x] := by
  refine ⟨_, _, rfl, fun k t hk => ⟨w.heap.size, 0, rfl, ?_⟩⟩
  match k, hk with
  | 0, hk =>
    simp at hk
    subst hk
    exact cell_of_row _ _ 0 _ _ _ (heap_alloc_new w _)
  | k + 1, hk => simp at hk

theorem ints_at (w : World) (b : Nat) (hb : w.heap.size = b) (x : Int) : IntsIn (w.alloc (.cells #[.int .i64 x] 3)) (.slice (some ⟨b, 0, none⟩) 1 1) [x] := by subst hb; exact ints_one w x

theorem below_trans2 {a b c : World} (h : Below a.heap.size a b) (k : Below b.heap.size b c) : Below a.heap.size a c := below_trans h k

theorem isAsGood_at (mu : Int) (nb : Nat) (s : Nd) (lv : Value) (m : Msg) (ev : Value) (w : World) (h : NB mu w nb s lv) (hl : NL w s lv) (hs : s.last ≤ 60) (hev : ∃ ao n c, ev = .slice ao n c) (b : Bool) (hb : s.asGood m = b) :
    Calls Tryz.prog 109 #[.pointer (some ⟨nb, 0, none⟩), magg m ev] w fun e w' => e = .returned (.bool b) ∧ Below w.heap.size w w' := by
  rw [← hb]; exact isAsGood_any mu nb s lv m ev w h hl hs hev

theorem knowsLeader_at (mu : Int) (nb : Nat) (s : Nd) (lv : Value) (w : World) (h : NB mu w nb s lv) (b : Bool) (hb : s.knows = b) :
    Calls Tryz.prog 110 #[.pointer (some ⟨nb, 0, none⟩)] w fun e w' => e = .returned (.bool b) ∧ ∃ m, w' = w.drewN m := by
  rw [← hb]; exact knowsLeader_any mu nb s lv w h

set_option maxRecDepth 100000 in
set_option maxHeartbeats 1000000 in
theorem stepAsk_any (mu : Int) (nb : Nat) (s : Nd) (lv : Value) (m : Msg) (ev : Value) (w : World) (h : NB mu w nb s lv) (hl : NL w s lv) (hs : s.last ≤ 60) (t0 : 0 ≤ s.term) (hev : ∃ ao n c, ev = .slice ao n c) :
    Calls Tryz.prog 65 #[.pointer (some ⟨nb, 0, none⟩), magg m ev] w fun e w' => Sent mu nb lv w (s.stepAsk m) e w' := by
  obtain ⟨eo, en, ec, rfl⟩ := hev
  have hlt := h.lt
  have hne : ¬ nb = w.heap.size := by omega
  have hne1 : ¬ nb = w.heap.size + 1 := by omega
  have c4 := h.c4
  have HBW := hide (below2 w (.cells #[.int .i64 m.kind, .int .i64 m.src, .int .i64 m.dst, .int .i64 m.term, .int .i64 m.index, .int .i64 m.logTerm, .int .i64 m.commit, .slice eo en ec, .bool m.granted] 30) (.cells #[.int .i64 1, .int .i64 0, .int .i64 0, .int .i64 s.term, .int .i64 0, .int .i64 0, .int .i64 0, .slice none 0 0, .bool false] 30))
  have HWR := hide (heap_alloc_new (w.alloc (.cells #[.int .i64 m.kind, .int .i64 m.src, .int .i64 m.dst, .int .i64 m.term, .int .i64 m.index, .int .i64 m.logTerm, .int .i64 m.commit, .slice eo en ec, .bool m.granted] 30)) (.cells #[.int .i64 1, .int .i64 0, .int .i64 0, .int .i64 s.term, .int .i64 0, .int .i64 0, .int .i64 0, .slice none 0 0, .bool false] 30))
  rw [size_alloc1] at HWR
  have HWM := hide (heap_under (heap_alloc_new w (.cells #[.int .i64 m.kind, .int .i64 m.src, .int .i64 m.dst, .int .i64 m.term, .int .i64 m.index, .int .i64 m.logTerm, .int .i64 m.commit, .slice eo en ec, .bool m.granted] 30)) (.cells #[.int .i64 1, .int .i64 0, .int .i64 0, .int .i64 s.term, .int .i64 0, .int .i64 0, .int .i64 0, .slice none 0 0, .bool false] 30))
  have HNW := hide (h.below (unhide HBW))
  have HLW := hide (hl.below (unhide HBW))
  have HSW := hide (unhide HBW).size
  have HSW2 : Hid (w.heap.size + 1 < ((w.alloc (.cells #[.int .i64 m.kind, .int .i64 m.src, .int .i64 m.dst, .int .i64 m.term, .int .i64 m.index, .int .i64 m.logTerm, .int .i64 m.commit, .slice eo en ec, .bool m.granted] 30)).alloc (.cells #[.int .i64 1, .int .i64 0, .int .i64 0, .int .i64 s.term, .int .i64 0, .int .i64 0, .int .i64 0, .slice none 0 0, .bool false] 30)).heap.size) := by show _ < _; rw [size_alloc1, size_alloc1]; omega
  have HL := hide hl
  clear h hl
  by_cases h1 : s.term < m.term
  · have d1 : decide (s.term < m.term) = true := decide_eq_true h1
    cases hg : s.asGood m with
    | true =>
      cases hk : s.knows with
      | true =>
        have HR : Hid (s.stepAsk m = if s.term = 0 then (s, []) else (s, [s.reply 1 m.src s.term 0 false])) := by show _ = _; unfold Nd.stepAsk; rw [if_neg (by simp [hk])]
        have HG := hide hg
        have HK := hide hk
        clear hg hk
        go_enter Tryz.func65, Tryz.ntmps65
        go_wp2
        generalize (w.alloc (.cells #[.int .i64 m.kind, .int .i64 m.src, .int .i64 m.dst, .int .i64 m.term, .int .i64 m.index, .int .i64 m.logTerm, .int .i64 m.commit, .slice eo en ec, .bool m.granted] 30)).alloc (.cells #[.int .i64 1, .int .i64 0, .int .i64 0, .int .i64 s.term, .int .i64 0, .int .i64 0, .int .i64 0, .slice none 0 0, .bool false] 30) = W at *
        have x0 := BW.cell (W := W) (cell_of_row W w.heap.size 0 _ _ _ (unhide HWM) : W.cell? ⟨w.heap.size, 0, none⟩ = some (.int .i64 m.kind))
        have x1 := BW.cell (W := W) (cell_of_row W w.heap.size 1 _ _ _ (unhide HWM) : W.cell? ⟨w.heap.size, 1, none⟩ = some (.int .i64 m.src))
        have x2 := BW.cell (W := W) (cell_of_row W w.heap.size 2 _ _ _ (unhide HWM) : W.cell? ⟨w.heap.size, 2, none⟩ = some (.int .i64 m.dst))
        have x3 := BW.cell (W := W) (cell_of_row W w.heap.size 3 _ _ _ (unhide HWM) : W.cell? ⟨w.heap.size, 3, none⟩ = some (.int .i64 m.term))
        have x4 := BW.cell (W := W) (cell_of_row W w.heap.size 4 _ _ _ (unhide HWM) : W.cell? ⟨w.heap.size, 4, none⟩ = some (.int .i64 m.index))
        have x5 := BW.cell (W := W) (cell_of_row W w.heap.size 5 _ _ _ (unhide HWM) : W.cell? ⟨w.heap.size, 5, none⟩ = some (.int .i64 m.logTerm))
        have x6 := BW.cell (W := W) (cell_of_row W w.heap.size 6 _ _ _ (unhide HWM) : W.cell? ⟨w.heap.size, 6, none⟩ = some (.int .i64 m.commit))
        have x7 := BW.cell (W := W) (cell_of_row W w.heap.size 7 _ _ _ (unhide HWM) : W.cell? ⟨w.heap.size, 7, none⟩ = some (.slice eo en ec))
        have x8 := BW.cell (W := W) (cell_of_row W w.heap.size 8 _ _ _ (unhide HWM) : W.cell? ⟨w.heap.size, 8, none⟩ = some (.bool m.granted))
        have y0 := True.intro
        have y1 := True.intro
        have y2 := True.intro
        have y3 := True.intro
        have y4 := True.intro
        have y5 := True.intro
        have y6 := True.intro
        have y7 := True.intro
        have y8 := True.intro
        clear c4
        have c4 := BW.cell (unhide HNW).c4
        have HNE : Nonempty (BW W) := ⟨⟨W, Below.refl _ _⟩⟩
        refine wp_region_below (by kernel_rfl) (by kernel_rfl) ?_
        repeat (quiet_step ((first | (go_at_call 109; exact BW.calls (isAsGood_at mu nb s lv m _ _ (BW.nb (unhide HNW) _) (BW.nl (unhide HLW) _) hs ⟨_, _, _, rfl⟩ _ (unhide HG))) | (go_at_call 110; exact BW.calls_drew (knowsLeader_at mu nb s lv _ (BW.nb (unhide HNW) _) _ (unhide HK))))))
        refine wpQuiet_nil ?_
        intro _ hw'
        obtain ⟨x, hw''⟩ := hw'
        subst hw''
        have HNX := hide (BW.nb (unhide HNW) x)
        have HLX := hide (BW.nl (unhide HLW) x)
        have HBX := hide ((unhide HBW).trans (x.below.mono (unhide HSW)))
        have HMX := hide (BW.row (unhide HWM) x)
        have HRX := hide (BW.row (unhide HWR) x)
        have HSX := hide (Nat.lt_of_lt_of_le (unhide HSW2) x.below.size)
        clear HNE
        generalize x.wd = X at *
        clear x0 x1 x2 x3 x4 x5 x6 x7 x8 y0 y1 y2 y3 y4 y5 y6 y7 y8 c4
        have x1 : X.cell? ⟨w.heap.size, 1, none⟩ = some (.int .i64 m.src) := cell_of_row X w.heap.size 1 _ _ _ (unhide HMX)
        have x3 : X.cell? ⟨w.heap.size, 3, none⟩ = some (.int .i64 m.term) := cell_of_row X w.heap.size 3 _ _ _ (unhide HMX)
        have r0 : X.cell? ⟨(w.heap.size + 1), 0, none⟩ = some (.int .i64 1) := cell_of_row X (w.heap.size + 1) 0 _ _ _ (unhide HRX)
        have r1 : X.cell? ⟨(w.heap.size + 1), 1, none⟩ = some (.int .i64 0) := cell_of_row X (w.heap.size + 1) 1 _ _ _ (unhide HRX)
        have r2 : X.cell? ⟨(w.heap.size + 1), 2, none⟩ = some (.int .i64 0) := cell_of_row X (w.heap.size + 1) 2 _ _ _ (unhide HRX)
        have r3 : X.cell? ⟨(w.heap.size + 1), 3, none⟩ = some (.int .i64 s.term) := cell_of_row X (w.heap.size + 1) 3 _ _ _ (unhide HRX)
        have r4 : X.cell? ⟨(w.heap.size + 1), 4, none⟩ = some (.int .i64 0) := cell_of_row X (w.heap.size + 1) 4 _ _ _ (unhide HRX)
        have r5 : X.cell? ⟨(w.heap.size + 1), 5, none⟩ = some (.int .i64 0) := cell_of_row X (w.heap.size + 1) 5 _ _ _ (unhide HRX)
        have r6 : X.cell? ⟨(w.heap.size + 1), 6, none⟩ = some (.int .i64 0) := cell_of_row X (w.heap.size + 1) 6 _ _ _ (unhide HRX)
        have r7 : X.cell? ⟨(w.heap.size + 1), 7, none⟩ = some (.slice none 0 0) := cell_of_row X (w.heap.size + 1) 7 _ _ _ (unhide HRX)
        have r8 : X.cell? ⟨(w.heap.size + 1), 8, none⟩ = some (.bool false) := cell_of_row X (w.heap.size + 1) 8 _ _ _ (unhide HRX)
        by_cases hz : s.term = 0
        · have HZ := hide hz
          have hz2 : (s.term == 0) = true := by simpa using hz
          clear hz
          go_wp2
          go_ret
          rw [unhide HR, if_pos (unhide HZ)]
          exact Sent.quiet (Ew.ofBelow (unhide HBX)) (unhide HNX) (unhide HLX)
        · have HZ := hide hz
          have hz2 : (s.term == 0) = false := by simpa using hz
          clear hz
          go_wp2_with (go_at_call 111; refine (send_any mu nb s lv { kind := 1, src := 0, dst := 0, term := s.term, index := 0, logTerm := 0, commit := 0, ents := [], granted := false } [m.src] _ _ (NB.below (unhide HNX) (below_alloc _ _)) rfl (ints_one _ _) (by simp)).mono ?_; rintro e w6 ⟨v, rfl, hm6, hb6⟩; replace hm6 := hide hm6; replace hb6 := hide hb6)
          go_ret
          rw [unhide HR, if_neg (unhide HZ)]
          have hBA := below_alloc X (.cells #[.int .i64 m.src] 3)
          exact Sent.told (Ew.ofBelow (below_trans2 (unhide HBX) hBA)) ((unhide HNX).below hBA) ((unhide HLX).below hBA) (unhide hm6) (unhide hb6)
      | false =>
        have HR : Hid (s.stepAsk m = (s, [s.reply 1 m.src m.term 0 true])) := by show _ = _; unfold Nd.stepAsk; rw [if_pos ⟨h1, hg, hk⟩]
        have HG := hide hg
        have HK := hide hk
        clear hg hk
        go_enter Tryz.func65, Tryz.ntmps65
        go_wp2
        generalize (w.alloc (.cells #[.int .i64 m.kind, .int .i64 m.src, .int .i64 m.dst, .int .i64 m.term, .int .i64 m.index, .int .i64 m.logTerm, .int .i64 m.commit, .slice eo en ec, .bool m.granted] 30)).alloc (.cells #[.int .i64 1, .int .i64 0, .int .i64 0, .int .i64 s.term, .int .i64 0, .int .i64 0, .int .i64 0, .slice none 0 0, .bool false] 30) = W at *
        have x0 := BW.cell (W := W) (cell_of_row W w.heap.size 0 _ _ _ (unhide HWM) : W.cell? ⟨w.heap.size, 0, none⟩ = some (.int .i64 m.kind))
        have x1 := BW.cell (W := W) (cell_of_row W w.heap.size 1 _ _ _ (unhide HWM) : W.cell? ⟨w.heap.size, 1, none⟩ = some (.int .i64 m.src))
        have x2 := BW.cell (W := W) (cell_of_row W w.heap.size 2 _ _ _ (unhide HWM) : W.cell? ⟨w.heap.size, 2, none⟩ = some (.int .i64 m.dst))
        have x3 := BW.cell (W := W) (cell_of_row W w.heap.size 3 _ _ _ (unhide HWM) : W.cell? ⟨w.heap.size, 3, none⟩ = some (.int .i64 m.term))
        have x4 := BW.cell (W := W) (cell_of_row W w.heap.size 4 _ _ _ (unhide HWM) : W.cell? ⟨w.heap.size, 4, none⟩ = some (.int .i64 m.index))
        have x5 := BW.cell (W := W) (cell_of_row W w.heap.size 5 _ _ _ (unhide HWM) : W.cell? ⟨w.heap.size, 5, none⟩ = some (.int .i64 m.logTerm))
        have x6 := BW.cell (W := W) (cell_of_row W w.heap.size 6 _ _ _ (unhide HWM) : W.cell? ⟨w.heap.size, 6, none⟩ = some (.int .i64 m.commit))
        have x7 := BW.cell (W := W) (cell_of_row W w.heap.size 7 _ _ _ (unhide HWM) : W.cell? ⟨w.heap.size, 7, none⟩ = some (.slice eo en ec))
        have x8 := BW.cell (W := W) (cell_of_row W w.heap.size 8 _ _ _ (unhide HWM) : W.cell? ⟨w.heap.size, 8, none⟩ = some (.bool m.granted))
        have y0 := True.intro
        have y1 := True.intro
        have y2 := True.intro
        have y3 := True.intro
        have y4 := True.intro
        have y5 := True.intro
        have y6 := True.intro
        have y7 := True.intro
        have y8 := True.intro
        clear c4
        have c4 := BW.cell (unhide HNW).c4
        have HNE : Nonempty (BW W) := ⟨⟨W, Below.refl _ _⟩⟩
        refine wp_region_below (by kernel_rfl) (by kernel_rfl) ?_
        repeat (quiet_step ((first | (go_at_call 109; exact BW.calls (isAsGood_at mu nb s lv m _ _ (BW.nb (unhide HNW) _) (BW.nl (unhide HLW) _) hs ⟨_, _, _, rfl⟩ _ (unhide HG))) | (go_at_call 110; exact BW.calls_drew (knowsLeader_at mu nb s lv _ (BW.nb (unhide HNW) _) _ (unhide HK))))))
        refine wpQuiet_nil ?_
        intro _ hw'
        obtain ⟨x, hw''⟩ := hw'
        subst hw''
        have HNX := hide (BW.nb (unhide HNW) x)
        have HLX := hide (BW.nl (unhide HLW) x)
        have HBX := hide ((unhide HBW).trans (x.below.mono (unhide HSW)))
        have HMX := hide (BW.row (unhide HWM) x)
        have HRX := hide (BW.row (unhide HWR) x)
        have HSX := hide (Nat.lt_of_lt_of_le (unhide HSW2) x.below.size)
        clear HNE
        generalize x.wd = X at *
        clear x0 x1 x2 x3 x4 x5 x6 x7 x8 y0 y1 y2 y3 y4 y5 y6 y7 y8 c4
        have x1 : X.cell? ⟨w.heap.size, 1, none⟩ = some (.int .i64 m.src) := cell_of_row X w.heap.size 1 _ _ _ (unhide HMX)
        have x3 : X.cell? ⟨w.heap.size, 3, none⟩ = some (.int .i64 m.term) := cell_of_row X w.heap.size 3 _ _ _ (unhide HMX)
        have r0 : X.cell? ⟨(w.heap.size + 1), 0, none⟩ = some (.int .i64 1) := cell_of_row X (w.heap.size + 1) 0 _ _ _ (unhide HRX)
        have r1 : X.cell? ⟨(w.heap.size + 1), 1, none⟩ = some (.int .i64 0) := cell_of_row X (w.heap.size + 1) 1 _ _ _ (unhide HRX)
        have r2 : X.cell? ⟨(w.heap.size + 1), 2, none⟩ = some (.int .i64 0) := cell_of_row X (w.heap.size + 1) 2 _ _ _ (unhide HRX)
        have r3 : X.cell? ⟨(w.heap.size + 1), 3, none⟩ = some (.int .i64 s.term) := cell_of_row X (w.heap.size + 1) 3 _ _ _ (unhide HRX)
        have r4 : X.cell? ⟨(w.heap.size + 1), 4, none⟩ = some (.int .i64 0) := cell_of_row X (w.heap.size + 1) 4 _ _ _ (unhide HRX)
        have r5 : X.cell? ⟨(w.heap.size + 1), 5, none⟩ = some (.int .i64 0) := cell_of_row X (w.heap.size + 1) 5 _ _ _ (unhide HRX)
        have r6 : X.cell? ⟨(w.heap.size + 1), 6, none⟩ = some (.int .i64 0) := cell_of_row X (w.heap.size + 1) 6 _ _ _ (unhide HRX)
        have r7 : X.cell? ⟨(w.heap.size + 1), 7, none⟩ = some (.slice none 0 0) := cell_of_row X (w.heap.size + 1) 7 _ _ _ (unhide HRX)
        have r8 : X.cell? ⟨(w.heap.size + 1), 8, none⟩ = some (.bool false) := cell_of_row X (w.heap.size + 1) 8 _ _ _ (unhide HRX)
        have q3 := frozen_of_row X (w.heap.size + 1) 3 _ _ (unhide HRX)
        have q8 := frozen_of_row X (w.heap.size + 1) 8 _ _ (unhide HRX)
        have hz2 : (m.term == 0) = false := by simp; omega
        have HN2 : Hid (NB mu ((X.setCell ⟨w.heap.size + 1, 3, none⟩ (.int .i64 m.term)).setCell ⟨w.heap.size + 1, 8, none⟩ (.bool true)) nb s lv) := by
          show NB _ _ _ _ _
          refine NB.block (unhide HNX) ?_
          rw [Below.heap_setCell _ _ _ _ hne1, Below.heap_setCell _ _ _ _ hne1]
        have HB2 : Hid (Below w.heap.size w ((X.setCell ⟨w.heap.size + 1, 3, none⟩ (.int .i64 m.term)).setCell ⟨w.heap.size + 1, 8, none⟩ (.bool true))) := ((unhide HBX).setCell (p := ⟨w.heap.size + 1, 3, none⟩) (Nat.le_succ _) _).setCell (p := ⟨w.heap.size + 1, 8, none⟩) (Nat.le_succ _) _
        have HL2 : Hid (NL ((X.setCell ⟨w.heap.size + 1, 3, none⟩ (.int .i64 m.term)).setCell ⟨w.heap.size + 1, 8, none⟩ (.bool true)) s lv) := NL.below (unhide HL) (unhide HB2)
        go_wp2_with (go_at_call 111; refine (send_any mu nb s lv { kind := 1, src := 0, dst := 0, term := m.term, index := 0, logTerm := 0, commit := 0, ents := [], granted := true } [m.src] _ _ (NB.below (unhide HN2) (below_alloc _ _)) rfl (ints_at _ X.heap.size (by simp [World.setCell]) _) (by simp)).mono ?_; rintro e w6 ⟨v, rfl, hm6, hb6⟩; replace hm6 := hide hm6; replace hb6 := hide hb6)
        go_ret
        rw [unhide HR]
        have hBA := below_alloc ((X.setCell ⟨w.heap.size + 1, 3, none⟩ (.int .i64 m.term)).setCell ⟨w.heap.size + 1, 8, none⟩ (.bool true)) (.cells #[.int .i64 m.src] 3)
        exact Sent.told (Ew.ofBelow (below_trans2 (unhide HB2) hBA)) ((unhide HN2).below hBA) ((unhide HL2).below hBA) (unhide hm6) (unhide hb6)
    | false =>
      have HR : Hid (s.stepAsk m = if s.term = 0 then (s, []) else (s, [s.reply 1 m.src s.term 0 false])) := by show _ = _; unfold Nd.stepAsk; rw [if_neg (by simp [hg])]
      obtain ⟨bk, hk⟩ : ∃ bk, s.knows = bk := ⟨_, rfl⟩
      have HG := hide hg
      have HK := hide hk
      clear hg hk
      go_enter Tryz.func65, Tryz.ntmps65
      go_wp2
      generalize (w.alloc (.cells #[.int .i64 m.kind, .int .i64 m.src, .int .i64 m.dst, .int .i64 m.term, .int .i64 m.index, .int .i64 m.logTerm, .int .i64 m.commit, .slice eo en ec, .bool m.granted] 30)).alloc (.cells #[.int .i64 1, .int .i64 0, .int .i64 0, .int .i64 s.term, .int .i64 0, .int .i64 0, .int .i64 0, .slice none 0 0, .bool false] 30) = W at *
      have x0 := BW.cell (W := W) (cell_of_row W w.heap.size 0 _ _ _ (unhide HWM) : W.cell? ⟨w.heap.size, 0, none⟩ = some (.int .i64 m.kind))
      have x1 := BW.cell (W := W) (cell_of_row W w.heap.size 1 _ _ _ (unhide HWM) : W.cell? ⟨w.heap.size, 1, none⟩ = some (.int .i64 m.src))
      have x2 := BW.cell (W := W) (cell_of_row W w.heap.size 2 _ _ _ (unhide HWM) : W.cell? ⟨w.heap.size, 2, none⟩ = some (.int .i64 m.dst))
      have x3 := BW.cell (W := W) (cell_of_row W w.heap.size 3 _ _ _ (unhide HWM) : W.cell? ⟨w.heap.size, 3, none⟩ = some (.int .i64 m.term))
      have x4 := BW.cell (W := W) (cell_of_row W w.heap.size 4 _ _ _ (unhide HWM) : W.cell? ⟨w.heap.size, 4, none⟩ = some (.int .i64 m.index))
      have x5 := BW.cell (W := W) (cell_of_row W w.heap.size 5 _ _ _ (unhide HWM) : W.cell? ⟨w.heap.size, 5, none⟩ = some (.int .i64 m.logTerm))
      have x6 := BW.cell (W := W) (cell_of_row W w.heap.size 6 _ _ _ (unhide HWM) : W.cell? ⟨w.heap.size, 6, none⟩ = some (.int .i64 m.commit))
      have x7 := BW.cell (W := W) (cell_of_row W w.heap.size 7 _ _ _ (unhide HWM) : W.cell? ⟨w.heap.size, 7, none⟩ = some (.slice eo en ec))
      have x8 := BW.cell (W := W) (cell_of_row W w.heap.size 8 _ _ _ (unhide HWM) : W.cell? ⟨w.heap.size, 8, none⟩ = some (.bool m.granted))
      have y0 := True.intro
      have y1 := True.intro
      have y2 := True.intro
      have y3 := True.intro
      have y4 := True.intro
      have y5 := True.intro
      have y6 := True.intro
      have y7 := True.intro
      have y8 := True.intro
      clear c4
      have c4 := BW.cell (unhide HNW).c4
      have HNE : Nonempty (BW W) := ⟨⟨W, Below.refl _ _⟩⟩
      refine wp_region_below (by kernel_rfl) (by kernel_rfl) ?_
      repeat (quiet_step ((first | (go_at_call 109; exact BW.calls (isAsGood_at mu nb s lv m _ _ (BW.nb (unhide HNW) _) (BW.nl (unhide HLW) _) hs ⟨_, _, _, rfl⟩ _ (unhide HG))) | (go_at_call 110; exact BW.calls_drew (knowsLeader_at mu nb s lv _ (BW.nb (unhide HNW) _) _ (unhide HK))))))
      refine wpQuiet_nil ?_
      intro _ hw'
      obtain ⟨x, hw''⟩ := hw'
      subst hw''
      have HNX := hide (BW.nb (unhide HNW) x)
      have HLX := hide (BW.nl (unhide HLW) x)
      have HBX := hide ((unhide HBW).trans (x.below.mono (unhide HSW)))
      have HMX := hide (BW.row (unhide HWM) x)
      have HRX := hide (BW.row (unhide HWR) x)
      have HSX := hide (Nat.lt_of_lt_of_le (unhide HSW2) x.below.size)
      clear HNE
      generalize x.wd = X at *
      clear x0 x1 x2 x3 x4 x5 x6 x7 x8 y0 y1 y2 y3 y4 y5 y6 y7 y8 c4
      have x1 : X.cell? ⟨w.heap.size, 1, none⟩ = some (.int .i64 m.src) := cell_of_row X w.heap.size 1 _ _ _ (unhide HMX)
      have x3 : X.cell? ⟨w.heap.size, 3, none⟩ = some (.int .i64 m.term) := cell_of_row X w.heap.size 3 _ _ _ (unhide HMX)
      have r0 : X.cell? ⟨(w.heap.size + 1), 0, none⟩ = some (.int .i64 1) := cell_of_row X (w.heap.size + 1) 0 _ _ _ (unhide HRX)
      have r1 : X.cell? ⟨(w.heap.size + 1), 1, none⟩ = some (.int .i64 0) := cell_of_row X (w.heap.size + 1) 1 _ _ _ (unhide HRX)
      have r2 : X.cell? ⟨(w.heap.size + 1), 2, none⟩ = some (.int .i64 0) := cell_of_row X (w.heap.size + 1) 2 _ _ _ (unhide HRX)
      have r3 : X.cell? ⟨(w.heap.size + 1), 3, none⟩ = some (.int .i64 s.term) := cell_of_row X (w.heap.size + 1) 3 _ _ _ (unhide HRX)
      have r4 : X.cell? ⟨(w.heap.size + 1), 4, none⟩ = some (.int .i64 0) := cell_of_row X (w.heap.size + 1) 4 _ _ _ (unhide HRX)
      have r5 : X.cell? ⟨(w.heap.size + 1), 5, none⟩ = some (.int .i64 0) := cell_of_row X (w.heap.size + 1) 5 _ _ _ (unhide HRX)
      have r6 : X.cell? ⟨(w.heap.size + 1), 6, none⟩ = some (.int .i64 0) := cell_of_row X (w.heap.size + 1) 6 _ _ _ (unhide HRX)
      have r7 : X.cell? ⟨(w.heap.size + 1), 7, none⟩ = some (.slice none 0 0) := cell_of_row X (w.heap.size + 1) 7 _ _ _ (unhide HRX)
      have r8 : X.cell? ⟨(w.heap.size + 1), 8, none⟩ = some (.bool false) := cell_of_row X (w.heap.size + 1) 8 _ _ _ (unhide HRX)
      by_cases hz : s.term = 0
      · have HZ := hide hz
        have hz2 : (s.term == 0) = true := by simpa using hz
        clear hz
        go_wp2
        go_ret
        rw [unhide HR, if_pos (unhide HZ)]
        exact Sent.quiet (Ew.ofBelow (unhide HBX)) (unhide HNX) (unhide HLX)
      · have HZ := hide hz
        have hz2 : (s.term == 0) = false := by simpa using hz
        clear hz
        go_wp2_with (go_at_call 111; refine (send_any mu nb s lv { kind := 1, src := 0, dst := 0, term := s.term, index := 0, logTerm := 0, commit := 0, ents := [], granted := false } [m.src] _ _ (NB.below (unhide HNX) (below_alloc _ _)) rfl (ints_one _ _) (by simp)).mono ?_; rintro e w6 ⟨v, rfl, hm6, hb6⟩; replace hm6 := hide hm6; replace hb6 := hide hb6)
        go_ret
        rw [unhide HR, if_neg (unhide HZ)]
        have hBA := below_alloc X (.cells #[.int .i64 m.src] 3)
        exact Sent.told (Ew.ofBelow (below_trans2 (unhide HBX) hBA)) ((unhide HNX).below hBA) ((unhide HLX).below hBA) (unhide hm6) (unhide hb6)
  · have d1 : decide (s.term < m.term) = false := decide_eq_false h1
    have HR : Hid (s.stepAsk m = if s.term = 0 then (s, []) else (s, [s.reply 1 m.src s.term 0 false])) := by show _ = _; unfold Nd.stepAsk; rw [if_neg (fun hx => h1 hx.1)]
    obtain ⟨bk, hk⟩ : ∃ bk, s.knows = bk := ⟨_, rfl⟩
    obtain ⟨bg, hg⟩ : ∃ bg, s.asGood m = bg := ⟨_, rfl⟩
    have HG := hide hg
    have HK := hide hk
    clear hg hk
    go_enter Tryz.func65, Tryz.ntmps65
    go_wp2
    generalize (w.alloc (.cells #[.int .i64 m.kind, .int .i64 m.src, .int .i64 m.dst, .int .i64 m.term, .int .i64 m.index, .int .i64 m.logTerm, .int .i64 m.commit, .slice eo en ec, .bool m.granted] 30)).alloc (.cells #[.int .i64 1, .int .i64 0, .int .i64 0, .int .i64 s.term, .int .i64 0, .int .i64 0, .int .i64 0, .slice none 0 0, .bool false] 30) = W at *
    have x0 := BW.cell (W := W) (cell_of_row W w.heap.size 0 _ _ _ (unhide HWM) : W.cell? ⟨w.heap.size, 0, none⟩ = some (.int .i64 m.kind))
    have x1 := BW.cell (W := W) (cell_of_row W w.heap.size 1 _ _ _ (unhide HWM) : W.cell? ⟨w.heap.size, 1, none⟩ = some (.int .i64 m.src))
    have x2 := BW.cell (W := W) (cell_of_row W w.heap.size 2 _ _ _ (unhide HWM) : W.cell? ⟨w.heap.size, 2, none⟩ = some (.int .i64 m.dst))
    have x3 := BW.cell (W := W) (cell_of_row W w.heap.size 3 _ _ _ (unhide HWM) : W.cell? ⟨w.heap.size, 3, none⟩ = some (.int .i64 m.term))
    have x4 := BW.cell (W := W) (cell_of_row W w.heap.size 4 _ _ _ (unhide HWM) : W.cell? ⟨w.heap.size, 4, none⟩ = some (.int .i64 m.index))
    have x5 := BW.cell (W := W) (cell_of_row W w.heap.size 5 _ _ _ (unhide HWM) : W.cell? ⟨w.heap.size, 5, none⟩ = some (.int .i64 m.logTerm))
    have x6 := BW.cell (W := W) (cell_of_row W w.heap.size 6 _ _ _ (unhide HWM) : W.cell? ⟨w.heap.size, 6, none⟩ = some (.int .i64 m.commit))
    have x7 := BW.cell (W := W) (cell_of_row W w.heap.size 7 _ _ _ (unhide HWM) : W.cell? ⟨w.heap.size, 7, none⟩ = some (.slice eo en ec))
    have x8 := BW.cell (W := W) (cell_of_row W w.heap.size 8 _ _ _ (unhide HWM) : W.cell? ⟨w.heap.size, 8, none⟩ = some (.bool m.granted))
    have y0 := True.intro
    have y1 := True.intro
    have y2 := True.intro
    have y3 := True.intro
    have y4 := True.intro
    have y5 := True.intro
    have y6 := True.intro
    have y7 := True.intro
    have y8 := True.intro
    clear c4
    have c4 := BW.cell (unhide HNW).c4
    have HNE : Nonempty (BW W) := ⟨⟨W, Below.refl _ _⟩⟩
    refine wp_region_below (by kernel_rfl) (by kernel_rfl) ?_
    repeat (quiet_step ((first | (go_at_call 109; exact BW.calls (isAsGood_at mu nb s lv m _ _ (BW.nb (unhide HNW) _) (BW.nl (unhide HLW) _) hs ⟨_, _, _, rfl⟩ _ (unhide HG))) | (go_at_call 110; exact BW.calls_drew (knowsLeader_at mu nb s lv _ (BW.nb (unhide HNW) _) _ (unhide HK))))))
    refine wpQuiet_nil ?_
    intro _ hw'
    obtain ⟨x, hw''⟩ := hw'
    subst hw''
    have HNX := hide (BW.nb (unhide HNW) x)
    have HLX := hide (BW.nl (unhide HLW) x)
    have HBX := hide ((unhide HBW).trans (x.below.mono (unhide HSW)))
    have HMX := hide (BW.row (unhide HWM) x)
    have HRX := hide (BW.row (unhide HWR) x)
    have HSX := hide (Nat.lt_of_lt_of_le (unhide HSW2) x.below.size)
    clear HNE
    generalize x.wd = X at *
    clear x0 x1 x2 x3 x4 x5 x6 x7 x8 y0 y1 y2 y3 y4 y5 y6 y7 y8 c4
    have x1 : X.cell? ⟨w.heap.size, 1, none⟩ = some (.int .i64 m.src) := cell_of_row X w.heap.size 1 _ _ _ (unhide HMX)
    have x3 : X.cell? ⟨w.heap.size, 3, none⟩ = some (.int .i64 m.term) := cell_of_row X w.heap.size 3 _ _ _ (unhide HMX)
    have r0 : X.cell? ⟨(w.heap.size + 1), 0, none⟩ = some (.int .i64 1) := cell_of_row X (w.heap.size + 1) 0 _ _ _ (unhide HRX)
    have r1 : X.cell? ⟨(w.heap.size + 1), 1, none⟩ = some (.int .i64 0) := cell_of_row X (w.heap.size + 1) 1 _ _ _ (unhide HRX)
    have r2 : X.cell? ⟨(w.heap.size + 1), 2, none⟩ = some (.int .i64 0) := cell_of_row X (w.heap.size + 1) 2 _ _ _ (unhide HRX)
    have r3 : X.cell? ⟨(w.heap.size + 1), 3, none⟩ = some (.int .i64 s.term) := cell_of_row X (w.heap.size + 1) 3 _ _ _ (unhide HRX)
    have r4 : X.cell? ⟨(w.heap.size + 1), 4, none⟩ = some (.int .i64 0) := cell_of_row X (w.heap.size + 1) 4 _ _ _ (unhide HRX)
    have r5 : X.cell? ⟨(w.heap.size + 1), 5, none⟩ = some (.int .i64 0) := cell_of_row X (w.heap.size + 1) 5 _ _ _ (unhide HRX)
    have r6 : X.cell? ⟨(w.heap.size + 1), 6, none⟩ = some (.int .i64 0) := cell_of_row X (w.heap.size + 1) 6 _ _ _ (unhide HRX)
    have r7 : X.cell? ⟨(w.heap.size + 1), 7, none⟩ = some (.slice none 0 0) := cell_of_row X (w.heap.size + 1) 7 _ _ _ (unhide HRX)
    have r8 : X.cell? ⟨(w.heap.size + 1), 8, none⟩ = some (.bool false) := cell_of_row X (w.heap.size + 1) 8 _ _ _ (unhide HRX)
    by_cases hz : s.term = 0
    · have HZ := hide hz
      have hz2 : (s.term == 0) = true := by simpa using hz
      clear hz
      go_wp2
      go_ret
      rw [unhide HR, if_pos (unhide HZ)]
      exact Sent.quiet (Ew.ofBelow (unhide HBX)) (unhide HNX) (unhide HLX)
    · have HZ := hide hz
      have hz2 : (s.term == 0) = false := by simpa using hz
      clear hz
      go_wp2_with (go_at_call 111; refine (send_any mu nb s lv { kind := 1, src := 0, dst := 0, term := s.term, index := 0, logTerm := 0, commit := 0, ents := [], granted := false } [m.src] _ _ (NB.below (unhide HNX) (below_alloc _ _)) rfl (ints_one _ _) (by simp)).mono ?_; rintro e w6 ⟨v, rfl, hm6, hb6⟩; replace hm6 := hide hm6; replace hb6 := hide hb6)
      go_ret
      rw [unhide HR, if_neg (unhide HZ)]
      have hBA := below_alloc X (.cells #[.int .i64 m.src] 3)
      exact Sent.told (Ew.ofBelow (below_trans2 (unhide HBX) hBA)) ((unhide HNX).below hBA) ((unhide HLX).below hBA) (unhide hm6) (unhide hb6)

end Go.Proofs.YteiecbkfganhnaaGreat
