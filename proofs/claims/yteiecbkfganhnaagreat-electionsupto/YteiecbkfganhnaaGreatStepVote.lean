/- The program's node: a Vote. -/
import Derived.Test.YteiecbkfganhnaaGreatKVoteRep

namespace Go.Proofs.YteiecbkfganhnaaGreat

open Go.RowKit Go.MuLone

theorem send_one (mu : Int) (nb : Nat) (s : Nd) (lv : Value) (m : Msg) (x : Int) (Z : World) (h : NB mu Z nb s lv) (hm : m.ents = []) :
    Calls Tryz.prog 111 #[.pointer (some ⟨nb, 0, none⟩), magg m (.slice none 0 0), .slice (some ⟨Z.heap.size, 0, none⟩) 1 1] (Z.alloc (.cells #[.int .i64 x] 3)).drew fun e w' => ∃ v, e = .returned v ∧ MsgsOut w' Z.heap.size v [{ m with src := (s.id : Int), dst := x }] (toAll m s.id [x]) ∧ Below Z.heap.size Z w' := by
  have hBA := below_alloc Z (.cells #[.int .i64 x] 3)
  refine (send_any mu nb s lv m [x] _ _ (show NB mu (Z.alloc (.cells #[.int .i64 x] 3)).drew nb s lv from (h.below hBA).drew) hm (show IntsIn (Z.alloc (.cells #[.int .i64 x] 3)).drew _ _ from ints_one Z x) (by simp)).mono ?_
  rintro e w' ⟨v, he, hM, hb⟩
  exact ⟨v, he, hM.base hBA.size, hBA.trans ((Below.undrew hb).mono hBA.size)⟩

theorem mayVoteFor_at (mu : Int) (nb : Nat) (s : Nd) (lv : Value) (i : Int) (w : World) (h : NB mu w nb s lv) (b : Bool) (hb : (decide (s.role = 0) && (decide (s.vote = -1) || decide (s.vote = i))) = b) :
    Calls Tryz.prog 112 #[.pointer (some ⟨nb, 0, none⟩), .int .i64 i] w fun e w' => e = .returned (.bool b) ∧ w' = w := by
  rw [← hb]; exact mayVoteFor_any mu nb s lv i w h

set_option maxRecDepth 100000 in
set_option maxHeartbeats 1000000 in
theorem stepVoteL_any (mu : Int) (nb : Nat) (s : Nd) (lv : Value) (m : Msg) (ev : Value) (w : World) (h : NB mu w nb s lv) (hl : NL w s lv) (hok : Ok s) (h1 : ¬ s.term < m.term) (hev : ∃ ao n c, ev = .slice ao n c) :
    Calls Tryz.prog 67 #[.pointer (some ⟨nb, 0, none⟩), magg m ev] w fun e w' => Sent mu nb lv w (s.stepVote m) e w' := by
  obtain ⟨eo, en, ec, rfl⟩ := hev
  have hlt := h.lt
  have hne : ¬ nb = w.heap.size := by omega
  have hne2 : w.heap.size ≠ nb := fun h => hne h.symm
  have c4 := h.c4
  have c7 := h.c7
  have HBW := hide (below_alloc w (.cells #[.int .i64 m.kind, .int .i64 m.src, .int .i64 m.dst, .int .i64 m.term, .int .i64 m.index, .int .i64 m.logTerm, .int .i64 m.commit, .slice eo en ec, .bool m.granted] 30))
  have HWM := hide (heap_alloc_new w (.cells #[.int .i64 m.kind, .int .i64 m.src, .int .i64 m.dst, .int .i64 m.term, .int .i64 m.index, .int .i64 m.logTerm, .int .i64 m.commit, .slice eo en ec, .bool m.granted] 30))
  have HNW := hide (h.below (unhide HBW))
  have HLW := hide (hl.below (unhide HBW))
  have HSW : Hid (w.heap.size < (w.alloc (.cells #[.int .i64 m.kind, .int .i64 m.src, .int .i64 m.dst, .int .i64 m.term, .int .i64 m.index, .int .i64 m.logTerm, .int .i64 m.commit, .slice eo en ec, .bool m.granted] 30)).heap.size) := by show _ < _; rw [size_alloc1]; omega
  have H := hide h
  have hsl : s.last ≤ 60 := hok.len
  have HL := hide hl
  have HOK := hide hok
  have t0 := hok.t0
  have t1 := hok.t1
  clear h hl hok
  have d1 : decide (s.term < m.term) = false := decide_eq_false h1
  have HS : Hid (s.voteS m = s) := if_neg h1
  have HR0 : Hid (s.stepVote m = (if s.votes m = true then { s with vote := m.src, elapsed := 0 } else s, [s.reply 3 m.src s.term 0 (s.votes m)])) := by
    show _ = _
    unfold Nd.stepVote
    rw [if_neg (fun hx => h1 hx.1), unhide HS]
  by_cases e1 : m.term = s.term
  · cases hv : (decide (s.role = 0) && (decide (s.vote = -1) || decide (s.vote = m.src))) with
    | true =>
      cases hg : s.asGood m with
      | true =>
        have HVT : Hid (s.votes m = true) := by show _ = _; unfold Nd.votes; rw [hv, hg, decide_eq_true e1]; rfl
        have b1 : (m.term == s.term) = true := by simpa using e1
        have HV := hide hv
        have HG := hide hg
        clear e1 hv hg
        go_enter Tryz.func67, Tryz.ntmps67
        go_wp2
        generalize w.alloc (.cells #[.int .i64 m.kind, .int .i64 m.src, .int .i64 m.dst, .int .i64 m.term, .int .i64 m.index, .int .i64 m.logTerm, .int .i64 m.commit, .slice eo en ec, .bool m.granted] 30) = W at *
        clear c4 c7
        have x3 : W.cell? ⟨w.heap.size, 3, none⟩ = some (.int .i64 m.term) := cell_of_row W w.heap.size 3 _ _ _ (unhide HWM)
        have c4 := (unhide HNW).c4
        go_quiet (fail)
        have HNX : Hid (NB mu (W.drewN nq) nb s lv) := NB.drewN (unhide HNW) _
        have HLX : Hid (NL (W.drewN nq) s lv) := NL.drewN (unhide HLW) _
        have HEX : Hid (Ew nb w (W.drewN nq)) := (Ew.ofBelow (unhide HBW)).drewN _
        have HMX : Hid ((W.drewN nq).heap[w.heap.size]? = some (.cells #[.int .i64 m.kind, .int .i64 m.src, .int .i64 m.dst, .int .i64 m.term, .int .i64 m.index, .int .i64 m.logTerm, .int .i64 m.commit, .slice eo en ec, .bool m.granted] 30 (0, 0))) := unhide HWM
        clear x3 c4
        generalize W.drewN nq = X at *
        have HNE : Nonempty (BW X) := ⟨⟨X, Below.refl _ _⟩⟩
        have c4 := BW.cell (unhide HNX).c4
        have x0 := BW.cell (W := X) (cell_of_row X w.heap.size 0 _ _ _ (unhide HMX) : X.cell? ⟨w.heap.size, 0, none⟩ = some (.int .i64 m.kind))
        have x1 := BW.cell (W := X) (cell_of_row X w.heap.size 1 _ _ _ (unhide HMX) : X.cell? ⟨w.heap.size, 1, none⟩ = some (.int .i64 m.src))
        have x2 := BW.cell (W := X) (cell_of_row X w.heap.size 2 _ _ _ (unhide HMX) : X.cell? ⟨w.heap.size, 2, none⟩ = some (.int .i64 m.dst))
        have x3 := BW.cell (W := X) (cell_of_row X w.heap.size 3 _ _ _ (unhide HMX) : X.cell? ⟨w.heap.size, 3, none⟩ = some (.int .i64 m.term))
        have x4 := BW.cell (W := X) (cell_of_row X w.heap.size 4 _ _ _ (unhide HMX) : X.cell? ⟨w.heap.size, 4, none⟩ = some (.int .i64 m.index))
        have x5 := BW.cell (W := X) (cell_of_row X w.heap.size 5 _ _ _ (unhide HMX) : X.cell? ⟨w.heap.size, 5, none⟩ = some (.int .i64 m.logTerm))
        have x6 := BW.cell (W := X) (cell_of_row X w.heap.size 6 _ _ _ (unhide HMX) : X.cell? ⟨w.heap.size, 6, none⟩ = some (.int .i64 m.commit))
        have x7 := BW.cell (W := X) (cell_of_row X w.heap.size 7 _ _ _ (unhide HMX) : X.cell? ⟨w.heap.size, 7, none⟩ = some (.slice eo en ec))
        have x8 := BW.cell (W := X) (cell_of_row X w.heap.size 8 _ _ _ (unhide HMX) : X.cell? ⟨w.heap.size, 8, none⟩ = some (.bool m.granted))
        go_wp2
        refine wp_region_below (by kernel_rfl) (by kernel_rfl) ?_
        repeat (quiet_step ((first | (go_at_call 112; exact BW.calls_same (mayVoteFor_at mu nb s lv m.src _ (BW.nb (unhide HNX) _) _ (unhide HV))) | (go_at_call 109; exact BW.calls (isAsGood_at mu nb s lv m _ _ (BW.nb (unhide HNX) _) (BW.nl (unhide HLX) _) hsl ⟨_, _, _, rfl⟩ _ (unhide HG))))))
        refine wpQuiet_nil ?_
        intro _ hw'
        obtain ⟨x, hw''⟩ := hw'
        subst hw''
        have HNY := hide (BW.nb (unhide HNX) x)
        have HLY := hide (BW.nl (unhide HLX) x)
        have HEY := hide ((unhide HEX).below x.below)
        have HMY := hide (BW.row (unhide HMX) x)
        clear HNE
        generalize x.wd = Y at *
        clear x0 x1 x2 x3 x4 x5 x6 x7 x8 c4
        have c4 := (unhide HNY).c4
        have x1 : Y.cell? ⟨w.heap.size, 1, none⟩ = some (.int .i64 m.src) := cell_of_row Y w.heap.size 1 _ _ _ (unhide HMY)
        have c5 := (unhide HNY).c5
        have c10 := (unhide HNY).c10
        have f5 := (unhide HNY).free 5
        have f10 := (unhide HNY).free 10
        have hltY := (unhide HNY).lt
        go_wp2
        have HNZ : Hid (NB mu ((Y.setCell ⟨nb, 5, none⟩ (.int .i64 m.src)).setCell ⟨nb, 10, none⟩ (.int .i64 0)) nb ({ s with vote := m.src, elapsed := 0 } : Nd) lv) := ((unhide HNY).setVote m.src).setElapsed 0
        have HEW : Hid (Ew nb Y ((Y.setCell ⟨nb, 5, none⟩ (.int .i64 m.src)).setCell ⟨nb, 10, none⟩ (.int .i64 0))) := ((Ew.refl nb Y).set 5 _).set 10 _
        have HLZ : Hid (NL ((Y.setCell ⟨nb, 5, none⟩ (.int .i64 m.src)).setCell ⟨nb, 10, none⟩ (.int .i64 0)) ({ s with vote := m.src, elapsed := 0 } : Nd) lv) := (unhide HLY).ew (unhide HNY) (unhide HEW)
        have HEZ := hide ((unhide HEY).trans (unhide HEW))
        have HMZ : Hid (((Y.setCell ⟨nb, 5, none⟩ (.int .i64 m.src)).setCell ⟨nb, 10, none⟩ (.int .i64 0)).heap[w.heap.size]? = some (.cells #[.int .i64 m.kind, .int .i64 m.src, .int .i64 m.dst, .int .i64 m.term, .int .i64 m.index, .int .i64 m.logTerm, .int .i64 m.commit, .slice eo en ec, .bool m.granted] 30 (0, 0))) := ((unhide HEW).block w.heap.size (Array.getElem?_eq_some_iff.1 (unhide HMY)).1 hne2).trans (unhide HMY)
        clear HNY HLY HEY HMY c4 x1 c5 c10 f5 f10 HEW hltY
        generalize ((Y.setCell ⟨nb, 5, none⟩ (.int .i64 m.src)).setCell ⟨nb, 10, none⟩ (.int .i64 0)) = Z at *
        have hltZ := (unhide HNZ).lt
        have hneZ : ¬ nb = Z.heap.size := by omega
        have hmbZ : ¬ w.heap.size = Z.heap.size := by have h1 := (Array.getElem?_eq_some_iff.1 (unhide HMZ)).1; omega
        have z4 := (unhide HNZ).c4
        have zm1 : Z.cell? ⟨w.heap.size, 1, none⟩ = some (.int .i64 m.src) := cell_of_row Z w.heap.size 1 _ _ _ (unhide HMZ)
        go_region_law (first | (go_simp; go_at_call 111; refine (send_one mu nb ({ s with vote := m.src, elapsed := 0 } : Nd) lv { kind := 3, src := 0, dst := 0, term := s.term, index := 0, logTerm := 0, commit := 0, ents := [], granted := true } m.src Z (unhide HNZ) rfl).mono ?_; rintro e w6 ⟨v, rfl, hm6, hb6⟩; replace hm6 := hide hm6; replace hb6 := hide hb6))
        all_goals go_wp2
        all_goals go_ret
        all_goals
          rw [unhide HR0, unhide HVT, if_pos rfl]
          exact Sent.told (unhide HEZ) (unhide HNZ) (unhide HLZ) (unhide hm6) (unhide hb6)
      | false =>
        have HVT : Hid (s.votes m = false) := by show _ = _; unfold Nd.votes; rw [hv, hg, decide_eq_true e1]; rfl
        have b1 : (m.term == s.term) = true := by simpa using e1
        have HV := hide hv
        have HG := hide hg
        clear e1 hv hg
        go_enter Tryz.func67, Tryz.ntmps67
        go_wp2
        generalize w.alloc (.cells #[.int .i64 m.kind, .int .i64 m.src, .int .i64 m.dst, .int .i64 m.term, .int .i64 m.index, .int .i64 m.logTerm, .int .i64 m.commit, .slice eo en ec, .bool m.granted] 30) = W at *
        clear c4 c7
        have x3 : W.cell? ⟨w.heap.size, 3, none⟩ = some (.int .i64 m.term) := cell_of_row W w.heap.size 3 _ _ _ (unhide HWM)
        have c4 := (unhide HNW).c4
        go_quiet (fail)
        have HNX : Hid (NB mu (W.drewN nq) nb s lv) := NB.drewN (unhide HNW) _
        have HLX : Hid (NL (W.drewN nq) s lv) := NL.drewN (unhide HLW) _
        have HEX : Hid (Ew nb w (W.drewN nq)) := (Ew.ofBelow (unhide HBW)).drewN _
        have HMX : Hid ((W.drewN nq).heap[w.heap.size]? = some (.cells #[.int .i64 m.kind, .int .i64 m.src, .int .i64 m.dst, .int .i64 m.term, .int .i64 m.index, .int .i64 m.logTerm, .int .i64 m.commit, .slice eo en ec, .bool m.granted] 30 (0, 0))) := unhide HWM
        clear x3 c4
        generalize W.drewN nq = X at *
        have HNE : Nonempty (BW X) := ⟨⟨X, Below.refl _ _⟩⟩
        have c4 := BW.cell (unhide HNX).c4
        have x0 := BW.cell (W := X) (cell_of_row X w.heap.size 0 _ _ _ (unhide HMX) : X.cell? ⟨w.heap.size, 0, none⟩ = some (.int .i64 m.kind))
        have x1 := BW.cell (W := X) (cell_of_row X w.heap.size 1 _ _ _ (unhide HMX) : X.cell? ⟨w.heap.size, 1, none⟩ = some (.int .i64 m.src))
        have x2 := BW.cell (W := X) (cell_of_row X w.heap.size 2 _ _ _ (unhide HMX) : X.cell? ⟨w.heap.size, 2, none⟩ = some (.int .i64 m.dst))
        have x3 := BW.cell (W := X) (cell_of_row X w.heap.size 3 _ _ _ (unhide HMX) : X.cell? ⟨w.heap.size, 3, none⟩ = some (.int .i64 m.term))
        have x4 := BW.cell (W := X) (cell_of_row X w.heap.size 4 _ _ _ (unhide HMX) : X.cell? ⟨w.heap.size, 4, none⟩ = some (.int .i64 m.index))
        have x5 := BW.cell (W := X) (cell_of_row X w.heap.size 5 _ _ _ (unhide HMX) : X.cell? ⟨w.heap.size, 5, none⟩ = some (.int .i64 m.logTerm))
        have x6 := BW.cell (W := X) (cell_of_row X w.heap.size 6 _ _ _ (unhide HMX) : X.cell? ⟨w.heap.size, 6, none⟩ = some (.int .i64 m.commit))
        have x7 := BW.cell (W := X) (cell_of_row X w.heap.size 7 _ _ _ (unhide HMX) : X.cell? ⟨w.heap.size, 7, none⟩ = some (.slice eo en ec))
        have x8 := BW.cell (W := X) (cell_of_row X w.heap.size 8 _ _ _ (unhide HMX) : X.cell? ⟨w.heap.size, 8, none⟩ = some (.bool m.granted))
        go_wp2
        refine wp_region_below (by kernel_rfl) (by kernel_rfl) ?_
        repeat (quiet_step ((first | (go_at_call 112; exact BW.calls_same (mayVoteFor_at mu nb s lv m.src _ (BW.nb (unhide HNX) _) _ (unhide HV))) | (go_at_call 109; exact BW.calls (isAsGood_at mu nb s lv m _ _ (BW.nb (unhide HNX) _) (BW.nl (unhide HLX) _) hsl ⟨_, _, _, rfl⟩ _ (unhide HG))))))
        refine wpQuiet_nil ?_
        intro _ hw'
        obtain ⟨x, hw''⟩ := hw'
        subst hw''
        have HNY := hide (BW.nb (unhide HNX) x)
        have HLY := hide (BW.nl (unhide HLX) x)
        have HEY := hide ((unhide HEX).below x.below)
        have HMY := hide (BW.row (unhide HMX) x)
        clear HNE
        generalize x.wd = Y at *
        clear x0 x1 x2 x3 x4 x5 x6 x7 x8 c4
        have c4 := (unhide HNY).c4
        have x1 : Y.cell? ⟨w.heap.size, 1, none⟩ = some (.int .i64 m.src) := cell_of_row Y w.heap.size 1 _ _ _ (unhide HMY)
        have c5 := (unhide HNY).c5
        have c10 := (unhide HNY).c10
        have f5 := (unhide HNY).free 5
        have f10 := (unhide HNY).free 10
        have hltY := (unhide HNY).lt
        go_wp2
        have HNZ := HNY
        have HLZ := HLY
        have HEZ := HEY
        have HMZ := HMY
        clear HNY HLY HEY HMY c4 x1 c5 c10 f5 f10
        obtain ⟨Z, hZ⟩ : ∃ Z, Y = Z := ⟨_, rfl⟩
        subst hZ
        have hltZ := (unhide HNZ).lt
        have hneZ : ¬ nb = Y.heap.size := by omega
        have hmbZ : ¬ w.heap.size = Y.heap.size := by have h1 := (Array.getElem?_eq_some_iff.1 (unhide HMZ)).1; omega
        have z4 := (unhide HNZ).c4
        have zm1 : Y.cell? ⟨w.heap.size, 1, none⟩ = some (.int .i64 m.src) := cell_of_row Y w.heap.size 1 _ _ _ (unhide HMZ)
        go_region_law (first | (go_simp; go_at_call 111; refine (send_one mu nb s lv { kind := 3, src := 0, dst := 0, term := s.term, index := 0, logTerm := 0, commit := 0, ents := [], granted := false } m.src Y (unhide HNZ) rfl).mono ?_; rintro e w6 ⟨v, rfl, hm6, hb6⟩; replace hm6 := hide hm6; replace hb6 := hide hb6))
        all_goals go_wp2
        all_goals go_ret
        all_goals
          rw [unhide HR0, unhide HVT, if_neg (by decide)]
          exact Sent.told (unhide HEZ) (unhide HNZ) (unhide HLZ) (unhide hm6) (unhide hb6)
    | false =>
      have HVT : Hid (s.votes m = false) := by show _ = _; unfold Nd.votes; rw [hv, decide_eq_true e1]; rfl
      obtain ⟨bg, hg⟩ : ∃ bg, s.asGood m = bg := ⟨_, rfl⟩
      have b1 : (m.term == s.term) = true := by simpa using e1
      have HV := hide hv
      have HG := hide hg
      clear e1 hv hg
      go_enter Tryz.func67, Tryz.ntmps67
      go_wp2
      generalize w.alloc (.cells #[.int .i64 m.kind, .int .i64 m.src, .int .i64 m.dst, .int .i64 m.term, .int .i64 m.index, .int .i64 m.logTerm, .int .i64 m.commit, .slice eo en ec, .bool m.granted] 30) = W at *
      clear c4 c7
      have x3 : W.cell? ⟨w.heap.size, 3, none⟩ = some (.int .i64 m.term) := cell_of_row W w.heap.size 3 _ _ _ (unhide HWM)
      have c4 := (unhide HNW).c4
      go_quiet (fail)
      have HNX : Hid (NB mu (W.drewN nq) nb s lv) := NB.drewN (unhide HNW) _
      have HLX : Hid (NL (W.drewN nq) s lv) := NL.drewN (unhide HLW) _
      have HEX : Hid (Ew nb w (W.drewN nq)) := (Ew.ofBelow (unhide HBW)).drewN _
      have HMX : Hid ((W.drewN nq).heap[w.heap.size]? = some (.cells #[.int .i64 m.kind, .int .i64 m.src, .int .i64 m.dst, .int .i64 m.term, .int .i64 m.index, .int .i64 m.logTerm, .int .i64 m.commit, .slice eo en ec, .bool m.granted] 30 (0, 0))) := unhide HWM
      clear x3 c4
      generalize W.drewN nq = X at *
      have HNE : Nonempty (BW X) := ⟨⟨X, Below.refl _ _⟩⟩
      have c4 := BW.cell (unhide HNX).c4
      have x0 := BW.cell (W := X) (cell_of_row X w.heap.size 0 _ _ _ (unhide HMX) : X.cell? ⟨w.heap.size, 0, none⟩ = some (.int .i64 m.kind))
      have x1 := BW.cell (W := X) (cell_of_row X w.heap.size 1 _ _ _ (unhide HMX) : X.cell? ⟨w.heap.size, 1, none⟩ = some (.int .i64 m.src))
      have x2 := BW.cell (W := X) (cell_of_row X w.heap.size 2 _ _ _ (unhide HMX) : X.cell? ⟨w.heap.size, 2, none⟩ = some (.int .i64 m.dst))
      have x3 := BW.cell (W := X) (cell_of_row X w.heap.size 3 _ _ _ (unhide HMX) : X.cell? ⟨w.heap.size, 3, none⟩ = some (.int .i64 m.term))
      have x4 := BW.cell (W := X) (cell_of_row X w.heap.size 4 _ _ _ (unhide HMX) : X.cell? ⟨w.heap.size, 4, none⟩ = some (.int .i64 m.index))
      have x5 := BW.cell (W := X) (cell_of_row X w.heap.size 5 _ _ _ (unhide HMX) : X.cell? ⟨w.heap.size, 5, none⟩ = some (.int .i64 m.logTerm))
      have x6 := BW.cell (W := X) (cell_of_row X w.heap.size 6 _ _ _ (unhide HMX) : X.cell? ⟨w.heap.size, 6, none⟩ = some (.int .i64 m.commit))
      have x7 := BW.cell (W := X) (cell_of_row X w.heap.size 7 _ _ _ (unhide HMX) : X.cell? ⟨w.heap.size, 7, none⟩ = some (.slice eo en ec))
      have x8 := BW.cell (W := X) (cell_of_row X w.heap.size 8 _ _ _ (unhide HMX) : X.cell? ⟨w.heap.size, 8, none⟩ = some (.bool m.granted))
      go_wp2
      refine wp_region_below (by kernel_rfl) (by kernel_rfl) ?_
      repeat (quiet_step ((first | (go_at_call 112; exact BW.calls_same (mayVoteFor_at mu nb s lv m.src _ (BW.nb (unhide HNX) _) _ (unhide HV))) | (go_at_call 109; exact BW.calls (isAsGood_at mu nb s lv m _ _ (BW.nb (unhide HNX) _) (BW.nl (unhide HLX) _) hsl ⟨_, _, _, rfl⟩ _ (unhide HG))))))
      refine wpQuiet_nil ?_
      intro _ hw'
      obtain ⟨x, hw''⟩ := hw'
      subst hw''
      have HNY := hide (BW.nb (unhide HNX) x)
      have HLY := hide (BW.nl (unhide HLX) x)
      have HEY := hide ((unhide HEX).below x.below)
      have HMY := hide (BW.row (unhide HMX) x)
      clear HNE
      generalize x.wd = Y at *
      clear x0 x1 x2 x3 x4 x5 x6 x7 x8 c4
      have c4 := (unhide HNY).c4
      have x1 : Y.cell? ⟨w.heap.size, 1, none⟩ = some (.int .i64 m.src) := cell_of_row Y w.heap.size 1 _ _ _ (unhide HMY)
      have c5 := (unhide HNY).c5
      have c10 := (unhide HNY).c10
      have f5 := (unhide HNY).free 5
      have f10 := (unhide HNY).free 10
      have hltY := (unhide HNY).lt
      go_wp2
      have HNZ := HNY
      have HLZ := HLY
      have HEZ := HEY
      have HMZ := HMY
      clear HNY HLY HEY HMY c4 x1 c5 c10 f5 f10
      obtain ⟨Z, hZ⟩ : ∃ Z, Y = Z := ⟨_, rfl⟩
      subst hZ
      have hltZ := (unhide HNZ).lt
      have hneZ : ¬ nb = Y.heap.size := by omega
      have hmbZ : ¬ w.heap.size = Y.heap.size := by have h1 := (Array.getElem?_eq_some_iff.1 (unhide HMZ)).1; omega
      have z4 := (unhide HNZ).c4
      have zm1 : Y.cell? ⟨w.heap.size, 1, none⟩ = some (.int .i64 m.src) := cell_of_row Y w.heap.size 1 _ _ _ (unhide HMZ)
      go_region_law (first | (go_simp; go_at_call 111; refine (send_one mu nb s lv { kind := 3, src := 0, dst := 0, term := s.term, index := 0, logTerm := 0, commit := 0, ents := [], granted := false } m.src Y (unhide HNZ) rfl).mono ?_; rintro e w6 ⟨v, rfl, hm6, hb6⟩; replace hm6 := hide hm6; replace hb6 := hide hb6))
      all_goals go_wp2
      all_goals go_ret
      all_goals
        rw [unhide HR0, unhide HVT, if_neg (by decide)]
        exact Sent.told (unhide HEZ) (unhide HNZ) (unhide HLZ) (unhide hm6) (unhide hb6)
  · have HVT : Hid (s.votes m = false) := by show _ = _; unfold Nd.votes; rw [decide_eq_false e1]; rfl
    obtain ⟨bg, hg⟩ : ∃ bg, s.asGood m = bg := ⟨_, rfl⟩
    obtain ⟨bv, hv⟩ : ∃ bv, (decide (s.role = 0) && (decide (s.vote = -1) || decide (s.vote = m.src))) = bv := ⟨_, rfl⟩
    have b1 : (m.term == s.term) = false := by simpa using e1
    have HV := hide hv
    have HG := hide hg
    clear e1 hv hg
    go_enter Tryz.func67, Tryz.ntmps67
    go_wp2
    generalize w.alloc (.cells #[.int .i64 m.kind, .int .i64 m.src, .int .i64 m.dst, .int .i64 m.term, .int .i64 m.index, .int .i64 m.logTerm, .int .i64 m.commit, .slice eo en ec, .bool m.granted] 30) = W at *
    clear c4 c7
    have x3 : W.cell? ⟨w.heap.size, 3, none⟩ = some (.int .i64 m.term) := cell_of_row W w.heap.size 3 _ _ _ (unhide HWM)
    have c4 := (unhide HNW).c4
    go_quiet (fail)
    have HNX : Hid (NB mu (W.drewN nq) nb s lv) := NB.drewN (unhide HNW) _
    have HLX : Hid (NL (W.drewN nq) s lv) := NL.drewN (unhide HLW) _
    have HEX : Hid (Ew nb w (W.drewN nq)) := (Ew.ofBelow (unhide HBW)).drewN _
    have HMX : Hid ((W.drewN nq).heap[w.heap.size]? = some (.cells #[.int .i64 m.kind, .int .i64 m.src, .int .i64 m.dst, .int .i64 m.term, .int .i64 m.index, .int .i64 m.logTerm, .int .i64 m.commit, .slice eo en ec, .bool m.granted] 30 (0, 0))) := unhide HWM
    clear x3 c4
    generalize W.drewN nq = X at *
    have HNE : Nonempty (BW X) := ⟨⟨X, Below.refl _ _⟩⟩
    have c4 := BW.cell (unhide HNX).c4
    have x0 := BW.cell (W := X) (cell_of_row X w.heap.size 0 _ _ _ (unhide HMX) : X.cell? ⟨w.heap.size, 0, none⟩ = some (.int .i64 m.kind))
    have x1 := BW.cell (W := X) (cell_of_row X w.heap.size 1 _ _ _ (unhide HMX) : X.cell? ⟨w.heap.size, 1, none⟩ = some (.int .i64 m.src))
    have x2 := BW.cell (W := X) (cell_of_row X w.heap.size 2 _ _ _ (unhide HMX) : X.cell? ⟨w.heap.size, 2, none⟩ = some (.int .i64 m.dst))
    have x3 := BW.cell (W := X) (cell_of_row X w.heap.size 3 _ _ _ (unhide HMX) : X.cell? ⟨w.heap.size, 3, none⟩ = some (.int .i64 m.term))
    have x4 := BW.cell (W := X) (cell_of_row X w.heap.size 4 _ _ _ (unhide HMX) : X.cell? ⟨w.heap.size, 4, none⟩ = some (.int .i64 m.index))
    have x5 := BW.cell (W := X) (cell_of_row X w.heap.size 5 _ _ _ (unhide HMX) : X.cell? ⟨w.heap.size, 5, none⟩ = some (.int .i64 m.logTerm))
    have x6 := BW.cell (W := X) (cell_of_row X w.heap.size 6 _ _ _ (unhide HMX) : X.cell? ⟨w.heap.size, 6, none⟩ = some (.int .i64 m.commit))
    have x7 := BW.cell (W := X) (cell_of_row X w.heap.size 7 _ _ _ (unhide HMX) : X.cell? ⟨w.heap.size, 7, none⟩ = some (.slice eo en ec))
    have x8 := BW.cell (W := X) (cell_of_row X w.heap.size 8 _ _ _ (unhide HMX) : X.cell? ⟨w.heap.size, 8, none⟩ = some (.bool m.granted))
    go_wp2
    refine wp_region_below (by kernel_rfl) (by kernel_rfl) ?_
    repeat (quiet_step ((first | (go_at_call 112; exact BW.calls_same (mayVoteFor_at mu nb s lv m.src _ (BW.nb (unhide HNX) _) _ (unhide HV))) | (go_at_call 109; exact BW.calls (isAsGood_at mu nb s lv m _ _ (BW.nb (unhide HNX) _) (BW.nl (unhide HLX) _) hsl ⟨_, _, _, rfl⟩ _ (unhide HG))))))
    refine wpQuiet_nil ?_
    intro _ hw'
    obtain ⟨x, hw''⟩ := hw'
    subst hw''
    have HNY := hide (BW.nb (unhide HNX) x)
    have HLY := hide (BW.nl (unhide HLX) x)
    have HEY := hide ((unhide HEX).below x.below)
    have HMY := hide (BW.row (unhide HMX) x)
    clear HNE
    generalize x.wd = Y at *
    clear x0 x1 x2 x3 x4 x5 x6 x7 x8 c4
    have c4 := (unhide HNY).c4
    have x1 : Y.cell? ⟨w.heap.size, 1, none⟩ = some (.int .i64 m.src) := cell_of_row Y w.heap.size 1 _ _ _ (unhide HMY)
    have c5 := (unhide HNY).c5
    have c10 := (unhide HNY).c10
    have f5 := (unhide HNY).free 5
    have f10 := (unhide HNY).free 10
    have hltY := (unhide HNY).lt
    go_wp2
    have HNZ := HNY
    have HLZ := HLY
    have HEZ := HEY
    have HMZ := HMY
    clear HNY HLY HEY HMY c4 x1 c5 c10 f5 f10
    obtain ⟨Z, hZ⟩ : ∃ Z, Y = Z := ⟨_, rfl⟩
    subst hZ
    have hltZ := (unhide HNZ).lt
    have hneZ : ¬ nb = Y.heap.size := by omega
    have hmbZ : ¬ w.heap.size = Y.heap.size := by have h1 := (Array.getElem?_eq_some_iff.1 (unhide HMZ)).1; omega
    have z4 := (unhide HNZ).c4
    have zm1 : Y.cell? ⟨w.heap.size, 1, none⟩ = some (.int .i64 m.src) := cell_of_row Y w.heap.size 1 _ _ _ (unhide HMZ)
    go_region_law (first | (go_simp; go_at_call 111; refine (send_one mu nb s lv { kind := 3, src := 0, dst := 0, term := s.term, index := 0, logTerm := 0, commit := 0, ents := [], granted := false } m.src Y (unhide HNZ) rfl).mono ?_; rintro e w6 ⟨v, rfl, hm6, hb6⟩; replace hm6 := hide hm6; replace hb6 := hide hb6))
    all_goals go_wp2
    all_goals go_ret
    all_goals
      rw [unhide HR0, unhide HVT, if_neg (by decide)]
      exact Sent.told (unhide HEZ) (unhide HNZ) (unhide HLZ) (unhide hm6) (unhide hb6)

end Go.Proofs.YteiecbkfganhnaaGreat
