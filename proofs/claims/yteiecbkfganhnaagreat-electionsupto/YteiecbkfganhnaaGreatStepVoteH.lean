/- The program's node: a Vote of a greater term. -/
import Derived.Test.YteiecbkfganhnaaGreatStepVote

namespace Go.Proofs.YteiecbkfganhnaaGreat

open Go.RowKit Go.MuLone

set_option maxRecDepth 100000 in
set_option maxHeartbeats 1000000 in
theorem stepVoteH_any (mu : Int) (nb : Nat) (s : Nd) (lv : Value) (m : Msg) (ev : Value) (w : World) (h : NB mu w nb s lv) (hl : NL w s lv) (hok : Ok s) (h1 : s.term < m.term) (hev : ∃ ao n c, ev = .slice ao n c) :
    Calls Tryz.prog 67 #[.pointer (some ⟨nb, 0, none⟩), magg m ev] w fun e w' => Sent mu nb lv w (s.stepVote m) e w' := by
  obtain ⟨eo, en, ec, rfl⟩ := hev
  have hlt := h.lt
  have hne : ¬ nb = w.heap.size := by omega
  have hne2 : w.heap.size ≠ nb := fun h => hne h.symm
  have c4 := h.c4
  have c7 := h.c7
  have HBW := hide (below_alloc w (.cells #[.int .i64 m.kind, .int .i64 m.src, .int .i64 m.dst, .int .i64 m.term, .int .i64 m.index, .int .i64 m.logTerm, .int .i64 m.commit, .slice eo en ec, .bool m.granted] 30))
  have HWM := hide (heap_alloc_new w (.cells #[.int .i64 m.kind, .int .i64 m.src, .int .i64 m.dst, .int .i64 m.term, .int .i64 m.index, .int .i64 m.logTerm, .int .i64 m.commit, .slice eo en ec, .bool m.granted] 30))
  have HNW := hide (h.below (unhide HBW))
  have HLW := hide (hl.below (unhide HBW))
  have HSW : Hid (w.heap.size < (w.alloc (.cells #[.int .i64 m.kind, .int .i64 m.src, .int .i64 m.dst, .int .i64 m.term, .int .i64 m.index, .int .i64 m.logTerm, .int .i64 m.commit, .slice eo en ec, .bool m.granted] 30)).heap.size) := by show _ < _; rw [size_alloc1]; omega
  have H := hide h
  have hsl : s.last ≤ 60 := hok.len
  have HL := hide hl
  have HOK := hide hok
  have t0 := hok.t0
  have t1 := hok.t1
  clear h hl hok
  have d1 : decide (s.term < m.term) = true := decide_eq_true h1
  cases hk : s.knows with
  | true =>
    have HR : Hid (s.stepVote m = (s, [])) := by show _ = _; unfold Nd.stepVote; rw [if_pos ⟨h1, hk⟩]
    have HK := hide hk
    clear hk
    go_enter Tryz.func67, Tryz.ntmps67
    go_wp2
    generalize w.alloc (.cells #[.int .i64 m.kind, .int .i64 m.src, .int .i64 m.dst, .int .i64 m.term, .int .i64 m.index, .int .i64 m.logTerm, .int .i64 m.commit, .slice eo en ec, .bool m.granted] 30) = W at *
    clear c4 c7
    have x3' : W.cell? ⟨w.heap.size, 3, none⟩ = some (.int .i64 m.term) := cell_of_row W w.heap.size 3 _ _ _ (unhide HWM)
    have c4' := (unhide HNW).c4
    go_quiet (fail)
    have HNX : Hid (NB mu (W.drewN nq) nb s lv) := NB.drewN (unhide HNW) _
    have HLX : Hid (NL (W.drewN nq) s lv) := NL.drewN (unhide HLW) _
    have HEX : Hid (Ew nb w (W.drewN nq)) := (Ew.ofBelow (unhide HBW)).drewN _
    have HMX : Hid ((W.drewN nq).heap[w.heap.size]? = some (.cells #[.int .i64 m.kind, .int .i64 m.src, .int .i64 m.dst, .int .i64 m.term, .int .i64 m.index, .int .i64 m.logTerm, .int .i64 m.commit, .slice eo en ec, .bool m.granted] 30 (0, 0))) := unhide HWM
    have HSX : Hid (w.heap.size < (W.drewN nq).heap.size) := unhide HSW
    have x3 : (W.drewN nq).cell? ⟨w.heap.size, 3, none⟩ = some (.int .i64 m.term) := x3'
    clear x3' c4'
    generalize W.drewN nq = X at *
    go_wp2_with (go_at_call 110; refine (knowsLeader_any mu nb s lv _ (unhide HNX)).mono ?_; rw [unhide HK]; rintro e w2 ⟨rfl, mq, rfl⟩)
    go_ret
    rw [unhide HR]
    exact Sent.quiet ((unhide HEX).drewN _) (NB.drewN (unhide HNX) _) (NL.drewN (unhide HLX) _)
  | false =>
    have HS : Hid (s.voteS m = s.follow m.term (-1)) := if_pos h1
    have HT : Hid ((s.follow m.term (-1)).term = m.term ∧ (s.follow m.term (-1)).role = 0 ∧ (s.follow m.term (-1)).vote = -1 ∧ (s.follow m.term (-1)).last = s.last) := by
      show _ ∧ _
      unfold Nd.follow
      rw [if_pos h1]
      exact ⟨rfl, rfl, rfl, rfl⟩
    have HR1 : Hid (s.stepVote m = (if (s.follow m.term (-1)).votes m = true then { s.follow m.term (-1) with vote := m.src, elapsed := 0 } else s.follow m.term (-1), [(s.follow m.term (-1)).reply 3 m.src (s.follow m.term (-1)).term 0 ((s.follow m.term (-1)).votes m)])) := by
      show _ = _
      unfold Nd.stepVote
      rw [if_neg (fun hx => by rw [hk] at hx; cases hx.2), unhide HS]
    have HK := hide hk
    clear hk
    go_enter Tryz.func67, Tryz.ntmps67
    go_wp2
    generalize w.alloc (.cells #[.int .i64 m.kind, .int .i64 m.src, .int .i64 m.dst, .int .i64 m.term, .int .i64 m.index, .int .i64 m.logTerm, .int .i64 m.commit, .slice eo en ec, .bool m.granted] 30) = W at *
    clear c4 c7
    have x3' : W.cell? ⟨w.heap.size, 3, none⟩ = some (.int .i64 m.term) := cell_of_row W w.heap.size 3 _ _ _ (unhide HWM)
    have c4' := (unhide HNW).c4
    go_quiet (fail)
    have HNX : Hid (NB mu (W.drewN nq) nb s lv) := NB.drewN (unhide HNW) _
    have HLX : Hid (NL (W.drewN nq) s lv) := NL.drewN (unhide HLW) _
    have HEX : Hid (Ew nb w (W.drewN nq)) := (Ew.ofBelow (unhide HBW)).drewN _
    have HMX : Hid ((W.drewN nq).heap[w.heap.size]? = some (.cells #[.int .i64 m.kind, .int .i64 m.src, .int .i64 m.dst, .int .i64 m.term, .int .i64 m.index, .int .i64 m.logTerm, .int .i64 m.commit, .slice eo en ec, .bool m.granted] 30 (0, 0))) := unhide HWM
    have HSX : Hid (w.heap.size < (W.drewN nq).heap.size) := unhide HSW
    have x3 : (W.drewN nq).cell? ⟨w.heap.size, 3, none⟩ = some (.int .i64 m.term) := x3'
    clear x3' c4'
    generalize W.drewN nq = X at *
    go_wp2_with (first | (go_at_call 110; refine (knowsLeader_any mu nb s lv _ (unhide HNX)).mono ?_; rw [unhide HK]; rintro e w2 ⟨rfl, mq, rfl⟩) | (go_at_call 97; refine (follow_any mu nb s lv m.term (-1) _ (NB.drewN (unhide HNX) mq)).mono ?_; rintro e w3 ⟨rfl, hN3, hE3⟩; replace hN3 := hide hN3; replace hE3 := hide hE3))
    have HEW := hide (((unhide HEX).drewN mq).trans (unhide hE3))
    have HLW3 : Hid (NL w3 (s.follow m.term (-1)) lv) := NL.follow (unhide HL) (unhide H) (unhide HEW)
    have HMW3 := hide (((unhide hE3).block w.heap.size (unhide HSX) hne2).trans (unhide HMX))
    clear HNX HLX HEX HMX HSX x3
    have HNX := hN3
    have HLX := HLW3
    have HEX := HEW
    have HMX : Hid (w3.heap[w.heap.size]? = some (.cells #[.int .i64 m.kind, .int .i64 m.src, .int .i64 m.dst, .int .i64 m.term, .int .i64 m.index, .int .i64 m.logTerm, .int .i64 m.commit, .slice eo en ec, .bool m.granted] 30 (0, 0))) := HMW3
    clear hN3 HLW3 HEW HMW3 hE3 HL H HLW HNW HBW HWM HSW
    have hsl' : (s.follow m.term (-1)).last ≤ 60 := by rw [(unhide HT).2.2.2]; exact hsl
    clear hsl HS
    generalize s.follow m.term (-1) = t at *
    have hsl := hsl'
    have b1 : (m.term == t.term) = true := by rw [(unhide HT).1]; simp
    have hv : (decide (t.role = 0) && (decide (t.vote = -1) || decide (t.vote = m.src))) = true := by rw [(unhide HT).2.1, (unhide HT).2.2.1]; simp
    have HR0 := HR1
    clear HR1
    cases hg : t.asGood m with
    | true =>
      have HVT : Hid (t.votes m = true) := by show _ = _; unfold Nd.votes; rw [hv, hg, decide_eq_true (unhide HT).1.symm]; rfl
      have HV := hide hv
      have HG := hide hg
      clear hv hg
      have HNE : Nonempty (BW w3) := ⟨⟨w3, Below.refl _ _⟩⟩
      have c4 := BW.cell (unhide HNX).c4
      have x0 := BW.cell (W := w3) (cell_of_row w3 w.heap.size 0 _ _ _ (unhide HMX) : w3.cell? ⟨w.heap.size, 0, none⟩ = some (.int .i64 m.kind))
      have x1 := BW.cell (W := w3) (cell_of_row w3 w.heap.size 1 _ _ _ (unhide HMX) : w3.cell? ⟨w.heap.size, 1, none⟩ = some (.int .i64 m.src))
      have x2 := BW.cell (W := w3) (cell_of_row w3 w.heap.size 2 _ _ _ (unhide HMX) : w3.cell? ⟨w.heap.size, 2, none⟩ = some (.int .i64 m.dst))
      have x3 := BW.cell (W := w3) (cell_of_row w3 w.heap.size 3 _ _ _ (unhide HMX) : w3.cell? ⟨w.heap.size, 3, none⟩ = some (.int .i64 m.term))
      have x4 := BW.cell (W := w3) (cell_of_row w3 w.heap.size 4 _ _ _ (unhide HMX) : w3.cell? ⟨w.heap.size, 4, none⟩ = some (.int .i64 m.index))
      have x5 := BW.cell (W := w3) (cell_of_row w3 w.heap.size 5 _ _ _ (unhide HMX) : w3.cell? ⟨w.heap.size, 5, none⟩ = some (.int .i64 m.logTerm))
      have x6 := BW.cell (W := w3) (cell_of_row w3 w.heap.size 6 _ _ _ (unhide HMX) : w3.cell? ⟨w.heap.size, 6, none⟩ = some (.int .i64 m.commit))
      have x7 := BW.cell (W := w3) (cell_of_row w3 w.heap.size 7 _ _ _ (unhide HMX) : w3.cell? ⟨w.heap.size, 7, none⟩ = some (.slice eo en ec))
      have x8 := BW.cell (W := w3) (cell_of_row w3 w.heap.size 8 _ _ _ (unhide HMX) : w3.cell? ⟨w.heap.size, 8, none⟩ = some (.bool m.granted))
      refine wp_region_below (by kernel_rfl) (by kernel_rfl) ?_
      repeat (quiet_step ((first | (go_at_call 112; exact BW.calls_same (mayVoteFor_at mu nb t lv m.src _ (BW.nb (unhide HNX) _) _ (unhide HV))) | (go_at_call 109; exact BW.calls (isAsGood_at mu nb t lv m _ _ (BW.nb (unhide HNX) _) (BW.nl (unhide HLX) _) hsl ⟨_, _, _, rfl⟩ _ (unhide HG))))))
      refine wpQuiet_nil ?_
      intro _ hw'
      obtain ⟨x, hw''⟩ := hw'
      subst hw''
      have HNY := hide (BW.nb (unhide HNX) x)
      have HLY := hide (BW.nl (unhide HLX) x)
      have HEY := hide ((unhide HEX).below x.below)
      have HMY := hide (BW.row (unhide HMX) x)
      clear HNE
      generalize x.wd = Y at *
      clear x0 x1 x2 x3 x4 x5 x6 x7 x8 c4
      have c4 := (unhide HNY).c4
      have x1 : Y.cell? ⟨w.heap.size, 1, none⟩ = some (.int .i64 m.src) := cell_of_row Y w.heap.size 1 _ _ _ (unhide HMY)
      have c5 := (unhide HNY).c5
      have c10 := (unhide HNY).c10
      have f5 := (unhide HNY).free 5
      have f10 := (unhide HNY).free 10
      have hltY := (unhide HNY).lt
      go_wp2
      have HNZ : Hid (NB mu ((Y.setCell ⟨nb, 5, none⟩ (.int .i64 m.src)).setCell ⟨nb, 10, none⟩ (.int .i64 0)) nb ({ t with vote := m.src, elapsed := 0 } : Nd) lv) := ((unhide HNY).setVote m.src).setElapsed 0
      have HEW : Hid (Ew nb Y ((Y.setCell ⟨nb, 5, none⟩ (.int .i64 m.src)).setCell ⟨nb, 10, none⟩ (.int .i64 0))) := ((Ew.refl nb Y).set 5 _).set 10 _
      have HLZ : Hid (NL ((Y.setCell ⟨nb, 5, none⟩ (.int .i64 m.src)).setCell ⟨nb, 10, none⟩ (.int .i64 0)) ({ t with vote := m.src, elapsed := 0 } : Nd) lv) := (unhide HLY).ew (unhide HNY) (unhide HEW)
      have HEZ := hide ((unhide HEY).trans (unhide HEW))
      have HMZ : Hid (((Y.setCell ⟨nb, 5, none⟩ (.int .i64 m.src)).setCell ⟨nb, 10, none⟩ (.int .i64 0)).heap[w.heap.size]? = some (.cells #[.int .i64 m.kind, .int .i64 m.src, .int .i64 m.dst, .int .i64 m.term, .int .i64 m.index, .int .i64 m.logTerm, .int .i64 m.commit, .slice eo en ec, .bool m.granted] 30 (0, 0))) := ((unhide HEW).block w.heap.size (Array.getElem?_eq_some_iff.1 (unhide HMY)).1 hne2).trans (unhide HMY)
      clear HNY HLY HEY HMY c4 x1 c5 c10 f5 f10 HEW hltY
      generalize ((Y.setCell ⟨nb, 5, none⟩ (.int .i64 m.src)).setCell ⟨nb, 10, none⟩ (.int .i64 0)) = Z at *
      have hltZ := (unhide HNZ).lt
      have hneZ : ¬ nb = Z.heap.size := by omega
      have hmbZ : ¬ w.heap.size = Z.heap.size := by have h1 := (Array.getElem?_eq_some_iff.1 (unhide HMZ)).1; omega
      have z4 := (unhide HNZ).c4
      have zm1 : Z.cell? ⟨w.heap.size, 1, none⟩ = some (.int .i64 m.src) := cell_of_row Z w.heap.size 1 _ _ _ (unhide HMZ)
      go_region_law (first | (go_simp; go_at_call 111; refine (send_one mu nb ({ t with vote := m.src, elapsed := 0 } : Nd) lv { kind := 3, src := 0, dst := 0, term := t.term, index := 0, logTerm := 0, commit := 0, ents := [], granted := true } m.src Z (unhide HNZ) rfl).mono ?_; rintro e w6 ⟨v, rfl, hm6, hb6⟩; replace hm6 := hide hm6; replace hb6 := hide hb6))
      all_goals go_wp2
      all_goals go_ret
      all_goals
        rw [unhide HR0, unhide HVT, if_pos rfl]
        exact Sent.told (unhide HEZ) (unhide HNZ) (unhide HLZ) (unhide hm6) (unhide hb6)
    | false =>
      have HVT : Hid (t.votes m = false) := by show _ = _; unfold Nd.votes; rw [hv, hg, decide_eq_true (unhide HT).1.symm]; rfl
      have HV := hide hv
      have HG := hide hg
      clear hv hg
      have HNE : Nonempty (BW w3) := ⟨⟨w3, Below.refl _ _⟩⟩
      have c4 := BW.cell (unhide HNX).c4
      have x0 := BW.cell (W := w3) (cell_of_row w3 w.heap.size 0 _ _ _ (unhide HMX) : w3.cell? ⟨w.heap.size, 0, none⟩ = some (.int .i64 m.kind))
      have x1 := BW.cell (W := w3) (cell_of_row w3 w.heap.size 1 _ _ _ (unhide HMX) : w3.cell? ⟨w.heap.size, 1, none⟩ = some (.int .i64 m.src))
      have x2 := BW.cell (W := w3) (cell_of_row w3 w.heap.size 2 _ _ _ (unhide HMX) : w3.cell? ⟨w.heap.size, 2, none⟩ = some (.int .i64 m.dst))
      have x3 := BW.cell (W := w3) (cell_of_row w3 w.heap.size 3 _ _ _ (unhide HMX) : w3.cell? ⟨w.heap.size, 3, none⟩ = some (.int .i64 m.term))
      have x4 := BW.cell (W := w3) (cell_of_row w3 w.heap.size 4 _ _ _ (unhide HMX) : w3.cell? ⟨w.heap.size, 4, none⟩ = some (.int .i64 m.index))
      have x5 := BW.cell (W := w3) (cell_of_row w3 w.heap.size 5 _ _ _ (unhide HMX) : w3.cell? ⟨w.heap.size, 5, none⟩ = some (.int .i64 m.logTerm))
      have x6 := BW.cell (W := w3) (cell_of_row w3 w.heap.size 6 _ _ _ (unhide HMX) : w3.cell? ⟨w.heap.size, 6, none⟩ = some (.int .i64 m.commit))
      have x7 := BW.cell (W := w3) (cell_of_row w3 w.heap.size 7 _ _ _ (unhide HMX) : w3.cell? ⟨w.heap.size, 7, none⟩ = some (.slice eo en ec))
      have x8 := BW.cell (W := w3) (cell_of_row w3 w.heap.size 8 _ _ _ (unhide HMX) : w3.cell? ⟨w.heap.size, 8, none⟩ = some (.bool m.granted))
      refine wp_region_below (by kernel_rfl) (by kernel_rfl) ?_
      repeat (quiet_step ((first | (go_at_call 112; exact BW.calls_same (mayVoteFor_at mu nb t lv m.src _ (BW.nb (unhide HNX) _) _ (unhide HV))) | (go_at_call 109; exact BW.calls (isAsGood_at mu nb t lv m _ _ (BW.nb (unhide HNX) _) (BW.nl (unhide HLX) _) hsl ⟨_, _, _, rfl⟩ _ (unhide HG))))))
      refine wpQuiet_nil ?_
      intro _ hw'
      obtain ⟨x, hw''⟩ := hw'
      subst hw''
      have HNY := hide (BW.nb (unhide HNX) x)
      have HLY := hide (BW.nl (unhide HLX) x)
      have HEY := hide ((unhide HEX).below x.below)
      have HMY := hide (BW.row (unhide HMX) x)
      clear HNE
      generalize x.wd = Y at *
      clear x0 x1 x2 x3 x4 x5 x6 x7 x8 c4
      have c4 := (unhide HNY).c4
      have x1 : Y.cell? ⟨w.heap.size, 1, none⟩ = some (.int .i64 m.src) := cell_of_row Y w.heap.size 1 _ _ _ (unhide HMY)
      have c5 := (unhide HNY).c5
      have c10 := (unhide HNY).c10
      have f5 := (unhide HNY).free 5
      have f10 := (unhide HNY).free 10
      have hltY := (unhide HNY).lt
      go_wp2
      have HNZ := HNY
      have HLZ := HLY
      have HEZ := HEY
      have HMZ := HMY
      clear HNY HLY HEY HMY c4 x1 c5 c10 f5 f10
      obtain ⟨Z, hZ⟩ : ∃ Z, Y = Z := ⟨_, rfl⟩
      subst hZ
      have hltZ := (unhide HNZ).lt
      have hneZ : ¬ nb = Y.heap.size := by omega
      have hmbZ : ¬ w.heap.size = Y.heap.size := by have h1 := (Array.getElem?_eq_some_iff.1 (unhide HMZ)).1; omega
      have z4 := (unhide HNZ).c4
      have zm1 : Y.cell? ⟨w.heap.size, 1, none⟩ = some (.int .i64 m.src) := cell_of_row Y w.heap.size 1 _ _ _ (unhide HMZ)
      go_region_law (first | (go_simp; go_at_call 111; refine (send_one mu nb t lv { kind := 3, src := 0, dst := 0, term := t.term, index := 0, logTerm := 0, commit := 0, ents := [], granted := false } m.src Y (unhide HNZ) rfl).mono ?_; rintro e w6 ⟨v, rfl, hm6, hb6⟩; replace hm6 := hide hm6; replace hb6 := hide hb6))
      all_goals go_wp2
      all_goals go_ret
      all_goals
        rw [unhide HR0, unhide HVT, if_neg (by decide)]
        exact Sent.told (unhide HEZ) (unhide HNZ) (unhide HLZ) (unhide hm6) (unhide hb6)

end Go.Proofs.YteiecbkfganhnaaGreat
