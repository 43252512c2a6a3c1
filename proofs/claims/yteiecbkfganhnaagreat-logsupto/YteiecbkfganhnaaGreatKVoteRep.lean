/- The program's node: an AskReply; The program's node: a VoteReply. -/
import Derived.Test.YteiecbkfganhnaaGreatStepAsk

namespace Go.Proofs.YteiecbkfganhnaaGreat

open Go.RowKit Go.MuLone

theorem NL.follow {mu : Int} {w w' : World} {nb : Nat} {s : Nd} {lv : Value} {t l : Int} (h : NL w s lv) (hN : NB mu w nb s lv) (he : Ew nb w w') : NL w' (s.follow t l) lv := by
  have h1 : (s.follow t l).log = s.log := by unfold Nd.follow; split <;> rfl
  unfold NL
  rw [h1]
  exact h.ew hN he

theorem Ok.addGrant {s : Nd} (h : Ok s) (i : Nat) (hi : i < s.n) : Ok (s.addGrant i) := { h with g7 := fun _ hj => upd_over h.g7 hi hj, lead := fun h3 => (by have := h.lead h3; exact ⟨this.last, this.pos, this.sz, this.lo, this.hi, this.mm⟩) }

theorem follow_role (s : Nd) (t l : Int) : (s.follow t l).role = 0 := by unfold Nd.follow; split <;> rfl

set_option maxRecDepth 100000 in
set_option maxHeartbeats 1000000 in
theorem stepAskReply_any (mu : Int) (nb : Nat) (s : Nd) (lv : Value) (m : Msg) (ev : Value) (w : World) (h : NB mu w nb s lv) (hl : NL w s lv) (hok : Ok s) (hsrc : 0 ≤ m.src) (hsrn : m.src < s.n) (hmt : m.term ≤ 1000000) (hev : ∃ ao n c, ev = .slice ao n c) :
    Calls Tryz.prog 66 #[.pointer (some ⟨nb, 0, none⟩), magg m ev] w fun e w' => Sent mu nb lv w (s.stepAskReply m) e w' := by
  obtain ⟨eo, en, ec, rfl⟩ := hev
  have hlt := h.lt
  have hne : ¬ nb = w.heap.size := by omega
  have hne2 : w.heap.size ≠ nb := fun h => hne h.symm
  have c4 := h.c4
  have c7 := h.c7
  have HBW := hide (below_alloc w (.cells #[.int .i64 m.kind, .int .i64 m.src, .int .i64 m.dst, .int .i64 m.term, .int .i64 m.index, .int .i64 m.logTerm, .int .i64 m.commit, .slice eo en ec, .bool m.granted] 30))
  have HWM := hide (heap_alloc_new w (.cells #[.int .i64 m.kind, .int .i64 m.src, .int .i64 m.dst, .int .i64 m.term, .int .i64 m.index, .int .i64 m.logTerm, .int .i64 m.commit, .slice eo en ec, .bool m.granted] 30))
  have HNW := hide (h.below (unhide HBW))
  have HLW := hide (hl.below (unhide HBW))
  have HSW : Hid (w.heap.size < (w.alloc (.cells #[.int .i64 m.kind, .int .i64 m.src, .int .i64 m.dst, .int .i64 m.term, .int .i64 m.index, .int .i64 m.logTerm, .int .i64 m.commit, .slice eo en ec, .bool m.granted] 30)).heap.size) := by show _ < _; rw [size_alloc1]; omega
  have H := hide h
  have HL := hide hl
  have HOK := hide hok
  have t0 := hok.t0
  have t1 := hok.t1
  clear h hl hok
  obtain ⟨f, hf⟩ : ∃ f : Nat, m.src = f := ⟨m.src.toNat, by omega⟩
  have hf7 : f < 7 := by have := (unhide HOK).n7; omega
  have HF : Hid (m.src.toNat = f) := by show _ = _; omega
  have HSR := hide hf
  clear hf
  cases hg : m.granted with
  | false =>
    have HG := hide hg
    by_cases h1 : s.term < m.term
    · have HR : Hid (s.stepAskReply m = (s.follow m.term (-1), [])) := by show _ = _; unfold Nd.stepAskReply; rw [if_pos hg, if_pos h1]
      have d1 : decide (s.term < m.term) = true := decide_eq_true h1
      clear hg
      go_enter Tryz.func66, Tryz.ntmps66
      go_wp2
      generalize w.alloc (.cells #[.int .i64 m.kind, .int .i64 m.src, .int .i64 m.dst, .int .i64 m.term, .int .i64 m.index, .int .i64 m.logTerm, .int .i64 m.commit, .slice eo en ec, .bool m.granted] 30) = W at *
      clear c4 c7
      have x1 : W.cell? ⟨w.heap.size, 1, none⟩ = some (.int .i64 (f : Int)) := by rw [← unhide HSR]; exact cell_of_row W w.heap.size 1 _ _ _ (unhide HWM)
      have x3 : W.cell? ⟨w.heap.size, 3, none⟩ = some (.int .i64 m.term) := cell_of_row W w.heap.size 3 _ _ _ (unhide HWM)
      have x8 : W.cell? ⟨w.heap.size, 8, none⟩ = some (.bool false) := by rw [← unhide HG]; exact cell_of_row W w.heap.size 8 _ _ _ (unhide HWM)
      have c4 := (unhide HNW).c4
      have c7 := (unhide HNW).c7
      go_quiet (fail)
      go_wp2_with (go_at_call 97; refine (follow_any mu nb s lv m.term (-1) _ (NB.drewN (unhide HNW) _)).mono ?_; rintro e w2 ⟨rfl, hN2, hE2⟩; have hw2 := (hE2.block w.heap.size (unhide HSW) hne2).trans (unhide HWM); have y3 : w2.cell? ⟨w.heap.size, 3, none⟩ = some (.int .i64 m.term) := cell_of_row w2 w.heap.size 3 _ _ _ hw2; have y8 : w2.cell? ⟨w.heap.size, 8, none⟩ = some (.bool false) := (by rw [← unhide HG]; exact cell_of_row w2 w.heap.size 8 _ _ _ hw2); have k7 := hN2.c7; have k4 := hN2.c4; clear hw2; replace hN2 := hide hN2; replace hE2 := hide hE2)
      go_quiet (fail)
      go_wp2
      go_ret
      rw [unhide HR]
      have hET := ((((Ew.ofBelow (unhide HBW)).drewN _).trans (unhide hE2)).drewN nq)
      exact Sent.quiet hET (NB.drewN (unhide hN2) _) (NL.follow (unhide HL) (unhide H) hET)
    · have HR : Hid (s.stepAskReply m = (s, [])) := by show _ = _; unfold Nd.stepAskReply; rw [if_pos hg, if_neg h1]
      have d1 : decide (s.term < m.term) = false := decide_eq_false h1
      clear hg
      go_enter Tryz.func66, Tryz.ntmps66
      go_wp2
      generalize w.alloc (.cells #[.int .i64 m.kind, .int .i64 m.src, .int .i64 m.dst, .int .i64 m.term, .int .i64 m.index, .int .i64 m.logTerm, .int .i64 m.commit, .slice eo en ec, .bool m.granted] 30) = W at *
      clear c4 c7
      have x1 : W.cell? ⟨w.heap.size, 1, none⟩ = some (.int .i64 (f : Int)) := by rw [← unhide HSR]; exact cell_of_row W w.heap.size 1 _ _ _ (unhide HWM)
      have x3 : W.cell? ⟨w.heap.size, 3, none⟩ = some (.int .i64 m.term) := cell_of_row W w.heap.size 3 _ _ _ (unhide HWM)
      have x8 : W.cell? ⟨w.heap.size, 8, none⟩ = some (.bool false) := by rw [← unhide HG]; exact cell_of_row W w.heap.size 8 _ _ _ (unhide HWM)
      have c4 := (unhide HNW).c4
      have c7 := (unhide HNW).c7
      go_quiet (fail)
      go_wp2
      go_quiet (fail)
      go_wp2
      go_ret
      rw [unhide HR]
      exact Sent.quiet (((Ew.ofBelow (unhide HBW)).drewN _).drewN _) (NB.drewN (NB.drewN (unhide HNW) _) _) (NL.drewN (NL.drewN (unhide HLW) _) _)
  | true =>
    have hgn : ¬ m.granted = false := by simp [hg]
    have HG := hide hg
    by_cases h1 : s.role = 1
    · by_cases h2 : m.term = s.term + 1
      · have b2 : (m.term != s.term + 1) = false := by simpa using h2
        have b1 : (s.role != 1) = false := by simpa using h1
        by_cases hm : (s.addGrant f).maj (cnt (s.addGrant f).gr) = true
        · have HR : Hid (s.stepAskReply m = (s.addGrant f).stand) := by show _ = _; unfold Nd.stepAskReply; rw [if_neg hgn, if_pos ⟨h1, h2⟩, unhide HF, if_pos hm]
          have HT3 : Hid ((s.addGrant f).term < 1000000) := by show s.term < 1000000; omega
          clear hg hgn h1 h2
          go_enter Tryz.func66, Tryz.ntmps66
          go_wp2
          generalize w.alloc (.cells #[.int .i64 m.kind, .int .i64 m.src, .int .i64 m.dst, .int .i64 m.term, .int .i64 m.index, .int .i64 m.logTerm, .int .i64 m.commit, .slice eo en ec, .bool m.granted] 30) = W at *
          clear c4 c7
          have x1 : W.cell? ⟨w.heap.size, 1, none⟩ = some (.int .i64 (f : Int)) := by rw [← unhide HSR]; exact cell_of_row W w.heap.size 1 _ _ _ (unhide HWM)
          have x3 : W.cell? ⟨w.heap.size, 3, none⟩ = some (.int .i64 m.term) := cell_of_row W w.heap.size 3 _ _ _ (unhide HWM)
          have x8 : W.cell? ⟨w.heap.size, 8, none⟩ = some (.bool true) := by rw [← unhide HG]; exact cell_of_row W w.heap.size 8 _ _ _ (unhide HWM)
          have c4 := (unhide HNW).c4
          have c7 := (unhide HNW).c7
          go_quiet (fail)
          go_wp2
          obtain ⟨n1, hn1⟩ : ∃ n1, n1 = nq := ⟨_, rfl⟩
          subst hn1
          go_quiet (fail)
          go_wp2
          have HNX : Hid (NB mu ((W.drewN n1).drewN nq) nb s lv) := NB.drewN (NB.drewN (unhide HNW) _) _
          have HBX : Hid (Below w.heap.size w ((W.drewN n1).drewN nq)) := below_drewN (below_drewN (unhide HBW) _) _
          have HSX : Hid (w.heap.size < ((W.drewN n1).drewN nq).heap.size) := unhide HSW
          have xx1 : ((W.drewN n1).drewN nq).cell? ⟨w.heap.size, 1, none⟩ = some (.int .i64 (f : Int)) := x1
          clear x1 x3 x8 c4 c7
          generalize (W.drewN n1).drewN nq = X at *
          have g12 : X.cell? ⟨nb, 12, none⟩ = some (.bool (s.gr 0)) := (unhide HNX).c12
          have g13 : X.cell? ⟨nb, 13, none⟩ = some (.bool (s.gr 1)) := (unhide HNX).c13
          have g14 : X.cell? ⟨nb, 14, none⟩ = some (.bool (s.gr 2)) := (unhide HNX).c14
          have g15 : X.cell? ⟨nb, 15, none⟩ = some (.bool (s.gr 3)) := (unhide HNX).c15
          have g16 : X.cell? ⟨nb, 16, none⟩ = some (.bool (s.gr 4)) := (unhide HNX).c16
          have g17 : X.cell? ⟨nb, 17, none⟩ = some (.bool (s.gr 5)) := (unhide HNX).c17
          have g18 : X.cell? ⟨nb, 18, none⟩ = some (.bool (s.gr 6)) := (unhide HNX).c18
          go_region_law (first | (go_simp; go_at_call 95; refine (with_any s.gr f X.drew hf7).mono ?_; rintro e w2 ⟨rfl, hb2⟩; have hN2 : NB mu w2 nb s lv := (NB.below (w := X.drew) (unhide HNX) hb2); have z12 := hN2.c12; have z13 := hN2.c13; have z14 := hN2.c14; have z15 := hN2.c15; have z16 := hN2.c16; have z17 := hN2.c17; have z18 := hN2.c18; have q12 := hN2.free 12; have q13 := hN2.free 13; have q14 := hN2.free 14; have q15 := hN2.free 15; have q16 := hN2.free 16; have q17 := hN2.free 17; have q18 := hN2.free 18; have y1 : w2.cell? ⟨w.heap.size, 1, none⟩ = some (.int .i64 (f : Int)) := ((hb2.cell (p := ⟨w.heap.size, 1, none⟩) (unhide HSX)).trans xx1); replace hN2 := hide hN2; have hB2 := hide ((unhide HBX).trans ((Below.undrew hb2).mono (unhide HBX).size)); clear hb2))
          all_goals
            have HN3 : Hid (NB mu (((((((w2.setCell ⟨nb, 12, none⟩ (.bool (upd s.gr f true 0))).setCell ⟨nb, 13, none⟩ (.bool (upd s.gr f true 1))).setCell ⟨nb, 14, none⟩ (.bool (upd s.gr f true 2))).setCell ⟨nb, 15, none⟩ (.bool (upd s.gr f true 3))).setCell ⟨nb, 16, none⟩ (.bool (upd s.gr f true 4))).setCell ⟨nb, 17, none⟩ (.bool (upd s.gr f true 5))).setCell ⟨nb, 18, none⟩ (.bool (upd s.gr f true 6))) nb (s.addGrant f) lv) := (unhide hN2).setGr (upd s.gr f true)
            have HE3 : Hid (Ew nb w (((((((w2.setCell ⟨nb, 12, none⟩ (.bool (upd s.gr f true 0))).setCell ⟨nb, 13, none⟩ (.bool (upd s.gr f true 1))).setCell ⟨nb, 14, none⟩ (.bool (upd s.gr f true 2))).setCell ⟨nb, 15, none⟩ (.bool (upd s.gr f true 3))).setCell ⟨nb, 16, none⟩ (.bool (upd s.gr f true 4))).setCell ⟨nb, 17, none⟩ (.bool (upd s.gr f true 5))).setCell ⟨nb, 18, none⟩ (.bool (upd s.gr f true 6)))) := ((((((((Ew.ofBelow (unhide hB2)).set 12 _).set 13 _).set 14 _).set 15 _).set 16 _).set 17 _).set 18 _)
            have HL3 : Hid (NL (((((((w2.setCell ⟨nb, 12, none⟩ (.bool (upd s.gr f true 0))).setCell ⟨nb, 13, none⟩ (.bool (upd s.gr f true 1))).setCell ⟨nb, 14, none⟩ (.bool (upd s.gr f true 2))).setCell ⟨nb, 15, none⟩ (.bool (upd s.gr f true 3))).setCell ⟨nb, 16, none⟩ (.bool (upd s.gr f true 4))).setCell ⟨nb, 17, none⟩ (.bool (upd s.gr f true 5))).setCell ⟨nb, 18, none⟩ (.bool (upd s.gr f true 6))) (s.addGrant f) lv) := (unhide HL).ew (unhide H) (unhide HE3)
            have HO3 : Hid (Ok (s.addGrant f)) := (unhide HOK).addGrant f (by have h9 : m.src = (f : Int) := unhide HSR; omega)
            generalize (((((((w2.setCell ⟨nb, 12, none⟩ (.bool (upd s.gr f true 0))).setCell ⟨nb, 13, none⟩ (.bool (upd s.gr f true 1))).setCell ⟨nb, 14, none⟩ (.bool (upd s.gr f true 2))).setCell ⟨nb, 15, none⟩ (.bool (upd s.gr f true 3))).setCell ⟨nb, 16, none⟩ (.bool (upd s.gr f true 4))).setCell ⟨nb, 17, none⟩ (.bool (upd s.gr f true 5))).setCell ⟨nb, 18, none⟩ (.bool (upd s.gr f true 6))) = Y at *
            generalize s.addGrant f = t at *
            have HM := hide hm
            have k12 := (unhide HN3).c12
            have k13 := (unhide HN3).c13
            have k14 := (unhide HN3).c14
            have k15 := (unhide HN3).c15
            have k16 := (unhide HN3).c16
            have k17 := (unhide HN3).c17
            have k18 := (unhide HN3).c18
            go_wp2_with (first | (go_at_call 96; refine (size_any t.gr _).mono ?_; rintro e w4 ⟨rfl, hb4⟩; replace hb4 := hide hb4) | (go_at_call 94; refine (isMajority_any mu nb t lv (cnt t.gr) w4 ((unhide HN3).below (unhide hb4)) (unhide HO3).n7).mono ?_; rw [unhide HM]; rintro e w5 ⟨rfl, h5⟩; cases h5.symm) | (go_at_call 101; refine (stand_any mu nb t lv w4 ((unhide HN3).below (unhide hb4)) ((unhide HL3).below (unhide hb4)) (unhide HO3) (unhide HT3)).mono ?_; intro e w6 hx6; obtain ⟨v, l, lv', rfl, hx6⟩ := hx6; replace hx6 := hide hx6))
            go_ret
            rw [unhide HR]
            exact Sent.ahead ((unhide HE3).below (unhide hb4)) ⟨v, l, lv', rfl, unhide hx6⟩
        · have hm' : (s.addGrant f).maj (cnt (s.addGrant f).gr) = false := by simpa using hm
          have HR : Hid (s.stepAskReply m = (s.addGrant f, [])) := by show _ = _; unfold Nd.stepAskReply; rw [if_neg hgn, if_pos ⟨h1, h2⟩, unhide HF, if_neg hm]
          clear hg hgn h1 h2 hm
          replace hm := hm'
          clear hm'
          go_enter Tryz.func66, Tryz.ntmps66
          go_wp2
          generalize w.alloc (.cells #[.int .i64 m.kind, .int .i64 m.src, .int .i64 m.dst, .int .i64 m.term, .int .i64 m.index, .int .i64 m.logTerm, .int .i64 m.commit, .slice eo en ec, .bool m.granted] 30) = W at *
          clear c4 c7
          have x1 : W.cell? ⟨w.heap.size, 1, none⟩ = some (.int .i64 (f : Int)) := by rw [← unhide HSR]; exact cell_of_row W w.heap.size 1 _ _ _ (unhide HWM)
          have x3 : W.cell? ⟨w.heap.size, 3, none⟩ = some (.int .i64 m.term) := cell_of_row W w.heap.size 3 _ _ _ (unhide HWM)
          have x8 : W.cell? ⟨w.heap.size, 8, none⟩ = some (.bool true) := by rw [← unhide HG]; exact cell_of_row W w.heap.size 8 _ _ _ (unhide HWM)
          have c4 := (unhide HNW).c4
          have c7 := (unhide HNW).c7
          go_quiet (fail)
          go_wp2
          obtain ⟨n1, hn1⟩ : ∃ n1, n1 = nq := ⟨_, rfl⟩
          subst hn1
          go_quiet (fail)
          go_wp2
          have HNX : Hid (NB mu ((W.drewN n1).drewN nq) nb s lv) := NB.drewN (NB.drewN (unhide HNW) _) _
          have HBX : Hid (Below w.heap.size w ((W.drewN n1).drewN nq)) := below_drewN (below_drewN (unhide HBW) _) _
          have HSX : Hid (w.heap.size < ((W.drewN n1).drewN nq).heap.size) := unhide HSW
          have xx1 : ((W.drewN n1).drewN nq).cell? ⟨w.heap.size, 1, none⟩ = some (.int .i64 (f : Int)) := x1
          clear x1 x3 x8 c4 c7
          generalize (W.drewN n1).drewN nq = X at *
          have g12 : X.cell? ⟨nb, 12, none⟩ = some (.bool (s.gr 0)) := (unhide HNX).c12
          have g13 : X.cell? ⟨nb, 13, none⟩ = some (.bool (s.gr 1)) := (unhide HNX).c13
          have g14 : X.cell? ⟨nb, 14, none⟩ = some (.bool (s.gr 2)) := (unhide HNX).c14
          have g15 : X.cell? ⟨nb, 15, none⟩ = some (.bool (s.gr 3)) := (unhide HNX).c15
          have g16 : X.cell? ⟨nb, 16, none⟩ = some (.bool (s.gr 4)) := (unhide HNX).c16
          have g17 : X.cell? ⟨nb, 17, none⟩ = some (.bool (s.gr 5)) := (unhide HNX).c17
          have g18 : X.cell? ⟨nb, 18, none⟩ = some (.bool (s.gr 6)) := (unhide HNX).c18
          go_region_law (first | (go_simp; go_at_call 95; refine (with_any s.gr f X.drew hf7).mono ?_; rintro e w2 ⟨rfl, hb2⟩; have hN2 : NB mu w2 nb s lv := (NB.below (w := X.drew) (unhide HNX) hb2); have z12 := hN2.c12; have z13 := hN2.c13; have z14 := hN2.c14; have z15 := hN2.c15; have z16 := hN2.c16; have z17 := hN2.c17; have z18 := hN2.c18; have q12 := hN2.free 12; have q13 := hN2.free 13; have q14 := hN2.free 14; have q15 := hN2.free 15; have q16 := hN2.free 16; have q17 := hN2.free 17; have q18 := hN2.free 18; have y1 : w2.cell? ⟨w.heap.size, 1, none⟩ = some (.int .i64 (f : Int)) := ((hb2.cell (p := ⟨w.heap.size, 1, none⟩) (unhide HSX)).trans xx1); replace hN2 := hide hN2; have hB2 := hide ((unhide HBX).trans ((Below.undrew hb2).mono (unhide HBX).size)); clear hb2))
          all_goals
            have HN3 : Hid (NB mu (((((((w2.setCell ⟨nb, 12, none⟩ (.bool (upd s.gr f true 0))).setCell ⟨nb, 13, none⟩ (.bool (upd s.gr f true 1))).setCell ⟨nb, 14, none⟩ (.bool (upd s.gr f true 2))).setCell ⟨nb, 15, none⟩ (.bool (upd s.gr f true 3))).setCell ⟨nb, 16, none⟩ (.bool (upd s.gr f true 4))).setCell ⟨nb, 17, none⟩ (.bool (upd s.gr f true 5))).setCell ⟨nb, 18, none⟩ (.bool (upd s.gr f true 6))) nb (s.addGrant f) lv) := (unhide hN2).setGr (upd s.gr f true)
            have HE3 : Hid (Ew nb w (((((((w2.setCell ⟨nb, 12, none⟩ (.bool (upd s.gr f true 0))).setCell ⟨nb, 13, none⟩ (.bool (upd s.gr f true 1))).setCell ⟨nb, 14, none⟩ (.bool (upd s.gr f true 2))).setCell ⟨nb, 15, none⟩ (.bool (upd s.gr f true 3))).setCell ⟨nb, 16, none⟩ (.bool (upd s.gr f true 4))).setCell ⟨nb, 17, none⟩ (.bool (upd s.gr f true 5))).setCell ⟨nb, 18, none⟩ (.bool (upd s.gr f true 6)))) := ((((((((Ew.ofBelow (unhide hB2)).set 12 _).set 13 _).set 14 _).set 15 _).set 16 _).set 17 _).set 18 _)
            have HL3 : Hid (NL (((((((w2.setCell ⟨nb, 12, none⟩ (.bool (upd s.gr f true 0))).setCell ⟨nb, 13, none⟩ (.bool (upd s.gr f true 1))).setCell ⟨nb, 14, none⟩ (.bool (upd s.gr f true 2))).setCell ⟨nb, 15, none⟩ (.bool (upd s.gr f true 3))).setCell ⟨nb, 16, none⟩ (.bool (upd s.gr f true 4))).setCell ⟨nb, 17, none⟩ (.bool (upd s.gr f true 5))).setCell ⟨nb, 18, none⟩ (.bool (upd s.gr f true 6))) (s.addGrant f) lv) := (unhide HL).ew (unhide H) (unhide HE3)
            have HO3 : Hid (Ok (s.addGrant f)) := (unhide HOK).addGrant f (by have h9 : m.src = (f : Int) := unhide HSR; omega)
            generalize (((((((w2.setCell ⟨nb, 12, none⟩ (.bool (upd s.gr f true 0))).setCell ⟨nb, 13, none⟩ (.bool (upd s.gr f true 1))).setCell ⟨nb, 14, none⟩ (.bool (upd s.gr f true 2))).setCell ⟨nb, 15, none⟩ (.bool (upd s.gr f true 3))).setCell ⟨nb, 16, none⟩ (.bool (upd s.gr f true 4))).setCell ⟨nb, 17, none⟩ (.bool (upd s.gr f true 5))).setCell ⟨nb, 18, none⟩ (.bool (upd s.gr f true 6))) = Y at *
            generalize s.addGrant f = t at *
            have HM := hide hm
            have k12 := (unhide HN3).c12
            have k13 := (unhide HN3).c13
            have k14 := (unhide HN3).c14
            have k15 := (unhide HN3).c15
            have k16 := (unhide HN3).c16
            have k17 := (unhide HN3).c17
            have k18 := (unhide HN3).c18
            go_wp2_with (first | (go_at_call 96; refine (size_any t.gr _).mono ?_; rintro e w4 ⟨rfl, hb4⟩; replace hb4 := hide hb4) | (go_at_call 94; refine (isMajority_any mu nb t lv (cnt t.gr) w4 ((unhide HN3).below (unhide hb4)) (unhide HO3).n7).mono ?_; rw [unhide HM]; rintro e w5 ⟨rfl, h5⟩; cases h5.symm))
            go_ret
            rw [unhide HR]
            exact Sent.quiet ((unhide HE3).below (unhide hb4)) ((unhide HN3).below (unhide hb4)) ((unhide HL3).below (unhide hb4))
      · have HR : Hid (s.stepAskReply m = (s, [])) := by show _ = _; unfold Nd.stepAskReply; rw [if_neg hgn, if_neg (fun hx => h2 hx.2)]
        have b2 : (m.term != s.term + 1) = true := by simpa using h2
        have b1 : (s.role != 1) = false := by simpa using h1
        clear hg hgn h1 h2
        go_enter Tryz.func66, Tryz.ntmps66
        go_wp2
        generalize w.alloc (.cells #[.int .i64 m.kind, .int .i64 m.src, .int .i64 m.dst, .int .i64 m.term, .int .i64 m.index, .int .i64 m.logTerm, .int .i64 m.commit, .slice eo en ec, .bool m.granted] 30) = W at *
        clear c4 c7
        have x1 : W.cell? ⟨w.heap.size, 1, none⟩ = some (.int .i64 (f : Int)) := by rw [← unhide HSR]; exact cell_of_row W w.heap.size 1 _ _ _ (unhide HWM)
        have x3 : W.cell? ⟨w.heap.size, 3, none⟩ = some (.int .i64 m.term) := cell_of_row W w.heap.size 3 _ _ _ (unhide HWM)
        have x8 : W.cell? ⟨w.heap.size, 8, none⟩ = some (.bool true) := by rw [← unhide HG]; exact cell_of_row W w.heap.size 8 _ _ _ (unhide HWM)
        have c4 := (unhide HNW).c4
        have c7 := (unhide HNW).c7
        go_quiet (fail)
        go_wp2
        go_quiet (fail)
        go_wp2
        go_ret
        rw [unhide HR]
        exact Sent.quiet (((Ew.ofBelow (unhide HBW)).drewN _).drewN _) (NB.drewN (NB.drewN (unhide HNW) _) _) (NL.drewN (NL.drewN (unhide HLW) _) _)
    · have HR : Hid (s.stepAskReply m = (s, [])) := by show _ = _; unfold Nd.stepAskReply; rw [if_neg hgn, if_neg (fun hx => h1 hx.1)]
      have b1 : (s.role != 1) = true := by simpa using h1
      clear hg hgn h1
      go_enter Tryz.func66, Tryz.ntmps66
      go_wp2
      generalize w.alloc (.cells #[.int .i64 m.kind, .int .i64 m.src, .int .i64 m.dst, .int .i64 m.term, .int .i64 m.index, .int .i64 m.logTerm, .int .i64 m.commit, .slice eo en ec, .bool m.granted] 30) = W at *
      clear c4 c7
      have x1 : W.cell? ⟨w.heap.size, 1, none⟩ = some (.int .i64 (f : Int)) := by rw [← unhide HSR]; exact cell_of_row W w.heap.size 1 _ _ _ (unhide HWM)
      have x3 : W.cell? ⟨w.heap.size, 3, none⟩ = some (.int .i64 m.term) := cell_of_row W w.heap.size 3 _ _ _ (unhide HWM)
      have x8 : W.cell? ⟨w.heap.size, 8, none⟩ = some (.bool true) := by rw [← unhide HG]; exact cell_of_row W w.heap.size 8 _ _ _ (unhide HWM)
      have c4 := (unhide HNW).c4
      have c7 := (unhide HNW).c7
      go_quiet (fail)
      go_wp2
      go_quiet (fail)
      go_wp2
      go_ret
      rw [unhide HR]
      exact Sent.quiet (((Ew.ofBelow (unhide HBW)).drewN _).drewN _) (NB.drewN (NB.drewN (unhide HNW) _) _) (NL.drewN (NL.drewN (unhide HLW) _) _)

end Go.Proofs.YteiecbkfganhnaaGreat

namespace Go.Proofs.YteiecbkfganhnaaGreat

open Go.RowKit Go.MuLone

set_option maxRecDepth 100000 in
set_option maxHeartbeats 1000000 in
theorem stepVoteReply_any (mu : Int) (nb : Nat) (s : Nd) (lv : Value) (m : Msg) (ev : Value) (w : World) (h : NB mu w nb s lv) (hl : NL w s lv) (hok : Ok s) (hsrc : 0 ≤ m.src) (hsrn : m.src < s.n) (hmt : 1 ≤ m.term) (hev : ∃ ao n c, ev = .slice ao n c) :
    Calls Tryz.prog 68 #[.pointer (some ⟨nb, 0, none⟩), magg m ev] w fun e w' => Sent mu nb lv w (s.stepVoteReply m) e w' := by
  obtain ⟨eo, en, ec, rfl⟩ := hev
  have hlt := h.lt
  have hne : ¬ nb = w.heap.size := by omega
  have hne2 : w.heap.size ≠ nb := fun h => hne h.symm
  have c4 := h.c4
  have c7 := h.c7
  have HBW := hide (below_alloc w (.cells #[.int .i64 m.kind, .int .i64 m.src, .int .i64 m.dst, .int .i64 m.term, .int .i64 m.index, .int .i64 m.logTerm, .int .i64 m.commit, .slice eo en ec, .bool m.granted] 30))
  have HWM := hide (heap_alloc_new w (.cells #[.int .i64 m.kind, .int .i64 m.src, .int .i64 m.dst, .int .i64 m.term, .int .i64 m.index, .int .i64 m.logTerm, .int .i64 m.commit, .slice eo en ec, .bool m.granted] 30))
  have HNW := hide (h.below (unhide HBW))
  have HLW := hide (hl.below (unhide HBW))
  have HSW : Hid (w.heap.size < (w.alloc (.cells #[.int .i64 m.kind, .int .i64 m.src, .int .i64 m.dst, .int .i64 m.term, .int .i64 m.index, .int .i64 m.logTerm, .int .i64 m.commit, .slice eo en ec, .bool m.granted] 30)).heap.size) := by show _ < _; rw [size_alloc1]; omega
  have H := hide h
  have HL := hide hl
  have HOK := hide hok
  have t0 := hok.t0
  have t1 := hok.t1
  clear h hl hok
  obtain ⟨f, hf⟩ : ∃ f : Nat, m.src = f := ⟨m.src.toNat, by omega⟩
  have hf7 : f < 7 := by have := (unhide HOK).n7; omega
  have HF : Hid (m.src.toNat = f) := by show _ = _; omega
  have HSR := hide hf
  clear hf
  by_cases h1 : s.term < m.term
  · have HR : Hid (s.stepVoteReply m = (s.follow m.term (-1), [])) := by show _ = _; unfold Nd.stepVoteReply; rw [if_pos h1]
    have d1 : decide (s.term < m.term) = true := decide_eq_true h1
    have hfr := follow_role s m.term (-1)
    cases hg : m.granted with
    | false =>
      have HG := hide hg
      clear hg
      go_enter Tryz.func68, Tryz.ntmps68
      go_wp2
      generalize w.alloc (.cells #[.int .i64 m.kind, .int .i64 m.src, .int .i64 m.dst, .int .i64 m.term, .int .i64 m.index, .int .i64 m.logTerm, .int .i64 m.commit, .slice eo en ec, .bool m.granted] 30) = W at *
      clear c4 c7
      have x1 : W.cell? ⟨w.heap.size, 1, none⟩ = some (.int .i64 (f : Int)) := by rw [← unhide HSR]; exact cell_of_row W w.heap.size 1 _ _ _ (unhide HWM)
      have x3 : W.cell? ⟨w.heap.size, 3, none⟩ = some (.int .i64 m.term) := cell_of_row W w.heap.size 3 _ _ _ (unhide HWM)
      have x8 : W.cell? ⟨w.heap.size, 8, none⟩ = some (.bool false) := by rw [← unhide HG]; exact cell_of_row W w.heap.size 8 _ _ _ (unhide HWM)
      have c4 := (unhide HNW).c4
      have c7 := (unhide HNW).c7
      go_quiet (fail)
      go_wp2_with (go_at_call 97; refine (follow_any mu nb s lv m.term (-1) _ (NB.drewN (unhide HNW) _)).mono ?_; rintro e w2 ⟨rfl, hN2, hE2⟩; have hw2 := (hE2.block w.heap.size (unhide HSW) hne2).trans (unhide HWM); have y3 : w2.cell? ⟨w.heap.size, 3, none⟩ = some (.int .i64 m.term) := cell_of_row w2 w.heap.size 3 _ _ _ hw2; have y8 : w2.cell? ⟨w.heap.size, 8, none⟩ = some (.bool false) := (by rw [← unhide HG]; exact cell_of_row w2 w.heap.size 8 _ _ _ hw2); have k7 := hN2.c7; rw [hfr] at k7; have k4 := hN2.c4; clear hw2; replace hN2 := hide hN2; replace hE2 := hide hE2)
      go_quiet (fail)
      go_wp2
      go_ret
      rw [unhide HR]
      have hET := ((((Ew.ofBelow (unhide HBW)).drewN _).trans (unhide hE2)).drewN nq)
      exact Sent.quiet hET (NB.drewN (unhide hN2) _) (NL.follow (unhide HL) (unhide H) hET)
    | true =>
      have HG := hide hg
      clear hg
      go_enter Tryz.func68, Tryz.ntmps68
      go_wp2
      generalize w.alloc (.cells #[.int .i64 m.kind, .int .i64 m.src, .int .i64 m.dst, .int .i64 m.term, .int .i64 m.index, .int .i64 m.logTerm, .int .i64 m.commit, .slice eo en ec, .bool m.granted] 30) = W at *
      clear c4 c7
      have x1 : W.cell? ⟨w.heap.size, 1, none⟩ = some (.int .i64 (f : Int)) := by rw [← unhide HSR]; exact cell_of_row W w.heap.size 1 _ _ _ (unhide HWM)
      have x3 : W.cell? ⟨w.heap.size, 3, none⟩ = some (.int .i64 m.term) := cell_of_row W w.heap.size 3 _ _ _ (unhide HWM)
      have x8 : W.cell? ⟨w.heap.size, 8, none⟩ = some (.bool true) := by rw [← unhide HG]; exact cell_of_row W w.heap.size 8 _ _ _ (unhide HWM)
      have c4 := (unhide HNW).c4
      have c7 := (unhide HNW).c7
      go_quiet (fail)
      go_wp2_with (go_at_call 97; refine (follow_any mu nb s lv m.term (-1) _ (NB.drewN (unhide HNW) _)).mono ?_; rintro e w2 ⟨rfl, hN2, hE2⟩; have hw2 := (hE2.block w.heap.size (unhide HSW) hne2).trans (unhide HWM); have y3 : w2.cell? ⟨w.heap.size, 3, none⟩ = some (.int .i64 m.term) := cell_of_row w2 w.heap.size 3 _ _ _ hw2; have y8 : w2.cell? ⟨w.heap.size, 8, none⟩ = some (.bool true) := (by rw [← unhide HG]; exact cell_of_row w2 w.heap.size 8 _ _ _ hw2); have k7 := hN2.c7; rw [hfr] at k7; have k4 := hN2.c4; clear hw2; replace hN2 := hide hN2; replace hE2 := hide hE2)
      go_quiet (fail)
      go_wp2
      go_ret
      rw [unhide HR]
      have hET := ((((Ew.ofBelow (unhide HBW)).drewN _).trans (unhide hE2)).drewN nq)
      exact Sent.quiet hET (NB.drewN (unhide hN2) _) (NL.follow (unhide HL) (unhide H) hET)
  · have d1 : decide (s.term < m.term) = false := decide_eq_false h1
    cases hg : m.granted with
    | false =>
      have HR : Hid (s.stepVoteReply m = (s, [])) := by show _ = _; unfold Nd.stepVoteReply; rw [if_neg h1, if_neg (by simp [hg])]
      have HG := hide hg
      clear hg
      go_enter Tryz.func68, Tryz.ntmps68
      go_wp2
      generalize w.alloc (.cells #[.int .i64 m.kind, .int .i64 m.src, .int .i64 m.dst, .int .i64 m.term, .int .i64 m.index, .int .i64 m.logTerm, .int .i64 m.commit, .slice eo en ec, .bool m.granted] 30) = W at *
      clear c4 c7
      have x1 : W.cell? ⟨w.heap.size, 1, none⟩ = some (.int .i64 (f : Int)) := by rw [← unhide HSR]; exact cell_of_row W w.heap.size 1 _ _ _ (unhide HWM)
      have x3 : W.cell? ⟨w.heap.size, 3, none⟩ = some (.int .i64 m.term) := cell_of_row W w.heap.size 3 _ _ _ (unhide HWM)
      have x8 : W.cell? ⟨w.heap.size, 8, none⟩ = some (.bool false) := by rw [← unhide HG]; exact cell_of_row W w.heap.size 8 _ _ _ (unhide HWM)
      have c4 := (unhide HNW).c4
      have c7 := (unhide HNW).c7
      go_quiet (fail)
      go_wp2
      go_quiet (fail)
      go_wp2
      go_ret
      rw [unhide HR]
      exact Sent.quiet (((Ew.ofBelow (unhide HBW)).drewN _).drewN _) (NB.drewN (NB.drewN (unhide HNW) _) _) (NL.drewN (NL.drewN (unhide HLW) _) _)
    | true =>
      by_cases h3 : s.role = 2
      · by_cases h2 : m.term = s.term
        · have b2 : (m.term != s.term) = false := by simpa using h2
          have b1 : (s.role != 2) = false := by simpa using h3
          by_cases hm : (s.addGrant f).maj (cnt (s.addGrant f).gr) = true
          · have HR : Hid (s.stepVoteReply m = (s.addGrant f).lead) := by show _ = _; unfold Nd.stepVoteReply; rw [if_neg h1, if_pos ⟨hg, h3, h2⟩, unhide HF, if_pos hm]
            have HT3 : Hid (1 ≤ (s.addGrant f).term) := by show 1 ≤ s.term; omega
            have HG := hide hg
            clear hg h2 h3
            go_enter Tryz.func68, Tryz.ntmps68
            go_wp2
            generalize w.alloc (.cells #[.int .i64 m.kind, .int .i64 m.src, .int .i64 m.dst, .int .i64 m.term, .int .i64 m.index, .int .i64 m.logTerm, .int .i64 m.commit, .slice eo en ec, .bool m.granted] 30) = W at *
            clear c4 c7
            have x1 : W.cell? ⟨w.heap.size, 1, none⟩ = some (.int .i64 (f : Int)) := by rw [← unhide HSR]; exact cell_of_row W w.heap.size 1 _ _ _ (unhide HWM)
            have x3 : W.cell? ⟨w.heap.size, 3, none⟩ = some (.int .i64 m.term) := cell_of_row W w.heap.size 3 _ _ _ (unhide HWM)
            have x8 : W.cell? ⟨w.heap.size, 8, none⟩ = some (.bool true) := by rw [← unhide HG]; exact cell_of_row W w.heap.size 8 _ _ _ (unhide HWM)
            have c4 := (unhide HNW).c4
            have c7 := (unhide HNW).c7
            go_quiet (fail)
            go_wp2
            obtain ⟨n1, hn1⟩ : ∃ n1, n1 = nq := ⟨_, rfl⟩
            subst hn1
            go_quiet (fail)
            go_wp2
            have HNX : Hid (NB mu ((W.drewN n1).drewN nq) nb s lv) := NB.drewN (NB.drewN (unhide HNW) _) _
            have HBX : Hid (Below w.heap.size w ((W.drewN n1).drewN nq)) := below_drewN (below_drewN (unhide HBW) _) _
            have HSX : Hid (w.heap.size < ((W.drewN n1).drewN nq).heap.size) := unhide HSW
            have xx1 : ((W.drewN n1).drewN nq).cell? ⟨w.heap.size, 1, none⟩ = some (.int .i64 (f : Int)) := x1
            clear x1 x3 x8 c4 c7
            generalize (W.drewN n1).drewN nq = X at *
            have g12 : X.cell? ⟨nb, 12, none⟩ = some (.bool (s.gr 0)) := (unhide HNX).c12
            have g13 : X.cell? ⟨nb, 13, none⟩ = some (.bool (s.gr 1)) := (unhide HNX).c13
            have g14 : X.cell? ⟨nb, 14, none⟩ = some (.bool (s.gr 2)) := (unhide HNX).c14
            have g15 : X.cell? ⟨nb, 15, none⟩ = some (.bool (s.gr 3)) := (unhide HNX).c15
            have g16 : X.cell? ⟨nb, 16, none⟩ = some (.bool (s.gr 4)) := (unhide HNX).c16
            have g17 : X.cell? ⟨nb, 17, none⟩ = some (.bool (s.gr 5)) := (unhide HNX).c17
            have g18 : X.cell? ⟨nb, 18, none⟩ = some (.bool (s.gr 6)) := (unhide HNX).c18
            go_region_law (first | (go_simp; go_at_call 95; refine (with_any s.gr f X.drew hf7).mono ?_; rintro e w2 ⟨rfl, hb2⟩; have hN2 : NB mu w2 nb s lv := (NB.below (w := X.drew) (unhide HNX) hb2); have z12 := hN2.c12; have z13 := hN2.c13; have z14 := hN2.c14; have z15 := hN2.c15; have z16 := hN2.c16; have z17 := hN2.c17; have z18 := hN2.c18; have q12 := hN2.free 12; have q13 := hN2.free 13; have q14 := hN2.free 14; have q15 := hN2.free 15; have q16 := hN2.free 16; have q17 := hN2.free 17; have q18 := hN2.free 18; have y1 : w2.cell? ⟨w.heap.size, 1, none⟩ = some (.int .i64 (f : Int)) := ((hb2.cell (p := ⟨w.heap.size, 1, none⟩) (unhide HSX)).trans xx1); replace hN2 := hide hN2; have hB2 := hide ((unhide HBX).trans ((Below.undrew hb2).mono (unhide HBX).size)); clear hb2))
            all_goals
              have HN3 : Hid (NB mu (((((((w2.setCell ⟨nb, 12, none⟩ (.bool (upd s.gr f true 0))).setCell ⟨nb, 13, none⟩ (.bool (upd s.gr f true 1))).setCell ⟨nb, 14, none⟩ (.bool (upd s.gr f true 2))).setCell ⟨nb, 15, none⟩ (.bool (upd s.gr f true 3))).setCell ⟨nb, 16, none⟩ (.bool (upd s.gr f true 4))).setCell ⟨nb, 17, none⟩ (.bool (upd s.gr f true 5))).setCell ⟨nb, 18, none⟩ (.bool (upd s.gr f true 6))) nb (s.addGrant f) lv) := (unhide hN2).setGr (upd s.gr f true)
              have HE3 : Hid (Ew nb w (((((((w2.setCell ⟨nb, 12, none⟩ (.bool (upd s.gr f true 0))).setCell ⟨nb, 13, none⟩ (.bool (upd s.gr f true 1))).setCell ⟨nb, 14, none⟩ (.bool (upd s.gr f true 2))).setCell ⟨nb, 15, none⟩ (.bool (upd s.gr f true 3))).setCell ⟨nb, 16, none⟩ (.bool (upd s.gr f true 4))).setCell ⟨nb, 17, none⟩ (.bool (upd s.gr f true 5))).setCell ⟨nb, 18, none⟩ (.bool (upd s.gr f true 6)))) := ((((((((Ew.ofBelow (unhide hB2)).set 12 _).set 13 _).set 14 _).set 15 _).set 16 _).set 17 _).set 18 _)
              have HL3 : Hid (NL (((((((w2.setCell ⟨nb, 12, none⟩ (.bool (upd s.gr f true 0))).setCell ⟨nb, 13, none⟩ (.bool (upd s.gr f true 1))).setCell ⟨nb, 14, none⟩ (.bool (upd s.gr f true 2))).setCell ⟨nb, 15, none⟩ (.bool (upd s.gr f true 3))).setCell ⟨nb, 16, none⟩ (.bool (upd s.gr f true 4))).setCell ⟨nb, 17, none⟩ (.bool (upd s.gr f true 5))).setCell ⟨nb, 18, none⟩ (.bool (upd s.gr f true 6))) (s.addGrant f) lv) := (unhide HL).ew (unhide H) (unhide HE3)
              have HO3 : Hid (Ok (s.addGrant f)) := (unhide HOK).addGrant f (by have h9 : m.src = (f : Int) := unhide HSR; omega)
              generalize (((((((w2.setCell ⟨nb, 12, none⟩ (.bool (upd s.gr f true 0))).setCell ⟨nb, 13, none⟩ (.bool (upd s.gr f true 1))).setCell ⟨nb, 14, none⟩ (.bool (upd s.gr f true 2))).setCell ⟨nb, 15, none⟩ (.bool (upd s.gr f true 3))).setCell ⟨nb, 16, none⟩ (.bool (upd s.gr f true 4))).setCell ⟨nb, 17, none⟩ (.bool (upd s.gr f true 5))).setCell ⟨nb, 18, none⟩ (.bool (upd s.gr f true 6))) = Y at *
              generalize s.addGrant f = t at *
              have HM := hide hm
              have k12 := (unhide HN3).c12
              have k13 := (unhide HN3).c13
              have k14 := (unhide HN3).c14
              have k15 := (unhide HN3).c15
              have k16 := (unhide HN3).c16
              have k17 := (unhide HN3).c17
              have k18 := (unhide HN3).c18
              go_wp2_with (first | (go_at_call 96; refine (size_any t.gr _).mono ?_; rintro e w4 ⟨rfl, hb4⟩; replace hb4 := hide hb4) | (go_at_call 94; refine (isMajority_any mu nb t lv (cnt t.gr) w4 ((unhide HN3).below (unhide hb4)) (unhide HO3).n7).mono ?_; rw [unhide HM]; rintro e w5 ⟨rfl, h5⟩; cases h5.symm) | (go_at_call 113; refine (lead_any mu nb t lv w4 ((unhide HN3).below (unhide hb4)) ((unhide HL3).below (unhide hb4)) (unhide HO3).len (unhide HO3).n7 (unhide HO3).id (lead_own (unhide HO3).log (unhide HO3).len (unhide HT3)) (lead_leads (unhide HO3).log (unhide HO3).len (unhide HT3))).mono ?_; intro e w6 hx6; obtain ⟨v, l, lv', rfl, hx6⟩ := hx6; replace hx6 := hide hx6))
              go_ret
              rw [unhide HR]
              exact Sent.ahead ((unhide HE3).below (unhide hb4)) ⟨v, l, lv', rfl, unhide hx6⟩
          · have hm' : (s.addGrant f).maj (cnt (s.addGrant f).gr) = false := by simpa using hm
            have HR : Hid (s.stepVoteReply m = (s.addGrant f, [])) := by show _ = _; unfold Nd.stepVoteReply; rw [if_neg h1, if_pos ⟨hg, h3, h2⟩, unhide HF, if_neg hm]
            have HG := hide hg
            clear hg h2 h3 hm
            replace hm := hm'
            clear hm'
            go_enter Tryz.func68, Tryz.ntmps68
            go_wp2
            generalize w.alloc (.cells #[.int .i64 m.kind, .int .i64 m.src, .int .i64 m.dst, .int .i64 m.term, .int .i64 m.index, .int .i64 m.logTerm, .int .i64 m.commit, .slice eo en ec, .bool m.granted] 30) = W at *
            clear c4 c7
            have x1 : W.cell? ⟨w.heap.size, 1, none⟩ = some (.int .i64 (f : Int)) := by rw [← unhide HSR]; exact cell_of_row W w.heap.size 1 _ _ _ (unhide HWM)
            have x3 : W.cell? ⟨w.heap.size, 3, none⟩ = some (.int .i64 m.term) := cell_of_row W w.heap.size 3 _ _ _ (unhide HWM)
            have x8 : W.cell? ⟨w.heap.size, 8, none⟩ = some (.bool true) := by rw [← unhide HG]; exact cell_of_row W w.heap.size 8 _ _ _ (unhide HWM)
            have c4 := (unhide HNW).c4
            have c7 := (unhide HNW).c7
            go_quiet (fail)
            go_wp2
            obtain ⟨n1, hn1⟩ : ∃ n1, n1 = nq := ⟨_, rfl⟩
            subst hn1
            go_quiet (fail)
            go_wp2
            have HNX : Hid (NB mu ((W.drewN n1).drewN nq) nb s lv) := NB.drewN (NB.drewN (unhide HNW) _) _
            have HBX : Hid (Below w.heap.size w ((W.drewN n1).drewN nq)) := below_drewN (below_drewN (unhide HBW) _) _
            have HSX : Hid (w.heap.size < ((W.drewN n1).drewN nq).heap.size) := unhide HSW
            have xx1 : ((W.drewN n1).drewN nq).cell? ⟨w.heap.size, 1, none⟩ = some (.int .i64 (f : Int)) := x1
            clear x1 x3 x8 c4 c7
            generalize (W.drewN n1).drewN nq = X at *
            have g12 : X.cell? ⟨nb, 12, none⟩ = some (.bool (s.gr 0)) := (unhide HNX).c12
            have g13 : X.cell? ⟨nb, 13, none⟩ = some (.bool (s.gr 1)) := (unhide HNX).c13
            have g14 : X.cell? ⟨nb, 14, none⟩ = some (.bool (s.gr 2)) := (unhide HNX).c14
            have g15 : X.cell? ⟨nb, 15, none⟩ = some (.bool (s.gr 3)) := (unhide HNX).c15
            have g16 : X.cell? ⟨nb, 16, none⟩ = some (.bool (s.gr 4)) := (unhide HNX).c16
            have g17 : X.cell? ⟨nb, 17, none⟩ = some (.bool (s.gr 5)) := (unhide HNX).c17
            have g18 : X.cell? ⟨nb, 18, none⟩ = some (.bool (s.gr 6)) := (unhide HNX).c18
            go_region_law (first | (go_simp; go_at_call 95; refine (with_any s.gr f X.drew hf7).mono ?_; rintro e w2 ⟨rfl, hb2⟩; have hN2 : NB mu w2 nb s lv := (NB.below (w := X.drew) (unhide HNX) hb2); have z12 := hN2.c12; have z13 := hN2.c13; have z14 := hN2.c14; have z15 := hN2.c15; have z16 := hN2.c16; have z17 := hN2.c17; have z18 := hN2.c18; have q12 := hN2.free 12; have q13 := hN2.free 13; have q14 := hN2.free 14; have q15 := hN2.free 15; have q16 := hN2.free 16; have q17 := hN2.free 17; have q18 := hN2.free 18; have y1 : w2.cell? ⟨w.heap.size, 1, none⟩ = some (.int .i64 (f : Int)) := ((hb2.cell (p := ⟨w.heap.size, 1, none⟩) (unhide HSX)).trans xx1); replace hN2 := hide hN2; have hB2 := hide ((unhide HBX).trans ((Below.undrew hb2).mono (unhide HBX).size)); clear hb2))
            all_goals
              have HN3 : Hid (NB mu (((((((w2.setCell ⟨nb, 12, none⟩ (.bool (upd s.gr f true 0))).setCell ⟨nb, 13, none⟩ (.bool (upd s.gr f true 1))).setCell ⟨nb, 14, none⟩ (.bool (upd s.gr f true 2))).setCell ⟨nb, 15, none⟩ (.bool (upd s.gr f true 3))).setCell ⟨nb, 16, none⟩ (.bool (upd s.gr f true 4))).setCell ⟨nb, 17, none⟩ (.bool (upd s.gr f true 5))).setCell ⟨nb, 18, none⟩ (.bool (upd s.gr f true 6))) nb (s.addGrant f) lv) := (unhide hN2).setGr (upd s.gr f true)
              have HE3 : Hid (Ew nb w (((((((w2.setCell ⟨nb, 12, none⟩ (.bool (upd s.gr f true 0))).setCell ⟨nb, 13, none⟩ (.bool (upd s.gr f true 1))).setCell ⟨nb, 14, none⟩ (.bool (upd s.gr f true 2))).setCell ⟨nb, 15, none⟩ (.bool (upd s.gr f true 3))).setCell ⟨nb, 16, none⟩ (.bool (upd s.gr f true 4))).setCell ⟨nb, 17, none⟩ (.bool (upd s.gr f true 5))).setCell ⟨nb, 18, none⟩ (.bool (upd s.gr f true 6)))) := ((((((((Ew.ofBelow (unhide hB2)).set 12 _).set 13 _).set 14 _).set 15 _).set 16 _).set 17 _).set 18 _)
              have HL3 : Hid (NL (((((((w2.setCell ⟨nb, 12, none⟩ (.bool (upd s.gr f true 0))).setCell ⟨nb, 13, none⟩ (.bool (upd s.gr f true 1))).setCell ⟨nb, 14, none⟩ (.bool (upd s.gr f true 2))).setCell ⟨nb, 15, none⟩ (.bool (upd s.gr f true 3))).setCell ⟨nb, 16, none⟩ (.bool (upd s.gr f true 4))).setCell ⟨nb, 17, none⟩ (.bool (upd s.gr f true 5))).setCell ⟨nb, 18, none⟩ (.bool (upd s.gr f true 6))) (s.addGrant f) lv) := (unhide HL).ew (unhide H) (unhide HE3)
              have HO3 : Hid (Ok (s.addGrant f)) := (unhide HOK).addGrant f (by have h9 : m.src = (f : Int) := unhide HSR; omega)
              generalize (((((((w2.setCell ⟨nb, 12, none⟩ (.bool (upd s.gr f true 0))).setCell ⟨nb, 13, none⟩ (.bool (upd s.gr f true 1))).setCell ⟨nb, 14, none⟩ (.bool (upd s.gr f true 2))).setCell ⟨nb, 15, none⟩ (.bool (upd s.gr f true 3))).setCell ⟨nb, 16, none⟩ (.bool (upd s.gr f true 4))).setCell ⟨nb, 17, none⟩ (.bool (upd s.gr f true 5))).setCell ⟨nb, 18, none⟩ (.bool (upd s.gr f true 6))) = Y at *
              generalize s.addGrant f = t at *
              have HM := hide hm
              have k12 := (unhide HN3).c12
              have k13 := (unhide HN3).c13
              have k14 := (unhide HN3).c14
              have k15 := (unhide HN3).c15
              have k16 := (unhide HN3).c16
              have k17 := (unhide HN3).c17
              have k18 := (unhide HN3).c18
              go_wp2_with (first | (go_at_call 96; refine (size_any t.gr _).mono ?_; rintro e w4 ⟨rfl, hb4⟩; replace hb4 := hide hb4) | (go_at_call 94; refine (isMajority_any mu nb t lv (cnt t.gr) w4 ((unhide HN3).below (unhide hb4)) (unhide HO3).n7).mono ?_; rw [unhide HM]; rintro e w5 ⟨rfl, h5⟩; cases h5.symm))
              go_ret
              rw [unhide HR]
              exact Sent.quiet ((unhide HE3).below (unhide hb4)) ((unhide HN3).below (unhide hb4)) ((unhide HL3).below (unhide hb4))
        · have HR : Hid (s.stepVoteReply m = (s, [])) := by show _ = _; unfold Nd.stepVoteReply; rw [if_neg h1, if_neg (fun hx => h2 hx.2.2)]
          have b2 : (m.term != s.term) = true := by simpa using h2
          have b1 : (s.role != 2) = false := by simpa using h3
          have HG := hide hg
          clear hg h2 h3
          go_enter Tryz.func68, Tryz.ntmps68
          go_wp2
          generalize w.alloc (.cells #[.int .i64 m.kind, .int .i64 m.src, .int .i64 m.dst, .int .i64 m.term, .int .i64 m.index, .int .i64 m.logTerm, .int .i64 m.commit, .slice eo en ec, .bool m.granted] 30) = W at *
          clear c4 c7
          have x1 : W.cell? ⟨w.heap.size, 1, none⟩ = some (.int .i64 (f : Int)) := by rw [← unhide HSR]; exact cell_of_row W w.heap.size 1 _ _ _ (unhide HWM)
          have x3 : W.cell? ⟨w.heap.size, 3, none⟩ = some (.int .i64 m.term) := cell_of_row W w.heap.size 3 _ _ _ (unhide HWM)
          have x8 : W.cell? ⟨w.heap.size, 8, none⟩ = some (.bool true) := by rw [← unhide HG]; exact cell_of_row W w.heap.size 8 _ _ _ (unhide HWM)
          have c4 := (unhide HNW).c4
          have c7 := (unhide HNW).c7
          go_quiet (fail)
          go_wp2
          go_quiet (fail)
          go_wp2
          go_ret
          rw [unhide HR]
          exact Sent.quiet (((Ew.ofBelow (unhide HBW)).drewN _).drewN _) (NB.drewN (NB.drewN (unhide HNW) _) _) (NL.drewN (NL.drewN (unhide HLW) _) _)
      · have HR : Hid (s.stepVoteReply m = (s, [])) := by show _ = _; unfold Nd.stepVoteReply; rw [if_neg h1, if_neg (fun hx => h3 hx.2.1)]
        have b1 : (s.role != 2) = true := by simpa using h3
        have HG := hide hg
        clear hg h3
        go_enter Tryz.func68, Tryz.ntmps68
        go_wp2
        generalize w.alloc (.cells #[.int .i64 m.kind, .int .i64 m.src, .int .i64 m.dst, .int .i64 m.term, .int .i64 m.index, .int .i64 m.logTerm, .int .i64 m.commit, .slice eo en ec, .bool m.granted] 30) = W at *
        clear c4 c7
        have x1 : W.cell? ⟨w.heap.size, 1, none⟩ = some (.int .i64 (f : Int)) := by rw [← unhide HSR]; exact cell_of_row W w.heap.size 1 _ _ _ (unhide HWM)
        have x3 : W.cell? ⟨w.heap.size, 3, none⟩ = some (.int .i64 m.term) := cell_of_row W w.heap.size 3 _ _ _ (unhide HWM)
        have x8 : W.cell? ⟨w.heap.size, 8, none⟩ = some (.bool true) := by rw [← unhide HG]; exact cell_of_row W w.heap.size 8 _ _ _ (unhide HWM)
        have c4 := (unhide HNW).c4
        have c7 := (unhide HNW).c7
        go_quiet (fail)
        go_wp2
        go_quiet (fail)
        go_wp2
        go_ret
        rw [unhide HR]
        exact Sent.quiet (((Ew.ofBelow (unhide HBW)).drewN _).drewN _) (NB.drewN (NB.drewN (unhide HNW) _) _) (NL.drewN (NL.drewN (unhide HLW) _) _)

end Go.Proofs.YteiecbkfganhnaaGreat
