/- The program's node: goOn, goBack; The program's node: goBack; The program's node: an AppendReply. -/
import Derived.Test.YteiecbkfganhnaaGreatStepAsk
import Derived.Test.YteiecbkfganhnaaGreatKInvC
import Derived.Test.YteiecbkfganhnaaGreatKVoteRep

namespace Go.Proofs.YteiecbkfganhnaaGreat

open Go.RowKit Go.MuLone

/-- What a leader does that hears of k entries at f. -/
def Nd.goOn (s : Nd) (f k : Nat) : Nd × List Msg :=
  if k ≤ s.last ∧ s.mt f < k then (s.matched f k, if k + 1 ≤ s.last then [(s.matched f k).appendTo f] else []) else (s, [])

def Nd.goBack (s : Nd) (f k : Nat) : Nd × List Msg := (s.backs f k, [(s.backs f k).appendTo f])

theorem one_lt {f n : Nat} (h : f < n) : ∀ t ∈ [f], t < n := by
  intro t ht
  simp at ht
  omega

set_option maxRecDepth 100000 in
set_option maxHeartbeats 1000000 in
theorem goOn_any (mu : Int) (nb : Nat) (s : Nd) (lv : Value) (f k : Nat) (w : World) (h : NB mu w nb s lv) (hl : NL w s lv) (hok : Ok s) (hr : s.role = 3) (hf : f < s.n) (hk : k ≤ 1000000) :
    Calls Tryz.prog 117 #[.pointer (some ⟨nb, 0, none⟩), .int .i64 (f : Int), .int .i64 (k : Int)] w fun e w' => Sent mu nb lv w (s.goOn f k) e w' := by
  have hn7 := hok.n7
  have hf7 : (f : Int) < 7 := by omega
  have hf0 : (0 : Int) ≤ (f : Int) := by omega
  have c26 := h.mt (i := f) (by omega)
  have HF := hide hl.form
  have H := hide h
  have HL := hide hl
  have HOK := hide hok
  by_cases h1 : s.last < k
  · have d1 : decide ((s.last : Int) < (k : Int)) = true := decide_eq_true (by omega)
    have HR : Hid (s.goOn f k = (s, [])) := if_neg (by omega)
    clear h hl hok hr d1
    go_enter Tryz.func117, Tryz.ntmps117
    go_wp2_with (go_at_call 81; refine (last_any mu nb s _ _ (unhide H) (unhide HF)).mono ?_; rintro e w1 ⟨rfl, q1⟩; cases q1.symm)
    go_ret
    rw [unhide HR]
    exact Sent.quiet (Ew.refl nb w) (unhide H) (unhide HL)
  · have d1 : decide ((s.last : Int) < (k : Int)) = false := decide_eq_false (by omega)
    by_cases h2 : k ≤ s.mt f
    · have d2 : decide ((k : Int) ≤ (s.mt f : Int)) = true := decide_eq_true (by omega)
      have HR : Hid (s.goOn f k = (s, [])) := if_neg (by omega)
      clear h hl hok hr d1 d2
      go_enter Tryz.func117, Tryz.ntmps117
      go_wp2_with (go_at_call 81; refine (last_any mu nb s _ _ (unhide H) (unhide HF)).mono ?_; rintro e w1 ⟨rfl, q1⟩; cases q1.symm)
      go_ret
      rw [unhide HR]
      exact Sent.quiet (Ew.refl nb w) (unhide H) (unhide HL)
    · have d2 : decide ((k : Int) ≤ (s.mt f : Int)) = false := decide_eq_false (by omega)
      have HR : Hid (s.goOn f k = (s.matched f k, if k + 1 ≤ s.last then [(s.matched f k).appendTo f] else [])) := if_pos (by omega)
      have HKL : Hid (k ≤ s.last) := by show _ ≤ _; omega
      have f26 := h.free (26 + f)
      have g1 := h.setMt (i := f) (by omega) k
      have f19 := g1.free (19 + f)
      have c19 := g1.nx (i := f) (by omega)
      have g2 : NB mu ((w.setCell ⟨nb, 26 + f, none⟩ (.int .i64 (k : Int))).setCell ⟨nb, 19 + f, none⟩ (.int .i64 ((k : Int) + 1))) nb { s with mt := upd s.mt f k, nx := upd s.nx f (k + 1) } lv := g1.setNx (i := f) (by omega) (k + 1)
      have HN2 := hide g2
      have HE2 : Hid (Ew nb w ((w.setCell ⟨nb, 26 + f, none⟩ (.int .i64 (k : Int))).setCell ⟨nb, 19 + f, none⟩ (.int .i64 ((k : Int) + 1)))) := ((Ew.refl nb w).set _ _).set _ _
      have HNL2 : Hid (NL ((w.setCell ⟨nb, 26 + f, none⟩ (.int .i64 (k : Int))).setCell ⟨nb, 19 + f, none⟩ (.int .i64 ((k : Int) + 1))) ({ s with mt := upd s.mt f k, nx := upd s.nx f (k + 1) } : Nd) lv) := hl.ew h (unhide HE2)
      have HOK2 : Hid (Ok (s.matched f k)) := hok.matched f k (unhide HKL)
      have HLD2 : Hid (Leads (s.matched f k)) := (unhide HOK2).lead hr
      have HOL : Hid (OwnLast ({ s with mt := upd s.mt f k, nx := upd s.nx f (k + 1) } : Nd)) := ownLast_of (s := ({ s with mt := upd s.mt f k, nx := upd s.nx f (k + 1) } : Nd)) hok.log
      have HNX : Hid ((s.matched f k).nx f = k + 1) := by show upd s.nx f (k + 1) f = k + 1; unfold upd; rw [if_pos rfl]
      have HLA : Hid ((s.matched f k).last = s.last) := rfl
      have hla : ((s.matched f k).last : Int) = (s.last : Int) := rfl
      have hl60 := hok.len
      clear h hl hok g1 g2 hr d1 d2
      by_cases h3 : k + 1 ≤ s.last
      · have d3 : decide ((s.last : Int) < (k : Int) + 1) = false := decide_eq_false (by omega)
        have HR2 : Hid (s.goOn f k = (s.matched f k, [(s.matched f k).appendTo f])) := by show _ = _; rw [unhide HR, if_pos h3]
        clear h3 HR
        go_enter Tryz.func117, Tryz.ntmps117
        go_wp2_with (first | (go_at_call 81; refine (last_any mu nb s _ _ (unhide H) (unhide HF)).mono ?_; rintro e w1 ⟨rfl, q1⟩; cases q1.symm) | (go_at_call 122; refine (count_any mu nb _ lv _ (unhide HN2) (unhide HNL2) hl60 hn7 (unhide HOL)).mono ?_; rintro e w5 ⟨rfl, hN5, hE5⟩; have hL5 : NL w5 (s.matched f k) lv := ((unhide HNL2).ew (unhide HN2) hE5); have hE6 := hide ((unhide HE2).trans hE5); have hN6 : NB mu w5 nb (s.matched f k) lv := hN5; have e19 := hN6.nx (i := f) (by omega); rw [unhide HNX] at e19; have hF5 := hide hL5.form; replace hN6 := hide hN6; replace hL5 := hide hL5; clear hE5 hN5))
        go_quiet ((go_at_call 81; exact Calls.quiet_of_same (last_any mu nb (s.matched f k) _ _ (NB.drewN (unhide hN6) _) (unhide hF5))))
        have HE7 := hide ((unhide hE6).drewN nq)
        have HN7 : Hid (NB mu (w5.drewN nq) nb (s.matched f k) lv) := NB.drewN (unhide hN6) nq
        have HL7 : Hid (NL (w5.drewN nq) (s.matched f k) lv) := NL.drewN (unhide hL5) nq
        clear e19
        generalize w5.drewN nq = W7 at *
        go_wp2_with (first | (go_at_call 98; refine (sendAppends_any mu nb (s.matched f k) lv [f] _ _ ((unhide HN7).below (below_alloc _ _)) ((unhide HL7).below (below_alloc _ _)) (unhide HLD2) hn7 (by exact ints_at _ _ rfl _) (one_lt hf) (by simp)).mono ?_; rintro e w7 ⟨v, l, rfl, hm7, hb7⟩; replace hm7 := hide hm7; replace hb7 := hide hb7))
        go_ret
        rw [unhide HR2]
        exact Sent.told ((unhide HE7).below (below_alloc _ _)) ((unhide HN7).below (below_alloc _ _)) ((unhide HL7).below (below_alloc _ _)) (unhide hm7) (unhide hb7)
      · have d3 : decide ((s.last : Int) < (k : Int) + 1) = true := decide_eq_true (by omega)
        have HR2 : Hid (s.goOn f k = (s.matched f k, [])) := by show _ = _; rw [unhide HR, if_neg h3]
        clear h3 HR
        go_enter Tryz.func117, Tryz.ntmps117
        go_wp2_with (first | (go_at_call 81; refine (last_any mu nb s _ _ (unhide H) (unhide HF)).mono ?_; rintro e w1 ⟨rfl, q1⟩; cases q1.symm) | (go_at_call 122; refine (count_any mu nb _ lv _ (unhide HN2) (unhide HNL2) hl60 hn7 (unhide HOL)).mono ?_; rintro e w5 ⟨rfl, hN5, hE5⟩; have hL5 : NL w5 (s.matched f k) lv := ((unhide HNL2).ew (unhide HN2) hE5); have hE6 := hide ((unhide HE2).trans hE5); have hN6 : NB mu w5 nb (s.matched f k) lv := hN5; have e19 := hN6.nx (i := f) (by omega); rw [unhide HNX] at e19; have hF5 := hide hL5.form; replace hN6 := hide hN6; replace hL5 := hide hL5; clear hE5 hN5))
        go_quiet ((go_at_call 81; exact Calls.quiet_of_same (last_any mu nb (s.matched f k) _ _ (NB.drewN (unhide hN6) _) (unhide hF5))))
        go_wp2
        go_ret
        rw [unhide HR2]
        exact Sent.quiet ((unhide hE6).drewN _) (NB.drewN (unhide hN6) _) (NL.drewN (unhide hL5) _)

end Go.Proofs.YteiecbkfganhnaaGreat

namespace Go.Proofs.YteiecbkfganhnaaGreat

open Go.RowKit Go.MuLone

set_option maxRecDepth 100000 in
set_option maxHeartbeats 1000000 in
theorem goBack_any (mu : Int) (nb : Nat) (s : Nd) (lv : Value) (f k : Nat) (w : World) (h : NB mu w nb s lv) (hl : NL w s lv) (hok : Ok s) (hr : s.role = 3) (hf : f < s.n) (hk : k ≤ 1000000) :
    Calls Tryz.prog 118 #[.pointer (some ⟨nb, 0, none⟩), .int .i64 (f : Int), .int .i64 (k : Int)] w fun e w' => Sent mu nb lv w (s.goBack f k) e w' := by
  have hn7 := hok.n7
  have hf7 : (f : Int) < 7 := by omega
  have hf0 : (0 : Int) ≤ (f : Int) := by omega
  have c26 := h.mt (i := f) (by omega)
  have c19 := h.nx (i := f) (by omega)
  have f19 := h.free (19 + f)
  have hld := hok.lead hr
  have b1 := hld.lo f hf
  have b2 := hld.hi f hf
  have b3 := hld.mm f hf
  have b4 := hld.last
  obtain ⟨x, hx⟩ : ∃ x, max (s.mt f + 1) (min (s.nx f - 1) (k + 1)) = x := ⟨_, rfl⟩
  have HCV : Hid (max (min (IntKind.i64.wrap ((s.nx f : Int) - 1)) (IntKind.i64.wrap ((k : Int) + 1))) (IntKind.i64.wrap ((s.mt f : Int) + 1)) = (x : Int)) := by
    show _ = _
    rw [IntWalk.i64_in _ (by omega), IntWalk.i64_in _ (by omega), IntWalk.i64_in _ (by omega), ← hx]
    omega
  have HN2 : Hid (NB mu (w.setCell ⟨nb, 19 + f, none⟩ (.int .i64 (x : Int))) nb (s.backs f k) lv) := by
    have := h.setNx (i := f) (by omega) x
    rw [← hx] at this ⊢
    exact this
  have HE2 : Hid (Ew nb w (w.setCell ⟨nb, 19 + f, none⟩ (.int .i64 (x : Int)))) := (Ew.refl nb w).set _ _
  have HL2 : Hid (NL (w.setCell ⟨nb, 19 + f, none⟩ (.int .i64 (x : Int))) (s.backs f k) lv) := hl.ew h (unhide HE2)
  have HLD2 : Hid (Leads (s.backs f k)) := (hok.backs hr hf k).lead hr
  have HOK := hide hok
  clear h hl hok hx hld hr
  go_enter Tryz.func118, Tryz.ntmps118
  go_wp2
  go_region_law (fail)
  all_goals
    rw [unhide HCV]
    have HN3 : Hid (NB mu (w.setCell ⟨nb, 19 + f, none⟩ (.int .i64 (x : Int))).drew nb (s.backs f k) lv) := (unhide HN2).drew
    have HE3 := hide ((unhide HE2).drew)
    have HL3 : Hid (NL (w.setCell ⟨nb, 19 + f, none⟩ (.int .i64 (x : Int))).drew (s.backs f k) lv) := (unhide HL2).drew
    generalize (w.setCell ⟨nb, 19 + f, none⟩ (.int .i64 (x : Int))).drew = W7 at *
    go_wp2_with (first | (go_at_call 98; refine (sendAppends_any mu nb (s.backs f k) lv [f] _ _ ((unhide HN3).below (below_alloc _ _)) ((unhide HL3).below (below_alloc _ _)) (unhide HLD2) hn7 (by exact ints_at _ _ rfl _) (one_lt hf) (by simp)).mono ?_; rintro e w7 ⟨v, l, rfl, hm7, hb7⟩; replace hm7 := hide hm7; replace hb7 := hide hb7))
    go_ret
    exact Sent.told ((unhide HE3).below (below_alloc _ _)) ((unhide HN3).below (below_alloc _ _)) ((unhide HL3).below (below_alloc _ _)) (unhide hm7) (unhide hb7)

end Go.Proofs.YteiecbkfganhnaaGreat

namespace Go.Proofs.YteiecbkfganhnaaGreat

open Go.RowKit Go.MuLone

set_option maxRecDepth 100000 in
set_option maxHeartbeats 1000000 in
theorem stepAppendReply_any (mu : Int) (nb : Nat) (s : Nd) (lv : Value) (m : Msg) (ev : Value) (w : World) (h : NB mu w nb s lv) (hl : NL w s lv) (hok : Ok s) (hm : SoundM m s.id s.n) (hev : ∃ ao n c, ev = .slice ao n c) :
    Calls Tryz.prog 70 #[.pointer (some ⟨nb, 0, none⟩), magg m ev] w fun e w' => Sent mu nb lv w (s.stepAppendReply m) e w' := by
  obtain ⟨eo, en, ec, rfl⟩ := hev
  have hlt := h.lt
  have hne : ¬ nb = w.heap.size := by omega
  have hne2 : w.heap.size ≠ nb := fun h => hne h.symm
  have c4 := h.c4
  have c7 := h.c7
  have HBW := hide (below_alloc w (.cells #[.int .i64 m.kind, .int .i64 m.src, .int .i64 m.dst, .int .i64 m.term, .int .i64 m.index, .int .i64 m.logTerm, .int .i64 m.commit, .slice eo en ec, .bool m.granted] 30))
  have HWM := hide (heap_alloc_new w (.cells #[.int .i64 m.kind, .int .i64 m.src, .int .i64 m.dst, .int .i64 m.term, .int .i64 m.index, .int .i64 m.logTerm, .int .i64 m.commit, .slice eo en ec, .bool m.granted] 30))
  have HNW := hide (h.below (unhide HBW))
  have HLW := hide (hl.below (unhide HBW))
  have HSW : Hid (w.heap.size < (w.alloc (.cells #[.int .i64 m.kind, .int .i64 m.src, .int .i64 m.dst, .int .i64 m.term, .int .i64 m.index, .int .i64 m.logTerm, .int .i64 m.commit, .slice eo en ec, .bool m.granted] 30)).heap.size) := by show _ < _; rw [size_alloc1]; omega
  have H := hide h
  have HL := hide hl
  have HOK := hide hok
  have t0 := hok.t0
  have t1 := hok.t1
  have hn7 := hok.n7
  have hsrc := hm.s0
  have hsrn := hm.s1
  have hi0 := hm.i0
  have hi1 := hm.i1
  clear h hl hok hm
  obtain ⟨f, hf⟩ : ∃ f : Nat, m.src = f := ⟨m.src.toNat, by omega⟩
  obtain ⟨k, hk⟩ : ∃ k : Nat, m.index = k := ⟨m.index.toNat, by omega⟩
  have hf7 : f < 7 := by omega
  have hfn : f < s.n := by omega
  have hk1 : k ≤ 1000000 := by omega
  have HF : Hid (m.src.toNat = f) := by show _ = _; omega
  have HK : Hid (m.index.toNat = k) := by show _ = _; omega
  have HSR := hide hf
  have HIX := hide hk
  clear hf hk hsrc hsrn hi0 hi1
  by_cases h1 : s.term < m.term
  · have HR : Hid (s.stepAppendReply m = (s.follow m.term (-1), [])) := by show _ = _; unfold Nd.stepAppendReply; rw [if_pos h1]
    have d1 : decide (s.term < m.term) = true := decide_eq_true h1
    have hfr := follow_role s m.term (-1)
    go_enter Tryz.func70, Tryz.ntmps70
    go_wp2
    generalize w.alloc (.cells #[.int .i64 m.kind, .int .i64 m.src, .int .i64 m.dst, .int .i64 m.term, .int .i64 m.index, .int .i64 m.logTerm, .int .i64 m.commit, .slice eo en ec, .bool m.granted] 30) = W at *
    clear c4 c7
    have x3 : W.cell? ⟨w.heap.size, 3, none⟩ = some (.int .i64 m.term) := cell_of_row W w.heap.size 3 _ _ _ (unhide HWM)
    have c4 := (unhide HNW).c4
    have c7 := (unhide HNW).c7
    go_quiet (fail)
    go_wp2_with (go_at_call 97; refine (follow_any mu nb s lv m.term (-1) _ (NB.drewN (unhide HNW) _)).mono ?_; rintro e w2 ⟨rfl, hN2, hE2⟩; have hw2 := (hE2.block w.heap.size (unhide HSW) hne2).trans (unhide HWM); have y3 : w2.cell? ⟨w.heap.size, 3, none⟩ = some (.int .i64 m.term) := cell_of_row w2 w.heap.size 3 _ _ _ hw2; have k7 := hN2.c7; rw [hfr] at k7; have k4 := hN2.c4; clear hw2; replace hN2 := hide hN2; replace hE2 := hide hE2)
    go_quiet (fail)
    go_wp2
    go_ret
    rw [unhide HR]
    have hET := ((((Ew.ofBelow (unhide HBW)).drewN _).trans (unhide hE2)).drewN nq)
    exact Sent.quiet hET (NB.drewN (unhide hN2) _) (NL.follow (unhide HL) (unhide H) hET)
  · have d1 : decide (s.term < m.term) = false := decide_eq_false h1
    by_cases h3 : s.role = 3
    · have b1 : (s.role != 3) = false := by simpa using h3
      by_cases h2 : m.term = s.term
      · have b2 : (m.term != s.term) = false := by simpa using h2
        have HOH : Hid (Ok (s.hears f)) := (unhide HOK).hears hfn
        cases hg : m.granted with
        | true =>
          have HR : Hid (s.stepAppendReply m = (s.hears f).goOn f k) := by
            show _ = _
            unfold Nd.stepAppendReply; rw [if_neg h1, if_pos ⟨h3, h2⟩, if_pos hg, unhide HF, unhide HK]; unfold Nd.goOn; show (if k ≤ s.last ∧ s.mt f < k then _ else _) = (if k ≤ s.last ∧ s.mt f < k then _ else _); rfl
          have HG := hide hg
          have HRL : Hid ((s.hears f).role = 3) := h3
          clear hg h2 h3
          go_enter Tryz.func70, Tryz.ntmps70
          go_wp2
          generalize w.alloc (.cells #[.int .i64 m.kind, .int .i64 m.src, .int .i64 m.dst, .int .i64 m.term, .int .i64 m.index, .int .i64 m.logTerm, .int .i64 m.commit, .slice eo en ec, .bool m.granted] 30) = W at *
          clear c4 c7
          have x1 : W.cell? ⟨w.heap.size, 1, none⟩ = some (.int .i64 (f : Int)) := by rw [← unhide HSR]; exact cell_of_row W w.heap.size 1 _ _ _ (unhide HWM)
          have x3 : W.cell? ⟨w.heap.size, 3, none⟩ = some (.int .i64 m.term) := cell_of_row W w.heap.size 3 _ _ _ (unhide HWM)
          have c4 := (unhide HNW).c4
          have c7 := (unhide HNW).c7
          go_quiet (fail)
          go_wp2
          obtain ⟨n1, hn1⟩ : ∃ n1, n1 = nq := ⟨_, rfl⟩
          subst hn1
          go_quiet (fail)
          go_wp2
          have HNX : Hid (NB mu ((W.drewN n1).drewN nq) nb s lv) := NB.drewN (NB.drewN (unhide HNW) _) _
          have HBX : Hid (Below w.heap.size w ((W.drewN n1).drewN nq)) := below_drewN (below_drewN (unhide HBW) _) _
          have HSX : Hid (w.heap.size < ((W.drewN n1).drewN nq).heap.size) := unhide HSW
          have HMX : Hid (((W.drewN n1).drewN nq).heap[w.heap.size]? = some (.cells #[.int .i64 m.kind, .int .i64 m.src, .int .i64 m.dst, .int .i64 m.term, .int .i64 m.index, .int .i64 m.logTerm, .int .i64 m.commit, .slice eo en ec, .bool m.granted] 30 (0, 0))) := unhide HWM
          have xx1 : ((W.drewN n1).drewN nq).cell? ⟨w.heap.size, 1, none⟩ = some (.int .i64 (f : Int)) := x1
          clear x1 x3 c4 c7
          generalize (W.drewN n1).drewN nq = X at *
          have g33 : X.cell? ⟨nb, 33, none⟩ = some (.bool (s.hd 0)) := (unhide HNX).c33
          have g34 : X.cell? ⟨nb, 34, none⟩ = some (.bool (s.hd 1)) := (unhide HNX).c34
          have g35 : X.cell? ⟨nb, 35, none⟩ = some (.bool (s.hd 2)) := (unhide HNX).c35
          have g36 : X.cell? ⟨nb, 36, none⟩ = some (.bool (s.hd 3)) := (unhide HNX).c36
          have g37 : X.cell? ⟨nb, 37, none⟩ = some (.bool (s.hd 4)) := (unhide HNX).c37
          have g38 : X.cell? ⟨nb, 38, none⟩ = some (.bool (s.hd 5)) := (unhide HNX).c38
          have g39 : X.cell? ⟨nb, 39, none⟩ = some (.bool (s.hd 6)) := (unhide HNX).c39
          go_region_law (first | (go_simp; go_at_call 95; refine (with_any s.hd f X.drew hf7).mono ?_; rintro e w2 ⟨rfl, hb2⟩; have hN2 : NB mu w2 nb s lv := (NB.below (w := X.drew) (unhide HNX) hb2); have z33 := hN2.c33; have z34 := hN2.c34; have z35 := hN2.c35; have z36 := hN2.c36; have z37 := hN2.c37; have z38 := hN2.c38; have z39 := hN2.c39; have q33 := hN2.free 33; have q34 := hN2.free 34; have q35 := hN2.free 35; have q36 := hN2.free 36; have q37 := hN2.free 37; have q38 := hN2.free 38; have q39 := hN2.free 39; have y1 : w2.cell? ⟨w.heap.size, 1, none⟩ = some (.int .i64 (f : Int)) := ((hb2.cell (p := ⟨w.heap.size, 1, none⟩) (unhide HSX)).trans xx1); have hM2 := hide ((hb2.block w.heap.size (unhide HSX)).trans (unhide HMX)); replace hN2 := hide hN2; have hB2 := hide ((unhide HBX).trans ((Below.undrew hb2).mono (unhide HBX).size)); clear hb2))
          all_goals
            have HN3 : Hid (NB mu (((((((w2.setCell ⟨nb, 33, none⟩ (.bool (upd s.hd f true 0))).setCell ⟨nb, 34, none⟩ (.bool (upd s.hd f true 1))).setCell ⟨nb, 35, none⟩ (.bool (upd s.hd f true 2))).setCell ⟨nb, 36, none⟩ (.bool (upd s.hd f true 3))).setCell ⟨nb, 37, none⟩ (.bool (upd s.hd f true 4))).setCell ⟨nb, 38, none⟩ (.bool (upd s.hd f true 5))).setCell ⟨nb, 39, none⟩ (.bool (upd s.hd f true 6))) nb (s.hears f) lv) := (unhide hN2).setHd (upd s.hd f true)
            have HE3 : Hid (Ew nb w (((((((w2.setCell ⟨nb, 33, none⟩ (.bool (upd s.hd f true 0))).setCell ⟨nb, 34, none⟩ (.bool (upd s.hd f true 1))).setCell ⟨nb, 35, none⟩ (.bool (upd s.hd f true 2))).setCell ⟨nb, 36, none⟩ (.bool (upd s.hd f true 3))).setCell ⟨nb, 37, none⟩ (.bool (upd s.hd f true 4))).setCell ⟨nb, 38, none⟩ (.bool (upd s.hd f true 5))).setCell ⟨nb, 39, none⟩ (.bool (upd s.hd f true 6)))) := ((((((((Ew.ofBelow (unhide hB2)).set 33 _).set 34 _).set 35 _).set 36 _).set 37 _).set 38 _).set 39 _)
            have HL3 : Hid (NL (((((((w2.setCell ⟨nb, 33, none⟩ (.bool (upd s.hd f true 0))).setCell ⟨nb, 34, none⟩ (.bool (upd s.hd f true 1))).setCell ⟨nb, 35, none⟩ (.bool (upd s.hd f true 2))).setCell ⟨nb, 36, none⟩ (.bool (upd s.hd f true 3))).setCell ⟨nb, 37, none⟩ (.bool (upd s.hd f true 4))).setCell ⟨nb, 38, none⟩ (.bool (upd s.hd f true 5))).setCell ⟨nb, 39, none⟩ (.bool (upd s.hd f true 6))) (s.hears f) lv) := (unhide HL).ew (unhide H) (unhide HE3)
            have HM3 : Hid ((((((((w2.setCell ⟨nb, 33, none⟩ (.bool (upd s.hd f true 0))).setCell ⟨nb, 34, none⟩ (.bool (upd s.hd f true 1))).setCell ⟨nb, 35, none⟩ (.bool (upd s.hd f true 2))).setCell ⟨nb, 36, none⟩ (.bool (upd s.hd f true 3))).setCell ⟨nb, 37, none⟩ (.bool (upd s.hd f true 4))).setCell ⟨nb, 38, none⟩ (.bool (upd s.hd f true 5))).setCell ⟨nb, 39, none⟩ (.bool (upd s.hd f true 6))).heap[w.heap.size]? = some (.cells #[.int .i64 m.kind, .int .i64 m.src, .int .i64 m.dst, .int .i64 m.term, .int .i64 m.index, .int .i64 m.logTerm, .int .i64 m.commit, .slice eo en ec, .bool m.granted] 30 (0, 0))) := (((((((Ew.refl nb w2).set 33 _).set 34 _).set 35 _).set 36 _).set 37 _).set 38 _ |>.set 39 _).block w.heap.size (Array.getElem?_eq_some_iff.1 (unhide hM2)).1 hne2 |>.trans (unhide hM2)
            clear z33 z34 z35 z36 z37 z38 z39 q33 q34 q35 q36 q37 q38 q39 y1
            generalize (((((((w2.setCell ⟨nb, 33, none⟩ (.bool (upd s.hd f true 0))).setCell ⟨nb, 34, none⟩ (.bool (upd s.hd f true 1))).setCell ⟨nb, 35, none⟩ (.bool (upd s.hd f true 2))).setCell ⟨nb, 36, none⟩ (.bool (upd s.hd f true 3))).setCell ⟨nb, 37, none⟩ (.bool (upd s.hd f true 4))).setCell ⟨nb, 38, none⟩ (.bool (upd s.hd f true 5))).setCell ⟨nb, 39, none⟩ (.bool (upd s.hd f true 6))) = Y at *
            have u1 : Y.cell? ⟨w.heap.size, 1, none⟩ = some (.int .i64 (f : Int)) := by rw [← unhide HSR]; exact cell_of_row Y w.heap.size 1 _ _ _ (unhide HM3)
            have u4 : Y.cell? ⟨w.heap.size, 4, none⟩ = some (.int .i64 (k : Int)) := by rw [← unhide HIX]; exact cell_of_row Y w.heap.size 4 _ _ _ (unhide HM3)
            have u8 : Y.cell? ⟨w.heap.size, 8, none⟩ = some (.bool true) := by rw [← unhide HG]; exact cell_of_row Y w.heap.size 8 _ _ _ (unhide HM3)
            go_wp2_with (first | (go_at_call 117; refine (goOn_any mu nb (s.hears f) lv f k _ (unhide HN3) (unhide HL3) (unhide HOH) (unhide HRL) hfn hk1).mono ?_; intro e w6 hx6; obtain ⟨v, l, lv', rfl, hx6⟩ := hx6; replace hx6 := hide hx6))
            go_ret
            rw [unhide HR]
            exact Sent.ahead (unhide HE3) ⟨v, l, lv', rfl, unhide hx6⟩
        | false =>
          have HR : Hid (s.stepAppendReply m = (s.hears f).goBack f k) := by
            show _ = _
            unfold Nd.stepAppendReply; rw [if_neg h1, if_pos ⟨h3, h2⟩, if_neg (by simp [hg]), unhide HF, unhide HK]; rfl
          have HG := hide hg
          have HRL : Hid ((s.hears f).role = 3) := h3
          clear hg h2 h3
          go_enter Tryz.func70, Tryz.ntmps70
          go_wp2
          generalize w.alloc (.cells #[.int .i64 m.kind, .int .i64 m.src, .int .i64 m.dst, .int .i64 m.term, .int .i64 m.index, .int .i64 m.logTerm, .int .i64 m.commit, .slice eo en ec, .bool m.granted] 30) = W at *
          clear c4 c7
          have x1 : W.cell? ⟨w.heap.size, 1, none⟩ = some (.int .i64 (f : Int)) := by rw [← unhide HSR]; exact cell_of_row W w.heap.size 1 _ _ _ (unhide HWM)
          have x3 : W.cell? ⟨w.heap.size, 3, none⟩ = some (.int .i64 m.term) := cell_of_row W w.heap.size 3 _ _ _ (unhide HWM)
          have c4 := (unhide HNW).c4
          have c7 := (unhide HNW).c7
          go_quiet (fail)
          go_wp2
          obtain ⟨n1, hn1⟩ : ∃ n1, n1 = nq := ⟨_, rfl⟩
          subst hn1
          go_quiet (fail)
          go_wp2
          have HNX : Hid (NB mu ((W.drewN n1).drewN nq) nb s lv) := NB.drewN (NB.drewN (unhide HNW) _) _
          have HBX : Hid (Below w.heap.size w ((W.drewN n1).drewN nq)) := below_drewN (below_drewN (unhide HBW) _) _
          have HSX : Hid (w.heap.size < ((W.drewN n1).drewN nq).heap.size) := unhide HSW
          have HMX : Hid (((W.drewN n1).drewN nq).heap[w.heap.size]? = some (.cells #[.int .i64 m.kind, .int .i64 m.src, .int .i64 m.dst, .int .i64 m.term, .int .i64 m.index, .int .i64 m.logTerm, .int .i64 m.commit, .slice eo en ec, .bool m.granted] 30 (0, 0))) := unhide HWM
          have xx1 : ((W.drewN n1).drewN nq).cell? ⟨w.heap.size, 1, none⟩ = some (.int .i64 (f : Int)) := x1
          clear x1 x3 c4 c7
          generalize (W.drewN n1).drewN nq = X at *
          have g33 : X.cell? ⟨nb, 33, none⟩ = some (.bool (s.hd 0)) := (unhide HNX).c33
          have g34 : X.cell? ⟨nb, 34, none⟩ = some (.bool (s.hd 1)) := (unhide HNX).c34
          have g35 : X.cell? ⟨nb, 35, none⟩ = some (.bool (s.hd 2)) := (unhide HNX).c35
          have g36 : X.cell? ⟨nb, 36, none⟩ = some (.bool (s.hd 3)) := (unhide HNX).c36
          have g37 : X.cell? ⟨nb, 37, none⟩ = some (.bool (s.hd 4)) := (unhide HNX).c37
          have g38 : X.cell? ⟨nb, 38, none⟩ = some (.bool (s.hd 5)) := (unhide HNX).c38
          have g39 : X.cell? ⟨nb, 39, none⟩ = some (.bool (s.hd 6)) := (unhide HNX).c39
          go_region_law (first | (go_simp; go_at_call 95; refine (with_any s.hd f X.drew hf7).mono ?_; rintro e w2 ⟨rfl, hb2⟩; have hN2 : NB mu w2 nb s lv := (NB.below (w := X.drew) (unhide HNX) hb2); have z33 := hN2.c33; have z34 := hN2.c34; have z35 := hN2.c35; have z36 := hN2.c36; have z37 := hN2.c37; have z38 := hN2.c38; have z39 := hN2.c39; have q33 := hN2.free 33; have q34 := hN2.free 34; have q35 := hN2.free 35; have q36 := hN2.free 36; have q37 := hN2.free 37; have q38 := hN2.free 38; have q39 := hN2.free 39; have y1 : w2.cell? ⟨w.heap.size, 1, none⟩ = some (.int .i64 (f : Int)) := ((hb2.cell (p := ⟨w.heap.size, 1, none⟩) (unhide HSX)).trans xx1); have hM2 := hide ((hb2.block w.heap.size (unhide HSX)).trans (unhide HMX)); replace hN2 := hide hN2; have hB2 := hide ((unhide HBX).trans ((Below.undrew hb2).mono (unhide HBX).size)); clear hb2))
          all_goals
            have HN3 : Hid (NB mu (((((((w2.setCell ⟨nb, 33, none⟩ (.bool (upd s.hd f true 0))).setCell ⟨nb, 34, none⟩ (.bool (upd s.hd f true 1))).setCell ⟨nb, 35, none⟩ (.bool (upd s.hd f true 2))).setCell ⟨nb, 36, none⟩ (.bool (upd s.hd f true 3))).setCell ⟨nb, 37, none⟩ (.bool (upd s.hd f true 4))).setCell ⟨nb, 38, none⟩ (.bool (upd s.hd f true 5))).setCell ⟨nb, 39, none⟩ (.bool (upd s.hd f true 6))) nb (s.hears f) lv) := (unhide hN2).setHd (upd s.hd f true)
            have HE3 : Hid (Ew nb w (((((((w2.setCell ⟨nb, 33, none⟩ (.bool (upd s.hd f true 0))).setCell ⟨nb, 34, none⟩ (.bool (upd s.hd f true 1))).setCell ⟨nb, 35, none⟩ (.bool (upd s.hd f true 2))).setCell ⟨nb, 36, none⟩ (.bool (upd s.hd f true 3))).setCell ⟨nb, 37, none⟩ (.bool (upd s.hd f true 4))).setCell ⟨nb, 38, none⟩ (.bool (upd s.hd f true 5))).setCell ⟨nb, 39, none⟩ (.bool (upd s.hd f true 6)))) := ((((((((Ew.ofBelow (unhide hB2)).set 33 _).set 34 _).set 35 _).set 36 _).set 37 _).set 38 _).set 39 _)
            have HL3 : Hid (NL (((((((w2.setCell ⟨nb, 33, none⟩ (.bool (upd s.hd f true 0))).setCell ⟨nb, 34, none⟩ (.bool (upd s.hd f true 1))).setCell ⟨nb, 35, none⟩ (.bool (upd s.hd f true 2))).setCell ⟨nb, 36, none⟩ (.bool (upd s.hd f true 3))).setCell ⟨nb, 37, none⟩ (.bool (upd s.hd f true 4))).setCell ⟨nb, 38, none⟩ (.bool (upd s.hd f true 5))).setCell ⟨nb, 39, none⟩ (.bool (upd s.hd f true 6))) (s.hears f) lv) := (unhide HL).ew (unhide H) (unhide HE3)
            have HM3 : Hid ((((((((w2.setCell ⟨nb, 33, none⟩ (.bool (upd s.hd f true 0))).setCell ⟨nb, 34, none⟩ (.bool (upd s.hd f true 1))).setCell ⟨nb, 35, none⟩ (.bool (upd s.hd f true 2))).setCell ⟨nb, 36, none⟩ (.bool (upd s.hd f true 3))).setCell ⟨nb, 37, none⟩ (.bool (upd s.hd f true 4))).setCell ⟨nb, 38, none⟩ (.bool (upd s.hd f true 5))).setCell ⟨nb, 39, none⟩ (.bool (upd s.hd f true 6))).heap[w.heap.size]? = some (.cells #[.int .i64 m.kind, .int .i64 m.src, .int .i64 m.dst, .int .i64 m.term, .int .i64 m.index, .int .i64 m.logTerm, .int .i64 m.commit, .slice eo en ec, .bool m.granted] 30 (0, 0))) := (((((((Ew.refl nb w2).set 33 _).set 34 _).set 35 _).set 36 _).set 37 _).set 38 _ |>.set 39 _).block w.heap.size (Array.getElem?_eq_some_iff.1 (unhide hM2)).1 hne2 |>.trans (unhide hM2)
            clear z33 z34 z35 z36 z37 z38 z39 q33 q34 q35 q36 q37 q38 q39 y1
            generalize (((((((w2.setCell ⟨nb, 33, none⟩ (.bool (upd s.hd f true 0))).setCell ⟨nb, 34, none⟩ (.bool (upd s.hd f true 1))).setCell ⟨nb, 35, none⟩ (.bool (upd s.hd f true 2))).setCell ⟨nb, 36, none⟩ (.bool (upd s.hd f true 3))).setCell ⟨nb, 37, none⟩ (.bool (upd s.hd f true 4))).setCell ⟨nb, 38, none⟩ (.bool (upd s.hd f true 5))).setCell ⟨nb, 39, none⟩ (.bool (upd s.hd f true 6))) = Y at *
            have u1 : Y.cell? ⟨w.heap.size, 1, none⟩ = some (.int .i64 (f : Int)) := by rw [← unhide HSR]; exact cell_of_row Y w.heap.size 1 _ _ _ (unhide HM3)
            have u4 : Y.cell? ⟨w.heap.size, 4, none⟩ = some (.int .i64 (k : Int)) := by rw [← unhide HIX]; exact cell_of_row Y w.heap.size 4 _ _ _ (unhide HM3)
            have u8 : Y.cell? ⟨w.heap.size, 8, none⟩ = some (.bool false) := by rw [← unhide HG]; exact cell_of_row Y w.heap.size 8 _ _ _ (unhide HM3)
            go_wp2_with (first | (go_at_call 118; refine (goBack_any mu nb (s.hears f) lv f k _ (unhide HN3) (unhide HL3) (unhide HOH) (unhide HRL) hfn hk1).mono ?_; intro e w6 hx6; obtain ⟨v, l, lv', rfl, hx6⟩ := hx6; replace hx6 := hide hx6))
            go_ret
            rw [unhide HR]
            exact Sent.ahead (unhide HE3) ⟨v, l, lv', rfl, unhide hx6⟩
      · have b2 : (m.term != s.term) = true := by simpa using h2
        have HR : Hid (s.stepAppendReply m = (s, [])) := by show _ = _; unfold Nd.stepAppendReply; rw [if_neg h1, if_neg (fun hx => h2 hx.2)]
        clear h2 h3
        go_enter Tryz.func70, Tryz.ntmps70
        go_wp2
        generalize w.alloc (.cells #[.int .i64 m.kind, .int .i64 m.src, .int .i64 m.dst, .int .i64 m.term, .int .i64 m.index, .int .i64 m.logTerm, .int .i64 m.commit, .slice eo en ec, .bool m.granted] 30) = W at *
        clear c4 c7
        have x1 : W.cell? ⟨w.heap.size, 1, none⟩ = some (.int .i64 (f : Int)) := by rw [← unhide HSR]; exact cell_of_row W w.heap.size 1 _ _ _ (unhide HWM)
        have x3 : W.cell? ⟨w.heap.size, 3, none⟩ = some (.int .i64 m.term) := cell_of_row W w.heap.size 3 _ _ _ (unhide HWM)
        have c4 := (unhide HNW).c4
        have c7 := (unhide HNW).c7
        go_quiet (fail)
        go_wp2
        obtain ⟨n1, hn1⟩ : ∃ n1, n1 = nq := ⟨_, rfl⟩
        subst hn1
        go_quiet (fail)
        go_wp2
        go_ret
        rw [unhide HR]
        exact Sent.quiet (((Ew.ofBelow (unhide HBW)).drewN n1).drewN nq) (NB.drewN (NB.drewN (unhide HNW) n1) nq) (NL.drewN (NL.drewN (unhide HLW) n1) nq)
    · have b1 : (s.role != 3) = true := by simpa using h3
      have HR : Hid (s.stepAppendReply m = (s, [])) := by show _ = _; unfold Nd.stepAppendReply; rw [if_neg h1, if_neg (fun hx => h3 hx.1)]
      clear h3
      go_enter Tryz.func70, Tryz.ntmps70
      go_wp2
      generalize w.alloc (.cells #[.int .i64 m.kind, .int .i64 m.src, .int .i64 m.dst, .int .i64 m.term, .int .i64 m.index, .int .i64 m.logTerm, .int .i64 m.commit, .slice eo en ec, .bool m.granted] 30) = W at *
      clear c4 c7
      have x1 : W.cell? ⟨w.heap.size, 1, none⟩ = some (.int .i64 (f : Int)) := by rw [← unhide HSR]; exact cell_of_row W w.heap.size 1 _ _ _ (unhide HWM)
      have x3 : W.cell? ⟨w.heap.size, 3, none⟩ = some (.int .i64 m.term) := cell_of_row W w.heap.size 3 _ _ _ (unhide HWM)
      have c4 := (unhide HNW).c4
      have c7 := (unhide HNW).c7
      go_quiet (fail)
      go_wp2
      obtain ⟨n1, hn1⟩ : ∃ n1, n1 = nq := ⟨_, rfl⟩
      subst hn1
      go_quiet (fail)
      go_wp2
      go_ret
      rw [unhide HR]
      exact Sent.quiet (((Ew.ofBelow (unhide HBW)).drewN n1).drewN nq) (NB.drewN (NB.drewN (unhide HNW) n1) nq) (NL.drewN (NL.drewN (unhide HLW) n1) nq)

end Go.Proofs.YteiecbkfganhnaaGreat
