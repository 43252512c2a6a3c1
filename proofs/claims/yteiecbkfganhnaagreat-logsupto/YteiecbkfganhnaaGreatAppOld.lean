/- The program's node: an Append that is refused. -/
import Derived.Test.YteiecbkfganhnaaGreatKTake

namespace Go.Proofs.YteiecbkfganhnaaGreat

open Go.RowKit Go.MuLone

theorem appS_facts (s : Nd) (m : Msg) : (s.appS m).last = s.last ∧ (s.appS m).log = s.log ∧ (s.appS m).commit = s.commit ∧ (s.appS m).n = s.n ∧ (s.appS m).id = s.id := by
  unfold Nd.appS Nd.follow
  split <;> exact ⟨rfl, rfl, rfl, rfl, rfl⟩

theorem NL.appS {mu : Int} {w w' : World} {nb : Nat} {s : Nd} {lv : Value} {m : Msg} (h : NL w s lv) (hN : NB mu w nb s lv) (he : Ew nb w w') : NL w' (s.appS m) lv := by
  unfold NL
  rw [(appS_facts s m).2.1]
  exact h.ew hN he

set_option maxRecDepth 100000 in
set_option maxHeartbeats 1000000 in
theorem stepAppend_old (mu : Int) (nb : Nat) (s : Nd) (lv : Value) (m : Msg) (w : World) (h : NB mu w nb s lv) (hl : NL w s lv) (hok : Ok s) (eo : Option Addr) (ec : Nat) (h1 : m.term < s.term) :
    Calls Tryz.prog 69 #[.pointer (some ⟨nb, 0, none⟩), magg m (.slice eo m.ents.length ec)] w fun e w' => Sent mu nb lv w (s.stepAppend m) e w' := by
  have hlt := h.lt
  have hne : ¬ nb = w.heap.size := by omega
  have hne2 : w.heap.size ≠ nb := fun h => hne h.symm
  have c4 := h.c4
  have c7 := h.c7
  have HBW := hide (below_alloc w (.cells #[.int .i64 m.kind, .int .i64 m.src, .int .i64 m.dst, .int .i64 m.term, .int .i64 m.index, .int .i64 m.logTerm, .int .i64 m.commit, .slice eo m.ents.length ec, .bool m.granted] 30))
  have HWM := hide (heap_alloc_new w (.cells #[.int .i64 m.kind, .int .i64 m.src, .int .i64 m.dst, .int .i64 m.term, .int .i64 m.index, .int .i64 m.logTerm, .int .i64 m.commit, .slice eo m.ents.length ec, .bool m.granted] 30))
  have HNW := hide (h.below (unhide HBW))
  have HLW := hide (hl.below (unhide HBW))
  have HSW : Hid (w.heap.size < (w.alloc (.cells #[.int .i64 m.kind, .int .i64 m.src, .int .i64 m.dst, .int .i64 m.term, .int .i64 m.index, .int .i64 m.logTerm, .int .i64 m.commit, .slice eo m.ents.length ec, .bool m.granted] 30)).heap.size) := by show _ < _; rw [size_alloc1]; omega
  have H := hide h
  have HL := hide hl
  have HOK := hide hok
  clear h hl hok
  have HR : Hid (s.stepAppend m = (s, [s.reply 5 m.src s.term 0 false])) := if_pos h1
  have d1 : decide (m.term < s.term) = true := decide_eq_true h1
  go_enter Tryz.func69, Tryz.ntmps69
  go_wp2
  generalize w.alloc (.cells #[.int .i64 m.kind, .int .i64 m.src, .int .i64 m.dst, .int .i64 m.term, .int .i64 m.index, .int .i64 m.logTerm, .int .i64 m.commit, .slice eo m.ents.length ec, .bool m.granted] 30) = W at *
  clear c4 c7
  have x1 : W.cell? ⟨w.heap.size, 1, none⟩ = some (.int .i64 m.src) := cell_of_row W w.heap.size 1 _ _ _ (unhide HWM)
  have x3 : W.cell? ⟨w.heap.size, 3, none⟩ = some (.int .i64 m.term) := cell_of_row W w.heap.size 3 _ _ _ (unhide HWM)
  have c4 := (unhide HNW).c4
  have c7 := (unhide HNW).c7
  go_quiet (fail)
  go_wp2
  have HNZ : Hid (NB mu (W.drewN nq) nb s lv) := NB.drewN (unhide HNW) _
  have HLZ : Hid (NL (W.drewN nq) s lv) := NL.drewN (unhide HLW) _
  have HEZ : Hid (Ew nb w (W.drewN nq)) := (Ew.ofBelow (unhide HBW)).drewN _
  have HMZ : Hid ((W.drewN nq).heap[w.heap.size]? = some (.cells #[.int .i64 m.kind, .int .i64 m.src, .int .i64 m.dst, .int .i64 m.term, .int .i64 m.index, .int .i64 m.logTerm, .int .i64 m.commit, .slice eo m.ents.length ec, .bool m.granted] 30 (0, 0))) := unhide HWM
  clear x1 x3 c4 c7
  generalize W.drewN nq = Z at *
  have hltZ := (unhide HNZ).lt
  have hmbZ2 : w.heap.size < Z.heap.size := (Array.getElem?_eq_some_iff.1 (unhide HMZ)).1
  have hneZ : ¬ nb = Z.heap.size := by omega
  have hmbZ : ¬ w.heap.size = Z.heap.size := by omega
  have hmbZ3 : ¬ Z.heap.size = w.heap.size := by omega
  have z4 := (unhide HNZ).c4
  have zm1 : Z.cell? ⟨w.heap.size, 1, none⟩ = some (.int .i64 m.src) := cell_of_row Z w.heap.size 1 _ _ _ (unhide HMZ)
  go_region_law (first | (go_simp; go_at_call 111; refine (send_one mu nb s _ { kind := 5, src := 0, dst := 0, term := s.term, index := 0, logTerm := 0, commit := 0, ents := [], granted := false } m.src Z (unhide HNZ) rfl).mono ?_; rintro e w6 ⟨v, rfl, hm6, hb6⟩; replace hm6 := hide hm6; replace hb6 := hide hb6))
  all_goals go_wp2
  all_goals go_ret
  all_goals
    rw [unhide HR]
    exact Sent.told (unhide HEZ) (unhide HNZ) (unhide HLZ) (unhide hm6) (unhide hb6)

set_option maxRecDepth 100000 in
set_option maxHeartbeats 1000000 in
theorem stepAppend_lead (mu : Int) (nb : Nat) (s : Nd) (lv : Value) (m : Msg) (w : World) (h : NB mu w nb s lv) (hl : NL w s lv) (hok : Ok s) (eo : Option Addr) (ec : Nat) (h1 : m.term = s.term) (h3 : s.role = 3) :
    Calls Tryz.prog 69 #[.pointer (some ⟨nb, 0, none⟩), magg m (.slice eo m.ents.length ec)] w fun e w' => Sent mu nb lv w (s.stepAppend m) e w' := by
  have hlt := h.lt
  have hne : ¬ nb = w.heap.size := by omega
  have hne2 : w.heap.size ≠ nb := fun h => hne h.symm
  have c4 := h.c4
  have c7 := h.c7
  have HBW := hide (below_alloc w (.cells #[.int .i64 m.kind, .int .i64 m.src, .int .i64 m.dst, .int .i64 m.term, .int .i64 m.index, .int .i64 m.logTerm, .int .i64 m.commit, .slice eo m.ents.length ec, .bool m.granted] 30))
  have HWM := hide (heap_alloc_new w (.cells #[.int .i64 m.kind, .int .i64 m.src, .int .i64 m.dst, .int .i64 m.term, .int .i64 m.index, .int .i64 m.logTerm, .int .i64 m.commit, .slice eo m.ents.length ec, .bool m.granted] 30))
  have HNW := hide (h.below (unhide HBW))
  have HLW := hide (hl.below (unhide HBW))
  have HSW : Hid (w.heap.size < (w.alloc (.cells #[.int .i64 m.kind, .int .i64 m.src, .int .i64 m.dst, .int .i64 m.term, .int .i64 m.index, .int .i64 m.logTerm, .int .i64 m.commit, .slice eo m.ents.length ec, .bool m.granted] 30)).heap.size) := by show _ < _; rw [size_alloc1]; omega
  have H := hide h
  have HL := hide hl
  have HOK := hide hok
  clear h hl hok
  have HR : Hid (s.stepAppend m = (s, [])) := by show _ = _; unfold Nd.stepAppend; rw [if_neg (by omega), if_pos ⟨h1, h3⟩]
  have d1 : decide (m.term < s.term) = false := decide_eq_false (by omega)
  have b1 : (m.term == s.term) = true := by simpa using h1
  have b3 : (s.role == 3) = true := by simpa using h3
  clear h1 h3
  go_enter Tryz.func69, Tryz.ntmps69
  go_wp2
  generalize w.alloc (.cells #[.int .i64 m.kind, .int .i64 m.src, .int .i64 m.dst, .int .i64 m.term, .int .i64 m.index, .int .i64 m.logTerm, .int .i64 m.commit, .slice eo m.ents.length ec, .bool m.granted] 30) = W at *
  clear c4 c7
  have x1 : W.cell? ⟨w.heap.size, 1, none⟩ = some (.int .i64 m.src) := cell_of_row W w.heap.size 1 _ _ _ (unhide HWM)
  have x3 : W.cell? ⟨w.heap.size, 3, none⟩ = some (.int .i64 m.term) := cell_of_row W w.heap.size 3 _ _ _ (unhide HWM)
  have c4 := (unhide HNW).c4
  have c7 := (unhide HNW).c7
  go_quiet (fail)
  go_wp2
  go_quiet (fail)
  go_wp2
  go_ret
  rw [unhide HR]
  exact Sent.quiet (((Ew.ofBelow (unhide HBW)).drewN _).drewN _) (NB.drewN (NB.drewN (unhide HNW) _) _) (NL.drewN (NL.drewN (unhide HLW) _) _)

set_option maxRecDepth 100000 in
set_option maxHeartbeats 1000000 in
theorem stepAppend_far (mu : Int) (nb : Nat) (s : Nd) (lv : Value) (m : Msg) (w : World) (h : NB mu w nb s lv) (hl : NL w s lv) (hok : Ok s) (i : Nat) (eo : Option Addr) (ec : Nat) (h1 : ¬ m.term < s.term) (h3 : ¬ (m.term = s.term ∧ s.role = 3)) (hi : m.index = (i : Int)) (hi6 : i ≤ 1000000) (h4 : s.last < i ∨ s.termOf i ≠ m.logTerm) :
    Calls Tryz.prog 69 #[.pointer (some ⟨nb, 0, none⟩), magg m (.slice eo m.ents.length ec)] w fun e w' => Sent mu nb lv w (s.stepAppend m) e w' := by
  have hlt := h.lt
  have hne : ¬ nb = w.heap.size := by omega
  have hne2 : w.heap.size ≠ nb := fun h => hne h.symm
  have c4 := h.c4
  have c7 := h.c7
  have HBW := hide (below_alloc w (.cells #[.int .i64 m.kind, .int .i64 m.src, .int .i64 m.dst, .int .i64 m.term, .int .i64 m.index, .int .i64 m.logTerm, .int .i64 m.commit, .slice eo m.ents.length ec, .bool m.granted] 30))
  have HWM := hide (heap_alloc_new w (.cells #[.int .i64 m.kind, .int .i64 m.src, .int .i64 m.dst, .int .i64 m.term, .int .i64 m.index, .int .i64 m.logTerm, .int .i64 m.commit, .slice eo m.ents.length ec, .bool m.granted] 30))
  have HNW := hide (h.below (unhide HBW))
  have HLW := hide (hl.below (unhide HBW))
  have HSW : Hid (w.heap.size < (w.alloc (.cells #[.int .i64 m.kind, .int .i64 m.src, .int .i64 m.dst, .int .i64 m.term, .int .i64 m.index, .int .i64 m.logTerm, .int .i64 m.commit, .slice eo m.ents.length ec, .bool m.granted] 30)).heap.size) := by show _ < _; rw [size_alloc1]; omega
  have H := hide h
  have HL := hide hl
  have HOK := hide hok
  clear h hl hok
  have d1 : decide (m.term < s.term) = false := decide_eq_false h1
  have HLS : Hid ((s.appS m).last = s.last ∧ (s.appS m).log = s.log ∧ (s.appS m).commit = s.commit ∧ (s.appS m).n = s.n ∧ (s.appS m).id = s.id) := appS_facts s m
  have HI := hide hi
  have HITN : Hid (m.index.toNat = i) := by show _ = _; rw [hi]; omega
  have HG3 : Hid ((m.term == s.term) = false ∨ ((m.term == s.term) = true ∧ (s.role == 3) = false)) := by
    show _ ∨ _
    by_cases e1 : m.term = s.term
    · exact .inr ⟨by simpa using e1, by simpa using fun e3 => h3 ⟨e1, e3⟩⟩
    · exact .inl (by simpa using e1)
  have HR : Hid (s.stepAppend m = (s.appS m, [(s.appS m).reply 5 m.src (s.appS m).term (min (s.last : Int) (max 0 ((i : Int) - 1))) false])) := by
    show _ = _
    unfold Nd.stepAppend
    rw [if_neg h1, if_neg h3, if_pos (by rw [hi, Int.toNat_natCast]; rcases h4 with h | h; exact .inl (by omega); exact .inr h), hi]
  clear hi
  rcases unhide HG3 with b1 | ⟨b1, b3⟩
  all_goals
    by_cases h5 : s.last < i
    · clear h4
      go_enter Tryz.func69, Tryz.ntmps69
      go_wp2
      generalize w.alloc (.cells #[.int .i64 m.kind, .int .i64 m.src, .int .i64 m.dst, .int .i64 m.term, .int .i64 m.index, .int .i64 m.logTerm, .int .i64 m.commit, .slice eo m.ents.length ec, .bool m.granted] 30) = W at *
      clear c4 c7
      have x1 : W.cell? ⟨w.heap.size, 1, none⟩ = some (.int .i64 m.src) := cell_of_row W w.heap.size 1 _ _ _ (unhide HWM)
      have x3 : W.cell? ⟨w.heap.size, 3, none⟩ = some (.int .i64 m.term) := cell_of_row W w.heap.size 3 _ _ _ (unhide HWM)
      have c4 := (unhide HNW).c4
      have c7 := (unhide HNW).c7
      go_quiet (fail)
      go_wp2
      go_quiet (fail)
      go_wp2_with (go_at_call 97; refine (follow_any mu nb s lv m.term m.src _ (NB.drewN (unhide HNW) _)).mono ?_; rintro e w2 ⟨rfl, hN2, hE2⟩; have k10 := hN2.c10; have f10 := hN2.free 10; replace hN2 := hide hN2; replace hE2 := hide hE2)
      have HNX : Hid (NB mu (w2.setCell ⟨nb, 10, none⟩ (.int .i64 0)) nb (s.appS m) lv) := (unhide hN2).setElapsed 0
      have HE2 : Hid (Ew nb W (w2.setCell ⟨nb, 10, none⟩ (.int .i64 0))) := (((Ew.refl nb W).drewN _).trans (unhide hE2)).set 10 _
      have HEX := hide ((Ew.ofBelow (unhide HBW)).trans (unhide HE2))
      have HMX : Hid ((w2.setCell ⟨nb, 10, none⟩ (.int .i64 0)).heap[w.heap.size]? = some (.cells #[.int .i64 m.kind, .int .i64 m.src, .int .i64 m.dst, .int .i64 m.term, .int .i64 m.index, .int .i64 m.logTerm, .int .i64 m.commit, .slice eo m.ents.length ec, .bool m.granted] 30 (0, 0))) := ((unhide HE2).block w.heap.size (unhide HSW) hne2).trans (unhide HWM)
      have HLX : Hid (NL (w2.setCell ⟨nb, 10, none⟩ (.int .i64 0)) (s.appS m) lv) := NL.appS (unhide HL) (unhide H) (unhide HEX)
      clear k10 f10 hN2 hE2 HE2 x1 x3 c4 c7
      generalize w2.setCell ⟨nb, 10, none⟩ (.int .i64 0) = X at *
      have HSL : Hid ((s.appS m).last ≤ 60) := by show _ ≤ _; rw [(unhide HLS).1]; exact (unhide HOK).len
      have HFX := hide (unhide HLX).form
      have hgt : ((s.appS m).last : Int) < (i : Int) := by rw [(unhide HLS).1]; omega
      have d5 : decide (((s.appS m).last : Int) < (i : Int)) = true := decide_eq_true hgt
      have x4 : X.cell? ⟨w.heap.size, 4, none⟩ = some (.int .i64 (i : Int)) := by rw [← unhide HI]; exact cell_of_row X w.heap.size 4 _ _ _ (unhide HMX)
      go_quiet ((go_at_call 81; exact Calls.quiet_of_same (last_any mu nb _ _ _ (NB.drewN (unhide HNX) _) (unhide HFX))))
      go_wp2
      have HNY : Hid (NB mu (X.drewN nq) nb (s.appS m) lv) := NB.drewN (unhide HNX) _
      have HLY : Hid (NL (X.drewN nq) (s.appS m) lv) := NL.drewN (unhide HLX) _
      have HEY : Hid (Ew nb w (X.drewN nq)) := (unhide HEX).drewN _
      have HMY : Hid ((X.drewN nq).heap[w.heap.size]? = some (.cells #[.int .i64 m.kind, .int .i64 m.src, .int .i64 m.dst, .int .i64 m.term, .int .i64 m.index, .int .i64 m.logTerm, .int .i64 m.commit, .slice eo m.ents.length ec, .bool m.granted] 30 (0, 0))) := unhide HMX
      have y4 : (X.drewN nq).cell? ⟨w.heap.size, 4, none⟩ = some (.int .i64 (i : Int)) := x4
      clear HNX HLX HEX HMX x4
      generalize X.drewN nq = Y at *
      go_quiet ((go_at_call 81; exact Calls.quiet_of_same (last_any mu nb _ _ _ (NB.drewN (unhide HNY) _) (unhide HFX))))
      go_wp2
      have HNZ : Hid (NB mu (Y.drewN nq) nb (s.appS m) lv) := NB.drewN (unhide HNY) _
      have HLZ : Hid (NL (Y.drewN nq) (s.appS m) lv) := NL.drewN (unhide HLY) _
      have HEZ : Hid (Ew nb w (Y.drewN nq)) := (unhide HEY).drewN _
      have HMZ : Hid ((Y.drewN nq).heap[w.heap.size]? = some (.cells #[.int .i64 m.kind, .int .i64 m.src, .int .i64 m.dst, .int .i64 m.term, .int .i64 m.index, .int .i64 m.logTerm, .int .i64 m.commit, .slice eo m.ents.length ec, .bool m.granted] 30 (0, 0))) := unhide HMY
      clear y4 HNY HLY HEY HMY
      generalize Y.drewN nq = Z at *
      rw [(unhide HLS).1]
      have hltZ := (unhide HNZ).lt
      have hmbZ2 : w.heap.size < Z.heap.size := (Array.getElem?_eq_some_iff.1 (unhide HMZ)).1
      have hneZ : ¬ nb = Z.heap.size := by omega
      have hmbZ : ¬ w.heap.size = Z.heap.size := by omega
      have hmbZ3 : ¬ Z.heap.size = w.heap.size := by omega
      have z4 := (unhide HNZ).c4
      have zm1 : Z.cell? ⟨w.heap.size, 1, none⟩ = some (.int .i64 m.src) := cell_of_row Z w.heap.size 1 _ _ _ (unhide HMZ)
      go_region_law (first | (go_simp; go_at_call 111; refine (send_one mu nb (s.appS m) _ { kind := 5, src := 0, dst := 0, term := (s.appS m).term, index := min (s.last : Int) (max 0 ((i : Int) - 1)), logTerm := 0, commit := 0, ents := [], granted := false } m.src Z (unhide HNZ) rfl).mono ?_; rintro e w6 ⟨v, rfl, hm6, hb6⟩; replace hm6 := hide hm6; replace hb6 := hide hb6))
      all_goals go_wp2
      all_goals go_ret
      all_goals
        rw [unhide HR]
        exact Sent.told (unhide HEZ) (unhide HNZ) (unhide HLZ) (unhide hm6) (unhide hb6)
    · have h6 : s.termOf i ≠ m.logTerm := by
        rcases h4 with h | h
        · exact absurd h h5
        · exact h
      clear h4
      go_enter Tryz.func69, Tryz.ntmps69
      go_wp2
      generalize w.alloc (.cells #[.int .i64 m.kind, .int .i64 m.src, .int .i64 m.dst, .int .i64 m.term, .int .i64 m.index, .int .i64 m.logTerm, .int .i64 m.commit, .slice eo m.ents.length ec, .bool m.granted] 30) = W at *
      clear c4 c7
      have x1 : W.cell? ⟨w.heap.size, 1, none⟩ = some (.int .i64 m.src) := cell_of_row W w.heap.size 1 _ _ _ (unhide HWM)
      have x3 : W.cell? ⟨w.heap.size, 3, none⟩ = some (.int .i64 m.term) := cell_of_row W w.heap.size 3 _ _ _ (unhide HWM)
      have c4 := (unhide HNW).c4
      have c7 := (unhide HNW).c7
      go_quiet (fail)
      go_wp2
      go_quiet (fail)
      go_wp2_with (go_at_call 97; refine (follow_any mu nb s lv m.term m.src _ (NB.drewN (unhide HNW) _)).mono ?_; rintro e w2 ⟨rfl, hN2, hE2⟩; have k10 := hN2.c10; have f10 := hN2.free 10; replace hN2 := hide hN2; replace hE2 := hide hE2)
      have HNX : Hid (NB mu (w2.setCell ⟨nb, 10, none⟩ (.int .i64 0)) nb (s.appS m) lv) := (unhide hN2).setElapsed 0
      have HE2 : Hid (Ew nb W (w2.setCell ⟨nb, 10, none⟩ (.int .i64 0))) := (((Ew.refl nb W).drewN _).trans (unhide hE2)).set 10 _
      have HEX := hide ((Ew.ofBelow (unhide HBW)).trans (unhide HE2))
      have HMX : Hid ((w2.setCell ⟨nb, 10, none⟩ (.int .i64 0)).heap[w.heap.size]? = some (.cells #[.int .i64 m.kind, .int .i64 m.src, .int .i64 m.dst, .int .i64 m.term, .int .i64 m.index, .int .i64 m.logTerm, .int .i64 m.commit, .slice eo m.ents.length ec, .bool m.granted] 30 (0, 0))) := ((unhide HE2).block w.heap.size (unhide HSW) hne2).trans (unhide HWM)
      have HLX : Hid (NL (w2.setCell ⟨nb, 10, none⟩ (.int .i64 0)) (s.appS m) lv) := NL.appS (unhide HL) (unhide H) (unhide HEX)
      clear k10 f10 hN2 hE2 HE2 x1 x3 c4 c7
      generalize w2.setCell ⟨nb, 10, none⟩ (.int .i64 0) = X at *
      have HSL : Hid ((s.appS m).last ≤ 60) := by show _ ≤ _; rw [(unhide HLS).1]; exact (unhide HOK).len
      have HFX := hide (unhide HLX).form
      obtain ⟨T, hT⟩ : ∃ T, (s.appS m).termOf i = T := ⟨_, rfl⟩
      have hle : i ≤ (s.appS m).last := by rw [(unhide HLS).1]; omega
      have hTn : (T != m.logTerm) = true := by
        rw [← hT]
        have h7 : (s.appS m).termOf i = s.termOf i := by unfold Nd.termOf; rw [(unhide HLS).2.1]
        rw [h7]
        simpa using h6
      have HT := hide hT
      have d5 : decide (((s.appS m).last : Int) < (i : Int)) = false := decide_eq_false (by omega)
      clear hT h6
      have x4 : X.cell? ⟨w.heap.size, 4, none⟩ = some (.int .i64 (i : Int)) := by rw [← unhide HI]; exact cell_of_row X w.heap.size 4 _ _ _ (unhide HMX)
      have x5 : X.cell? ⟨w.heap.size, 5, none⟩ = some (.int .i64 m.logTerm) := cell_of_row X w.heap.size 5 _ _ _ (unhide HMX)
      go_quiet ((first | (go_at_call 81; exact Calls.quiet_of_same (last_any mu nb _ _ _ (NB.drewN (unhide HNX) _) (unhide HFX))) | (go_at_call 114; exact Calls.quiet_of_same (termOf_at mu nb _ _ i T _ (NB.drewN (unhide HNX) _) (NL.drewN (unhide HLX) _) hle (unhide HSL) (unhide HT)))))
      go_wp2
      have HNY : Hid (NB mu (X.drewN nq) nb (s.appS m) lv) := NB.drewN (unhide HNX) _
      have HLY : Hid (NL (X.drewN nq) (s.appS m) lv) := NL.drewN (unhide HLX) _
      have HEY : Hid (Ew nb w (X.drewN nq)) := (unhide HEX).drewN _
      have HMY : Hid ((X.drewN nq).heap[w.heap.size]? = some (.cells #[.int .i64 m.kind, .int .i64 m.src, .int .i64 m.dst, .int .i64 m.term, .int .i64 m.index, .int .i64 m.logTerm, .int .i64 m.commit, .slice eo m.ents.length ec, .bool m.granted] 30 (0, 0))) := unhide HMX
      have y4 : (X.drewN nq).cell? ⟨w.heap.size, 4, none⟩ = some (.int .i64 (i : Int)) := x4
      clear HNX HLX HEX HMX x4
      generalize X.drewN nq = Y at *
      go_quiet ((go_at_call 81; exact Calls.quiet_of_same (last_any mu nb _ _ _ (NB.drewN (unhide HNY) _) (unhide HFX))))
      go_wp2
      have HNZ : Hid (NB mu (Y.drewN nq) nb (s.appS m) lv) := NB.drewN (unhide HNY) _
      have HLZ : Hid (NL (Y.drewN nq) (s.appS m) lv) := NL.drewN (unhide HLY) _
      have HEZ : Hid (Ew nb w (Y.drewN nq)) := (unhide HEY).drewN _
      have HMZ : Hid ((Y.drewN nq).heap[w.heap.size]? = some (.cells #[.int .i64 m.kind, .int .i64 m.src, .int .i64 m.dst, .int .i64 m.term, .int .i64 m.index, .int .i64 m.logTerm, .int .i64 m.commit, .slice eo m.ents.length ec, .bool m.granted] 30 (0, 0))) := unhide HMY
      clear y4 HNY HLY HEY HMY
      generalize Y.drewN nq = Z at *
      rw [(unhide HLS).1]
      have hltZ := (unhide HNZ).lt
      have hmbZ2 : w.heap.size < Z.heap.size := (Array.getElem?_eq_some_iff.1 (unhide HMZ)).1
      have hneZ : ¬ nb = Z.heap.size := by omega
      have hmbZ : ¬ w.heap.size = Z.heap.size := by omega
      have hmbZ3 : ¬ Z.heap.size = w.heap.size := by omega
      have z4 := (unhide HNZ).c4
      have zm1 : Z.cell? ⟨w.heap.size, 1, none⟩ = some (.int .i64 m.src) := cell_of_row Z w.heap.size 1 _ _ _ (unhide HMZ)
      go_region_law (first | (go_simp; go_at_call 111; refine (send_one mu nb (s.appS m) _ { kind := 5, src := 0, dst := 0, term := (s.appS m).term, index := min (s.last : Int) (max 0 ((i : Int) - 1)), logTerm := 0, commit := 0, ents := [], granted := false } m.src Z (unhide HNZ) rfl).mono ?_; rintro e w6 ⟨v, rfl, hm6, hb6⟩; replace hm6 := hide hm6; replace hb6 := hide hb6))
      all_goals go_wp2
      all_goals go_ret
      all_goals
        rw [unhide HR]
        exact Sent.told (unhide HEZ) (unhide HNZ) (unhide HLZ) (unhide hm6) (unhide hb6)

end Go.Proofs.YteiecbkfganhnaaGreat
