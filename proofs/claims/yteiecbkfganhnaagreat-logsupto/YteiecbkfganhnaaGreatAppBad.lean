/- The program's node: an Append that is against what is committed, or too long. -/
import Derived.Test.YteiecbkfganhnaaGreatAppOld

namespace Go.Proofs.YteiecbkfganhnaaGreat

open Go.RowKit Go.MuLone

def isStr : Value → Bool
  | .string _ => true
  | _ => false

theorem ncells_str (mu : Int) (s : Nd) (ao : Option Addr) (n c : Nat) : ∀ v ∈ (ncells mu s (.slice ao n c)).toList, isStr v = false := by
  simp [ncells, isStr]

theorem ents_ew {mu : Int} {w w' : World} {nb : Nat} {s : Nd} {lv v : Value} {es : List Ent} (h : EntsIn w v es) (hN : NB mu w nb s lv) (hl : NL w s lv) (he : Ew nb w w') : EntsIn w' v es := by
  obtain ⟨ao, cap, hv, h0, hh⟩ := h
  obtain ⟨lo, lc, rfl⟩ := hl.form
  refine ⟨ao, cap, hv, h0, fun k e hk => ?_⟩
  obtain ⟨b, off, ha, h1, h2⟩ := hh k e hk
  have hbn : b ≠ nb := by
    rintro rfl
    rw [hN.cell] at h2
    have h3 := Array.mem_toList_iff.2 (Array.mem_of_getElem? h2)
    have h4 := ncells_str mu s lo s.log.length lc _ h3
    simp [isStr] at h4
  have hb := he.block b (block_lt_of_cell h1) hbn
  exact ⟨b, off, ha, (World.cell?_of_block (a := ⟨b, _, none⟩) hb).trans h1, (World.cell?_of_block (a := ⟨b, _, none⟩) hb).trans h2⟩

set_option maxRecDepth 100000 in
set_option maxHeartbeats 1000000 in
theorem stepAppend_bad (mu : Int) (nb : Nat) (s : Nd) (lv : Value) (m : Msg) (w : World) (h : NB mu w nb s lv) (hl : NL w s lv) (hok : Ok s) (i c : Nat) (eo : Option Addr) (ec : Nat) (h1 : ¬ m.term < s.term) (h3 : ¬ (m.term = s.term ∧ s.role = 3)) (hi : m.index = (i : Int)) (hcm : m.commit = (c : Int)) (h5 : i ≤ s.last) (h6 : s.termOf i = m.logTerm) (hn : m.ents.length ≤ 3) (he : EntsIn w (.slice eo m.ents.length ec) m.ents) (h7 : 60 < i + m.ents.length ∨ Nd.keeps s.log s.commit i m.ents = false) :
    Calls Tryz.prog 69 #[.pointer (some ⟨nb, 0, none⟩), magg m (.slice eo m.ents.length ec)] w fun e w' => Sent mu nb lv w (s.stepAppend m) e w' := by
  have hlt := h.lt
  have hne : ¬ nb = w.heap.size := by omega
  have hne2 : w.heap.size ≠ nb := fun h => hne h.symm
  have c4 := h.c4
  have c7 := h.c7
  have HBW := hide (below_alloc w (.cells #[.int .i64 m.kind, .int .i64 m.src, .int .i64 m.dst, .int .i64 m.term, .int .i64 m.index, .int .i64 m.logTerm, .int .i64 m.commit, .slice eo m.ents.length ec, .bool m.granted] 30))
  have HWM := hide (heap_alloc_new w (.cells #[.int .i64 m.kind, .int .i64 m.src, .int .i64 m.dst, .int .i64 m.term, .int .i64 m.index, .int .i64 m.logTerm, .int .i64 m.commit, .slice eo m.ents.length ec, .bool m.granted] 30))
  have HNW := hide (h.below (unhide HBW))
  have HLW := hide (hl.below (unhide HBW))
  have HSW : Hid (w.heap.size < (w.alloc (.cells #[.int .i64 m.kind, .int .i64 m.src, .int .i64 m.dst, .int .i64 m.term, .int .i64 m.index, .int .i64 m.logTerm, .int .i64 m.commit, .slice eo m.ents.length ec, .bool m.granted] 30)).heap.size) := by show _ < _; rw [size_alloc1]; omega
  have H := hide h
  have HL := hide hl
  have HOK := hide hok
  clear h hl hok
  have d1 : decide (m.term < s.term) = false := decide_eq_false h1
  have HLS : Hid ((s.appS m).last = s.last ∧ (s.appS m).log = s.log ∧ (s.appS m).commit = s.commit ∧ (s.appS m).n = s.n ∧ (s.appS m).id = s.id) := appS_facts s m
  have HI := hide hi
  have HITN : Hid (m.index.toNat = i) := by show _ = _; rw [hi]; omega
  have HG3 : Hid ((m.term == s.term) = false ∨ ((m.term == s.term) = true ∧ (s.role == 3) = false)) := by
    show _ ∨ _
    by_cases e1 : m.term = s.term
    · exact .inr ⟨by simpa using e1, by simpa using fun e3 => h3 ⟨e1, e3⟩⟩
    · exact .inl (by simpa using e1)
  have HIF : Hid (¬ ((s.last : Int) < m.index ∨ s.termOf m.index.toNat ≠ m.logTerm)) := by
    show ¬ _
    rw [hi, Int.toNat_natCast]
    rintro (h | h)
    · omega
    · exact h h6
  have hs60 := (unhide HOK).len
  have HCM := hide hcm
  have H6 := hide h6
  have HR : Hid (s.stepAppend m = (s.appS m, [])) := by
    show _ = _
    unfold Nd.stepAppend
    rw [if_neg h1, if_neg h3, if_neg (unhide HIF), unhide HITN, if_pos h7]
  have HEI := hide he
  have hx0 : 0 ≤ m.index := by omega
  have hx1 : m.index ≤ 60 := by omega
  clear hi he hcm h6
  rcases unhide HG3 with b1 | ⟨b1, b3⟩
  all_goals
    by_cases h8 : 60 < i + m.ents.length
    · have d8 : 60 < m.index + (m.ents.length : Int) := by rw [unhide HI]; omega
      clear h7
      go_enter Tryz.func69, Tryz.ntmps69
      go_wp2
      generalize w.alloc (.cells #[.int .i64 m.kind, .int .i64 m.src, .int .i64 m.dst, .int .i64 m.term, .int .i64 m.index, .int .i64 m.logTerm, .int .i64 m.commit, .slice eo m.ents.length ec, .bool m.granted] 30) = W at *
      clear c4 c7
      have x1 : W.cell? ⟨w.heap.size, 1, none⟩ = some (.int .i64 m.src) := cell_of_row W w.heap.size 1 _ _ _ (unhide HWM)
      have x3 : W.cell? ⟨w.heap.size, 3, none⟩ = some (.int .i64 m.term) := cell_of_row W w.heap.size 3 _ _ _ (unhide HWM)
      have c4 := (unhide HNW).c4
      have c7 := (unhide HNW).c7
      go_quiet (fail)
      go_wp2
      go_quiet (fail)
      go_wp2_with (go_at_call 97; refine (follow_any mu nb s lv m.term m.src _ (NB.drewN (unhide HNW) _)).mono ?_; rintro e w2 ⟨rfl, hN2, hE2⟩; have k10 := hN2.c10; have f10 := hN2.free 10; replace hN2 := hide hN2; replace hE2 := hide hE2)
      have HNX : Hid (NB mu (w2.setCell ⟨nb, 10, none⟩ (.int .i64 0)) nb (s.appS m) lv) := (unhide hN2).setElapsed 0
      have HE2 : Hid (Ew nb W (w2.setCell ⟨nb, 10, none⟩ (.int .i64 0))) := (((Ew.refl nb W).drewN _).trans (unhide hE2)).set 10 _
      have HEX := hide ((Ew.ofBelow (unhide HBW)).trans (unhide HE2))
      have HMX : Hid ((w2.setCell ⟨nb, 10, none⟩ (.int .i64 0)).heap[w.heap.size]? = some (.cells #[.int .i64 m.kind, .int .i64 m.src, .int .i64 m.dst, .int .i64 m.term, .int .i64 m.index, .int .i64 m.logTerm, .int .i64 m.commit, .slice eo m.ents.length ec, .bool m.granted] 30 (0, 0))) := ((unhide HE2).block w.heap.size (unhide HSW) hne2).trans (unhide HWM)
      have HLX : Hid (NL (w2.setCell ⟨nb, 10, none⟩ (.int .i64 0)) (s.appS m) lv) := NL.appS (unhide HL) (unhide H) (unhide HEX)
      clear k10 f10 hN2 hE2 HE2 x1 x3 c4 c7
      generalize w2.setCell ⟨nb, 10, none⟩ (.int .i64 0) = X at *
      have HSL : Hid ((s.appS m).last ≤ 60) := by show _ ≤ _; rw [(unhide HLS).1]; exact (unhide HOK).len
      have HFX := hide (unhide HLX).form
      obtain ⟨T, hT⟩ : ∃ T, (s.appS m).termOf i = T := ⟨_, rfl⟩
      have hle : i ≤ (s.appS m).last := by rw [(unhide HLS).1]; exact h5
      have hTn : (T != m.logTerm) = false := by
        rw [← hT]
        have h7 : (s.appS m).termOf i = s.termOf i := by unfold Nd.termOf; rw [(unhide HLS).2.1]
        rw [h7, unhide H6]
        simp
      have HT := hide hT
      have d5 : decide (((s.appS m).last : Int) < (i : Int)) = false := decide_eq_false (by omega)
      clear hT
      have x4 : X.cell? ⟨w.heap.size, 4, none⟩ = some (.int .i64 (i : Int)) := by rw [← unhide HI]; exact cell_of_row X w.heap.size 4 _ _ _ (unhide HMX)
      have x5 : X.cell? ⟨w.heap.size, 5, none⟩ = some (.int .i64 m.logTerm) := cell_of_row X w.heap.size 5 _ _ _ (unhide HMX)
      go_quiet ((first | (go_at_call 81; exact Calls.quiet_of_same (last_any mu nb _ _ _ (NB.drewN (unhide HNX) _) (unhide HFX))) | (go_at_call 114; exact Calls.quiet_of_same (termOf_at mu nb _ _ i T _ (NB.drewN (unhide HNX) _) (NL.drewN (unhide HLX) _) hle (unhide HSL) (unhide HT)))))
      have HNY : Hid (NB mu (X.drewN nq) nb (s.appS m) lv) := NB.drewN (unhide HNX) _
      have HLY : Hid (NL (X.drewN nq) (s.appS m) lv) := NL.drewN (unhide HLX) _
      have HEY : Hid (Ew nb w (X.drewN nq)) := (unhide HEX).drewN _
      have HMY : Hid ((X.drewN nq).heap[w.heap.size]? = some (.cells #[.int .i64 m.kind, .int .i64 m.src, .int .i64 m.dst, .int .i64 m.term, .int .i64 m.index, .int .i64 m.logTerm, .int .i64 m.commit, .slice eo m.ents.length ec, .bool m.granted] 30 (0, 0))) := unhide HMX
      clear HNX HLX HEX HMX x4 x5 hTn d5
      generalize X.drewN nq = Y at *
      have y0 : Y.cell? ⟨w.heap.size, 0, none⟩ = some (.int .i64 m.kind) := cell_of_row Y w.heap.size 0 _ _ _ (unhide HMY)
      have y1 : Y.cell? ⟨w.heap.size, 1, none⟩ = some (.int .i64 m.src) := cell_of_row Y w.heap.size 1 _ _ _ (unhide HMY)
      have y2 : Y.cell? ⟨w.heap.size, 2, none⟩ = some (.int .i64 m.dst) := cell_of_row Y w.heap.size 2 _ _ _ (unhide HMY)
      have y3 : Y.cell? ⟨w.heap.size, 3, none⟩ = some (.int .i64 m.term) := cell_of_row Y w.heap.size 3 _ _ _ (unhide HMY)
      have y4 : Y.cell? ⟨w.heap.size, 4, none⟩ = some (.int .i64 m.index) := cell_of_row Y w.heap.size 4 _ _ _ (unhide HMY)
      have y5 : Y.cell? ⟨w.heap.size, 5, none⟩ = some (.int .i64 m.logTerm) := cell_of_row Y w.heap.size 5 _ _ _ (unhide HMY)
      have y6 : Y.cell? ⟨w.heap.size, 6, none⟩ = some (.int .i64 m.commit) := cell_of_row Y w.heap.size 6 _ _ _ (unhide HMY)
      have y7 : Y.cell? ⟨w.heap.size, 7, none⟩ = some (.slice eo m.ents.length ec) := cell_of_row Y w.heap.size 7 _ _ _ (unhide HMY)
      have y8 : Y.cell? ⟨w.heap.size, 8, none⟩ = some (.bool m.granted) := cell_of_row Y w.heap.size 8 _ _ _ (unhide HMY)
      go_wp2
      go_ret
      rw [unhide HR]
      exact Sent.quiet (unhide HEY) (unhide HNY) (unhide HLY)
    · have d8 : ¬ 60 < m.index + (m.ents.length : Int) := by rw [unhide HI]; omega
      have HK : Hid (Nd.keeps (s.appS m).log (s.appS m).commit i m.ents = false) := by
        show _ = _
        rw [(unhide HLS).2.1, (unhide HLS).2.2.1]
        rcases h7 with h | h
        · exact absurd h h8
        · exact h
      clear h7
      go_enter Tryz.func69, Tryz.ntmps69
      go_wp2
      generalize w.alloc (.cells #[.int .i64 m.kind, .int .i64 m.src, .int .i64 m.dst, .int .i64 m.term, .int .i64 m.index, .int .i64 m.logTerm, .int .i64 m.commit, .slice eo m.ents.length ec, .bool m.granted] 30) = W at *
      clear c4 c7
      have x1 : W.cell? ⟨w.heap.size, 1, none⟩ = some (.int .i64 m.src) := cell_of_row W w.heap.size 1 _ _ _ (unhide HWM)
      have x3 : W.cell? ⟨w.heap.size, 3, none⟩ = some (.int .i64 m.term) := cell_of_row W w.heap.size 3 _ _ _ (unhide HWM)
      have c4 := (unhide HNW).c4
      have c7 := (unhide HNW).c7
      go_quiet (fail)
      go_wp2
      go_quiet (fail)
      go_wp2_with (go_at_call 97; refine (follow_any mu nb s lv m.term m.src _ (NB.drewN (unhide HNW) _)).mono ?_; rintro e w2 ⟨rfl, hN2, hE2⟩; have k10 := hN2.c10; have f10 := hN2.free 10; replace hN2 := hide hN2; replace hE2 := hide hE2)
      have HNX : Hid (NB mu (w2.setCell ⟨nb, 10, none⟩ (.int .i64 0)) nb (s.appS m) lv) := (unhide hN2).setElapsed 0
      have HE2 : Hid (Ew nb W (w2.setCell ⟨nb, 10, none⟩ (.int .i64 0))) := (((Ew.refl nb W).drewN _).trans (unhide hE2)).set 10 _
      have HEX := hide ((Ew.ofBelow (unhide HBW)).trans (unhide HE2))
      have HMX : Hid ((w2.setCell ⟨nb, 10, none⟩ (.int .i64 0)).heap[w.heap.size]? = some (.cells #[.int .i64 m.kind, .int .i64 m.src, .int .i64 m.dst, .int .i64 m.term, .int .i64 m.index, .int .i64 m.logTerm, .int .i64 m.commit, .slice eo m.ents.length ec, .bool m.granted] 30 (0, 0))) := ((unhide HE2).block w.heap.size (unhide HSW) hne2).trans (unhide HWM)
      have HLX : Hid (NL (w2.setCell ⟨nb, 10, none⟩ (.int .i64 0)) (s.appS m) lv) := NL.appS (unhide HL) (unhide H) (unhide HEX)
      clear k10 f10 hN2 hE2 HE2 x1 x3 c4 c7
      generalize w2.setCell ⟨nb, 10, none⟩ (.int .i64 0) = X at *
      have HSL : Hid ((s.appS m).last ≤ 60) := by show _ ≤ _; rw [(unhide HLS).1]; exact (unhide HOK).len
      have HFX := hide (unhide HLX).form
      obtain ⟨T, hT⟩ : ∃ T, (s.appS m).termOf i = T := ⟨_, rfl⟩
      have hle : i ≤ (s.appS m).last := by rw [(unhide HLS).1]; exact h5
      have hTn : (T != m.logTerm) = false := by
        rw [← hT]
        have h7 : (s.appS m).termOf i = s.termOf i := by unfold Nd.termOf; rw [(unhide HLS).2.1]
        rw [h7, unhide H6]
        simp
      have HT := hide hT
      have d5 : decide (((s.appS m).last : Int) < (i : Int)) = false := decide_eq_false (by omega)
      clear hT
      have x4 : X.cell? ⟨w.heap.size, 4, none⟩ = some (.int .i64 (i : Int)) := by rw [← unhide HI]; exact cell_of_row X w.heap.size 4 _ _ _ (unhide HMX)
      have x5 : X.cell? ⟨w.heap.size, 5, none⟩ = some (.int .i64 m.logTerm) := cell_of_row X w.heap.size 5 _ _ _ (unhide HMX)
      go_quiet ((first | (go_at_call 81; exact Calls.quiet_of_same (last_any mu nb _ _ _ (NB.drewN (unhide HNX) _) (unhide HFX))) | (go_at_call 114; exact Calls.quiet_of_same (termOf_at mu nb _ _ i T _ (NB.drewN (unhide HNX) _) (NL.drewN (unhide HLX) _) hle (unhide HSL) (unhide HT)))))
      have HNY : Hid (NB mu (X.drewN nq) nb (s.appS m) lv) := NB.drewN (unhide HNX) _
      have HLY : Hid (NL (X.drewN nq) (s.appS m) lv) := NL.drewN (unhide HLX) _
      have HEY : Hid (Ew nb w (X.drewN nq)) := (unhide HEX).drewN _
      have HMY : Hid ((X.drewN nq).heap[w.heap.size]? = some (.cells #[.int .i64 m.kind, .int .i64 m.src, .int .i64 m.dst, .int .i64 m.term, .int .i64 m.index, .int .i64 m.logTerm, .int .i64 m.commit, .slice eo m.ents.length ec, .bool m.granted] 30 (0, 0))) := unhide HMX
      clear HNX HLX HEX HMX x4 x5 hTn d5
      generalize X.drewN nq = Y at *
      have y0 : Y.cell? ⟨w.heap.size, 0, none⟩ = some (.int .i64 m.kind) := cell_of_row Y w.heap.size 0 _ _ _ (unhide HMY)
      have y1 : Y.cell? ⟨w.heap.size, 1, none⟩ = some (.int .i64 m.src) := cell_of_row Y w.heap.size 1 _ _ _ (unhide HMY)
      have y2 : Y.cell? ⟨w.heap.size, 2, none⟩ = some (.int .i64 m.dst) := cell_of_row Y w.heap.size 2 _ _ _ (unhide HMY)
      have y3 : Y.cell? ⟨w.heap.size, 3, none⟩ = some (.int .i64 m.term) := cell_of_row Y w.heap.size 3 _ _ _ (unhide HMY)
      have y4 : Y.cell? ⟨w.heap.size, 4, none⟩ = some (.int .i64 m.index) := cell_of_row Y w.heap.size 4 _ _ _ (unhide HMY)
      have y5 : Y.cell? ⟨w.heap.size, 5, none⟩ = some (.int .i64 m.logTerm) := cell_of_row Y w.heap.size 5 _ _ _ (unhide HMY)
      have y6 : Y.cell? ⟨w.heap.size, 6, none⟩ = some (.int .i64 m.commit) := cell_of_row Y w.heap.size 6 _ _ _ (unhide HMY)
      have y7 : Y.cell? ⟨w.heap.size, 7, none⟩ = some (.slice eo m.ents.length ec) := cell_of_row Y w.heap.size 7 _ _ _ (unhide HMY)
      have y8 : Y.cell? ⟨w.heap.size, 8, none⟩ = some (.bool m.granted) := cell_of_row Y w.heap.size 8 _ _ _ (unhide HMY)
      have HEY2 := hide (ents_ew (unhide HEI) (unhide H) (unhide HL) (unhide HEY))
      go_wp2_with (go_at_call 115; refine (keepsCommitted_any mu nb (s.appS m) lv m _ i Y (unhide HNY) (unhide HLY) (unhide HSL) (by rw [(unhide HLS).1, (unhide HLS).2.2.1]; exact (unhide HOK).com) (unhide HI) (by omega) hn (unhide HEY2)).mono ?_; rw [unhide HK]; rintro e w4 ⟨rfl, hb4⟩; replace hb4 := hide hb4)
      go_ret
      rw [unhide HR]
      exact Sent.quiet ((unhide HEY).below (unhide hb4)) ((unhide HNY).below (unhide hb4)) ((unhide HLY).below (unhide hb4))

end Go.Proofs.YteiecbkfganhnaaGreat
