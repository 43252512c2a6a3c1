/- The program's node: an Append that is taken. -/
import Derived.Test.YteiecbkfganhnaaGreatAppBad

namespace Go.Proofs.YteiecbkfganhnaaGreat

open Go.RowKit Go.MuLone

set_option maxRecDepth 100000 in
set_option maxHeartbeats 1000000 in
theorem stepAppend_good (mu : Int) (nb : Nat) (s : Nd) (lv : Value) (m : Msg) (w : World) (h : NB mu w nb s lv) (hl : NL w s lv) (hok : Ok s) (i c : Nat) (eo : Option Addr) (ec : Nat) (h1 : ¬ m.term < s.term) (h3 : ¬ (m.term = s.term ∧ s.role = 3)) (hi : m.index = (i : Int)) (hcm : m.commit = (c : Int)) (h5 : i ≤ s.last) (h6 : s.termOf i = m.logTerm) (hn : m.ents.length ≤ 3) (hsz : ∀ e ∈ m.ents, e.2.size ≤ 20) (he : EntsIn w (.slice eo m.ents.length ec) m.ents) (hec : m.ents.length ≤ ec) (h8 : ¬ 60 < i + m.ents.length) (h9 : Nd.keeps s.log s.commit i m.ents = true) :
    Calls Tryz.prog 69 #[.pointer (some ⟨nb, 0, none⟩), magg m (.slice eo m.ents.length ec)] w fun e w' => Sent mu nb lv w (s.stepAppend m) e w' := by
  have hlt := h.lt
  have hne : ¬ nb = w.heap.size := by omega
  have hne2 : w.heap.size ≠ nb := fun h => hne h.symm
  have c4 := h.c4
  have c7 := h.c7
  have HBW := hide (below_alloc w (.cells #[.int .i64 m.kind, .int .i64 m.src, .int .i64 m.dst, .int .i64 m.term, .int .i64 m.index, .int .i64 m.logTerm, .int .i64 m.commit, .slice eo m.ents.length ec, .bool m.granted] 30))
  have HWM := hide (heap_alloc_new w (.cells #[.int .i64 m.kind, .int .i64 m.src, .int .i64 m.dst, .int .i64 m.term, .int .i64 m.index, .int .i64 m.logTerm, .int .i64 m.commit, .slice eo m.ents.length ec, .bool m.granted] 30))
  have HNW := hide (h.below (unhide HBW))
  have HLW := hide (hl.below (unhide HBW))
  have HSW : Hid (w.heap.size < (w.alloc (.cells #[.int .i64 m.kind, .int .i64 m.src, .int .i64 m.dst, .int .i64 m.term, .int .i64 m.index, .int .i64 m.logTerm, .int .i64 m.commit, .slice eo m.ents.length ec, .bool m.granted] 30)).heap.size) := by show _ < _; rw [size_alloc1]; omega
  have H := hide h
  have HL := hide hl
  have HOK := hide hok
  clear h hl hok
  have d1 : decide (m.term < s.term) = false := decide_eq_false h1
  have HLS : Hid ((s.appS m).last = s.last ∧ (s.appS m).log = s.log ∧ (s.appS m).commit = s.commit ∧ (s.appS m).n = s.n ∧ (s.appS m).id = s.id) := appS_facts s m
  have HI := hide hi
  have HITN : Hid (m.index.toNat = i) := by show _ = _; rw [hi]; omega
  have HG3 : Hid ((m.term == s.term) = false ∨ ((m.term == s.term) = true ∧ (s.role == 3) = false)) := by
    show _ ∨ _
    by_cases e1 : m.term = s.term
    · exact .inr ⟨by simpa using e1, by simpa using fun e3 => h3 ⟨e1, e3⟩⟩
    · exact .inl (by simpa using e1)
  have HIF : Hid (¬ ((s.last : Int) < m.index ∨ s.termOf m.index.toNat ≠ m.logTerm)) := by
    show ¬ _
    rw [hi, Int.toNat_natCast]
    rintro (h | h)
    · omega
    · exact h h6
  have hs60 := (unhide HOK).len
  have HCM := hide hcm
  have H6 := hide h6
  have HR : Hid (s.stepAppend m = ({ s.appS m with log := Nd.takes s.log i m.ents, commit := max s.commit (min c (i + m.ents.length)) }, [(s.appS m).reply 5 m.src (s.appS m).term (m.index + (m.ents.length : Int)) true])) := by
    show _ = _
    unfold Nd.stepAppend
    rw [if_neg h1, if_neg h3, if_neg (unhide HIF), unhide HITN, if_neg (by rintro (h | h); exact h8 h; rw [h9] at h; cases h), hcm, Int.toNat_natCast, hi, Int.natCast_add]
  have HEI := hide he
  have HSZ := hide hsz
  have HCV : Hid (max (s.commit : Int) (min m.commit (m.index + (m.ents.length : Int))) = ((max s.commit (min c (i + m.ents.length)) : Nat) : Int)) := by
    show _ = _
    rw [hcm, hi]
    omega
  have hx0 : 0 ≤ m.index := by omega
  have hx1 : m.index ≤ 60 := by omega
  have HLB : Hid (∀ x, lv.ownBlock = some x → x < w.heap.size) := owns_lt (unhide HL)
  have d8 : ¬ 60 < m.index + (m.ents.length : Int) := by omega
  have HK : Hid (Nd.keeps (s.appS m).log (s.appS m).commit i m.ents = true) := by
    show _ = _
    rw [(unhide HLS).2.1, (unhide HLS).2.2.1]
    exact h9
  clear hi he hcm h6 hsz h9 h8
  rcases unhide HG3 with b1 | ⟨b1, b3⟩
  all_goals
    go_enter Tryz.func69, Tryz.ntmps69
    go_wp2
    generalize w.alloc (.cells #[.int .i64 m.kind, .int .i64 m.src, .int .i64 m.dst, .int .i64 m.term, .int .i64 m.index, .int .i64 m.logTerm, .int .i64 m.commit, .slice eo m.ents.length ec, .bool m.granted] 30) = W at *
    clear c4 c7
    have x1 : W.cell? ⟨w.heap.size, 1, none⟩ = some (.int .i64 m.src) := cell_of_row W w.heap.size 1 _ _ _ (unhide HWM)
    have x3 : W.cell? ⟨w.heap.size, 3, none⟩ = some (.int .i64 m.term) := cell_of_row W w.heap.size 3 _ _ _ (unhide HWM)
    have c4 := (unhide HNW).c4
    have c7 := (unhide HNW).c7
    go_quiet (fail)
    go_wp2
    go_quiet (fail)
    go_wp2_with (go_at_call 97; refine (follow_any mu nb s lv m.term m.src _ (NB.drewN (unhide HNW) _)).mono ?_; rintro e w2 ⟨rfl, hN2, hE2⟩; have k10 := hN2.c10; have f10 := hN2.free 10; replace hN2 := hide hN2; replace hE2 := hide hE2)
    have HNX : Hid (NB mu (w2.setCell ⟨nb, 10, none⟩ (.int .i64 0)) nb (s.appS m) lv) := (unhide hN2).setElapsed 0
    have HE2 : Hid (Ew nb W (w2.setCell ⟨nb, 10, none⟩ (.int .i64 0))) := (((Ew.refl nb W).drewN _).trans (unhide hE2)).set 10 _
    have HEX := hide ((Ew.ofBelow (unhide HBW)).trans (unhide HE2))
    have HMX : Hid ((w2.setCell ⟨nb, 10, none⟩ (.int .i64 0)).heap[w.heap.size]? = some (.cells #[.int .i64 m.kind, .int .i64 m.src, .int .i64 m.dst, .int .i64 m.term, .int .i64 m.index, .int .i64 m.logTerm, .int .i64 m.commit, .slice eo m.ents.length ec, .bool m.granted] 30 (0, 0))) := ((unhide HE2).block w.heap.size (unhide HSW) hne2).trans (unhide HWM)
    have HLX : Hid (NL (w2.setCell ⟨nb, 10, none⟩ (.int .i64 0)) (s.appS m) lv) := NL.appS (unhide HL) (unhide H) (unhide HEX)
    clear k10 f10 hN2 hE2 HE2 x1 x3 c4 c7
    generalize w2.setCell ⟨nb, 10, none⟩ (.int .i64 0) = X at *
    have HSL : Hid ((s.appS m).last ≤ 60) := by show _ ≤ _; rw [(unhide HLS).1]; exact (unhide HOK).len
    have HFX := hide (unhide HLX).form
    obtain ⟨T, hT⟩ : ∃ T, (s.appS m).termOf i = T := ⟨_, rfl⟩
    have hle : i ≤ (s.appS m).last := by rw [(unhide HLS).1]; exact h5
    have hTn : (T != m.logTerm) = false := by
      rw [← hT]
      have h7 : (s.appS m).termOf i = s.termOf i := by unfold Nd.termOf; rw [(unhide HLS).2.1]
      rw [h7, unhide H6]
      simp
    have HT := hide hT
    have d5 : decide (((s.appS m).last : Int) < (i : Int)) = false := decide_eq_false (by omega)
    clear hT
    have x4 : X.cell? ⟨w.heap.size, 4, none⟩ = some (.int .i64 (i : Int)) := by rw [← unhide HI]; exact cell_of_row X w.heap.size 4 _ _ _ (unhide HMX)
    have x5 : X.cell? ⟨w.heap.size, 5, none⟩ = some (.int .i64 m.logTerm) := cell_of_row X w.heap.size 5 _ _ _ (unhide HMX)
    go_quiet ((first | (go_at_call 81; exact Calls.quiet_of_same (last_any mu nb _ _ _ (NB.drewN (unhide HNX) _) (unhide HFX))) | (go_at_call 114; exact Calls.quiet_of_same (termOf_at mu nb _ _ i T _ (NB.drewN (unhide HNX) _) (NL.drewN (unhide HLX) _) hle (unhide HSL) (unhide HT)))))
    have HNY : Hid (NB mu (X.drewN nq) nb (s.appS m) lv) := NB.drewN (unhide HNX) _
    have HLY : Hid (NL (X.drewN nq) (s.appS m) lv) := NL.drewN (unhide HLX) _
    have HEY : Hid (Ew nb w (X.drewN nq)) := (unhide HEX).drewN _
    have HMY : Hid ((X.drewN nq).heap[w.heap.size]? = some (.cells #[.int .i64 m.kind, .int .i64 m.src, .int .i64 m.dst, .int .i64 m.term, .int .i64 m.index, .int .i64 m.logTerm, .int .i64 m.commit, .slice eo m.ents.length ec, .bool m.granted] 30 (0, 0))) := unhide HMX
    clear HNX HLX HEX HMX x4 x5 hTn d5
    generalize X.drewN nq = Y at *
    have y0 : Y.cell? ⟨w.heap.size, 0, none⟩ = some (.int .i64 m.kind) := cell_of_row Y w.heap.size 0 _ _ _ (unhide HMY)
    have y1 : Y.cell? ⟨w.heap.size, 1, none⟩ = some (.int .i64 m.src) := cell_of_row Y w.heap.size 1 _ _ _ (unhide HMY)
    have y2 : Y.cell? ⟨w.heap.size, 2, none⟩ = some (.int .i64 m.dst) := cell_of_row Y w.heap.size 2 _ _ _ (unhide HMY)
    have y3 : Y.cell? ⟨w.heap.size, 3, none⟩ = some (.int .i64 m.term) := cell_of_row Y w.heap.size 3 _ _ _ (unhide HMY)
    have y4 : Y.cell? ⟨w.heap.size, 4, none⟩ = some (.int .i64 m.index) := cell_of_row Y w.heap.size 4 _ _ _ (unhide HMY)
    have y5 : Y.cell? ⟨w.heap.size, 5, none⟩ = some (.int .i64 m.logTerm) := cell_of_row Y w.heap.size 5 _ _ _ (unhide HMY)
    have y6 : Y.cell? ⟨w.heap.size, 6, none⟩ = some (.int .i64 m.commit) := cell_of_row Y w.heap.size 6 _ _ _ (unhide HMY)
    have y7 : Y.cell? ⟨w.heap.size, 7, none⟩ = some (.slice eo m.ents.length ec) := cell_of_row Y w.heap.size 7 _ _ _ (unhide HMY)
    have y8 : Y.cell? ⟨w.heap.size, 8, none⟩ = some (.bool m.granted) := cell_of_row Y w.heap.size 8 _ _ _ (unhide HMY)
    have HEY2 := hide (ents_ew (unhide HEI) (unhide H) (unhide HL) (unhide HEY))
    go_wp2_with (first | (go_at_call 115; refine (keepsCommitted_any mu nb (s.appS m) lv m _ i Y (unhide HNY) (unhide HLY) (unhide HSL) (by rw [(unhide HLS).1, (unhide HLS).2.2.1]; exact (unhide HOK).com) (unhide HI) (by omega) hn (unhide HEY2)).mono ?_; rw [unhide HK]; rintro e w4 ⟨rfl, hb4⟩; have hw4 := (hb4.block w.heap.size (Array.getElem?_eq_some_iff.1 (unhide HMY)).1).trans (unhide HMY); have z0 : w4.cell? ⟨w.heap.size, 0, none⟩ = some (.int .i64 m.kind) := cell_of_row w4 w.heap.size 0 _ _ _ hw4; have z1 : w4.cell? ⟨w.heap.size, 1, none⟩ = some (.int .i64 m.src) := cell_of_row w4 w.heap.size 1 _ _ _ hw4; have z2 : w4.cell? ⟨w.heap.size, 2, none⟩ = some (.int .i64 m.dst) := cell_of_row w4 w.heap.size 2 _ _ _ hw4; have z3 : w4.cell? ⟨w.heap.size, 3, none⟩ = some (.int .i64 m.term) := cell_of_row w4 w.heap.size 3 _ _ _ hw4; have z4 : w4.cell? ⟨w.heap.size, 4, none⟩ = some (.int .i64 m.index) := cell_of_row w4 w.heap.size 4 _ _ _ hw4; have z5 : w4.cell? ⟨w.heap.size, 5, none⟩ = some (.int .i64 m.logTerm) := cell_of_row w4 w.heap.size 5 _ _ _ hw4; have z6 : w4.cell? ⟨w.heap.size, 6, none⟩ = some (.int .i64 m.commit) := cell_of_row w4 w.heap.size 6 _ _ _ hw4; have z7 : w4.cell? ⟨w.heap.size, 7, none⟩ = some (.slice eo m.ents.length ec) := cell_of_row w4 w.heap.size 7 _ _ _ hw4; have z8 : w4.cell? ⟨w.heap.size, 8, none⟩ = some (.bool m.granted) := cell_of_row w4 w.heap.size 8 _ _ _ hw4; replace hw4 := hide hw4; replace hb4 := hide hb4) | (go_at_call 116; refine (take_any mu nb (s.appS m) lv m eo ec i w4 ((unhide HNY).below (unhide hb4)) ((unhide HLY).below (unhide hb4)) (unhide HSL) (unhide HI) hle hn (unhide HSZ) (ents_below (unhide HEY2) (unhide hb4)) hec).mono ?_; rintro e w5 ⟨rfl, lv5, hN5, hL5, hV5⟩; rw [(unhide HLS).2.1] at hN5 hL5; have hw5 := (hV5.block w.heap.size (Array.getElem?_eq_some_iff.1 (unhide hw4)).1 hne2 (fun hx => Nat.lt_irrefl _ ((unhide HLB) _ hx))).trans (unhide hw4); have u6 : w5.cell? ⟨w.heap.size, 6, none⟩ = some (.int .i64 m.commit) := cell_of_row w5 w.heap.size 6 _ _ _ hw5; have u9 := hN5.c9; have g9 := hN5.free 9; replace hw5 := hide hw5; replace hN5 := hide hN5; replace hL5 := hide hL5; replace hV5 := hide hV5))
    rw [show ({ s.appS m with log := Nd.takes s.log i m.ents } : Nd).commit = s.commit from (unhide HLS).2.2.1] at u9
    clear y0 y1 y2 y3 y4 y5 y6 y7 y8 z0 z1 z2 z3 z4 z5 z6 z7 z8
    go_region
    all_goals
      rw [unhide HCV]
      have HNZ : Hid (NB mu (w5.setCell ⟨nb, 9, none⟩ (.int .i64 ((max s.commit (min c (i + m.ents.length)) : Nat) : Int))).drew nb ({ s.appS m with log := Nd.takes s.log i m.ents, commit := max s.commit (min c (i + m.ents.length)) } : Nd) lv5) := ((unhide hN5).setCommit (max s.commit (min c (i + m.ents.length)))).drew
      have HEW : Hid (Ew nb w5 (w5.setCell ⟨nb, 9, none⟩ (.int .i64 ((max s.commit (min c (i + m.ents.length)) : Nat) : Int))).drew) := ((Ew.refl nb w5).set 9 _).drew
      have HLZ : Hid (NL (w5.setCell ⟨nb, 9, none⟩ (.int .i64 ((max s.commit (min c (i + m.ents.length)) : Nat) : Int))).drew ({ s.appS m with log := Nd.takes s.log i m.ents, commit := max s.commit (min c (i + m.ents.length)) } : Nd) lv5) := (unhide hL5).ew (unhide hN5) (unhide HEW)
      have HVZ : Hid (Ev nb lv lv5 w (w5.setCell ⟨nb, 9, none⟩ (.int .i64 ((max s.commit (min c (i + m.ents.length)) : Nat) : Int))).drew) := ((Ev.ofEw ((unhide HEY).below (unhide hb4))).trans (unhide hV5)).ew (unhide HEW)
      have HMZ : Hid ((w5.setCell ⟨nb, 9, none⟩ (.int .i64 ((max s.commit (min c (i + m.ents.length)) : Nat) : Int))).drew.heap[w.heap.size]? = some (.cells #[.int .i64 m.kind, .int .i64 m.src, .int .i64 m.dst, .int .i64 m.term, .int .i64 m.index, .int .i64 m.logTerm, .int .i64 m.commit, .slice eo m.ents.length ec, .bool m.granted] 30 (0, 0))) := ((unhide HEW).block w.heap.size (Array.getElem?_eq_some_iff.1 (unhide hw5)).1 hne2).trans (unhide hw5)
      clear u6 u9 g9 HEW
      generalize (w5.setCell ⟨nb, 9, none⟩ (.int .i64 ((max s.commit (min c (i + m.ents.length)) : Nat) : Int))).drew = Z at *
      go_wp2
      have hltZ := (unhide HNZ).lt
      have hmbZ2 : w.heap.size < Z.heap.size := (Array.getElem?_eq_some_iff.1 (unhide HMZ)).1
      have hneZ : ¬ nb = Z.heap.size := by omega
      have hmbZ : ¬ w.heap.size = Z.heap.size := by omega
      have hmbZ3 : ¬ Z.heap.size = w.heap.size := by omega
      have z4 := (unhide HNZ).c4
      have zm1 : Z.cell? ⟨w.heap.size, 1, none⟩ = some (.int .i64 m.src) := cell_of_row Z w.heap.size 1 _ _ _ (unhide HMZ)
      go_region_law (first | (go_simp; go_at_call 111; refine (send_one mu nb ({ s.appS m with log := Nd.takes s.log i m.ents, commit := max s.commit (min c (i + m.ents.length)) } : Nd) _ { kind := 5, src := 0, dst := 0, term := (s.appS m).term, index := m.index + (m.ents.length : Int), logTerm := 0, commit := 0, ents := [], granted := true } m.src Z (unhide HNZ) rfl).mono ?_; rintro e w6 ⟨v, rfl, hm6, hb6⟩; replace hm6 := hide hm6; replace hb6 := hide hb6))
      all_goals go_wp2
      all_goals go_ret
      all_goals
        rw [unhide HR]
        exact ⟨v, _, lv5, rfl, (unhide HNZ).below (unhide hb6), (unhide HLZ).below (unhide hb6), (unhide hm6).base (unhide HVZ).size, (unhide HVZ).ew (Ew.ofBelow (unhide hb6)), apart_of (unhide HLZ) (unhide hm6)⟩

end Go.Proofs.YteiecbkfganhnaaGreat
