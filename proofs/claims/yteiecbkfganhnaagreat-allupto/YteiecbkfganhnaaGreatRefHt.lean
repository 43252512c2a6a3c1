/- The document's node: stepAppend behind its loop. -/
import Derived.Test.YteiecbkfganhnaaGreatRefHc

namespace Go.Proofs.YteiecbkfganhnaaGreat

open Go.RowKit Go.MuLone

set_option maxRecDepth 100000 in
set_option maxHeartbeats 8000000 in
theorem app_tail (rb : Nat) (s sA : Nd) (v : RV) (w : World) (eo : Option Addr) (ec : Nat) (mk mf mt mT ml mc : Int) (me : List Ent) (mg : Bool) (idx : Nat) (lo : Option Addr) (lc : Nat) (S : AppS rb s sA v w eo ec mc me idx lo lc) (res : Nd × List Msg) (HRES : Hid (res = ({ sA with log := Nd.takes s.log idx me, commit := max s.commit (min mc.toNat (idx + me.length)) }, [sA.reply 5 mf sA.term ((idx + me.length : Nat) : Int) true])))
    (f : Int) (hf0 : -1 ≤ f) (hf1 : f < 100) (HTK : Hid ((f = -1 ∧ Nd.takes s.log idx me = s.log) ∨ ∃ q : Nat, q < me.length ∧ f = (q : Int) ∧ idx + q ≤ s.log.length ∧ Nd.takes s.log idx me = s.log.take (idx + q) ++ me.drop q))
    (wr : World) (HRw : Hid (RB wr rb sA v [])) (HEw : Hid (Er rb v v w wr)) (HMw : Hid (wr.heap[w.heap.size]? = some (.cells #[.int .i64 mk, .int .i64 mf, .int .i64 mt, .int .i64 mT, .int .i64 (idx : Int), .int .i64 ml, .int .i64 mc, .slice eo me.length ec, .bool mg] 30 (0, 0))))
    (c1 c2 c4 c7 c8 c9 c10 c11 c12 c13 c14 c15 c16 c17 c18 c19 c20 c21 c22 c23 c24 c25 c26 c27 c28 c29 c30 c31 c32 c33 c34 c35 c36 c37 c38 c39 c40 c41 c42 c43 c44 c45 c46 c47 c48 c49 c50 c51 c52 c53 c54 c55 c56 c57 c58 c59 c60 c61 c62 c63 c64 c65 c66 c67 c68 c69 c70 c71 c72 c73 c74 c75 c76 c77 c78 c79 c80 c81 c82 c83 c84 c85 c86 c87 c88 c89 c90 c91 c92 c93 c94 c95 c96 c97 c98 c99 c100 c101 c102 c103 c104 c105 c106 c107 c108 c109 c110 c111 c112 c113 c114 c115 c116 c117 c118 c119 c120 c121 c122 c123 c124 c125 c126 c127 c128 c129 c130 c131 c132 c133 c134 c135 c136 c137 c138 c139 c140 c141 c142 c143 c144 c145 c146 c147 c148 c149 c150 c151 c152 c153 c154 c155 c156 c157 c158 c159 c160 c161 c162 c163 c164 c165 c166 c167 c168 c169 c170 c171 c172 c173 c174 c175 c176 c177 c178 c179 c180 c181 c182 c183 c184 c185 c186 c187 c188 c189 c190 c191 c192 c193 c194 c195 c196 c197 c198 c199 c200 c201 c202 c203 c204 c205 c206 c207 c208 c209 c210 c211 c212 c213 c214 c215 c216 c217 c218 c219 c220 c221 : Value) :
    Code.wp Tryz.prog appTail (bodyPost Tryz.prog Tryz.f76 fun e w' => e = .returned (.tuple #[]) ∧ RDid rb v [] w res w') ⟨#[.pointer (some ⟨rb, 0, none⟩), c1, c2, .pointer (some ⟨w.heap.size, 0, none⟩), c4, .int .i64 ((idx : Int) + (me.length : Int)), .int .i64 f, c7, c8, c9, c10, c11, c12, c13, c14, c15, c16, c17, c18, c19, c20, c21, c22, c23, c24, c25, c26, c27, c28, c29, c30, c31, c32, c33, c34, c35, c36, c37, c38, c39, c40, c41, c42, c43, c44, c45, c46, c47, c48, c49, c50, c51, c52, c53, c54, c55, c56, c57, c58, c59, c60, c61, c62, c63, c64, c65, c66, c67, c68, c69, c70, c71, c72, c73, c74, c75, c76, c77, c78, c79, c80, c81, c82, c83, c84, c85, c86, c87, c88, c89, c90, c91, c92, c93, c94, c95, c96, c97, c98, c99, c100, c101, c102, c103, c104, c105, c106, c107, c108, c109, c110, c111, c112, c113, c114, c115, c116, c117, c118, c119, c120, c121, c122, c123, c124, c125, c126, c127, c128, c129, c130, c131, c132, c133, c134, c135, c136, c137, c138, c139, c140, c141, c142, c143, c144, c145, c146, c147, c148, c149, c150, c151, c152, c153, c154, c155, c156, c157, c158, c159, c160, c161, c162, c163, c164, c165, c166, c167, c168, c169, c170, c171, c172, c173, c174, c175, c176, c177, c178, c179, c180, c181, c182, c183, c184, c185, c186, c187, c188, c189, c190, c191, c192, c193, c194, c195, c196, c197, c198, c199, c200, c201, c202, c203, c204, c205, c206, c207, c208, c209, c210, c211, c212, c213, c214, c215, c216, c217, c218, c219, c220, c221], []⟩ wr := by
  have hec := S.hec
  have hl3 := S.hl3
  have hc0 := S.hc0
  have hc1 := S.hc1
  have hlt := S.hlt
  have hne : ¬ rb = w.heap.size := by omega
  have hne2 : ¬ w.heap.size = rb := by omega
  have HEB : Hid (∀ w3 : World, Er rb v v w w3 → EntsIn w3 (.slice eo me.length ec) me) := S.heb
  have HMB := hide S.hmb
  have hs60 := S.hs60
  have hcom := S.hcom
  have H60' := hide S.hsum
  have hile := S.hile
  have hi0 : (0 : Int) ≤ (idx : Int) := by omega
  have hi1 : (idx : Int) ≤ 1000000 := by have := unhide H60'; omega
  have EL := hide S.eL
  have EC := hide S.eC
  have HLV := hide S.hlv
  have HSS := hide S
  clear S
  have y4 : wr.cell? ⟨w.heap.size, 4, none⟩ = some (.int .i64 (idx : Int)) := cell_of_row wr _ 4 _ _ _ (unhide HMw)
  have y7 : wr.cell? ⟨w.heap.size, 7, none⟩ = some (.slice eo me.length ec) := cell_of_row wr _ 7 _ _ _ (unhide HMw)
  conv => arg 2; whnf
  have HL60 : Hid (s.log.length ≤ 60) := hs60
  go_upto_if 176 with fail
  go_cut [10] (fun _ wx => ∃ v', RB wx rb { sA with log := Nd.takes s.log idx me } v' [] ∧ Er rb v v' w wx ∧ wx.heap[w.heap.size]? = some (.cells #[.int .i64 mk, .int .i64 mf, .int .i64 mt, .int .i64 mT, .int .i64 (idx : Int), .int .i64 ml, .int .i64 mc, .slice eo me.length ec, .bool mg] 30 (0, 0)))
  case first =>
    rcases unhide HTK with ⟨hfe, hte⟩ | ⟨q, hq, hfe, hQl, hte⟩
    · have HSM : Hid (({ sA with log := Nd.takes s.log idx me } : Nd) = sA) := by show _ = _; rw [hte, ← unhide EL]
      have hfn : ¬ (0 : Int) ≤ f := by omega
      clear hte hfe
      go_wp2_with fail
      go_meet
      refine ⟨v, ?_, unhide HEw, unhide HMw⟩
      rw [unhide HSM]; exact unhide HRw
    · have hfn : (0 : Int) ≤ f := by omega
      subst hfe
      obtain ⟨Q, hQ⟩ : ∃ Q : Nat, idx + q = Q := ⟨_, rfl⟩
      rw [hQ] at hQl hte
      have hQi : (idx : Int) + (q : Int) = (Q : Int) := by omega
      have hQ0 : (0 : Int) ≤ (Q : Int) := by omega
      have hQ6 : (Q : Int) ≤ 60 := by have := unhide HL60; omega
      have HTE := hide hte
      have hlog := (unhide HRw).log
      rw [unhide EL, unhide HLV] at hlog
      obtain ⟨pv, hsl, _, hpo⟩ := slice_head _ s.log.length Q hQl hlog
      have hpr := hpo wr hlog
      rw [eC_take] at hpr
      have hQm : (s.log.take Q).length = Q := by rw [List.length_take]; omega
      have HPE : Hid (EntsIn wr.drew pv (s.log.take Q)) := by
        show EntsIn _ _ _
        exact ents_of_owns (base := 0) (e := 66) (by rw [hQm]; exact hpr)
      have y5 : wr.cell? ⟨rb, 4, none⟩ = some (.slice lo s.log.length lc) := by rw [(unhide HRw).c4, unhide HLV]
      have HQ24 : Hid ((s.log.take Q).length * 24 ≤ 140737488355328) := by show _ ≤ _; rw [hQm]; have := unhide HL60; omega
      rw [← hQi] at hsl
      have hwq : IntKind.i64.wrap ((idx : Int) + (q : Int)) = (idx : Int) + (q : Int) := wrap_small _ (by omega) (by omega)
      have HQI := hide hQi
      clear hQi hQ0 hQ6
      have HQM := hide hQm
      have HQl := hide hQl
      have HQ := hide hQ
      clear hpo hpr hlog hte hQm hQ
      go_upto_region 25 with fail
      go_cut [10] (fun u wx => wx.ownsRow wr.heap.size 66 2 u Q (eC (s.log.take Q)) ∧ Below wr.heap.size wr wx)
      case first =>
        go_region_law (first | (go_simp; go_at_call 90; refine (refEntries_any pv (s.log.take Q) _ (unhide HQ24) (unhide HPE)).mono ?_; rintro e w1 ⟨ev, rfl, hr1, hb1⟩; rw [unhide HQM] at hr1; replace hr1 := hide hr1; replace hb1 := hide hb1))
        all_goals go_wp2_with fail
        all_goals go_meet
        all_goals exact ⟨unhide hr1, Below.undrew (unhide hb1)⟩
      case rest =>
        obtain ⟨hr1, hb1⟩ := hcut
        have hR1 := (unhide HRw).below hb1
        have HE1 := hide ((unhide HEw).trans (Er.ofBelow hb1))
        have HME : Hid (EntsIn wc (.slice eo me.length ec) me) := unhide HEB wc (unhide HE1)
        have hM1 := ((unhide HE1).block w.heap.size)
        have hM1 := (hb1.block w.heap.size (Array.getElem?_eq_some_iff.1 (unhide HMw)).1).trans (unhide HMw)
        have z7 : wc.cell? ⟨w.heap.size, 7, none⟩ = some (.slice eo me.length ec) := cell_of_row wc _ 7 _ _ _ hM1
        obtain ⟨eb, eoff, rfl⟩ : ∃ b off, eo = some ⟨b, off, none⟩ := by
          obtain ⟨ao, cap, hv, _, hcell⟩ := unhide HME
          simp only [Value.slice.injEq, true_and] at hv
          obtain ⟨rfl, rfl⟩ := hv
          obtain ⟨b, off, hx, _⟩ := hcell q _ (List.getElem?_eq_getElem hq)
          exact ⟨b, off, hx⟩
        obtain ⟨tc, htl, hten⟩ := slice_tail eb eoff me.length ec q me hq hec rfl
        have HSR := hide (src_of_ents (hten wc (unhide HME)))
        obtain ⟨fs, hfs⟩ : ∃ fs, me.drop q = fs := ⟨_, rfl⟩
        have hfl : me.length - q = fs.length := by rw [← hfs, List.length_drop]
        rw [hfl] at htl HSR
        rw [hfs] at HSR HTE
        have hf60 : fs.length ≤ 60 := by omega
        have hQ60 : Q ≤ 60 := by have := unhide HQl; have := unhide HL60; omega
        have HR1 := hide hR1
        have HM1 := hide hM1
        have f4 := hR1.free 4
        have k4 := hR1.c4
        have HRO := hide hr1
        have HB1 := hide hb1
        have hbs := hb1.size
        clear hR1 hM1 hr1 hb1 hten hfs hfl hsl y5 hwq
        obtain ⟨i0, hi, hz0, hz1, hz2⟩ := info_parts infoEntry
        go_wp2_with (at_builtin; refine wpList_append_src rfl (.tmp 188) (.tmp 192) 22 rfl wr.heap.size 66 i0 _ 2 24 Tryz.underlying22 hi hz0 hz1 hz2 rfl (by decide) _ Q (eC (s.log.take Q)) rfl (unhide HRO) _ fs.length (eC fs) rfl (eC_length fs) (unhide HSR) (eC_one fs) (by unfold maxLen; omega) (by omega) hbs ?_; intro v2 w2 hown2 hgrow2 hat2; obtain ⟨o2, c2, rfl⟩ := owns_form hown2; have hB2 := hide (Below.grown (unhide HB1) hgrow2 hbs (fun x hx => ((unhide HRO).lt x hx).1)); have hR2 := RB.below (unhide HRw) (unhide hB2); have m4 := hR2.c4; have g4 := hR2.free 4; replace hown2 := hide hown2; clear hR2 hgrow2 hat2)
        go_meet
        have hl2 : (s.log.take Q ++ fs).length = Q + fs.length := by rw [List.length_append, unhide HQM]
        obtain ⟨hRn, hEn⟩ := RB.newLog (l := s.log.take Q ++ fs) (unhide HRw) (unhide hB2) (by rw [hl2, eC_append]; exact unhide hown2)
        refine ⟨_, by rw [unhide HTE]; exact hRn, (unhide HEw).trans hEn, ?_⟩
        exact (hEn.block w.heap.size (Array.getElem?_eq_some_iff.1 (unhide HMw)).1 (unhide HMB)).trans (unhide HMw)
  case rest =>
    obtain ⟨v', hR7, hE7, hM7⟩ := hcut
    generalize wc = W7 at *
    have x6 : W7.cell? ⟨w.heap.size, 6, none⟩ = some (.int .i64 mc) := cell_of_row W7 _ 6 _ _ _ hM7
    have x1 : W7.cell? ⟨w.heap.size, 1, none⟩ = some (.int .i64 mf) := cell_of_row W7 _ 1 _ _ _ hM7
    have k5 : W7.cell? ⟨rb, 5, none⟩ = some (.int .i64 (s.commit : Int)) := by rw [hR7.c5]; show some (Value.int .i64 ((sA.commit : Nat) : Int)) = _; rw [unhide EC]
    have k2 : W7.cell? ⟨rb, 2, none⟩ = some (.int .i64 sA.term) := hR7.c2
    have g5 := hR7.free 5
    have HR7 := hide hR7
    have HE7 := hide hE7
    have HM7 := hide hM7
    have hsum : ((idx + me.length : Nat) : Int) = (idx : Int) + (me.length : Int) := by omega
    rw [hsum] at HRES
    have hsum6 : ((idx : Int) + (me.length : Int)) ≤ 60 := by have := unhide H60'; omega
    clear hR7 hE7 hM7 y4 y7 HRw HEw HMw HTK hsum
    obtain ⟨cn, hcn⟩ : ∃ cn : Nat, mc = (cn : Int) := ⟨mc.toNat, by omega⟩
    by_cases g1 : (idx : Int) + (me.length : Int) < mc
    · by_cases g2 : (s.commit : Int) < (idx : Int) + (me.length : Int)
      · have hmx : max s.commit (min mc.toNat (idx + me.length)) = idx + me.length := by omega
        rw [hmx] at HRES
        have HRF : Hid (RB (W7.setCell ⟨rb, 5, none⟩ (.int .i64 ((idx : Int) + (me.length : Int)))) rb { sA with log := Nd.takes s.log idx me, commit := idx + me.length } v' []) := by
          have := (unhide HR7).putCommit (idx + me.length)
          rw [show ((idx + me.length : Nat) : Int) = ((idx : Int) + (me.length : Int)) by omega] at this
          exact this
        have HEF := hide ((unhide HE7).set (.inl (v.self rb)) 5 (.int .i64 ((idx : Int) + (me.length : Int))))
        have HMF : Hid ((W7.setCell ⟨rb, 5, none⟩ (.int .i64 ((idx : Int) + (me.length : Int)))).heap[w.heap.size]? = some (.cells #[.int .i64 mk, .int .i64 mf, .int .i64 mt, .int .i64 mT, .int .i64 (idx : Int), .int .i64 ml, .int .i64 mc, .slice eo me.length ec, .bool mg] 30 (0, 0))) := (Below.heap_setCell _ _ _ _ (fun e => hne2 (by simpa using e))).trans (unhide HM7)
        clear hmx hcn
        go_upto_region 32 with fail
        generalize W7.setCell ⟨rb, 5, none⟩ (.int .i64 ((idx : Int) + (me.length : Int))) = W8 at *
        clear x6 x1 k5 k2 g5 HR7 HE7 HM7
        have y1 : W8.cell? ⟨w.heap.size, 1, none⟩ = some (.int .i64 mf) := cell_of_row W8 _ 1 _ _ _ (unhide HMF)
        have y2 : W8.cell? ⟨rb, 2, none⟩ = some (.int .i64 sA.term) := (unhide HRF).c2
        go_region_law (first | (go_simp; go_at_call 104; refine (refSend_any rb _ v' [] { kind := 5, src := 0, dst := mf, term := sA.term, index := (idx : Int) + (me.length : Int), logTerm := 0, commit := 0, ents := [], granted := true } _ _ (RB.drew (unhide HRF)) (by simp) (nil_ents _) (fun y _ hy => by simp [Value.ownBlock] at hy)).mono ?_; rintro e w9 ⟨rfl, hS9⟩; replace hS9 := hide hS9))
        all_goals go_wp2
        all_goals (go_end0; refine ⟨rfl, ?_⟩; rw [unhide HRES]; exact RDid.ahead (unhide HEF).drew (rsent_did (Er.refl _ _ _) (unhide hS9)))
      · have hmx : max s.commit (min mc.toNat (idx + me.length)) = s.commit := by omega
        rw [hmx] at HRES
        have HRF : Hid (RB W7 rb { sA with log := Nd.takes s.log idx me, commit := s.commit } v' []) := by
          have := unhide HR7
          show RB _ _ _ _ _
          rw [← unhide EC]
          exact this
        have HEF := HE7
        have HMF := HM7
        clear hmx hcn
        go_upto_region 32 with fail
        generalize W7 = W8 at *
        clear x6 x1 k5 k2 g5 HR7 HE7 HM7
        have y1 : W8.cell? ⟨w.heap.size, 1, none⟩ = some (.int .i64 mf) := cell_of_row W8 _ 1 _ _ _ (unhide HMF)
        have y2 : W8.cell? ⟨rb, 2, none⟩ = some (.int .i64 sA.term) := (unhide HRF).c2
        go_region_law (first | (go_simp; go_at_call 104; refine (refSend_any rb _ v' [] { kind := 5, src := 0, dst := mf, term := sA.term, index := (idx : Int) + (me.length : Int), logTerm := 0, commit := 0, ents := [], granted := true } _ _ (RB.drew (unhide HRF)) (by simp) (nil_ents _) (fun y _ hy => by simp [Value.ownBlock] at hy)).mono ?_; rintro e w9 ⟨rfl, hS9⟩; replace hS9 := hide hS9))
        all_goals go_wp2
        all_goals (go_end0; refine ⟨rfl, ?_⟩; rw [unhide HRES]; exact RDid.ahead (unhide HEF).drew (rsent_did (Er.refl _ _ _) (unhide hS9)))
    · by_cases g2 : (s.commit : Int) < mc
      · have hmx : max s.commit (min mc.toNat (idx + me.length)) = mc.toNat := by omega
        rw [hmx] at HRES
        have HRF : Hid (RB (W7.setCell ⟨rb, 5, none⟩ (.int .i64 mc)) rb { sA with log := Nd.takes s.log idx me, commit := mc.toNat } v' []) := by
          have := (unhide HR7).putCommit (mc.toNat)
          rw [show ((mc.toNat : Nat) : Int) = mc by omega] at this
          exact this
        have HEF := hide ((unhide HE7).set (.inl (v.self rb)) 5 (.int .i64 mc))
        have HMF : Hid ((W7.setCell ⟨rb, 5, none⟩ (.int .i64 mc)).heap[w.heap.size]? = some (.cells #[.int .i64 mk, .int .i64 mf, .int .i64 mt, .int .i64 mT, .int .i64 (idx : Int), .int .i64 ml, .int .i64 mc, .slice eo me.length ec, .bool mg] 30 (0, 0))) := (Below.heap_setCell _ _ _ _ (fun e => hne2 (by simpa using e))).trans (unhide HM7)
        clear hmx hcn
        go_upto_region 32 with fail
        generalize W7.setCell ⟨rb, 5, none⟩ (.int .i64 mc) = W8 at *
        clear x6 x1 k5 k2 g5 HR7 HE7 HM7
        have y1 : W8.cell? ⟨w.heap.size, 1, none⟩ = some (.int .i64 mf) := cell_of_row W8 _ 1 _ _ _ (unhide HMF)
        have y2 : W8.cell? ⟨rb, 2, none⟩ = some (.int .i64 sA.term) := (unhide HRF).c2
        go_region_law (first | (go_simp; go_at_call 104; refine (refSend_any rb _ v' [] { kind := 5, src := 0, dst := mf, term := sA.term, index := (idx : Int) + (me.length : Int), logTerm := 0, commit := 0, ents := [], granted := true } _ _ (RB.drew (unhide HRF)) (by simp) (nil_ents _) (fun y _ hy => by simp [Value.ownBlock] at hy)).mono ?_; rintro e w9 ⟨rfl, hS9⟩; replace hS9 := hide hS9))
        all_goals go_wp2
        all_goals (go_end0; refine ⟨rfl, ?_⟩; rw [unhide HRES]; exact RDid.ahead (unhide HEF).drew (rsent_did (Er.refl _ _ _) (unhide hS9)))
      · have hmx : max s.commit (min mc.toNat (idx + me.length)) = s.commit := by omega
        rw [hmx] at HRES
        have HRF : Hid (RB W7 rb { sA with log := Nd.takes s.log idx me, commit := s.commit } v' []) := by
          have := unhide HR7
          show RB _ _ _ _ _
          rw [← unhide EC]
          exact this
        have HEF := HE7
        have HMF := HM7
        clear hmx hcn
        go_upto_region 32 with fail
        generalize W7 = W8 at *
        clear x6 x1 k5 k2 g5 HR7 HE7 HM7
        have y1 : W8.cell? ⟨w.heap.size, 1, none⟩ = some (.int .i64 mf) := cell_of_row W8 _ 1 _ _ _ (unhide HMF)
        have y2 : W8.cell? ⟨rb, 2, none⟩ = some (.int .i64 sA.term) := (unhide HRF).c2
        go_region_law (first | (go_simp; go_at_call 104; refine (refSend_any rb _ v' [] { kind := 5, src := 0, dst := mf, term := sA.term, index := (idx : Int) + (me.length : Int), logTerm := 0, commit := 0, ents := [], granted := true } _ _ (RB.drew (unhide HRF)) (by simp) (nil_ents _) (fun y _ hy => by simp [Value.ownBlock] at hy)).mono ?_; rintro e w9 ⟨rfl, hS9⟩; replace hS9 := hide hS9))
        all_goals go_wp2
        all_goals (go_end0; refine ⟨rfl, ?_⟩; rw [unhide HRES]; exact RDid.ahead (unhide HEF).drew (rsent_did (Er.refl _ _ _) (unhide hS9)))

end Go.Proofs.YteiecbkfganhnaaGreat
