/- The document's node: stepAppend's loop. -/
import Derived.Test.YteiecbkfganhnaaGreatRefHc

namespace Go.Proofs.YteiecbkfganhnaaGreat

open Go.RowKit Go.MuLone

set_option maxRecDepth 100000 in
set_option maxHeartbeats 8000000 in
theorem app_loop (rb : Nat) (s sA : Nd) (v : RV) (w : World) (eo : Option Addr) (ec : Nat) (mk mf mt mT ml mc : Int) (me : List Ent) (mg : Bool) (idx : Nat) (lo : Option Addr) (lc : Nat) (S : AppS rb s sA v w eo ec mc me idx lo lc) (res : Nd × List Msg) (HS2 : Hid (res = if 60 < idx + me.length ∨ Nd.keeps s.log s.commit idx me = false then (sA, []) else ({ sA with log := Nd.takes s.log idx me, commit := max s.commit (min mc.toNat (idx + me.length)) }, [sA.reply 5 mf sA.term ((idx + me.length : Nat) : Int) true])))
    (W6 : World) (HR5 : Hid (RB W6 rb sA v [])) (HE5 : Hid (Er rb v v w W6)) (HM5 : Hid (W6.heap[w.heap.size]? = some (.cells #[.int .i64 mk, .int .i64 mf, .int .i64 mt, .int .i64 mT, .int .i64 (idx : Int), .int .i64 ml, .int .i64 mc, .slice eo me.length ec, .bool mg] 30 (0, 0))))
    (KK : Act → World → Prop)
    (hKK : Hid (∀ (c1 c2 c4 c7 c8 c9 c10 c11 c12 c13 c14 c15 c16 c17 c18 c19 c20 c21 c22 c23 c24 c25 c26 c27 c28 c29 c30 c31 c32 c33 c34 c35 c36 c37 c38 c39 c40 c41 c42 c43 c44 c45 c46 c47 c48 c49 c50 c51 c52 c53 c54 c55 c56 c57 c58 c59 c60 c61 c62 c63 c64 c65 c66 c67 c68 c69 c70 c71 c72 c73 c74 c75 c76 c77 c78 c79 c80 c81 c82 c83 c84 c85 c86 c87 c88 c89 c90 c91 c92 c93 c94 c95 c96 c97 c98 c99 c100 c101 c102 c103 c104 c105 c106 c107 c108 c109 c110 c111 c112 c113 c114 c115 c116 c117 c118 c119 c120 c121 c122 c123 c124 c125 c126 c127 c128 c129 c130 c131 c132 c133 c134 c135 c136 c137 c138 c139 c140 c141 c142 c143 c144 c145 c146 c147 c148 c149 c150 c151 c152 c153 c154 c155 c156 c157 c158 c159 c160 c161 c162 c163 c164 c165 c166 c167 c168 c169 c170 c171 c172 c173 c174 c175 c176 c177 c178 c179 c180 c181 c182 c183 c184 c185 c186 c187 c188 c189 c190 c191 c192 c193 c194 c195 c196 c197 c198 c199 c200 c201 c202 c203 c204 c205 c206 c207 c208 c209 c210 c211 c212 c213 c214 c215 c216 c217 c218 c219 c220 c221 : Value) (f : Int) (wr : World), -1 ≤ f → f < 100 → Hid (res = ({ sA with log := Nd.takes s.log idx me, commit := max s.commit (min mc.toNat (idx + me.length)) }, [sA.reply 5 mf sA.term ((idx + me.length : Nat) : Int) true])) → Hid ((f = -1 ∧ Nd.takes s.log idx me = s.log) ∨ ∃ q : Nat, q < me.length ∧ f = (q : Int) ∧ idx + q ≤ s.log.length ∧ Nd.takes s.log idx me = s.log.take (idx + q) ++ me.drop q) →
      Hid (RB wr rb sA v []) → Hid (Er rb v v w wr) → Hid (wr.heap[w.heap.size]? = some (.cells #[.int .i64 mk, .int .i64 mf, .int .i64 mt, .int .i64 mT, .int .i64 (idx : Int), .int .i64 ml, .int .i64 mc, .slice eo me.length ec, .bool mg] 30 (0, 0))) → KK ⟨#[.pointer (some ⟨rb, 0, none⟩), c1, c2, .pointer (some ⟨w.heap.size, 0, none⟩), c4, .int .i64 ((idx : Int) + (me.length : Int)), .int .i64 f, c7, c8, c9, c10, c11, c12, c13, c14, c15, c16, c17, c18, c19, c20, c21, c22, c23, c24, c25, c26, c27, c28, c29, c30, c31, c32, c33, c34, c35, c36, c37, c38, c39, c40, c41, c42, c43, c44, c45, c46, c47, c48, c49, c50, c51, c52, c53, c54, c55, c56, c57, c58, c59, c60, c61, c62, c63, c64, c65, c66, c67, c68, c69, c70, c71, c72, c73, c74, c75, c76, c77, c78, c79, c80, c81, c82, c83, c84, c85, c86, c87, c88, c89, c90, c91, c92, c93, c94, c95, c96, c97, c98, c99, c100, c101, c102, c103, c104, c105, c106, c107, c108, c109, c110, c111, c112, c113, c114, c115, c116, c117, c118, c119, c120, c121, c122, c123, c124, c125, c126, c127, c128, c129, c130, c131, c132, c133, c134, c135, c136, c137, c138, c139, c140, c141, c142, c143, c144, c145, c146, c147, c148, c149, c150, c151, c152, c153, c154, c155, c156, c157, c158, c159, c160, c161, c162, c163, c164, c165, c166, c167, c168, c169, c170, c171, c172, c173, c174, c175, c176, c177, c178, c179, c180, c181, c182, c183, c184, c185, c186, c187, c188, c189, c190, c191, c192, c193, c194, c195, c196, c197, c198, c199, c200, c201, c202, c203, c204, c205, c206, c207, c208, c209, c210, c211, c212, c213, c214, c215, c216, c217, c218, c219, c220, c221], []⟩ wr))
    (c1 c2 c4 c7 c8 c9 c10 c11 c12 c13 c14 c15 c16 c17 c18 c19 c20 c21 c22 c23 c24 c25 c26 c27 c28 c29 c30 c31 c32 c33 c34 c35 c36 c37 c38 c39 c40 c41 c42 c43 c44 c45 c46 c47 c48 c49 c50 c51 c52 c53 c54 c55 c56 c57 c58 c59 c60 c61 c62 c63 c64 c65 c66 c67 c68 c69 c70 c71 c72 c73 c74 c75 c76 c77 c78 c79 c80 c81 c82 c83 c84 c85 c86 c87 c88 c89 c90 c91 c92 c93 c94 c95 c96 c97 c98 c99 c100 c101 c102 c103 c104 c105 c106 c107 c108 c109 c110 c111 c112 c113 c114 c115 c116 c117 c118 c119 c120 c121 c122 c123 c124 c125 c126 c127 c128 c129 c130 c131 c132 c133 c134 c135 c136 c137 c138 c139 c140 c141 c142 c143 c144 c145 c146 c147 c148 c149 c150 c151 c152 c153 c154 c155 c156 c157 c158 c159 c160 c161 c162 c163 c164 c165 c166 c167 c168 c169 c170 c171 c172 c173 c174 c175 c176 c177 c178 c179 c180 c181 c182 c183 c184 c185 c186 c187 c188 c189 c190 c191 c192 c193 c194 c195 c196 c197 c198 c199 c200 c201 c202 c203 c204 c205 c206 c207 c208 c209 c210 c211 c212 c213 c214 c215 c216 c217 c218 c219 c220 c221 : Value) :
    Code.wp Tryz.prog appLoop (Exit.then KK (bodyPost Tryz.prog Tryz.f76 fun e w' => e = .returned (.tuple #[]) ∧ RDid rb v [] w res w')) ⟨#[.pointer (some ⟨rb, 0, none⟩), c1, c2, .pointer (some ⟨w.heap.size, 0, none⟩), c4, .int .i64 ((idx : Int) + (me.length : Int)), .int .i64 (-1), c7, c8, c9, c10, c11, c12, c13, c14, c15, c16, c17, c18, c19, c20, c21, c22, c23, c24, c25, c26, c27, c28, c29, c30, c31, c32, c33, c34, c35, c36, c37, c38, c39, c40, c41, c42, c43, c44, c45, c46, c47, c48, c49, c50, c51, c52, c53, c54, c55, c56, c57, c58, c59, c60, c61, c62, c63, c64, c65, c66, c67, c68, c69, c70, c71, c72, c73, c74, c75, c76, c77, c78, c79, c80, c81, c82, c83, c84, c85, c86, c87, c88, c89, c90, c91, c92, c93, c94, c95, c96, c97, c98, c99, c100, c101, c102, c103, c104, c105, c106, c107, c108, c109, c110, c111, c112, c113, c114, c115, c116, c117, c118, c119, c120, c121, c122, c123, c124, c125, c126, c127, c128, c129, c130, c131, c132, c133, c134, c135, c136, c137, c138, c139, c140, c141, c142, c143, c144, c145, c146, c147, c148, c149, c150, c151, c152, c153, c154, c155, c156, c157, c158, c159, c160, c161, c162, c163, c164, c165, c166, c167, c168, c169, c170, c171, c172, c173, c174, c175, c176, c177, c178, c179, c180, c181, c182, c183, c184, c185, c186, c187, c188, c189, c190, c191, c192, c193, c194, c195, c196, c197, c198, c199, c200, c201, c202, c203, c204, c205, c206, c207, c208, c209, c210, c211, c212, c213, c214, c215, c216, c217, c218, c219, c220, c221], []⟩ W6 := by
  have hec := S.hec
  have hl3 := S.hl3
  have hc0 := S.hc0
  have hc1 := S.hc1
  have hlt := S.hlt
  have hne : ¬ rb = w.heap.size := by omega
  have hne2 : ¬ w.heap.size = rb := by omega
  have HEB : Hid (∀ w3 : World, Er rb v v w w3 → EntsIn w3 (.slice eo me.length ec) me) := S.heb
  have HMB := hide S.hmb
  have hs60 := S.hs60
  have hcom := S.hcom
  have H60' := hide S.hsum
  have hile := S.hile
  have hi0 : (0 : Int) ≤ (idx : Int) := by omega
  have hi1 : (idx : Int) ≤ 1000000 := by have := unhide H60'; omega
  have EL := hide S.eL
  have EC := hide S.eC
  have HLV := hide S.hlv
  have HSS := hide S
  clear S
  have HENT := hide (unhide HEB W6 (unhide HE5))
  have hLOG : EntsIn W6 (.slice lo s.log.length lc) s.log := by
    have h9 := ents_of_owns (unhide HR5).log
    rw [unhide EL, unhide HLV] at h9
    exact h9
  have HLOG := hide hLOG
  have K5 : Hid (W6.cell? ⟨rb, 4, none⟩ = some (.slice lo s.log.length lc)) := by show _ = _; rw [(unhide HR5).c4, unhide HLV]
  have KC : Hid (W6.cell? ⟨rb, 5, none⟩ = some (.int .i64 (s.commit : Int))) := by show _ = _; rw [(unhide HR5).c5, unhide EC]
  have X4 : Hid (W6.cell? ⟨w.heap.size, 4, none⟩ = some (.int .i64 (idx : Int))) := cell_of_row W6 _ 4 _ _ _ (unhide HM5)
  have X7 : Hid (W6.cell? ⟨w.heap.size, 7, none⟩ = some (.slice eo me.length ec)) := cell_of_row W6 _ 7 _ _ _ (unhide HM5)
  clear hLOG
  conv => arg 2; whnf
  go_wp2
  go_loopw [6, 7] (fun u ix wr => ∃ (k : Nat) (f : Int), k ≤ me.length ∧ ix = .int .i64 k ∧ u = .int .i64 f ∧ -1 ≤ f ∧ f < 100 ∧ Scan s.log s.commit idx me k f ∧ ∃ q, wr = W6.drewN q) (fun _ ix _ => me.length - (intOf ix).toNat)
  case atStart => exact ⟨0, -1, Nat.zero_le _, rfl, rfl, by omega, by omega, Scan.zero _ _ _ _, 0, rfl⟩
  case round =>
    obtain ⟨k, f, hk, rfl, rfl, hf0, hf1, hsc, q6, hwr⟩ := hrel
    have y4 : wr.cell? ⟨w.heap.size, 4, none⟩ = some (.int .i64 (idx : Int)) := by rw [hwr]; exact unhide X4
    have y7 : wr.cell? ⟨w.heap.size, 7, none⟩ = some (.slice eo me.length ec) := by rw [hwr]; exact unhide X7
    by_cases hlt' : k < me.length
    · have hki0 := hlt'
      have hki : (k : Int) < (me.length : Int) := by omega
      have hk0 : (0 : Int) ≤ (k : Int) := by omega
      have hke : me[k]? = some me[k] := List.getElem?_eq_getElem hlt'
      have hE := unhide HENT
      obtain ⟨ao, cap, hv, _, hcell⟩ := hE
      simp only [Value.slice.injEq, true_and] at hv
      obtain ⟨rfl, rfl⟩ := hv
      obtain ⟨eb, eoff, rfl, ee0, ee1⟩ := hcell k _ hke
      have z0 : wr.cell? ⟨eb, eoff + k * 2, none⟩ = some (.int .i64 me[k].1) := by rw [hwr]; exact ee0
      have z1 : wr.cell? ⟨eb, eoff + k * 2 + 1, none⟩ = some (.string me[k].2) := by rw [hwr]; exact ee1
      have y5 : wr.cell? ⟨rb, 4, none⟩ = some (.slice lo s.log.length lc) := by rw [hwr]; exact unhide K5
      have yc : wr.cell? ⟨rb, 5, none⟩ = some (.int .i64 (s.commit : Int)) := by rw [hwr]; exact unhide KC
      obtain ⟨A, hA⟩ : ∃ A : Nat, A = idx + k := ⟨_, rfl⟩
      have hAt : (idx : Int) + (k : Int) = (A : Int) := by omega
      have hA0 : (0 : Int) ≤ (A : Int) := by omega
      have HNX := hide (hsc.next hke)
      have HKE := hide hke
      have HWR := hide hwr
      have HA := hide hA
      have HSC := hide hsc
      clear hcell ee0 ee1 hwr hsc hA
      have HEV : Hid (∃ t c, me[k] = (t, c)) := ⟨_, _, rfl⟩
      generalize hme : me[k] = ent at *
      obtain ⟨et, ecm⟩ := ent
      simp only at z0 z1
      have hq := eql_entry
      go_upto_region 20 with fail
      go_cut [9] (fun u wx => u = .bool (decide (s.log[A]? = some (et, ecm))) ∧ ∃ q, wx = wr.drewN q)
      case first =>
        by_cases hAl : A < s.log.length
        · have hla : s.log[A]? = some s.log[A] := List.getElem?_eq_getElem hAl
          obtain ⟨ao, cap, hv, _, hcell⟩ := unhide HLOG
          simp only [Value.slice.injEq, true_and] at hv
          obtain ⟨rfl, rfl⟩ := hv
          obtain ⟨lb, loff, rfl, e0, e1⟩ := hcell A _ hla
          have l0 : wr.cell? ⟨lb, loff + A * 2, none⟩ = some (.int .i64 s.log[A].1) := by rw [unhide HWR]; exact e0
          have l1 : wr.cell? ⟨lb, loff + A * 2 + 1, none⟩ = some (.string s.log[A].2) := by rw [unhide HWR]; exact e1
          have hAi : (A : Int) < (s.log.length : Int) := by omega
          have HLA := hide hla
          clear hcell e0 e1 hla
          generalize s.log[A] = ent2 at *
          obtain ⟨lt, lcm⟩ := ent2
          simp only at l0 l1
          go_quiet (fail)
          go_wp2_with fail
          go_meet
          refine ⟨?_, _, rfl⟩
          rw [unhide HLA]
          congr 1
          by_cases t1 : lt = et <;> by_cases t2 : lcm = ecm
          · subst t1; subst t2; simp
          · have t3 : ¬ lcm.toList = ecm.toList := fun hx => t2 (ba_inj hx)
            simp [t1, t2, t3]
          · simp [t1]
          · simp [t1]
        · have hAi : ¬ (A : Int) < (s.log.length : Int) := by omega
          have hla : s.log[A]? = none := List.getElem?_eq_none (by omega)
          have HLA := hide hla
          clear hla
          go_quiet (fail)
          go_wp2_with fail
          go_meet
          refine ⟨?_, _, rfl⟩
          rw [unhide HLA]
          simp
      case rest =>
        obtain ⟨hu9, q7, hwc7⟩ := hcut
        subst hwc7
        go_upto_region 21 with fail
        go_cut [145] (fun u wx => u = .bool (decide (A < s.commit ∧ ¬ s.log[A]? = some (et, ecm))) ∧ ∃ q, wx = wr.drewN q)
        case first =>
          by_cases hc : (A : Int) < (s.commit : Int)
          · by_cases hs : s.log[A]? = some (et, ecm)
            · rw [decide_eq_true hs] at hu9
              subst hu9
              have HB1 : Hid (decide (A < s.commit ∧ ¬ s.log[A]? = some (et, ecm)) = false) := decide_eq_false fun hx => hx.2 hs
              clear hs
              go_wp2_with fail
              go_meet
              exact ⟨by rw [unhide HB1], _, rfl⟩
            · rw [decide_eq_false hs] at hu9
              subst hu9
              have HB1 : Hid (decide (A < s.commit ∧ ¬ s.log[A]? = some (et, ecm)) = true) := decide_eq_true ⟨by omega, hs⟩
              clear hs
              go_wp2_with fail
              go_meet
              exact ⟨by rw [unhide HB1], _, rfl⟩
          · have HB1 : Hid (decide (A < s.commit ∧ ¬ s.log[A]? = some (et, ecm)) = false) := decide_eq_false fun hx => hc (by omega)
            subst hu9
            go_wp2_with fail
            go_meet
            exact ⟨by rw [unhide HB1], _, rfl⟩
        case rest =>
          obtain ⟨hu2, q8, hwc8⟩ := hcut
          subst hwc8
          replace hu9 := hide hu9
          by_cases hret : A < s.commit ∧ ¬ s.log[A]? = some (et, ecm)
          · rw [decide_eq_true hret] at hu2
            subst hu2
            have HRES : Hid (res = (sA, [])) := by
              show _ = _
              rw [unhide HS2]
              refine if_pos (.inr (keeps_bad me idx k _ (unhide HKE) ?_ ?_))
              · rw [← unhide HA]; exact hret.1
              · rw [← unhide HA]; exact hret.2
            clear hret
            go_wp2
            refine bodyPost_ret (v := .tuple #[]) (results_none rfl _ _ _) rfl ⟨rfl, ?_⟩
            rw [unhide HRES]
            exact ⟨[], rfl, v, by rw [unhide HWR]; exact RB.drewN (RB.drewN (unhide HR5) _) _, by rw [unhide HWR]; exact ((unhide HE5).drewN _).drewN _⟩
          · rw [decide_eq_false hret] at hu2
            subst hu2
            have hkc : s.commit ≤ idx + k ∨ s.log[idx + k]? = some (et, ecm) := by
              rw [← unhide HA]
              by_cases h8 : A < s.commit
              · exact .inr (Classical.not_not.1 fun h7 => hret ⟨h8, h7⟩)
              · exact .inl (by omega)
            have HNX2 := hide (unhide HNX hkc)
            clear hret hkc
            go_upto_region 22 with fail
            go_cut [173] (fun u wx => u = .bool (decide (f < 0 ∧ (s.log.length ≤ A ∨ Nd.termAt s.log (A + 1) ≠ et))) ∧ ∃ q, wx = wr.drewN q)
            case first =>
              by_cases hf : f < 0
              · by_cases hAl : A < s.log.length
                · have hla : s.log[A]? = some s.log[A] := List.getElem?_eq_getElem hAl
                  have hta := termAt_get (l := s.log) hAl
                  obtain ⟨ao, cap, hv, _, hcell⟩ := unhide HLOG
                  simp only [Value.slice.injEq, true_and] at hv
                  obtain ⟨rfl, rfl⟩ := hv
                  obtain ⟨lb, loff, rfl, e0, e1⟩ := hcell A _ hla
                  have l0 : wr.cell? ⟨lb, loff + A * 2, none⟩ = some (.int .i64 s.log[A].1) := by rw [unhide HWR]; exact e0
                  have l1 : wr.cell? ⟨lb, loff + A * 2 + 1, none⟩ = some (.string s.log[A].2) := by rw [unhide HWR]; exact e1
                  have hAi : (A : Int) < (s.log.length : Int) := by omega
                  have hAg : decide ((s.log.length : Int) ≤ (A : Int)) = false := decide_eq_false (by omega)
                  have HTA := hide hta
                  clear hcell e0 e1 hla hta
                  generalize s.log[A] = ent2 at *
                  obtain ⟨lt, lcm⟩ := ent2
                  simp only at l0 l1
                  have HB2 : Hid (decide (f < 0 ∧ (s.log.length ≤ A ∨ Nd.termAt s.log (A + 1) ≠ et)) = (lt != et)) := by
                    show _ = _
                    rw [unhide HTA]
                    by_cases t1 : lt = et
                    · simp [t1]; omega
                    · simp [t1, hf]
                  go_quiet (fail)
                  go_wp2_with fail
                  go_meet
                  first | exact ⟨by rw [unhide HB2, decide_eq_false (show ¬ s.log.length ≤ A by omega), Bool.false_or], _, rfl⟩ | exact ⟨by rw [unhide HB2, decide_eq_false (show ¬ s.log.length ≤ A by omega), Bool.false_or], _, World.drewN_drewN _ _ _⟩
                · have hAg : decide ((s.log.length : Int) ≤ (A : Int)) = true := decide_eq_true (by omega)
                  have HB2 : Hid (decide (f < 0 ∧ (s.log.length ≤ A ∨ Nd.termAt s.log (A + 1) ≠ et)) = true) := decide_eq_true ⟨hf, .inl (by omega)⟩
                  go_quiet (fail)
                  go_wp2_with fail
                  go_meet
                  first | exact ⟨by rw [unhide HB2], _, rfl⟩ | exact ⟨by rw [unhide HB2], _, World.drewN_drewN _ _ _⟩
              · have HB2 : Hid (decide (f < 0 ∧ (s.log.length ≤ A ∨ Nd.termAt s.log (A + 1) ≠ et)) = false) := decide_eq_false fun hx => hf hx.1
                go_quiet (fail)
                go_wp2_with fail
                go_meet
                first | exact ⟨by rw [unhide HB2], _, rfl⟩ | exact ⟨by rw [unhide HB2], _, World.drewN_drewN _ _ _⟩
            case rest =>
              obtain ⟨hu3, q9, hwc9⟩ := hcut
              subst hwc9
              by_cases hset : f < 0 ∧ (s.log.length ≤ A ∨ Nd.termAt s.log (A + 1) ≠ et)
              · rw [decide_eq_true hset] at hu3
                subst hu3
                have HN3 := hide ((unhide HNX2).1 (by rw [← unhide HA]; exact hset))
                clear hset
                go_wp2
                go_roundw
                case rel => exact ⟨k + 1, (k : Int), by omega, by go_num, rfl, by omega, by omega, unhide HN3, _, by rw [unhide HWR, World.drewN_drewN]⟩
                case measure => simp [intOf]; omega
              · rw [decide_eq_false hset] at hu3
                subst hu3
                have HN3 := hide ((unhide HNX2).2 (by rw [← unhide HA]; exact hset))
                clear hset
                go_wp2
                go_roundw
                case rel => exact ⟨k + 1, f, by omega, by go_num, rfl, hf0, hf1, unhide HN3, _, by rw [unhide HWR, World.drewN_drewN]⟩
                case measure => simp [intOf]; omega
    · have hkn : k = me.length := by omega
      subst hkn
      have hkp := hsc.keeps
      have htk := hsc.cut hile
      have h60n : ¬ 60 < idx + me.length := by have := unhide H60'; omega
      have HRES : Hid (res = ({ sA with log := Nd.takes s.log idx me, commit := max s.commit (min mc.toNat (idx + me.length)) }, [sA.reply 5 mf sA.term ((idx + me.length : Nat) : Int) true])) := by
        show _ = _
        rw [unhide HS2]
        refine if_neg ?_
        rintro (hx | hx)
        · exact h60n hx
        · rw [hkp] at hx; cases hx
      have HRw : Hid (RB wr rb sA v []) := by show RB _ _ _ _ _; rw [hwr]; exact RB.drewN (unhide HR5) _
      have HEw : Hid (Er rb v v w wr) := by show Er _ _ _ _ _; rw [hwr]; exact (unhide HE5).drewN _
      have HMw : Hid (wr.heap[w.heap.size]? = some (.cells #[.int .i64 mk, .int .i64 mf, .int .i64 mt, .int .i64 mT, .int .i64 (idx : Int), .int .i64 ml, .int .i64 mc, .slice eo me.length ec, .bool mg] 30 (0, 0))) := by show _ = _; rw [hwr]; exact unhide HM5
      have HTK := hide htk
      clear hkp htk hsc hwr hk hlt'
      have HF := hide (And.intro hf0 hf1)
      go_wp2_with fail
      exact unhide hKK _ _ _ _ _ _ _ _ _ _ _ _ _ _ _ _ _ _ _ _ _ _ _ _ _ _ _ _ _ _ _ _ _ _ _ _ _ _ _ _ _ _ _ _ _ _ _ _ _ _ _ _ _ _ _ _ _ _ _ _ _ _ _ _ _ _ _ _ _ _ _ _ _ _ _ _ _ _ _ _ _ _ _ _ _ _ _ _ _ _ _ _ _ _ _ _ _ _ _ _ _ _ _ _ _ _ _ _ _ _ _ _ _ _ _ _ _ _ _ _ _ _ _ _ _ _ _ _ _ _ _ _ _ _ _ _ _ _ _ _ _ _ _ _ _ _ _ _ _ _ _ _ _ _ _ _ _ _ _ _ _ _ _ _ _ _ _ _ _ _ _ _ _ _ _ _ _ _ _ _ _ _ _ _ _ _ _ _ _ _ _ _ _ _ _ _ _ _ _ _ _ _ _ _ _ _ _ _ _ _ _ _ _ _ _ _ _ _ f wr (unhide HF).1 (unhide HF).2 HRES HTK HRw HEw HMw

end Go.Proofs.YteiecbkfganhnaaGreat
