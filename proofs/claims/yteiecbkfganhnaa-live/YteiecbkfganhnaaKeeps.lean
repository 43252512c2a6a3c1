/- The program's node: keepsCommitted. -/
import Derived.Test.YteiecbkfganhnaaStepVoteH
namespace Go.Proofs.Yteiecbkfganhnaa
open Go.RowKit Go.MuLone

theorem neqE (a c : Int) (s r : ByteArray) (w : World) : (binOp .neq 78 (.agg #[.int .i64 a, .string s]) (.agg #[.int .i64 c, .string r])).run Try.prog w = .ok (.bool (!(a == c && s.toList == r.toList))) w := by
  have u3 := Try.underlying3
  have u9 := Try.underlying9
  have hS : Try.prog.underlying 78 = some (.struct (Try.prog.fieldsOf 78)) := by kernel_rfl
  have hp : Try.prog.stoodInHeld 78 = false := by kernel_rfl
  rw [run_neq_struct, show (10000 : Nat) = 9999 + 1 from rfl, run_equalIn_agg w 9999 78 _ _ hS hp]
  simp only [Program.fieldsOf, Try.underlying78]
  go_simp
  by_cases h1 : a = c <;> by_cases h2 : s.toList = r.toList <;> simp [h1, h2]

theorem ba_inj {s r : ByteArray} (h : s.toList = r.toList) : s = r := by
  rw [Go.Lib.toList_data, Go.Lib.toList_data] at h
  exact ByteArray.ext (Array.ext' h)

theorem keeps_cons (l : List Ent) (c k : Nat) (es : List Ent) (hk : k < es.length) (i : Nat) : Nd.keeps l c (i + k) (es.drop k) = ((decide (c ≤ i + k) || decide (l[i + k]? = some es[k])) && Nd.keeps l c (i + (k + 1)) (es.drop (k + 1))) := by
  rw [List.drop_eq_getElem_cons hk]
  rfl

set_option maxRecDepth 100000 in
set_option maxHeartbeats 1000000 in
theorem keepsCommitted_any (mu : Int) (nb : Nat) (s : Nd) (lv : Value) (m : Msg) (ev : Value) (i : Nat) (w : World) (h : NB mu w nb s lv) (hl : NL w s lv) (hs : s.last ≤ 60) (hc : s.commit ≤ s.last) (hi : m.index = (i : Int)) (hi2 : i ≤ 60) (hn : m.ents.length ≤ 3) (he : EntsIn w ev m.ents) :
    Calls Try.prog 70 #[.pointer (some ⟨nb, 0, none⟩), magg m ev] w fun e w' => e = .returned (.bool (Nd.keeps s.log s.commit i m.ents)) ∧ Below w.heap.size w w' := by
  obtain ⟨eo, ec, rfl, hl1, ha⟩ := he
  have hq := neqE
  have hlt := h.lt
  have hne : ¬ nb = w.heap.size := by omega
  have HBW := hide (below_alloc w (.cells #[.int .i64 m.kind, .int .i64 m.src, .int .i64 m.dst, .int .i64 m.term, .int .i64 m.index, .int .i64 m.logTerm, .int .i64 m.commit, .slice eo m.ents.length ec, .bool m.granted] 50))
  have HWM := hide (heap_alloc_new w (.cells #[.int .i64 m.kind, .int .i64 m.src, .int .i64 m.dst, .int .i64 m.term, .int .i64 m.index, .int .i64 m.logTerm, .int .i64 m.commit, .slice eo m.ents.length ec, .bool m.granted] 50))
  have HN := hide h
  have HL := hide hl
  have HA := hide ha
  have HI := hide hi
  clear h hl ha hi hl1
  go_enter Try.func70, Try.ntmps70
  go_wp2
  generalize w.alloc (.cells #[.int .i64 m.kind, .int .i64 m.src, .int .i64 m.dst, .int .i64 m.term, .int .i64 m.index, .int .i64 m.logTerm, .int .i64 m.commit, .slice eo m.ents.length ec, .bool m.granted] 50) = W at *
  go_loopw [11] (fun v wr => ∃ k : Nat, k ≤ m.ents.length ∧ v = .int .i64 k ∧ Nd.keeps s.log s.commit i m.ents = Nd.keeps s.log s.commit (i + k) (m.ents.drop k) ∧ Below W.heap.size W wr) (fun v _ => m.ents.length - (intOf v).toNat)
  case atStart => exact ⟨0, Nat.zero_le _, rfl, rfl, Below.refl _ _⟩
  case round =>
    obtain ⟨k, hk, rfl, hkp, hb⟩ := hrel
    by_cases hlt2 : k < m.ents.length
    · have hBB := below_trans (unhide HBW) hb
      obtain ⟨b, off, rfl, a0', a1'⟩ := (unhide HA) k _ (show m.ents[k]? = some m.ents[k] by simp [hlt2])
      have a0 := (hBB.cell (p := ⟨b, off + k * 2, none⟩) (block_lt_of_cell a0')).trans a0'
      have a1 := (hBB.cell (p := ⟨b, off + k * 2 + 1, none⟩) (block_lt_of_cell a1')).trans a1'
      have x4 : wr.cell? ⟨w.heap.size, 4, none⟩ = some (.int .i64 (i : Int)) := by
        rw [← unhide HI]
        exact cell_of_row wr w.heap.size 4 _ _ _ ((hb.block w.heap.size (Array.getElem?_eq_some_iff.1 (unhide HWM)).1).trans (unhide HWM))
      have hN2 := (unhide HN).below hBB
      have c9 := hN2.c9
      have c6 := hN2.c6
      have hltR := hN2.lt
      have hneR : ¬ nb = wr.heap.size := by omega
      have hmbR : ¬ w.heap.size = wr.heap.size := by have h1 := hb.size; have h2 := (Array.getElem?_eq_some_iff.1 (unhide HWM)).1; omega
      have hmbR2 : w.heap.size < wr.heap.size := by have h1 := hb.size; have h2 := (Array.getElem?_eq_some_iff.1 (unhide HWM)).1; omega
      have hmbR3 : ¬ wr.heap.size = w.heap.size := by omega
      have hbR : ¬ b = wr.heap.size := by have h1 := block_lt_of_cell a0; simp only at h1; omega
      have i1 : (0 : Int) ≤ (k : Int) := by omega
      have i2 : (k : Int) < (m.ents.length : Int) := by omega
      have HKC := hide (keeps_cons s.log s.commit k m.ents hlt2 i)
      have HKP := hide hkp
      have HB2 := hide (hb.alloc hb.size (.cells #[.int .i64 m.ents[k].1, .string m.ents[k].2] 78))
      have hNL2 := (unhide HL).below hBB
      clear a0' a1' hkp
      by_cases hcm : i + k < s.commit
      · have hil : i + k < s.log.length := by have : s.last = s.log.length := rfl; omega
        obtain ⟨lo, lc, hlv, _, hla⟩ := hNL2.ents
        obtain ⟨lb, loff, rfl, l0, l1⟩ := hla (i + k) _ (show s.log[i + k]? = some s.log[i + k] by simp [hil])
        subst hlv
        have hlbR : ¬ lb = wr.heap.size := by have h1 := block_lt_of_cell l0; simp only at h1; omega
        have hlbR2 : lb < wr.heap.size := by have h1 := block_lt_of_cell l0; exact h1
        have hlbR3 : ¬ wr.heap.size = lb := by omega
        have hA : (i : Int) + (k : Int) = ((i + k : Nat) : Int) := by omega
        have hs' : s.log.length ≤ 60 := hs
        have hlk : s.log[i + k]? = some s.log[i + k] := by simp [hil]
        have HXE : Hid (s.log[i + k]?= some m.ents[k] ↔ s.log[i + k] = m.ents[k]) := by show _ ↔ _; rw [hlk, Option.some.injEq]
        by_cases hx : s.log[i + k] = m.ents[k]
        · have HK2 : Hid (Nd.keeps s.log s.commit i m.ents = Nd.keeps s.log s.commit (i + (k + 1)) (m.ents.drop (k + 1))) := by
            show _ = _
            rw [unhide HKP, unhide HKC, hlk, hx]
            simp
          rw [hx] at l0 l1
          clear hla hNL2 hN2 hBB hb hx HKC HKP hlk HXE
          generalize m.ents[k].1 = t at *
          generalize m.ents[k].2 = q at *
          have HA2 := hide hA
          clear hA
          go_wp2
          rw [unhide HA2]
          generalize i + k = A at *
          have j1 : (0 : Int) ≤ (A : Int) := by omega
          have j2 : (A : Int) < (s.log.length : Int) := by omega
          have j3 : (A : Int) < (s.commit : Int) := by omega
          go_quiet (fail)
          go_wp2
          go_roundw
          case rel => exact ⟨k + 1, by omega, by go_num, unhide HK2, below_drewN (unhide HB2) _⟩
          case measure => simp [intOf]; omega
        · have HK2 : Hid (Nd.keeps s.log s.commit i m.ents = false) := by
            show _ = _
            rw [unhide HKP, unhide HKC, decide_eq_false (show ¬ s.commit ≤ i + k by omega), decide_eq_false (fun hy => hx ((unhide HXE).1 hy))]
            rfl
          have hbe : (s.log[i + k].1 == m.ents[k].1 && s.log[i + k].2.toList == m.ents[k].2.toList) = false := by
            rw [Bool.and_eq_false_iff]
            by_cases h1 : s.log[i + k].1 = m.ents[k].1
            · refine .inr ?_
              simp only [beq_eq_false_iff_ne, ne_eq]
              exact fun h2 => hx (Prod.ext h1 (ba_inj h2))
            · exact .inl (by simpa using h1)
          clear hla hNL2 hN2 hBB hb hx HKC HKP hlk HXE
          generalize m.ents[k].1 = t at *
          generalize m.ents[k].2 = q at *
          generalize s.log[i + k].1 = t2 at *
          generalize s.log[i + k].2 = q2 at *
          have HA2 := hide hA
          clear hA
          go_wp2
          rw [unhide HA2]
          generalize i + k = A at *
          have j1 : (0 : Int) ≤ (A : Int) := by omega
          have j2 : (A : Int) < (s.log.length : Int) := by omega
          have j3 : (A : Int) < (s.commit : Int) := by omega
          go_quiet (fail)
          go_wp2
          go_ret
          exact ⟨by rw [unhide HK2]; rfl, below_drewN (below_trans2 (unhide HBW) (unhide HB2)) _⟩
      · have HK2 : Hid (Nd.keeps s.log s.commit i m.ents = Nd.keeps s.log s.commit (i + (k + 1)) (m.ents.drop (k + 1))) := by
          show _ = _
          rw [unhide HKP, unhide HKC, decide_eq_true (show s.commit ≤ i + k by omega)]
          rfl
        have hA : (i : Int) + (k : Int) = ((i + k : Nat) : Int) := by omega
        have HA2 := hide hA
        clear hNL2 hN2 hBB hb HKC HKP hA
        generalize m.ents[k].1 = t at *
        generalize m.ents[k].2 = q at *
        go_wp2
        rw [unhide HA2]
        generalize i + k = A at *
        have j3 : ¬ (A : Int) < (s.commit : Int) := by omega
        go_quiet (fail)
        go_wp2
        go_roundw
        case rel => exact ⟨k + 1, by omega, by go_num, unhide HK2, below_drewN (unhide HB2) _⟩
        case measure => simp [intOf]; omega
    · have hkn : k = m.ents.length := by omega
      subst hkn
      have HK2 : Hid (Nd.keeps s.log s.commit i m.ents = true) := by show _ = _; rw [hkp, List.drop_length]; rfl
      have HB2 := hide hb
      clear hkp hb
      go_wp2
      go_ret
      exact ⟨by rw [unhide HK2]; rfl, below_trans2 (unhide HBW) (unhide HB2)⟩

end Go.Proofs.Yteiecbkfganhnaa
