/- The program's node: keepsCommitted; The document's node: stepAppend of an old term, or at a leader; keeps and takes number by number; The document's node: a log that is put in the place of another; where an Append's entries part from the log; The document's node: Open, Restart, over the node as plain data; The program's node: Restart, Open; The program's node: Patience, Saved, Status; A game: a node, the document's node, the book; Propose; the statements' own small reckonings: plain data; How far a call moves a node's clock, how many messages it sends: plain data; The two nodes of a game: the same but for whom a node heard that leads no more. Plain data; A game in memory: the program's node, the document's, the book with messages; What no call turns: a node's number and how many there are. Plain data; A game: sent, and the step Tick; A game's steps and its end. -/
import Derived.Test.YteiecbkfganhnaaGreatStepVoteH
import Derived.Test.YteiecbkfganhnaaGreatRefD
import Derived.Test.YteiecbkfganhnaaGreatKBmB
import Derived.Deep.DeepCutAuto
import Derived.Test.YteiecbkfganhnaaGreatKNdB
import Derived.Test.YteiecbkfganhnaaGreatKRefX
import Derived.Test.YteiecbkfganhnaaGreatKSend
import Derived.Test.YteiecbkfganhnaaGreatKSettle
import Derived.LoopN
import Derived.Deep.Draws
import Derived.BigQuiet
import Derived.Deep.QuietTactic
import Derived.Test.YteiecbkfganhnaaGreatKInvC

namespace Go.Proofs.YteiecbkfganhnaaGreat

open Go.RowKit Go.MuLone

theorem neqE (a c : Int) (s r : ByteArray) (w : World) : (binOp .neq 66 (.agg #[.int .i64 a, .string s]) (.agg #[.int .i64 c, .string r])).run Tryz.prog w = .ok (.bool (!(a == c && s.toList == r.toList))) w := by
  have u3 := Tryz.underlying3
  have u9 := Tryz.underlying9
  have hS : Tryz.prog.underlying 66 = some (.struct (Tryz.prog.fieldsOf 66)) := by kernel_rfl
  have hp : Tryz.prog.stoodInHeld 66 = false := by kernel_rfl
  rw [run_neq_struct, show (10000 : Nat) = 9999 + 1 from rfl, run_equalIn_agg w 9999 66 _ _ hS hp]
  simp only [Program.fieldsOf, Tryz.underlying66]
  go_simp
  by_cases h1 : a = c <;> by_cases h2 : s.toList = r.toList <;> simp [h1, h2]

theorem ba_inj {s r : ByteArray} (h : s.toList = r.toList) : s = r := by
  rw [Go.Lib.toList_data, Go.Lib.toList_data] at h
  exact ByteArray.ext (Array.ext' h)

theorem keeps_cons (l : List Ent) (c k : Nat) (es : List Ent) (hk : k < es.length) (i : Nat) : Nd.keeps l c (i + k) (es.drop k) = ((decide (c ≤ i + k) || decide (l[i + k]? = some es[k])) && Nd.keeps l c (i + (k + 1)) (es.drop (k + 1))) := by
  rw [List.drop_eq_getElem_cons hk]
  rfl

set_option maxRecDepth 100000 in
set_option maxHeartbeats 1000000 in
theorem keepsCommitted_any (mu : Int) (nb : Nat) (s : Nd) (lv : Value) (m : Msg) (ev : Value) (i : Nat) (w : World) (h : NB mu w nb s lv) (hl : NL w s lv) (hs : s.last ≤ 60) (hc : s.commit ≤ s.last) (hi : m.index = (i : Int)) (hi2 : i ≤ 60) (hn : m.ents.length ≤ 3) (he : EntsIn w ev m.ents) :
    Calls Tryz.prog 115 #[.pointer (some ⟨nb, 0, none⟩), magg m ev] w fun e w' => e = .returned (.bool (Nd.keeps s.log s.commit i m.ents)) ∧ Below w.heap.size w w' := by
  obtain ⟨eo, ec, rfl, hl1, ha⟩ := he
  have hq := neqE
  have hlt := h.lt
  have hne : ¬ nb = w.heap.size := by omega
  have HBW := hide (below_alloc w (.cells #[.int .i64 m.kind, .int .i64 m.src, .int .i64 m.dst, .int .i64 m.term, .int .i64 m.index, .int .i64 m.logTerm, .int .i64 m.commit, .slice eo m.ents.length ec, .bool m.granted] 30))
  have HWM := hide (heap_alloc_new w (.cells #[.int .i64 m.kind, .int .i64 m.src, .int .i64 m.dst, .int .i64 m.term, .int .i64 m.index, .int .i64 m.logTerm, .int .i64 m.commit, .slice eo m.ents.length ec, .bool m.granted] 30))
  have HN := hide h
  have HL := hide hl
  have HA := hide ha
  have HI := hide hi
  clear h hl ha hi hl1
  go_enter Tryz.func115, Tryz.ntmps115
  go_wp2
  generalize w.alloc (.cells #[.int .i64 m.kind, .int .i64 m.src, .int .i64 m.dst, .int .i64 m.term, .int .i64 m.index, .int .i64 m.logTerm, .int .i64 m.commit, .slice eo m.ents.length ec, .bool m.granted] 30) = W at *
  go_loopw [11] (fun v wr => ∃ k : Nat, k ≤ m.ents.length ∧ v = .int .i64 k ∧ Nd.keeps s.log s.commit i m.ents = Nd.keeps s.log s.commit (i + k) (m.ents.drop k) ∧ Below W.heap.size W wr) (fun v _ => m.ents.length - (intOf v).toNat)
  case atStart => exact ⟨0, Nat.zero_le _, rfl, rfl, Below.refl _ _⟩
  case round =>
    obtain ⟨k, hk, rfl, hkp, hb⟩ := hrel
    by_cases hlt2 : k < m.ents.length
    · have hBB := below_trans (unhide HBW) hb
      obtain ⟨b, off, rfl, a0', a1'⟩ := (unhide HA) k _ (show m.ents[k]? = some m.ents[k] by simp [hlt2])
      have a0 := (hBB.cell (p := ⟨b, off + k * 2, none⟩) (block_lt_of_cell a0')).trans a0'
      have a1 := (hBB.cell (p := ⟨b, off + k * 2 + 1, none⟩) (block_lt_of_cell a1')).trans a1'
      have x4 : wr.cell? ⟨w.heap.size, 4, none⟩ = some (.int .i64 (i : Int)) := by
        rw [← unhide HI]
        exact cell_of_row wr w.heap.size 4 _ _ _ ((hb.block w.heap.size (Array.getElem?_eq_some_iff.1 (unhide HWM)).1).trans (unhide HWM))
      have hN2 := (unhide HN).below hBB
      have c9 := hN2.c9
      have c6 := hN2.c6
      have hltR := hN2.lt
      have hneR : ¬ nb = wr.heap.size := by omega
      have hmbR : ¬ w.heap.size = wr.heap.size := by have h1 := hb.size; have h2 := (Array.getElem?_eq_some_iff.1 (unhide HWM)).1; omega
      have hmbR2 : w.heap.size < wr.heap.size := by have h1 := hb.size; have h2 := (Array.getElem?_eq_some_iff.1 (unhide HWM)).1; omega
      have hmbR3 : ¬ wr.heap.size = w.heap.size := by omega
      have hbR : ¬ b = wr.heap.size := by have h1 := block_lt_of_cell a0; simp only at h1; omega
      have i1 : (0 : Int) ≤ (k : Int) := by omega
      have i2 : (k : Int) < (m.ents.length : Int) := by omega
      have HKC := hide (keeps_cons s.log s.commit k m.ents hlt2 i)
      have HKP := hide hkp
      have HB2 := hide (hb.alloc hb.size (.cells #[.int .i64 m.ents[k].1, .string m.ents[k].2] 66))
      have hNL2 := (unhide HL).below hBB
      clear a0' a1' hkp
      by_cases hcm : i + k < s.commit
      · have hil : i + k < s.log.length := by have : s.last = s.log.length := rfl; omega
        obtain ⟨lo, lc, hlv, _, hla⟩ := hNL2.ents
        obtain ⟨lb, loff, rfl, l0, l1⟩ := hla (i + k) _ (show s.log[i + k]? = some s.log[i + k] by simp [hil])
        subst hlv
        have hlbR : ¬ lb = wr.heap.size := by have h1 := block_lt_of_cell l0; simp only at h1; omega
        have hlbR2 : lb < wr.heap.size := by have h1 := block_lt_of_cell l0; exact h1
        have hlbR3 : ¬ wr.heap.size = lb := by omega
        have hA : (i : Int) + (k : Int) = ((i + k : Nat) : Int) := by omega
        have hs' : s.log.length ≤ 60 := hs
        have hlk : s.log[i + k]? = some s.log[i + k] := by simp [hil]
        have HXE : Hid (s.log[i + k]?= some m.ents[k] ↔ s.log[i + k] = m.ents[k]) := by show _ ↔ _; rw [hlk, Option.some.injEq]
        by_cases hx : s.log[i + k] = m.ents[k]
        · have HK2 : Hid (Nd.keeps s.log s.commit i m.ents = Nd.keeps s.log s.commit (i + (k + 1)) (m.ents.drop (k + 1))) := by
            show _ = _
            rw [unhide HKP, unhide HKC, hlk, hx]
            simp
          rw [hx] at l0 l1
          clear hla hNL2 hN2 hBB hb hx HKC HKP hlk HXE
          generalize m.ents[k].1 = t at *
          generalize m.ents[k].2 = q at *
          have HA2 := hide hA
          clear hA
          go_wp2
          rw [unhide HA2]
          generalize i + k = A at *
          have j1 : (0 : Int) ≤ (A : Int) := by omega
          have j2 : (A : Int) < (s.log.length : Int) := by omega
          have j3 : (A : Int) < (s.commit : Int) := by omega
          go_quiet (fail)
          go_wp2
          go_roundw
          case rel => exact ⟨k + 1, by omega, by go_num, unhide HK2, below_drewN (unhide HB2) _⟩
          case measure => simp [intOf]; omega
        · have HK2 : Hid (Nd.keeps s.log s.commit i m.ents = false) := by
            show _ = _
            rw [unhide HKP, unhide HKC, decide_eq_false (show ¬ s.commit ≤ i + k by omega), decide_eq_false (fun hy => hx ((unhide HXE).1 hy))]
            rfl
          have hbe : (s.log[i + k].1 == m.ents[k].1 && s.log[i + k].2.toList == m.ents[k].2.toList) = false := by
            rw [Bool.and_eq_false_iff]
            by_cases h1 : s.log[i + k].1 = m.ents[k].1
            · refine .inr ?_
              simp only [beq_eq_false_iff_ne, ne_eq]
              exact fun h2 => hx (Prod.ext h1 (ba_inj h2))
            · exact .inl (by simpa using h1)
          clear hla hNL2 hN2 hBB hb hx HKC HKP hlk HXE
          generalize m.ents[k].1 = t at *
          generalize m.ents[k].2 = q at *
          generalize s.log[i + k].1 = t2 at *
          generalize s.log[i + k].2 = q2 at *
          have HA2 := hide hA
          clear hA
          go_wp2
          rw [unhide HA2]
          generalize i + k = A at *
          have j1 : (0 : Int) ≤ (A : Int) := by omega
          have j2 : (A : Int) < (s.log.length : Int) := by omega
          have j3 : (A : Int) < (s.commit : Int) := by omega
          go_quiet (fail)
          go_wp2
          go_ret
          exact ⟨by rw [unhide HK2]; rfl, below_drewN (below_trans2 (unhide HBW) (unhide HB2)) _⟩
      · have HK2 : Hid (Nd.keeps s.log s.commit i m.ents = Nd.keeps s.log s.commit (i + (k + 1)) (m.ents.drop (k + 1))) := by
          show _ = _
          rw [unhide HKP, unhide HKC, decide_eq_true (show s.commit ≤ i + k by omega)]
          rfl
        have hA : (i : Int) + (k : Int) = ((i + k : Nat) : Int) := by omega
        have HA2 := hide hA
        clear hNL2 hN2 hBB hb HKC HKP hA
        generalize m.ents[k].1 = t at *
        generalize m.ents[k].2 = q at *
        go_wp2
        rw [unhide HA2]
        generalize i + k = A at *
        have j3 : ¬ (A : Int) < (s.commit : Int) := by omega
        go_quiet (fail)
        go_wp2
        go_roundw
        case rel => exact ⟨k + 1, by omega, by go_num, unhide HK2, below_drewN (unhide HB2) _⟩
        case measure => simp [intOf]; omega
    · have hkn : k = m.ents.length := by omega
      subst hkn
      have HK2 : Hid (Nd.keeps s.log s.commit i m.ents = true) := by show _ = _; rw [hkp, List.drop_length]; rfl
      have HB2 := hide hb
      clear hkp hb
      go_wp2
      go_ret
      exact ⟨by rw [unhide HK2]; rfl, below_trans2 (unhide HBW) (unhide HB2)⟩

end Go.Proofs.YteiecbkfganhnaaGreat

namespace Go.Proofs.YteiecbkfganhnaaGreat

open Go.RowKit Go.MuLone

theorem keeps_all {l : List Ent} {c : Nat} (es : List Ent) : ∀ a, (∀ j e, es[j]? = some e → c ≤ a + j ∨ l[a + j]? = some e) → Nd.keeps l c a es = true := by
  induction es with
  | nil => intro a _; rfl
  | cons e es ih =>
    intro a h
    simp only [Nd.keeps, Bool.and_eq_true, Bool.or_eq_true, decide_eq_true_eq]
    refine ⟨h 0 e rfl, ih (a + 1) fun j x hx => ?_⟩
    have := h (j + 1) x (by simpa using hx)
    rw [show a + 1 + j = a + (j + 1) by omega]; exact this

theorem keeps_bad {l : List Ent} {c : Nat} (es : List Ent) : ∀ a j e, es[j]? = some e → a + j < c → l[a + j]? ≠ some e → Nd.keeps l c a es = false := by
  induction es with
  | nil => intro a j e h; simp at h
  | cons x es ih =>
    intro a j e h h1 h2
    simp only [Nd.keeps]
    cases j with
    | zero =>
      simp at h
      subst h
      rw [decide_eq_false (show ¬ c ≤ a by omega), decide_eq_false (show ¬ l[a]? = some x from h2)]
      rfl
    | succ j =>
      rw [ih (a + 1) j e (by simpa using h) (by omega) (by rw [show a + 1 + j = a + (j + 1) by omega]; exact h2)]
      simp

theorem takes_same {l : List Ent} (es : List Ent) : ∀ a, (∀ j e, es[j]? = some e → a + j < l.length ∧ Nd.termAt l (a + j + 1) = e.1) → Nd.takes l a es = l := by
  induction es with
  | nil => intro a _; rfl
  | cons e es ih =>
    intro a h
    obtain ⟨h1, h2⟩ := h 0 e rfl
    simp only [Nd.takes]
    rw [if_neg (by rintro (hx | hx)
                   · omega
                   · exact hx h2)]
    refine ih (a + 1) fun j x hx => ?_
    have := h (j + 1) x (by simpa using hx)
    rw [show a + 1 + j = a + (j + 1) by omega]; exact this

theorem takes_from {l : List Ent} (es : List Ent) : ∀ a q, q < es.length → (∀ j e, j < q → es[j]? = some e → a + j < l.length ∧ Nd.termAt l (a + j + 1) = e.1) → (∀ e, es[q]? = some e → l.length ≤ a + q ∨ Nd.termAt l (a + q + 1) ≠ e.1) → Nd.takes l a es = l.take (a + q) ++ es.drop q := by
  induction es with
  | nil => intro a q h; simp at h
  | cons e es ih =>
    intro a q hq h h2
    simp only [Nd.takes]
    cases q with
    | zero =>
      rw [if_pos (show l.length ≤ a ∨ Nd.termAt l (a + 1) ≠ e.1 from h2 e rfl)]
      rfl
    | succ q =>
      obtain ⟨h3, h4⟩ := h 0 e (by omega) rfl
      rw [if_neg (by rintro (hx | hx)
                     · omega
                     · exact hx h4)]
      rw [ih (a + 1) q (by simpa using hq) (fun j x hj hx => by
        have := h (j + 1) x (by omega) (by simpa using hx)
        rw [show a + 1 + j = a + (j + 1) by omega]; exact this) (fun x hx => by
        have := h2 x (by simpa using hx)
        rw [show a + 1 + q = a + (q + 1) by omega]; exact this)]
      rw [show a + 1 + q = a + (q + 1) by omega]
      rfl

/-- How far the entries of an Append have been looked at: k of them; f: the first that is not there, or -1. -/
def Scan (l : List Ent) (c a : Nat) (es : List Ent) (k : Nat) (f : Int) : Prop :=
  (∀ j e, j < k → es[j]? = some e → c ≤ a + j ∨ l[a + j]? = some e) ∧
  ((f = -1 ∧ ∀ j e, j < k → es[j]? = some e → a + j < l.length ∧ Nd.termAt l (a + j + 1) = e.1) ∨
   (∃ q : Nat, q < k ∧ f = (q : Int) ∧ (∀ j e, j < q → es[j]? = some e → a + j < l.length ∧ Nd.termAt l (a + j + 1) = e.1) ∧ ∀ e, es[q]? = some e → l.length ≤ a + q ∨ Nd.termAt l (a + q + 1) ≠ e.1))

theorem Scan.zero (l : List Ent) (c a : Nat) (es : List Ent) : Scan l c a es 0 (-1) := ⟨fun j e hj => by omega, .inl ⟨rfl, fun j e hj => by omega⟩⟩

theorem Scan.next {l : List Ent} {c a k : Nat} {es : List Ent} {f : Int} {e : Ent} (h : Scan l c a es k f) (he : es[k]? = some e) (hk : c ≤ a + k ∨ l[a + k]? = some e) :
    ((f < 0 ∧ (l.length ≤ a + k ∨ Nd.termAt l (a + k + 1) ≠ e.1)) → Scan l c a es (k + 1) (k : Int)) ∧ (¬ (f < 0 ∧ (l.length ≤ a + k ∨ Nd.termAt l (a + k + 1) ≠ e.1)) → Scan l c a es (k + 1) f) := by
  obtain ⟨h1, h2⟩ := h
  have hk1 : ∀ j x, j < k + 1 → es[j]? = some x → c ≤ a + j ∨ l[a + j]? = some x := by
    intro j x hj hx
    by_cases hjk : j = k
    · subst hjk
      rw [he] at hx
      rw [← Option.some.inj hx]; exact hk
    · exact h1 j x (by omega) hx
  refine ⟨fun hc => ⟨hk1, .inr ⟨k, by omega, rfl, ?_, ?_⟩⟩, fun hc => ⟨hk1, ?_⟩⟩
  · rcases h2 with ⟨_, h3⟩ | ⟨q, _, h4, _⟩
    · exact h3
    · omega
  · intro x hx
    rw [he] at hx
    rw [← Option.some.inj hx]; exact hc.2
  · rcases h2 with ⟨h3, h4⟩ | ⟨q, h3, h4, h5, h6⟩
    · refine .inl ⟨h3, fun j x hj hx => ?_⟩
      by_cases hjk : j = k
      · subst hjk
        rw [he] at hx
        rw [← Option.some.inj hx]
        have h5 : ¬ (l.length ≤ a + j ∨ Nd.termAt l (a + j + 1) ≠ e.1) := fun hx => hc ⟨by omega, hx⟩
        refine ⟨by omega, ?_⟩
        exact Classical.not_not.1 fun hx => h5 (.inr hx)
      · exact h4 j x (by omega) hx
    · exact .inr ⟨q, by omega, h4, h5, h6⟩

theorem Scan.keeps {l : List Ent} {c a : Nat} {es : List Ent} {f : Int} (h : Scan l c a es es.length f) : Nd.keeps l c a es = true :=
  keeps_all es a fun j e hj => h.1 j e (List.getElem?_eq_some_iff.1 hj).1 hj

/-- The message as a node's own variable. -/
abbrev mbox (mk mf mt mT mi ml mc : Int) (ev : Value) (mg : Bool) : Obj := .cells #[.int .i64 mk, .int .i64 mf, .int .i64 mt, .int .i64 mT, .int .i64 mi, .int .i64 ml, .int .i64 mc, ev, .bool mg] 30

set_option maxRecDepth 100000 in
set_option maxHeartbeats 1000000 in
theorem refStepAppend_old (rb : Nat) (s : Nd) (v : RV) (m : Msg) (ev : Value) (w : World) (h : RB w rb s v []) (hev : ∃ ao n c, ev = .slice ao n c) (h1 : m.term < s.term) :
    Calls Tryz.prog 76 #[.pointer (some ⟨rb, 0, none⟩), magg m ev] w fun e w' => e = .returned (.tuple #[]) ∧ RDid rb v [] w (s.stepAppend m) w' := by
  obtain ⟨eo, en, ec, rfl⟩ := hev
  obtain ⟨mk, mf, mt, mT, mi, ml, mc, me, mg⟩ := m
  have HB := hide (below_alloc w (mbox mk mf mt mT mi ml mc (.slice eo en ec) mg))
  have HM := hide (heap_alloc_new w (mbox mk mf mt mT mi ml mc (.slice eo en ec) mg))
  have H := hide (h.below (unhide HB))
  have hlt := h.lt
  have hne : ¬ rb = w.heap.size := by omega
  have hne2 : ¬ w.heap.size = rb := by omega
  have c2 := h.c2
  have d1 : decide (mT < s.term) = true := decide_eq_true h1
  have HA : Hid (s.stepAppend ⟨mk, mf, mt, mT, mi, ml, mc, me, mg⟩ = (s, [s.reply 5 mf s.term 0 false])) := by show _ = _; unfold Nd.stepAppend; rw [if_pos h1]
  clear h h1
  go_enter Tryz.func76, Tryz.ntmps76
  go_wp2
  go_quiet (fail)
  have HR1 := hide (RB.drewN (unhide H) nq)
  have HE1 := hide ((Er.ofBelow (rb := rb) (v := v) (unhide HB)).drewN nq)
  go_wp2_with fail
  go_region_law (first | (go_simp; go_at_call 104; refine (refSend_any rb s v [] { kind := 5, src := 0, dst := mf, term := s.term, index := 0, logTerm := 0, commit := 0, ents := [], granted := false } _ _ (RB.drew (unhide HR1)) (by simp) (nil_ents _) (fun y _ hy => by simp [Value.ownBlock] at hy)).mono ?_; rintro e w9 ⟨rfl, hS9⟩; replace hS9 := hide hS9))
  all_goals go_wp2
  all_goals (refine bodyPost_ret (v := .tuple #[]) (results_none rfl _ _ _) rfl ⟨rfl, ?_⟩; rw [unhide HA]; exact rsent_did (unhide HE1).drew (unhide hS9))

set_option maxRecDepth 100000 in
set_option maxHeartbeats 1000000 in
theorem refStepAppend_leads (rb : Nat) (s : Nd) (v : RV) (m : Msg) (ev : Value) (w : World) (h : RB w rb s v []) (hev : ∃ ao n c, ev = .slice ao n c) (h1 : m.term = s.term) (h2 : s.role = 3) :
    Calls Tryz.prog 76 #[.pointer (some ⟨rb, 0, none⟩), magg m ev] w fun e w' => e = .returned (.tuple #[]) ∧ RDid rb v [] w (s.stepAppend m) w' := by
  obtain ⟨eo, en, ec, rfl⟩ := hev
  obtain ⟨mk, mf, mt, mT, mi, ml, mc, me, mg⟩ := m
  simp only at h1
  have HB := hide (below_alloc w (mbox mk mf mt mT mi ml mc (.slice eo en ec) mg))
  have H := hide (h.below (unhide HB))
  have hlt := h.lt
  have hne : ¬ rb = w.heap.size := by omega
  have hne2 : ¬ w.heap.size = rb := by omega
  have c2 := h.c2
  have c6 := h.c6
  have d1 : decide (mT < s.term) = false := decide_eq_false (by omega)
  have d2 : (mT == s.term) = true := by simpa using h1
  have d3 : (s.role == 3) = true := by simpa using h2
  have HA : Hid (s.stepAppend ⟨mk, mf, mt, mT, mi, ml, mc, me, mg⟩ = (s, [])) := by show _ = _; unfold Nd.stepAppend; rw [if_neg (by simp only; omega), if_pos ⟨h1, h2⟩]
  clear h h1 h2
  go_enter Tryz.func76, Tryz.ntmps76
  go_wp2
  go_quiet (fail)
  revert nq
  intro n1
  go_wp2_with fail
  go_quiet (fail)
  go_wp2
  refine bodyPost_ret (v := .tuple #[]) (results_none rfl _ _ _) rfl ⟨rfl, ?_⟩
  rw [unhide HA]
  exact ⟨[], rfl, v, RB.drewN (RB.drewN (unhide H) n1) nq, ((Er.ofBelow (unhide HB)).drewN n1).drewN nq⟩

end Go.Proofs.YteiecbkfganhnaaGreat

namespace Go.Proofs.YteiecbkfganhnaaGreat

open Go.RowKit Go.MuLone

theorem Scan.cut {l : List Ent} {c a : Nat} {es : List Ent} {f : Int} (h : Scan l c a es es.length f) (ha : a ≤ l.length) : (f = -1 ∧ Nd.takes l a es = l) ∨ ∃ q : Nat, q < es.length ∧ f = (q : Int) ∧ a + q ≤ l.length ∧ Nd.takes l a es = l.take (a + q) ++ es.drop q := by
  rcases h.2 with ⟨h1, h2⟩ | ⟨q, h1, h2, h3, h4⟩
  · exact .inl ⟨h1, takes_same es a fun j e hj => h2 j e (List.getElem?_eq_some_iff.1 hj).1 hj⟩
  · refine .inr ⟨q, h1, h2, ?_, takes_from es a q h1 h3 h4⟩
    cases q with
    | zero => omega
    | succ q => have := (h3 q es[q] (by omega) (List.getElem?_eq_getElem (by omega))).1; omega

/-- A new log is put into the node. -/
theorem RB.newLog {w w2 : World} {rb : Nat} {s : Nd} {v : RV} {l : List Ent} {lv : Value} (h : RB w rb s v []) (hb : Below w.heap.size w w2)
    (ho : w2.ownsRow w.heap.size 66 2 lv l.length (eC l)) :
    RB (w2.setCell ⟨rb, 4, none⟩ lv) rb { s with log := l } { v with lv := lv } [] ∧ Er rb v { v with lv := lv } w (w2.setCell ⟨rb, 4, none⟩ lv) := by
  have h2 := h.below hb
  have hblk := h2.blk
  refine ⟨⟨heap_setCell_same w2 rb 4 _ _ _ hblk, owns_cell (owns_base ho (Nat.zero_le _)) hblk (by decide), owns_cell h2.gr hblk (by decide), owns_cell h2.nx hblk (by decide), owns_cell h2.mt hblk (by decide), owns_cell h2.hd hblk (by decide), owns_cell h2.row hblk (by decide), (fun y hy => by cases hy), h.gh, h.nm, (fun y hy => by cases hy)⟩, ?_⟩
  refine ⟨hb.os, hb.tape, hb.output, by simpa [World.setCell] using hb.size, fun k hk hn => ?_, fun k hk => ?_⟩
  · rw [Below.heap_setCell _ _ _ _ (fun e => hn (.inl e))]
    exact hb.block k hk
  · rcases hk with hk | hk | hk | hk | hk | hk | hk
    · exact .inl (.inl hk)
    · exact .inr (ho.lt k hk).1
    · exact .inl (.inr (.inr (.inl hk)))
    · exact .inl (.inr (.inr (.inr (.inl hk))))
    · exact .inl (.inr (.inr (.inr (.inr (.inl hk)))))
    · exact .inl (.inr (.inr (.inr (.inr (.inr (.inl hk))))))
    · exact .inl (.inr (.inr (.inr (.inr (.inr (.inr hk))))))

end Go.Proofs.YteiecbkfganhnaaGreat

namespace Go.Proofs.YteiecbkfganhnaaGreat

open Go.RowKit Go.MuLone

/-- The old form of the node's block. -/
def rnOf (s : Nd) (v : RV) : RN := { id := s.id, n := s.n, term := s.term, vote := s.vote, log := v.lv, commit := s.commit, role := s.role, leads := s.leads, elapsed := s.elapsed, pat := s.pat, grants := v.gv, next := v.nv, mtch := v.mv, heard := v.hv, out := v.ov }

theorem RB.rn {w : World} {rb : Nat} {s : Nd} {v : RV} {out : List (Msg × Value)} (h : RB w rb s v out) : RefBlk w rb (rnOf s v) := h.blk

theorem make_row (P : Program) (t e : TypeId) (z : Value) (bytes n : Nat) (hz : z.cells = #[z]) (ht : P.underlying t = some (.slice e)) (hi : (P.info? e).map (fun i => (i.zero, i.size, i.bytes)) = some (some z, 1, bytes)) (hb : bytes ≤ 8) (hn : n ≤ 7) :
    ∀ W : World, (Instr.makeSlice t (.int .i64 (n : Int)) (.int .i64 (n : Int))).run P W = .ok (.slice (some ⟨W.heap.size, 0, none⟩) n n) (W.alloc (.cells (madeCells #[z] n) e)) := by
  obtain ⟨i0, hi, hz0, hz1, hz2⟩ := info_parts hi
  intro W
  have hbn : (bytes : Int) * (n : Int) ≤ 281474976710656 := by
    have h1 := Nat.mul_le_mul hb hn
    have h2 : ((bytes * n : Nat) : Int) ≤ 56 := by omega
    rw [Int.natCast_mul] at h2
    omega
  have h := run_make (P := P) W t e i0 z ht hi hz0 .i64 .i64 (n : Int) (n : Int) (by omega) (by omega) (by rw [hz2]; exact hbn) (by omega)
  rw [hz1, hz] at h
  simpa using h

theorem made_nC (n : Nat) : (madeCells #[.int .i64 0] n).toList = nC (fun _ => 0) n := by
  apply List.ext_getElem?
  intro i
  by_cases hi : i < n
  · rw [nC_get _ hi]
    simp [madeCells, hi, Nat.mod_one]
  · rw [List.getElem?_eq_none (by simp [size_madeCells]; omega), List.getElem?_eq_none (by rw [nC_length]; omega)]

theorem owns_made {w : World} {g e n : Nat} {z : Value} (h : w.heap[g]? = some (.cells (madeCells #[z] n) e (0, 0))) (hn : n ≤ 7) : w.ownsRow 0 e 1 (.slice (some ⟨g, 0, none⟩) n n) n (madeCells #[z] n).toList := by
  have hs : (madeCells #[z] n).size = n := by simp [size_madeCells]
  refine ⟨by rw [Array.length_toList, hs, Nat.mul_one], .inr ⟨g, n, _, rfl, Nat.zero_le _, h, Nat.le_refl _, by unfold maxLen; omega, by rw [hs, Nat.mul_one], ?_⟩⟩
  rw [List.take_of_length_le (by rw [Array.length_toList, hs, Nat.mul_one]; exact Nat.le_refl _)]

theorem heap_new_at (w : World) (o : Obj) (b : Nat) (h : w.heap.size = b) : (w.alloc o).heap[b]? = some o := by subst h; exact heap_alloc_new w o

/-- Behind an Open or a Restart that gives a node. -/
def RMade (s : Nd) (w : World) (e : Ending) (w' : World) : Prop :=
  ∃ rb v, e = .returned (.tuple #[.pointer (some ⟨rb, 0, none⟩), .int .i64 0]) ∧ RB w' rb s v [] ∧ (∀ k, v.has rb k → w.heap.size ≤ k) ∧ Below w.heap.size w w'

set_option maxRecDepth 100000 in
set_option maxHeartbeats 1000000 in
theorem refOpen_rb (id n : Nat) (w : World) (hn1 : 1 ≤ n) (hn2 : n ≤ 7) (h1 : id < n) :
    Calls Tryz.prog 12 #[.int .i64 (id : Int), .int .i64 (n : Int)] w fun e w' => e = .returned (.tuple #[.pointer (some ⟨w.heap.size, 0, none⟩), .int .i64 0]) ∧ (∃ v, RB w' w.heap.size (Nd.made id n 0 (-1) []) v [] ∧ v.lv = .slice none 0 0 ∧ (∀ k, v.has w.heap.size k → w.heap.size ≤ k)) ∧ Below w.heap.size w w' := by
  have hm1 := make_row Tryz.prog 60 4 (.bool false) _ n rfl Tryz.underlying60 infoBool (by decide) hn2
  have hm2 := make_row Tryz.prog 61 3 (.int .i64 0) _ n rfl Tryz.underlying61 infoInt (by decide) hn2
  have j0 : (0 : Int) ≤ (id : Int) := by omega
  have j1 : (id : Int) < (n : Int) := by omega
  go_enter Tryz.func12, Tryz.ntmps12
  go_wp2
  go_ret2
  refine ⟨rfl, ⟨⟨.slice none 0 0, .slice (some ⟨w.heap.size + 1, 0, none⟩) n n, .slice (some ⟨w.heap.size + 2, 0, none⟩) n n, .slice (some ⟨w.heap.size + 3, 0, none⟩) n n, .slice (some ⟨w.heap.size + 4, 0, none⟩) n n, .slice none 0 0⟩, ?_, rfl, ?_⟩,
    below_trans (below_trans (below_trans (below_trans (below_alloc w _) (below_alloc _ _)) (below_alloc _ _)) (below_alloc _ _)) (below_alloc _ _)⟩
  · refine ⟨heap_under (heap_under (heap_under (heap_under (heap_alloc_new w _) _) _) _) _, World.ownsRow_nil _ _ _ _, ?_, ?_, ?_, ?_, World.ownsRow_nil _ _ _ _, (fun x hx => by cases hx), ?_, ?_, (fun x hx => by cases hx)⟩
    · show World.ownsRow _ _ _ _ _ _ (bC none7 n)
      rw [← made_bC]
      exact owns_made (heap_under (heap_under (heap_under (heap_new_at _ _ _ (by simp)) _) _) _) hn2
    · show World.ownsRow _ _ _ _ _ _ (nC (fun _ => 0) n)
      rw [← made_nC]
      exact owns_made (heap_under (heap_under (heap_new_at _ _ _ (by simp)) _) _) hn2
    · show World.ownsRow _ _ _ _ _ _ (nC (fun _ => 0) n)
      rw [← made_nC]
      exact owns_made (heap_under (heap_new_at _ _ _ (by simp)) _) hn2
    · show World.ownsRow _ _ _ _ _ _ (bC none7 n)
      rw [← made_bC]
      exact owns_made (heap_new_at _ _ _ (by simp)) hn2
    · intro x hx hy
      simp [Value.ownBlock] at hx hy
      omega
    · intro x hx hy
      simp [Value.ownBlock] at hx hy
      omega
  · rintro k (hk | hk | hk | hk | hk | hk | hk)
    · omega
    · simp [Value.ownBlock] at hk
    · simp [Value.ownBlock] at hk; omega
    · simp [Value.ownBlock] at hk; omega
    · simp [Value.ownBlock] at hk; omega
    · simp [Value.ownBlock] at hk; omega
    · simp [Value.ownBlock] at hk

set_option maxRecDepth 100000 in
set_option maxHeartbeats 2000000 in
theorem refRestart_rb (id n : Nat) (term vote : Int) (lv : Value) (es : List Ent) (w : World) (hn1 : 1 ≤ n) (hn2 : n ≤ 7) (h1 : id < n) (hl : EntsIn w lv es) (h : ¬ BadSaved term vote n es) :
    Calls Tryz.prog 17 #[.int .i64 (id : Int), .int .i64 (n : Int), .agg #[.int .i64 term, .int .i64 vote, lv]] w fun e w' => RMade (Nd.made id n term vote es) w e w' := by
  have p0 : ¬ term < 0 := fun q => h (.inl q)
  have p1 : ¬ 1000000 < term := fun q => h (.inr (.inl q))
  have p2 : ¬ vote < -1 := fun q => h (.inr (.inr (.inl q)))
  have p3 : ¬ (n : Int) ≤ vote := fun q => h (.inr (.inr (.inr (.inl q))))
  have p4 : ¬ 60 < (es.length : Int) := fun q => h (.inr (.inr (.inr (.inr (.inl q)))))
  have p5 : okE es 1 term = true := by
    cases hb : okE es 1 term with
    | true => rfl
    | false => exact absurd (.inr (.inr (.inr (.inr (.inr hb))))) h
  have hlen : es.length < 4611686018427387904 := by omega
  have HL := hide hl
  obtain ⟨ao, cap, rfl, hl1, hl2⟩ := hl
  clear hl1 hl2
  have HBB := hide p5
  have H0 := hide (And.intro hn1 (And.intro hn2 h1))
  clear hn1 hn2 h1 h p5
  go_enter Tryz.func17, Tryz.ntmps17
  go_wp2_with (first | (go_at_call 12; refine (refOpen_rb id n _ (unhide H0).1 (unhide H0).2.1 (unhide H0).2.2).mono ?_; rintro e w1 ⟨rfl, ⟨v, hR, hlv, hvn⟩, hb1⟩; have HB := hide (below_trans (below_alloc w _) hb1); have hwb := (hb1.block w.heap.size (by simp)).trans (heap_alloc_new w _); have d0 : w1.cell? ⟨w.heap.size, 0, none⟩ = some (.int .i64 term) := cell_of_row w1 w.heap.size 0 _ _ _ hwb; have d1 : w1.cell? ⟨w.heap.size, 1, none⟩ = some (.int .i64 vote) := cell_of_row w1 w.heap.size 1 _ _ _ hwb; have d2 : w1.cell? ⟨w.heap.size, 2, none⟩ = some (.slice ao es.length cap) := cell_of_row w1 w.heap.size 2 _ _ _ hwb; simp only [size_alloc1] at hR hvn; have e2 := hR.c2; have e3 := hR.c3; have e4 := hR.c4; rw [hlv] at e4; have f2 := hR.free 2; have f3 := hR.free 3; have f4 := hR.free 4; replace hR := hide hR; replace hlv := hide hlv; replace hvn := hide hvn; clear hb1 hwb) | (go_at_call 24; refine (rightEntries_any _ es 1 term _ hlen (by decide) (by exact ents_below (unhide HL) (unhide HB))).mono ?_; rw [unhide HBB]; rintro e w2 ⟨rfl, rfl⟩))
  have hR3 : RB ((w2.setCell ⟨w.heap.size + 1, 2, none⟩ (.int .i64 term)).setCell ⟨w.heap.size + 1, 3, none⟩ (.int .i64 vote)) (w.heap.size + 1) { Nd.made id n 0 (-1) [] with term := term, vote := vote } v [] := ((unhide hR).putTerm term).putVote vote
  have hB3 := ((unhide HB).setCell (p := ⟨w.heap.size + 1, 2, none⟩) (by simp) (.int .i64 term)).setCell (p := ⟨w.heap.size + 1, 3, none⟩) (by simp) (.int .i64 vote)
  have k2 : ((w2.setCell ⟨w.heap.size + 1, 2, none⟩ (.int .i64 term)).setCell ⟨w.heap.size + 1, 3, none⟩ (.int .i64 vote)).cell? ⟨w.heap.size, 2, none⟩ = some (.slice ao es.length cap) := by
    rw [World.cell?_setCell_other _ _ _ _ (by simp), World.cell?_setCell_other _ _ _ _ (by simp)]; exact d2
  have k4 := hR3.c4
  rw [unhide hlv] at k4
  have hz4 := hR3.free 4
  have HSRC := hide (src_of_ents (ents_below (unhide HL) hB3))
  replace hR3 := hide hR3
  replace hB3 := hide hB3
  clear d0 d1 d2 e2 e3 e4 f2 f3 f4
  generalize (w2.setCell ⟨w.heap.size + 1, 2, none⟩ (.int .i64 term)).setCell ⟨w.heap.size + 1, 3, none⟩ (.int .i64 vote) = W3 at *
  obtain ⟨i0, hi, hz0, hz1, hz2⟩ := info_parts infoEntry
  have hszW : W3.heap.size ≤ W3.drew.heap.size := Nat.le_refl _
  go_region_law (first | (refine step_append_src (by rfl) (.tmp 68) (.tmp 70) 22 (by rfl) W3.heap.size 66 i0 _ 2 24 Tryz.underlying22 hi hz0 hz1 hz2 rfl (by decide) (.slice none 0 0) 0 [] (by rfl) (World.ownsRow_nil W3.drew W3.heap.size 66 2) _ es.length (eC es) (by rfl) (eC_length es) (unhide HSRC) (eC_one es) (by unfold maxLen; omega) (by omega) hszW ?_; intro v' w4 hown4' hgrow4; have hown4 : w4.ownsRow W3.heap.size 66 2 v' es.length (eC es) := (by simpa using hown4'); clear hown4'; obtain ⟨vo, vc, rfl⟩ := owns_form hown4; have hb4 := (Below.refl W3.heap.size W3).grown (w' := w4) ⟨hgrow4.os, hgrow4.tape, hgrow4.output, hgrow4.size, hgrow4.block⟩ (Nat.le_refl _) (by intro k hk; simp [Value.ownBlock] at hk); have k5 := (hb4.cell (p := ⟨w.heap.size + 1, 4, none⟩) (unhide hR3).lt).trans k4; have z5 := (hb4.frozen (p := ⟨w.heap.size + 1, 4, none⟩) (unhide hR3).lt).trans hz4; replace hb4 := hide hb4; replace hown4 := hide hown4; clear hgrow4))
  all_goals go_wp2
  all_goals go_ret2
  all_goals
    obtain ⟨hRn, hEn⟩ := RB.newLog (l := es) (unhide hR3) (unhide hb4) (unhide hown4)
    refine ⟨w.heap.size + 1, _, rfl, hRn, fun k hk => ?_, ((unhide hB3).trans ((unhide hb4).mono (unhide hB3).size)).setCell (p := ⟨w.heap.size + 1, 4, none⟩) (by simp) _⟩
    rcases hEn.own k hk with h9 | h9
    · have := unhide hvn k h9; omega
    · have := (unhide hB3).size; omega

end Go.Proofs.YteiecbkfganhnaaGreat

namespace Go.Proofs.YteiecbkfganhnaaGreat

open Go.RowKit Go.MuLone

/-- Behind a Restart that gives a node. -/
def NodeMade (id n : Nat) (term vote : Int) (es : List Ent) (w : World) (e : Ending) (w' : World) : Prop :=
  ∃ nb v, e = .returned (.tuple #[.pointer (some ⟨nb, 0, none⟩), .int .i64 0]) ∧ w.heap.size ≤ nb ∧ NB 0 w' nb (Nd.made id n term vote es) v ∧ w'.ownsRow w.heap.size 66 2 v es.length (eC es) ∧ Below w.heap.size w w'

set_option maxRecDepth 100000 in
set_option maxHeartbeats 1000000 in
theorem restart_nodes (id n term vote : Int) (lv : Value) (w : World) (h : n < 1 ∨ 7 < n ∨ id < 0 ∨ n ≤ id) :
    Calls Tryz.prog 15 #[.int .i64 id, .int .i64 n, .agg #[.int .i64 term, .int .i64 vote, lv]] w fun e w' => e = .returned (.tuple #[.pointer none, .int .i64 1]) ∧ Below w.heap.size w w' := by
  have H := hide h
  clear h
  go_enter Tryz.func15, Tryz.ntmps15
  go_wp2_with (go_at_call 21; refine (soundNodes_no id n _ (unhide H)).mono ?_; rintro e w1 ⟨rfl, rfl⟩)
  go_ret2
  exact ⟨rfl, below_alloc w _⟩

set_option maxRecDepth 100000 in
set_option maxHeartbeats 1000000 in
theorem restart_saved (id : Int) (n : Nat) (term vote : Int) (lv : Value) (es : List Ent) (w : World) (hn1 : 1 ≤ n) (hn2 : n ≤ 7) (h0 : 0 ≤ id) (h1 : id < n) (hl : EntsIn w lv es) (hlen : es.length < 4611686018427387904)
    (h : term < 0 ∨ 1000000 < term ∨ vote < -1 ∨ (n : Int) ≤ vote ∨ 60 < (es.length : Int) ∨ okE es 1 term = false) :
    Calls Tryz.prog 15 #[.int .i64 id, .int .i64 n, .agg #[.int .i64 term, .int .i64 vote, lv]] w fun e w' => e = .returned (.tuple #[.pointer none, .int .i64 2]) ∧ Below w.heap.size w w' := by
  have HL := hide hl
  obtain ⟨ao, cap, rfl, hl1, hl2⟩ := hl
  clear hl1 hl2
  have H := hide h
  have H0 := hide (And.intro hn1 (And.intro hn2 (And.intro h0 h1)))
  clear hn1 hn2 h0 h1 h
  have HB0 := hide (below_alloc w (.cells #[.int .i64 term, .int .i64 vote, .slice ao es.length cap] 24))
  go_enter Tryz.func15, Tryz.ntmps15
  go_wp2_with (first | (go_at_call 21; refine (soundNodes_yes id n _ (by have := (unhide H0).1; omega) (by have := (unhide H0).2.1; omega) (unhide H0).2.2.1 (unhide H0).2.2.2).mono ?_; rintro e w1 ⟨rfl, rfl⟩) | (go_at_call 22; refine (soundSaved_any term vote n _ es _ hlen (by exact ents_below (unhide HL) (unhide HB0)) false (bad_saved (unhide H))).mono ?_; rintro e w2 ⟨rfl, hb⟩; replace hb := hide hb))
  go_ret2
  exact ⟨rfl, below_trans (unhide HB0) (unhide hb)⟩

theorem node_made {id n : Nat} {term vote : Int} {es : List Ent} {w w2 w3 : World} {v : Value} (hb : Below w.heap.size w w2) (hr : w3.ownsRow w2.drew.heap.size 66 2 v es.length (eC es)) (hb3 : Below w2.drew.heap.size w2.drew w3) :
    NodeMade id n term vote es w (.returned (.tuple #[.pointer (some ⟨w3.heap.size, 0, none⟩), .int .i64 0]))
      (w3.alloc (.cells #[.int .i32 0, .int .u32 0, .int .i64 (id : Int), .int .i64 (n : Int), .int .i64 term, .int .i64 vote, v, .int .i64 0, .int .i64 (-1), .int .i64 0, .int .i64 0, .int .i64 10, .bool false, .bool false, .bool false, .bool false, .bool false, .bool false, .bool false, .int .i64 0, .int .i64 0, .int .i64 0, .int .i64 0, .int .i64 0, .int .i64 0, .int .i64 0, .int .i64 0, .int .i64 0, .int .i64 0, .int .i64 0, .int .i64 0, .int .i64 0, .int .i64 0, .bool false, .bool false, .bool false, .bool false, .bool false, .bool false, .bool false] 80)) := by
  have h3 : Below w2.heap.size w2 w3 := Below.undrew hb3
  have hs : w.heap.size ≤ w3.heap.size := Nat.le_trans hb.size h3.size
  exact ⟨w3.heap.size, v, rfl, hs, heap_alloc_new w3 _, owns_base (hr.alloc _) hb.size, (below_trans hb h3).alloc hs _⟩

set_option maxRecDepth 100000 in
set_option maxHeartbeats 2000000 in
theorem restart_ok (id : Nat) (n : Nat) (term vote : Int) (lv : Value) (es : List Ent) (w : World) (hn1 : 1 ≤ n) (hn2 : n ≤ 7) (h1 : id < n) (hl : EntsIn w lv es)
    (h : ¬ (term < 0 ∨ 1000000 < term ∨ vote < -1 ∨ (n : Int) ≤ vote ∨ 60 < (es.length : Int) ∨ okE es 1 term = false)) :
    Calls Tryz.prog 15 #[.int .i64 (id : Int), .int .i64 (n : Int), .agg #[.int .i64 term, .int .i64 vote, lv]] w fun e w' => NodeMade id n term vote es w e w' := by
  have hlen : es.length ≤ 60 := by omega
  have hok : okE es 1 term = true := by
    cases hb : okE es 1 term with
    | true => rfl
    | false => exact absurd (.inr (.inr (.inr (.inr (.inr hb))))) h
  have HSZ := hide (okE_sizes hok)
  have HL := hide hl
  obtain ⟨ao, cap, rfl, hl1, hl2⟩ := hl
  clear hl1 hl2 hok
  have H := hide h
  have H0 := hide (And.intro hn1 (And.intro hn2 h1))
  clear hn1 hn2 h1 h
  have hwb := heap_alloc_new w (.cells #[.int .i64 term, .int .i64 vote, .slice ao es.length cap] 24)
  have HB0 := hide (below_alloc w (.cells #[.int .i64 term, .int .i64 vote, .slice ao es.length cap] 24))
  have HWB := hide hwb
  clear hwb
  go_enter Tryz.func15, Tryz.ntmps15
  go_wp2_with (first | (go_at_call 21; refine (soundNodes_yes id n _ (by have := (unhide H0).1; omega) (by have := (unhide H0).2.1; omega) (by omega) (by have := (unhide H0).2.2; omega)).mono ?_; rintro e w1 ⟨rfl, rfl⟩) | (go_at_call 22; refine (soundSaved_any term vote n _ es _ (by omega) (by exact ents_below (unhide HL) (unhide HB0)) true (good_saved (unhide H))).mono ?_; rintro e w2 ⟨rfl, hb⟩; replace hb := hide hb))
  have hw2 := ((unhide hb).block w.heap.size (by simp)).trans (unhide HWB)
  have d0 : w2.cell? ⟨w.heap.size, 0, none⟩ = some (.int .i64 term) := cell_of_row w2 w.heap.size 0 _ _ _ hw2
  have d1 : w2.cell? ⟨w.heap.size, 1, none⟩ = some (.int .i64 vote) := cell_of_row w2 w.heap.size 1 _ _ _ hw2
  have d2 : w2.cell? ⟨w.heap.size, 2, none⟩ = some (.slice ao es.length cap) := cell_of_row w2 w.heap.size 2 _ _ _ hw2
  have HB2 := hide (below_trans (unhide HB0) (unhide hb))
  clear hw2 hb HWB HB0
  go_region_held3 (fun w' => w'.cell? ⟨w.heap.size, 0, none⟩ = some (.int .i64 term) ∧ w'.cell? ⟨w.heap.size, 1, none⟩ = some (.int .i64 vote) ∧ w'.cell? ⟨w.heap.size, 2, none⟩ = some (.slice ao es.length cap)) (go_keep) (first | (go_at_call 23; refine (copyEntries_any _ es w2.drew hlen (unhide HSZ) (by exact ents_below (unhide HL) (unhide HB2).drew)).mono ?_; rintro e w3 ⟨v', rfl, hr3, hb3⟩; obtain ⟨vo, vc, rfl⟩ := owns_form hr3; have z0 : w3.cell? ⟨w.heap.size, 0, none⟩ = _ := (hb3.cell (p := ⟨w.heap.size, 0, none⟩) (block_lt_of_cell d0)).trans d0; have z1 : w3.cell? ⟨w.heap.size, 1, none⟩ = _ := (hb3.cell (p := ⟨w.heap.size, 1, none⟩) (block_lt_of_cell d1)).trans d1; have z2 : w3.cell? ⟨w.heap.size, 2, none⟩ = _ := (hb3.cell (p := ⟨w.heap.size, 2, none⟩) (block_lt_of_cell d2)).trans d2; replace hr3 := hide hr3; replace hb3 := hide hb3))
  all_goals go_wp2
  all_goals go_ret2
  all_goals exact node_made (unhide HB2) (unhide hr3) (unhide hb3)

set_option maxRecDepth 100000 in
set_option maxHeartbeats 1000000 in
theorem open_no (id n : Int) (w : World) (h : n < 1 ∨ 7 < n ∨ id < 0 ∨ n ≤ id) :
    Calls Tryz.prog 11 #[.int .i64 id, .int .i64 n] w fun e w' => e = .returned (.tuple #[.pointer none, .int .i64 1]) ∧ Below w.heap.size w w' := by
  have H := hide h
  clear h
  go_enter Tryz.func11, Tryz.ntmps11
  go_wp2_with (go_at_call 15; refine (restart_nodes id n 0 (-1) _ _ (unhide H)).mono ?_; rintro e w1 ⟨rfl, hb⟩; replace hb := hide hb)
  go_ret2
  exact ⟨rfl, unhide hb⟩

set_option maxRecDepth 100000 in
set_option maxHeartbeats 1000000 in
theorem open_ok (id : Nat) (n : Nat) (w : World) (hn1 : 1 ≤ n) (hn2 : n ≤ 7) (h1 : id < n) :
    Calls Tryz.prog 11 #[.int .i64 (id : Int), .int .i64 (n : Int)] w fun e w' => NodeMade id n 0 (-1) [] w e w' := by
  have hE : EntsIn w (.slice none 0 0) [] := ⟨none, 0, rfl, fun _ => rfl, fun k e hk => by simp at hk⟩
  have HE := hide hE
  have H0 := hide (And.intro hn1 (And.intro hn2 h1))
  have HG : Hid (¬ ((0 : Int) < 0 ∨ (1000000 : Int) < 0 ∨ (-1 : Int) < -1 ∨ (n : Int) ≤ -1 ∨ 60 < (([] : List Ent).length : Int) ∨ okE [] 1 0 = false)) := by
    show ¬ _
    simp [okE]
    omega
  clear hE hn1 hn2 h1
  go_enter Tryz.func11, Tryz.ntmps11
  go_wp2_with (go_at_call 15; refine (restart_ok id n 0 (-1) _ [] _ (unhide H0).1 (unhide H0).2.1 (unhide H0).2.2 (unhide HE) (unhide HG)).mono ?_; rintro e w1 ⟨nb, v, rfl, hm⟩; replace hm := hide hm)
  go_ret2
  exact ⟨nb, v, rfl, unhide hm⟩

end Go.Proofs.YteiecbkfganhnaaGreat

namespace Go.Proofs.YteiecbkfganhnaaGreat

open Go.RowKit Go.MuLone

set_option maxRecDepth 100000 in
set_option maxHeartbeats 1000000 in
theorem patience_no (nb : Nat) (t : Int) (w : World) (h1 : t < 1 ∨ 40 < t) :
    Calls Tryz.prog 26 #[.pointer (some ⟨nb, 0, none⟩), .int .i64 t] w fun e w' => e = .returned (.int .i64 6) ∧ w' = w := by
  by_cases h : t < 1
  · clear h1
    go_enter_defers Tryz.func26, Tryz.ntmps26
    go_wp2
    exact ⟨_, results_tmp rfl _ _ _, rfl, rfl⟩
  · have h2 : 40 < t := by omega
    clear h1
    go_enter_defers Tryz.func26, Tryz.ntmps26
    go_wp2
    exact ⟨_, results_tmp rfl _ _ _, rfl, rfl⟩

set_option maxRecDepth 100000 in
set_option maxHeartbeats 1000000 in
theorem patience_ok (nb : Nat) (s : Nd) (lv : Value) (t : Int) (w : World) (h : NB 0 w nb s lv) (h1 : 1 ≤ t) (h2 : t ≤ 40) :
    Calls Tryz.prog 26 #[.pointer (some ⟨nb, 0, none⟩), .int .i64 t] w fun e w' => e = .returned (.int .i64 0) ∧ w' = ((w.setCell ⟨nb, 0, none⟩ (.int .i32 1)).setCell ⟨nb, 11, none⟩ (.int .i64 t)).setCell ⟨nb, 0, none⟩ (.int .i32 0) := by
  have c0 := h.c0
  have f0 := h.free 0
  have c11 := h.c11
  have f11 := h.free 11
  have HH := hide (h.setMu 1)
  clear h
  go_enter_defers Tryz.func26, Tryz.ntmps26
  go_wp2_with (go_at_call 51; refine (lock_free muLib ⟨nb, 0, none⟩ _ c0 f0).mono ?_; rintro e w' ⟨rfl, rfl⟩)
  refine leaves_cons (f := 52) (args := #[.pointer (some ⟨nb, 0, none⟩)]) (by simp) (by simp [go_sem]) ?_
  refine (unlock_deferred muLib ⟨nb, 0, none⟩ .returning _ ((unhide HH).setPat t).c0 (((unhide HH).setPat t).free 0)).mono ?_
  rintro e u' w'' ⟨rfl, rfl, rfl⟩
  exact ⟨_, results_tmp rfl _ _ _, rfl, rfl⟩

/-- Behind a call that only reads under the lock all is as it was. -/
theorem lock_below {w w1 : World} {nb : Nat} {s : Nd} {lv : Value} (h : NB 0 w nb s lv) (hb : Below w.heap.size (w.setCell ⟨nb, 0, none⟩ (.int .i32 1)) w1) :
    NB 1 w1 nb s lv ∧ Below w.heap.size w (w1.setCell ⟨nb, 0, none⟩ (.int .i32 0)) := by
  have h1 : NB 1 w1 nb s lv := (hb.block nb h.lt).trans (h.setMu 1)
  refine ⟨h1, hb.os, hb.tape, hb.output, ?_, fun k hk => ?_⟩
  · have := hb.size
    simpa [World.setCell] using this
  · by_cases hkn : k = nb
    · subst hkn
      exact (h1.setMu 0).trans h.symm
    · rw [Below.heap_setCell _ _ _ _ (by simpa using hkn), hb.block k hk, Below.heap_setCell _ _ _ _ (by simpa using hkn)]

theorem cell_ne {b nb : Nat} (h : b ≠ nb) (w : World) (o o' : Nat) (v : Value) : (w.setCell ⟨b, o, none⟩ v).cell? ⟨nb, o', none⟩ = w.cell? ⟨nb, o', none⟩ :=
  World.cell?_setCell_other _ _ _ _ (fun he => h (by simpa using congrArg Addr.block he))

theorem ents_lock {w : World} {v : Value} {es : List Ent} {nb : Nat} (h : EntsIn w v es) (hc : w.cell? ⟨nb, 0, none⟩ = some (.int .i32 0)) (u : Value) : EntsIn (w.setCell ⟨nb, 0, none⟩ u) v es := by
  obtain ⟨ao, cap, hv, h0, he⟩ := h
  refine ⟨ao, cap, hv, h0, fun k e hk => ?_⟩
  obtain ⟨b, off, ha, h1, h2⟩ := he k e hk
  refine ⟨b, off, ha, ?_, ?_⟩
  · rw [World.cell?_setCell_other _ _ _ _ (fun heq => ?_)]
    · exact h1
    · rw [← heq, hc] at h1; simp at h1
  · rw [World.cell?_setCell_other _ _ _ _ (fun heq => ?_)]
    · exact h2
    · rw [← heq, hc] at h2; simp at h2

set_option maxRecDepth 100000 in
set_option maxHeartbeats 1000000 in
theorem saved_any (nb : Nat) (s : Nd) (lv : Value) (es : List Ent) (w : World) (h : NB 0 w nb s lv) (hl : EntsIn w lv es) (hn : es.length ≤ 60) (hs : ∀ e ∈ es, e.2.size ≤ 20) :
    Calls Tryz.prog 41 #[.pointer (some ⟨nb, 0, none⟩)] w fun e w' => ∃ v, e = .returned (.agg #[.int .i64 s.term, .int .i64 s.vote, v]) ∧ w'.ownsRow w.heap.size 66 2 v es.length (eC es) ∧ Below w.heap.size w w' := by
  have c0 := h.c0
  have f0 := h.free 0
  have c4 := h.c4
  have c5 := h.c5
  have c6 := h.c6
  have hlt := h.lt
  have H := hide h
  have HL := hide hl
  have HSZ := hide hs
  clear h hl hs
  have HA : Hid (NB 0 (w.alloc (Obj.cells #[.int .i64 0, .int .i64 0, .slice none 0 0] 24)) nb s lv) := heap_under (unhide H) _
  have hne : ¬ nb = w.heap.size := by omega
  go_enter_defers Tryz.func41, Tryz.ntmps41
  go_wp2_with (go_at_call 51; go_must (refine (lock_free muLib ⟨nb, 0, none⟩ _ (unhide HA).c0 ((unhide HA).free 0)).mono ?_); rintro e w' ⟨rfl, rfl⟩)
  have hHW : NB 1 ((w.setCell ⟨nb, 0, none⟩ (.int .i32 1)).alloc (Obj.cells #[.int .i64 0, .int .i64 0, .slice none 0 0] 24)) nb s lv := heap_under ((unhide H).setMu 1) _
  have hsz : (w.setCell ⟨nb, 0, none⟩ (.int .i32 1)).heap.size = w.heap.size := by simp [World.setCell]
  have hbW : Below w.heap.size (w.setCell ⟨nb, 0, none⟩ (.int .i32 1)) ((w.setCell ⟨nb, 0, none⟩ (.int .i32 1)).alloc (Obj.cells #[.int .i64 0, .int .i64 0, .slice none 0 0] 24)) := by rw [← hsz]; exact below_alloc _ _
  have hwb := heap_alloc_new (w.setCell ⟨nb, 0, none⟩ (.int .i32 1)) (Obj.cells #[.int .i64 0, .int .i64 0, .slice none 0 0] 24)
  rw [hsz] at hwb
  have hEW : EntsIn ((w.setCell ⟨nb, 0, none⟩ (.int .i32 1)).alloc (Obj.cells #[.int .i64 0, .int .i64 0, .slice none 0 0] 24)) lv es := ents_below (ents_lock (unhide HL) c0 _) (below_alloc _ _)
  generalize (w.setCell ⟨nb, 0, none⟩ (.int .i32 1)).alloc (Obj.cells #[.int .i64 0, .int .i64 0, .slice none 0 0] 24) = W at *
  have d0 : W.cell? ⟨w.heap.size, 0, none⟩ = some (.int .i64 0) := cell_of_row W w.heap.size 0 _ _ _ hwb
  have d1 : W.cell? ⟨w.heap.size, 1, none⟩ = some (.int .i64 0) := cell_of_row W w.heap.size 1 _ _ _ hwb
  have d2 : W.cell? ⟨w.heap.size, 2, none⟩ = some (.slice none 0 0) := cell_of_row W w.heap.size 2 _ _ _ hwb
  have e4 : W.cell? ⟨nb, 4, none⟩ = some (.int .i64 s.term) := cell_of_row W nb 4 _ _ _ hHW
  have e5 : W.cell? ⟨nb, 5, none⟩ = some (.int .i64 s.vote) := cell_of_row W nb 5 _ _ _ hHW
  have e6 : W.cell? ⟨nb, 6, none⟩ = some lv := cell_of_row W nb 6 _ _ _ hHW
  have hlW : w.heap.size < W.heap.size := (Array.getElem?_eq_some_iff.1 hwb).1
  have HBW := hide hbW
  have HWB := hide hwb
  have HEW := hide hEW
  have HLW := hide hlW
  have hne2 : w.heap.size ≠ nb := fun h => hne h.symm
  clear c0 f0 c4 c5 c6 HA HL hHW hsz hbW hwb hEW hlW
  go_region_held3 (fun w' => w'.cell? ⟨nb, 4, none⟩ = some (.int .i64 s.term) ∧ w'.cell? ⟨nb, 5, none⟩ = some (.int .i64 s.vote) ∧ w'.cell? ⟨nb, 6, none⟩ = some lv) (first | go_keep | (simp only [cell_ne hne2]; exact ⟨z4, z5, z6⟩)) (first | (go_at_call 23; refine (copyEntries_any _ es W.drew hn (unhide HSZ) (by exact unhide HEW)).mono ?_; rintro e w3 ⟨v', rfl, hr3, hb3⟩; obtain ⟨vo, vc, rfl⟩ := owns_form hr3; have z4 : w3.cell? ⟨nb, 4, none⟩ = _ := (hb3.cell (p := ⟨nb, 4, none⟩) (block_lt_of_cell e4)).trans e4; have z5 : w3.cell? ⟨nb, 5, none⟩ = _ := (hb3.cell (p := ⟨nb, 5, none⟩) (block_lt_of_cell e5)).trans e5; have z6 : w3.cell? ⟨nb, 6, none⟩ = _ := (hb3.cell (p := ⟨nb, 6, none⟩) (block_lt_of_cell e6)).trans e6; have y0 : w3.cell? ⟨w.heap.size, 0, none⟩ = _ := (hb3.cell (p := ⟨w.heap.size, 0, none⟩) (block_lt_of_cell d0)).trans d0; have y1 : w3.cell? ⟨w.heap.size, 1, none⟩ = _ := (hb3.cell (p := ⟨w.heap.size, 1, none⟩) (block_lt_of_cell d1)).trans d1; have y2 : w3.cell? ⟨w.heap.size, 2, none⟩ = _ := (hb3.cell (p := ⟨w.heap.size, 2, none⟩) (block_lt_of_cell d2)).trans d2; have hw3 := (hb3.block w.heap.size (unhide HLW)).trans (unhide HWB); have x0 := frozen_of_row w3 w.heap.size 0 _ _ hw3; have x1 := frozen_of_row w3 w.heap.size 1 _ _ hw3; have x2 := frozen_of_row w3 w.heap.size 2 _ _ hw3; replace hw3 := hide hw3; replace hr3 := hide hr3; replace hb3 := hide hb3))
  all_goals go_wp2
  all_goals
    have h1 := heap_setCell_same _ w.heap.size 0 _ _ (.int .i64 0) (unhide hw3)
    have h2 := heap_setCell_same _ w.heap.size 1 _ _ (.int .i64 0) h1
    have h3 := heap_setCell_same _ w.heap.size 2 _ _ (.slice none 0 0) h2
    have h4 := heap_setCell_same _ w.heap.size 0 _ _ (.int .i64 s.term) h3
    have h5 := heap_setCell_same _ w.heap.size 1 _ _ (.int .i64 s.vote) h4
    have h6 := heap_setCell_same _ w.heap.size 2 _ _ (.slice vo es.length vc) h5
    have hb4 := (unhide HBW).trans ((Below.undrew (unhide hb3)).mono (Nat.le_of_lt (unhide HLW)))
    have hb6 := (((((hb4.setCell (p := ⟨w.heap.size, 0, none⟩) (Nat.le_refl _) (.int .i64 0)).setCell (p := ⟨w.heap.size, 1, none⟩) (Nat.le_refl _) (.int .i64 0)).setCell (p := ⟨w.heap.size, 2, none⟩) (Nat.le_refl _) (.slice none 0 0)).setCell (p := ⟨w.heap.size, 0, none⟩) (Nat.le_refl _) (.int .i64 s.term)).setCell (p := ⟨w.heap.size, 1, none⟩) (Nat.le_refl _) (.int .i64 s.vote)).setCell (p := ⟨w.heap.size, 2, none⟩) (Nat.le_refl _) (.slice vo es.length vc)
    have hlk := lock_below (unhide H) hb6
    have hlw : w.heap.size < W.drew.heap.size := unhide HLW
    have ho6 := owns_set (owns_set (owns_set (owns_set (owns_set (owns_set (owns_set (unhide hr3) (a := ⟨w.heap.size, 0, none⟩) hlw (.int .i64 0)) (a := ⟨w.heap.size, 1, none⟩) hlw (.int .i64 0)) (a := ⟨w.heap.size, 2, none⟩) hlw (.slice none 0 0)) (a := ⟨w.heap.size, 0, none⟩) hlw (.int .i64 s.term)) (a := ⟨w.heap.size, 1, none⟩) hlw (.int .i64 s.vote)) (a := ⟨w.heap.size, 2, none⟩) hlw (.slice vo es.length vc)) (a := ⟨nb, 0, none⟩) (Nat.lt_trans hlt hlw) (.int .i32 0)
    refine leaves_cons (f := 52) (args := #[.pointer (some ⟨nb, 0, none⟩)]) (by simp) (by simp [go_sem]) ?_
    refine (unlock_deferred muLib ⟨nb, 0, none⟩ .returning _ hlk.1.c0 (hlk.1.free 0)).mono ?_
    rintro e u' w'' ⟨rfl, rfl, rfl⟩
    exact ⟨_, results_cell_row Tryz.results41 _ _ w.heap.size _ _ _ _ rfl ((Below.heap_setCell _ _ _ _ hne2).trans h6) Tryz.underlying24 rfl (by kernel_rfl), _, rfl, owns_base ho6 (Nat.le_of_lt hlw), hlk.2⟩

set_option maxRecDepth 100000 in
set_option maxHeartbeats 2000000 in
theorem status_any (nb : Nat) (s : Nd) (lv : Value) (vo : Option Addr) (n vc : Nat) (w : World) (h : NB 0 w nb s lv) (hl : lv = .slice vo n vc) :
    Calls Tryz.prog 45 #[.pointer (some ⟨nb, 0, none⟩)] w fun e w' => e = .returned (.agg #[.int .i64 s.role, .int .i64 s.term, .int .i64 s.leads, .int .i64 (s.commit : Int), .int .i64 n]) ∧ Below w.heap.size w w' := by
  have c0 := h.c0
  have f0 := h.free 0
  have hlt := h.lt
  have H := hide h
  have hne : ¬ nb = w.heap.size := by omega
  have HA : Hid (NB 0 (w.alloc (Obj.cells #[.int .i64 0, .int .i64 0, .int .i64 0, .int .i64 0, .int .i64 0] 97)) nb s lv) := heap_under h _
  have HL := hide hl
  clear h hl
  go_enter_defers Tryz.func45, Tryz.ntmps45
  go_wp2_with (go_at_call 51; go_must (refine (lock_free muLib ⟨nb, 0, none⟩ _ (unhide HA).c0 ((unhide HA).free 0)).mono ?_); rintro e w' ⟨rfl, rfl⟩)
  have hHW : NB 1 ((w.setCell ⟨nb, 0, none⟩ (.int .i32 1)).alloc (Obj.cells #[.int .i64 0, .int .i64 0, .int .i64 0, .int .i64 0, .int .i64 0] 97)) nb s lv := heap_under ((unhide H).setMu 1) _
  have hsz : (w.setCell ⟨nb, 0, none⟩ (.int .i32 1)).heap.size = w.heap.size := by simp [World.setCell]
  have hbW : Below w.heap.size (w.setCell ⟨nb, 0, none⟩ (.int .i32 1)) ((w.setCell ⟨nb, 0, none⟩ (.int .i32 1)).alloc (Obj.cells #[.int .i64 0, .int .i64 0, .int .i64 0, .int .i64 0, .int .i64 0] 97)) := by rw [← hsz]; exact below_alloc _ _
  have hwb := heap_alloc_new (w.setCell ⟨nb, 0, none⟩ (.int .i32 1)) (Obj.cells #[.int .i64 0, .int .i64 0, .int .i64 0, .int .i64 0, .int .i64 0] 97)
  rw [hsz] at hwb
  generalize (w.setCell ⟨nb, 0, none⟩ (.int .i32 1)).alloc (Obj.cells #[.int .i64 0, .int .i64 0, .int .i64 0, .int .i64 0, .int .i64 0] 97) = W at *
  have d0 : W.cell? ⟨w.heap.size, 0, none⟩ = some (.int .i64 0) := cell_of_row W w.heap.size 0 _ _ _ hwb
  have d1 : W.cell? ⟨w.heap.size, 1, none⟩ = some (.int .i64 0) := cell_of_row W w.heap.size 1 _ _ _ hwb
  have d2 : W.cell? ⟨w.heap.size, 2, none⟩ = some (.int .i64 0) := cell_of_row W w.heap.size 2 _ _ _ hwb
  have d3 : W.cell? ⟨w.heap.size, 3, none⟩ = some (.int .i64 0) := cell_of_row W w.heap.size 3 _ _ _ hwb
  have d4 : W.cell? ⟨w.heap.size, 4, none⟩ = some (.int .i64 0) := cell_of_row W w.heap.size 4 _ _ _ hwb
  have x0 := frozen_of_row W w.heap.size 0 _ _ hwb
  have x1 := frozen_of_row W w.heap.size 1 _ _ hwb
  have x2 := frozen_of_row W w.heap.size 2 _ _ hwb
  have x3 := frozen_of_row W w.heap.size 3 _ _ hwb
  have x4 := frozen_of_row W w.heap.size 4 _ _ hwb
  have e4 : W.cell? ⟨nb, 4, none⟩ = some (.int .i64 s.term) := cell_of_row W nb 4 _ _ _ hHW
  have e6 : W.cell? ⟨nb, 6, none⟩ = some (.slice vo n vc) := by rw [← unhide HL]; exact cell_of_row W nb 6 _ _ _ hHW
  have e7 : W.cell? ⟨nb, 7, none⟩ = some (.int .i64 s.role) := cell_of_row W nb 7 _ _ _ hHW
  have e8 : W.cell? ⟨nb, 8, none⟩ = some (.int .i64 s.leads) := cell_of_row W nb 8 _ _ _ hHW
  have e9 : W.cell? ⟨nb, 9, none⟩ = some (.int .i64 (s.commit : Int)) := cell_of_row W nb 9 _ _ _ hHW
  have HBW := hide hbW
  have HWB := hide hwb
  have hne2 : w.heap.size ≠ nb := fun h => hne h.symm
  clear c0 f0 HA HL hHW hsz hbW hwb
  go_region_held3 (fun w' => w'.cell? ⟨nb, 4, none⟩ = some (.int .i64 s.term) ∧ w'.cell? ⟨nb, 6, none⟩ = some (.slice vo n vc) ∧ w'.cell? ⟨nb, 7, none⟩ = some (.int .i64 s.role) ∧ w'.cell? ⟨nb, 8, none⟩ = some (.int .i64 s.leads) ∧ w'.cell? ⟨nb, 9, none⟩ = some (.int .i64 (s.commit : Int))) (first | go_keep | (simp only [cell_ne hne2]; exact ⟨e4, e6, e7, e8, e9⟩)) (fail)
  all_goals go_wp2
  all_goals
    have h0 := heap_setCell_same _ w.heap.size 0 _ _ (.int .i64 0) (unhide HWB)
    have h1 := heap_setCell_same _ w.heap.size 1 _ _ (.int .i64 0) h0
    have h2 := heap_setCell_same _ w.heap.size 2 _ _ (.int .i64 0) h1
    have h3 := heap_setCell_same _ w.heap.size 3 _ _ (.int .i64 0) h2
    have h4 := heap_setCell_same _ w.heap.size 4 _ _ (.int .i64 0) h3
    have h5 := heap_setCell_same _ w.heap.size 0 _ _ (.int .i64 s.role) h4
    have h6 := heap_setCell_same _ w.heap.size 1 _ _ (.int .i64 s.term) h5
    have h7 := heap_setCell_same _ w.heap.size 2 _ _ (.int .i64 s.leads) h6
    have h8 := heap_setCell_same _ w.heap.size 3 _ _ (.int .i64 (s.commit : Int)) h7
    have h9 := heap_setCell_same _ w.heap.size 4 _ _ (.int .i64 (n : Int)) h8
    have hb9 := (((((((((((unhide HBW).setCell (p := ⟨w.heap.size, 0, none⟩) (Nat.le_refl _) (.int .i64 0)).setCell (p := ⟨w.heap.size, 1, none⟩) (Nat.le_refl _) (.int .i64 0)).setCell (p := ⟨w.heap.size, 2, none⟩) (Nat.le_refl _) (.int .i64 0)).setCell (p := ⟨w.heap.size, 3, none⟩) (Nat.le_refl _) (.int .i64 0)).setCell (p := ⟨w.heap.size, 4, none⟩) (Nat.le_refl _) (.int .i64 0)).setCell (p := ⟨w.heap.size, 0, none⟩) (Nat.le_refl _) (.int .i64 s.role)).setCell (p := ⟨w.heap.size, 1, none⟩) (Nat.le_refl _) (.int .i64 s.term)).setCell (p := ⟨w.heap.size, 2, none⟩) (Nat.le_refl _) (.int .i64 s.leads)).setCell (p := ⟨w.heap.size, 3, none⟩) (Nat.le_refl _) (.int .i64 (s.commit : Int))).setCell (p := ⟨w.heap.size, 4, none⟩) (Nat.le_refl _) (.int .i64 (n : Int)))
    clear h0 h1 h2 h3 h4 h5 h6 h7 h8
    replace h9 : ((((((((((W.setCell ⟨w.heap.size, 0, none⟩ (.int .i64 0)).setCell ⟨w.heap.size, 1, none⟩ (.int .i64 0)).setCell ⟨w.heap.size, 2, none⟩ (.int .i64 0)).setCell ⟨w.heap.size, 3, none⟩ (.int .i64 0)).setCell ⟨w.heap.size, 4, none⟩ (.int .i64 0)).setCell ⟨w.heap.size, 0, none⟩ (.int .i64 s.role)).setCell ⟨w.heap.size, 1, none⟩ (.int .i64 s.term)).setCell ⟨w.heap.size, 2, none⟩ (.int .i64 s.leads)).setCell ⟨w.heap.size, 3, none⟩ (.int .i64 (s.commit : Int))).setCell ⟨w.heap.size, 4, none⟩ (.int .i64 (n : Int))).heap[w.heap.size]? = some (.cells #[.int .i64 s.role, .int .i64 s.term, .int .i64 s.leads, .int .i64 (s.commit : Int), .int .i64 (n : Int)] 97 (0, 0)) := h9
    generalize ((((((((((W.setCell ⟨w.heap.size, 0, none⟩ (.int .i64 0)).setCell ⟨w.heap.size, 1, none⟩ (.int .i64 0)).setCell ⟨w.heap.size, 2, none⟩ (.int .i64 0)).setCell ⟨w.heap.size, 3, none⟩ (.int .i64 0)).setCell ⟨w.heap.size, 4, none⟩ (.int .i64 0)).setCell ⟨w.heap.size, 0, none⟩ (.int .i64 s.role)).setCell ⟨w.heap.size, 1, none⟩ (.int .i64 s.term)).setCell ⟨w.heap.size, 2, none⟩ (.int .i64 s.leads)).setCell ⟨w.heap.size, 3, none⟩ (.int .i64 (s.commit : Int))).setCell ⟨w.heap.size, 4, none⟩ (.int .i64 (n : Int))) = W10 at *
    have hlk := lock_below (w1 := W10.drew) (unhide H) hb9.drew
    have h10 : (W10.drew.setCell ⟨nb, 0, none⟩ (.int .i32 0)).heap[w.heap.size]? = some (.cells #[.int .i64 s.role, .int .i64 s.term, .int .i64 s.leads, .int .i64 (s.commit : Int), .int .i64 (n : Int)] 97 (0, 0)) := (Below.heap_setCell W10.drew _ _ _ hne2).trans h9
    refine leaves_cons (f := 52) (args := #[.pointer (some ⟨nb, 0, none⟩)]) (by simp) (by simp [go_sem]) ?_
    refine (unlock_deferred muLib ⟨nb, 0, none⟩ .returning _ hlk.1.c0 (hlk.1.free 0)).mono ?_
    rintro e u' w'' ⟨rfl, rfl, rfl⟩
    exact ⟨_, results_cell_row Tryz.results45 _ _ w.heap.size _ _ _ _ rfl h10 Tryz.underlying97 rfl (by kernel_rfl), rfl, hlk.2⟩

end Go.Proofs.YteiecbkfganhnaaGreat

namespace Go.Proofs.YteiecbkfganhnaaGreat

open Go.RowKit

abbrev tN (i : Nat) : Nat × Nat := (1000 + 10 * i, 0)

abbrev tNL (i : Nat) : Nat × Nat := (1000 + 10 * i, 1)

abbrev tR (i : Nat) : Nat × Nat := (1000 + 10 * i, 2)

/-- All that is a game's. -/
def Agame (i : Nat) (U : Nat × Nat) : Prop := Abook i U ∨ U.1 = 1000 + 10 * i

/-- A variable of a call's own. -/
def Loc (w : World) (tg : Tags) (k : Nat) (cs : Array Value) (t : TypeId) : Prop := w.heap[k]? = some (.cells cs t (0, 0)) ∧ tg k = (0, 1)

theorem Loc.step {A : Nat × Nat → Prop} {w w' : World} {tg tg' : Tags} {k : Nat} {cs : Array Value} {t : TypeId} (h : Loc w tg k cs t) (hs : Stp A w tg w' tg') (hA : ¬ A (0, 1)) : Loc w' tg' k cs t := by
  have hk := hs.keep k (Array.getElem?_eq_some_iff.1 h.1).1 (by rw [h.2]; exact hA)
  exact ⟨hk.1.trans h.1, hk.2.trans h.2⟩

theorem Loc.new (w : World) (tg : Tags) (cs : Array Value) (t : TypeId) : Loc (w.alloc (.cells cs t)) (newTag w.heap.size tg (0, 1)) w.heap.size cs t := ⟨heap_alloc_new w _, newTag_new (Nat.le_refl _)⟩

theorem Loc.cell {w : World} {tg : Tags} {k : Nat} {cs : Array Value} {t : TypeId} (h : Loc w tg k cs t) (o : Nat) : w.cell? ⟨k, o, none⟩ = cs[o]? := cell_of_row w k o _ _ _ h.1

set_option maxRecDepth 100000 in
set_option maxHeartbeats 1000000 in
theorem sameSaved_eq (t v : Int) (va vb : Value) (es : List Ent) (w : World) (hn : es.length ≤ 60) (ha : EntsIn w va es) (hb : EntsIn w vb es) :
    Calls Tryz.prog 43 #[.agg #[.int .i64 t, .int .i64 v, va], .agg #[.int .i64 t, .int .i64 v, vb]] w fun e w' => e = .returned (.bool true) ∧ Below w.heap.size w w' := by
  have HA := hide ha
  have HB := hide hb
  obtain ⟨a1, k1, rfl, _⟩ := ha
  obtain ⟨a2, k2, rfl, _⟩ := hb
  have hb2 := below_trans (below_alloc w (.cells #[.int .i64 t, .int .i64 v, .slice a1 es.length k1] 24)) (below_alloc _ (.cells #[.int .i64 t, .int .i64 v, .slice a2 es.length k2] 24))
  have H2 := hide hb2
  clear hb2
  go_enter Tryz.func43, Tryz.ntmps43
  go_wp2_with (go_at_call 87; refine (sameEntries_eq _ _ es _ (by omega) (by exact ents_below (unhide HA) (unhide H2)) (by exact ents_below (unhide HB) (unhide H2))).mono ?_; rintro e w3 ⟨rfl, m, rfl⟩)
  go_ret
  exact ⟨rfl, (unhide H2).trans ⟨rfl, rfl, rfl, Nat.le_refl _, fun _ _ => rfl⟩⟩

theorem num_any (k : Int) (w : World) : Calls Tryz.prog 13 #[.int .i64 k] w fun e w' => e = .returned (.int .i64 k) ∧ w' = w := by
  go_enter Tryz.func13, Tryz.ntmps13
  go_wp2
  go_ret
  exact ⟨rfl, rfl⟩

theorem Stp.drew1 (A : Nat × Nat → Prop) (w : World) (tg : Tags) : Stp A w tg w.drew tg := ⟨rfl, rfl, rfl, Nat.le_refl _, fun _ _ _ => ⟨rfl, rfl⟩⟩

theorem eql_status (a b c d e : Int) (w : World) : (binOp .eql 97 (.agg #[.int .i64 a, .int .i64 b, .int .i64 c, .int .i64 d, .int .i64 e]) (.agg #[.int .i64 a, .int .i64 b, .int .i64 c, .int .i64 d, .int .i64 e])).run Tryz.prog w = .ok (.bool true) w := by
  have u3 := Tryz.underlying3
  have hS : Tryz.prog.underlying 97 = some (.struct (Tryz.prog.fieldsOf 97)) := by kernel_rfl
  have hp : Tryz.prog.stoodInHeld 97 = false := by kernel_rfl
  rw [run_eql_struct, show (10000 : Nat) = 9999 + 1 from rfl, run_equalIn_agg w 9999 97 _ _ hS hp]
  simp only [Program.fieldsOf, Tryz.underlying97]
  go_simp

theorem not_book (i k : Nat) (hi : i ≤ 1) : ¬ Abook i (1000 + 10 * i, k) := by
  rintro ⟨_, h⟩
  simp at h
  omega

theorem book0 (i k : Nat) : ¬ Abook i (0, k) := by
  rintro ⟨h, _⟩
  simp at h

end Go.Proofs.YteiecbkfganhnaaGreat

namespace Go.Proofs.YteiecbkfganhnaaGreat

def Nd.propose (s : Nd) (c : ByteArray) : Int × Nd × List Msg × Int :=
  if s.propErr c = 0 then (((s.proposeS c).last : Int), s.proposeS c, (s.proposeS c).appends, 0) else (0, s, [], s.propErr c)

theorem lead_term {s : Nd} (h : Ok s) (hr : s.role = 3) : 1 ≤ s.term := by
  have hl := (h.lead hr).pos
  have := okE_get h.log 0 hl
  omega

theorem Ok.propose {s : Nd} (h : Ok s) (c : ByteArray) : Ok (s.propose c).2.1 := by
  unfold Nd.propose
  split
  · rename_i hp
    unfold Nd.propErr at hp
    split at hp
    · cases hp
    · split at hp
      · cases hp
      · split at hp
        · cases hp
        · rename_i h1 h2 h3
          have hr : s.role = 3 := Classical.not_not.1 h2
          exact h.proposeS c (by omega) (by omega) (lead_term h hr)
  · exact h

abbrev ptr (b : Nat) : Value := .pointer (some ⟨b, 0, none⟩)

end Go.Proofs.YteiecbkfganhnaaGreat

namespace Go.Proofs.YteiecbkfganhnaaGreat

theorem lead_fix (s : Nd) : s.leadS.id = s.id ∧ s.leadS.n = s.n := by
  constructor
  · show s.leadA.leadB.id = _; unfold Nd.leadB; split <;> rfl
  · show s.leadA.leadB.n = _; unfold Nd.leadB; split <;> rfl

theorem lead_el (s : Nd) : s.leadS.elapsed = 0 := by
  show s.leadA.leadB.elapsed = 0
  unfold Nd.leadB; split <;> rfl

theorem stand_el (s : Nd) : s.stand.1.elapsed = 0 := by
  unfold Nd.stand; split
  · exact lead_el _
  · rfl

theorem ask_el (s : Nd) : s.ask.1.elapsed = 0 := by
  unfold Nd.ask; split
  · exact stand_el _
  · rfl

theorem follow_el (s : Nd) (t l : Int) : (s.follow t l).elapsed = s.elapsed := by unfold Nd.follow; split <;> rfl

theorem tick_el {s : Nd} (h : 0 ≤ s.elapsed) : s.tick.1.elapsed ≤ s.elapsed + 1 := by
  unfold Nd.tick
  split
  · unfold Nd.tickLeader
    split
    · split
      · show (0 : Int) ≤ _; omega
      · rw [follow_el]; show (0 : Int) ≤ _; omega
    · exact Int.le_refl _
  · split
    · exact Int.le_refl _
    · rw [ask_el]; omega

theorem step_el {s : Nd} (h : 0 ≤ s.elapsed) (m : Msg) : (s.step m).1.elapsed ≤ s.elapsed := by
  unfold Nd.step
  split
  · split
    · unfold Nd.stepAsk; split
      · exact Int.le_refl _
      · split <;> exact Int.le_refl _
    · split
      · unfold Nd.stepAskReply; split
        · show (if s.term < m.term then s.follow m.term (-1) else s).elapsed ≤ _
          split
          · rw [follow_el]; exact Int.le_refl _
          · exact Int.le_refl _
        · split
          · split
            · rw [stand_el]; exact h
            · exact Int.le_refl _
          · exact Int.le_refl _
      · split
        · unfold Nd.stepVote; split
          · exact Int.le_refl _
          · show (if (s.voteS m).votes m = true then ({ s.voteS m with vote := m.src, elapsed := 0 } : Nd) else s.voteS m).elapsed ≤ _
            split
            · exact h
            · unfold Nd.voteS; split
              · rw [follow_el]; exact Int.le_refl _
              · exact Int.le_refl _
        · split
          · unfold Nd.stepVoteReply; split
            · rw [follow_el]; exact Int.le_refl _
            · split
              · split
                · show (s.addGrant m.src.toNat).leadS.elapsed ≤ _
                  rw [lead_el]; exact h
                · exact Int.le_refl _
              · exact Int.le_refl _
          · split
            · unfold Nd.stepAppend; split
              · exact Int.le_refl _
              · split
                · exact Int.le_refl _
                · split
                  · exact h
                  · split
                    · exact h
                    · exact h
            · unfold Nd.stepAppendReply; split
              · rw [follow_el]; exact Int.le_refl _
              · split
                · split
                  · split <;> exact Int.le_refl _
                  · exact Int.le_refl _
                · exact Int.le_refl _
  · exact Int.le_refl _

theorem propose_el (s : Nd) (c : ByteArray) : (s.propose c).2.1.elapsed = s.elapsed := by
  unfold Nd.propose; split <;> rfl

theorem others_few (s : Nd) : s.others.length ≤ s.n := by
  have := List.length_filter_le (fun i => decide (i ≠ s.id)) (List.range s.n)
  simpa [Nd.others] using this

theorem appends_few (s : Nd) : s.appends.length ≤ s.n := by unfold Nd.appends; rw [List.length_map]; exact others_few s

theorem request_few (s : Nd) (k t : Int) : (s.request k t).length ≤ s.n := by unfold Nd.request; rw [List.length_map]; exact others_few s

theorem stand_few (s : Nd) : s.stand.2.length ≤ s.n := by
  unfold Nd.stand; split
  · show s.standS.leadS.appends.length ≤ _
    have h := appends_few s.standS.leadS
    rw [(lead_fix s.standS).2] at h; exact h
  · exact request_few _ _ _

theorem ask_few (s : Nd) : s.ask.2.length ≤ s.n := by
  unfold Nd.ask; split
  · exact stand_few (s.campaign 1)
  · exact request_few _ _ _

theorem tick_few (s : Nd) : s.tick.2.length ≤ s.n := by
  unfold Nd.tick; split
  · unfold Nd.tickLeader; split
    · split
      · exact appends_few _
      · exact Nat.zero_le _
    · exact appends_few _
  · split
    · exact Nat.zero_le _
    · exact ask_few s.tickS

theorem step_few {s : Nd} (h1 : 1 ≤ s.n) (m : Msg) : (s.step m).2.length ≤ s.n := by
  unfold Nd.step
  split
  · split
    · unfold Nd.stepAsk; split
      · exact h1
      · split
        · exact Nat.zero_le _
        · exact h1
    · split
      · unfold Nd.stepAskReply; split
        · exact Nat.zero_le _
        · split
          · split
            · exact stand_few (s.addGrant m.src.toNat)
            · exact Nat.zero_le _
          · exact Nat.zero_le _
      · split
        · unfold Nd.stepVote; split
          · exact Nat.zero_le _
          · exact h1
        · split
          · unfold Nd.stepVoteReply; split
            · exact Nat.zero_le _
            · split
              · split
                · show (s.addGrant m.src.toNat).leadS.appends.length ≤ _
                  have h := appends_few (s.addGrant m.src.toNat).leadS
                  rw [(lead_fix (s.addGrant m.src.toNat)).2] at h; exact h
                · exact Nat.zero_le _
              · exact Nat.zero_le _
          · split
            · unfold Nd.stepAppend; split
              · exact h1
              · split
                · exact Nat.zero_le _
                · split
                  · exact h1
                  · split
                    · exact Nat.zero_le _
                    · exact h1
            · unfold Nd.stepAppendReply; split
              · exact Nat.zero_le _
              · split
                · split
                  · split
                    · show (if _ then _ else _ : List Msg).length ≤ _
                      split
                      · exact h1
                      · exact Nat.zero_le _
                    · exact Nat.zero_le _
                  · exact h1
                · exact Nat.zero_le _
  · exact Nat.zero_le _

theorem propose_few (s : Nd) (c : ByteArray) : (s.propose c).2.2.1.length ≤ s.n := by
  unfold Nd.propose; split
  · exact appends_few (s.proposeS c)
  · exact Nat.zero_le _

end Go.Proofs.YteiecbkfganhnaaGreat

namespace Go.Proofs.YteiecbkfganhnaaGreat

/-- A node that heard others. -/
def Nd.wh (s : Nd) (g : Nat → Bool) : Nd := { s with hd := g }

/-- The program's node and the document's. -/
def Twin (s t : Nd) : Prop := ∃ g, t = s.wh g ∧ (s.role = 3 → g = s.hd)

theorem Twin.refl (s : Nd) : Twin s s := ⟨s.hd, rfl, fun _ => rfl⟩

theorem Twin.of (s : Nd) (g : Nat → Bool) (h : s.role ≠ 3) : Twin s (s.wh g) := ⟨g, rfl, fun h3 => absurd h3 h⟩

theorem Twin.eq {s t : Nd} (h : Twin s t) (hr : s.role = 3) : t = s := by
  obtain ⟨g, rfl, hg⟩ := h
  rw [hg hr]; rfl

/-- Two answers. -/
def TwinA (a b : Nd × List Msg) : Prop := Twin a.1 b.1 ∧ b.2 = a.2

theorem TwinA.refl (a : Nd × List Msg) : TwinA a a := ⟨Twin.refl _, rfl⟩

/-- The document's Tick: a leader that hears no majority forgets whom it heard. -/
def Nd.docTick (s : Nd) : Nd × List Msg :=
  if s.role = 3 ∧ s.pat ≤ s.elapsed + 1 ∧ s.maj (cnt (upd s.hd s.id true)) = false then (({ s with elapsed := 0, hd := none7 } : Nd).follow s.term (-1), []) else s.tick

theorem wh_follow (s : Nd) (g : Nat → Bool) (t l : Int) : (s.wh g).follow t l = (s.follow t l).wh g := by
  unfold Nd.follow
  show (if s.term < t then _ else _) = _
  split <;> rfl

theorem wh_stand (s : Nd) (g : Nat → Bool) : TwinA s.stand (s.wh g).stand := by
  unfold Nd.stand
  show TwinA _ (if s.standS.maj (cnt s.standS.gr) = true then s.standS.lead else (s.standS.wh g, s.standS.request 2 s.standS.term))
  split
  · exact TwinA.refl _
  · exact ⟨Twin.of _ g (by show (2 : Int) ≠ 3; decide), rfl⟩

theorem wh_ask (s : Nd) (g : Nat → Bool) : TwinA s.ask (s.wh g).ask := by
  unfold Nd.ask
  show TwinA _ (if (s.campaign 1).maj (cnt (s.campaign 1).gr) = true then ((s.campaign 1).wh g).stand else ((s.campaign 1).wh g, (s.campaign 1).request 0 (s.term + 1)))
  split
  · exact wh_stand _ g
  · exact ⟨Twin.of _ g (by show (1 : Int) ≠ 3; decide), rfl⟩

theorem follow_role0 (s : Nd) (t l : Int) : (s.follow t l).role = 0 := by unfold Nd.follow; split <;> rfl

theorem twin_follow (s : Nd) (g : Nat → Bool) (t l : Int) : Twin (s.follow t l) ((s.wh g).follow t l) := by
  rw [wh_follow]
  exact Twin.of _ g (by rw [follow_role0]; decide)

theorem twin_tick {s t : Nd} (h : Twin s t) : TwinA s.tick t.docTick := by
  by_cases hr : s.role = 3
  · rw [h.eq hr]
    unfold Nd.docTick
    split
    · rename_i hc
      have e : s.tick = (({ s with elapsed := 0 } : Nd).follow s.term (-1), []) := by
        unfold Nd.tick
        rw [if_pos hr]
        unfold Nd.tickLeader
        show (if s.pat ≤ s.elapsed + 1 then (if s.maj (cnt (upd s.hd s.id true)) = true then _ else _) else _) = _
        rw [if_pos hc.2.1, if_neg (by rw [hc.2.2]; decide)]
        rfl
      rw [e]
      exact ⟨twin_follow ({ s with elapsed := 0 } : Nd) none7 _ _, rfl⟩
    · exact TwinA.refl _
  · obtain ⟨g, rfl, _⟩ := h
    have hr' : ¬ (s.wh g).role = 3 := hr
    unfold Nd.docTick
    rw [if_neg (fun hx => hr' hx.1)]
    unfold Nd.tick
    rw [if_neg hr, if_neg hr']
    show TwinA _ (if s.elapsed + 1 < s.pat ∨ 1000000 ≤ s.term then (s.tickS.wh g, []) else (s.tickS.wh g).ask)
    split
    · exact ⟨Twin.of _ g hr, rfl⟩
    · exact wh_ask _ g

theorem twin_step {s t : Nd} (h : Twin s t) (m : Msg) : TwinA (s.step m) (t.step m) := by
  by_cases hr : s.role = 3
  · rw [h.eq hr]
    exact TwinA.refl _
  obtain ⟨g, rfl, _⟩ := h
  have hq := Twin.of s g hr
  unfold Nd.step
  show TwinA _ (if soundM m s.id s.n = true then _ else _)
  split
  · split
    · unfold Nd.stepAsk
      show TwinA _ (if s.term < m.term ∧ s.asGood m = true ∧ s.knows = false then (s.wh g, [s.reply 1 m.src m.term 0 true]) else if s.term = 0 then (s.wh g, []) else (s.wh g, [s.reply 1 m.src s.term 0 false]))
      split
      · exact ⟨hq, rfl⟩
      · split <;> exact ⟨hq, rfl⟩
    · split
      · unfold Nd.stepAskReply
        show TwinA _ (if m.granted = false then (if s.term < m.term then (s.wh g).follow m.term (-1) else s.wh g, []) else if s.role = 1 ∧ m.term = s.term + 1 then (if (s.addGrant m.src.toNat).maj (cnt (s.addGrant m.src.toNat).gr) = true then ((s.addGrant m.src.toNat).wh g).stand else ((s.addGrant m.src.toNat).wh g, [])) else (s.wh g, []))
        split
        · split
          · exact ⟨twin_follow s g _ _, rfl⟩
          · exact ⟨hq, rfl⟩
        · split
          · split
            · exact wh_stand _ g
            · exact ⟨Twin.of _ g hr, rfl⟩
          · exact ⟨hq, rfl⟩
      · split
        · unfold Nd.stepVote
          have ev : (s.wh g).voteS m = (s.voteS m).wh g := by
            unfold Nd.voteS
            show (if s.term < m.term then (s.wh g).follow m.term (-1) else s.wh g) = _
            split
            · rw [wh_follow]
            · rfl
          have hvr : (s.voteS m).role ≠ 3 := by
            unfold Nd.voteS
            split
            · rw [follow_role0]; decide
            · exact hr
          rw [ev]
          show TwinA _ (if s.term < m.term ∧ s.knows = true then (s.wh g, []) else (if (s.voteS m).votes m = true then ({ s.voteS m with vote := m.src, elapsed := 0 } : Nd).wh g else (s.voteS m).wh g, [(s.voteS m).reply 3 m.src (s.voteS m).term 0 ((s.voteS m).votes m)]))
          split
          · exact ⟨hq, rfl⟩
          · refine ⟨?_, rfl⟩
            show Twin (if (s.voteS m).votes m = true then _ else _) (if (s.voteS m).votes m = true then _ else _)
            split
            · exact Twin.of _ g hvr
            · exact Twin.of _ g hvr
        · split
          · unfold Nd.stepVoteReply
            show TwinA _ (if s.term < m.term then ((s.wh g).follow m.term (-1), []) else if m.granted = true ∧ s.role = 2 ∧ m.term = s.term then (if (s.addGrant m.src.toNat).maj (cnt (s.addGrant m.src.toNat).gr) = true then (s.addGrant m.src.toNat).lead else ((s.addGrant m.src.toNat).wh g, [])) else (s.wh g, []))
            split
            · exact ⟨twin_follow s g _ _, rfl⟩
            · split
              · split
                · exact TwinA.refl _
                · exact ⟨Twin.of _ g hr, rfl⟩
              · exact ⟨hq, rfl⟩
          · split
            · unfold Nd.stepAppend
              have ea : (s.wh g).appS m = (s.appS m).wh g := by
                unfold Nd.appS
                rw [wh_follow]
                rfl
              have har : (s.appS m).role ≠ 3 := by
                show (s.follow m.term m.src).role ≠ 3
                rw [follow_role0]; decide
              rw [ea]
              show TwinA _ (if m.term < s.term then (s.wh g, [s.reply 5 m.src s.term 0 false]) else if m.term = s.term ∧ s.role = 3 then (s.wh g, []) else if (s.last : Int) < m.index ∨ s.termOf m.index.toNat ≠ m.logTerm then ((s.appS m).wh g, [(s.appS m).reply 5 m.src (s.appS m).term (min (s.last : Int) (max 0 (m.index - 1))) false]) else if 60 < m.index.toNat + m.ents.length ∨ Nd.keeps s.log s.commit m.index.toNat m.ents = false then ((s.appS m).wh g, []) else (({ s.appS m with log := Nd.takes s.log m.index.toNat m.ents, commit := max s.commit (min m.commit.toNat (m.index.toNat + m.ents.length)) } : Nd).wh g, [(s.appS m).reply 5 m.src (s.appS m).term ((m.index.toNat + m.ents.length : Nat) : Int) true]))
              split
              · exact ⟨hq, rfl⟩
              · split
                · exact ⟨hq, rfl⟩
                · split
                  · exact ⟨Twin.of _ g har, rfl⟩
                  · split
                    · exact ⟨Twin.of _ g har, rfl⟩
                    · exact ⟨Twin.of _ g har, rfl⟩
            · unfold Nd.stepAppendReply
              have hr' : ¬ ((s.wh g).role = 3 ∧ m.term = (s.wh g).term) := fun hx => hr hx.1
              rw [if_neg hr', if_neg (show ¬ (s.role = 3 ∧ m.term = s.term) from fun hx => hr hx.1)]
              show TwinA _ (if s.term < m.term then ((s.wh g).follow m.term (-1), []) else (s.wh g, []))
              split
              · exact ⟨twin_follow s g _ _, rfl⟩
              · exact ⟨hq, rfl⟩
  · exact ⟨hq, rfl⟩

theorem twin_propose {s t : Nd} (h : Twin s t) (c : ByteArray) : (t.propose c).1 = (s.propose c).1 ∧ Twin (s.propose c).2.1 (t.propose c).2.1 ∧ (t.propose c).2.2 = (s.propose c).2.2 := by
  by_cases hr : s.role = 3
  · rw [h.eq hr]
    exact ⟨rfl, Twin.refl _, rfl⟩
  obtain ⟨g, rfl, _⟩ := h
  have e : (s.wh g).propErr c = s.propErr c := rfl
  have hne : s.propErr c ≠ 0 := by
    unfold Nd.propErr
    split
    · decide
    · first | decide | (rw [if_pos hr]; decide)
  unfold Nd.propose
  rw [e, if_neg hne, if_neg hne]
  exact ⟨rfl, Twin.of s g hr, rfl⟩

theorem Ok.docTick {s : Nd} (h : Ok s) : Ok s.docTick.1 := by
  unfold Nd.docTick
  split
  · refine Ok.follow ?_ _ _ h.t1 (by decide)
    exact { h with e0 := Int.le_refl _, h7 := fun _ _ => rfl, lead := fun h3 => (by have := h.lead h3; exact ⟨this.last, this.pos, this.sz, this.lo, this.hi, this.mm⟩) }
  · exact h.tick

theorem Ok.setPat' {s : Nd} (h : Ok s) (p : Int) (h1 : 1 ≤ p) (h2 : p ≤ 40) : Ok ({ s with pat := p } : Nd) :=
  { h with p0 := h1, p1 := h2, lead := fun h3 => (by have := h.lead h3; exact ⟨this.last, this.pos, this.sz, this.lo, this.hi, this.mm⟩) }

theorem Twin.setPat {s t : Nd} (h : Twin s t) (p : Int) : Twin { s with pat := p } { t with pat := p } := by
  obtain ⟨g, rfl, hg⟩ := h
  exact ⟨g, rfl, hg⟩

theorem Twin.elapsed {s t : Nd} (h : Twin s t) : t.elapsed = s.elapsed := by obtain ⟨g, rfl, _⟩ := h; rfl

/-- Messages carry three entries at most. -/
def Thin (ms : List Msg) : Prop := ∀ m ∈ ms, m.ents.length ≤ 3

theorem Thin.nil : Thin [] := fun m hm => by cases hm

theorem Thin.one {m : Msg} (h : m.ents = []) : Thin [m] := fun x hx => by rw [List.mem_singleton.1 hx, h]; simp

theorem Thin.appendTo (s : Nd) (i : Nat) : Thin [s.appendTo i] := fun x hx => by
  rw [List.mem_singleton.1 hx]
  show ((s.log.drop (s.nx i - 1)).take 3).length ≤ 3
  rw [List.length_take]; omega

theorem Thin.appends (s : Nd) : Thin s.appends := fun x hx => by
  unfold Nd.appends at hx
  obtain ⟨i, _, rfl⟩ := List.mem_map.1 hx
  exact Thin.appendTo s i _ (by simp)

theorem Thin.request (s : Nd) (k t : Int) : Thin (s.request k t) := fun x hx => by
  unfold Nd.request at hx
  obtain ⟨i, _, rfl⟩ := List.mem_map.1 hx
  simp

theorem thin_stand (s : Nd) : Thin s.stand.2 := by
  unfold Nd.stand
  split
  · exact Thin.appends _
  · exact Thin.request _ _ _

theorem thin_ask (s : Nd) : Thin s.ask.2 := by
  unfold Nd.ask
  split
  · exact thin_stand _
  · exact Thin.request _ _ _

theorem thin_tick (s : Nd) : Thin s.tick.2 := by
  unfold Nd.tick
  split
  · unfold Nd.tickLeader
    split
    · split
      · exact Thin.appends _
      · exact Thin.nil
    · exact Thin.appends _
  · split
    · exact Thin.nil
    · exact thin_ask _

theorem thin_step (s : Nd) (m : Msg) : Thin (s.step m).2 := by
  unfold Nd.step
  split
  · split
    · unfold Nd.stepAsk
      split
      · exact Thin.one rfl
      · split
        · exact Thin.nil
        · exact Thin.one rfl
    · split
      · unfold Nd.stepAskReply
        split
        · exact Thin.nil
        · split
          · split
            · exact thin_stand _
            · exact Thin.nil
          · exact Thin.nil
      · split
        · unfold Nd.stepVote
          split
          · exact Thin.nil
          · exact Thin.one rfl
        · split
          · unfold Nd.stepVoteReply
            split
            · exact Thin.nil
            · split
              · split
                · exact Thin.appends _
                · exact Thin.nil
              · exact Thin.nil
          · split
            · unfold Nd.stepAppend
              split
              · exact Thin.one rfl
              · split
                · exact Thin.nil
                · split
                  · exact Thin.one rfl
                  · split
                    · exact Thin.nil
                    · exact Thin.one rfl
            · unfold Nd.stepAppendReply
              split
              · exact Thin.nil
              · split
                · split
                  · split
                    · show Thin (if _ then _ else _)
                      split
                      · exact Thin.appendTo _ _
                      · exact Thin.nil
                    · exact Thin.nil
                  · exact Thin.appendTo _ _
                · exact Thin.nil
  · exact Thin.nil

theorem thin_propose (s : Nd) (c : ByteArray) : Thin (s.propose c).2.2.1 := by
  unfold Nd.propose
  split
  · exact Thin.appends _
  · exact Thin.nil

end Go.Proofs.YteiecbkfganhnaaGreat

namespace Go.Proofs.YteiecbkfganhnaaGreat

open Go.RowKit Go.MuLone

theorem RB.hasLt {w : World} {rb k : Nat} {s : Nd} {v : RV} {out : List (Msg × Value)} (h : RB w rb s v out) (hk : v.has rb k) : k < w.heap.size := by
  rcases hk with hk | hk | hk | hk | hk | hk | hk
  · rw [hk]; exact h.lt
  · exact owns_lt h.log k hk
  · exact owns_lt h.gr k hk
  · exact owns_lt h.nx k hk
  · exact owns_lt h.mt k hk
  · exact owns_lt h.hd k hk
  · exact owns_lt h.row k hk

theorem RB.kept {w w' : World} {rb : Nat} {s : Nd} {v : RV} (h : RB w rb s v []) (hk : ∀ k, v.has rb k → w'.heap[k]? = w.heap[k]?) : RB w' rb s v [] :=
  ⟨(hk rb (.inl rfl)).trans h.blk, owns_kept h.log (fun x hx => hk x (.inr (.inl hx))), owns_kept h.gr (fun x hx => hk x (.inr (.inr (.inl hx)))), owns_kept h.nx (fun x hx => hk x (.inr (.inr (.inr (.inl hx))))), owns_kept h.mt (fun x hx => hk x (.inr (.inr (.inr (.inr (.inl hx)))))), owns_kept h.hd (fun x hx => hk x (.inr (.inr (.inr (.inr (.inr (.inl hx))))))), owns_kept h.row (fun x hx => hk x (.inr (.inr (.inr (.inr (.inr (.inr hx))))))), (fun y hy => by cases hy), h.gh, h.nm, (fun y hy => by cases hy)⟩

/-- A game in memory. -/
structure Gx (i gb nb rb : Nat) (w : World) (tg : Tags) (id n : Nat) (s t : Nd) (lv : Value) (v : RV) (b : BV) (l : List (List Ent)) (lm : List (List Msg)) (l2 : List (List ByteArray)) (ne nm nt : Nat) : Prop where
  B : Bm i gb w tg (.int .i64 (id : Int)) (.int .i64 (n : Int)) (.pointer (some ⟨nb, 0, none⟩)) (.pointer (some ⟨rb, 0, none⟩)) b l lm l2 ne nm nt
  N : NB 0 w nb s lv
  tn : tg nb = tN i
  L : NL w s lv
  tl : ∀ k, lv.ownBlock = some k → tg k = tNL i
  R : RB w rb t v []
  tr : ∀ k, v.has rb k → tg k = tR i

section

variable {i gb nb rb : Nat} {w w' : World} {tg tg' : Tags} {id n : Nat} {s s' t t' : Nd} {lv lv' : Value} {v v' : RV} {b b' : BV} {l l' : List (List Ent)} {lm lm' : List (List Msg)} {l2 l2' : List (List ByteArray)} {ne nm nt ne' nm' nt' : Nat}

theorem Gx.c2 (h : Gx i gb nb rb w tg id n s t lv v b l lm l2 ne nm nt) : w.cell? ⟨gb, 2, none⟩ = some (.pointer (some ⟨nb, 0, none⟩)) := h.B.G.c2

theorem Gx.c3 (h : Gx i gb nb rb w tg id n s t lv v b l lm l2 ne nm nt) : w.cell? ⟨gb, 3, none⟩ = some (.pointer (some ⟨rb, 0, none⟩)) := h.B.G.c3

/-- All but the book is left. -/
theorem Gx.book {A : Nat × Nat → Prop} (h : Gx i gb nb rb w tg id n s t lv v b l lm l2 ne nm nt) (hs : Stp A w tg w' tg') (hA : ∀ k, ¬ A (1000 + 10 * i, k))
    (hB : Bm i gb w' tg' (.int .i64 (id : Int)) (.int .i64 (n : Int)) (.pointer (some ⟨nb, 0, none⟩)) (.pointer (some ⟨rb, 0, none⟩)) b' l' lm' l2' ne' nm' nt') : Gx i gb nb rb w' tg' id n s t lv v b' l' lm' l2' ne' nm' nt' := by
  have kN := hs.keep nb h.N.lt (by rw [h.tn]; exact hA 0)
  have kR : ∀ k, v.has rb k → w'.heap[k]? = w.heap[k]? ∧ tg' k = tg k := fun k hk => hs.keep k (h.R.hasLt hk) (by rw [h.tr k hk]; exact hA 2)
  have kL : ∀ k, lv.ownBlock = some k → w'.heap[k]? = w.heap[k]? ∧ tg' k = tg k := fun k hk => hs.keep k (owns_lt h.L k hk) (by rw [h.tl k hk]; exact hA 1)
  exact ⟨hB, kN.1.trans h.N, kN.2.trans h.tn, owns_kept h.L fun x hx => (kL x hx).1, fun k hk => (kL k hk).2.trans (h.tl k hk), h.R.kept fun k hk => (kR k hk).1, fun k hk => (kR k hk).2.trans (h.tr k hk)⟩

theorem Gx.step {A : Nat × Nat → Prop} (h : Gx i gb nb rb w tg id n s t lv v b l lm l2 ne nm nt) (hs : Stp A w tg w' tg') (hA : ∀ U, Agame i U → ¬ A U) (h0 : ¬ A (0, 0)) : Gx i gb nb rb w' tg' id n s t lv v b l lm l2 ne nm nt :=
  h.book hs (fun _ => hA _ (.inr rfl)) (h.B.step hs (fun U hU => hA U (.inl hU)) h0)

theorem Gx.quiet (h : Gx i gb nb rb w tg id n s t lv v b l lm l2 ne nm nt) (hs : Stp (fun _ => False) w tg w' tg') : Gx i gb nb rb w' tg' id n s t lv v b l lm l2 ne nm nt := h.step hs (fun _ _ h => h) (fun h => h)

/-- The roles behind a call of the program's node: its log, what came out. -/
def cTag (i q B : Nat) (lv' mv : Value) (ms : List (Msg × Value)) (tg : Tags) : Tags := fun k =>
  if k < B then tg k else if lv'.ownBlock = some k then tNL i else if mv.ownBlock = some k then tLM i q else match ms.findIdx? (fun x => decide (x.2.ownBlock = some k)) with | some j => tLX i q j | none => (0, 1)

theorem mrow_of {q : Nat} {mv : Value} {ms : List Msg} {ml : List (Msg × Value)} (hL : NL w' s' lv') (hM : MsgsOut w' w.heap.size mv ms ml) (hA : Apart lv' ml) : MRow w' (cTag i q w.heap.size lv' mv ml tg) (tLM i q) (tLX i q) mv ml := by
  have hlen : ms.length = ml.length := by rw [← hM.fst, List.length_map]
  have hrow := hM.row
  rw [hlen] at hrow
  refine ⟨⟨owns_base hrow (Nat.zero_le _), fun x hx => ?_⟩, fun j y hj => ⟨owns_base (hM.ents y (List.mem_of_getElem? hj)) (Nat.zero_le _), fun x hx => ?_⟩⟩
  · replace hx : mv.ownBlock = some x := hx
    have h1 : ¬ x < w.heap.size := by have := (hrow.lt x hx).1; omega
    have h2 : ¬ lv'.ownBlock = some x := fun hy => owns_other hrow hL (by decide) x hx hy
    simp [cTag, h1, h2, hx]
  · replace hx : y.2.ownBlock = some x := hx
    have hy := List.mem_of_getElem? hj
    have h1 : ¬ x < w.heap.size := by have := ((hM.ents y hy).lt x hx).1; omega
    have h2 : ¬ lv'.ownBlock = some x := fun hz => hA y hy x hz hx
    have h3 : ¬ mv.ownBlock = some x := fun hz => owns_other hrow (hM.ents y hy) (by decide) x hz hx
    obtain ⟨hjl, hjy⟩ := List.getElem?_eq_some_iff.1 hj
    have h4 : ml.findIdx? (fun z => decide (z.2.ownBlock = some x)) = some j := by
      rw [List.findIdx?_eq_some_iff_getElem]
      refine ⟨hjl, by rw [hjy]; simpa using hx, fun k hk => ?_⟩
      have hp := List.pairwise_iff_getElem.1 hM.apart k j (by omega) hjl hk
      intro hz
      have hz' : ml[k].2.ownBlock = some x := by simpa using hz
      exact hp x hz' (by rw [hjy]; exact hx)
    simp [cTag, h1, h2, h3, h4]

/-- A call of the program's node. -/
theorem Gx.code {q : Nat} {mv : Value} {ms : List Msg} {ml : List (Msg × Value)} (h : Gx i gb nb rb w tg id n s t lv v b l lm l2 ne nm nt) (hi : i ≤ 1) (hN : NB 0 w' nb s' lv') (hL : NL w' s' lv') (hM : MsgsOut w' w.heap.size mv ms ml) (hE : Ev nb lv lv' w w') (hA : Apart lv' ml) :
    Gx i gb nb rb w' (cTag i q w.heap.size lv' mv ml tg) id n s' t lv' v b l lm l2 ne nm nt ∧ MRow w' (cTag i q w.heap.size lv' mv ml tg) (tLM i q) (tLX i q) mv ml ∧ Stp (fun U => U = tN i ∨ U = tNL i) w tg w' (cTag i q w.heap.size lv' mv ml tg) := by
  have hs : Stp (fun U => U = tN i ∨ U = tNL i) w tg w' (cTag i q w.heap.size lv' mv ml tg) := by
    refine ⟨hE.os, hE.tape, hE.output, hE.size, fun k hk hn => ⟨hE.block k hk (fun e => hn (.inl (by rw [e]; exact h.tn))) (fun e => hn (.inr (h.tl k e))), by simp [cTag, hk]⟩⟩
  refine ⟨?_, mrow_of hL hM hA, hs⟩
  have kR : ∀ k, v.has rb k → w'.heap[k]? = w.heap[k]? ∧ _ = tg k := fun k hk => hs.keep k (h.R.hasLt hk) (by rw [h.tr k hk]; simp)
  refine ⟨h.B.step hs (fun U hU hx => ?_) (by simp; omega), hN, ?_, hL, fun k hk => ?_, h.R.kept fun k hk => (kR k hk).1, fun k hk => (kR k hk).2.trans (h.tr k hk)⟩
  · rcases hx with rfl | rfl
    · exact not_book i 0 hi hU
    · exact not_book i 1 hi hU
  · have := h.N.lt
    simp [cTag, this]; exact h.tn
  · by_cases hkb : k < w.heap.size
    · rcases hE.own with he | he
      · simp only [cTag, if_pos hkb]
        exact h.tl k (by rw [← he]; exact hk)
      · have := he k hk; omega
    · simp [cTag, hkb, hk]

/-- The node's block alone turns. -/
theorem Gx.node (h : Gx i gb nb rb w tg id n s t lv v b l lm l2 ne nm nt) (hi : i ≤ 1) (hN : NB 0 w' nb s' lv) (hl : s'.log = s.log) (hs : Stp (fun U => U = tN i) w tg w' tg) : Gx i gb nb rb w' tg id n s' t lv v b l lm l2 ne nm nt := by
  have kR : ∀ k, v.has rb k → w'.heap[k]? = w.heap[k]? ∧ tg k = tg k := fun k hk => hs.keep k (h.R.hasLt hk) (by rw [h.tr k hk]; simp)
  have kL : ∀ k, lv.ownBlock = some k → w'.heap[k]? = w.heap[k]? ∧ tg k = tg k := fun k hk => hs.keep k (owns_lt h.L k hk) (by rw [h.tl k hk]; simp)
  refine ⟨h.B.step hs (fun U hU hx => ?_) (by simp; omega), hN, h.tn, ?_, h.tl, h.R.kept fun k hk => (kR k hk).1, h.tr⟩
  · subst hx; exact not_book i 0 hi hU
  · show World.ownsRow _ _ _ _ _ _ _
    rw [hl]
    exact owns_kept h.L fun x hx => (kL x hx).1

/-- A call of the document's node. -/
theorem Gx.refs (h : Gx i gb nb rb w tg id n s t lv v b l lm l2 ne nm nt) (hi : i ≤ 1) (hR : RB w' rb t' v' []) (hE : Er rb v v' w w') :
    Gx i gb nb rb w' (newTag w.heap.size tg (tR i)) id n s t' lv v' b l lm l2 ne nm nt ∧ Stp (fun U => U = tR i) w tg w' (newTag w.heap.size tg (tR i)) := by
  have hs : Stp (fun U => U = tR i) w tg w' (newTag w.heap.size tg (tR i)) := ⟨hE.os, hE.tape, hE.output, hE.size, fun k hk hn => ⟨hE.block k hk (fun e => hn (h.tr k e)), newTag_old hk⟩⟩
  refine ⟨?_, hs⟩
  have kN := hs.keep nb h.N.lt (by rw [h.tn]; simp)
  have kL : ∀ k, lv.ownBlock = some k → w'.heap[k]? = w.heap[k]? ∧ _ = tg k := fun k hk => hs.keep k (owns_lt h.L k hk) (by rw [h.tl k hk]; simp)
  refine ⟨h.B.step hs (fun U hU hx => ?_) (by simp), kN.1.trans h.N, kN.2.trans h.tn, owns_kept h.L fun x hx => (kL x hx).1, fun k hk => (kL k hk).2.trans (h.tl k hk), hR, fun k hk => ?_⟩
  · subst hx; exact not_book i 2 hi hU
  · rcases hE.own k hk with h9 | h9
    · rw [newTag_old (h.R.hasLt h9)]; exact h.tr k h9
    · exact newTag_new h9

end

/-- What the two nodes of a game are. -/
structure Pair (id n : Nat) (s t : Nd) : Prop where
  tw : Twin s t
  ok : Ok s
  okt : Ok t
  eid : s.id = id
  en : s.n = n

/-- Behind keepMessages: the book. -/
theorem bm_keptM {i gb : Nat} {w w' : World} {tg : Tags} {c0 c1 c2 c3 : Value} {b : BV} {l : List (List Ent)} {lm lm' : List (List Msg)} {l2 : List (List ByteArray)} {ne nm nt : Nat} (h : Bm i gb w tg c0 c1 c2 c3 b l lm l2 ne nm nt) (hk : KeptM i gb w tg c0 c1 c2 c3 b lm' w') :
    ∃ b' tg', Bm i gb w' tg' c0 c1 c2 c3 b' l lm' l2 ne nm nt ∧ Stp (Abook i) w tg w' tg' := by
  obtain ⟨we, re, tg', hG, hg, hW, hs⟩ := hk
  have hs' : Stp (Abook i) w tg w' tg' := hs.mono (by rintro U (h | h | h) <;> subst h <;> exact ⟨by simp, by simp⟩)
  exact ⟨_, tg', ⟨hG, hg, h.E.step hs (by simp) (by simp) (by simp) (by simp), hW, h.T.step hs (by simp) (by simp) (by simp) (by simp), h.ME.step hs (by simp) (by simp), h.MM.step hs (by simp) (by simp), h.MT.step hs (by simp) (by simp)⟩, hs'⟩

theorem bm_keptE {i gb : Nat} {w w' : World} {tg : Tags} {c0 c1 c2 c3 : Value} {b : BV} {l l' : List (List Ent)} {lm : List (List Msg)} {l2 : List (List ByteArray)} {ne nm nt : Nat} (h : Bm i gb w tg c0 c1 c2 c3 b l lm l2 ne nm nt) (hk : KeptE i gb w tg c0 c1 c2 c3 b l' w') :
    ∃ b' tg', Bm i gb w' tg' c0 c1 c2 c3 b' l' lm l2 ne nm nt ∧ Stp (Abook i) w tg w' tg' := by
  obtain ⟨we, re, tg', hG, hg, hW, hs⟩ := hk
  have hs' : Stp (Abook i) w tg w' tg' := hs.mono (by rintro U (h | h | h) <;> subst h <;> exact ⟨by simp, by simp⟩)
  exact ⟨_, tg', ⟨hG, hg, hW, h.M.step hs (by simp) (by simp) (by simp) (by simp) (by simp), h.T.step hs (by simp) (by simp) (by simp) (by simp), h.ME.step hs (by simp) (by simp), h.MM.step hs (by simp) (by simp), h.MT.step hs (by simp) (by simp)⟩, hs'⟩

theorem bm_keptT {i gb : Nat} {w w' : World} {tg : Tags} {c0 c1 c2 c3 : Value} {b : BV} {l : List (List Ent)} {lm : List (List Msg)} {l2 l2' : List (List ByteArray)} {ne nm nt : Nat} (h : Bm i gb w tg c0 c1 c2 c3 b l lm l2 ne nm nt) (hk : KeptT i gb w tg c0 c1 c2 c3 b l2' w') :
    ∃ b' tg', Bm i gb w' tg' c0 c1 c2 c3 b' l lm l2' ne nm nt ∧ Stp (Abook i) w tg w' tg' := by
  obtain ⟨we, re, tg', hG, hg, hW, hs⟩ := hk
  have hs' : Stp (Abook i) w tg w' tg' := hs.mono (by rintro U (h | h | h) <;> subst h <;> exact ⟨by simp, by simp⟩)
  exact ⟨_, tg', ⟨hG, hg, h.E.step hs (by simp) (by simp) (by simp) (by simp), h.M.step hs (by simp) (by simp) (by simp) (by simp) (by simp), hW, h.ME.step hs (by simp) (by simp), h.MM.step hs (by simp) (by simp), h.MT.step hs (by simp) (by simp)⟩, hs'⟩

end Go.Proofs.YteiecbkfganhnaaGreat

namespace Go.Proofs.YteiecbkfganhnaaGreat

theorem fn_follow (s : Nd) (t l : Int) : (s.follow t l).n = s.n := by unfold Nd.follow; split <;> rfl

theorem fn_stand (s : Nd) : s.stand.1.n = s.n := by
  unfold Nd.stand; split
  · exact (lead_fix _).2
  · rfl

theorem fn_ask (s : Nd) : s.ask.1.n = s.n := by
  unfold Nd.ask; split
  · exact fn_stand _
  · rfl

theorem fn_tick (s : Nd) : s.tick.1.n = s.n := by
  unfold Nd.tick; split
  · unfold Nd.tickLeader; split
    · split
      · rfl
      · exact fn_follow _ _ _
    · rfl
  · split
    · rfl
    · exact fn_ask _

theorem step_n (s : Nd) (m : Msg) : (s.step m).1.n = s.n := by
  unfold Nd.step
  split
  · split
    · unfold Nd.stepAsk; split
      · rfl
      · split <;> rfl
    · split
      · unfold Nd.stepAskReply; split
        · show (if _ then _ else _ : Nd).n = _
          split
          · exact fn_follow _ _ _
          · rfl
        · split
          · split
            · exact fn_stand _
            · rfl
          · rfl
      · split
        · unfold Nd.stepVote; split
          · rfl
          · have hv : (s.voteS m).n = s.n := by
              unfold Nd.voteS; split
              · exact fn_follow _ _ _
              · rfl
            show (if _ then _ else _ : Nd).n = _
            split
            · exact hv
            · exact hv
        · split
          · unfold Nd.stepVoteReply; split
            · exact fn_follow _ _ _
            · split
              · split
                · exact (lead_fix _).2
                · rfl
              · rfl
          · split
            · unfold Nd.stepAppend; split
              · rfl
              · split
                · rfl
                · split
                  · exact fn_follow _ _ _
                  · split
                    · exact fn_follow _ _ _
                    · exact fn_follow _ _ _
            · unfold Nd.stepAppendReply; split
              · exact fn_follow _ _ _
              · split
                · split
                  · split <;> rfl
                  · rfl
                · rfl
  · rfl

theorem fi_follow (s : Nd) (t l : Int) : (s.follow t l).id = s.id := by unfold Nd.follow; split <;> rfl

theorem fi_stand (s : Nd) : s.stand.1.id = s.id := by
  unfold Nd.stand; split
  · exact (lead_fix _).1
  · rfl

theorem fi_ask (s : Nd) : s.ask.1.id = s.id := by
  unfold Nd.ask; split
  · exact fi_stand _
  · rfl

theorem fi_tick (s : Nd) : s.tick.1.id = s.id := by
  unfold Nd.tick; split
  · unfold Nd.tickLeader; split
    · split
      · rfl
      · exact fi_follow _ _ _
    · rfl
  · split
    · rfl
    · exact fi_ask _

theorem step_id (s : Nd) (m : Msg) : (s.step m).1.id = s.id := by
  unfold Nd.step
  split
  · split
    · unfold Nd.stepAsk; split
      · rfl
      · split <;> rfl
    · split
      · unfold Nd.stepAskReply; split
        · show (if _ then _ else _ : Nd).id = _
          split
          · exact fi_follow _ _ _
          · rfl
        · split
          · split
            · exact fi_stand _
            · rfl
          · rfl
      · split
        · unfold Nd.stepVote; split
          · rfl
          · have hv : (s.voteS m).id = s.id := by
              unfold Nd.voteS; split
              · exact fi_follow _ _ _
              · rfl
            show (if _ then _ else _ : Nd).id = _
            split
            · exact hv
            · exact hv
        · split
          · unfold Nd.stepVoteReply; split
            · exact fi_follow _ _ _
            · split
              · split
                · exact (lead_fix _).1
                · rfl
              · rfl
          · split
            · unfold Nd.stepAppend; split
              · rfl
              · split
                · rfl
                · split
                  · exact fi_follow _ _ _
                  · split
                    · exact fi_follow _ _ _
                    · exact fi_follow _ _ _
            · unfold Nd.stepAppendReply; split
              · exact fi_follow _ _ _
              · split
                · split
                  · split <;> rfl
                  · rfl
                · rfl
  · rfl

theorem propose_same (s : Nd) (c : ByteArray) : (s.propose c).2.1.id = s.id ∧ (s.propose c).2.1.n = s.n := by
  unfold Nd.propose
  split <;> exact ⟨rfl, rfl⟩

end Go.Proofs.YteiecbkfganhnaaGreat

namespace Go.Proofs.YteiecbkfganhnaaGreat

open Go.RowKit Go.MuLone

theorem refTick_all (rb : Nat) (s : Nd) (v : RV) (w : World) (h : RB w rb s v []) (hok : Ok s) (he : s.elapsed < 4611686018427387904) :
    Calls Tryz.prog 29 #[.pointer (some ⟨rb, 0, none⟩)] w fun e w' => RAns rb v w s.docTick e w' := by
  by_cases hr : s.role = 3
  · exact refTick_leader rb s v w h hok hr he hok.h7
  · have e : s.docTick = s.tick := if_neg fun hx => hr hx.1
    rw [e]
    exact refTick_other rb s v w h hok hr he

theorem RAns.reads {w' : World} {u : Value} {l : List (Msg × Value)} (h1 : w'.ownsRow 0 30 9 u l.length (mC l)) (h2 : ∀ x ∈ l, w'.ownsRow 0 66 2 x.2 x.1.ents.length (eC x.1.ents)) : MsgsIn w' u l :=
  msgs_of_owns h1 fun y hy => ents_of_owns (h2 y hy)

section

variable (i gb nb rb : Nat) (w : World) (tg : Tags) (id n : Nat) (s t : Nd) (lv : Value) (v : RV) (b : BV) (l : List (List Ent)) (lm : List (List Msg)) (l2 : List (List ByteArray)) (ne nm nt : Nat)

set_option maxRecDepth 100000 in
set_option maxHeartbeats 1000000 in
theorem gsent_any (av bv : Value) (al bl : List (Msg × Value)) (h : Gx i gb nb rb w tg id n s t lv v b l lm l2 ne nm nt) (hi : i ≤ 1) (ha : MRow w tg (tLM i lm.length) (tLX i lm.length) av al) (hb : MsgsIn w bv bl) (hm : bl.map Prod.fst = al.map Prod.fst) (h7 : al.length ≤ 7) (h3 : Thin (al.map Prod.fst)) (hl : lm.length ≤ 1000) :
    Calls Tryz.prog 30 #[.pointer (some ⟨gb, 0, none⟩), av, bv] w fun e w' => e = .returned (.bool true) ∧ ∃ b' tg', Gx i gb nb rb w' tg' id n s t lv v b' l (lm ++ [al.map Prod.fst]) l2 ne nm nt ∧ Stp (Abook i) w tg w' tg' := by
  have H := hide h
  have HA := hide ha
  have HB := hide hb
  have HM := hide hm
  have H3 : Hid (∀ y ∈ al, y.1.ents.length ≤ 3) := fun y hy => h3 y.1 (List.mem_map.2 ⟨y, hy, rfl⟩)
  clear h ha hb hm h3
  go_enter Tryz.func30, Tryz.ntmps30
  go_wp2_with (first | (go_at_call 62; refine (sameMessages_eq av bv al bl w (by omega) (unhide HM) (fun y hy => by have := unhide H3 y hy; omega) (unhide HA).reads (unhide HB)).mono ?_; rintro e w1 ⟨rfl, hb1⟩; replace hb1 := hide hb1) | (go_at_call 63; fail))
  have S1 : Stp (fun _ => False) w tg w1 (newTag w.heap.size tg (0, 1)) := Stp.ofBelow (unhide hb1) tg _
  have G1 := hide ((unhide H).quiet S1)
  have A1 := hide ((unhide HA).step S1 (fun h => h) (fun _ _ h => h))
  replace S1 := hide S1
  clear hb1 H HA
  generalize newTag w.heap.size tg (0, 1) = tg1 at *
  refine (keepMessages_any i gb w1 tg1 _ _ _ _ b lm _ al (unhide G1).B.G (unhide G1).B.g (unhide G1).B.M (unhide A1) ⟨h7, unhide H3⟩ (by omega)).mono ?_
  rintro e w2 ⟨rfl, hk2⟩
  obtain ⟨b2, tg2, hB2, hS2⟩ := bm_keptM (unhide G1).B hk2
  have G2 := hide ((unhide G1).book hS2 (fun k => not_book i k hi) hB2)
  have S2 := hide (((unhide S1).mono (B := Abook i) (fun _ h => h.elim)).trans hS2)
  clear hk2 hB2 hS2 G1 A1 S1
  go_wp2
  go_ret
  exact ⟨rfl, b2, tg2, unhide G2, unhide S2⟩

end

/-- A game with bounds. -/
def Gz (i gb : Nat) (w : World) (tg : Tags) (id n : Nat) (s t : Nd) (p q r K : Nat) : Prop :=
  ∃ nb rb lv v b l lm l2 ne nm nt, Gx i gb nb rb w tg id n s t lv v b l lm l2 ne nm nt ∧ (l.length ≤ p ∧ lm.length ≤ q ∧ l2.length ≤ r) ∧ ne ≤ K ∧ nm ≤ K ∧ nt ≤ K

/-- Behind a step. -/
def GDone (i gb : Nat) (w : World) (tg : Tags) (id n : Nat) (K : Nat) (E : Int) (w' : World) : Prop :=
  ∃ tg' s' t', Gz i gb w' tg' id n s' t' 9 8 9 K ∧ Pair id n s' t' ∧ s'.elapsed ≤ E + 1 ∧ Stp (Agame i) w tg w' tg'

/-- A step of a script, as it is handed over. -/
abbrev stepC (kind a q : Int) (m : Msg) (ev : Value) (c : ByteArray) (x : Int) : Array Value := #[.int .i64 kind, .int .i64 a, .int .i64 q, .int .i64 m.kind, .int .i64 m.src, .int .i64 m.dst, .int .i64 m.term, .int .i64 m.index, .int .i64 m.logTerm, .int .i64 m.commit, ev, .bool m.granted, .string c, .int .i64 x]

abbrev stepB (kind a q : Int) (m : Msg) (ev : Value) (c : ByteArray) (x : Int) : Obj := .cells (stepC kind a q m ev c x) 32

abbrev stepA (kind a q : Int) (m : Msg) (ev : Value) (c : ByteArray) (x : Int) : Value := .agg (stepC kind a q m ev c x)

theorem Pair.tick {id n : Nat} {s t : Nd} (h : Pair id n s t) : Pair id n s.tick.1 t.docTick.1 := ⟨(twin_tick h.tw).1, h.ok.tick, h.okt.docTick, by rw [fi_tick]; exact h.eid, by rw [fn_tick]; exact h.en⟩

theorem agame_b {i : Nat} : ∀ U, Abook i U → Agame i U := fun _ h => .inl h

theorem agame_n {i : Nat} : ∀ U, (U = tN i ∨ U = tNL i) → Agame i U := fun U h => by rcases h with rfl | rfl <;> exact .inr rfl

theorem agame_r {i : Nat} : ∀ U, U = tR i → Agame i U := fun U h => by subst h; exact .inr rfl

section

variable (i gb nb rb : Nat) (w : World) (tg : Tags) (id n : Nat) (s t : Nd) (lv : Value) (v : RV) (b : BV) (l : List (List Ent)) (lm : List (List Msg)) (l2 : List (List ByteArray)) (ne nm nt K : Nat)

set_option maxRecDepth 100000 in
set_option maxHeartbeats 1000000 in
theorem gstep_tick (a q x : Int) (m : Msg) (ev : Value) (c : ByteArray) (E : Int) (h : Gx i gb nb rb w tg id n s t lv v b l lm l2 ne nm nt) (hi : i ≤ 1) (hp : Pair id n s t) (hb : (l.length ≤ 7 ∧ lm.length ≤ 7 ∧ l2.length ≤ 7) ∧ ne ≤ K ∧ nm ≤ K ∧ nt ≤ K) (hE : s.elapsed ≤ E) (hE2 : E < 1000000000000) (hev : ∃ ao n c, ev = .slice ao n c) :
    Calls Tryz.prog 18 #[.pointer (some ⟨gb, 0, none⟩), stepA 3 a q m ev c x] w fun e w' => e = .returned (.bool true) ∧ GDone i gb w tg id n K E w' := by
  obtain ⟨eo, en, ec, rfl⟩ := hev
  have S1 : Stp (fun _ => False) w tg (w.alloc (stepB 3 a q m (.slice eo en ec) c x)) (newTag w.heap.size tg (0, 1)) := Stp.alloc w tg _ _
  have G1 := h.quiet S1
  have c2 := G1.c2
  replace G1 := hide G1
  replace S1 := hide S1
  have HP := hide hp
  have HB := hide hb
  clear h hp hb
  generalize newTag w.heap.size tg (0, 1) = tg1 at *
  go_enter Tryz.func18, Tryz.ntmps18
  go_wp2_with (go_at_call 28; fail)
  generalize w.alloc (stepB 3 a q m (.slice eo en ec) c x) = W1 at *
  refine (tick_any nb s lv W1 (unhide G1).N (unhide G1).L (unhide HP).ok (by omega)).mono ?_
  rintro e w2 ⟨mv, ml, lv2, rfl, hN2, hL2, hM2, hE2, hA2⟩
  have hf2 := hM2.fst
  obtain ⟨G2, M2, S2⟩ := (unhide G1).code (q := lm.length) hi hN2 hL2 hM2 hE2 hA2
  have c3 := G2.c3
  replace G2 := hide G2
  replace M2 := hide M2
  replace hf2 := hide hf2
  replace S2 := hide (((unhide S1).mono (B := Agame i) (fun _ h => h.elim)).trans (S2.mono agame_n))
  clear hN2 hL2 hM2 hE2 hA2 G1 S1 c2
  generalize cTag i lm.length W1.heap.size lv2 mv ml tg1 = tg2 at *
  go_wp2_with (go_at_call 29; fail)
  refine (refTick_all rb t v w2 (unhide G2).R (unhide HP).okt (by rw [(unhide HP).tw.elapsed]; omega)).mono ?_
  rintro e w3 ⟨rl, u, v3, rfl, hrl, hR3, hu3, hus3, hE3⟩
  obtain ⟨G3, S3⟩ := (unhide G2).refs hi hR3 hE3
  have M3 := hide ((unhide M2).step S3 (by simp; omega) (fun j _ => by simp; omega))
  have R3 := hide (RAns.reads hu3 hus3)
  have hrl' : rl.map Prod.fst = ml.map Prod.fst := by rw [hrl, unhide hf2]; exact (twin_tick (unhide HP).tw).2
  replace hrl' := hide hrl'
  replace G3 := hide G3
  replace S3 := hide ((unhide S2).trans (S3.mono agame_r))
  clear hrl hR3 hu3 hus3 hE3 G2 M2 S2 c3
  generalize newTag w2.heap.size tg2 (tR i) = tg3 at *
  have hml : ml.length ≤ 7 := by
    have h1 := congrArg List.length (unhide hf2)
    rw [List.length_map] at h1
    have h2 := tick_few s
    have h3 := (unhide HP).ok.n7
    omega
  have HTH : Hid (Thin (ml.map Prod.fst)) := by show Thin _; rw [unhide hf2]; exact thin_tick s
  go_wp2_with (go_at_call 30; fail)
  refine (gsent_any i gb nb rb w3 tg3 id n _ _ lv2 v3 b l lm l2 ne nm nt mv u ml rl (unhide G3) hi (unhide M3) (unhide R3) (unhide hrl') hml (unhide HTH) (by have := (unhide HB).1.2.1; omega)).mono ?_
  rintro e w4 ⟨rfl, b4, tg4, hG4, hS4⟩
  have S4 := hide ((unhide S3).trans (hS4.mono agame_b))
  have G4 := hide hG4
  clear hG4 hS4
  go_wp2
  go_ret
  have hB := unhide HB
  refine ⟨rfl, tg4, _, _, ⟨nb, rb, lv2, v3, b4, l, _, l2, ne, nm, nt, unhide G4, ⟨by omega, by simp; omega, by omega⟩, hB.2⟩, (unhide HP).tick, ?_, unhide S4⟩
  have := tick_el (unhide HP).ok.e0
  omega

end

end Go.Proofs.YteiecbkfganhnaaGreat

namespace Go.Proofs.YteiecbkfganhnaaGreat

open Go.RowKit

def codeP (t : Int) : Int := if 1 ≤ t ∧ t ≤ 40 then 0 else 6

end Go.Proofs.YteiecbkfganhnaaGreat
