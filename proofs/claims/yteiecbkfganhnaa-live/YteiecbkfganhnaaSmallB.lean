/- The program's small functions on a node: tests. -/
import Derived.Test.YteiecbkfganhnaaSmall
namespace Go.Proofs.Yteiecbkfganhnaa
open Go.RowKit Go.MuLone

set_option maxRecDepth 100000 in
set_option maxHeartbeats 400000 in
theorem knowsLeader_any (mu : Int) (nb : Nat) (s : Nd) (lv : Value) (w : World) (h : NB mu w nb s lv) :
    Calls Try.prog 65 #[.pointer (some ⟨nb, 0, none⟩)] w fun e w' => e = .returned (.bool s.knows) ∧ ∃ m, w' = w.drewN m := by
  have c8 := h.c8
  have c10 := h.c10
  have c11 := h.c11
  clear h
  by_cases h1 : s.leads = -1
  · have HE : Hid (s.knows = false) := by show _ = _; simp [Nd.knows, h1]
    rw [h1] at c8
    clear h1
    go_enter Try.func65, Try.ntmps65
    go_wp2
    go_quiet (fail)
    go_wp2
    go_ret
    exact ⟨by rw [unhide HE]; rfl, _, rfl⟩
  · have HE : Hid (s.knows = decide (s.elapsed < s.pat)) := by show _ = _; simp [Nd.knows, h1]
    have h2 : (s.leads != -1) = true := by simpa using h1
    clear h1
    go_enter Try.func65, Try.ntmps65
    go_wp2
    go_quiet (fail)
    go_wp2
    go_ret
    exact ⟨by rw [unhide HE]; rfl, _, rfl⟩

set_option maxRecDepth 100000 in
set_option maxHeartbeats 400000 in
theorem mayVoteFor_any (mu : Int) (nb : Nat) (s : Nd) (lv : Value) (i : Int) (w : World) (h : NB mu w nb s lv) :
    Calls Try.prog 67 #[.pointer (some ⟨nb, 0, none⟩), .int .i64 i] w fun e w' => e = .returned (.bool (decide (s.role = 0) && (decide (s.vote = -1) || decide (s.vote = i)))) ∧ w' = w := by
  have c7 := h.c7
  have c5 := h.c5
  clear h
  by_cases h1 : s.role = 0
  · rw [h1] at c7 ⊢
    by_cases h2 : s.vote = -1
    · rw [h2] at c5 ⊢
      clear h1 h2
      go_enter Try.func67, Try.ntmps67
      go_wp2
      go_ret
      exact ⟨rfl, rfl⟩
    · have h3 : (s.vote == -1) = false := by simpa using h2
      have HE : Hid (decide (s.vote = -1) = false) := decide_eq_false h2
      by_cases h4 : s.vote = i
      · rw [h4] at c5 h3
        have HF : Hid (decide (s.vote = i) = true) := decide_eq_true h4
        clear h1 h2 h4
        go_enter Try.func67, Try.ntmps67
        go_wp2
        go_ret
        exact ⟨by rw [unhide HE, unhide HF]; rfl, rfl⟩
      · have h5 : (s.vote == i) = false := by simpa using h4
        have HF : Hid (decide (s.vote = i) = false) := decide_eq_false h4
        clear h1 h2 h4
        go_enter Try.func67, Try.ntmps67
        go_wp2
        go_ret
        exact ⟨by rw [unhide HE, unhide HF]; rfl, rfl⟩
  · have h3 : (s.role == 0) = false := by simpa using h1
    have HE : Hid (decide (s.role = 0) = false) := decide_eq_false h1
    clear h1
    go_enter Try.func67, Try.ntmps67
    go_wp2
    go_ret
    exact ⟨by rw [unhide HE]; rfl, rfl⟩

theorem NB.drewN {mu : Int} {w : World} {nb : Nat} {s : Nd} {lv : Value} (h : NB mu w nb s lv) (m : Nat) : NB mu (w.drewN m) nb s lv := h
theorem below_drewN {B : Nat} {w w' : World} (h : Below B w w') (m : Nat) : Below B w (w'.drewN m) := ⟨h.os, h.tape, h.output, h.size, h.block⟩

/-- A message as it is handed in: its entries' slice beside it. -/
abbrev magg (m : Msg) (ev : Value) : Value := .agg #[.int .i64 m.kind, .int .i64 m.src, .int .i64 m.dst, .int .i64 m.term, .int .i64 m.index, .int .i64 m.logTerm, .int .i64 m.commit, ev, .bool m.granted]

set_option maxRecDepth 100000 in
set_option maxHeartbeats 400000 in
theorem isAsGood_any (mu : Int) (nb : Nat) (s : Nd) (lv : Value) (m : Msg) (ev : Value) (w : World) (h : NB mu w nb s lv) (hl : NL w s lv) (hs : s.last ≤ 60) (hev : ∃ ao n c, ev = .slice ao n c) :
    Calls Try.prog 64 #[.pointer (some ⟨nb, 0, none⟩), magg m ev] w fun e w' => e = .returned (.bool (s.asGood m)) ∧ Below w.heap.size w w' := by
  obtain ⟨eo, en, ec, rfl⟩ := hev
  have HB := hide (below_alloc w (.cells #[.int .i64 m.kind, .int .i64 m.src, .int .i64 m.dst, .int .i64 m.term, .int .i64 m.index, .int .i64 m.logTerm, .int .i64 m.commit, .slice eo en ec, .bool m.granted] 50))
  have H := hide (h.below (unhide HB))
  have HL := hide (hl.below (unhide HB))
  have HF := hide hl.form
  have hlt := h.lt
  have hne : ¬ nb = w.heap.size := by omega
  clear h hl
  obtain ⟨t, HT'⟩ : ∃ t, t = s.termOf s.last := ⟨_, rfl⟩
  have HT : s.termOf s.last = t := HT'.symm
  have HTh := hide HT
  clear HT HT'
  by_cases h1 : t < m.logTerm
  · have HE : Hid (s.asGood m = true) := by show _ = _; simp [Nd.asGood, unhide HTh, h1]
    go_enter Try.func64, Try.ntmps64
    go_wp2_with (first | (go_at_call 33; refine (last_any mu nb s _ _ (unhide H) (unhide HF)).mono ?_; rintro e w1 ⟨rfl, rfl⟩) | (go_at_call 69; refine (termOf_any mu nb s _ s.last _ (unhide H) (unhide HL) (Nat.le_refl _) hs).mono ?_; rw [unhide HTh]; rintro e w1 ⟨rfl, rfl⟩))
    go_quiet (fail)
    go_wp2
    go_ret
    exact ⟨by rw [unhide HE]; rfl, below_drewN (unhide HB) _⟩
  · have hd := decide_eq_false h1
    by_cases h2 : m.logTerm = t
    · have HE : Hid (s.asGood m = decide ((s.last : Int) ≤ m.index)) := by show _ = _; simp [Nd.asGood, unhide HTh, h2]
      have h3 : (m.logTerm == t) = true := by simpa using h2
      clear h2
      go_enter Try.func64, Try.ntmps64
      go_wp2_with (first | (go_at_call 33; refine (last_any mu nb s _ _ (unhide H) (unhide HF)).mono ?_; rintro e w1 ⟨rfl, rfl⟩) | (go_at_call 69; refine (termOf_any mu nb s _ s.last _ (unhide H) (unhide HL) (Nat.le_refl _) hs).mono ?_; rw [unhide HTh]; rintro e w1 ⟨rfl, rfl⟩))
      go_quiet ((go_at_call 33; exact Calls.quiet_of_same (last_any mu nb s _ _ (NB.drewN (unhide H) _) (unhide HF))))
      go_wp2
      go_ret
      exact ⟨by rw [unhide HE]; rfl, below_drewN (unhide HB) _⟩
    · have HE : Hid (s.asGood m = false) := by show _ = _; simp [Nd.asGood, unhide HTh, h1, h2]
      have h3 : (m.logTerm == t) = false := by simpa using h2
      clear h2
      go_enter Try.func64, Try.ntmps64
      go_wp2_with (first | (go_at_call 33; refine (last_any mu nb s _ _ (unhide H) (unhide HF)).mono ?_; rintro e w1 ⟨rfl, rfl⟩) | (go_at_call 69; refine (termOf_any mu nb s _ s.last _ (unhide H) (unhide HL) (Nat.le_refl _) hs).mono ?_; rw [unhide HTh]; rintro e w1 ⟨rfl, rfl⟩))
      go_quiet (fail)
      go_wp2
      go_ret
      exact ⟨by rw [unhide HE]; rfl, below_drewN (unhide HB) _⟩

end Go.Proofs.Yteiecbkfganhnaa
