/- The program's small functions on a node. -/
import Derived.Test.YteiecbkfganhnaaHeld
namespace Go.Proofs.Yteiecbkfganhnaa
open Go.RowKit Go.MuLone

abbrev bagg (g : Nat → Bool) : Value := .agg #[.bool (g 0), .bool (g 1), .bool (g 2), .bool (g 3), .bool (g 4), .bool (g 5), .bool (g 6)]

theorem below2 (w : World) (o p : Obj) : Below w.heap.size w ((w.alloc o).alloc p) := below_trans (below_alloc w o) (below_alloc _ p)

theorem hide_eq {α : Type} {a b : α} (h : Hid (a = b)) : a = b := h

set_option maxRecDepth 100000 in
set_option maxHeartbeats 400000 in
theorem with_0 (g : Nat → Bool) (w : World) :
    Calls Try.prog 56 #[bagg g, .int .i64 0] w fun e w' => e = .returned (.agg #[.bool true, .bool (g 1), .bool (g 2), .bool (g 3), .bool (g 4), .bool (g 5), .bool (g 6)]) ∧ Below w.heap.size w w' := by
  go_enter Try.func56, Try.ntmps56
  go_wp2
  refine bodyPost_ret (v := .agg #[.bool true, .bool (g 1), .bool (g 2), .bool (g 3), .bool (g 4), .bool (g 5), .bool (g 6)]) (by simp [results, Try.results56, go_sem]) rfl ⟨rfl, below2 w _ _⟩

set_option maxRecDepth 100000 in
set_option maxHeartbeats 400000 in
theorem with_1 (g : Nat → Bool) (w : World) :
    Calls Try.prog 56 #[bagg g, .int .i64 1] w fun e w' => e = .returned (.agg #[.bool (g 0), .bool true, .bool (g 2), .bool (g 3), .bool (g 4), .bool (g 5), .bool (g 6)]) ∧ Below w.heap.size w w' := by
  go_enter Try.func56, Try.ntmps56
  go_wp2
  refine bodyPost_ret (v := .agg #[.bool (g 0), .bool true, .bool (g 2), .bool (g 3), .bool (g 4), .bool (g 5), .bool (g 6)]) (by simp [results, Try.results56, go_sem]) rfl ⟨rfl, below2 w _ _⟩

set_option maxRecDepth 100000 in
set_option maxHeartbeats 400000 in
theorem with_2 (g : Nat → Bool) (w : World) :
    Calls Try.prog 56 #[bagg g, .int .i64 2] w fun e w' => e = .returned (.agg #[.bool (g 0), .bool (g 1), .bool true, .bool (g 3), .bool (g 4), .bool (g 5), .bool (g 6)]) ∧ Below w.heap.size w w' := by
  go_enter Try.func56, Try.ntmps56
  go_wp2
  refine bodyPost_ret (v := .agg #[.bool (g 0), .bool (g 1), .bool true, .bool (g 3), .bool (g 4), .bool (g 5), .bool (g 6)]) (by simp [results, Try.results56, go_sem]) rfl ⟨rfl, below2 w _ _⟩

set_option maxRecDepth 100000 in
set_option maxHeartbeats 400000 in
theorem with_3 (g : Nat → Bool) (w : World) :
    Calls Try.prog 56 #[bagg g, .int .i64 3] w fun e w' => e = .returned (.agg #[.bool (g 0), .bool (g 1), .bool (g 2), .bool true, .bool (g 4), .bool (g 5), .bool (g 6)]) ∧ Below w.heap.size w w' := by
  go_enter Try.func56, Try.ntmps56
  go_wp2
  refine bodyPost_ret (v := .agg #[.bool (g 0), .bool (g 1), .bool (g 2), .bool true, .bool (g 4), .bool (g 5), .bool (g 6)]) (by simp [results, Try.results56, go_sem]) rfl ⟨rfl, below2 w _ _⟩

set_option maxRecDepth 100000 in
set_option maxHeartbeats 400000 in
theorem with_4 (g : Nat → Bool) (w : World) :
    Calls Try.prog 56 #[bagg g, .int .i64 4] w fun e w' => e = .returned (.agg #[.bool (g 0), .bool (g 1), .bool (g 2), .bool (g 3), .bool true, .bool (g 5), .bool (g 6)]) ∧ Below w.heap.size w w' := by
  go_enter Try.func56, Try.ntmps56
  go_wp2
  refine bodyPost_ret (v := .agg #[.bool (g 0), .bool (g 1), .bool (g 2), .bool (g 3), .bool true, .bool (g 5), .bool (g 6)]) (by simp [results, Try.results56, go_sem]) rfl ⟨rfl, below2 w _ _⟩

set_option maxRecDepth 100000 in
set_option maxHeartbeats 400000 in
theorem with_5 (g : Nat → Bool) (w : World) :
    Calls Try.prog 56 #[bagg g, .int .i64 5] w fun e w' => e = .returned (.agg #[.bool (g 0), .bool (g 1), .bool (g 2), .bool (g 3), .bool (g 4), .bool true, .bool (g 6)]) ∧ Below w.heap.size w w' := by
  go_enter Try.func56, Try.ntmps56
  go_wp2
  refine bodyPost_ret (v := .agg #[.bool (g 0), .bool (g 1), .bool (g 2), .bool (g 3), .bool (g 4), .bool true, .bool (g 6)]) (by simp [results, Try.results56, go_sem]) rfl ⟨rfl, below2 w _ _⟩

set_option maxRecDepth 100000 in
set_option maxHeartbeats 400000 in
theorem with_6 (g : Nat → Bool) (w : World) :
    Calls Try.prog 56 #[bagg g, .int .i64 6] w fun e w' => e = .returned (.agg #[.bool (g 0), .bool (g 1), .bool (g 2), .bool (g 3), .bool (g 4), .bool (g 5), .bool true]) ∧ Below w.heap.size w w' := by
  go_enter Try.func56, Try.ntmps56
  go_wp2
  refine bodyPost_ret (v := .agg #[.bool (g 0), .bool (g 1), .bool (g 2), .bool (g 3), .bool (g 4), .bool (g 5), .bool true]) (by simp [results, Try.results56, go_sem]) rfl ⟨rfl, below2 w _ _⟩

theorem with_any (g : Nat → Bool) (i : Nat) (w : World) (hi : i < 7) :
    Calls Try.prog 56 #[bagg g, .int .i64 (i : Int)] w fun e w' => e = .returned (bagg (upd g i true)) ∧ Below w.heap.size w w' := by
  rcases i with _ | _ | _ | _ | _ | _ | _ | i
  · exact with_0 g w
  · exact with_1 g w
  · exact with_2 g w
  · exact with_3 g w
  · exact with_4 g w
  · exact with_5 g w
  · exact with_6 g w
  · omega

theorem ixSet0 (x0 x1 x2 x3 x4 x5 x6 : Value) (w : World) : (Instr.index 73 (.agg #[x0, x1, x2, x3, x4, x5, x6]) (.int .i64 0)).run Try.prog w = .ok x0 w := by kernel_rfl
theorem ixSet1 (x0 x1 x2 x3 x4 x5 x6 : Value) (w : World) : (Instr.index 73 (.agg #[x0, x1, x2, x3, x4, x5, x6]) (.int .i64 1)).run Try.prog w = .ok x1 w := by kernel_rfl
theorem ixSet2 (x0 x1 x2 x3 x4 x5 x6 : Value) (w : World) : (Instr.index 73 (.agg #[x0, x1, x2, x3, x4, x5, x6]) (.int .i64 2)).run Try.prog w = .ok x2 w := by kernel_rfl
theorem ixSet3 (x0 x1 x2 x3 x4 x5 x6 : Value) (w : World) : (Instr.index 73 (.agg #[x0, x1, x2, x3, x4, x5, x6]) (.int .i64 3)).run Try.prog w = .ok x3 w := by kernel_rfl
theorem ixSet4 (x0 x1 x2 x3 x4 x5 x6 : Value) (w : World) : (Instr.index 73 (.agg #[x0, x1, x2, x3, x4, x5, x6]) (.int .i64 4)).run Try.prog w = .ok x4 w := by kernel_rfl
theorem ixSet5 (x0 x1 x2 x3 x4 x5 x6 : Value) (w : World) : (Instr.index 73 (.agg #[x0, x1, x2, x3, x4, x5, x6]) (.int .i64 5)).run Try.prog w = .ok x5 w := by kernel_rfl
theorem ixSet6 (x0 x1 x2 x3 x4 x5 x6 : Value) (w : World) : (Instr.index 73 (.agg #[x0, x1, x2, x3, x4, x5, x6]) (.int .i64 6)).run Try.prog w = .ok x6 w := by kernel_rfl

theorem cntTo_yes {g : Nat → Bool} {k : Nat} (h : g k = true) : cntTo g (k + 1) = cntTo g k + 1 := by simp [cntTo, b1, h]
theorem cntTo_no {g : Nat → Bool} {k : Nat} (h : g k = false) : cntTo g (k + 1) = cntTo g k := by simp [cntTo, b1, h]

set_option maxRecDepth 100000 in
set_option maxHeartbeats 400000 in
theorem size_any (g : Nat → Bool) (w : World) :
    Calls Try.prog 57 #[bagg g] w fun e w' => e = .returned (.int .i64 (cnt g : Int)) ∧ Below w.heap.size w w' := by
  have HB := hide (below_alloc w (.cells #[.bool (g 0), .bool (g 1), .bool (g 2), .bool (g 3), .bool (g 4), .bool (g 5), .bool (g 6)] 73))
  go_enter Try.func57, Try.ntmps57
  go_wp2
  go_loop [3, 7] (fun n i => ∃ k : Nat, k ≤ 7 ∧ i = .int .i64 k ∧ n = .int .i64 (cntTo g k : Int)) (fun _ i => 7 - (intOf i).toNat)
  case atStart => exact ⟨0, Nat.zero_le _, rfl, rfl⟩
  case round =>
    obtain ⟨k, hk, rfl, rfl⟩ := hrel
    have hc := cntTo_le g k
    by_cases hlt : k < 7
    · rcases k with _ | _ | _ | _ | _ | _ | _ | k
      · have hix := ixSet0
        by_cases hg : g 0 = true
        · have HG := hide (cntTo_yes hg)
          generalize cntTo g 0 = c at *
          go_wp2
          go_round
          case rel => ((repeat apply Exists.intro); refine ⟨⟨1, by omega, rfl, ?_⟩, rfl, rfl, rfl⟩; rw [unhide HG]; go_num)
          case measure => simp [intOf]
        · have hg' : g 0 = false := by simpa using hg
          have HG := hide (cntTo_no hg')
          clear hg
          generalize cntTo g 0 = c at *
          go_wp2
          go_round
          case rel => ((repeat apply Exists.intro); refine ⟨⟨1, by omega, rfl, ?_⟩, rfl, rfl, rfl⟩; rw [unhide HG])
          case measure => simp [intOf]
      · have hix := ixSet1
        by_cases hg : g 1 = true
        · have HG := hide (cntTo_yes hg)
          generalize cntTo g 1 = c at *
          go_wp2
          go_round
          case rel => ((repeat apply Exists.intro); refine ⟨⟨2, by omega, rfl, ?_⟩, rfl, rfl, rfl⟩; rw [unhide HG]; go_num)
          case measure => simp [intOf]
        · have hg' : g 1 = false := by simpa using hg
          have HG := hide (cntTo_no hg')
          clear hg
          generalize cntTo g 1 = c at *
          go_wp2
          go_round
          case rel => ((repeat apply Exists.intro); refine ⟨⟨2, by omega, rfl, ?_⟩, rfl, rfl, rfl⟩; rw [unhide HG])
          case measure => simp [intOf]
      · have hix := ixSet2
        by_cases hg : g 2 = true
        · have HG := hide (cntTo_yes hg)
          generalize cntTo g 2 = c at *
          go_wp2
          go_round
          case rel => ((repeat apply Exists.intro); refine ⟨⟨3, by omega, rfl, ?_⟩, rfl, rfl, rfl⟩; rw [unhide HG]; go_num)
          case measure => simp [intOf]
        · have hg' : g 2 = false := by simpa using hg
          have HG := hide (cntTo_no hg')
          clear hg
          generalize cntTo g 2 = c at *
          go_wp2
          go_round
          case rel => ((repeat apply Exists.intro); refine ⟨⟨3, by omega, rfl, ?_⟩, rfl, rfl, rfl⟩; rw [unhide HG])
          case measure => simp [intOf]
      · have hix := ixSet3
        by_cases hg : g 3 = true
        · have HG := hide (cntTo_yes hg)
          generalize cntTo g 3 = c at *
          go_wp2
          go_round
          case rel => ((repeat apply Exists.intro); refine ⟨⟨4, by omega, rfl, ?_⟩, rfl, rfl, rfl⟩; rw [unhide HG]; go_num)
          case measure => simp [intOf]
        · have hg' : g 3 = false := by simpa using hg
          have HG := hide (cntTo_no hg')
          clear hg
          generalize cntTo g 3 = c at *
          go_wp2
          go_round
          case rel => ((repeat apply Exists.intro); refine ⟨⟨4, by omega, rfl, ?_⟩, rfl, rfl, rfl⟩; rw [unhide HG])
          case measure => simp [intOf]
      · have hix := ixSet4
        by_cases hg : g 4 = true
        · have HG := hide (cntTo_yes hg)
          generalize cntTo g 4 = c at *
          go_wp2
          go_round
          case rel => ((repeat apply Exists.intro); refine ⟨⟨5, by omega, rfl, ?_⟩, rfl, rfl, rfl⟩; rw [unhide HG]; go_num)
          case measure => simp [intOf]
        · have hg' : g 4 = false := by simpa using hg
          have HG := hide (cntTo_no hg')
          clear hg
          generalize cntTo g 4 = c at *
          go_wp2
          go_round
          case rel => ((repeat apply Exists.intro); refine ⟨⟨5, by omega, rfl, ?_⟩, rfl, rfl, rfl⟩; rw [unhide HG])
          case measure => simp [intOf]
      · have hix := ixSet5
        by_cases hg : g 5 = true
        · have HG := hide (cntTo_yes hg)
          generalize cntTo g 5 = c at *
          go_wp2
          go_round
          case rel => ((repeat apply Exists.intro); refine ⟨⟨6, by omega, rfl, ?_⟩, rfl, rfl, rfl⟩; rw [unhide HG]; go_num)
          case measure => simp [intOf]
        · have hg' : g 5 = false := by simpa using hg
          have HG := hide (cntTo_no hg')
          clear hg
          generalize cntTo g 5 = c at *
          go_wp2
          go_round
          case rel => ((repeat apply Exists.intro); refine ⟨⟨6, by omega, rfl, ?_⟩, rfl, rfl, rfl⟩; rw [unhide HG])
          case measure => simp [intOf]
      · have hix := ixSet6
        by_cases hg : g 6 = true
        · have HG := hide (cntTo_yes hg)
          generalize cntTo g 6 = c at *
          go_wp2
          go_round
          case rel => ((repeat apply Exists.intro); refine ⟨⟨7, by omega, rfl, ?_⟩, rfl, rfl, rfl⟩; rw [unhide HG]; go_num)
          case measure => simp [intOf]
        · have hg' : g 6 = false := by simpa using hg
          have HG := hide (cntTo_no hg')
          clear hg
          generalize cntTo g 6 = c at *
          go_wp2
          go_round
          case rel => ((repeat apply Exists.intro); refine ⟨⟨7, by omega, rfl, ?_⟩, rfl, rfl, rfl⟩; rw [unhide HG])
          case measure => simp [intOf]
      · omega
    · have hk7 : k = 7 := by omega
      subst hk7
      go_wp2
      go_ret
      exact ⟨rfl, unhide HB⟩

theorem maj_eq (s : Nd) (c : Nat) : decide ((s.n : Int) / 2 < (c : Int)) = s.maj c := by
  unfold Nd.maj
  exact decide_eq_decide.2 (by omega)

set_option maxRecDepth 100000 in
set_option maxHeartbeats 400000 in
theorem isMajority_any (mu : Int) (nb : Nat) (s : Nd) (lv : Value) (c : Nat) (w : World) (h : NB mu w nb s lv) (hn : s.n ≤ 7) :
    Calls Try.prog 55 #[.pointer (some ⟨nb, 0, none⟩), .int .i64 (c : Int)] w fun e w' => e = .returned (.bool (s.maj c)) ∧ w' = w := by
  have c3 := h.c3
  go_enter Try.func55, Try.ntmps55
  go_wp2
  go_ret
  exact ⟨by rw [maj_eq]; rfl, rfl⟩

set_option maxRecDepth 100000 in
set_option maxHeartbeats 400000 in
theorem follow_any (mu : Int) (nb : Nat) (s : Nd) (lv : Value) (t l : Int) (w : World) (h : NB mu w nb s lv) :
    Calls Try.prog 58 #[.pointer (some ⟨nb, 0, none⟩), .int .i64 t, .int .i64 l] w fun e w' => e = .returned (.tuple #[]) ∧ NB mu w' nb (s.follow t l) lv ∧ Ew nb w w' := by
  have c4 := h.c4
  have c5 := h.c5
  have c7 := h.c7
  have c8 := h.c8
  have f4 := h.free 4
  have f5 := h.free 5
  have f7 := h.free 7
  have f8 := h.free 8
  have H := hide h
  clear h
  by_cases hlt : s.term < t
  · have HE : Hid (s.follow t l = { s with role := 0, leads := l, term := t, vote := -1 }) := if_pos hlt
    go_enter Try.func58, Try.ntmps58
    go_wp2
    go_end0
    rw [unhide HE]
    exact ⟨rfl, ((((unhide H).setRole 0).setLeads l).setTerm t).setVote (-1), ((((Ew.refl nb w).set 7 _).set 8 _).set 4 _).set 5 _⟩
  · have HE : Hid (s.follow t l = { s with role := 0, leads := l }) := if_neg hlt
    go_enter Try.func58, Try.ntmps58
    go_wp2
    go_end0
    rw [unhide HE]
    exact ⟨rfl, ((unhide H).setRole 0).setLeads l, ((Ew.refl nb w).set 7 _).set 8 _⟩

/-- The node's log lies in a block of its own. -/
def NL (w : World) (s : Nd) (lv : Value) : Prop := w.ownsRow 0 78 2 lv s.log.length (eC s.log)

theorem NL.form {w : World} {s : Nd} {lv : Value} (h : NL w s lv) : ∃ ao cap, lv = .slice ao s.log.length cap := owns_form h
theorem NL.below {w w' : World} {s : Nd} {lv : Value} (h : NL w s lv) (hb : Below w.heap.size w w') : NL w' s lv := owns_below h hb
theorem NL.ents {w : World} {s : Nd} {lv : Value} (h : NL w s lv) : EntsIn w lv s.log := ents_of_owns h
/-- The node does not lie in its log's block. -/
theorem NL.apart {mu : Int} {w : World} {nb : Nat} {s t : Nd} {lv lu : Value} (h : NL w s lv) (hN : NB mu w nb t lu) : lv.ownBlock ≠ some nb := by
  intro hx
  rcases h.2 with ⟨rfl, _⟩ | ⟨g, cap, cur, rfl, _, hg, _⟩
  · simp [Value.ownBlock] at hx
  · simp [Value.ownBlock] at hx
    subst hx
    unfold NB at hN
    rw [hg] at hN
    simp at hN
theorem NL.ew {mu : Int} {w w' : World} {nb : Nat} {s t : Nd} {lv lu : Value} (h : NL w s lv) (hN : NB mu w nb t lu) (he : Ew nb w w') : NL w' s lv :=
  owns_kept h fun x hx => he.block x (owns_lt h x hx) (fun e => h.apart hN (e ▸ hx))

set_option maxRecDepth 100000 in
set_option maxHeartbeats 400000 in
theorem last_any (mu : Int) (nb : Nat) (s : Nd) (lv : Value) (w : World) (h : NB mu w nb s lv) (hl : ∃ ao cap, lv = .slice ao s.log.length cap) :
    Calls Try.prog 33 #[.pointer (some ⟨nb, 0, none⟩)] w fun e w' => e = .returned (.int .i64 (s.last : Int)) ∧ w' = w := by
  have c6 := h.c6
  obtain ⟨ao, cap, rfl⟩ := hl
  clear h
  go_enter Try.func33, Try.ntmps33
  go_wp2
  go_ret
  exact ⟨rfl, rfl⟩

set_option maxRecDepth 100000 in
set_option maxHeartbeats 400000 in
theorem termOf_any (mu : Int) (nb : Nat) (s : Nd) (lv : Value) (k : Nat) (w : World) (h : NB mu w nb s lv) (hl : NL w s lv) (hk : k ≤ s.last) (hs : s.last ≤ 60) :
    Calls Try.prog 69 #[.pointer (some ⟨nb, 0, none⟩), .int .i64 (k : Int)] w fun e w' => e = .returned (.int .i64 (s.termOf k)) ∧ w' = w := by
  have c6 := h.c6
  clear h
  rcases k with _ | k
  · go_enter Try.func69, Try.ntmps69
    go_wp2
    go_ret
    exact ⟨rfl, rfl⟩
  · have hlt : k < s.log.length := hk
    obtain ⟨ao, cap, rfl, _, ha⟩ := hl.ents
    obtain ⟨b, off, rfl, a0, a1⟩ := ha k _ (show s.log[k]? = some s.log[k] by simp [hlt])
    have HT : Hid (s.termOf (k + 1) = s.log[k].1) := termAt_get hlt
    have hs' : s.log.length ≤ 60 := hs
    clear hl ha a1 hk hs
    have hne : ((k : Int) + 1 == 0) = false := by simp; omega
    have i0 : (0 : Int) ≤ (k : Int) := by omega
    have i2 : (k : Int) < (s.log.length : Int) := by omega
    generalize s.log[k].1 = t at *
    rw [show ((k + 1 : Nat) : Int) = (k : Int) + 1 by omega]
    go_enter Try.func69, Try.ntmps69
    go_wp2
    go_ret
    exact ⟨by rw [unhide HT]; rfl, rfl⟩

end Go.Proofs.Yteiecbkfganhnaa
