/- The program's node: its calls under the lock. -/
import Derived.Test.YtnofhpnpllnmgaaNode
import Derived.Defers
import Derived.RegionTactic
import Derived.BigRegion
namespace Go.Proofs.Ytnofhpnpllnmgaa
open Go.RowKit Go.MuLone

theorem NodeBlk.lt {w : World} {nb : Nat} {c : CN} (h : NodeBlk w nb c) : nb < w.heap.size := (Array.getElem?_eq_some_iff.1 h).1
theorem NodeBlk.free {w : World} {nb : Nat} {c : CN} (h : NodeBlk w nb c) (o : Nat) : w.frozen? ⟨nb, o, none⟩ = false := frozen_of_row w nb o _ _ h
theorem NodeBlk.c0 {w : World} {nb : Nat} {c : CN} (h : NodeBlk w nb c) : w.cell? ⟨nb, 0, none⟩ = some (.int .i32 0) := by rw [cell_of_row w nb _ _ _ _ h]; rfl
theorem NodeBlk.c4 {w : World} {nb : Nat} {c : CN} (h : NodeBlk w nb c) : w.cell? ⟨nb, 4, none⟩ = some (.int .i64 c.term) := by rw [cell_of_row w nb _ _ _ _ h]; rfl
theorem NodeBlk.c5 {w : World} {nb : Nat} {c : CN} (h : NodeBlk w nb c) : w.cell? ⟨nb, 5, none⟩ = some (.int .i64 c.vote) := by rw [cell_of_row w nb _ _ _ _ h]; rfl
theorem NodeBlk.c6 {w : World} {nb : Nat} {c : CN} (h : NodeBlk w nb c) : w.cell? ⟨nb, 6, none⟩ = some c.log := by rw [cell_of_row w nb _ _ _ _ h]; rfl
theorem NodeBlk.c7 {w : World} {nb : Nat} {c : CN} (h : NodeBlk w nb c) : w.cell? ⟨nb, 7, none⟩ = some (.int .i64 c.role) := by rw [cell_of_row w nb _ _ _ _ h]; rfl
theorem NodeBlk.c8 {w : World} {nb : Nat} {c : CN} (h : NodeBlk w nb c) : w.cell? ⟨nb, 8, none⟩ = some (.int .i64 c.leads) := by rw [cell_of_row w nb _ _ _ _ h]; rfl
theorem NodeBlk.c9 {w : World} {nb : Nat} {c : CN} (h : NodeBlk w nb c) : w.cell? ⟨nb, 9, none⟩ = some (.int .i64 c.commit) := by rw [cell_of_row w nb _ _ _ _ h]; rfl
theorem NodeBlk.c10 {w : World} {nb : Nat} {c : CN} (h : NodeBlk w nb c) : w.cell? ⟨nb, 10, none⟩ = some (.int .i64 c.pat) := by rw [cell_of_row w nb _ _ _ _ h]; rfl

/-- The node's block while the lock is held. -/
def HeldBlk (w : World) (nb : Nat) (c : CN) : Prop :=
  w.heap[nb]? = some (.cells #[.int .i32 1, .int .u32 0, .int .i64 c.id, .int .i64 c.n, .int .i64 c.term, .int .i64 c.vote, c.log, .int .i64 c.role, .int .i64 c.leads, .int .i64 c.commit, .int .i64 c.pat] 84 (0, 0))

theorem NodeBlk.held {w : World} {nb : Nat} {c : CN} (h : NodeBlk w nb c) : HeldBlk (w.setCell ⟨nb, 0, none⟩ (.int .i32 1)) nb c := heap_setCell_same w nb 0 _ _ _ h
theorem HeldBlk.let {w : World} {nb : Nat} {c : CN} (h : HeldBlk w nb c) : NodeBlk (w.setCell ⟨nb, 0, none⟩ (.int .i32 0)) nb c := heap_setCell_same w nb 0 _ _ _ h
theorem HeldBlk.c0 {w : World} {nb : Nat} {c : CN} (h : HeldBlk w nb c) : w.cell? ⟨nb, 0, none⟩ = some (.int .i32 1) := by rw [cell_of_row w nb _ _ _ _ h]; rfl
theorem HeldBlk.free {w : World} {nb : Nat} {c : CN} (h : HeldBlk w nb c) (o : Nat) : w.frozen? ⟨nb, o, none⟩ = false := frozen_of_row w nb o _ _ h
theorem HeldBlk.pat {w : World} {nb : Nat} {c : CN} (h : HeldBlk w nb c) (t : Int) : HeldBlk (w.setCell ⟨nb, 10, none⟩ (.int .i64 t)) nb { c with pat := t } := heap_setCell_same w nb 10 _ _ _ h

set_option maxRecDepth 100000 in
set_option maxHeartbeats 1000000 in
theorem patience_no (nb : Nat) (t : Int) (w : World) (h1 : t < 1 ∨ 40 < t) :
    Calls Try.prog 29 #[.pointer (some ⟨nb, 0, none⟩), .int .i64 t] w fun e w' => e = .returned (.int .i64 6) ∧ w' = w := by
  by_cases h : t < 1
  · clear h1
    go_enter_defers Try.func29, Try.ntmps29
    go_wp2
    exact ⟨_, results_tmp rfl _ _ _, rfl, rfl⟩
  · have h2 : 40 < t := by omega
    clear h1
    go_enter_defers Try.func29, Try.ntmps29
    go_wp2
    exact ⟨_, results_tmp rfl _ _ _, rfl, rfl⟩

set_option maxRecDepth 100000 in
set_option maxHeartbeats 1000000 in
theorem patience_ok (nb : Nat) (c : CN) (t : Int) (w : World) (h : NodeBlk w nb c) (h1 : 1 ≤ t) (h2 : t ≤ 40) :
    Calls Try.prog 29 #[.pointer (some ⟨nb, 0, none⟩), .int .i64 t] w fun e w' => e = .returned (.int .i64 0) ∧ w' = ((w.setCell ⟨nb, 0, none⟩ (.int .i32 1)).setCell ⟨nb, 10, none⟩ (.int .i64 t)).setCell ⟨nb, 0, none⟩ (.int .i32 0) := by
  have c0 := h.c0
  have f0 := h.free 0
  have c10 := h.c10
  have f10 := h.free 10
  have HH := hide h.held
  clear h
  go_enter_defers Try.func29, Try.ntmps29
  go_wp2_with (go_at_call 58; refine (lock_free muLib ⟨nb, 0, none⟩ _ c0 f0).mono ?_; rintro e w' ⟨rfl, rfl⟩)
  refine leaves_cons (f := 59) (args := #[.pointer (some ⟨nb, 0, none⟩)]) (by simp) (by simp [go_sem]) ?_
  refine (unlock_deferred muLib ⟨nb, 0, none⟩ .returning _ ((unhide HH).pat t).c0 (((unhide HH).pat t).free 0)).mono ?_
  rintro e u' w'' ⟨rfl, rfl, rfl⟩
  exact ⟨_, results_tmp rfl _ _ _, rfl, rfl⟩

/-- Behind a call that only reads under the lock all is as it was. -/
theorem lock_below {w w1 : World} {nb : Nat} {c : CN} (h : NodeBlk w nb c) (hb : Below w.heap.size (w.setCell ⟨nb, 0, none⟩ (.int .i32 1)) w1) :
    HeldBlk w1 nb c ∧ Below w.heap.size w (w1.setCell ⟨nb, 0, none⟩ (.int .i32 0)) := by
  have h1 : HeldBlk w1 nb c := (hb.block nb h.lt).trans h.held
  refine ⟨h1, hb.os, hb.tape, hb.output, ?_, fun k hk => ?_⟩
  · have := hb.size
    simpa [World.setCell] using this
  · by_cases hkn : k = nb
    · subst hkn
      exact h1.let.trans h.symm
    · rw [Below.heap_setCell _ _ _ _ (by simpa using hkn), hb.block k hk, Below.heap_setCell _ _ _ _ (by simpa using hkn)]

set_option maxRecDepth 100000 in
set_option maxHeartbeats 1000000 in
theorem committed_0 (nb : Nat) (c : CN) (vo : Option Addr) (n vc : Nat) (w : World) (h : NodeBlk w nb c) (h1 : c.commit = 0) (hl : c.log = .slice vo n vc) :
    Calls Try.prog 54 #[.pointer (some ⟨nb, 0, none⟩)] w fun e w' => e = .returned (.slice none 0 0) ∧ Below w.heap.size w w' := by
  have c0 := h.c0
  have f0 := h.free 0
  have c6 := h.c6
  rw [hl] at c6
  have c9 := h.c9
  rw [h1] at c9
  have H := hide h
  clear h h1 hl
  go_enter_defers Try.func54, Try.ntmps54
  go_wp2_with (go_at_call 58; refine (lock_free muLib ⟨nb, 0, none⟩ _ c0 f0).mono ?_; rintro e w' ⟨rfl, rfl⟩)
  go_quiet (fail)
  go_wp2
  refine wp_loop_rounds 1 ?_
  rw [rounds_succ]
  go_wp2
  have hlk := lock_below (w1 := (w.setCell ⟨nb, 0, none⟩ (.int .i32 1)).drewN nq) (unhide H) ⟨rfl, rfl, rfl, Nat.le_refl _, fun _ _ => rfl⟩
  refine leaves_cons (f := 59) (args := #[.pointer (some ⟨nb, 0, none⟩)]) (by simp) (by simp [go_sem]) ?_
  refine (unlock_deferred muLib ⟨nb, 0, none⟩ .returning _ hlk.1.c0 (hlk.1.free 0)).mono ?_
  rintro e u' w'' ⟨rfl, rfl, rfl⟩
  exact ⟨_, results_tmp rfl _ _ _, rfl, hlk.2⟩

theorem cell_ne {b nb : Nat} (h : b ≠ nb) (w : World) (o o' : Nat) (v : Value) : (w.setCell ⟨b, o, none⟩ v).cell? ⟨nb, o', none⟩ = w.cell? ⟨nb, o', none⟩ :=
  World.cell?_setCell_other _ _ _ _ (fun he => h (by simpa using congrArg Addr.block he))

theorem ents_lock {w : World} {v : Value} {es : List Ent} {nb : Nat} (h : EntsIn w v es) (hc : w.cell? ⟨nb, 0, none⟩ = some (.int .i32 0)) (u : Value) : EntsIn (w.setCell ⟨nb, 0, none⟩ u) v es := by
  obtain ⟨ao, cap, hv, h0, he⟩ := h
  refine ⟨ao, cap, hv, h0, fun k e hk => ?_⟩
  obtain ⟨b, off, ha, h1, h2⟩ := he k e hk
  refine ⟨b, off, ha, ?_, ?_⟩
  · rw [World.cell?_setCell_other _ _ _ _ (fun heq => ?_)]
    · exact h1
    · rw [← heq, hc] at h1; simp at h1
  · rw [World.cell?_setCell_other _ _ _ _ (fun heq => ?_)]
    · exact h2
    · rw [← heq, hc] at h2; simp at h2

set_option maxRecDepth 100000 in
set_option maxHeartbeats 1000000 in
theorem saved_any (nb : Nat) (c : CN) (es : List Ent) (w : World) (h : NodeBlk w nb c) (hl : EntsIn w c.log es) (hn : es.length ≤ 60) (hs : ∀ e ∈ es, e.2.size ≤ 20) :
    Calls Try.prog 45 #[.pointer (some ⟨nb, 0, none⟩)] w fun e w' => ∃ v, e = .returned (.agg #[.int .i64 c.term, .int .i64 c.vote, v]) ∧ w'.ownsRow w.heap.size 73 2 v es.length (eC es) ∧ Below w.heap.size w w' := by
  have c0 := h.c0
  have f0 := h.free 0
  have c4 := h.c4
  have c5 := h.c5
  have c6 := h.c6
  have hlt := h.lt
  have H := hide h
  have HL := hide hl
  have HSZ := hide hs
  clear h hl hs
  have HA : Hid (NodeBlk (w.alloc (Obj.cells #[.int .i64 0, .int .i64 0, .slice none 0 0] 24)) nb c) := heap_under (unhide H) _
  have hne : ¬ nb = w.heap.size := by omega
  go_enter_defers Try.func45, Try.ntmps45
  go_wp2_with (go_at_call 58; go_must (refine (lock_free muLib ⟨nb, 0, none⟩ _ (unhide HA).c0 ((unhide HA).free 0)).mono ?_); rintro e w' ⟨rfl, rfl⟩)
  have hHW : HeldBlk ((w.setCell ⟨nb, 0, none⟩ (.int .i32 1)).alloc (Obj.cells #[.int .i64 0, .int .i64 0, .slice none 0 0] 24)) nb c := heap_under (unhide H).held _
  have hsz : (w.setCell ⟨nb, 0, none⟩ (.int .i32 1)).heap.size = w.heap.size := by simp [World.setCell]
  have hbW : Below w.heap.size (w.setCell ⟨nb, 0, none⟩ (.int .i32 1)) ((w.setCell ⟨nb, 0, none⟩ (.int .i32 1)).alloc (Obj.cells #[.int .i64 0, .int .i64 0, .slice none 0 0] 24)) := by rw [← hsz]; exact below_alloc _ _
  have hwb := heap_alloc_new (w.setCell ⟨nb, 0, none⟩ (.int .i32 1)) (Obj.cells #[.int .i64 0, .int .i64 0, .slice none 0 0] 24)
  rw [hsz] at hwb
  have hEW : EntsIn ((w.setCell ⟨nb, 0, none⟩ (.int .i32 1)).alloc (Obj.cells #[.int .i64 0, .int .i64 0, .slice none 0 0] 24)) c.log es := ents_below (ents_lock (unhide HL) c0 _) (below_alloc _ _)
  generalize (w.setCell ⟨nb, 0, none⟩ (.int .i32 1)).alloc (Obj.cells #[.int .i64 0, .int .i64 0, .slice none 0 0] 24) = W at *
  have d0 : W.cell? ⟨w.heap.size, 0, none⟩ = some (.int .i64 0) := cell_of_row W w.heap.size 0 _ _ _ hwb
  have d1 : W.cell? ⟨w.heap.size, 1, none⟩ = some (.int .i64 0) := cell_of_row W w.heap.size 1 _ _ _ hwb
  have d2 : W.cell? ⟨w.heap.size, 2, none⟩ = some (.slice none 0 0) := cell_of_row W w.heap.size 2 _ _ _ hwb
  have e4 : W.cell? ⟨nb, 4, none⟩ = some (.int .i64 c.term) := cell_of_row W nb 4 _ _ _ hHW
  have e5 : W.cell? ⟨nb, 5, none⟩ = some (.int .i64 c.vote) := cell_of_row W nb 5 _ _ _ hHW
  have e6 : W.cell? ⟨nb, 6, none⟩ = some c.log := cell_of_row W nb 6 _ _ _ hHW
  have hlW : w.heap.size < W.heap.size := (Array.getElem?_eq_some_iff.1 hwb).1
  have HBW := hide hbW
  have HWB := hide hwb
  have HEW := hide hEW
  have HLW := hide hlW
  have hne2 : w.heap.size ≠ nb := fun h => hne h.symm
  clear c0 f0 c4 c5 c6 HA HL hHW hsz hbW hwb hEW hlW
  go_region_held3 (fun w' => w'.cell? ⟨nb, 4, none⟩ = some (.int .i64 c.term) ∧ w'.cell? ⟨nb, 5, none⟩ = some (.int .i64 c.vote) ∧ w'.cell? ⟨nb, 6, none⟩ = some c.log) (first | go_keep | (simp only [cell_ne hne2]; exact ⟨z4, z5, z6⟩)) (first | (go_at_call 26; refine (copyEntries_any _ es W.drew hn (unhide HSZ) (by exact unhide HEW)).mono ?_; rintro e w3 ⟨v', rfl, hr3, hb3⟩; obtain ⟨vo, vc, rfl⟩ := owns_form hr3; have z4 : w3.cell? ⟨nb, 4, none⟩ = _ := (hb3.cell (p := ⟨nb, 4, none⟩) (block_lt_of_cell e4)).trans e4; have z5 : w3.cell? ⟨nb, 5, none⟩ = _ := (hb3.cell (p := ⟨nb, 5, none⟩) (block_lt_of_cell e5)).trans e5; have z6 : w3.cell? ⟨nb, 6, none⟩ = _ := (hb3.cell (p := ⟨nb, 6, none⟩) (block_lt_of_cell e6)).trans e6; have y0 : w3.cell? ⟨w.heap.size, 0, none⟩ = _ := (hb3.cell (p := ⟨w.heap.size, 0, none⟩) (block_lt_of_cell d0)).trans d0; have y1 : w3.cell? ⟨w.heap.size, 1, none⟩ = _ := (hb3.cell (p := ⟨w.heap.size, 1, none⟩) (block_lt_of_cell d1)).trans d1; have y2 : w3.cell? ⟨w.heap.size, 2, none⟩ = _ := (hb3.cell (p := ⟨w.heap.size, 2, none⟩) (block_lt_of_cell d2)).trans d2; have hw3 := (hb3.block w.heap.size (unhide HLW)).trans (unhide HWB); have x0 := frozen_of_row w3 w.heap.size 0 _ _ hw3; have x1 := frozen_of_row w3 w.heap.size 1 _ _ hw3; have x2 := frozen_of_row w3 w.heap.size 2 _ _ hw3; replace hw3 := hide hw3; replace hr3 := hide hr3; replace hb3 := hide hb3))
  all_goals go_wp2
  all_goals
    have h1 := heap_setCell_same _ w.heap.size 0 _ _ (.int .i64 0) (unhide hw3)
    have h2 := heap_setCell_same _ w.heap.size 1 _ _ (.int .i64 0) h1
    have h3 := heap_setCell_same _ w.heap.size 2 _ _ (.slice none 0 0) h2
    have h4 := heap_setCell_same _ w.heap.size 0 _ _ (.int .i64 c.term) h3
    have h5 := heap_setCell_same _ w.heap.size 1 _ _ (.int .i64 c.vote) h4
    have h6 := heap_setCell_same _ w.heap.size 2 _ _ (.slice vo es.length vc) h5
    have hb4 := (unhide HBW).trans ((Below.undrew (unhide hb3)).mono (Nat.le_of_lt (unhide HLW)))
    have hb6 := (((((hb4.setCell (p := ⟨w.heap.size, 0, none⟩) (Nat.le_refl _) (.int .i64 0)).setCell (p := ⟨w.heap.size, 1, none⟩) (Nat.le_refl _) (.int .i64 0)).setCell (p := ⟨w.heap.size, 2, none⟩) (Nat.le_refl _) (.slice none 0 0)).setCell (p := ⟨w.heap.size, 0, none⟩) (Nat.le_refl _) (.int .i64 c.term)).setCell (p := ⟨w.heap.size, 1, none⟩) (Nat.le_refl _) (.int .i64 c.vote)).setCell (p := ⟨w.heap.size, 2, none⟩) (Nat.le_refl _) (.slice vo es.length vc)
    have hlk := lock_below (unhide H) hb6
    have hlw : w.heap.size < W.drew.heap.size := unhide HLW
    have ho6 := owns_set (owns_set (owns_set (owns_set (owns_set (owns_set (owns_set (unhide hr3) (a := ⟨w.heap.size, 0, none⟩) hlw (.int .i64 0)) (a := ⟨w.heap.size, 1, none⟩) hlw (.int .i64 0)) (a := ⟨w.heap.size, 2, none⟩) hlw (.slice none 0 0)) (a := ⟨w.heap.size, 0, none⟩) hlw (.int .i64 c.term)) (a := ⟨w.heap.size, 1, none⟩) hlw (.int .i64 c.vote)) (a := ⟨w.heap.size, 2, none⟩) hlw (.slice vo es.length vc)) (a := ⟨nb, 0, none⟩) (Nat.lt_trans hlt hlw) (.int .i32 0)
    refine leaves_cons (f := 59) (args := #[.pointer (some ⟨nb, 0, none⟩)]) (by simp) (by simp [go_sem]) ?_
    refine (unlock_deferred muLib ⟨nb, 0, none⟩ .returning _ hlk.1.c0 (hlk.1.free 0)).mono ?_
    rintro e u' w'' ⟨rfl, rfl, rfl⟩
    exact ⟨_, results_cell_row Try.results45 _ _ w.heap.size _ _ _ _ rfl ((Below.heap_setCell _ _ _ _ hne2).trans h6) Try.underlying24 rfl (by kernel_rfl), _, rfl, owns_base ho6 (Nat.le_of_lt hlw), hlk.2⟩

end Go.Proofs.Ytnofhpnpllnmgaa
