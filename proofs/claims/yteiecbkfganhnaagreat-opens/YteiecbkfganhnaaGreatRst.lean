/- The law's restart. -/
import Derived.Test.YteiecbkfganhnaaGreatMade
import Derived.Deep.DeepCutAuto
namespace Go.Proofs.YteiecbkfganhnaaGreat
open Go.RowKit

abbrev savedB (term vote : Int) (lv : Value) : Obj := .cells #[.int .i64 term, .int .i64 vote, lv] 24

theorem rowE_ents {w : World} {g : Nat} {es : List Ent} {xs : List Ent} (h : RowE w g (es.length + 8) (es ++ xs)) : EntsIn w (.slice (some ⟨g, 0, none⟩) es.length (es.length + 8)) es := by
  refine ⟨some ⟨g, 0, none⟩, es.length + 8, rfl, fun h => by simp at h, fun k e hk => ⟨g, 0, rfl, ?_⟩⟩
  have hk2 : (es ++ xs)[k]? = some e := by rw [List.getElem?_append_left (List.getElem?_eq_some_iff.1 hk).1]; exact hk
  have hc := eC_get _ k e hk2
  have h1 := h.1.cells (g := g) rfl _ _ hc.1
  have h2 := h.1.cells (g := g) rfl _ _ hc.2
  rw [add0] at h1 h2
  exact ⟨by simpa using h1, by simpa using h2⟩

theorem rowE_below {w w' : World} {g n : Nat} {es : List Ent} (h : RowE w g n es) (hb : Below w.heap.size w w') : RowE w' g n es := ⟨owns_below h.1 hb, fun _ _ => rfl⟩

theorem eql_slice_nil (a : Addr) (n c : Nat) (w : World) : (binOp .eql 22 (.slice (some a) n c) (.slice none 0 0)).run Tryz.prog w = .ok (.bool false) w := by kernel_rfl
theorem eql_nil_nil (w : World) : (binOp .eql 22 (.slice none 0 0) (.slice none 0 0)).run Tryz.prog w = .ok (.bool true) w := by kernel_rfl

/-- What was handed in lies ready. -/
def RstA (w : World) (term vote : Int) (lv : Value) (es : List Ent) (hb g : Nat) (w' : World) : Prop :=
  w'.heap[w.heap.size]? = some (savedB term vote lv) ∧ w'.heap[hb]? = some (savedB term vote (.slice (some ⟨g, 0, none⟩) es.length (es.length + 8))) ∧ RowE w' g (es.length + 8) (es ++ List.replicate 8 spareE) ∧ Below w.heap.size w w' ∧ w.heap.size < hb ∧ w.heap.size < g

theorem rst_cell {W w1 : World} {k : Nat} {cs : Array Value} {t : TypeId} (h : W.heap[k]? = some (.cells cs t (0, 0))) (o : Nat) {x : Value} (hb : Below W.heap.size W w1) (hx : cs[o]? = some x) : w1.cell? ⟨k, o, none⟩ = some x := by
  rw [cell_of_row w1 k o cs t (0, 0) ((hb.block k (Array.getElem?_eq_some_iff.1 h).1).trans h)]; exact hx

theorem rst_bel {W w1 : World} {o : Obj} (h : Below (W.alloc o).drew.heap.size (W.alloc o).drew w1) : Below W.heap.size W w1 := below_trans (below_alloc W o) (Below.undrew h)

theorem rstA_1 {w wA w1 : World} {term vote : Int} {lv : Value} {es : List Ent} (hsb : wA.heap[w.heap.size]? = some (savedB term vote lv)) (hA : Below w.heap.size w wA) (hR : RowE w1 wA.drew.heap.size (es.length + 8) (es ++ List.replicate 8 spareE)) (hb : Below wA.drew.heap.size wA w1) :
    RstA w term vote lv es w1.heap.size wA.heap.size (w1.alloc (savedB term vote (.slice (some ⟨wA.heap.size, 0, none⟩) es.length (es.length + 8)))) := by
  have hb' : Below wA.heap.size wA w1 := hb
  have hl := (Array.getElem?_eq_some_iff.1 hsb).1
  exact ⟨heap_under ((hb'.block _ hl).trans hsb) _, heap_alloc_new w1 _, ⟨hR.1.alloc _, fun _ _ => rfl⟩, (below_trans hA hb').alloc (Nat.le_trans hA.size hb'.size) _, Nat.lt_of_lt_of_le hl hb'.size, hl⟩

theorem rstA_2 {w wA w1 : World} {term vote : Int} {lv : Value} {es : List Ent} (hsb : wA.heap[w.heap.size]? = some (savedB term vote lv)) (hA : Below w.heap.size w wA)
    (hR : RowE w1 (wA.alloc (savedB 0 0 (.slice none 0 0))).drew.heap.size (es.length + 8) (es ++ List.replicate 8 spareE)) (hb : Below (wA.alloc (savedB 0 0 (.slice none 0 0))).drew.heap.size (wA.alloc (savedB 0 0 (.slice none 0 0))) w1) :
    RstA w term vote lv es wA.heap.size (wA.heap.size + 1) (((w1.setCell ⟨wA.heap.size, 0, none⟩ (.int .i64 term)).setCell ⟨wA.heap.size, 1, none⟩ (.int .i64 vote)).setCell ⟨wA.heap.size, 2, none⟩ (.slice (some ⟨wA.heap.size + 1, 0, none⟩) es.length (es.length + 8))) := by
  have hz : (wA.alloc (savedB 0 0 (.slice none 0 0))).heap.size = wA.heap.size + 1 := size_alloc1 wA _
  have hb' : Below (wA.alloc (savedB 0 0 (.slice none 0 0))).heap.size (wA.alloc (savedB 0 0 (.slice none 0 0))) w1 := hb
  have hR' : RowE w1 (wA.heap.size + 1) (es.length + 8) (es ++ List.replicate 8 spareE) := by rw [← hz]; exact hR
  have hl := (Array.getElem?_eq_some_iff.1 hsb).1
  have hbw := below_trans (below_alloc wA _) hb'
  have h0 := (hb'.block wA.heap.size (by rw [hz]; omega)).trans (heap_alloc_new wA _)
  have h1 := heap_setCell_same _ wA.heap.size 0 _ _ (.int .i64 term) h0
  have h2 := heap_setCell_same _ wA.heap.size 1 _ _ (.int .i64 vote) h1
  have h3 := heap_setCell_same _ wA.heap.size 2 _ _ (.slice (some ⟨wA.heap.size + 1, 0, none⟩) es.length (es.length + 8)) h2
  refine ⟨?_, h3, ⟨?_, fun _ _ => rfl⟩, ?_, hl, by omega⟩
  · rw [Below.heap_setCell _ _ _ _ (by simp; omega), Below.heap_setCell _ _ _ _ (by simp; omega), Below.heap_setCell _ _ _ _ (by simp; omega)]
    exact (hbw.block _ hl).trans hsb
  · refine owns_kept hR'.1 fun x hx => ?_
    simp [Value.ownBlock] at hx
    subst hx
    rw [Below.heap_setCell _ _ _ _ (by simp), Below.heap_setCell _ _ _ _ (by simp), Below.heap_setCell _ _ _ _ (by simp)]
  · exact (((below_trans hA hbw).setCell (p := ⟨wA.heap.size, 0, none⟩) hA.size _).setCell (p := ⟨wA.heap.size, 1, none⟩) hA.size _).setCell (p := ⟨wA.heap.size, 2, none⟩) hA.size _

theorem grown_below {w0 w w' : World} {g : Nat} (hb : Below w0.heap.size w0 w) (hg : w0.heap.size ≤ g) (h : w.grownBy w' (some g)) : Below w0.heap.size w0 w' :=
  ⟨h.os.trans hb.os, h.tape.trans hb.tape, h.output.trans hb.output, Nat.le_trans hb.size h.size, fun k hk => (h.block k (Nat.lt_of_lt_of_le hk hb.size) (fun he => by simp at he; omega)).trans (hb.block k hk)⟩

theorem rst_own {W w1 : World} {k g : Nat} {o : Obj} (h : W.heap[k]? = some o) (hb : W.grownBy w1 (some g)) (hk : k ≠ g) : w1.heap[k]? = some o := (hb.block k (Array.getElem?_eq_some_iff.1 h).1 (fun he => hk (by simpa using he))).trans h

theorem rst_cellG {W w1 : World} {k g : Nat} {cs : Array Value} {t : TypeId} (h : W.heap[k]? = some (.cells cs t (0, 0))) (o : Nat) {x : Value} (hb : W.grownBy w1 (some g)) (hk : k ≠ g) (hx : cs[o]? = some x) : w1.cell? ⟨k, o, none⟩ = some x := by
  rw [cell_of_row w1 k o cs t (0, 0) (rst_own h hb hk)]; exact hx

/-- Neither gives a node. -/
def BothNo (id n term vote : Int) (es : List Ent) (c : Int) : Prop :=
  (∀ W lv, EntsIn W lv es → Calls Tryz.prog 15 #[.int .i64 id, .int .i64 n, .agg #[.int .i64 term, .int .i64 vote, lv]] W fun e w' => e = .returned (.tuple #[.pointer none, .int .i64 c]) ∧ Below W.heap.size W w') ∧
  (∀ W lv, EntsIn W lv es → Calls Tryz.prog 17 #[.int .i64 id, .int .i64 n, .agg #[.int .i64 term, .int .i64 vote, lv]] W fun e w' => e = .returned (.tuple #[.pointer none, .int .i64 c]) ∧ Below W.heap.size W w')

set_option maxRecDepth 100000 in
set_option maxHeartbeats 800000 in
theorem rst_bad (id n term vote c : Int) (lv : Value) (es : List Ent) (w : World) (hn : es.length * 24 ≤ 140737488351232) (hl : EntsIn w lv es) (hNR : BothNo id n term vote es c) :
    Calls Tryz.prog 8 #[.int .i64 id, .int .i64 n, .agg #[.int .i64 term, .int .i64 vote, lv]] w fun e w' => e = .returned (.tuple #[.pointer none, .bool true]) ∧ Below w.heap.size w w' := by
  have HL := hide hl
  obtain ⟨ao, cap, rfl, hl1, hl2⟩ := hl
  clear hl1 hl2
  have HNR := hide hNR
  clear hNR
  have HA := hide (below_alloc w (savedB term vote (.slice ao es.length cap)))
  have s0 : (w.alloc (savedB term vote (.slice ao es.length cap))).cell? ⟨w.heap.size, 0, none⟩ = some (.int .i64 term) := cell_of_row _ _ 0 _ _ _ (heap_alloc_new w _)
  have s1 : (w.alloc (savedB term vote (.slice ao es.length cap))).cell? ⟨w.heap.size, 1, none⟩ = some (.int .i64 vote) := cell_of_row _ _ 1 _ _ _ (heap_alloc_new w _)
  have s2 : (w.alloc (savedB term vote (.slice ao es.length cap))).cell? ⟨w.heap.size, 2, none⟩ = some (.slice ao es.length cap) := cell_of_row _ _ 2 _ _ _ (heap_alloc_new w _)
  have hsb := heap_alloc_new w (savedB term vote (.slice ao es.length cap))
  have hsz := size_alloc1 w (savedB term vote (.slice ao es.length cap))
  have hq1 := eql_slice_nil
  have hq2 := eql_nil_nil
  go_enter Tryz.func8, Tryz.ntmps8
  go_wp2_with fail
  generalize w.alloc (savedB term vote (.slice ao es.length cap)) = wA at *
  have hEA : EntsIn wA.drew (.slice ao es.length cap) es := ents_below (unhide HL) (unhide HA).drew
  have HEA := hide hEA
  have HEB : Hid (EntsIn (wA.alloc (.cells #[.int .i64 0, .int .i64 0, .slice none 0 0] 24)).drew (.slice ao es.length cap) es) := ents_below (w := wA) (show EntsIn wA (.slice ao es.length cap) es from hEA) (below_alloc wA _).drew
  have hneA : wA.heap.size ≠ w.heap.size := by omega
  have hgs : wA.drew.heap.size = w.heap.size + 1 := hsz
  have HGS := hide hgs
  have HSB := hide hsb
  clear hEA hsz hgs hsb
  go_cut [8] (fun p wr => ∃ hb g, p = .pointer (some ⟨hb, 0, none⟩) ∧ RstA w term vote (.slice ao es.length cap) es hb g wr)
  case first =>
    go_region_held3 (fun w' => w'.cell? ⟨w.heap.size, 0, none⟩ = some (.int .i64 term) ∧ w'.cell? ⟨w.heap.size, 1, none⟩ = some (.int .i64 vote) ∧ w'.cell? ⟨w.heap.size, 2, none⟩ = some (.slice ao es.length cap)) (first | go_keep | exact ⟨z0, z1, z2⟩ | (simp only [cell_ne hneA]; exact ⟨z0, z1, z2⟩)) (first | (go_at_call 14; refine (handed_any _ es wA.drew hn (unhide HEA)).mono ?_; rintro e w1 ⟨rfl, hR1, hb1⟩; have z0 : w1.cell? ⟨w.heap.size, 0, none⟩ = some (.int .i64 term) := rst_cell (unhide HSB) 0 (Below.undrew hb1) rfl; have z1 : w1.cell? ⟨w.heap.size, 1, none⟩ = some (.int .i64 vote) := rst_cell (unhide HSB) 1 (Below.undrew hb1) rfl; have z2 : w1.cell? ⟨w.heap.size, 2, none⟩ = some (.slice ao es.length cap) := rst_cell (unhide HSB) 2 (Below.undrew hb1) rfl; replace hR1 := hide hR1; replace hb1 := hide (Below.undrew hb1)) | (go_at_call 14; refine (handed_any _ es (wA.alloc (.cells #[.int .i64 0, .int .i64 0, .slice none 0 0] 24)).drew hn (unhide HEB)).mono ?_; rintro e w1 ⟨rfl, hR1, hb1⟩; have z0 : w1.cell? ⟨w.heap.size, 0, none⟩ = some (.int .i64 term) := rst_cell (unhide HSB) 0 (rst_bel hb1) rfl; have z1 : w1.cell? ⟨w.heap.size, 1, none⟩ = some (.int .i64 vote) := rst_cell (unhide HSB) 1 (rst_bel hb1) rfl; have z2 : w1.cell? ⟨w.heap.size, 2, none⟩ = some (.slice ao es.length cap) := rst_cell (unhide HSB) 2 (rst_bel hb1) rfl; have hh1 := ((Below.undrew hb1).block wA.heap.size (by simp)).trans (heap_alloc_new wA _); have y0 := cell_of_row w1 wA.heap.size 0 _ _ _ hh1; have y1 := cell_of_row w1 wA.heap.size 1 _ _ _ hh1; have y2 := cell_of_row w1 wA.heap.size 2 _ _ _ hh1; have x0 := frozen_of_row w1 wA.heap.size 0 _ _ hh1; have x1 := frozen_of_row w1 wA.heap.size 1 _ _ hh1; have x2 := frozen_of_row w1 wA.heap.size 2 _ _ hh1; replace hh1 := hide hh1; replace hR1 := hide hR1; replace hb1 := hide (Below.undrew hb1)))
    · go_wp2_with fail
      go_meet
      exact ⟨w1.heap.size, wA.heap.size, rfl, rstA_1 (unhide HSB) (unhide HA) (unhide hR1) (unhide hb1)⟩
    · go_wp2_with fail
      go_meet
      exact ⟨wA.heap.size, wA.heap.size + 1, rfl, rstA_2 (unhide HSB) (unhide HA) (unhide hR1) (unhide hb1)⟩
  case rest =>
    obtain ⟨hb, g, rfl, hA⟩ := hcut
    have HA2 := hide hA
    clear s0 s1 s2 hneA HEA HEB HGS HSB HA hA
    have s0 : wc.cell? ⟨w.heap.size, 0, none⟩ = some (.int .i64 term) := rst_cell (unhide HA2).1 0 (Below.refl _ _) rfl
    have s2 : wc.cell? ⟨w.heap.size, 2, none⟩ = some (.slice ao es.length cap) := rst_cell (unhide HA2).1 2 (Below.refl _ _) rfl
    have y0 : wc.cell? ⟨hb, 0, none⟩ = some (.int .i64 term) := rst_cell (unhide HA2).2.1 0 (Below.refl _ _) rfl
    have y1 : wc.cell? ⟨hb, 1, none⟩ = some (.int .i64 vote) := rst_cell (unhide HA2).2.1 1 (Below.refl _ _) rfl
    have y2 : wc.cell? ⟨hb, 2, none⟩ = some (.slice (some ⟨g, 0, none⟩) es.length (es.length + 8)) := rst_cell (unhide HA2).2.1 2 (Below.refl _ _) rfl
    have x2 : wc.frozen? ⟨hb, 2, none⟩ = false := frozen_of_row wc hb 2 _ _ (unhide HA2).2.1
    have hcase : (((es.length : Int) == 0) = true ∧ (term.tmod 2 == 0) = true) ∨ (((es.length : Int) == 0) = true ∧ (term.tmod 2 == 0) = false) ∨ ((es.length : Int) == 0) = false := by
      cases ((es.length : Int) == 0) <;> cases (term.tmod 2 == 0) <;> simp
    rcases hcase with ⟨he', ht'⟩ | ⟨he', ht'⟩ | he'
    · have hes : es = [] := List.length_eq_zero_iff.1 (by have := eq_of_beq he'; omega)
      have HES := hide hes
      clear hes
      have hB2 := hide (show Below w.heap.size w (wc.setCell ⟨hb, 2, none⟩ (.slice none 0 0)) from (unhide HA2).2.2.2.1.setCell (p := ⟨hb, 2, none⟩) (Nat.le_of_lt (unhide HA2).2.2.2.2.1) _)
      have hH2 := hide (show (wc.setCell ⟨hb, 2, none⟩ (.slice none 0 0)).heap[hb]? = some (savedB term vote (.slice none 0 0)) from heap_setCell_same _ hb 2 _ _ _ (unhide HA2).2.1)
      have hS2 := hide (show (wc.setCell ⟨hb, 2, none⟩ (.slice none 0 0)).heap[w.heap.size]? = some (savedB term vote (.slice ao es.length cap)) from (Below.heap_setCell _ _ _ _ (by have := (unhide HA2).2.2.2.2.1; simp only; omega)).trans (unhide HA2).1)
      have hE2 := hide (show EntsIn (wc.setCell ⟨hb, 2, none⟩ (.slice none 0 0)) (.slice none 0 0) es from by rw [unhide HES]; exact ⟨none, 0, rfl, fun _ => rfl, fun k e hk => by simp at hk⟩)
      go_wp2_with (first | (go_at_call 15; refine ((unhide HNR).1 _ _ (unhide hE2)).mono ?_; rintro e w2 ⟨rfl, hb2⟩; have z0 : w2.cell? ⟨w.heap.size, 0, none⟩ = some (.int .i64 term) := rst_cell (unhide hS2) 0 hb2 rfl; have z1 : w2.cell? ⟨w.heap.size, 1, none⟩ = some (.int .i64 vote) := rst_cell (unhide hS2) 1 hb2 rfl; have z2 : w2.cell? ⟨w.heap.size, 2, none⟩ = some (.slice ao es.length cap) := rst_cell (unhide hS2) 2 hb2 rfl; have q2 : w2.cell? ⟨hb, 2, none⟩ = some (.slice none 0 0) := rst_cell (unhide hH2) 2 hb2 rfl; have hB3 := hide (below_trans (unhide hB2) hb2); clear hb2) | (go_at_call 17; refine ((unhide HNR).2 w2 _ (ents_below (unhide HL) (unhide hB3))).mono ?_; rintro e w4 ⟨rfl, hb4⟩; replace hb4 := hide hb4) | (go_at_call 13; refine (num_any _ _).mono ?_; rintro e w5 ⟨rfl, rfl⟩) | fail)
      go_ret2
      exact ⟨rfl, below_trans (unhide hB3) (unhide hb4)⟩
    all_goals
      go_wp2_with (first | (go_at_call 15; refine ((unhide HNR).1 wc _ (rowE_ents (unhide HA2).2.2.1)).mono ?_; rintro e w2 ⟨rfl, hb2⟩; have z2 : w2.cell? ⟨w.heap.size, 2, none⟩ = some (.slice ao es.length cap) := rst_cell (unhide HA2).1 2 hb2 rfl; have q2 : w2.cell? ⟨hb, 2, none⟩ = some (.slice (some ⟨g, 0, none⟩) es.length (es.length + 8)) := rst_cell (unhide HA2).2.1 2 hb2 rfl; replace hb2 := hide hb2) | (go_at_call 16; refine (untouched_any g _ es w w2 hn (unhide HL) (below_trans (unhide HA2).2.2.2.1 (Below.mono (unhide hb2) (Nat.le_refl _))) (Nat.le_of_lt (unhide HA2).2.2.2.2.2) (rowE_below (unhide HA2).2.2.1 (unhide hb2))).mono ?_; rintro e w3 ⟨rfl, hG⟩; have hB3 := grown_below (below_trans (unhide HA2).2.2.2.1 (unhide hb2)) (Nat.le_of_lt (unhide HA2).2.2.2.2.2) hG; have z0 : w3.cell? ⟨w.heap.size, 0, none⟩ = some (.int .i64 term) := rst_cellG (((unhide hb2).block _ (Array.getElem?_eq_some_iff.1 (unhide HA2).1).1).trans (unhide HA2).1) 0 hG (Nat.ne_of_lt (unhide HA2).2.2.2.2.2) rfl; have z1 : w3.cell? ⟨w.heap.size, 1, none⟩ = some (.int .i64 vote) := rst_cellG (((unhide hb2).block _ (Array.getElem?_eq_some_iff.1 (unhide HA2).1).1).trans (unhide HA2).1) 1 hG (Nat.ne_of_lt (unhide HA2).2.2.2.2.2) rfl; have z3 : w3.cell? ⟨w.heap.size, 2, none⟩ = some (.slice ao es.length cap) := rst_cellG (((unhide hb2).block _ (Array.getElem?_eq_some_iff.1 (unhide HA2).1).1).trans (unhide HA2).1) 2 hG (Nat.ne_of_lt (unhide HA2).2.2.2.2.2) rfl; replace hG := hide hG; replace hB3 := hide hB3) | (go_at_call 17; refine ((unhide HNR).2 w3 _ (ents_below (unhide HL) (unhide hB3))).mono ?_; rintro e w4 ⟨rfl, hb4⟩; replace hb4 := hide hb4) | (go_at_call 13; refine (num_any _ _).mono ?_; rintro e w5 ⟨rfl, rfl⟩) | fail)
      go_ret2
      exact ⟨rfl, below_trans (unhide hB3) (unhide hb4)⟩


/-- Both give a node. -/
def BothMade (id n term vote : Int) (es : List Ent) : Prop :=
  (∀ W lv, EntsIn W lv es → Calls Tryz.prog 15 #[.int .i64 id, .int .i64 n, .agg #[.int .i64 term, .int .i64 vote, lv]] W fun e w' => NodeMadeE id n term vote es W e w') ∧
  (∀ W lv, EntsIn W lv es → Calls Tryz.prog 17 #[.int .i64 id, .int .i64 n, .agg #[.int .i64 term, .int .i64 vote, lv]] W fun e w' => RefMade id n term vote es W e w')

theorem rowE_lt {w : World} {g n : Nat} {es : List Ent} (h : RowE w g n es) : g < w.heap.size := owns_lt h.1 g rfl

theorem rst_game (i : Nat) {id n term vote : Int} {es : List Ent} {w W w2 w3 w4 : World} {tg : Tags} {nb rb : Nat} {v u g nx mt hd : Value} (hB : Below w.heap.size w W) (hnb : W.heap.size ≤ nb)
    (hN : NodeBlk w2 nb (cnRestart id n term vote v)) (hv : w2.ownsRow W.heap.size 66 2 v es.length (eC es))
    (hk : ∀ k, W.heap.size ≤ k → k < w2.heap.size → w3.heap[k]? = w2.heap[k]?) (hs3 : w2.heap.size ≤ w3.heap.size) (hB3 : Below w.heap.size w w3)
    (hrb : w3.heap.size ≤ rb) (hR : RefBlk w4 rb (rnRestart id n term vote u g nx mt hd)) (hu : w4.ownsRow w3.heap.size 66 2 u es.length (eC es)) (hb4 : Below w3.heap.size w3 w4)
    (hlen : es.length ≤ 60) (hsz : ∀ e ∈ es, e.2.size ≤ 20) :
    GMade i id n es w tg (.returned (.tuple #[.pointer (some ⟨w4.heap.size, 0, none⟩), .bool true]))
      (w4.alloc (.cells #[.int .i64 id, .int .i64 n, .pointer (some ⟨nb, 0, none⟩), .pointer (some ⟨rb, 0, none⟩), .slice none 0 0, .slice none 0 0, .slice none 0 0, .slice none 0 0, .slice none 0 0, .slice none 0 0, .slice none 0 0, .slice none 0 0, .slice none 0 0] 53)) := by
  have h1 := hB.size
  have h2 := hB3.size
  have hnl := hN.lt
  refine mk_game i (v := v) (below_trans hB3 hb4) (Nat.le_trans h1 hnb) (Nat.le_trans h2 hrb) ?_ hR ?_ (owns_base hu h2) ?_ hlen hsz
  · exact (hb4.block nb (Nat.lt_of_lt_of_le hnl hs3)).trans ((hk nb hnb hnl).trans hN)
  · exact owns_below (owns_base (owns_kept hv fun x hx => hk x (hv.lt _ hx).1 (hv.lt _ hx).2) h1) hb4
  · intro x y hx hy he
    have := (hv.lt _ hx).2
    have := (hu.lt _ hy).1
    omega

set_option maxRecDepth 100000 in
set_option maxHeartbeats 800000 in
theorem rst_good (i : Nat) (id n term vote : Int) (lv : Value) (es : List Ent) (w : World) (hn : es.length * 24 ≤ 140737488351232) (hl : EntsIn w lv es) (tg : Tags) (hlen : es.length ≤ 60) (hsz : ∀ e ∈ es, e.2.size ≤ 20) (hNR : BothMade id n term vote es) :
    Calls Tryz.prog 8 #[.int .i64 id, .int .i64 n, .agg #[.int .i64 term, .int .i64 vote, lv]] w fun e w' => GMade i id n es w tg e w' := by
  have HLZ := hide (And.intro hlen hsz)
  clear hlen hsz
  have HL := hide hl
  obtain ⟨ao, cap, rfl, hl1, hl2⟩ := hl
  clear hl1 hl2
  have HNR := hide hNR
  clear hNR
  have HA := hide (below_alloc w (savedB term vote (.slice ao es.length cap)))
  have s0 : (w.alloc (savedB term vote (.slice ao es.length cap))).cell? ⟨w.heap.size, 0, none⟩ = some (.int .i64 term) := cell_of_row _ _ 0 _ _ _ (heap_alloc_new w _)
  have s1 : (w.alloc (savedB term vote (.slice ao es.length cap))).cell? ⟨w.heap.size, 1, none⟩ = some (.int .i64 vote) := cell_of_row _ _ 1 _ _ _ (heap_alloc_new w _)
  have s2 : (w.alloc (savedB term vote (.slice ao es.length cap))).cell? ⟨w.heap.size, 2, none⟩ = some (.slice ao es.length cap) := cell_of_row _ _ 2 _ _ _ (heap_alloc_new w _)
  have hsb := heap_alloc_new w (savedB term vote (.slice ao es.length cap))
  have hsz := size_alloc1 w (savedB term vote (.slice ao es.length cap))
  have hq1 := eql_slice_nil
  have hq2 := eql_nil_nil
  go_enter Tryz.func8, Tryz.ntmps8
  go_wp2_with fail
  generalize w.alloc (savedB term vote (.slice ao es.length cap)) = wA at *
  have hEA : EntsIn wA.drew (.slice ao es.length cap) es := ents_below (unhide HL) (unhide HA).drew
  have HEA := hide hEA
  have HEB : Hid (EntsIn (wA.alloc (.cells #[.int .i64 0, .int .i64 0, .slice none 0 0] 24)).drew (.slice ao es.length cap) es) := ents_below (w := wA) (show EntsIn wA (.slice ao es.length cap) es from hEA) (below_alloc wA _).drew
  have hneA : wA.heap.size ≠ w.heap.size := by omega
  have hgs : wA.drew.heap.size = w.heap.size + 1 := hsz
  have HGS := hide hgs
  have HSB := hide hsb
  clear hEA hsz hgs hsb
  go_cut [8] (fun p wr => ∃ hb g, p = .pointer (some ⟨hb, 0, none⟩) ∧ RstA w term vote (.slice ao es.length cap) es hb g wr)
  case first =>
    go_region_held3 (fun w' => w'.cell? ⟨w.heap.size, 0, none⟩ = some (.int .i64 term) ∧ w'.cell? ⟨w.heap.size, 1, none⟩ = some (.int .i64 vote) ∧ w'.cell? ⟨w.heap.size, 2, none⟩ = some (.slice ao es.length cap)) (first | go_keep | exact ⟨z0, z1, z2⟩ | (simp only [cell_ne hneA]; exact ⟨z0, z1, z2⟩)) (first | (go_at_call 14; refine (handed_any _ es wA.drew hn (unhide HEA)).mono ?_; rintro e w1 ⟨rfl, hR1, hb1⟩; have z0 : w1.cell? ⟨w.heap.size, 0, none⟩ = some (.int .i64 term) := rst_cell (unhide HSB) 0 (Below.undrew hb1) rfl; have z1 : w1.cell? ⟨w.heap.size, 1, none⟩ = some (.int .i64 vote) := rst_cell (unhide HSB) 1 (Below.undrew hb1) rfl; have z2 : w1.cell? ⟨w.heap.size, 2, none⟩ = some (.slice ao es.length cap) := rst_cell (unhide HSB) 2 (Below.undrew hb1) rfl; replace hR1 := hide hR1; replace hb1 := hide (Below.undrew hb1)) | (go_at_call 14; refine (handed_any _ es (wA.alloc (.cells #[.int .i64 0, .int .i64 0, .slice none 0 0] 24)).drew hn (unhide HEB)).mono ?_; rintro e w1 ⟨rfl, hR1, hb1⟩; have z0 : w1.cell? ⟨w.heap.size, 0, none⟩ = some (.int .i64 term) := rst_cell (unhide HSB) 0 (rst_bel hb1) rfl; have z1 : w1.cell? ⟨w.heap.size, 1, none⟩ = some (.int .i64 vote) := rst_cell (unhide HSB) 1 (rst_bel hb1) rfl; have z2 : w1.cell? ⟨w.heap.size, 2, none⟩ = some (.slice ao es.length cap) := rst_cell (unhide HSB) 2 (rst_bel hb1) rfl; have hh1 := ((Below.undrew hb1).block wA.heap.size (by simp)).trans (heap_alloc_new wA _); have y0 := cell_of_row w1 wA.heap.size 0 _ _ _ hh1; have y1 := cell_of_row w1 wA.heap.size 1 _ _ _ hh1; have y2 := cell_of_row w1 wA.heap.size 2 _ _ _ hh1; have x0 := frozen_of_row w1 wA.heap.size 0 _ _ hh1; have x1 := frozen_of_row w1 wA.heap.size 1 _ _ hh1; have x2 := frozen_of_row w1 wA.heap.size 2 _ _ hh1; replace hh1 := hide hh1; replace hR1 := hide hR1; replace hb1 := hide (Below.undrew hb1)))
    · go_wp2_with fail
      go_meet
      exact ⟨w1.heap.size, wA.heap.size, rfl, rstA_1 (unhide HSB) (unhide HA) (unhide hR1) (unhide hb1)⟩
    · go_wp2_with fail
      go_meet
      exact ⟨wA.heap.size, wA.heap.size + 1, rfl, rstA_2 (unhide HSB) (unhide HA) (unhide hR1) (unhide hb1)⟩
  case rest =>
    obtain ⟨hb, g, rfl, hA⟩ := hcut
    have HA2 := hide hA
    clear s0 s1 s2 hneA HEA HEB HGS HSB HA hA
    have s0 : wc.cell? ⟨w.heap.size, 0, none⟩ = some (.int .i64 term) := rst_cell (unhide HA2).1 0 (Below.refl _ _) rfl
    have s2 : wc.cell? ⟨w.heap.size, 2, none⟩ = some (.slice ao es.length cap) := rst_cell (unhide HA2).1 2 (Below.refl _ _) rfl
    have y0 : wc.cell? ⟨hb, 0, none⟩ = some (.int .i64 term) := rst_cell (unhide HA2).2.1 0 (Below.refl _ _) rfl
    have y1 : wc.cell? ⟨hb, 1, none⟩ = some (.int .i64 vote) := rst_cell (unhide HA2).2.1 1 (Below.refl _ _) rfl
    have y2 : wc.cell? ⟨hb, 2, none⟩ = some (.slice (some ⟨g, 0, none⟩) es.length (es.length + 8)) := rst_cell (unhide HA2).2.1 2 (Below.refl _ _) rfl
    have x2 : wc.frozen? ⟨hb, 2, none⟩ = false := frozen_of_row wc hb 2 _ _ (unhide HA2).2.1
    have hcase : (((es.length : Int) == 0) = true ∧ (term.tmod 2 == 0) = true) ∨ (((es.length : Int) == 0) = true ∧ (term.tmod 2 == 0) = false) ∨ ((es.length : Int) == 0) = false := by
      cases ((es.length : Int) == 0) <;> cases (term.tmod 2 == 0) <;> simp
    rcases hcase with ⟨he', ht'⟩ | ⟨he', ht'⟩ | he'
    · have hes : es = [] := List.length_eq_zero_iff.1 (by have := eq_of_beq he'; omega)
      have HES := hide hes
      clear hes
      have hB2 := hide (show Below w.heap.size w (wc.setCell ⟨hb, 2, none⟩ (.slice none 0 0)) from (unhide HA2).2.2.2.1.setCell (p := ⟨hb, 2, none⟩) (Nat.le_of_lt (unhide HA2).2.2.2.2.1) _)
      have hH2 := hide (show (wc.setCell ⟨hb, 2, none⟩ (.slice none 0 0)).heap[hb]? = some (savedB term vote (.slice none 0 0)) from heap_setCell_same _ hb 2 _ _ _ (unhide HA2).2.1)
      have hS2 := hide (show (wc.setCell ⟨hb, 2, none⟩ (.slice none 0 0)).heap[w.heap.size]? = some (savedB term vote (.slice ao es.length cap)) from (Below.heap_setCell _ _ _ _ (by have := (unhide HA2).2.2.2.2.1; simp only; omega)).trans (unhide HA2).1)
      have hE2 := hide (show EntsIn (wc.setCell ⟨hb, 2, none⟩ (.slice none 0 0)) (.slice none 0 0) es from by rw [unhide HES]; exact ⟨none, 0, rfl, fun _ => rfl, fun k e hk => by simp at hk⟩)
      go_wp2_with (first | (go_at_call 15; refine ((unhide HNR).1 _ _ (unhide hE2)).mono ?_; rintro e w2 ⟨nb, v, rfl, hm⟩; have hb2 := hm.2.2.2; replace hm := hide hm; have z0 : w2.cell? ⟨w.heap.size, 0, none⟩ = some (.int .i64 term) := rst_cell (unhide hS2) 0 hb2 rfl; have z1 : w2.cell? ⟨w.heap.size, 1, none⟩ = some (.int .i64 vote) := rst_cell (unhide hS2) 1 hb2 rfl; have z2 : w2.cell? ⟨w.heap.size, 2, none⟩ = some (.slice ao es.length cap) := rst_cell (unhide hS2) 2 hb2 rfl; have q2 : w2.cell? ⟨hb, 2, none⟩ = some (.slice none 0 0) := rst_cell (unhide hH2) 2 hb2 rfl; have hB3 := hide (below_trans (unhide hB2) hb2); replace hb2 := hide hb2) | (go_at_call 17; refine ((unhide HNR).2 w2 _ (ents_below (unhide HL) (unhide hB3))).mono ?_; rintro e w4 ⟨rb, u, gg, nx, mt, hd, rfl, hu⟩; replace hu := hide hu) | (go_at_call 13; refine (num_any _ _).mono ?_; rintro e w5 ⟨rfl, rfl⟩) | fail)
      go_ret2
      exact rst_game i (unhide hB2) (unhide hm).1 (unhide hm).2.1 (unhide hm).2.2.1 (fun _ _ _ => rfl) (Nat.le_refl _) (unhide hB3) (unhide hu).1 (unhide hu).2.1 (unhide hu).2.2.1 (unhide hu).2.2.2 (unhide HLZ).1 (unhide HLZ).2
    all_goals
      go_wp2_with (first | (go_at_call 15; refine ((unhide HNR).1 wc _ (rowE_ents (unhide HA2).2.2.1)).mono ?_; rintro e w2 ⟨nb, v, rfl, hm⟩; have hb2 := hm.2.2.2; replace hm := hide hm; have z2 : w2.cell? ⟨w.heap.size, 2, none⟩ = some (.slice ao es.length cap) := rst_cell (unhide HA2).1 2 hb2 rfl; have q2 : w2.cell? ⟨hb, 2, none⟩ = some (.slice (some ⟨g, 0, none⟩) es.length (es.length + 8)) := rst_cell (unhide HA2).2.1 2 hb2 rfl; replace hb2 := hide hb2) | (go_at_call 16; refine (untouched_any g _ es w w2 hn (unhide HL) (below_trans (unhide HA2).2.2.2.1 (Below.mono (unhide hb2) (Nat.le_refl _))) (Nat.le_of_lt (unhide HA2).2.2.2.2.2) (rowE_below (unhide HA2).2.2.1 (unhide hb2))).mono ?_; rintro e w3 ⟨rfl, hG⟩; have hB3 := grown_below (below_trans (unhide HA2).2.2.2.1 (unhide hb2)) (Nat.le_of_lt (unhide HA2).2.2.2.2.2) hG; have z0 : w3.cell? ⟨w.heap.size, 0, none⟩ = some (.int .i64 term) := rst_cellG (((unhide hb2).block _ (Array.getElem?_eq_some_iff.1 (unhide HA2).1).1).trans (unhide HA2).1) 0 hG (Nat.ne_of_lt (unhide HA2).2.2.2.2.2) rfl; have z1 : w3.cell? ⟨w.heap.size, 1, none⟩ = some (.int .i64 vote) := rst_cellG (((unhide hb2).block _ (Array.getElem?_eq_some_iff.1 (unhide HA2).1).1).trans (unhide HA2).1) 1 hG (Nat.ne_of_lt (unhide HA2).2.2.2.2.2) rfl; have z3 : w3.cell? ⟨w.heap.size, 2, none⟩ = some (.slice ao es.length cap) := rst_cellG (((unhide hb2).block _ (Array.getElem?_eq_some_iff.1 (unhide HA2).1).1).trans (unhide HA2).1) 2 hG (Nat.ne_of_lt (unhide HA2).2.2.2.2.2) rfl; replace hG := hide hG; replace hB3 := hide hB3) | (go_at_call 17; refine ((unhide HNR).2 w3 _ (ents_below (unhide HL) (unhide hB3))).mono ?_; rintro e w4 ⟨rb, u, gg, nx, mt, hd, rfl, hu⟩; replace hu := hide hu) | (go_at_call 13; refine (num_any _ _).mono ?_; rintro e w5 ⟨rfl, rfl⟩) | fail)
      go_ret2
      exact rst_game i (unhide HA2).2.2.2.1 (unhide hm).1 (unhide hm).2.1 (unhide hm).2.2.1 (fun k h1 h2 => (unhide hG).block k h2 (fun he => by have h3 := rowE_lt (unhide HA2).2.2.1; simp at he; omega)) (unhide hG).size (unhide hB3) (unhide hu).1 (unhide hu).2.1 (unhide hu).2.2.1 (unhide hu).2.2.2 (unhide HLZ).1 (unhide HLZ).2

end Go.Proofs.YteiecbkfganhnaaGreat
