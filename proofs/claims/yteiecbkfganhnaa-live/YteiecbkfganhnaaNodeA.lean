/- The program's node: Restart, Open. -/
import Derived.Test.YteiecbkfganhnaaHeld
namespace Go.Proofs.Yteiecbkfganhnaa
open Go.RowKit Go.MuLone

/-- Behind a Restart that gives a node. -/
def NodeMade (id n : Nat) (term vote : Int) (es : List Ent) (w : World) (e : Ending) (w' : World) : Prop :=
  ∃ nb v, e = .returned (.tuple #[.pointer (some ⟨nb, 0, none⟩), .int .i64 0]) ∧ w.heap.size ≤ nb ∧ NB 0 w' nb (Nd.made id n term vote es) v ∧ w'.ownsRow w.heap.size 78 2 v es.length (eC es) ∧ Below w.heap.size w w'

set_option maxRecDepth 100000 in
set_option maxHeartbeats 1000000 in
theorem restart_nodes (id n term vote : Int) (lv : Value) (w : World) (h : n < 1 ∨ 7 < n ∨ id < 0 ∨ n ≤ id) :
    Calls Try.prog 23 #[.int .i64 id, .int .i64 n, .agg #[.int .i64 term, .int .i64 vote, lv]] w fun e w' => e = .returned (.tuple #[.pointer none, .int .i64 1]) ∧ Below w.heap.size w w' := by
  have H := hide h
  clear h
  go_enter Try.func23, Try.ntmps23
  go_wp2_with (go_at_call 45; refine (soundNodes_no id n _ (unhide H)).mono ?_; rintro e w1 ⟨rfl, rfl⟩)
  go_ret2
  exact ⟨rfl, below_alloc w _⟩

set_option maxRecDepth 100000 in
set_option maxHeartbeats 1000000 in
theorem restart_saved (id : Int) (n : Nat) (term vote : Int) (lv : Value) (es : List Ent) (w : World) (hn1 : 1 ≤ n) (hn2 : n ≤ 7) (h0 : 0 ≤ id) (h1 : id < n) (hl : EntsIn w lv es) (hlen : es.length < 4611686018427387904)
    (h : term < 0 ∨ 1000000 < term ∨ vote < -1 ∨ (n : Int) ≤ vote ∨ 60 < (es.length : Int) ∨ okE es 1 term = false) :
    Calls Try.prog 23 #[.int .i64 id, .int .i64 n, .agg #[.int .i64 term, .int .i64 vote, lv]] w fun e w' => e = .returned (.tuple #[.pointer none, .int .i64 2]) ∧ Below w.heap.size w w' := by
  have HL := hide hl
  obtain ⟨ao, cap, rfl, hl1, hl2⟩ := hl
  clear hl1 hl2
  have H := hide h
  have H0 := hide (And.intro hn1 (And.intro hn2 (And.intro h0 h1)))
  clear hn1 hn2 h0 h1 h
  have HB0 := hide (below_alloc w (.cells #[.int .i64 term, .int .i64 vote, .slice ao es.length cap] 58))
  go_enter Try.func23, Try.ntmps23
  go_wp2_with (first | (go_at_call 45; refine (soundNodes_yes id n _ (by have := (unhide H0).1; omega) (by have := (unhide H0).2.1; omega) (unhide H0).2.2.1 (unhide H0).2.2.2).mono ?_; rintro e w1 ⟨rfl, rfl⟩) | (go_at_call 46; refine (soundSaved_any term vote n _ es _ hlen (by exact ents_below (unhide HL) (unhide HB0)) false (bad_saved (unhide H))).mono ?_; rintro e w2 ⟨rfl, hb⟩; replace hb := hide hb))
  go_ret2
  exact ⟨rfl, below_trans (unhide HB0) (unhide hb)⟩

theorem node_made {id n : Nat} {term vote : Int} {es : List Ent} {w w2 w3 : World} {v : Value} (hb : Below w.heap.size w w2) (hr : w3.ownsRow w2.drew.heap.size 78 2 v es.length (eC es)) (hb3 : Below w2.drew.heap.size w2.drew w3) :
    NodeMade id n term vote es w (.returned (.tuple #[.pointer (some ⟨w3.heap.size, 0, none⟩), .int .i64 0]))
      (w3.alloc (.cells #[.int .i32 0, .int .u32 0, .int .i64 (id : Int), .int .i64 (n : Int), .int .i64 term, .int .i64 vote, v, .int .i64 0, .int .i64 (-1), .int .i64 0, .int .i64 0, .int .i64 10, .bool false, .bool false, .bool false, .bool false, .bool false, .bool false, .bool false, .int .i64 0, .int .i64 0, .int .i64 0, .int .i64 0, .int .i64 0, .int .i64 0, .int .i64 0, .int .i64 0, .int .i64 0, .int .i64 0, .int .i64 0, .int .i64 0, .int .i64 0, .int .i64 0, .bool false, .bool false, .bool false, .bool false, .bool false, .bool false, .bool false] 76)) := by
  have h3 : Below w2.heap.size w2 w3 := Below.undrew hb3
  have hs : w.heap.size ≤ w3.heap.size := Nat.le_trans hb.size h3.size
  exact ⟨w3.heap.size, v, rfl, hs, heap_alloc_new w3 _, owns_base (hr.alloc _) hb.size, (below_trans hb h3).alloc hs _⟩

set_option maxRecDepth 100000 in
set_option maxHeartbeats 2000000 in
theorem restart_ok (id : Nat) (n : Nat) (term vote : Int) (lv : Value) (es : List Ent) (w : World) (hn1 : 1 ≤ n) (hn2 : n ≤ 7) (h1 : id < n) (hl : EntsIn w lv es)
    (h : ¬ (term < 0 ∨ 1000000 < term ∨ vote < -1 ∨ (n : Int) ≤ vote ∨ 60 < (es.length : Int) ∨ okE es 1 term = false)) :
    Calls Try.prog 23 #[.int .i64 (id : Int), .int .i64 (n : Int), .agg #[.int .i64 term, .int .i64 vote, lv]] w fun e w' => NodeMade id n term vote es w e w' := by
  have hlen : es.length ≤ 60 := by omega
  have hok : okE es 1 term = true := by
    cases hb : okE es 1 term with
    | true => rfl
    | false => exact absurd (.inr (.inr (.inr (.inr (.inr hb))))) h
  have HSZ := hide (okE_sizes hok)
  have HL := hide hl
  obtain ⟨ao, cap, rfl, hl1, hl2⟩ := hl
  clear hl1 hl2 hok
  have H := hide h
  have H0 := hide (And.intro hn1 (And.intro hn2 h1))
  clear hn1 hn2 h1 h
  have hwb := heap_alloc_new w (.cells #[.int .i64 term, .int .i64 vote, .slice ao es.length cap] 58)
  have HB0 := hide (below_alloc w (.cells #[.int .i64 term, .int .i64 vote, .slice ao es.length cap] 58))
  have HWB := hide hwb
  clear hwb
  go_enter Try.func23, Try.ntmps23
  go_wp2_with (first | (go_at_call 45; refine (soundNodes_yes id n _ (by have := (unhide H0).1; omega) (by have := (unhide H0).2.1; omega) (by omega) (by have := (unhide H0).2.2; omega)).mono ?_; rintro e w1 ⟨rfl, rfl⟩) | (go_at_call 46; refine (soundSaved_any term vote n _ es _ (by omega) (by exact ents_below (unhide HL) (unhide HB0)) true (good_saved (unhide H))).mono ?_; rintro e w2 ⟨rfl, hb⟩; replace hb := hide hb))
  have hw2 := ((unhide hb).block w.heap.size (by simp)).trans (unhide HWB)
  have d0 : w2.cell? ⟨w.heap.size, 0, none⟩ = some (.int .i64 term) := cell_of_row w2 w.heap.size 0 _ _ _ hw2
  have d1 : w2.cell? ⟨w.heap.size, 1, none⟩ = some (.int .i64 vote) := cell_of_row w2 w.heap.size 1 _ _ _ hw2
  have d2 : w2.cell? ⟨w.heap.size, 2, none⟩ = some (.slice ao es.length cap) := cell_of_row w2 w.heap.size 2 _ _ _ hw2
  have HB2 := hide (below_trans (unhide HB0) (unhide hb))
  clear hw2 hb HWB HB0
  go_region_held3 (fun w' => w'.cell? ⟨w.heap.size, 0, none⟩ = some (.int .i64 term) ∧ w'.cell? ⟨w.heap.size, 1, none⟩ = some (.int .i64 vote) ∧ w'.cell? ⟨w.heap.size, 2, none⟩ = some (.slice ao es.length cap)) (go_keep) (first | (go_at_call 47; refine (copyEntries_any _ es w2.drew hlen (unhide HSZ) (by exact ents_below (unhide HL) (unhide HB2).drew)).mono ?_; rintro e w3 ⟨v', rfl, hr3, hb3⟩; obtain ⟨vo, vc, rfl⟩ := owns_form hr3; have z0 : w3.cell? ⟨w.heap.size, 0, none⟩ = _ := (hb3.cell (p := ⟨w.heap.size, 0, none⟩) (block_lt_of_cell d0)).trans d0; have z1 : w3.cell? ⟨w.heap.size, 1, none⟩ = _ := (hb3.cell (p := ⟨w.heap.size, 1, none⟩) (block_lt_of_cell d1)).trans d1; have z2 : w3.cell? ⟨w.heap.size, 2, none⟩ = _ := (hb3.cell (p := ⟨w.heap.size, 2, none⟩) (block_lt_of_cell d2)).trans d2; replace hr3 := hide hr3; replace hb3 := hide hb3))
  all_goals go_wp2
  all_goals go_ret2
  all_goals exact node_made (unhide HB2) (unhide hr3) (unhide hb3)

set_option maxRecDepth 100000 in
set_option maxHeartbeats 1000000 in
theorem open_no (id n : Int) (w : World) (h : n < 1 ∨ 7 < n ∨ id < 0 ∨ n ≤ id) :
    Calls Try.prog 22 #[.int .i64 id, .int .i64 n] w fun e w' => e = .returned (.tuple #[.pointer none, .int .i64 1]) ∧ Below w.heap.size w w' := by
  have H := hide h
  clear h
  go_enter Try.func22, Try.ntmps22
  go_wp2_with (go_at_call 23; refine (restart_nodes id n 0 (-1) _ _ (unhide H)).mono ?_; rintro e w1 ⟨rfl, hb⟩; replace hb := hide hb)
  go_ret2
  exact ⟨rfl, unhide hb⟩

set_option maxRecDepth 100000 in
set_option maxHeartbeats 1000000 in
theorem open_ok (id : Nat) (n : Nat) (w : World) (hn1 : 1 ≤ n) (hn2 : n ≤ 7) (h1 : id < n) :
    Calls Try.prog 22 #[.int .i64 (id : Int), .int .i64 (n : Int)] w fun e w' => NodeMade id n 0 (-1) [] w e w' := by
  have hE : EntsIn w (.slice none 0 0) [] := ⟨none, 0, rfl, fun _ => rfl, fun k e hk => by simp at hk⟩
  have HE := hide hE
  have H0 := hide (And.intro hn1 (And.intro hn2 h1))
  have HG : Hid (¬ ((0 : Int) < 0 ∨ (1000000 : Int) < 0 ∨ (-1 : Int) < -1 ∨ (n : Int) ≤ -1 ∨ 60 < (([] : List Ent).length : Int) ∨ okE [] 1 0 = false)) := by
    show ¬ _
    simp [okE]
    omega
  clear hE hn1 hn2 h1
  go_enter Try.func22, Try.ntmps22
  go_wp2_with (go_at_call 23; refine (restart_ok id n 0 (-1) _ [] _ (unhide H0).1 (unhide H0).2.1 (unhide H0).2.2 (unhide HE) (unhide HG)).mono ?_; rintro e w1 ⟨nb, v, rfl, hm⟩; replace hm := hide hm)
  go_ret2
  exact ⟨nb, v, rfl, unhide hm⟩

end Go.Proofs.Yteiecbkfganhnaa
