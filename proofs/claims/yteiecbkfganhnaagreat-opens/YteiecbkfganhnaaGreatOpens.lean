/- The law's Opens. -/
import Derived.Test.YteiecbkfganhnaaGreatRst
import Derived.Test.YteiecbkfganhnaaGreatPlays
namespace Go.Proofs.YteiecbkfganhnaaGreat
open Go.RowKit

theorem both_nodes {id n : Int} (term vote : Int) (es : List Ent) (h : n < 1 ∨ 7 < n ∨ id < 0 ∨ n ≤ id) : BothNo id n term vote es 1 :=
  ⟨fun W lv _ => restart_nodes id n term vote lv W h, fun W lv _ => refRestart_nodes id n term vote lv W h⟩

theorem both_saved {id : Int} {n : Nat} {term vote : Int} {es : List Ent} (hn : es.length * 24 ≤ 140737488351232) (hn1 : 1 ≤ n) (hn2 : n ≤ 7) (h0 : 0 ≤ id) (h1 : id < n) (h : BadSaved term vote n es) : BothNo id n term vote es 2 :=
  ⟨fun W lv hl => restart_saved id n term vote lv es W hn1 hn2 h0 h1 hl (by omega) h, fun W lv hl => refRestart_saved id n term vote lv es W hn1 hn2 h0 h1 hl (by omega) h⟩

theorem both_made {id : Int} {n : Nat} {term vote : Int} {es : List Ent} (hn1 : 1 ≤ n) (hn2 : n ≤ 7) (h0 : 0 ≤ id) (h1 : id < n) (h : ¬ BadSaved term vote n es) : BothMade id n term vote es :=
  ⟨fun W lv hl => restart_okE id n term vote lv es W hn1 hn2 h0 h1 hl h, fun W lv hl => refRestart_ok id n term vote lv es W hn1 hn2 h0 h1 hl h⟩

theorem made_small {term vote n : Int} {es : List Ent} (h : ¬ BadSaved term vote n es) : es.length ≤ 60 ∧ ∀ e ∈ es, e.2.size ≤ 20 := by
  refine ⟨?_, okE_sizes (low := 1) (high := term) ?_⟩
  · have : ¬ 60 < (es.length : Int) := fun q => h (.inr (.inr (.inr (.inr (.inl q)))))
    omega
  · cases hb : okE es 1 term with
    | true => rfl
    | false => exact absurd (.inr (.inr (.inr (.inr (.inr hb))))) h

theorem gm_gq {i gb nb rb : Nat} {w : World} {tg : Tags} {id n : Int} {c : CN} {r : RN} {es : List Ent} {b : BV} (h : Gm i gb nb rb w tg id n c r es b [] 0 [] 0) : Gq i gb w tg 0 :=
  ⟨nb, rb, id, n, c, r, es, b, [], [], h, Nat.le_refl _, Nat.le_refl _⟩

abbrev scrB (a : Int) : Obj := .cells #[.int .i64 2, .int .i64 a, .int .i64 0, .int .i64 0, .int .i64 0, .int .i64 0, .int .i64 0, .int .i64 0, .int .i64 0, .int .i64 0, .slice none 0 0, .bool false, .string ⟨#[]⟩, .int .i64 0, .int .i64 1, .int .i64 0, .int .i64 0, .int .i64 0, .int .i64 0, .int .i64 0, .int .i64 0, .int .i64 0, .int .i64 0, .int .i64 0, .slice none 0 0, .bool false, .string ⟨#[]⟩, .int .i64 1, .int .i64 2, .int .i64 a, .int .i64 0, .int .i64 0, .int .i64 0, .int .i64 0, .int .i64 0, .int .i64 0, .int .i64 0, .int .i64 0, .slice none 0 0, .bool false, .string ⟨#[]⟩, .int .i64 1] 32

theorem script_loc (w : World) (tg : Tags) (a : Int) : Loc (w.alloc (scrB a)) (newTag w.heap.size tg (0, 1)) w.heap.size (scriptC a) 32 := Loc.new w tg (scriptC a) _

abbrev tg00 : Tags := fun _ => (0, 0)

theorem agm_below {w w' : World} {tg : Tags} (h : Stp Agm w tg00 w' tg) : Below w.heap.size w w' := by
  refine ⟨h.os, h.tape, h.output, h.size, fun k hk => (h.keep k hk ?_).1⟩
  rintro ((⟨u1, u2⟩ | u) | (⟨u1, u2⟩ | u))
  · simp at u1
  · simp at u
  · simp at u1
  · simp at u

set_option maxRecDepth 100000 in
set_option maxHeartbeats 2000000 in
theorem opens_no (id : Int) (n : Int) (term vote a : Int) (lv : Value) (es : List Ent) (w : World) (hn : es.length * 24 ≤ 140737488351232) (hl : EntsIn w lv es) (h : n < 1 ∨ 7 < n ∨ id < 0 ∨ n ≤ id) :
    Calls Tryz.prog 3 #[.int .i64 id, .int .i64 n, .agg #[.int .i64 term, .int .i64 vote, lv], .int .i64 a] w fun e w' => e = .returned (.bool true) ∧ Below w.heap.size w w' := by
  have HL := hide hl
  obtain ⟨ao, cap, rfl, hl1, hl2⟩ := hl
  clear hl1 hl2
  have H := hide h
  clear h
  have hsb := hide (heap_alloc_new w (savedB term vote (.slice ao es.length cap)))
  have HA := hide (below_alloc w (savedB term vote (.slice ao es.length cap)))
  go_enter Tryz.func3, Tryz.ntmps3
  go_wp2_with fail
  generalize w.alloc (savedB term vote (.slice ao es.length cap)) = wA at *
  refine (opened_no id n wA (unhide H)).mono ?_
  rintro e w1 ⟨rfl, hb1⟩
  have s0 : w1.cell? ⟨w.heap.size, 0, none⟩ = some (.int .i64 term) := rst_cell (unhide hsb) 0 hb1 rfl
  have s1 : w1.cell? ⟨w.heap.size, 1, none⟩ = some (.int .i64 vote) := rst_cell (unhide hsb) 1 hb1 rfl
  have s2 : w1.cell? ⟨w.heap.size, 2, none⟩ = some (.slice ao es.length cap) := rst_cell (unhide hsb) 2 hb1 rfl
  have HB1 := hide (below_trans (unhide HA) hb1)
  clear hb1
  go_wp2_with fail
  refine (rst_bad id n term vote 1 _ es w1 hn (ents_below (unhide HL) (unhide HB1)) (both_nodes term vote es (unhide H))).mono ?_
  rintro e w2 ⟨rfl, hb2⟩
  have HB2 := hide (below_trans (unhide HB1) hb2)
  clear hb2 s0 s1 s2
  go_wp2_with fail
  have L3 := hide (script_loc w2 tg00 a)
  have HB3 := hide (below_trans (unhide HB2) (below_alloc w2 (scrB a)))
  generalize w2.alloc (scrB a) = w3 at *
  refine (plays_none w3 _ _ a (unhide L3)).mono ?_
  rintro e w4 ⟨rfl, rfl⟩
  go_wp2
  go_ret
  exact ⟨rfl, unhide HB3⟩

set_option maxRecDepth 100000 in
set_option maxHeartbeats 2000000 in
theorem opens_one (id : Int) (n : Nat) (term vote a : Int) (lv : Value) (es : List Ent) (w : World) (hn : es.length * 24 ≤ 140737488351232) (hl : EntsIn w lv es) (hn1 : 1 ≤ n) (hn2 : n ≤ 7) (h0 : 0 ≤ id) (h1 : id < n) (h : BadSaved term vote n es) :
    Calls Tryz.prog 3 #[.int .i64 id, .int .i64 n, .agg #[.int .i64 term, .int .i64 vote, lv], .int .i64 a] w fun e w' => e = .returned (.bool true) ∧ Below w.heap.size w w' := by
  have HL := hide hl
  obtain ⟨ao, cap, rfl, hl1, hl2⟩ := hl
  clear hl1 hl2
  have H := hide h
  clear h
  have H0 := hide (And.intro hn1 (And.intro hn2 (And.intro h0 h1)))
  clear hn1 hn2 h0 h1
  have hsb := hide (heap_alloc_new w (savedB term vote (.slice ao es.length cap)))
  have HA := hide (below_alloc w (savedB term vote (.slice ao es.length cap)))
  go_enter Tryz.func3, Tryz.ntmps3
  go_wp2_with fail
  generalize w.alloc (savedB term vote (.slice ao es.length cap)) = wA at *
  refine (opened_ok 0 id n wA (newTag w.heap.size tg00 (0, 1)) (unhide H0).1 (unhide H0).2.1 (unhide H0).2.2.1 (unhide H0).2.2.2).mono ?_
  rintro e w1 ⟨gb, nb, rb, c, r, b, tg1, rfl, hG1, hS1, hb1⟩
  have S1 := hide ((Stp.ofBelow (unhide HA) tg00 (0, 1)).trans hS1)
  have G1 := hide (gm_gq hG1)
  clear hG1 hS1
  have s0 : w1.cell? ⟨w.heap.size, 0, none⟩ = some (.int .i64 term) := rst_cell (unhide hsb) 0 hb1 rfl
  have s1 : w1.cell? ⟨w.heap.size, 1, none⟩ = some (.int .i64 vote) := rst_cell (unhide hsb) 1 hb1 rfl
  have s2 : w1.cell? ⟨w.heap.size, 2, none⟩ = some (.slice ao es.length cap) := rst_cell (unhide hsb) 2 hb1 rfl
  have HB1 := hide (below_trans (unhide HA) hb1)
  clear hb1
  go_wp2_with fail
  refine (rst_bad id n term vote 2 _ es w1 hn (ents_below (unhide HL) (unhide HB1)) (both_saved hn (unhide H0).1 (unhide H0).2.1 (unhide H0).2.2.1 (unhide H0).2.2.2 (unhide H))).mono ?_
  rintro e w2 ⟨rfl, hb2⟩
  have hS2 : Stp (fun _ => False) w1 tg1 w2 _ := Stp.ofBelow hb2 tg1 (0, 1)
  have G2 := hide ((unhide G1).quiet hS2)
  have S2 := hide ((unhide S1).trans hS2)
  clear hb2 hS2 s0 s1 s2
  go_wp2_with fail
  have hS3 : Stp (fun _ => False) w2 _ (w2.alloc (scrB a)) _ := Stp.alloc w2 (newTag w1.heap.size tg1 (0, 1)) (scrB a) (0, 1)
  have L3 := hide (script_loc w2 (newTag w1.heap.size tg1 (0, 1)) a)
  have G3 := hide ((unhide G2).quiet hS3)
  have S3 := hide ((unhide S2).trans hS3)
  clear hS3
  generalize w2.alloc (scrB a) = w3 at *
  refine (plays_one w3 _ _ gb a (unhide L3) (unhide G3)).mono ?_
  rintro e w4 ⟨rfl, tg4, hS4⟩
  have HB4 := hide (agm_below (((unhide S3).mono (B := Agm) (fun _ h => h.elim)).trans hS4))
  clear hS4
  go_wp2
  go_ret
  exact ⟨rfl, unhide HB4⟩

set_option maxRecDepth 100000 in
set_option maxHeartbeats 2000000 in
theorem opens_both (id : Int) (n : Nat) (term vote a : Int) (lv : Value) (es : List Ent) (w : World) (hn : es.length * 24 ≤ 140737488351232) (hl : EntsIn w lv es) (hn1 : 1 ≤ n) (hn2 : n ≤ 7) (h0 : 0 ≤ id) (h1 : id < n) (h : ¬ BadSaved term vote n es) :
    Calls Tryz.prog 3 #[.int .i64 id, .int .i64 n, .agg #[.int .i64 term, .int .i64 vote, lv], .int .i64 a] w fun e w' => e = .returned (.bool true) ∧ Below w.heap.size w w' := by
  have HL := hide hl
  obtain ⟨ao, cap, rfl, hl1, hl2⟩ := hl
  clear hl1 hl2
  have H := hide h
  clear h
  have H0 := hide (And.intro hn1 (And.intro hn2 (And.intro h0 h1)))
  clear hn1 hn2 h0 h1
  have hsb := hide (heap_alloc_new w (savedB term vote (.slice ao es.length cap)))
  have HA := hide (below_alloc w (savedB term vote (.slice ao es.length cap)))
  go_enter Tryz.func3, Tryz.ntmps3
  go_wp2_with fail
  generalize w.alloc (savedB term vote (.slice ao es.length cap)) = wA at *
  refine (opened_ok 0 id n wA (newTag w.heap.size tg00 (0, 1)) (unhide H0).1 (unhide H0).2.1 (unhide H0).2.2.1 (unhide H0).2.2.2).mono ?_
  rintro e w1 ⟨gb, nb, rb, c, r, b, tg1, rfl, hG1, hS1, hb1⟩
  have S1 := hide ((Stp.ofBelow (unhide HA) tg00 (0, 1)).trans hS1)
  have G1 := hide (gm_gq hG1)
  clear hG1 hS1
  have s0 : w1.cell? ⟨w.heap.size, 0, none⟩ = some (.int .i64 term) := rst_cell (unhide hsb) 0 hb1 rfl
  have s1 : w1.cell? ⟨w.heap.size, 1, none⟩ = some (.int .i64 vote) := rst_cell (unhide hsb) 1 hb1 rfl
  have s2 : w1.cell? ⟨w.heap.size, 2, none⟩ = some (.slice ao es.length cap) := rst_cell (unhide hsb) 2 hb1 rfl
  have HB1 := hide (below_trans (unhide HA) hb1)
  clear hb1
  go_wp2_with fail
  refine (rst_good 1 id n term vote _ es w1 hn (ents_below (unhide HL) (unhide HB1)) tg1 (made_small (unhide H)).1 (made_small (unhide H)).2 (both_made (unhide H0).1 (unhide H0).2.1 (unhide H0).2.2.1 (unhide H0).2.2.2 (unhide H))).mono ?_
  rintro e w2 ⟨hb, nb2, rb2, c2, r2, b2, tg2, rfl, hG2, hS2, _⟩
  have G2 := hide ((unhide G1).quiet hS2)
  have H2 := hide (gm_gq hG2)
  have S2 := hide ((unhide S1).trans hS2)
  clear hG2 hS2 s0 s1 s2
  go_wp2_with fail
  have hS3 : Stp (fun _ => False) w2 _ (w2.alloc (scrB a)) _ := Stp.alloc w2 tg2 (scrB a) (0, 1)
  have L3 := hide (script_loc w2 tg2 a)
  have G3 := hide ((unhide G2).quiet hS3)
  have H3 := hide ((unhide H2).quiet hS3)
  have S3 := hide ((unhide S2).trans hS3)
  clear hS3
  generalize w2.alloc (scrB a) = w3 at *
  refine (plays_both w3 _ _ gb hb a (unhide L3) (unhide G3) (unhide H3)).mono ?_
  rintro e w4 ⟨rfl, tg4, hS4⟩
  have HB4 := hide (agm_below (((unhide S3).mono (B := Agm) (fun _ h => h.elim)).trans hS4))
  clear hS4
  go_wp2
  go_ret
  exact ⟨rfl, unhide HB4⟩

theorem opens_any (id n term vote a : Int) (lv : Value) (es : List Ent) (w : World) (hn : es.length * 24 ≤ 140737488351232) (hl : EntsIn w lv es) :
    Calls Tryz.prog 3 #[.int .i64 id, .int .i64 n, .agg #[.int .i64 term, .int .i64 vote, lv], .int .i64 a] w fun e w' => e = .returned (.bool true) ∧ Below w.heap.size w w' := by
  by_cases h : n < 1 ∨ 7 < n ∨ id < 0 ∨ n ≤ id
  · exact opens_no id n term vote a lv es w hn hl h
  · obtain ⟨m, rfl⟩ := Int.eq_ofNat_of_zero_le (show 0 ≤ n by omega)
    by_cases hb : BadSaved term vote m es
    · exact opens_one id m term vote a lv es w hn hl (by omega) (by omega) (by omega) (by omega) hb
    · exact opens_both id m term vote a lv es w hn hl (by omega) (by omega) (by omega) (by omega) hb

end Go.Proofs.YteiecbkfganhnaaGreat
