/- A game's step: the node stops, Restart with what it saves gives another; The document's node: stepAppendReply of a later term, or one that comes too late; numbers of one node. -/
import Derived.Test.YteiecbkfganhnaaGreatKGl
import Derived.Test.YteiecbkfganhnaaGreatKInvC

namespace Go.Proofs.YteiecbkfganhnaaGreat

open Go.RowKit Go.MuLone

section

variable (i gb nb rb : Nat) (w : World) (tg : Tags) (id n : Nat) (s t : Nd) (lv : Value) (v : RV) (b : BV) (l : List (List Ent)) (lm : List (List Msg)) (l2 : List (List ByteArray)) (ne nm nt K : Nat)

set_option maxRecDepth 100000 in
set_option maxHeartbeats 2000000 in
theorem grestarts_any (h : Gx i gb nb rb w tg id n s t lv v b l lm l2 ne nm nt) (hi : i ≤ 1) (hp : Pair id n s t) (hl : l.length ≤ 1000) :
    Calls Tryz.prog 35 #[.pointer (some ⟨gb, 0, none⟩)] w fun e w' => e = .returned (.bool true) ∧ ∃ nb' rb' lv' v' b' tg', Gx i gb nb' rb' w' tg' id n (Nd.made id n s.term s.vote s.log) (Nd.made id n s.term s.vote s.log) lv' v' b' (l ++ [s.log]) lm l2 ne nm nt ∧ Stp (Abook i) w tg w' tg' := by
  have c2 := h.c2
  have hes : s.log.length ≤ 60 := hp.ok.len
  have HSZ : Hid (∀ e ∈ s.log, e.2.size ≤ 20) := okE_sizes hp.ok.log
  have HBN : Hid (BothNd id n s.term s.vote s.log) := by
    show BothNd _ _ _ _ _
    have h4 := hp.ok.saved
    have h1 := hp.ok.n1
    have h2 := hp.ok.n7
    have h3 := hp.ok.id
    rw [hp.en] at h1 h2 h3 h4
    rw [hp.eid] at h3
    exact both_nd h1 h2 h3 h4
  have HP := hide hp
  have G0 := hide h
  obtain ⟨es, hesd⟩ : ∃ es, s.log = es := ⟨_, rfl⟩
  have HES := hide hesd
  rw [hesd] at hes HSZ HBN
  clear h hp hesd
  go_enter Tryz.func35, Tryz.ntmps35
  go_wp2_with fail
  refine (saved_any nb s lv es w (unhide G0).N (by rw [← unhide HES]; exact (unhide G0).L.ents) hes (unhide HSZ)).mono ?_
  rintro e w1 ⟨v1, rfl, ho1, hb1⟩
  obtain ⟨x1, y1, rfl⟩ := owns_form ho1
  have S1 : Stp (fun _ => False) w tg w1 (newTag w.heap.size tg (tLE i l.length)) := Stp.ofBelow hb1 tg _
  have V1 := Own.fresh tg (tLE i l.length) ho1
  have G1 := (unhide G0).quiet S1
  generalize newTag w.heap.size tg (tLE i l.length) = tg1 at *
  have A2 : Loc (w1.alloc (.cells #[.int .i64 s.term, .int .i64 s.vote, .slice x1 es.length y1] 24)) (newTag w1.heap.size tg1 (0, 1)) w1.heap.size #[.int .i64 s.term, .int .i64 s.vote, .slice x1 es.length y1] 24 := Loc.new _ _ _ _
  have S2 : Stp (fun _ => False) w1 tg1 (w1.alloc (.cells #[.int .i64 s.term, .int .i64 s.vote, .slice x1 es.length y1] 24)) (newTag w1.heap.size tg1 (0, 1)) := Stp.alloc w1 tg1 _ _
  have G2 := G1.quiet S2
  have V2 := hide (V1.step S2 (fun h => h))
  have c3 := G2.c3
  replace S2 := hide (S1.trans S2)
  replace A2 := hide A2
  replace G2 := hide G2
  clear ho1 hb1 c2 S1 V1 G1
  generalize newTag w1.heap.size tg1 (0, 1) = tg2 at *
  go_wp2_with fail
  generalize w1.alloc (.cells #[.int .i64 s.term, .int .i64 s.vote, .slice x1 es.length y1] 24) = W2 at *
  generalize w1.heap.size = A at *
  refine (refSaved_tw rb s t v W2 (unhide G2).R (unhide HP).tw (by rw [unhide HES]; exact hes)).mono ?_
  rw [unhide HES]
  rintro e w3 ⟨v3, rfl, ho3, hb3⟩
  obtain ⟨x3, y3, rfl⟩ := owns_form ho3
  have S3 : Stp (fun _ => False) W2 tg2 w3 (newTag W2.heap.size tg2 (0, 1)) := Stp.ofBelow hb3 tg2 _
  have U3 := Own.fresh tg2 (0, 1) ho3
  have G3 := (unhide G2).quiet S3
  have A3 := (unhide A2).step S3 (fun h => h)
  have V3 := (unhide V2).step S3 (fun h => h)
  generalize newTag W2.heap.size tg2 (0, 1) = tg3 at *
  have B4 : Loc (w3.alloc (.cells #[.int .i64 s.term, .int .i64 s.vote, .slice x3 es.length y3] 24)) (newTag w3.heap.size tg3 (0, 1)) w3.heap.size #[.int .i64 s.term, .int .i64 s.vote, .slice x3 es.length y3] 24 := Loc.new _ _ _ _
  have S4 : Stp (fun _ => False) w3 tg3 (w3.alloc (.cells #[.int .i64 s.term, .int .i64 s.vote, .slice x3 es.length y3] 24)) (newTag w3.heap.size tg3 (0, 1)) := Stp.alloc w3 tg3 _ _
  have G4 := hide (G3.quiet S4)
  have A4 := A3.step S4 (fun h => h)
  have V4 := hide (V3.step S4 (fun h => h))
  have U4 := hide (U3.step S4 (fun h => h))
  have a0 := A4.cell 0
  have a1 := A4.cell 1
  have a2 := A4.cell 2
  have b0 := B4.cell 0
  have b1 := B4.cell 1
  have b2 := B4.cell 2
  simp only [List.getElem?_toArray, List.getElem?_cons_zero, List.getElem?_cons_succ] at a0 a1 a2 b0 b1 b2
  replace S4 := hide (((unhide S2).trans S3).trans S4)
  replace A4 := hide A4
  replace B4 := hide B4
  clear ho3 hb3 S2 S3 G2 A2 V2 U3 G3 A3 V3 c3
  generalize newTag w3.heap.size tg3 (0, 1) = tg4 at *
  go_wp2_with fail
  generalize w3.alloc (.cells #[.int .i64 s.term, .int .i64 s.vote, .slice x3 es.length y3] 24) = W4 at *
  generalize w3.heap.size = Bb at *
  refine (sameSaved_eq s.term s.vote _ _ es W4 hes (ents_of_owns (unhide V4).1) (ents_of_owns (unhide U4).1)).mono ?_
  rintro e w5 ⟨rfl, hb5⟩
  have S5 : Stp (fun _ => False) W4 tg4 w5 (newTag W4.heap.size tg4 (0, 1)) := Stp.ofBelow hb5 tg4 _
  have S5d := S5.trans (Stp.drew1 _ w5 (newTag W4.heap.size tg4 (0, 1)))
  have G5 := hide ((unhide G4).quiet S5d)
  have A5' := (unhide A4).step S5 (fun h => h)
  have A5 := hide ((unhide A4).step S5d (fun h => h))
  have B5 := hide ((unhide B4).step S5d (fun h => h))
  have V5 := hide ((unhide V4).step S5d (fun h => h))
  have U5 := hide ((unhide U4).step S5d (fun h => h))
  have a2' : w5.cell? ⟨A, 2, none⟩ = some (.slice x1 es.length y1) := A5'.cell 2
  replace S5 := hide ((unhide S4).trans S5d)
  clear hb5 S4 S5d G4 A4 B4 V4 U4 A5' a0 a1 a2 b0 b1 b2
  generalize newTag W4.heap.size tg4 (0, 1) = tg5 at *
  go_wp2_with fail
  go_region_held3 (fun w' => w'.cell? ⟨A, 2, none⟩ = some (.slice x1 es.length y1)) (first | go_keep | exact a6) (first | (go_at_call 44; refine (keepEntries_any i gb w5.drew tg5 _ _ _ _ b l _ es (unhide G5).B.G (unhide G5).B.g (unhide G5).B.E (unhide V5) (by omega) (by omega)).mono ?_; rintro e w6 ⟨rfl, hk6⟩; obtain ⟨b6, tg6, hB6, hS6⟩ := bm_keptE (unhide G5).B hk6; have a6 : w6.cell? ⟨A, 2, none⟩ = some (.slice x1 es.length y1) := ((unhide A5).step hS6 (by simp [Abook])).cell 2; replace hB6 := hide hB6; replace hS6 := hide hS6; clear hk6))
  have G6 := hide ((unhide G5).book (unhide hS6) (fun k => not_book i k hi) (unhide hB6))
  have B6 := (unhide B5).step (unhide hS6) (book0 i 1)
  have U6 := hide ((unhide U5).step (unhide hS6) (book0 i 1))
  have S6 := hide (((unhide S5).mono (B := Abook i) (fun _ h => h.elim)).trans (unhide hS6))
  have g0 := (unhide G6).B.G.c0
  have g1 := (unhide G6).B.G.c1
  have b0 : w6.cell? ⟨Bb, 0, none⟩ = some (.int .i64 s.term) := B6.cell 0
  have b1 : w6.cell? ⟨Bb, 1, none⟩ = some (.int .i64 s.vote) := B6.cell 1
  have b2 : w6.cell? ⟨Bb, 2, none⟩ = some (.slice x3 es.length y3) := B6.cell 2
  have HE6 : Hid (EntsIn w6.drew (.slice x3 es.length y3) es) := ents_of_owns (unhide U6).1
  have G6d := hide ((unhide G6).quiet (Stp.drew1 _ _ _))
  have S6d := hide ((unhide S6).trans (Stp.drew1 _ _ _))
  replace B6 := hide B6
  clear hB6 hS6 a6 a2' G5 A5 B5 V5 U5 S5
  go_wp2_with fail
  go_region_held3 (fun w' => w'.cell? ⟨gb, 0, none⟩ = some (.int .i64 (id : Int)) ∧ w'.cell? ⟨gb, 1, none⟩ = some (.int .i64 (n : Int)) ∧ w'.cell? ⟨Bb, 0, none⟩ = some (.int .i64 s.term) ∧ w'.cell? ⟨Bb, 1, none⟩ = some (.int .i64 s.vote) ∧ w'.cell? ⟨Bb, 2, none⟩ = some (.slice x3 es.length y3)) (first | go_keep | exact ⟨k0, k1, k2, k3, k4⟩) (first | (go_at_call 8; refine (rst_gm id n s.term s.vote _ es w6.drew (by omega) (unhide HE6) (unhide HBN)).mono ?_; rintro e w7 ⟨hb7, nb7, rb7, M7, lv7, v7, rfl, hm7⟩; have k0 := (hm7.B.cell (block_lt_of_cell g0)).trans g0; have k1 := (hm7.B.cell (block_lt_of_cell g1)).trans g1; have k2 := (hm7.B.cell (block_lt_of_cell b0)).trans b0; have k3 := (hm7.B.cell (block_lt_of_cell b1)).trans b1; have k4 := (hm7.B.cell (block_lt_of_cell b2)).trans b2; have m2 := hm7.G.c2; have m3 := hm7.G.c3; have hne7 : ¬ gb = hb7 := (by have h1 := (unhide G6d).B.G.lt; have h2 := hm7.m0; have h3 := hm7.h0; omega); have q2 := ((unhide G6d).B.step (hm7.stp (i := i) (T := (0, 1)) (tg := tg6) (fun _ => False)) (fun _ _ h => h) (fun h => h)).G.c2; have f2 := frozen_of_row w7 gb 2 _ _ ((unhide G6d).B.step (hm7.stp (i := i) (T := (0, 1)) (tg := tg6) (fun _ => False)) (fun _ _ h => h) (fun h => h)).G; have q3 := ((unhide G6d).B.step (hm7.stp (i := i) (T := (0, 1)) (tg := tg6) (fun _ => False)) (fun _ _ h => h) (fun h => h)).G.c3; have f3 := frozen_of_row w7 gb 3 _ _ ((unhide G6d).B.step (hm7.stp (i := i) (T := (0, 1)) (tg := tg6) (fun _ => False)) (fun _ _ h => h) (fun h => h)).G; replace hm7 := hide hm7))
  obtain ⟨G8, S8⟩ := (unhide G6d).renew hi (unhide hm7)
  replace G8 := hide G8
  replace S8 := hide ((unhide S6d).trans S8)
  go_wp2
  go_ret
  exact ⟨rfl, nb7, rb7, lv7, v7, b6, _, by rw [unhide HES]; exact unhide G8, unhide S8⟩

set_option maxRecDepth 100000 in
set_option maxHeartbeats 1000000 in
theorem gstep_restart (a q x : Int) (m : Msg) (ev : Value) (c : ByteArray) (E : Int) (h : Gx i gb nb rb w tg id n s t lv v b l lm l2 ne nm nt) (hi : i ≤ 1) (hp : Pair id n s t) (hb : (l.length ≤ 7 ∧ lm.length ≤ 7 ∧ l2.length ≤ 7) ∧ ne ≤ K ∧ nm ≤ K ∧ nt ≤ K) (hE : s.elapsed ≤ E) (hev : ∃ ao n c, ev = .slice ao n c) :
    Calls Tryz.prog 18 #[.pointer (some ⟨gb, 0, none⟩), stepA 6 a q m ev c x] w fun e w' => e = .returned (.bool true) ∧ GDone i gb w tg id n K E w' := by
  obtain ⟨eo, en, ec, rfl⟩ := hev
  have S1 : Stp (fun _ => False) w tg (w.alloc (stepB 6 a q m (.slice eo en ec) c x)) (newTag w.heap.size tg (0, 1)) := Stp.alloc w tg _ _
  have G1 := hide (h.quiet S1)
  replace S1 := hide S1
  have HP := hide hp
  have HB := hide hb
  clear h hp hb
  generalize newTag w.heap.size tg (0, 1) = tg1 at *
  go_enter Tryz.func18, Tryz.ntmps18
  go_wp2_with (go_at_call 35; fail)
  generalize w.alloc (stepB 6 a q m (.slice eo en ec) c x) = W1 at *
  refine (grestarts_any i gb nb rb W1 tg1 id n s t lv v b l lm l2 ne nm nt (unhide G1) hi (unhide HP) (by have := (unhide HB).1.1; omega)).mono ?_
  rintro e w2 ⟨rfl, nb2, rb2, lv2, v2, b2, tg2, hG2, hS2⟩
  have G2 := hide hG2
  have S2 := hide (((unhide S1).mono (B := Agame i) (fun _ h => h.elim)).trans (hS2.mono agame_b))
  clear hG2 hS2 G1 S1
  go_wp2
  go_ret
  have hB := unhide HB
  have he0 := (unhide HP).ok.e0
  exact ⟨rfl, tg2, _, _, ⟨nb2, rb2, lv2, v2, b2, _, lm, _, ne, nm, nt, unhide G2, ⟨by simp; omega, by omega, by omega⟩, hB.2⟩, (unhide HP).made, by show (0 : Int) ≤ _; omega, unhide S2⟩

end

end Go.Proofs.YteiecbkfganhnaaGreat

namespace Go.Proofs.YteiecbkfganhnaaGreat

open Go.RowKit Go.MuLone

theorem RB.nxAt {w : World} {rb i : Nat} {s : Nd} {v : RV} {out : List (Msg × Value)} (h : RB w rb s v out) (hi : i < s.n) : ∃ g c, v.nv = .slice (some ⟨g, 0, none⟩) s.n c ∧ w.frozen? ⟨g, i, none⟩ = false ∧ w.cell? ⟨g, i, none⟩ = some (.int .i64 (s.nx i : Int)) ∧ g < w.heap.size ∧ g ≠ rb := by
  obtain ⟨no, nc, hnv⟩ := owns_form h.nx
  have hnx := h.nx
  rw [hnv] at hnx
  obtain ⟨g, rfl, hz, hcell⟩ := owns_at hnx (j := i) (by rw [nC_length]; exact hi)
  refine ⟨g, nc, hnv, hz, ?_, owns_lt hnx _ rfl, fun e => owns_apart h.nx h.blk (by decide) (by rw [hnv, e]; rfl)⟩
  rw [hcell]
  have h4 := nC_get s.nx hi
  rwa [List.getElem?_eq_getElem (by rw [nC_length]; exact hi)] at h4

theorem RB.mtAt {w : World} {rb i : Nat} {s : Nd} {v : RV} {out : List (Msg × Value)} (h : RB w rb s v out) (hi : i < s.n) : ∃ g c, v.mv = .slice (some ⟨g, 0, none⟩) s.n c ∧ w.frozen? ⟨g, i, none⟩ = false ∧ w.cell? ⟨g, i, none⟩ = some (.int .i64 (s.mt i : Int)) ∧ g < w.heap.size ∧ g ≠ rb := by
  obtain ⟨no, nc, hnv⟩ := owns_form h.mt
  have hnx := h.mt
  rw [hnv] at hnx
  obtain ⟨g, rfl, hz, hcell⟩ := owns_at hnx (j := i) (by rw [nC_length]; exact hi)
  refine ⟨g, nc, hnv, hz, ?_, owns_lt hnx _ rfl, fun e => owns_apart h.mt h.blk (by decide) (by rw [hnv, e]; rfl)⟩
  rw [hcell]
  have h4 := nC_get s.mt hi
  rwa [List.getElem?_eq_getElem (by rw [nC_length]; exact hi)] at h4

theorem RB.hdAt {w : World} {rb i : Nat} {s : Nd} {v : RV} {out : List (Msg × Value)} (h : RB w rb s v out) (hi : i < s.n) : ∃ g c, v.hv = .slice (some ⟨g, 0, none⟩) s.n c ∧ w.frozen? ⟨g, i, none⟩ = false ∧ w.cell? ⟨g, i, none⟩ = some (.bool (s.hd i)) ∧ g < w.heap.size ∧ g ≠ rb := by
  obtain ⟨no, nc, hnv⟩ := owns_form h.hd
  have hnx := h.hd
  rw [hnv] at hnx
  obtain ⟨g, rfl, hz, hcell⟩ := owns_at hnx (j := i) (by rw [bC_length]; exact hi)
  refine ⟨g, nc, hnv, hz, ?_, owns_lt hnx _ rfl, fun e => owns_apart h.hd h.blk (by decide) (by rw [hnv, e]; rfl)⟩
  rw [hcell]
  have h4 := bC_get s.hd hi
  rwa [List.getElem?_eq_getElem (by rw [bC_length]; exact hi)] at h4

set_option maxRecDepth 100000 in
set_option maxHeartbeats 1000000 in
theorem refStepAppendReply_later (rb : Nat) (s : Nd) (v : RV) (m : Msg) (ev : Value) (w : World) (h : RB w rb s v []) (hev : ∃ ao n c, ev = .slice ao n c) (h1 : s.term < m.term) :
    Calls Tryz.prog 77 #[.pointer (some ⟨rb, 0, none⟩), magg m ev] w fun e w' => e = .returned (.tuple #[]) ∧ RDid rb v [] w (s.stepAppendReply m) w' := by
  obtain ⟨eo, en, ec, rfl⟩ := hev
  obtain ⟨mk, mf, mt, mT, mi, ml, mc, me, mg⟩ := m
  simp only at h1
  have HB := hide (below_alloc w (.cells #[.int .i64 mk, .int .i64 mf, .int .i64 mt, .int .i64 mT, .int .i64 mi, .int .i64 ml, .int .i64 mc, .slice eo en ec, .bool mg] 30))
  have H := hide (h.below (unhide HB))
  have hlt := h.lt
  have hne : ¬ rb = w.heap.size := by omega
  have c2 := h.c2
  clear h
  have HA : Hid (s.stepAppendReply ⟨mk, mf, mt, mT, mi, ml, mc, me, mg⟩ = (s.follow mT (-1), [])) := by show _ = _; simp [Nd.stepAppendReply, h1]
  have d1 : decide (s.term < mT) = true := decide_eq_true h1
  go_enter Tryz.func77, Tryz.ntmps77
  go_wp2
  go_quiet (fail)
  go_wp2_with (go_at_call 60; refine (refFollow_any rb s v [] mT (-1) _ (RB.drewN (unhide H) _)).mono ?_; rintro e w3 ⟨rfl, hR3, hE3⟩; replace hR3 := hide hR3; replace hE3 := hide hE3)
  refine bodyPost_ret (v := .tuple #[]) (results_none rfl _ _ _) rfl ⟨rfl, ?_⟩
  rw [unhide HA]
  exact ⟨[], rfl, v, unhide hR3, ((Er.ofBelow (unhide HB)).drewN _).trans (unhide hE3)⟩

set_option maxRecDepth 100000 in
set_option maxHeartbeats 1000000 in
theorem refStepAppendReply_past (rb : Nat) (s : Nd) (v : RV) (m : Msg) (ev : Value) (w : World) (h : RB w rb s v []) (hev : ∃ ao n c, ev = .slice ao n c) (h0 : ¬ s.term < m.term) (hx : ¬ (s.role = 3 ∧ m.term = s.term)) :
    Calls Tryz.prog 77 #[.pointer (some ⟨rb, 0, none⟩), magg m ev] w fun e w' => e = .returned (.tuple #[]) ∧ RDid rb v [] w (s.stepAppendReply m) w' := by
  obtain ⟨eo, en, ec, rfl⟩ := hev
  obtain ⟨mk, mf, mt, mT, mi, ml, mc, me, mg⟩ := m
  simp only at h0 hx
  have HB := hide (below_alloc w (.cells #[.int .i64 mk, .int .i64 mf, .int .i64 mt, .int .i64 mT, .int .i64 mi, .int .i64 ml, .int .i64 mc, .slice eo en ec, .bool mg] 30))
  have H := hide (h.below (unhide HB))
  have hlt := h.lt
  have hne : ¬ rb = w.heap.size := by omega
  have c2 := h.c2
  have c6 := h.c6
  clear h
  have HA : Hid (s.stepAppendReply ⟨mk, mf, mt, mT, mi, ml, mc, me, mg⟩ = (s, [])) := by show _ = _; simp only [Nd.stepAppendReply]; rw [if_neg h0, if_neg hx]
  have d1 : decide (s.term < mT) = false := decide_eq_false h0
  by_cases h1 : s.role = 3
  · have b1 : (s.role != 3) = false := by simp [h1]
    have b2 : (mT != s.term) = true := by simp; intro e; exact hx ⟨h1, e⟩
    clear h1 hx
    go_enter Tryz.func77, Tryz.ntmps77
    go_wp2
    go_quiet (fail)
    go_wp2
    revert nq
    intro n1
    go_quiet (fail)
    go_wp2
    refine bodyPost_ret (v := .tuple #[]) (results_none rfl _ _ _) rfl ⟨rfl, ?_⟩
    rw [unhide HA]
    exact ⟨[], rfl, v, RB.drewN (RB.drewN (unhide H) _) _, ((Er.ofBelow (unhide HB)).drewN _).drewN _⟩
  · have b1 : (s.role != 3) = true := by simp [h1]
    clear h1 hx
    go_enter Tryz.func77, Tryz.ntmps77
    go_wp2
    go_quiet (fail)
    go_wp2
    revert nq
    intro n1
    go_quiet (fail)
    go_wp2
    refine bodyPost_ret (v := .tuple #[]) (results_none rfl _ _ _) rfl ⟨rfl, ?_⟩
    rw [unhide HA]
    exact ⟨[], rfl, v, RB.drewN (RB.drewN (unhide H) _) _, ((Er.ofBelow (unhide HB)).drewN _).drewN _⟩

end Go.Proofs.YteiecbkfganhnaaGreat
