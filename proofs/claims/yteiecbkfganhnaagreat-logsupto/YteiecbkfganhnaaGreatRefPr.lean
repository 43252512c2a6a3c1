/- The document's node: Propose. -/
import Derived.Test.YteiecbkfganhnaaGreatKRefI
import Derived.Test.YteiecbkfganhnaaGreatKInvC
import Derived.Test.YteiecbkfganhnaaGreatKGStep
import Derived.Laws.Closers25

namespace Go.Proofs.YteiecbkfganhnaaGreat

open Go.RowKit Go.MuLone

/-- What comes of the document's Propose. -/
def RProp (rb : Nat) (v : RV) (w : World) (r : Int × Nd × List Msg × Int) (e : Ending) (w' : World) : Prop :=
  ∃ l u v', e = .returned (.tuple #[.int .i64 r.1, u, .int .i64 r.2.2.2]) ∧ l.map Prod.fst = r.2.2.1 ∧ RB w' rb r.2.1 v' [] ∧ w'.ownsRow 0 30 9 u l.length (mC l) ∧ (∀ x ∈ l, w'.ownsRow 0 66 2 x.2 x.1.ents.length (eC x.1.ents)) ∧ Er rb v v' w w'

theorem RProp.none {rb : Nat} {v : RV} {w w' : World} {s : Nd} {k : Int} (h : RB w' rb s v []) (he : Er rb v v w w') : RProp rb v w (0, s, [], k) (.returned (.tuple #[.int .i64 0, .slice none 0 0, .int .i64 k])) w' :=
  ⟨[], _, v, rfl, rfl, h, World.ownsRow_nil _ _ _ _, (fun x hx => by simp at hx), he⟩

set_option maxRecDepth 100000 in
set_option maxHeartbeats 1000000 in
theorem refPropose_any (rb : Nat) (s : Nd) (v : RV) (c : ByteArray) (w : World) (h : RB w rb s v []) (hok : Ok s) :
    Calls Tryz.prog 34 #[.pointer (some ⟨rb, 0, none⟩), .string c] w fun e w' => RProp rb v w (s.propose c) e w' := by
  have H := hide h
  have HOK := hide hok
  by_cases h1 : c.size = 0
  · have HR : Hid (s.propose c = (0, s, [], 3)) := by
      have : s.propErr c = 3 := if_pos (.inl h1)
      show _ = _
      unfold Nd.propose
      rw [this]; rfl
    have hc : c = ⟨#[]⟩ := by
      cases c with
      | mk d =>
        have : d.size = 0 := h1
        have : d = #[] := Array.eq_empty_of_size_eq_zero this
        rw [this]
    subst hc
    clear h1 h hok
    go_enter Tryz.func34, Tryz.ntmps34
    go_wp2
    refine bodyPost_ret (v := .tuple #[.int .i64 0, .slice none 0 0, .int .i64 3]) (by simp [results, Tryz.results34, go_sem]) rfl ?_
    rw [unhide HR]
    exact RProp.none (unhide H) (Er.refl _ _ _)
  · have hce : ¬ c = ⟨#[]⟩ := fun hx => h1 (by rw [hx]; rfl)
    have hceb : c.toList.isEmpty = false := by
      rw [← decide_eq_emptyBytes c]
      exact decide_eq_false hce
    clear hce
    by_cases h2 : 20 < c.size
    · have HR : Hid (s.propose c = (0, s, [], 3)) := by
        have : s.propErr c = 3 := if_pos (.inr h2)
        show _ = _
        unfold Nd.propose
        rw [this]; rfl
      have h2' : (20 : Int) < (c.size : Int) := by omega
      clear h1 h2 h hok
      go_enter Tryz.func34, Tryz.ntmps34
      go_wp2
      refine bodyPost_ret (v := .tuple #[.int .i64 0, .slice none 0 0, .int .i64 3]) (by simp [results, Tryz.results34, go_sem]) rfl ?_
      rw [unhide HR]
      exact RProp.none (unhide H) (Er.refl _ _ _)
    · have h2' : ¬ (20 : Int) < (c.size : Int) := by omega
      have c6 := h.c6
      by_cases h3 : s.role = 3
      · rw [h3] at c6
        obtain ⟨lo, lc, hlv⟩ := owns_form h.log
        have c4 := h.c4
        rw [hlv] at c4
        by_cases h4 : 60 ≤ s.log.length
        · have HR : Hid (s.propose c = (0, s, [], 5)) := by
            have : s.propErr c = 5 := by unfold Nd.propErr; rw [if_neg (by omega), if_neg (by simp [h3]), if_pos (show 60 ≤ s.last from h4)]
            show _ = _
            unfold Nd.propose
            rw [this]; rfl
          have h4' : (60 : Int) ≤ (s.log.length : Int) := by omega
          clear h1 h2 h3 h4 h hok hlv
          go_enter Tryz.func34, Tryz.ntmps34
          go_wp2
          refine bodyPost_ret (v := .tuple #[.int .i64 0, .slice none 0 0, .int .i64 5]) (by simp [results, Tryz.results34, go_sem]) rfl ?_
          rw [unhide HR]
          exact RProp.none (unhide H) (Er.refl _ _ _)
        · have HR : Hid (s.propose c = (((s.proposeS c).last : Int), s.proposeS c, (s.proposeS c).appends, 0)) := by
            have : s.propErr c = 0 := by unfold Nd.propErr; rw [if_neg (by omega), if_neg (by simp [h3]), if_neg (show ¬ 60 ≤ s.last from h4)]
            show _ = _
            unfold Nd.propose
            rw [this]; rfl
          have h4' : ¬ (60 : Int) ≤ (s.log.length : Int) := by omega
          have hl59 : s.log.length < 60 := by omega
          have f4 := h.free 4
          have c2 := h.c2
          have hlt := h.lt
          have hne : ¬ rb = w.heap.size := by omega
          have HLV := hide hlv
          have HS3 := hide h3
          have hn7 := hok.n7
          have hidn := hok.id
          have HOP : Hid (Ok (s.proposeS c)) := by
            have q := hok.propose c
            rw [unhide HR] at q
            exact q
          obtain ⟨i0, hi0, hz0, hz1, hz2⟩ := info_parts infoEntry
          clear h1 h2 h3 h4 h hok
          go_enter Tryz.func34, Tryz.ntmps34
          go_upto_region 7 with fail
          rw [← hlv] at c4
          clear hlv
          go_region_law (first | (refine step_append_lies _ (by rfl) (.tmp 29) (.tmp 36) 22 (by rfl) 0 66 i0 _ 2 24 Tryz.underlying22 hi0 hz0 hz1 hz2 rfl (by decide) v.lv s.log.length (eC s.log) (by rfl) (by exact World.ownsRow.alloc (unhide H).log (.cells #[.int .i64 s.term, .string c] 66)) ⟨w.heap.size, 0, none⟩ 1 1 [.int .i64 s.term, .string c] (by rfl) rfl (by exact cells_new9 _ _ _) (by intro u hu; simp at hu; rcases hu with rfl | rfl <;> rfl) (by decide) (by unfold maxLen; omega) (by omega) (Nat.zero_le _) (w.heap.size + 1) (by simp) ?_; intro gc cap2 w4 hown4 hgrow4 hat4 hlt4; have hb4 := (unhide H).grownLog hgrow4; have k4 : w4.cell? ⟨rb, 4, none⟩ = some v.lv := cell_of_row w4 rb 4 _ _ _ hb4; have q4 := frozen_of_row w4 rb 4 _ _ hb4; clear hb4; replace hown4 := hide hown4; replace hgrow4 := hide hgrow4; replace hat4 := hide hat4; clear hlt4))
          all_goals
            obtain ⟨g1, g2⟩ := (unhide H).pushLog (x := ((s.term, c) : Ent)) (unhide hgrow4) (unhide hown4) (unhide hat4)
            obtain ⟨s2, hs2⟩ : ∃ s2, ({ s with log := s.log ++ [((s.term, c) : Ent)] } : Nd) = s2 := ⟨_, rfl⟩
            rw [hs2] at g1
            have hlen2 : s2.last = s.last + 1 := by rw [← hs2]; show (s.log ++ [((s.term, c) : Ent)]).length = s.log.length + 1; simp
            have HS2 : Hid (s.proposeS c = ({ s2 with mt := upd s2.mt s2.id s2.last } : Nd).count) := by
              show _ = _
              rw [hlen2, ← hs2]
              rfl
            have HID : Hid (s2.id < s2.n ∧ s2.n ≤ 7 ∧ s2.last ≤ 60) := by
              refine ⟨by rw [← hs2]; exact hidn, by rw [← hs2]; exact hn7, ?_⟩
              rw [hlen2]
              show s.log.length + 1 ≤ 60
              omega
            obtain ⟨v2, hv2⟩ : ∃ v2, ({ v with lv := .slice (some ⟨gc, 0, none⟩) (s.log.length + 1) cap2 } : RV) = v2 := ⟨_, rfl⟩
            rw [hv2] at g1 g2
            have hmv2 : v2.mv = v.mv := by rw [← hv2]
            have HMV2 := hide hmv2
            have HR2 := hide g1
            have HE2 := hide g2
            clear g1 g2 hs2 hv2 hown4 hgrow4 hat4 k4 q4 c4 c2 f4 c6 hmv2 hlen2
            generalize w4.setCell ⟨rb, 4, none⟩ (.slice (some ⟨gc, 0, none⟩) (s.log.length + 1) cap2) = W2 at *
            go_upto_region 8 with fail
            have m0 := (unhide HR2).c0
            have m4 := (unhide HR2).c4
            obtain ⟨lo2, lc2, hlv2⟩ := owns_form (unhide HR2).log
            have hl2 : s2.log.length = s2.last := rfl
            rw [hlv2, hl2] at m4
            obtain ⟨mg, mc, hmv, z2, y2, mlt, a2⟩ := (unhide HR2).mtAt (unhide HID).1
            have m12 := (unhide HR2).c12
            rw [hmv] at m12
            have a2' : ¬ rb = mg := fun e => a2 e.symm
            have j0 : (0 : Int) ≤ (s2.id : Int) := by omega
            have j1 : (s2.id : Int) < (s2.n : Int) := by have := (unhide HID).1; omega
            have HR3 : Hid (RB (W2.setCell ⟨mg, s2.id, none⟩ (.int .i64 (s2.last : Int))).drew rb { s2 with mt := upd s2.mt s2.id s2.last } v2 []) := RB.drew ((unhide HR2).putMt (i := s2.id) (x := s2.last) hmv)
            have HE3 : Hid (Er rb v v2 w (W2.setCell ⟨mg, s2.id, none⟩ (.int .i64 (s2.last : Int))).drew) := ((unhide HE2).set (b := mg) (.inl (.inr (.inr (.inr (.inr (.inl (by rw [← unhide HMV2, hmv]; rfl))))))) s2.id (.int .i64 (s2.last : Int))).drew
            have HLV2 := hide hlv2
            clear hmv hlv2 hl2
            go_region
            all_goals
              generalize (W2.setCell ⟨mg, s2.id, none⟩ (.int .i64 (s2.last : Int))).drew = W4 at *
              have HLD : Hid (Leads (s.proposeS c)) := (unhide HOP).lead (unhide HS3)
              have HN7 : Hid ((s.proposeS c).n ≤ 7) := (unhide HOP).n7
              have HLQ : Hid ((s.proposeS c).log.length = s2.last) := by show _ = _; rw [unhide HS2]; rfl
              clear m0 m4 m12 z2 y2 mlt a2 a2' j0 j1
              go_wp2_with (first | (go_at_call 83; refine (refCounts_any rb _ v2 [] W4 (unhide HR3) (unhide HID).2.1 (unhide HID).2.2).mono ?_; rintro e w5 ⟨rfl, hR5, hE5⟩; rw [← unhide HS2] at hR5; replace hR5 := hide hR5; replace hE5 := hide hE5) | (go_at_call 61; refine (refAppendAll_any rb (s.proposeS c) v2 [] w5 (unhide hR5) (unhide HLD) (unhide HN7) (by simp)).mono ?_; rintro e w6 ⟨rfl, l, hl6, v6, hR6, hE6, hv6⟩; replace hl6 := hide hl6; replace hR6 := hide hR6; replace hE6 := hide hE6; replace hv6 := hide hv6))
              obtain ⟨lo6, lc6, hlv6⟩ := owns_form (unhide hR6).log
              have p4 := (unhide hR6).c4
              rw [hlv6, unhide HLQ] at p4
              have HLV6 := hide hlv6
              clear hlv6
              have hs61 : s2.last ≤ 60 := (unhide HID).2.2
              go_region_law (first | (go_simp; go_at_call 59; refine (refSent_any rb (s.proposeS c) v6 ([] ++ l) w6.drew (RB.drew (unhide hR6))).mono ?_; intro e w7 h7; have he7 := h7.1; subst he7; have k4 := h7.2.1.c4; simp only at k4; rw [unhide HLV6, unhide HLQ] at k4; replace h7 := hide h7))
              all_goals go_wp2
              all_goals go_ret3
              all_goals
                rw [unhide HR]
                obtain ⟨_, q1, q2, q3, q4⟩ := unhide h7
                refine ⟨[] ++ l, v6.ov, _, ?_, unhide hl6, q1, q2, q3, (((unhide HE3).trans (unhide hE5)).trans (unhide hE6)).drew.trans q4⟩
                show _ = Ending.returned (.tuple #[.int .i64 ((s.proposeS c).log.length : Int), v6.ov, .int .i64 0])
                rw [unhide HLQ]
                rfl
      · have HR : Hid (s.propose c = (0, s, [], 4)) := by
          have : s.propErr c = 4 := by unfold Nd.propErr; rw [if_neg (by omega), if_pos h3]
          show _ = _
          unfold Nd.propose
          rw [this]; rfl
        have d3 : (s.role != 3) = true := by simpa using h3
        clear h1 h2 h3 h hok
        go_enter Tryz.func34, Tryz.ntmps34
        go_wp2
        refine bodyPost_ret (v := .tuple #[.int .i64 0, .slice none 0 0, .int .i64 4]) (by simp [results, Tryz.results34, go_sem]) rfl ?_
        rw [unhide HR]
        exact RProp.none (unhide H) (Er.refl _ _ _)

end Go.Proofs.YteiecbkfganhnaaGreat
