/- The document's node: appendTo, appendAll. -/
import Derived.Test.YteiecbkfganhnaaGreatKRefX
import Derived.Test.YteiecbkfganhnaaGreatKSettle

namespace Go.Proofs.YteiecbkfganhnaaGreat

open Go.RowKit Go.MuLone

set_option maxRecDepth 100000 in
set_option maxHeartbeats 1000000 in
theorem refAppendTo_any (rb : Nat) (s : Nd) (v : RV) (out : List (Msg × Value)) (i : Nat) (w : World) (h : RB w rb s v out) (hL : Leads s) (hi : i < s.n) (ho : out.length ≤ 100) :
    Calls Tryz.prog 106 #[.pointer (some ⟨rb, 0, none⟩), .int .i64 (i : Int)] w fun e w' => e = .returned (.tuple #[]) ∧ ∃ ev, RGone rb s v (out ++ [(s.appendTo i, ev)]) w w' := by
  have hs := hL.last
  have h1 := hL.lo i hi
  have h2 := hL.hi i hi
  have h3 := hL.pos
  obtain ⟨lb, cap, hlv, hcap⟩ : ∃ lb cap, v.lv = .slice (some ⟨lb, 0, none⟩) s.log.length cap ∧ s.log.length ≤ cap := by
    rcases h.log.2 with ⟨_, h0⟩ | ⟨g, cap, cur, hv, _, _, hle, _⟩
    · exact absurd h0 (by have : s.last = s.log.length := rfl; omega)
    · exact ⟨g, cap, hv, hle⟩
  obtain ⟨a, ha⟩ : ∃ a, s.nx i = a + 1 := ⟨s.nx i - 1, by omega⟩
  obtain ⟨no, nc, hnv⟩ := owns_form h.nx
  have hnx := h.nx
  rw [hnv] at hnx
  obtain ⟨ng, rfl, _, hcell⟩ := owns_at hnx (j := i) (by rw [nC_length]; exact hi)
  have cN : w.cell? ⟨ng, i, none⟩ = some (.int .i64 ((a : Int) + 1)) := by
    rw [hcell]
    have h4 := nC_get s.nx hi
    rw [List.getElem?_eq_getElem (by rw [nC_length]; exact hi), ha] at h4
    rw [h4]
    congr 2
  have c4 := h.c4
  rw [hlv] at c4
  have c11 := h.c11
  rw [hnv] at c11
  have c2 := h.c2
  have c5 := h.c5
  have hla : a ≤ s.last := by omega
  obtain ⟨T, hT⟩ : ∃ T, s.termOf a = T := ⟨_, rfl⟩
  have HE : Hid (s.appendTo i = { kind := 4, src := s.id, dst := i, term := s.term, index := (a : Int), logTerm := T, commit := s.commit, ents := (s.log.drop a).take 3, granted := false }) := by
    show _ = _
    simp only [Nd.appendTo, ha, Nat.add_sub_cancel, hT]
    congr 1
    omega
  obtain ⟨es, hes⟩ : ∃ es, (s.log.drop a).take 3 = es := ⟨_, rfl⟩
  rw [hes] at HE
  obtain ⟨E, hE⟩ : ∃ E : Nat, E = min (a + 3) s.log.length := ⟨_, rfl⟩
  have hll : s.last = s.log.length := rfl
  have hEa : a ≤ E := by omega
  have hEl : E ≤ s.log.length := by omega
  have hEL : E - a = es.length := by rw [← hes, part_len, hE]
  obtain ⟨ad, ac, hsl, hen⟩ := slice_ents lb s.log.length cap a E s.log hEa hEl hcap rfl
  have hlog := ents_of_owns h.log
  rw [hlv] at hlog
  have hen2 := hen w hlog
  rw [show (s.log.drop a).take (E - a) = es by rw [← hes, hE]; exact part_take s.log a] at hen2
  rw [hEL] at hsl hen2
  have HEN := hide hen2
  have HL3 : Hid (es.length * 24 ≤ 140737488355328) := by show _ ≤ _; rw [← hEL]; omega
  have HLV := hide hlv
  have HT := hide hT
  have H := hide h
  have hi' : ((i : Int) < (s.n : Int)) := by omega
  have hi0 : (0 : Int) ≤ (i : Int) := by omega
  have hs' : s.log.length ≤ 60 := hs
  clear h hL hlog hen hen2 hnx hcell hnv hlv ha hT h1 h2 hes
  by_cases hgt : s.log.length < a + 3
  · have hEE : E = s.log.length := by omega
    subst hEE
    have hd : (s.log.length : Int) < (a : Int) + 3 := by omega
    clear hE
    go_enter Tryz.func106, Tryz.ntmps106
    go_wp2_with (go_at_call 90; refine (refEntries_any _ es w (unhide HL3) (unhide HEN)).mono ?_; rintro e w1 ⟨ev, rfl, hr1, hb1⟩; obtain ⟨eo, ec, rfl⟩ := owns_form hr1; have hR1 := (unhide H).below hb1; have k2 := hR1.c2; have k5 := hR1.c5; replace hR1 := hide hR1; replace hr1 := hide hr1; replace hb1 := hide hb1)
    clear c2 c5 c4 c11 cN hsl
    have HLO : Hid (∀ y, v.lv.ownBlock = some y → (Value.slice eo es.length ec).ownBlock ≠ some y) := fun y hy hx => by
      have q1 := owns_lt (unhide H).log y hy
      have q2 := ((unhide hr1).lt y hx).1
      omega
    go_region_law (first | (go_simp; go_at_call 105; refine (refTermOf_at rb s v out a T w1.drew (unhide hR1).drew hla hs (unhide HT)).mono ?_; rintro e w2 ⟨rfl, rfl⟩) | (go_simp; go_at_call 104; refine (refSend_any rb s v out { kind := 4, src := 0, dst := (i : Int), term := s.term, index := (a : Int), logTerm := T, commit := (s.commit : Int), ents := es, granted := false } (.slice eo es.length ec) w1.drew (unhide hR1).drew (by omega) (show World.ownsRow _ _ _ _ _ _ _ from owns_base (unhide hr1) (Nat.zero_le _)) (unhide HLO)).mono ?_; rintro e w3 ⟨rfl, u, hR3, hE3⟩; replace hR3 := hide hR3; replace hE3 := hide hE3))
    all_goals go_wp2
    all_goals go_end0
    all_goals
      rw [unhide HE]
      exact ⟨rfl, _, _, unhide hR3, ((Er.ofBelow (unhide hb1)).drew).trans (unhide hE3), rfl⟩
  · have hd : ¬ (s.log.length : Int) < (a : Int) + 3 := by omega
    have hEE : E = a + 3 := by omega
    subst hEE
    have hc3 : ((a + 3 : Nat) : Int) = (a : Int) + 3 := by omega
    rw [hc3] at hsl
    clear hE hc3
    go_enter Tryz.func106, Tryz.ntmps106
    go_wp2_with (go_at_call 90; refine (refEntries_any _ es w (unhide HL3) (unhide HEN)).mono ?_; rintro e w1 ⟨ev, rfl, hr1, hb1⟩; obtain ⟨eo, ec, rfl⟩ := owns_form hr1; have hR1 := (unhide H).below hb1; have k2 := hR1.c2; have k5 := hR1.c5; replace hR1 := hide hR1; replace hr1 := hide hr1; replace hb1 := hide hb1)
    clear c2 c5 c4 c11 cN hsl
    have HLO : Hid (∀ y, v.lv.ownBlock = some y → (Value.slice eo es.length ec).ownBlock ≠ some y) := fun y hy hx => by
      have q1 := owns_lt (unhide H).log y hy
      have q2 := ((unhide hr1).lt y hx).1
      omega
    go_region_law (first | (go_simp; go_at_call 105; refine (refTermOf_at rb s v out a T w1.drew (unhide hR1).drew hla hs (unhide HT)).mono ?_; rintro e w2 ⟨rfl, rfl⟩) | (go_simp; go_at_call 104; refine (refSend_any rb s v out { kind := 4, src := 0, dst := (i : Int), term := s.term, index := (a : Int), logTerm := T, commit := (s.commit : Int), ents := es, granted := false } (.slice eo es.length ec) w1.drew (unhide hR1).drew (by omega) (show World.ownsRow _ _ _ _ _ _ _ from owns_base (unhide hr1) (Nat.zero_le _)) (unhide HLO)).mono ?_; rintro e w3 ⟨rfl, u, hR3, hE3⟩; replace hR3 := hide hR3; replace hE3 := hide hE3))
    all_goals go_wp2
    all_goals go_end0
    all_goals
      rw [unhide HE]
      exact ⟨rfl, _, _, unhide hR3, ((Er.ofBelow (unhide hb1)).drew).trans (unhide hE3), rfl⟩

/-- The messages that a leader sends to those up to k, as they lie. -/
def Apps (s : Nd) (k : Nat) (l : List (Msg × Value)) : Prop := l.map Prod.fst = (oth s.id k).map s.appendTo

set_option maxRecDepth 100000 in
set_option maxHeartbeats 1000000 in
theorem refAppendAll_any (rb : Nat) (s : Nd) (v : RV) (out : List (Msg × Value)) (w : World) (h : RB w rb s v out) (hL : Leads s) (hn : s.n ≤ 7) (ho : out.length ≤ 90) :
    Calls Tryz.prog 61 #[.pointer (some ⟨rb, 0, none⟩)] w fun e w' => e = .returned (.tuple #[]) ∧ ∃ l, l.map Prod.fst = s.appends ∧ RGone rb s v (out ++ l) w w' := by
  have H := hide h
  have HL := hide hL
  clear h hL
  go_enter Tryz.func61, Tryz.ntmps61
  go_wp2
  go_loopw [2] (fun i wr => ∃ (k : Nat) (v' : RV) (l : List (Msg × Value)), k ≤ s.n ∧ i = .int .i64 k ∧ Apps s k l ∧ RB wr rb s v' (out ++ l) ∧ Er rb v v' w wr ∧ v'.lv = v.lv) (fun i _ => s.n - (intOf i).toNat)
  case atStart => exact ⟨0, v, [], Nat.zero_le _, rfl, rfl, by simpa using unhide H, Er.refl _ _ _, rfl⟩
  case round =>
    obtain ⟨k, v', l, hk, rfl, hA, hR, hE, hvl⟩ := hrel
    have c1 := hR.c1
    have c0 := hR.c0
    have hll : l.length ≤ k := by
      have h1 := congrArg List.length hA
      simp only [List.length_map] at h1
      rw [h1]
      exact oth_len s.id k
    have HR := hide hR
    have HE := hide hE
    have HVL := hide hvl
    have HA := hide hA
    clear hR hE hvl hA
    by_cases hlt : k < s.n
    · have i2 : (k : Int) < (s.n : Int) := by omega
      by_cases hid : k = s.id
      · have HB : Hid (Apps s (k + 1) l) := by show Apps _ _ _; unfold Apps; rw [oth_no hid]; exact unhide HA
        rw [← hid] at c0
        have hd : ((k : Int) != (k : Int)) = false := by simp
        clear hid
        go_wp2
        go_roundw
        case rel => exact ⟨k + 1, v', l, by omega, by go_num, unhide HB, unhide HR, unhide HE, unhide HVL⟩
        case measure => simp [intOf]; omega
      · have HB : Hid (∀ ev, Apps s (k + 1) (l ++ [(s.appendTo k, ev)])) := fun ev => by unfold Apps; rw [oth_yes hid, List.map_append, List.map_append, (unhide HA : Apps s k l)]; rfl
        have hd : ((k : Int) != (s.id : Int)) = true := by simp; omega
        clear hid
        go_wp2_with (go_at_call 106; refine (refAppendTo_any rb s v' (out ++ l) k wr (unhide HR) (unhide HL) hlt (by rw [List.length_append]; omega)).mono ?_; rintro e w2 ⟨rfl, ev, v2, hR2, hE2, hl2⟩; replace hR2 := hide hR2; replace hE2 := hide hE2; replace hl2 := hide hl2)
        go_roundw
        case rel =>
          refine ⟨k + 1, v2, l ++ [(s.appendTo k, ev)], by omega, by go_num, (unhide HB) ev, ?_, (unhide HE).trans (unhide hE2), (unhide hl2).trans (unhide HVL)⟩
          rw [← List.append_assoc]
          exact unhide hR2
        case measure => simp [intOf]; omega
    · have hkn : k = s.n := by omega
      subst hkn
      go_wp2
      go_end0
      exact ⟨rfl, l, unhide HA, v', unhide HR, unhide HE, unhide HVL⟩

end Go.Proofs.YteiecbkfganhnaaGreat
