/- The document's node: stands, Tick; The document's node: Tick of one that does not lead; The document's node: Tick of a leader; The document's node: stepAskReply; The document's node: stepAskReply of one that asks; The document's node: stepVoteReply; The document's node: stepVoteReply that comes too late; What holds of every node, behind every call: plain data. -/
import Derived.Test.YteiecbkfganhnaaGreatRefL
import Derived.Test.YteiecbkfganhnaaGreatKNdB

namespace Go.Proofs.YteiecbkfganhnaaGreat

open Go.RowKit Go.MuLone

theorem cnt_one {i : Nat} (h : i < 7) : cnt (upd none7 i true) = 1 := by
  rcases i with _ | _ | _ | _ | _ | _ | _ | i
  all_goals first | rfl | omega

theorem bare_fst (ms : List Msg) : (bare ms).map Prod.fst = ms := by
  induction ms with
  | nil => rfl
  | cons m ms ih => exact congrArg (m :: ·) ih

/-- What comes of a call of the document's that may turn the node and send. -/
def RDid (rb : Nat) (v : RV) (out : List (Msg × Value)) (w : World) (r : Nd × List Msg) (w' : World) : Prop := ∃ l, l.map Prod.fst = r.2 ∧ ∃ v', RB w' rb r.1 v' (out ++ l) ∧ Er rb v v' w w'

theorem RDid.ahead {rb : Nat} {v v1 : RV} {out : List (Msg × Value)} {w w1 w' : World} {r : Nd × List Msg} (h : Er rb v v1 w w1) (hd : RDid rb v1 out w1 r w') : RDid rb v out w r w' := by
  obtain ⟨l, hl, v', hR, hE⟩ := hd
  exact ⟨l, hl, v', hR, h.trans hE⟩

set_option maxRecDepth 100000 in
set_option maxHeartbeats 1000000 in
theorem refStands_any (rb : Nat) (s : Nd) (v : RV) (out : List (Msg × Value)) (w : World) (h : RB w rb s v out) (hok : Ok s) (ht : s.term < 1000000) (ho : out.length ≤ 80) :
    Calls Tryz.prog 57 #[.pointer (some ⟨rb, 0, none⟩)] w fun e w' => e = .returned (.tuple #[]) ∧ RDid rb v out w s.stand w' := by
  have c0 := h.c0
  have c2 := h.c2
  have c3 := h.c3
  have c6 := h.c6
  have c7 := h.c7
  have f2 := h.free 2
  have f3 := h.free 3
  have f6 := h.free 6
  have f7 := h.free 7
  have t0 := hok.t0
  have HR1 := hide ((((h.putTerm (s.term + 1)).putRole 2).putLeads (-1)).putVote (s.id : Int))
  have HE1 := hide (((((Er.refl rb v w).set (.inl (v.self rb)) 2 (.int .i64 (s.term + 1))).set (.inl (v.self rb)) 6 (.int .i64 2)).set (.inl (v.self rb)) 7 (.int .i64 (-1))).set (.inl (v.self rb)) 3 (.int .i64 (s.id : Int)))
  have HOK := hide (hok.standS ht)
  have HO := hide hok
  have HC : Hid (cnt s.standS.gr = 1) := cnt_one (Nat.lt_of_lt_of_le hok.id hok.n7)
  obtain ⟨r, HR⟩ : ∃ r, s.stand = r := ⟨_, rfl⟩
  rw [HR]
  unfold Nd.stand at HR
  rw [unhide HC] at HR
  have HT1 : Hid (1 ≤ s.standS.term) := by show 1 ≤ s.term + 1; omega
  have HST : Hid (({ ({ ({ ({ ({ ({ s with term := s.term + 1 } : Nd) with role := 2 } : Nd) with leads := -1 } : Nd) with vote := (s.id : Int) } : Nd) with gr := upd none7 s.id true } : Nd) with elapsed := 0 } : Nd) = s.standS) := rfl
  clear h hok
  go_enter Tryz.func57, Tryz.ntmps57
  go_wp2_with fail
  generalize (((w.setCell ⟨rb, 2, none⟩ (.int .i64 (s.term + 1))).setCell ⟨rb, 6, none⟩ (.int .i64 2)).setCell ⟨rb, 7, none⟩ (.int .i64 (-1))).setCell ⟨rb, 3, none⟩ (.int .i64 (s.id : Int)) = W at *
  clear c0 c2 c3 c6 c7 f2 f3 f6 f7
  by_cases hm : s.standS.maj 1 = true
  · rw [if_pos hm] at HR
    have HRR := hide HR
    have HM := hide hm
    clear HR hm
    go_wp2_with (first | (go_at_call 55; refine (refAlone_any rb _ v out W (unhide HR1) (unhide HO).n1 (unhide HO).n7 (unhide HO).id).mono ?_; rintro e w1 ⟨rfl, v1, hR1, hE1, hl1⟩; have k8 := hR1.c8; have f8 := hR1.free 8; have hR2 := hide (hR1.putElapsed 0); rw [unhide HST] at hR2; have hE2 := hide (((unhide HE1).trans hE1).set (.inl (v.self rb)) 8 (.int .i64 0)); clear hR1 hE1 hl1) | (go_at_call 56; refine (refMajority_any rb s.standS v1 out 1 _ (unhide hR2) (by decide)).mono ?_; rw [unhide HM]; rintro e w2 ⟨rfl, rfl⟩) | (go_at_call 103; refine (refLead_start rb s.standS v1 out _ (unhide hR2) (unhide HOK).n1 (unhide HOK).n7 (unhide HOK).id (unhide HOK).len (unhide HT1) (unhide HOK).log (by omega)).mono ?_; rintro e w3 ⟨rfl, hd3⟩; replace hd3 := hide hd3))
    have hfin := RDid.ahead (unhide hE2) (r := s.standS.lead) (unhide hd3)
    rw [unhide HRR] at hfin
    exact bodyPost_ret (v := .tuple #[]) (results_none rfl _ _ _) rfl ⟨rfl, hfin⟩
  · rw [if_neg hm] at HR
    have hm' : s.standS.maj 1 = false := by simpa using hm
    have HRR := hide HR
    have HM := hide hm'
    clear HR hm hm'
    go_wp2_with (first | (go_at_call 55; refine (refAlone_any rb _ v out W (unhide HR1) (unhide HO).n1 (unhide HO).n7 (unhide HO).id).mono ?_; rintro e w1 ⟨rfl, v1, hR1, hE1, hl1⟩; have k8 := hR1.c8; have f8 := hR1.free 8; have hR2 := hide (hR1.putElapsed 0); rw [unhide HST] at hR2; have k2 := (unhide hR2).c2; have hE2 := hide (((unhide HE1).trans hE1).set (.inl (v.self rb)) 8 (.int .i64 0)); clear hR1 hE1 hl1) | (go_at_call 56; refine (refMajority_any rb s.standS v1 out 1 _ (unhide hR2) (by decide)).mono ?_; rw [unhide HM]; rintro e w2 ⟨rfl, rfl⟩) | (go_at_call 58; refine (refAsks_any rb s.standS v1 out 2 s.standS.term _ (unhide hR2) (unhide HOK).n7 (unhide HOK).len (by omega)).mono ?_; rintro e w3 ⟨rfl, v3, hR3, hE3, hl3⟩; replace hR3 := hide hR3; replace hE3 := hide hE3; clear hl3))
    go_end0
    rw [← unhide HRR]
    exact ⟨rfl, bare (s.standS.request 2 s.standS.term), bare_fst _, v3, unhide hR3, (unhide hE2).trans (unhide hE3)⟩

end Go.Proofs.YteiecbkfganhnaaGreat

namespace Go.Proofs.YteiecbkfganhnaaGreat

open Go.RowKit Go.MuLone

/-- What comes of one of the document's calls that answer messages. -/
def RAns (rb : Nat) (v : RV) (w : World) (r : Nd × List Msg) (e : Ending) (w' : World) : Prop :=
  ∃ l u v', e = .returned u ∧ l.map Prod.fst = r.2 ∧ RB w' rb r.1 v' [] ∧ w'.ownsRow 0 30 9 u l.length (mC l) ∧ (∀ x ∈ l, w'.ownsRow 0 66 2 x.2 x.1.ents.length (eC x.1.ents)) ∧ Er rb v v' w w'

theorem RAns.of {rb : Nat} {v v1 : RV} {w w1 w' : World} {r : Nd × List Msg} {l : List (Msg × Value)} {e : Ending} (h : Er rb v v1 w w1) (hl : l.map Prod.fst = r.2) (ht : RTold rb r.1 v1 l w1 e w') : RAns rb v w r e w' := by
  obtain ⟨he, hR, ho, hs, hE⟩ := ht
  exact ⟨l, v1.ov, _, he, hl, hR, ho, hs, h.trans hE⟩

set_option maxRecDepth 100000 in
set_option maxHeartbeats 1000000 in
theorem refTick_other (rb : Nat) (s : Nd) (v : RV) (w : World) (h : RB w rb s v []) (hok : Ok s) (hr : s.role ≠ 3) (he : s.elapsed < 4611686018427387904) :
    Calls Tryz.prog 29 #[.pointer (some ⟨rb, 0, none⟩)] w fun e w' => RAns rb v w s.tick e w' := by
  have c2 := h.c2
  have c6 := h.c6
  have c7 := h.c7
  have c8 := h.c8
  have c9 := h.c9
  have f6 := h.free 6
  have f7 := h.free 7
  have f8 := h.free 8
  have e0 := hok.e0
  have t0 := hok.t0
  have b1 : (s.role != 3) = true := by simpa using hr
  have HR1 := hide (h.putElapsed (s.elapsed + 1))
  have HE1 := hide ((Er.refl rb v w).set (.inl (v.self rb)) 8 (.int .i64 (s.elapsed + 1)))
  have HO := hide hok
  have HT := hide hok.tickS
  clear h hok
  by_cases hw : s.elapsed + 1 < s.pat ∨ 1000000 ≤ s.term
  · have HR : Hid (s.tick = (s.tickS, [])) := by show _ = _; unfold Nd.tick; rw [if_neg hr, if_pos hw]
    clear hr
    by_cases hq : s.elapsed + 1 < s.pat
    · have d1 : decide (s.pat ≤ s.elapsed + 1) = false := decide_eq_false (by omega)
      clear hw
      go_enter Tryz.func29, Tryz.ntmps29
      go_wp2
      go_quiet (fail)
      go_wp2_with (go_at_call 59; refine (refSent_any rb s.tickS v [] _ (RB.drewN (unhide HR1) _)).mono ?_; intro e w4 hx4; have he4 := hx4.1; subst he4; replace hx4 := hide hx4)
      go_ret
      rw [unhide HR]
      exact RAns.of ((unhide HE1).drewN nq) rfl (unhide hx4)
    · have d1 : decide (s.pat ≤ s.elapsed + 1) = true := decide_eq_true (by omega)
      have d2 : ¬ s.term < 1000000 := by omega
      clear hw
      go_enter Tryz.func29, Tryz.ntmps29
      go_wp2
      go_quiet (fail)
      go_wp2_with (go_at_call 59; refine (refSent_any rb s.tickS v [] _ (RB.drewN (unhide HR1) _)).mono ?_; intro e w4 hx4; have he4 := hx4.1; subst he4; replace hx4 := hide hx4)
      go_ret
      rw [unhide HR]
      exact RAns.of ((unhide HE1).drewN nq) rfl (unhide hx4)
  · have HR : Hid (s.tick = s.tickS.ask) := by show _ = _; unfold Nd.tick; rw [if_neg hr, if_neg hw]
    have d1 : decide (s.pat ≤ s.elapsed + 1) = true := decide_eq_true (by omega)
    have d2 : s.term < 1000000 := by omega
    have HCN : Hid (cnt (s.tickS.campaign 1).gr = 1) := cnt_one (Nat.lt_of_lt_of_le (unhide HO).id (unhide HO).n7)
    have HOC := hide ((unhide HT).campaign 1 (by decide))
    clear hr hw
    by_cases hm : (s.tickS.campaign 1).maj 1 = true
    · have HA : Hid (s.tick = (s.tickS.campaign 1).stand) := by show _ = _; rw [unhide HR]; unfold Nd.ask; rw [unhide HCN, if_pos hm]
      have HM := hide hm
      clear hm
      go_enter Tryz.func29, Tryz.ntmps29
      go_wp2
      go_quiet (fail)
      go_wp2_with fail
      have HR3 := hide ((((RB.drewN (unhide HR1) nq).putElapsed 0).putRole 1).putLeads (-1))
      have HE3 := hide (((((unhide HE1).drewN nq).set (.inl (v.self rb)) 8 (.int .i64 0)).set (.inl (v.self rb)) 6 (.int .i64 1)).set (.inl (v.self rb)) 7 (.int .i64 (-1)))
      generalize ((((w.setCell ⟨rb, 8, none⟩ (.int .i64 (s.elapsed + 1))).drewN nq).setCell ⟨rb, 8, none⟩ (.int .i64 0)).setCell ⟨rb, 6, none⟩ (.int .i64 1)).setCell ⟨rb, 7, none⟩ (.int .i64 (-1)) = W at *
      clear c2 c6 c7 c8 c9 f6 f7 f8
      go_wp2_with (first | (go_at_call 55; refine (refAlone_any rb _ v [] W (unhide HR3) (unhide HO).n1 (unhide HO).n7 (unhide HO).id).mono ?_; rintro e w1 ⟨rfl, v1, hR1, hE1, hl1⟩; have hR2 : Hid (RB w1 rb (s.tickS.campaign 1) v1 []) := hR1; have k2 : w1.cell? ⟨rb, 2, none⟩ = some (.int .i64 s.term) := (unhide hR2).c2; have hE2 := hide ((unhide HE3).trans hE1); clear hR1 hE1 hl1) | (go_at_call 56; refine (refMajority_any rb (s.tickS.campaign 1) v1 [] 1 _ (unhide hR2) (by decide)).mono ?_; rw [unhide HM]; rintro e w2 ⟨rfl, h2⟩; cases h2.symm) | (go_at_call 57; refine (refStands_any rb (s.tickS.campaign 1) v1 [] _ (unhide hR2) (unhide HOC) d2 (by simp)).mono ?_; rintro e w3 ⟨rfl, l, hl3, v3, hR3, hE3⟩; rw [List.nil_append] at hR3; replace hR3 := hide hR3; replace hE3 := hide hE3; replace hl3 := hide hl3) | (go_at_call 59; refine (refSent_any rb _ _ _ _ (unhide hR3)).mono ?_; intro e w4 hx4; have he4 := hx4.1; subst he4; replace hx4 := hide hx4))
      go_ret
      rw [unhide HA]
      exact RAns.of ((unhide hE2).trans (unhide hE3)) (unhide hl3) (unhide hx4)
    · have hm' : (s.tickS.campaign 1).maj 1 = false := by simpa using hm
      have HA : Hid (s.tick = (s.tickS.campaign 1, (s.tickS.campaign 1).request 0 (s.term + 1))) := by show _ = _; rw [unhide HR]; unfold Nd.ask; rw [unhide HCN, if_neg hm]; rfl
      have HM := hide hm'
      clear hm hm'
      go_enter Tryz.func29, Tryz.ntmps29
      go_wp2
      go_quiet (fail)
      go_wp2_with fail
      have HR3 := hide ((((RB.drewN (unhide HR1) nq).putElapsed 0).putRole 1).putLeads (-1))
      have HE3 := hide (((((unhide HE1).drewN nq).set (.inl (v.self rb)) 8 (.int .i64 0)).set (.inl (v.self rb)) 6 (.int .i64 1)).set (.inl (v.self rb)) 7 (.int .i64 (-1)))
      generalize ((((w.setCell ⟨rb, 8, none⟩ (.int .i64 (s.elapsed + 1))).drewN nq).setCell ⟨rb, 8, none⟩ (.int .i64 0)).setCell ⟨rb, 6, none⟩ (.int .i64 1)).setCell ⟨rb, 7, none⟩ (.int .i64 (-1)) = W at *
      clear c2 c6 c7 c8 c9 f6 f7 f8
      go_wp2_with (first | (go_at_call 55; refine (refAlone_any rb _ v [] W (unhide HR3) (unhide HO).n1 (unhide HO).n7 (unhide HO).id).mono ?_; rintro e w1 ⟨rfl, v1, hR1, hE1, hl1⟩; have hR2 : Hid (RB w1 rb (s.tickS.campaign 1) v1 []) := hR1; have k2 : w1.cell? ⟨rb, 2, none⟩ = some (.int .i64 s.term) := (unhide hR2).c2; have hE2 := hide ((unhide HE3).trans hE1); clear hR1 hE1 hl1) | (go_at_call 56; refine (refMajority_any rb (s.tickS.campaign 1) v1 [] 1 _ (unhide hR2) (by decide)).mono ?_; rw [unhide HM]; rintro e w2 ⟨rfl, h2⟩; cases h2.symm) | (go_at_call 58; refine (refAsks_any rb (s.tickS.campaign 1) v1 [] 0 (s.term + 1) _ (unhide hR2) (unhide HOC).n7 (unhide HOC).len (by simp)).mono ?_; rintro e w3 ⟨rfl, v3, hR3, hE3, hl3⟩; rw [List.nil_append] at hR3; replace hR3 := hide hR3; replace hE3 := hide hE3; clear hl3) | (go_at_call 59; refine (refSent_any rb _ _ _ _ (unhide hR3)).mono ?_; intro e w4 hx4; have he4 := hx4.1; subst he4; replace hx4 := hide hx4))
      go_ret
      rw [unhide HA]
      exact RAns.of ((unhide hE2).trans (unhide hE3)) (bare_fst _) (unhide hx4)

end Go.Proofs.YteiecbkfganhnaaGreat

namespace Go.Proofs.YteiecbkfganhnaaGreat

open Go.RowKit Go.MuLone

def hearsOf (s : Nd) : Nat → Bool := fun i => decide (i ≠ s.id) && s.hd i

theorem cnt_hears (s : Nd) (k : Nat) : cntTo (upd s.hd s.id true) k = (if s.id < k then 1 else 0) + cntTo (hearsOf s) k := by
  induction k with
  | zero => rfl
  | succ k ih =>
    simp only [cntTo, ih]
    by_cases h : k = s.id
    · subst h
      simp [upd, hearsOf, b1]
      omega
    · have h1 : upd s.hd s.id true k = s.hd k := by simp [upd, h]
      have h2 : hearsOf s k = s.hd k := by simp [hearsOf, h]
      rw [h1, h2]
      by_cases h3 : s.id < k
      · rw [if_pos h3, if_pos (by omega)]; omega
      · rw [if_neg h3, if_neg (by omega)]; omega

theorem cnt_beyond {g : Nat → Bool} {n k : Nat} (h : ∀ i, n ≤ i → g i = false) (hk : n ≤ k) : cntTo g k = cntTo g n := by
  induction k with
  | zero => have : n = 0 := by omega
            subst this; rfl
  | succ k ih =>
    by_cases e : n = k + 1
    · subst e; rfl
    · simp only [cntTo]
      rw [ih (by omega), h k (by omega)]
      rfl

theorem cnt_heard {s : Nd} (hid : s.id < s.n) (hn : s.n ≤ 7) (hh : ∀ i, s.n ≤ i → s.hd i = false) : cnt (upd s.hd s.id true) = 1 + cntTo (hearsOf s) s.n := by
  unfold cnt
  rw [cnt_hears, if_pos (by omega), cnt_beyond (g := hearsOf s) (n := s.n) (fun i hi => by simp [hearsOf, hh i hi]) hn]

def hdTo (s : Nd) (j : Nat) : Nd := { s with elapsed := 0, hd := fun i => if i < j then false else s.hd i }

theorem hdTo_step {w : World} {rb hg hc j : Nat} {s : Nd} {v : RV} {out : List (Msg × Value)} (h : RB w rb (hdTo s j) v out) (h3 : v.hv = .slice (some ⟨hg, 0, none⟩) s.n hc) : RB (w.setCell ⟨hg, j, none⟩ (.bool false)) rb (hdTo s (j + 1)) v out := by
  have q3 := h.putHd (i := j) (b := false) h3
  have e3 : ({ hdTo s j with hd := upd (hdTo s j).hd j false } : Nd) = hdTo s (j + 1) := by
    simp only [hdTo]
    rw [updLess]
  rw [← e3]
  exact q3

/-- A leader that hears no majority: the document's node forgets whom it heard, the code's does not. -/
def Nd.refTick (s : Nd) : Nd × List Msg :=
  if s.role = 3 ∧ s.pat ≤ s.elapsed + 1 ∧ s.maj (cnt (upd s.hd s.id true)) = false then (({ s with elapsed := 0, hd := none7 } : Nd).follow s.term (-1), []) else s.tick

set_option maxRecDepth 100000 in
set_option maxHeartbeats 1000000 in
theorem refTick_leader (rb : Nat) (s : Nd) (v : RV) (w : World) (h : RB w rb s v []) (hok : Ok s) (hr : s.role = 3) (he : s.elapsed < 4611686018427387904) (hh : ∀ i, s.n ≤ i → s.hd i = false) :
    Calls Tryz.prog 29 #[.pointer (some ⟨rb, 0, none⟩)] w fun e w' => RAns rb v w s.refTick e w' := by
  have c6 := h.c6
  rw [hr] at c6
  have c8 := h.c8
  have c9 := h.c9
  have f8 := h.free 8
  have e0 := hok.e0
  have HR1 := hide (h.putElapsed (s.elapsed + 1))
  have HE1 := hide ((Er.refl rb v w).set (.inl (v.self rb)) 8 (.int .i64 (s.elapsed + 1)))
  have HO := hide hok
  have HT := hide hok.tickS
  have HLD : Hid (Leads s.tickS) := hok.tickS.lead hr
  have HTK : Hid (s.tick = s.tickS.tickLeader) := if_pos hr
  have HRL := hide hr
  have HCN := hide (cnt_heard hok.id hok.n7 hh)
  obtain ⟨hg, hc, hhv⟩ : ∃ g c, v.hv = .slice (some ⟨g, 0, none⟩) s.n c := by
    rcases h.hd.2 with ⟨_, h0⟩ | ⟨g, cap, cur, hv, _⟩
    · have := hok.n1; omega
    · exact ⟨g, cap, hv⟩
  have HHV := hide hhv
  clear h hok hr hhv hh
  by_cases hp : s.pat ≤ s.elapsed + 1
  · have d1 : decide (s.pat ≤ s.elapsed + 1) = true := decide_eq_true hp
    go_enter Tryz.func29, Tryz.ntmps29
    go_wp2
    go_quiet (fail)
    go_wp2
    have HX : Hid (RB (((w.setCell ⟨rb, 8, none⟩ (.int .i64 (s.elapsed + 1))).drewN nq).setCell ⟨rb, 8, none⟩ (.int .i64 0)) rb (hdTo s 0) v []) := by
      have q := (RB.drewN (unhide HR1) nq).putElapsed 0
      have e : hdTo s 0 = { s with elapsed := 0 } := by simp [hdTo]
      show RB _ _ _ _ _
      rw [e]
      exact q
    have HEX := hide (((unhide HE1).drewN nq).set (.inl (v.self rb)) 8 (.int .i64 0))
    generalize ((w.setCell ⟨rb, 8, none⟩ (.int .i64 (s.elapsed + 1))).drewN nq).setCell ⟨rb, 8, none⟩ (.int .i64 0) = X at *
    clear c6 c8 c9 f8
    go_loopw [4, 5] (fun c i wr => ∃ j : Nat, j ≤ s.n ∧ i = .int .i64 j ∧ c = .int .i64 (1 + (cntTo (hearsOf s) j : Int)) ∧ RB wr rb (hdTo s j) v [] ∧ Er rb v v w wr) (fun _ i _ => s.n - (intOf i).toNat)
    case atStart => exact ⟨0, Nat.zero_le _, rfl, rfl, unhide HX, unhide HEX⟩
    case round =>
      obtain ⟨j, hj, rfl, rfl, hR, hE⟩ := hrel
      have k1 : wr.cell? ⟨rb, 1, none⟩ = some (.int .i64 (s.n : Int)) := hR.c1
      have k0 : wr.cell? ⟨rb, 0, none⟩ = some (.int .i64 (s.id : Int)) := hR.c0
      have k13 := hR.c13
      rw [unhide HHV] at k13
      have hcl := cntTo_le (hearsOf s) j
      have hn7 := (unhide HO).n7
      have HE := hide hE
      by_cases hlt : j < s.n
      · have i1 : (0 : Int) ≤ (j : Int) := by omega
        have i2 : (j : Int) < (s.n : Int) := by omega
        have hrh := hR.hd
        rw [unhide HHV] at hrh
        obtain ⟨g3, hg3, z3, y3⟩ := owns_at hrh (j := j) (by rw [bC_length]; exact hlt)
        simp only [Option.some.injEq, Addr.mk.injEq, and_true] at hg3
        subst hg3
        have ycell : wr.cell? ⟨hg, j, none⟩ = some (.bool (s.hd j)) := by
          rw [y3]
          have h2 := bC_get (hdTo s j).hd (n := s.n) hlt
          rw [List.getElem?_eq_getElem (by rw [bC_length]; exact hlt)] at h2
          have h3 : (hdTo s j).hd j = s.hd j := by simp [hdTo]
          rw [h3] at h2
          exact h2
        have a3 : ¬ hg = rb := fun e => owns_apart hR.hd hR.blk (by decide) (by rw [unhide HHV, e]; rfl)
        have a3' : ¬ rb = hg := fun e => a3 e.symm
        have HS := hide (hdTo_step hR (unhide HHV))
        have HHM : Hid (v.has rb hg) := .inr (.inr (.inr (.inr (.inr (.inl (by rw [unhide HHV]; rfl))))))
        clear hR hE hrh y3
        by_cases hid : j = s.id
        · have HC : Hid (cntTo (hearsOf s) (j + 1) = cntTo (hearsOf s) j) := cntTo_no (by simp [hearsOf, hid])
          have b1 : ((j : Int) != (s.id : Int)) = false := by simp; omega
          clear hid
          generalize cntTo (hearsOf s) j = c at *
          go_wp2
          go_roundw
          case rel => exact ⟨j + 1, by omega, by go_num, by rw [unhide HC], unhide HS, (unhide HE).set (.inl (unhide HHM)) _ _⟩
          case measure => simp [intOf]; omega
        · have b1 : ((j : Int) != (s.id : Int)) = true := by simp; omega
          cases hd : s.hd j with
          | true =>
            have HC : Hid (cntTo (hearsOf s) (j + 1) = cntTo (hearsOf s) j + 1) := cntTo_yes (by simp [hearsOf, hid, hd])
            rw [hd] at ycell
            clear hid hd
            generalize cntTo (hearsOf s) j = c at *
            go_wp2
            go_roundw
            case rel => exact ⟨j + 1, by omega, by go_num, by rw [unhide HC]; go_num, unhide HS, (unhide HE).set (.inl (unhide HHM)) _ _⟩
            case measure => simp [intOf]; omega
          | false =>
            have HC : Hid (cntTo (hearsOf s) (j + 1) = cntTo (hearsOf s) j) := cntTo_no (by simp [hearsOf, hid, hd])
            rw [hd] at ycell
            clear hid hd
            generalize cntTo (hearsOf s) j = c at *
            go_wp2
            go_roundw
            case rel => exact ⟨j + 1, by omega, by go_num, by rw [unhide HC], unhide HS, (unhide HE).set (.inl (unhide HHM)) _ _⟩
            case measure => simp [intOf]; omega
      · have hjn : j = s.n := by omega
        subst hjn
        have hR2 := hR.hdEq none7 (fun i hi => by have hi' : i < s.n := hi; simp [hdTo, none7, hi'])
        have HR2 : Hid (RB wr rb { s with elapsed := 0, hd := none7 } v []) := hR2
        have k2 : wr.cell? ⟨rb, 2, none⟩ = some (.int .i64 s.term) := hR.c2
        obtain ⟨c, hcc⟩ : ∃ c, 1 + cntTo (hearsOf s) s.n = c := ⟨_, rfl⟩
        have hci : 1 + (cntTo (hearsOf s) s.n : Int) = (c : Int) := by omega
        have hc7 : c ≤ 8 := by omega
        have HCC : Hid (cnt (upd s.hd s.id true) = c) := by show _ = _; rw [unhide HCN, hcc]
        rw [hci]
        clear hR hE hR2 hcc hci hcl k13
        have hc8 : c ≤ 7 := by have h1 := cntTo_le (upd s.hd s.id true) 7; have h2 := unhide HCC; unfold cnt at h2; omega
        have HL2 : Hid (Leads { s with elapsed := 0, hd := none7 }) := ⟨(unhide HLD).last, (unhide HLD).pos, (unhide HLD).sz, (unhide HLD).lo, (unhide HLD).hi, (unhide HLD).mm⟩
        cases hm : s.maj c with
        | true =>
          have HM := hide hm
          have HA : Hid (s.refTick = ({ s with elapsed := 0, hd := none7 }, ({ s with elapsed := 0, hd := none7 } : Nd).appends)) := by
            show _ = _
            unfold Nd.refTick
            rw [unhide HCC, hm, if_neg (by simp), unhide HTK]
            have h4 : s.tickS.maj (cnt (upd s.tickS.hd s.tickS.id true)) = true := by show s.maj (cnt (upd s.hd s.id true)) = true; rw [unhide HCC]; exact hm
            unfold Nd.tickLeader
            have h5 : s.tickS.pat ≤ s.tickS.elapsed := hp
            rw [if_pos h5, if_pos h4]
            rfl
          clear hm
          go_wp2_with (first | (go_at_call 56; refine (refMajority_any rb _ v [] c _ (unhide HR2) hc8).mono ?_; rw [show ({ s with elapsed := 0, hd := none7 } : Nd).maj c = true from unhide HM]; rintro e w2 ⟨rfl, rfl⟩) | (go_at_call 61; refine (refAppendAll_any rb { s with elapsed := 0, hd := none7 } v [] _ (unhide HR2) (unhide HL2) (unhide HO).n7 (by simp)).mono ?_; rintro e w3 ⟨rfl, l, hl3, v3, hR3, hE3, hv3⟩; rw [List.nil_append] at hR3; replace hR3 := hide hR3; replace hE3 := hide hE3; replace hl3 := hide hl3; clear hv3) | (go_at_call 59; refine (refSent_any rb _ _ _ _ (unhide hR3)).mono ?_; intro e w4 hx4; have he4 := hx4.1; subst he4; replace hx4 := hide hx4))
          go_ret
          rw [unhide HA]
          exact RAns.of ((unhide HE).trans (unhide hE3)) (unhide hl3) (unhide hx4)
        | false =>
          have HM := hide hm
          have HA : Hid (s.refTick = (({ s with elapsed := 0, hd := none7 } : Nd).follow s.term (-1), [])) := by
            show _ = _
            unfold Nd.refTick
            rw [unhide HCC, if_pos ⟨unhide HRL, hp, hm⟩]
          clear hm
          go_wp2_with (first | (go_at_call 56; refine (refMajority_any rb _ v [] c _ (unhide HR2) hc8).mono ?_; rw [show ({ s with elapsed := 0, hd := none7 } : Nd).maj c = false from unhide HM]; rintro e w2 ⟨rfl, h2⟩; cases h2.symm) | (go_at_call 60; refine (refFollow_any rb _ v [] s.term (-1) _ (unhide HR2)).mono ?_; rintro e w3 ⟨rfl, hR3, hE3⟩; replace hR3 := hide hR3; replace hE3 := hide hE3) | (go_at_call 59; refine (refSent_any rb _ _ _ _ (unhide hR3)).mono ?_; intro e w4 hx4; have he4 := hx4.1; subst he4; replace hx4 := hide hx4))
          go_ret
          rw [unhide HA]
          exact RAns.of ((unhide HE).trans (unhide hE3)) rfl (unhide hx4)
  · have d1 : decide (s.pat ≤ s.elapsed + 1) = false := decide_eq_false hp
    have HA : Hid (s.refTick = (s.tickS, s.tickS.appends)) := by show _ = _; unfold Nd.refTick; rw [if_neg (fun h => hp h.2.1), unhide HTK]; exact if_neg hp
    go_enter Tryz.func29, Tryz.ntmps29
    go_wp2
    go_quiet (fail)
    go_wp2_with (first | (go_at_call 61; refine (refAppendAll_any rb s.tickS v [] _ (RB.drewN (unhide HR1) _) (unhide HLD) (unhide HO).n7 (by simp)).mono ?_; rintro e w3 ⟨rfl, l, hl3, v3, hR3, hE3, hv3⟩; rw [List.nil_append] at hR3; replace hR3 := hide hR3; replace hE3 := hide hE3; replace hl3 := hide hl3; clear hv3) | (go_at_call 59; refine (refSent_any rb _ _ _ _ (unhide hR3)).mono ?_; intro e w4 hx4; have he4 := hx4.1; subst he4; replace hx4 := hide hx4))
    go_ret
    rw [unhide HA]
    exact RAns.of (((unhide HE1).drewN _).trans (unhide hE3)) (unhide hl3) (unhide hx4)

end Go.Proofs.YteiecbkfganhnaaGreat

namespace Go.Proofs.YteiecbkfganhnaaGreat

open Go.RowKit Go.MuLone

set_option maxRecDepth 100000 in
set_option maxHeartbeats 1000000 in
theorem refStepAskReply_no (rb : Nat) (s : Nd) (v : RV) (m : Msg) (ev : Value) (w : World) (h : RB w rb s v []) (hev : ∃ ao n c, ev = .slice ao n c) (hg : m.granted = false) :
    Calls Tryz.prog 73 #[.pointer (some ⟨rb, 0, none⟩), magg m ev] w fun e w' => e = .returned (.tuple #[]) ∧ RDid rb v [] w (s.stepAskReply m) w' := by
  obtain ⟨eo, en, ec, rfl⟩ := hev
  obtain ⟨mk, mf, mt, mT, mi, ml, mc, me, mg⟩ := m
  simp only at hg
  subst hg
  have HB := hide (below_alloc w (.cells #[.int .i64 mk, .int .i64 mf, .int .i64 mt, .int .i64 mT, .int .i64 mi, .int .i64 ml, .int .i64 mc, .slice eo en ec, .bool false] 30))
  have H := hide (h.below (unhide HB))
  have hlt := h.lt
  have hne : ¬ rb = w.heap.size := by omega
  have c2 := h.c2
  clear h
  by_cases h1 : s.term < mT
  · have HA : Hid (s.stepAskReply ⟨mk, mf, mt, mT, mi, ml, mc, me, false⟩ = (s.follow mT (-1), [])) := by show _ = _; simp [Nd.stepAskReply, h1]
    have d1 : decide (s.term < mT) = true := decide_eq_true h1
    go_enter Tryz.func73, Tryz.ntmps73
    go_wp2
    go_quiet (fail)
    go_wp2_with (go_at_call 60; refine (refFollow_any rb s v [] mT (-1) _ (RB.drewN (unhide H) _)).mono ?_; rintro e w3 ⟨rfl, hR3, hE3⟩; replace hR3 := hide hR3; replace hE3 := hide hE3)
    refine bodyPost_ret (v := .tuple #[]) (results_none rfl _ _ _) rfl ⟨rfl, ?_⟩
    rw [unhide HA]
    exact ⟨[], rfl, v, unhide hR3, ((Er.ofBelow (unhide HB)).drewN _).trans (unhide hE3)⟩
  · have HA : Hid (s.stepAskReply ⟨mk, mf, mt, mT, mi, ml, mc, me, false⟩ = (s, [])) := by show _ = _; simp [Nd.stepAskReply, h1]
    have d1 : decide (s.term < mT) = false := decide_eq_false h1
    go_enter Tryz.func73, Tryz.ntmps73
    go_wp2
    go_quiet (fail)
    go_wp2
    refine bodyPost_ret (v := .tuple #[]) (results_none rfl _ _ _) rfl ⟨rfl, ?_⟩
    rw [unhide HA]
    exact ⟨[], rfl, v, RB.drewN (unhide H) _, (Er.ofBelow (unhide HB)).drewN _⟩

set_option maxRecDepth 100000 in
set_option maxHeartbeats 1000000 in
theorem refStepAskReply_past (rb : Nat) (s : Nd) (v : RV) (m : Msg) (ev : Value) (w : World) (h : RB w rb s v []) (hev : ∃ ao n c, ev = .slice ao n c) (hg : m.granted = true) (hx : ¬ (s.role = 1 ∧ m.term = s.term + 1)) (ht : 0 ≤ s.term) (ht2 : s.term ≤ 1000000) :
    Calls Tryz.prog 73 #[.pointer (some ⟨rb, 0, none⟩), magg m ev] w fun e w' => e = .returned (.tuple #[]) ∧ RDid rb v [] w (s.stepAskReply m) w' := by
  obtain ⟨eo, en, ec, rfl⟩ := hev
  obtain ⟨mk, mf, mt, mT, mi, ml, mc, me, mg⟩ := m
  simp only at hg hx
  subst hg
  have HB := hide (below_alloc w (.cells #[.int .i64 mk, .int .i64 mf, .int .i64 mt, .int .i64 mT, .int .i64 mi, .int .i64 ml, .int .i64 mc, .slice eo en ec, .bool true] 30))
  have H := hide (h.below (unhide HB))
  have hlt := h.lt
  have hne : ¬ rb = w.heap.size := by omega
  have c2 := h.c2
  have c6 := h.c6
  clear h
  have HA : Hid (s.stepAskReply ⟨mk, mf, mt, mT, mi, ml, mc, me, true⟩ = (s, [])) := by show _ = _; simp only [Nd.stepAskReply]; rw [if_neg (by simp), if_neg hx]
  by_cases h1 : s.role = 1
  · have b1 : (s.role != 1) = false := by simp [h1]
    have b2 : (mT != s.term + 1) = true := by simp; intro e; exact hx ⟨h1, e⟩
    clear h1 hx
    go_enter Tryz.func73, Tryz.ntmps73
    go_wp2
    go_quiet (fail)
    go_wp2
    refine bodyPost_ret (v := .tuple #[]) (results_none rfl _ _ _) rfl ⟨rfl, ?_⟩
    rw [unhide HA]
    exact ⟨[], rfl, v, RB.drewN (unhide H) _, (Er.ofBelow (unhide HB)).drewN _⟩
  · have b1 : (s.role != 1) = true := by simp [h1]
    clear h1 hx
    go_enter Tryz.func73, Tryz.ntmps73
    go_wp2
    go_quiet (fail)
    go_wp2
    refine bodyPost_ret (v := .tuple #[]) (results_none rfl _ _ _) rfl ⟨rfl, ?_⟩
    rw [unhide HA]
    exact ⟨[], rfl, v, RB.drewN (unhide H) _, (Er.ofBelow (unhide HB)).drewN _⟩

end Go.Proofs.YteiecbkfganhnaaGreat

namespace Go.Proofs.YteiecbkfganhnaaGreat

open Go.RowKit Go.MuLone

theorem Ok.grants {s : Nd} (h : Ok s) (i : Nat) (hi : i < s.n) : Ok (s.addGrant i) := { h with g7 := fun _ hj => upd_over h.g7 hi hj, lead := fun h3 => (by have := h.lead h3; exact ⟨this.last, this.pos, this.sz, this.lo, this.hi, this.mm⟩) }

theorem cnt_grants {s : Nd} {f : Nat} (hn : s.n ≤ 7) (hf : f < s.n) (hgr : ∀ i, s.n ≤ i → s.gr i = false) : cntTo (s.addGrant f).gr s.n = cnt (s.addGrant f).gr := by
  unfold cnt
  refine (cnt_beyond (fun i hi => ?_) hn).symm
  have : i ≠ f := by omega
  simp [Nd.addGrant, upd, this, hgr i hi]

set_option maxRecDepth 100000 in
set_option maxHeartbeats 1000000 in
theorem refStepAskReply_asks (rb f : Nat) (s : Nd) (v : RV) (m : Msg) (ev : Value) (w : World) (h : RB w rb s v []) (hok : Ok s) (hev : ∃ ao n c, ev = .slice ao n c) (hg : m.granted = true) (hf : m.src = (f : Int)) (hfn : f < s.n) (hgr : ∀ i, s.n ≤ i → s.gr i = false) (hr : s.role = 1) (hx : m.term = s.term + 1) (ht : 0 ≤ s.term) (ht2 : s.term < 1000000) :
    Calls Tryz.prog 73 #[.pointer (some ⟨rb, 0, none⟩), magg m ev] w fun e w' => e = .returned (.tuple #[]) ∧ RDid rb v [] w (s.stepAskReply m) w' := by
  obtain ⟨eo, en, ec, rfl⟩ := hev
  obtain ⟨mk, mf, mt, mT, mi, ml, mc, me, mg⟩ := m
  simp only at hg hx hf
  subst hg hf hx
  have HB := hide (below_alloc w (.cells #[.int .i64 mk, .int .i64 (f : Int), .int .i64 mt, .int .i64 (s.term + 1), .int .i64 mi, .int .i64 ml, .int .i64 mc, .slice eo en ec, .bool true] 30))
  have H := hide (h.below (unhide HB))
  have hlt := h.lt
  have hne : ¬ rb = w.heap.size := by omega
  have c2 := h.c2
  have c6 := h.c6
  rw [hr] at c6
  obtain ⟨gg, gc, hgv⟩ : ∃ g c, v.gv = .slice (some ⟨g, 0, none⟩) s.n c := by
    rcases h.gr.2 with ⟨_, h0⟩ | ⟨g, cap, cur, hv, _⟩
    · have := hok.n1; omega
    · exact ⟨g, cap, hv⟩
  have HGV := hide hgv
  have c10 := h.c10
  rw [hgv] at c10
  have HC := hide (cnt_grants (f := f) hok.n7 hfn hgr)
  have HOK := hide (hok.grants f hfn)
  have HA : Hid (s.stepAskReply ⟨mk, (f : Int), mt, s.term + 1, mi, ml, mc, me, true⟩ = if (s.addGrant f).maj (cnt (s.addGrant f).gr) = true then (s.addGrant f).stand else (s.addGrant f, [])) := by show _ = _; simp only [Nd.stepAskReply]; rw [if_neg (by simp), if_pos ⟨hr, trivial⟩]; rfl
  have h1 := h.gr
  rw [hgv] at h1
  obtain ⟨g3, hg3, z3, y3⟩ := owns_at h1 (j := f) (by rw [bC_length]; exact hfn)
  simp only [Option.some.injEq, Addr.mk.injEq, and_true] at hg3
  subst hg3
  have glt : gg < w.heap.size := owns_lt h1 _ rfl
  have a3 : ¬ gg = rb := fun e => owns_apart h.gr h.blk (by decide) (by rw [hgv, e]; rfl)
  have i1 : (0 : Int) ≤ (f : Int) := by omega
  have i2 : (f : Int) < (s.n : Int) := by omega
  clear h h1 y3 hgr hr hok hgv
  go_enter Tryz.func73, Tryz.ntmps73
  go_wp2
  go_quiet (fail)
  go_wp2
  have hR1 := RB.drewN (unhide H) nq
  have hE1 := hide ((Er.ofBelow (rb := rb) (v := v) (unhide HB)).drewN nq)
  have k1 : ((w.alloc (.cells #[.int .i64 mk, .int .i64 (f : Int), .int .i64 mt, .int .i64 (s.term + 1), .int .i64 mi, .int .i64 ml, .int .i64 mc, .slice eo en ec, .bool true] 30)).drewN nq).cell? ⟨w.heap.size, 1, none⟩ = some (.int .i64 (f : Int)) := by go_simp
  generalize (w.alloc (.cells #[.int .i64 mk, .int .i64 (f : Int), .int .i64 mt, .int .i64 (s.term + 1), .int .i64 mi, .int .i64 ml, .int .i64 mc, .slice eo en ec, .bool true] 30)).drewN nq = W at *
  have k10 := hR1.c10
  rw [unhide HGV] at k10
  have h1 := hR1.gr
  rw [unhide HGV] at h1
  obtain ⟨g4, hg4, z4, y4⟩ := owns_at h1 (j := f) (by rw [bC_length]; exact hfn)
  simp only [Option.some.injEq, Addr.mk.injEq, and_true] at hg4
  subst hg4
  have HF := hide (hR1.putGr (i := f) (unhide HGV) true)
  clear h1 hR1 c2 c6 c10 z3
  have HEF := hide ((unhide hE1).set (.inl (show v.has rb gg from .inr (.inr (.inl (by rw [unhide HGV]; rfl))))) f (.bool true)).drew
  have HX : Hid (RB (W.setCell ⟨gg, f, none⟩ (.bool true)).drew rb (s.addGrant f) v []) := (unhide HF).drew
  obtain ⟨c, hc⟩ : ∃ c, cnt (s.addGrant f).gr = c := ⟨_, rfl⟩
  have hc7 : c ≤ 7 := by rw [← hc]; exact cntTo_le _ 7
  rw [hc] at HC HA
  have HT2 : Hid ((s.addGrant f).term < 1000000) := ht2
  have HN7 : Hid ((s.addGrant f).n ≤ 7) := (unhide HOK).n7
  cases hm : (s.addGrant f).maj c with
  | true =>
    rw [hm, if_pos rfl] at HA
    have HM := hide hm
    clear hm hc
    go_region
    have HGR : Hid (World.ownsRow (W.setCell ⟨gg, f, none⟩ (.bool true)).drew 0 4 1 (.slice (some ⟨gg, 0, none⟩) s.n gc) s.n (bC (s.addGrant f).gr s.n)) := by have q := (unhide HX).gr; rw [unhide HGV] at q; exact q
    go_wp2_with (first | (go_at_call 121; refine (refGranted_any (s.addGrant f).gr s.n _ _ (unhide HN7) (unhide HGR)).mono ?_; rw [unhide HC]; rintro e w1 ⟨rfl, h1⟩; cases h1.symm) | (go_at_call 56; refine (refMajority_any rb (s.addGrant f) v [] c _ (unhide HX) hc7).mono ?_; rw [unhide HM]; rintro e w2 ⟨rfl, h2⟩; cases h2.symm) | (go_at_call 57; refine (refStands_any rb (s.addGrant f) v [] _ (unhide HX) (unhide HOK) (unhide HT2) (by simp)).mono ?_; rintro e w3 ⟨rfl, hd3⟩; replace hd3 := hide hd3))
    go_end0
    rw [unhide HA]
    exact ⟨rfl, RDid.ahead (unhide HEF) (unhide hd3)⟩
  | false =>
    rw [hm, if_neg (by simp)] at HA
    have HM := hide hm
    clear hm hc
    go_region
    have HGR : Hid (World.ownsRow (W.setCell ⟨gg, f, none⟩ (.bool true)).drew 0 4 1 (.slice (some ⟨gg, 0, none⟩) s.n gc) s.n (bC (s.addGrant f).gr s.n)) := by have q := (unhide HX).gr; rw [unhide HGV] at q; exact q
    go_wp2_with (first | (go_at_call 121; refine (refGranted_any (s.addGrant f).gr s.n _ _ (unhide HN7) (unhide HGR)).mono ?_; rw [unhide HC]; rintro e w1 ⟨rfl, h1⟩; cases h1.symm) | (go_at_call 56; refine (refMajority_any rb (s.addGrant f) v [] c _ (unhide HX) hc7).mono ?_; rw [unhide HM]; rintro e w2 ⟨rfl, h2⟩; cases h2.symm))
    go_end0
    rw [unhide HA]
    exact ⟨rfl, [], rfl, v, unhide HX, unhide HEF⟩

end Go.Proofs.YteiecbkfganhnaaGreat

namespace Go.Proofs.YteiecbkfganhnaaGreat

open Go.RowKit Go.MuLone

set_option maxRecDepth 100000 in
set_option maxHeartbeats 1000000 in
theorem refStepVoteReply_later (rb : Nat) (s : Nd) (v : RV) (m : Msg) (ev : Value) (w : World) (h : RB w rb s v []) (hev : ∃ ao n c, ev = .slice ao n c) (h1 : s.term < m.term) :
    Calls Tryz.prog 75 #[.pointer (some ⟨rb, 0, none⟩), magg m ev] w fun e w' => e = .returned (.tuple #[]) ∧ RDid rb v [] w (s.stepVoteReply m) w' := by
  obtain ⟨eo, en, ec, rfl⟩ := hev
  obtain ⟨mk, mf, mt, mT, mi, ml, mc, me, mg⟩ := m
  simp only at h1
  have HB := hide (below_alloc w (.cells #[.int .i64 mk, .int .i64 mf, .int .i64 mt, .int .i64 mT, .int .i64 mi, .int .i64 ml, .int .i64 mc, .slice eo en ec, .bool mg] 30))
  have H := hide (h.below (unhide HB))
  have hlt := h.lt
  have hne : ¬ rb = w.heap.size := by omega
  have c2 := h.c2
  clear h
  have HA : Hid (s.stepVoteReply ⟨mk, mf, mt, mT, mi, ml, mc, me, mg⟩ = (s.follow mT (-1), [])) := by show _ = _; simp [Nd.stepVoteReply, h1]
  have d1 : decide (s.term < mT) = true := decide_eq_true h1
  go_enter Tryz.func75, Tryz.ntmps75
  go_wp2
  go_quiet (fail)
  go_wp2_with (go_at_call 60; refine (refFollow_any rb s v [] mT (-1) _ (RB.drewN (unhide H) _)).mono ?_; rintro e w3 ⟨rfl, hR3, hE3⟩; replace hR3 := hide hR3; replace hE3 := hide hE3)
  refine bodyPost_ret (v := .tuple #[]) (results_none rfl _ _ _) rfl ⟨rfl, ?_⟩
  rw [unhide HA]
  exact ⟨[], rfl, v, unhide hR3, ((Er.ofBelow (unhide HB)).drewN _).trans (unhide hE3)⟩

set_option maxRecDepth 100000 in
set_option maxHeartbeats 1000000 in
theorem refStepVoteReply_votes (rb f : Nat) (s : Nd) (v : RV) (m : Msg) (ev : Value) (w : World) (h : RB w rb s v []) (hok : Ok s) (hev : ∃ ao n c, ev = .slice ao n c) (hg : m.granted = true) (hf : m.src = (f : Int)) (hfn : f < s.n) (hgr : ∀ i, s.n ≤ i → s.gr i = false) (hr : s.role = 2) (hx : m.term = s.term) (ht : 1 ≤ s.term) :
    Calls Tryz.prog 75 #[.pointer (some ⟨rb, 0, none⟩), magg m ev] w fun e w' => e = .returned (.tuple #[]) ∧ RDid rb v [] w (s.stepVoteReply m) w' := by
  obtain ⟨eo, en, ec, rfl⟩ := hev
  obtain ⟨mk, mf, mt, mT, mi, ml, mc, me, mg⟩ := m
  simp only at hg hx hf
  subst hg hf hx
  have HB := hide (below_alloc w (.cells #[.int .i64 mk, .int .i64 (f : Int), .int .i64 mt, .int .i64 (s.term), .int .i64 mi, .int .i64 ml, .int .i64 mc, .slice eo en ec, .bool true] 30))
  have H := hide (h.below (unhide HB))
  have hlt := h.lt
  have hne : ¬ rb = w.heap.size := by omega
  have c2 := h.c2
  have c6 := h.c6
  rw [hr] at c6
  obtain ⟨gg, gc, hgv⟩ : ∃ g c, v.gv = .slice (some ⟨g, 0, none⟩) s.n c := by
    rcases h.gr.2 with ⟨_, h0⟩ | ⟨g, cap, cur, hv, _⟩
    · have := hok.n1; omega
    · exact ⟨g, cap, hv⟩
  have HGV := hide hgv
  have c10 := h.c10
  rw [hgv] at c10
  have HC := hide (cnt_grants (f := f) hok.n7 hfn hgr)
  have HOK := hide (hok.grants f hfn)
  have HA : Hid (s.stepVoteReply ⟨mk, (f : Int), mt, s.term, mi, ml, mc, me, true⟩ = if (s.addGrant f).maj (cnt (s.addGrant f).gr) = true then (s.addGrant f).lead else (s.addGrant f, [])) := by show _ = _; simp only [Nd.stepVoteReply]; rw [if_neg (by omega), if_pos ⟨trivial, hr, trivial⟩]; rfl
  have h1 := h.gr
  rw [hgv] at h1
  obtain ⟨g3, hg3, z3, y3⟩ := owns_at h1 (j := f) (by rw [bC_length]; exact hfn)
  simp only [Option.some.injEq, Addr.mk.injEq, and_true] at hg3
  subst hg3
  have glt : gg < w.heap.size := owns_lt h1 _ rfl
  have a3 : ¬ gg = rb := fun e => owns_apart h.gr h.blk (by decide) (by rw [hgv, e]; rfl)
  have i1 : (0 : Int) ≤ (f : Int) := by omega
  have i2 : (f : Int) < (s.n : Int) := by omega
  clear h h1 y3 hgr hr hok hgv
  go_enter Tryz.func75, Tryz.ntmps75
  go_wp2
  go_quiet (fail)
  go_wp2
  revert nq
  intro n1
  go_quiet (fail)
  go_wp2
  have hR1 := RB.drewN (RB.drewN (unhide H) n1) nq
  have hE1 := hide ((Er.ofBelow (rb := rb) (v := v) (unhide HB)).drewN n1 |>.drewN nq)
  have k1 : (((w.alloc (.cells #[.int .i64 mk, .int .i64 (f : Int), .int .i64 mt, .int .i64 (s.term), .int .i64 mi, .int .i64 ml, .int .i64 mc, .slice eo en ec, .bool true] 30)).drewN n1).drewN nq).cell? ⟨w.heap.size, 1, none⟩ = some (.int .i64 (f : Int)) := by go_simp
  generalize ((w.alloc (.cells #[.int .i64 mk, .int .i64 (f : Int), .int .i64 mt, .int .i64 (s.term), .int .i64 mi, .int .i64 ml, .int .i64 mc, .slice eo en ec, .bool true] 30)).drewN n1).drewN nq = W at *
  have k10 := hR1.c10
  rw [unhide HGV] at k10
  have h1 := hR1.gr
  rw [unhide HGV] at h1
  obtain ⟨g4, hg4, z4, y4⟩ := owns_at h1 (j := f) (by rw [bC_length]; exact hfn)
  simp only [Option.some.injEq, Addr.mk.injEq, and_true] at hg4
  subst hg4
  have HF := hide (hR1.putGr (i := f) (unhide HGV) true)
  clear h1 hR1 c2 c6 c10 z3
  have HEF := hide ((unhide hE1).set (.inl (show v.has rb gg from .inr (.inr (.inl (by rw [unhide HGV]; rfl))))) f (.bool true)).drew
  have HX : Hid (RB (W.setCell ⟨gg, f, none⟩ (.bool true)).drew rb (s.addGrant f) v []) := (unhide HF).drew
  obtain ⟨c, hc⟩ : ∃ c, cnt (s.addGrant f).gr = c := ⟨_, rfl⟩
  have hc7 : c ≤ 7 := by rw [← hc]; exact cntTo_le _ 7
  rw [hc] at HC HA
  have HT2 : Hid (1 ≤ (s.addGrant f).term) := ht
  have HN7 : Hid ((s.addGrant f).n ≤ 7) := (unhide HOK).n7
  cases hm : (s.addGrant f).maj c with
  | true =>
    rw [hm, if_pos rfl] at HA
    have HM := hide hm
    clear hm hc
    go_region
    have HGR : Hid (World.ownsRow (W.setCell ⟨gg, f, none⟩ (.bool true)).drew 0 4 1 (.slice (some ⟨gg, 0, none⟩) s.n gc) s.n (bC (s.addGrant f).gr s.n)) := by have q := (unhide HX).gr; rw [unhide HGV] at q; exact q
    go_wp2_with (first | (go_at_call 121; refine (refGranted_any (s.addGrant f).gr s.n _ _ (unhide HN7) (unhide HGR)).mono ?_; rw [unhide HC]; rintro e w1 ⟨rfl, h1⟩; cases h1.symm) | (go_at_call 56; refine (refMajority_any rb (s.addGrant f) v [] c _ (unhide HX) hc7).mono ?_; rw [unhide HM]; rintro e w2 ⟨rfl, h2⟩; cases h2.symm) | (go_at_call 103; refine (refLead_start rb (s.addGrant f) v [] _ (unhide HX) (unhide HOK).n1 (unhide HOK).n7 (unhide HOK).id (unhide HOK).len (unhide HT2) (unhide HOK).log (by simp)).mono ?_; rintro e w3 ⟨rfl, hd3⟩; replace hd3 := hide hd3))
    go_end0
    rw [unhide HA]
    exact ⟨rfl, RDid.ahead (unhide HEF) (r := (s.addGrant f).lead) (unhide hd3)⟩
  | false =>
    rw [hm, if_neg (by simp)] at HA
    have HM := hide hm
    clear hm hc
    go_region
    have HGR : Hid (World.ownsRow (W.setCell ⟨gg, f, none⟩ (.bool true)).drew 0 4 1 (.slice (some ⟨gg, 0, none⟩) s.n gc) s.n (bC (s.addGrant f).gr s.n)) := by have q := (unhide HX).gr; rw [unhide HGV] at q; exact q
    go_wp2_with (first | (go_at_call 121; refine (refGranted_any (s.addGrant f).gr s.n _ _ (unhide HN7) (unhide HGR)).mono ?_; rw [unhide HC]; rintro e w1 ⟨rfl, h1⟩; cases h1.symm) | (go_at_call 56; refine (refMajority_any rb (s.addGrant f) v [] c _ (unhide HX) hc7).mono ?_; rw [unhide HM]; rintro e w2 ⟨rfl, h2⟩; cases h2.symm))
    go_end0
    rw [unhide HA]
    exact ⟨rfl, [], rfl, v, unhide HX, unhide HEF⟩

end Go.Proofs.YteiecbkfganhnaaGreat

namespace Go.Proofs.YteiecbkfganhnaaGreat

open Go.RowKit Go.MuLone

set_option maxRecDepth 100000 in
set_option maxHeartbeats 1000000 in
theorem refStepVoteReply_past (rb : Nat) (s : Nd) (v : RV) (m : Msg) (ev : Value) (w : World) (h : RB w rb s v []) (hev : ∃ ao n c, ev = .slice ao n c) (h0 : ¬ s.term < m.term) (hx : ¬ (m.granted = true ∧ s.role = 2 ∧ m.term = s.term)) :
    Calls Tryz.prog 75 #[.pointer (some ⟨rb, 0, none⟩), magg m ev] w fun e w' => e = .returned (.tuple #[]) ∧ RDid rb v [] w (s.stepVoteReply m) w' := by
  obtain ⟨eo, en, ec, rfl⟩ := hev
  obtain ⟨mk, mf, mt, mT, mi, ml, mc, me, mg⟩ := m
  simp only at h0 hx
  have HB := hide (below_alloc w (.cells #[.int .i64 mk, .int .i64 mf, .int .i64 mt, .int .i64 mT, .int .i64 mi, .int .i64 ml, .int .i64 mc, .slice eo en ec, .bool mg] 30))
  have H := hide (h.below (unhide HB))
  have hlt := h.lt
  have hne : ¬ rb = w.heap.size := by omega
  have c2 := h.c2
  have c6 := h.c6
  clear h
  have HA : Hid (s.stepVoteReply ⟨mk, mf, mt, mT, mi, ml, mc, me, mg⟩ = (s, [])) := by show _ = _; simp only [Nd.stepVoteReply]; rw [if_neg h0, if_neg hx]
  have d1 : decide (s.term < mT) = false := decide_eq_false h0
  cases mg with
  | false =>
    clear hx
    go_enter Tryz.func75, Tryz.ntmps75
    go_wp2
    go_quiet (fail)
    go_wp2
    revert nq
    intro n1
    go_quiet (fail)
    go_wp2
    refine bodyPost_ret (v := .tuple #[]) (results_none rfl _ _ _) rfl ⟨rfl, ?_⟩
    rw [unhide HA]
    exact ⟨[], rfl, v, RB.drewN (RB.drewN (unhide H) _) _, ((Er.ofBelow (unhide HB)).drewN _).drewN _⟩
  | true =>
    by_cases h1 : s.role = 2
    · have b1 : (s.role != 2) = false := by simp [h1]
      have b2 : (mT != s.term) = true := by simp; intro e; exact hx ⟨rfl, h1, e⟩
      clear h1 hx
      go_enter Tryz.func75, Tryz.ntmps75
      go_wp2
      go_quiet (fail)
      go_wp2
      revert nq
      intro n1
      go_quiet (fail)
      go_wp2
      refine bodyPost_ret (v := .tuple #[]) (results_none rfl _ _ _) rfl ⟨rfl, ?_⟩
      rw [unhide HA]
      exact ⟨[], rfl, v, RB.drewN (RB.drewN (unhide H) _) _, ((Er.ofBelow (unhide HB)).drewN _).drewN _⟩
    · have b1 : (s.role != 2) = true := by simp [h1]
      clear h1 hx
      go_enter Tryz.func75, Tryz.ntmps75
      go_wp2
      go_quiet (fail)
      go_wp2
      revert nq
      intro n1
      go_quiet (fail)
      go_wp2
      refine bodyPost_ret (v := .tuple #[]) (results_none rfl _ _ _) rfl ⟨rfl, ?_⟩
      rw [unhide HA]
      exact ⟨[], rfl, v, RB.drewN (RB.drewN (unhide H) _) _, ((Er.ofBelow (unhide HB)).drewN _).drewN _⟩

end Go.Proofs.YteiecbkfganhnaaGreat

namespace Go.Proofs.YteiecbkfganhnaaGreat

theorem Leads.same {s t : Nd} (h : Leads s) (h1 : t.log = s.log) (h2 : t.n = s.n) (h3 : t.nx = s.nx) (h4 : t.mt = s.mt) : Leads t := by
  refine ⟨?_, ?_, ?_, ?_, ?_, ?_⟩
  · show t.log.length ≤ 60; rw [h1]; exact h.last
  · show 0 < t.log.length; rw [h1]; exact h.pos
  · rw [h1]; exact h.sz
  · rw [h2, h3]; exact h.lo
  · rw [h2, h3]; show ∀ i, i < s.n → s.nx i ≤ t.log.length + 1; rw [h1]; exact h.hi
  · rw [h2, h4]; show ∀ i, i < s.n → s.mt i ≤ t.log.length; rw [h1]; exact h.mm

theorem Ok.count {s : Nd} (h : Ok s) : Ok s.count := by
  refine { h with com := ?_, lead := fun h3 => (h.lead h3).same rfl rfl rfl rfl }
  have h1 := countFrom_bound s s.last
  have h2 := h.com
  show s.countFrom s.last ≤ s.last
  omega

theorem Ok.hears {s : Nd} (h : Ok s) {f : Nat} (hf : f < s.n) : Ok (s.hears f) :=
  { h with h7 := fun _ hi => upd_over h.h7 hf hi, lead := fun h3 => (h.lead h3).same rfl rfl rfl rfl }

theorem upd_le {n j x b : Nat} {g : Nat → Nat} (hg : ∀ i, i < n → g i ≤ b) (hx : x ≤ b) : ∀ i, i < n → upd g j x i ≤ b := by
  intro i hi
  unfold upd
  split
  · exact hx
  · exact hg i hi

theorem le_upd {n j x b : Nat} {g : Nat → Nat} (hg : ∀ i, i < n → b ≤ g i) (hx : b ≤ x) : ∀ i, i < n → b ≤ upd g j x i := by
  intro i hi
  unfold upd
  split
  · exact hx
  · exact hg i hi

theorem Ok.matched {s : Nd} (h : Ok s) (f k : Nat) (hk : k ≤ s.last) : Ok (s.matched f k) := by
  have h1 : Ok ({ s with mt := upd s.mt f k, nx := upd s.nx f (k + 1) } : Nd) := by
    refine { h with lead := fun h3 => ?_ }
    have hl := h.lead h3
    exact ⟨hl.last, hl.pos, hl.sz, le_upd hl.lo (by omega), upd_le hl.hi (by show k + 1 ≤ s.last + 1; omega), upd_le hl.mm hk⟩
  exact h1.count

theorem Ok.backs {s : Nd} (h : Ok s) (hr : s.role = 3) {f : Nat} (hf : f < s.n) (k : Nat) : Ok (s.backs f k) := by
  refine { h with lead := fun h3 => ?_ }
  have hl := h.lead hr
  have h1 := hl.lo f hf
  have h2 := hl.hi f hf
  have h4 := hl.mm f hf
  exact ⟨hl.last, hl.pos, hl.sz, le_upd hl.lo (by omega), upd_le hl.hi (by show max (s.mt f + 1) (min (s.nx f - 1) (k + 1)) ≤ s.last + 1; omega), hl.mm⟩

theorem Ok.stepAppendReply {s : Nd} (h : Ok s) (m : Msg) (hm : SoundM m s.id s.n) : Ok (s.stepAppendReply m).1 := by
  have hf : m.src.toNat < s.n := by have := hm.s0; have := hm.s1; omega
  unfold Nd.stepAppendReply
  split
  · exact h.follow _ _ hm.t1 (by decide)
  · split
    · rename_i hr
      split
      · split
        · rename_i hi
          exact (h.hears hf).matched _ _ hi.1
        · exact h.hears hf
      · exact (h.hears hf).backs hr.1 hf _
    · exact h

/-- A head of a log bears the term of its last as a bound. -/
theorem okE_take_term {es : List Ent} {low high : Int} (h : okE es low high = true) (k : Nat) (hk : k ≤ es.length) (h0 : 0 < k) : okE (es.take k) low (Nd.termAt es k) = true := by
  induction es generalizing low k with
  | nil => simp at hk; omega
  | cons e es ih =>
    rw [okE_cons] at h
    obtain ⟨j, rfl⟩ : ∃ j, k = j + 1 := ⟨k - 1, by omega⟩
    rw [List.take_succ_cons, okE_cons]
    cases j with
    | zero => simp [Nd.termAt, okE, h.1, h.2.2.1]
    | succ j =>
      have h1 := ih h.2.2.2 (j + 1) (by simpa using hk) (by omega)
      have h2 : Nd.termAt (e :: es) (j + 1 + 1) = Nd.termAt es (j + 1) := by simp [Nd.termAt]
      rw [h2]
      refine ⟨h.1, ?_, h.2.2.1, h1⟩
      have hj : j < es.length := by simp at hk; omega
      rw [termAt_get hj]
      exact (okE_get h.2.2.2 j hj).1

theorem takes_ok {l : List Ent} {high : Int} (hl : okE l 1 high = true) (es : List Ent) (at_ : Nat) (ha : at_ ≤ l.length) (hes : okE es (max 1 (Nd.termAt l at_)) high = true) : okE (Nd.takes l at_ es) 1 high = true ∧ (Nd.takes l at_ es).length ≤ max l.length (at_ + es.length) ∧ at_ + es.length ≤ (Nd.takes l at_ es).length := by
  induction es generalizing at_ with
  | nil => exact ⟨hl, by simp only [Nd.takes]; omega, by simp only [Nd.takes]; simpa using ha⟩
  | cons e es ih =>
    simp only [Nd.takes]
    split
    · refine ⟨?_, ?_, ?_⟩
      · by_cases h0 : at_ = 0
        · subst h0
          rw [List.take_zero, List.nil_append]
          exact okE_low hes (by omega)
        · have h2 := okE_take_term hl at_ ha (by omega)
          have h3 : Nd.termAt l at_ ≤ high := by
            obtain ⟨j, rfl⟩ : ∃ j, at_ = j + 1 := ⟨at_ - 1, by omega⟩
            rw [termAt_get (by omega)]
            exact (okE_get hl j (by omega)).2.1
          have h4 : 1 ≤ Nd.termAt l at_ := by
            obtain ⟨j, rfl⟩ : ∃ j, at_ = j + 1 := ⟨at_ - 1, by omega⟩
            rw [termAt_get (by omega)]
            exact (okE_get hl j (by omega)).1
          exact okE_append h2 (okE_low hes (by omega)) h4 h3
      · rw [List.length_append, List.length_take]; omega
      · rw [List.length_append, List.length_take]; omega
    · rename_i hc
      have hlt : at_ < l.length := by omega
      have hte : Nd.termAt l (at_ + 1) = e.1 := Classical.not_not.1 fun hx => hc (.inr hx)
      rw [okE_cons] at hes
      have h2 := ih (at_ + 1) hlt (by rw [hte]; exact okE_low hes.2.2.2 (by omega))
      refine ⟨h2.1, ?_, ?_⟩
      · have := h2.2.1; simp only [List.length_cons]; omega
      · have := h2.2.2; simp only [List.length_cons]; omega

/-- What is committed stays. -/
theorem takes_keeps {l : List Ent} {commit at_ : Nat} {es : List Ent} (h : Nd.keeps l commit at_ es = true) (hc : commit ≤ l.length) : commit ≤ (Nd.takes l at_ es).length ∧ (Nd.takes l at_ es).take commit = l.take commit := by
  induction es generalizing at_ with
  | nil => exact ⟨hc, rfl⟩
  | cons e es ih =>
    have hk := h
    simp only [Nd.keeps, Bool.and_eq_true, Bool.or_eq_true, decide_eq_true_eq] at h
    simp only [Nd.takes]
    split
    · rename_i hx
      have hle : commit ≤ at_ := by
        rcases h.1 with h1 | h1
        · exact h1
        · exfalso
          have hlt : at_ < l.length := by
            rcases Nat.lt_or_ge at_ l.length with h2 | h2
            · exact h2
            · rw [List.getElem?_eq_none h2] at h1; cases h1
          rw [List.getElem?_eq_getElem hlt] at h1
          rcases hx with h2 | h2
          · omega
          · rw [termAt_get hlt] at h2
            have := Option.some.inj h1
            rw [this] at h2
            exact h2 rfl
      refine ⟨?_, ?_⟩
      · rw [List.length_append, List.length_take]; omega
      · rw [List.take_append_of_le_length (by rw [List.length_take]; omega), List.take_take, Nat.min_eq_left hle]
    · exact ih h.2

theorem Ok.stepAppend {s : Nd} (h : Ok s) (m : Msg) (hm : SoundM m s.id s.n) : Ok (s.stepAppend m).1 := by
  unfold Nd.stepAppend
  split
  · exact h
  · rename_i h1
    split
    · exact h
    · have hF : Ok (s.follow m.term m.src) := h.follow _ _ hm.t1 (by have := hm.s0; omega)
      have hlog : (s.follow m.term m.src).log = s.log := by unfold Nd.follow; split <;> rfl
      have hcom : (s.follow m.term m.src).commit = s.commit := by unfold Nd.follow; split <;> rfl
      have hterm : (s.follow m.term m.src).term = m.term := by
        unfold Nd.follow
        split
        · rfl
        · show s.term = m.term; omega
      have hrole : (s.follow m.term m.src).role = 0 := by unfold Nd.follow; split <;> rfl
      have hA : Ok (s.appS m) := { hF with e0 := Int.le_refl _, lead := fun h3 => (by have h9 : (s.follow m.term m.src).role = 3 := h3; rw [hrole] at h9; cases h9) }
      split
      · exact hA
      · rename_i h3
        split
        · exact hA
        · rename_i h4
          have hi : m.index.toNat ≤ s.log.length := by
            have h5 : ¬ (s.last : Int) < m.index := fun hx => h3 (.inl hx)
            have h6 := hm.i0
            have h7 : s.last = s.log.length := rfl
            omega
          have hlt : s.termOf m.index.toNat = m.logTerm := Classical.not_not.1 fun hx => h3 (.inr hx)
          have hk : Nd.keeps s.log s.commit m.index.toNat m.ents = true := by
            cases hb : Nd.keeps s.log s.commit m.index.toNat m.ents with
            | true => rfl
            | false => exact absurd (.inr hb) h4
          have hl60 : ¬ 60 < m.index.toNat + m.ents.length := fun hx => h4 (.inl hx)
          have hlogA : okE s.log 1 m.term = true := okE_high h.log (by omega)
          have hT := takes_ok hlogA m.ents m.index.toNat hi (by rw [show Nd.termAt s.log m.index.toNat = m.logTerm from hlt]; exact hm.ok)
          have hC := takes_keeps (at_ := m.index.toNat) hk h.com
          refine { hA with log := ?_, len := ?_, com := ?_, lead := ?_ }
          · show okE (Nd.takes s.log m.index.toNat m.ents) 1 (s.follow m.term m.src).term = true
            rw [hterm]; exact hT.1
          · show (Nd.takes s.log m.index.toNat m.ents).length ≤ 60
            have h5 : s.log.length ≤ 60 := h.len
            have h6 := hT.2.1
            omega
          · show max s.commit (min m.commit.toNat (m.index.toNat + m.ents.length)) ≤ (Nd.takes s.log m.index.toNat m.ents).length
            have h5 := hC.1
            have h6 := hT.2.2
            omega
          · intro h9
            have h10 : (s.follow m.term m.src).role = 3 := h9
            rw [hrole] at h10; cases h10

theorem Ok.step {s : Nd} (h : Ok s) (m : Msg) : Ok (s.step m).1 := by
  unfold Nd.step
  split
  · rename_i hb
    have hm := soundM_of hb
    split
    · exact (h.reply0 m hm).1
    · split
      · exact (h.reply0 m hm).2.1
      · split
        · exact h.stepVote m hm
        · split
          · exact (h.reply0 m hm).2.2
          · split
            · exact h.stepAppend m hm
            · exact h.stepAppendReply m hm
  · exact h

/-- A log that is one entry longer. -/
def Nd.puts (s : Nd) (c : ByteArray) : Nd := { s with log := s.log ++ [(s.term, c)] }

theorem proposeS_eq (s : Nd) (c : ByteArray) : s.proposeS c = (s.puts c).leadC.count := by
  simp [Nd.proposeS, Nd.puts, Nd.leadC, Nd.last]

theorem Ok.puts {s : Nd} (h : Ok s) (c : ByteArray) (hc : c.size ≤ 20) (hl : s.last < 60) (ht : 1 ≤ s.term) : Ok (s.puts c) := by
  have hlen : (s.log ++ [(s.term, c)]).length = s.last + 1 := by simp [Nd.last]
  have hok : okE (s.log ++ [(s.term, c)]) 1 s.term = true := okE_append h.log (by rw [okE_cons]; exact ⟨Int.le_refl _, Int.le_refl _, hc, rfl⟩) ht (Int.le_refl _)
  refine { h with log := hok, len := ?_, com := ?_, lead := fun h3 => ?_ }
  · show (s.log ++ [(s.term, c)]).length ≤ 60; omega
  · show s.commit ≤ (s.log ++ [(s.term, c)]).length; have := h.com; omega
  · have hL := h.lead h3
    refine ⟨?_, ?_, okE_sizes hok, hL.lo, fun i hi => ?_, fun i hi => ?_⟩
    · show (s.log ++ [(s.term, c)]).length ≤ 60; omega
    · show 0 < (s.log ++ [(s.term, c)]).length; omega
    · show s.nx i ≤ (s.log ++ [(s.term, c)]).length + 1; have := hL.hi i hi; omega
    · show s.mt i ≤ (s.log ++ [(s.term, c)]).length; have := hL.mm i hi; omega

theorem Ok.leadC {s : Nd} (h : Ok s) : Ok s.leadC :=
  { h with lead := fun h3 => (by have := h.lead h3; exact ⟨this.last, this.pos, this.sz, this.lo, this.hi, upd_le this.mm (Nat.le_refl _)⟩) }

theorem Ok.proposeS {s : Nd} (h : Ok s) (c : ByteArray) (hc : c.size ≤ 20) (hl : s.last < 60) (ht : 1 ≤ s.term) : Ok (s.proposeS c) := by
  rw [proposeS_eq]
  exact ((h.puts c hc hl ht).leadC).count

theorem Ok.made {id n : Nat} {term vote : Int} {log : List Ent} (h1 : 1 ≤ n) (h2 : n ≤ 7) (h3 : id < n) (h4 : ¬ (term < 0 ∨ 1000000 < term ∨ vote < -1 ∨ (n : Int) ≤ vote ∨ 60 < (log.length : Int) ∨ okE log 1 term = false)) : Ok (Nd.made id n term vote log) :=
  { n1 := h1, n7 := h2, id := h3, t0 := by show 0 ≤ term; omega, t1 := by show term ≤ 1000000; omega,
    log := by
      show okE log 1 term = true
      cases hb : okE log 1 term with
      | true => rfl
      | false => exact absurd (.inr (.inr (.inr (.inr (.inr hb))))) h4
    len := by show log.length ≤ 60; omega, com := Nat.zero_le _, lead := fun h9 => (by cases h9), e0 := Int.le_refl _, p0 := by show (1 : Int) ≤ 10; decide, p1 := by show (10 : Int) ≤ 40; decide, g7 := fun _ _ => rfl, h7 := fun _ _ => rfl, l0 := by show (-1 : Int) ≤ -1; decide, v0 := by show -1 ≤ vote; omega, v1 := by show vote < (n : Int); omega }

/-- What is saved of a node is right. -/
theorem Ok.saved {s : Nd} (h : Ok s) : ¬ (s.term < 0 ∨ 1000000 < s.term ∨ s.vote < -1 ∨ (s.n : Int) ≤ s.vote ∨ 60 < (s.log.length : Int) ∨ okE s.log 1 s.term = false) := by
  have h1 := h.t0
  have h2 := h.t1
  have h3 := h.v0
  have h4 := h.v1
  have h5 : s.log.length ≤ 60 := h.len
  rintro (hx | hx | hx | hx | hx | hx)
  · omega
  · omega
  · omega
  · omega
  · omega
  · rw [h.log] at hx; cases hx

end Go.Proofs.YteiecbkfganhnaaGreat
