/- The program's node: to stand, to ask, a leader's tick. -/
import Derived.Test.YteiecbkfganhnaaLead
namespace Go.Proofs.Yteiecbkfganhnaa
open Go.RowKit Go.MuLone

theorem Sent.ahead {mu : Int} {nb : Nat} {lv : Value} {w w1 w' : World} {r : Nd × List Msg} {e : Ending} (h : Ew nb w w1) (hs : Sent mu nb lv w1 r e w') : Sent mu nb lv w r e w' := by
  obtain ⟨v, l, lv', he, hN, hL, hM, hV, hA⟩ := hs
  exact ⟨v, l, lv', he, hN, hL, hM.base h.size, (Ev.ofEw h).trans hV, hA⟩

theorem Sent.quiet {mu : Int} {nb : Nat} {lv : Value} {w w1 : World} {t : Nd} (h : Ew nb w w1) (hN : NB mu w1 nb t lv) (hL : NL w1 t lv) : Sent mu nb lv w (t, []) (.returned (.slice none 0 0)) w1 :=
  ⟨_, [], lv, rfl, hN, hL, MsgsOut.nil _ _, Ev.ofEw h, fun x hx => by cases hx⟩

theorem Sent.told {mu : Int} {nb : Nat} {lv v : Value} {w w1 w' : World} {t : Nd} {ms : List Msg} {l : List (Msg × Value)} (h : Ew nb w w1) (hN : NB mu w1 nb t lv) (hL : NL w1 t lv) (hM : MsgsOut w' w1.heap.size v ms l) (hb : Below w1.heap.size w1 w') : Sent mu nb lv w (t, ms) (.returned v) w' :=
  ⟨v, l, lv, rfl, hN.below hb, hL.below hb, hM.base h.size, Ev.ofEw (h.below hb), apart_of hL hM⟩

set_option maxRecDepth 100000 in
set_option maxHeartbeats 1000000 in
theorem stand_any (mu : Int) (nb : Nat) (s : Nd) (lv : Value) (w : World) (h : NB mu w nb s lv) (hl : NL w s lv) (hok : Ok s) (ht : s.term < 1000000) :
    Calls Try.prog 60 #[.pointer (some ⟨nb, 0, none⟩)] w fun e w' => Sent mu nb lv w s.stand e w' := by
  have c2 := h.c2
  have c4 := h.c4
  have c5 := h.c5
  have f4 := h.free 4
  have f5 := h.free 5
  have t0 := hok.t0
  have HN1 := hide ((h.setTerm (s.term + 1)).setVote (s.id : Int))
  have HE1 := hide (((Ew.refl nb w).set 4 (.int .i64 (s.term + 1))).set 5 (.int .i64 (s.id : Int)))
  have HOK := hide (hok.standS ht)
  have HT1 : Hid (1 ≤ s.standS.term) := by show 1 ≤ s.term + 1; omega
  have H := hide h
  have HL := hide hl
  have HI := hide (Nat.lt_of_lt_of_le hok.id hok.n7)
  have HST : Hid (Nd.campaign { s with term := s.term + 1, vote := (s.id : Int) } 2 = s.standS) := rfl
  obtain ⟨r, HR⟩ : ∃ r, s.stand = r := ⟨_, rfl⟩
  rw [HR]
  unfold Nd.stand at HR
  clear h hl hok
  generalize s.standS = t at *
  replace HR := hide HR
  go_enter Try.func60, Try.ntmps60
  go_wp2_with fail
  generalize (w.setCell ⟨nb, 4, none⟩ (.int .i64 (s.term + 1))).setCell ⟨nb, 5, none⟩ (.int .i64 (s.id : Int)) = W at *
  clear c2 c4 c5 f4 f5
  have HC : Hid (∀ e w', (e = Ending.returned (.tuple #[]) ∧ NB mu w' nb (Nd.campaign { s with term := s.term + 1, vote := (s.id : Int) } 2) lv ∧ Ew nb W w') → (e = .returned (.tuple #[]) ∧ NB mu w' nb t lv ∧ Ew nb w w' ∧ NL w' t lv)) := by
    rintro e w' ⟨h1, h2, h3⟩
    rw [unhide HST] at h2
    refine ⟨h1, h2, (unhide HE1).trans h3, ?_⟩
    rw [← unhide HST]
    exact (unhide HL).ew (unhide H) ((unhide HE1).trans h3)
  by_cases hm : t.maj (cnt t.gr) = true
  · have HM := hide hm
    have HR2 : Hid (t.lead = r) := by rw [← unhide HR, if_pos hm]; rfl
    clear hm
    go_wp2_with (first | (go_at_call 59; refine (campaign_any mu nb _ lv 2 _ (unhide HN1) (unhide HI)).mono ?_; intro e w1 hx; obtain ⟨rfl, hN2, hE2, hL2⟩ := (unhide HC) e w1 hx; clear hx; have k12 := hN2.c12; have k13 := hN2.c13; have k14 := hN2.c14; have k15 := hN2.c15; have k16 := hN2.c16; have k17 := hN2.c17; have k18 := hN2.c18; replace hN2 := hide hN2; replace hE2 := hide hE2; replace hL2 := hide hL2) | (go_at_call 57; refine (size_any t.gr w1).mono ?_; rintro e w2 ⟨rfl, hb2⟩; replace hb2 := hide hb2) | (go_at_call 55; refine (isMajority_any mu nb t lv (cnt t.gr) w2 ((unhide hN2).below (unhide hb2)) (unhide HOK).n7).mono ?_; rw [unhide HM]; rintro e w3 ⟨rfl, h3⟩; cases h3.symm) | (go_at_call 68; refine (lead_any mu nb t lv w2 ((unhide hN2).below (unhide hb2)) ((unhide hL2).below (unhide hb2)) (unhide HOK).len (unhide HOK).n7 (unhide HOK).id (lead_own (unhide HOK).log (unhide HOK).len (unhide HT1)) (lead_leads (unhide HOK).log (unhide HOK).len (unhide HT1))).mono ?_; rw [unhide HR2]; intro e w4 hx4; obtain ⟨v, l, lv', rfl, hx4⟩ := hx4; replace hx4 := hide hx4))
    go_ret
    exact Sent.ahead ((unhide hE2).below (unhide hb2)) ⟨v, l, lv', rfl, unhide hx4⟩
  · have hm' : t.maj (cnt t.gr) = false := by simpa using hm
    have HM := hide hm'
    have HR2 : Hid ((t, t.request 2 t.term) = r) := by rw [← unhide HR, if_neg hm]; rfl
    clear hm hm'
    go_wp2_with (first | (go_at_call 59; refine (campaign_any mu nb _ lv 2 _ (unhide HN1) (unhide HI)).mono ?_; intro e w1 hx; obtain ⟨rfl, hN2, hE2, hL2⟩ := (unhide HC) e w1 hx; clear hx; have k12 := hN2.c12; have k13 := hN2.c13; have k14 := hN2.c14; have k15 := hN2.c15; have k16 := hN2.c16; have k17 := hN2.c17; have k18 := hN2.c18; replace hN2 := hide hN2; replace hE2 := hide hE2; replace hL2 := hide hL2) | (go_at_call 57; refine (size_any t.gr w1).mono ?_; rintro e w2 ⟨rfl, hb2⟩; have k4 := ((unhide hN2).below hb2).c4; replace hb2 := hide hb2) | (go_at_call 55; refine (isMajority_any mu nb t lv (cnt t.gr) w2 ((unhide hN2).below (unhide hb2)) (unhide HOK).n7).mono ?_; rw [unhide HM]; rintro e w3 ⟨rfl, h3⟩; cases h3.symm) | (go_at_call 61; refine (request_any mu nb t lv 2 t.term w2 ((unhide hN2).below (unhide hb2)) ((unhide hL2).below (unhide hb2)) (unhide HOK).len (unhide HOK).n7).mono ?_; rintro e w4 ⟨v, l, rfl, hm4, hb4⟩; replace hm4 := hide hm4; replace hb4 := hide hb4))
    go_ret
    rw [← unhide HR2]
    exact Sent.told ((unhide hE2).below (unhide hb2)) ((unhide hN2).below (unhide hb2)) ((unhide hL2).below (unhide hb2)) (unhide hm4) (unhide hb4)

end Go.Proofs.Yteiecbkfganhnaa
