/- The program's node: to ask, a leader's tick. -/
import Derived.Test.YteiecbkfganhnaaStand
namespace Go.Proofs.Yteiecbkfganhnaa
open Go.RowKit Go.MuLone

set_option maxRecDepth 100000 in
set_option maxHeartbeats 1000000 in
theorem ask_any (mu : Int) (nb : Nat) (s : Nd) (lv : Value) (w : World) (h : NB mu w nb s lv) (hl : NL w s lv) (hok : Ok s) (ht : s.term < 1000000) :
    Calls Try.prog 37 #[.pointer (some ⟨nb, 0, none⟩)] w fun e w' => Sent mu nb lv w s.ask e w' := by
  have t0 := hok.t0
  have HOK := hide (hok.campaign 1 (by decide))
  have HT1 : Hid ((s.campaign 1).term < 1000000 ∧ (s.campaign 1).term = s.term) := ⟨ht, rfl⟩
  have H := hide h
  have HL := hide hl
  have HI := hide (Nat.lt_of_lt_of_le hok.id hok.n7)
  obtain ⟨r, HR⟩ : ∃ r, s.ask = r := ⟨_, rfl⟩
  rw [HR]
  unfold Nd.ask at HR
  clear h hl hok
  have HC : Hid (∀ e w', (e = Ending.returned (.tuple #[]) ∧ NB mu w' nb (s.campaign 1) lv ∧ Ew nb w w') → (e = .returned (.tuple #[]) ∧ NB mu w' nb (s.campaign 1) lv ∧ Ew nb w w' ∧ NL w' (s.campaign 1) lv)) := by
    rintro e w' ⟨h1, h2, h3⟩
    exact ⟨h1, h2, h3, (unhide HL).ew (unhide H) h3⟩
  obtain ⟨t, HTT⟩ : ∃ t, s.campaign 1 = t := ⟨_, rfl⟩
  rw [HTT] at HR HOK HT1
  replace HTT := hide HTT
  replace HR := hide HR
  by_cases hm : t.maj (cnt t.gr) = true
  · have HM := hide hm
    have HR2 : Hid (t.stand = r) := by rw [← unhide HR, if_pos hm]; rfl
    clear hm
    go_enter Try.func37, Try.ntmps37
    go_wp2_with (first | (go_at_call 59; refine (campaign_any mu nb s lv 1 _ (unhide H) (unhide HI)).mono ?_; intro e w1 hx; obtain ⟨rfl, hN2, hE2, hL2⟩ := (unhide HC) e w1 hx; clear hx; rw [unhide HTT] at hN2 hL2; have k12 := hN2.c12; have k13 := hN2.c13; have k14 := hN2.c14; have k15 := hN2.c15; have k16 := hN2.c16; have k17 := hN2.c17; have k18 := hN2.c18; replace hN2 := hide hN2; replace hE2 := hide hE2; replace hL2 := hide hL2) | (go_at_call 57; refine (size_any t.gr w1).mono ?_; rintro e w2 ⟨rfl, hb2⟩; replace hb2 := hide hb2) | (go_at_call 55; refine (isMajority_any mu nb t lv (cnt t.gr) w2 ((unhide hN2).below (unhide hb2)) (unhide HOK).n7).mono ?_; rw [unhide HM]; rintro e w3 ⟨rfl, h3⟩; cases h3.symm) | (go_at_call 60; refine (stand_any mu nb t lv w2 ((unhide hN2).below (unhide hb2)) ((unhide hL2).below (unhide hb2)) (unhide HOK) (unhide HT1).1).mono ?_; rw [unhide HR2]; intro e w4 hx4; obtain ⟨v, l, lv', rfl, hx4⟩ := hx4; replace hx4 := hide hx4))
    go_ret
    exact Sent.ahead ((unhide hE2).below (unhide hb2)) ⟨v, l, lv', rfl, unhide hx4⟩
  · have hm' : t.maj (cnt t.gr) = false := by simpa using hm
    have HM := hide hm'
    have HR2 : Hid ((t, t.request 0 (s.term + 1)) = r) := by rw [← unhide HR, if_neg hm]; rfl
    clear hm hm'
    go_enter Try.func37, Try.ntmps37
    go_wp2_with (first | (go_at_call 59; refine (campaign_any mu nb s lv 1 _ (unhide H) (unhide HI)).mono ?_; intro e w1 hx; obtain ⟨rfl, hN2, hE2, hL2⟩ := (unhide HC) e w1 hx; clear hx; rw [unhide HTT] at hN2 hL2; have k12 := hN2.c12; have k13 := hN2.c13; have k14 := hN2.c14; have k15 := hN2.c15; have k16 := hN2.c16; have k17 := hN2.c17; have k18 := hN2.c18; replace hN2 := hide hN2; replace hE2 := hide hE2; replace hL2 := hide hL2) | (go_at_call 57; refine (size_any t.gr w1).mono ?_; rintro e w2 ⟨rfl, hb2⟩; have k4 := ((unhide hN2).below hb2).c4; rw [(unhide HT1).2] at k4; replace hb2 := hide hb2) | (go_at_call 55; refine (isMajority_any mu nb t lv (cnt t.gr) w2 ((unhide hN2).below (unhide hb2)) (unhide HOK).n7).mono ?_; rw [unhide HM]; rintro e w3 ⟨rfl, h3⟩; cases h3.symm) | (go_at_call 61; refine (request_any mu nb t lv 0 (s.term + 1) w2 ((unhide hN2).below (unhide hb2)) ((unhide hL2).below (unhide hb2)) (unhide HOK).len (unhide HOK).n7).mono ?_; rintro e w4 ⟨v, l, rfl, hm4, hb4⟩; replace hm4 := hide hm4; replace hb4 := hide hb4))
    go_ret
    rw [← unhide HR2]
    exact Sent.told ((unhide hE2).below (unhide hb2)) ((unhide hN2).below (unhide hb2)) ((unhide hL2).below (unhide hb2)) (unhide hm4) (unhide hb4)

theorem NL.ew_follow {mu : Int} {w w' : World} {nb : Nat} {s : Nd} {lv : Value} {t l : Int} (h : NL w s lv) (hN : NB mu w nb s lv) (he : Ew nb w w') : NL w' (({ s with elapsed := 0 } : Nd).follow t l) lv := by
  have h1 : (({ s with elapsed := 0 } : Nd).follow t l).log = s.log := by unfold Nd.follow; split <;> rfl
  unfold NL
  rw [h1]
  exact h.ew hN he

set_option maxRecDepth 100000 in
set_option maxHeartbeats 1000000 in
theorem tickLeader_any (mu : Int) (nb : Nat) (s : Nd) (lv : Value) (w : World) (h : NB mu w nb s lv) (hl : NL w s lv) (hld : Leads s) (hn7 : s.n ≤ 7) (hid : s.id < s.n) :
    Calls Try.prog 36 #[.pointer (some ⟨nb, 0, none⟩)] w fun e w' => Sent mu nb lv w s.tickLeader e w' := by
  have c10 := h.c10
  have c11 := h.c11
  have H := hide h
  have HL := hide hl
  have HLD := hide hld
  by_cases hp : s.pat ≤ s.elapsed
  · have f10 := h.free 10
    have HN0 := hide (h.setElapsed 0)
    clear h hl hld
    go_enter Try.func36, Try.ntmps36
    go_wp2
    go_quiet (fail)
    go_wp2
    have HN1 : Hid (NB mu ((w.drewN nq).setCell ⟨nb, 10, none⟩ (.int .i64 0)) nb { s with elapsed := 0 } lv) := (NB.drewN (unhide H) nq).setElapsed 0
    have HE1 : Hid (Ew nb w ((w.drewN nq).setCell ⟨nb, 10, none⟩ (.int .i64 0))) := ((Ew.refl nb w).drewN nq).set 10 _
    generalize (w.drewN nq).setCell ⟨nb, 10, none⟩ (.int .i64 0) = W at *
    have z33 : W.cell? ⟨nb, 33, none⟩ = some (.bool (s.hd 0)) := (unhide HN1).c33
    have z34 : W.cell? ⟨nb, 34, none⟩ = some (.bool (s.hd 1)) := (unhide HN1).c34
    have z35 : W.cell? ⟨nb, 35, none⟩ = some (.bool (s.hd 2)) := (unhide HN1).c35
    have z36 : W.cell? ⟨nb, 36, none⟩ = some (.bool (s.hd 3)) := (unhide HN1).c36
    have z37 : W.cell? ⟨nb, 37, none⟩ = some (.bool (s.hd 4)) := (unhide HN1).c37
    have z38 : W.cell? ⟨nb, 38, none⟩ = some (.bool (s.hd 5)) := (unhide HN1).c38
    have z39 : W.cell? ⟨nb, 39, none⟩ = some (.bool (s.hd 6)) := (unhide HN1).c39
    have z2 : W.cell? ⟨nb, 2, none⟩ = some (.int .i64 (s.id : Int)) := (unhide HN1).c2
    clear c10 c11 f10 HN0
    by_cases hm : s.maj (cnt (upd s.hd s.id true)) = true
    · have HR : Hid (s.tickLeader = ({ s with elapsed := 0, hd := none7 }, ({ s with elapsed := 0, hd := none7 } : Nd).appends)) := by
        show _ = _
        unfold Nd.tickLeader
        rw [if_pos hp, if_pos hm]
      have HM : Hid (Nd.maj { s with elapsed := 0 } (cnt (upd s.hd s.id true)) = true) := hm
      clear hm
      go_region_held3 (fun w' => w'.cell? ⟨nb, 33, none⟩ = some (.bool (s.hd 0)) ∧ w'.cell? ⟨nb, 34, none⟩ = some (.bool (s.hd 1)) ∧ w'.cell? ⟨nb, 35, none⟩ = some (.bool (s.hd 2)) ∧ w'.cell? ⟨nb, 36, none⟩ = some (.bool (s.hd 3)) ∧ w'.cell? ⟨nb, 37, none⟩ = some (.bool (s.hd 4)) ∧ w'.cell? ⟨nb, 38, none⟩ = some (.bool (s.hd 5)) ∧ w'.cell? ⟨nb, 39, none⟩ = some (.bool (s.hd 6)) ∧ w'.cell? ⟨nb, 2, none⟩ = some (.int .i64 (s.id : Int))) (first | go_keep) (first | (go_at_call 56; refine (with_any s.hd s.id W.drew (by omega)).mono ?_; rintro e w1 ⟨rfl, hb1⟩; have hN2 : NB mu w1 nb { s with elapsed := 0 } lv := (NB.below (w := W.drew) (unhide HN1) hb1); have y33 := hN2.c33; have y34 := hN2.c34; have y35 := hN2.c35; have y36 := hN2.c36; have y37 := hN2.c37; have y38 := hN2.c38; have y39 := hN2.c39; have y2 := hN2.c2; have hB1 := hide (Below.undrew hb1); replace hN2 := hide hN2; clear hb1) | (go_at_call 57; refine (size_any (upd s.hd s.id true) w1).mono ?_; rintro e w2 ⟨rfl, hb2⟩; have hN3 := (unhide hN2).below hb2; have x33 := hN3.c33; have x34 := hN3.c34; have x35 := hN3.c35; have x36 := hN3.c36; have x37 := hN3.c37; have x38 := hN3.c38; have x39 := hN3.c39; have x2 := hN3.c2; replace hN3 := hide hN3; replace hb2 := hide hb2) | (go_at_call 55; refine (isMajority_any mu nb { s with elapsed := 0 } lv (cnt (upd s.hd s.id true)) w2 (unhide hN3) hn7).mono ?_; rw [unhide HM]; rintro e w3 ⟨rfl, h3⟩; cases h3.symm))
      all_goals
        have q33 := (unhide hN3).free 33
        have q34 := (unhide hN3).free 34
        have q35 := (unhide hN3).free 35
        have q36 := (unhide hN3).free 36
        have q37 := (unhide hN3).free 37
        have q38 := (unhide hN3).free 38
        have q39 := (unhide hN3).free 39
        have HE3 := hide (((unhide HE1).below (unhide hB1)).below (unhide hb2))
        have HN4 : Hid (NB mu (((((((w2.setCell ⟨nb, 33, none⟩ (.bool false)).setCell ⟨nb, 34, none⟩ (.bool false)).setCell ⟨nb, 35, none⟩ (.bool false)).setCell ⟨nb, 36, none⟩ (.bool false)).setCell ⟨nb, 37, none⟩ (.bool false)).setCell ⟨nb, 38, none⟩ (.bool false)).setCell ⟨nb, 39, none⟩ (.bool false)) nb { s with elapsed := 0, hd := none7 } lv) := (unhide hN3).setHd none7
        go_wp2_with fail
        have HE4 := hide (((((((((unhide HE3)).set 33 (.bool false)).set 34 (.bool false)).set 35 (.bool false)).set 36 (.bool false)).set 37 (.bool false)).set 38 (.bool false)).set 39 (.bool false))
        have HNL5 : Hid (NL (((((((w2.setCell ⟨nb, 33, none⟩ (.bool false)).setCell ⟨nb, 34, none⟩ (.bool false)).setCell ⟨nb, 35, none⟩ (.bool false)).setCell ⟨nb, 36, none⟩ (.bool false)).setCell ⟨nb, 37, none⟩ (.bool false)).setCell ⟨nb, 38, none⟩ (.bool false)).setCell ⟨nb, 39, none⟩ (.bool false)) { s with elapsed := 0, hd := none7 } lv) := (unhide HL).ew (unhide H) (unhide HE4)
        have HLD5 : Hid (Leads { s with elapsed := 0, hd := none7 }) := ⟨(unhide HLD).last, (unhide HLD).pos, (unhide HLD).sz, (unhide HLD).lo, (unhide HLD).hi, (unhide HLD).mm⟩
        have hn5 : Nd.n { s with elapsed := 0, hd := none7 } ≤ 7 := hn7
        generalize (((((((w2.setCell ⟨nb, 33, none⟩ (.bool false)).setCell ⟨nb, 34, none⟩ (.bool false)).setCell ⟨nb, 35, none⟩ (.bool false)).setCell ⟨nb, 36, none⟩ (.bool false)).setCell ⟨nb, 37, none⟩ (.bool false)).setCell ⟨nb, 38, none⟩ (.bool false)).setCell ⟨nb, 39, none⟩ (.bool false)) = W5 at *
        generalize ({ s with elapsed := 0, hd := none7 } : Nd) = t at *
        go_wp2_with (first | (go_at_call 54; refine (others_any mu nb t lv _ (unhide HN4) hn5).mono ?_; rintro e w6 ⟨ov, rfl, ho6, hb6⟩; replace ho6 := hide ho6; replace hb6 := hide hb6) | (go_at_call 53; refine (sendAppends_any mu nb t lv t.others ov w6 ((unhide HN4).below (unhide hb6)) ((unhide HNL5).below (unhide hb6)) (unhide HLD5) hn5 (ints_of_owns (unhide ho6)) (others_lt t) (others_len hn5)).mono ?_; rintro e w7 ⟨v, l, rfl, hm7, hb7⟩; replace hm7 := hide hm7; replace hb7 := hide hb7))
        go_ret
        rw [unhide HR]
        exact Sent.told ((unhide HE4).below (unhide hb6)) ((unhide HN4).below (unhide hb6)) ((unhide HNL5).below (unhide hb6)) (unhide hm7) (unhide hb7)
    · have hm' : s.maj (cnt (upd s.hd s.id true)) = false := by simpa using hm
      have HR : Hid (s.tickLeader = (({ s with elapsed := 0 } : Nd).follow s.term (-1), [])) := by
        show _ = _
        unfold Nd.tickLeader
        rw [if_pos hp, if_neg hm]
      have HM : Hid (Nd.maj { s with elapsed := 0 } (cnt (upd s.hd s.id true)) = false) := hm'
      clear hm hm'
      go_region_held3 (fun w' => w'.cell? ⟨nb, 33, none⟩ = some (.bool (s.hd 0)) ∧ w'.cell? ⟨nb, 34, none⟩ = some (.bool (s.hd 1)) ∧ w'.cell? ⟨nb, 35, none⟩ = some (.bool (s.hd 2)) ∧ w'.cell? ⟨nb, 36, none⟩ = some (.bool (s.hd 3)) ∧ w'.cell? ⟨nb, 37, none⟩ = some (.bool (s.hd 4)) ∧ w'.cell? ⟨nb, 38, none⟩ = some (.bool (s.hd 5)) ∧ w'.cell? ⟨nb, 39, none⟩ = some (.bool (s.hd 6)) ∧ w'.cell? ⟨nb, 2, none⟩ = some (.int .i64 (s.id : Int))) (first | go_keep) (first | (go_at_call 56; refine (with_any s.hd s.id W.drew (by omega)).mono ?_; rintro e w1 ⟨rfl, hb1⟩; have hN2 : NB mu w1 nb { s with elapsed := 0 } lv := (NB.below (w := W.drew) (unhide HN1) hb1); have y33 := hN2.c33; have y34 := hN2.c34; have y35 := hN2.c35; have y36 := hN2.c36; have y37 := hN2.c37; have y38 := hN2.c38; have y39 := hN2.c39; have y2 := hN2.c2; have hB1 := hide (Below.undrew hb1); replace hN2 := hide hN2; clear hb1) | (go_at_call 57; refine (size_any (upd s.hd s.id true) w1).mono ?_; rintro e w2 ⟨rfl, hb2⟩; have hN3 := (unhide hN2).below hb2; have x33 := hN3.c33; have x34 := hN3.c34; have x35 := hN3.c35; have x36 := hN3.c36; have x37 := hN3.c37; have x38 := hN3.c38; have x39 := hN3.c39; have x2 := hN3.c2; replace hN3 := hide hN3; replace hb2 := hide hb2) | (go_at_call 55; refine (isMajority_any mu nb { s with elapsed := 0 } lv (cnt (upd s.hd s.id true)) w2 (unhide hN3) hn7).mono ?_; rw [unhide HM]; rintro e w3 ⟨rfl, h3⟩; cases h3.symm))
      all_goals
        have k4 := (unhide hN3).c4
        have HE3 := hide (((unhide HE1).below (unhide hB1)).below (unhide hb2))
        go_wp2_with (go_at_call 58; refine (follow_any mu nb _ lv s.term (-1) _ (unhide hN3)).mono ?_; rintro e w5 ⟨rfl, hN5, hE5⟩; replace hN5 := hide hN5; replace hE5 := hide hE5)
        go_ret
        rw [unhide HR]
        exact Sent.quiet ((unhide HE3).trans (unhide hE5)) (unhide hN5) (NL.ew_follow (unhide HL) (unhide H) ((unhide HE3).trans (unhide hE5)))
  · have HR : Hid (s.tickLeader = (s, s.appends)) := if_neg hp
    clear h hl hld
    go_enter Try.func36, Try.ntmps36
    go_wp2
    go_quiet (fail)
    go_wp2_with (first | (go_at_call 54; refine (others_any mu nb s lv _ (NB.drewN (unhide H) _) hn7).mono ?_; rintro e w6 ⟨ov, rfl, ho6, hb6⟩; have hb6' : Below w.heap.size w w6 := (below_drewN (Below.refl _ w) nq).trans hb6; replace ho6 := hide ho6; replace hb6' := hide hb6'; clear hb6) | (go_at_call 53; refine (sendAppends_any mu nb s lv s.others ov w6 ((unhide H).below (unhide hb6')) ((unhide HL).below (unhide hb6')) (unhide HLD) hn7 (ints_of_owns (unhide ho6)) (others_lt s) (others_len hn7)).mono ?_; rintro e w7 ⟨v, l, rfl, hm7, hb7⟩; replace hm7 := hide hm7; replace hb7 := hide hb7))
    go_ret
    rw [unhide HR]
    exact Sent.told (Ew.ofBelow (unhide hb6')) ((unhide H).below (unhide hb6')) ((unhide HL).below (unhide hb6')) (unhide hm7) (unhide hb7)

end Go.Proofs.Yteiecbkfganhnaa
