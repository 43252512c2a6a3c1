/- The statement Alone: the walk. -/
import Derived.Test.YteiecbkfganhnaaOne
import Derived.Test.YteiecbkfganhnaaSolo
import Derived.Deep.RegionWith
namespace Go.Proofs.Yteiecbkfganhnaa
open Go.RowKit Go.MuLone

theorem One.alloc {B : Nat} {w0 w : World} {nb : Nat} {s : Nd} (h : One B w0 w nb s) (o : Obj) : One B w0 (w.alloc o) nb s := h.quiet (below_alloc w o)

theorem cmds_le {s : Nd} (h : Ok s) : s.cmds.length ≤ s.last := Nat.le_trans (cmdsTo_len s.log s.commit) h.com

theorem solo_propose {s : Nd} {h : Nat} {t : Int} (hs : Solo s h t) (hok : Ok s) (i : Int) (hl : h < 60) :
    (s.propose (cmdOf i)).1 = ((h + 1 : Nat) : Int) ∧ (s.propose (cmdOf i)).2.2.1 = [] ∧ (s.propose (cmdOf i)).2.2.2 = 0 ∧ Solo (s.propose (cmdOf i)).2.1 (h + 1) t ∧ (s.propose (cmdOf i)).2.1.commit = h + 1 := by
  obtain ⟨h1, h2, h3, h4⟩ := propose_solo hs hok (cmdOf i) (cmdOf_size i) hl
  unfold Nd.propose
  rw [if_pos h1]
  exact ⟨by show ((Nd.last _ : Nat) : Int) = _; rw [h2.last], h4, rfl, h2, h3⟩

theorem solo_full {s : Nd} {t : Int} (hs : Solo s 60 t) (i : Int) : s.propose (cmdOf i) = (0, s, [], 5) := by
  have h := propose_full hs (cmdOf i) (cmdOf_size i)
  unfold Nd.propose
  rw [if_neg (by rw [h]; decide), h]

theorem Solo.mono {s : Nd} {h : Nat} {t u : Int} (hs : Solo s h t) (htu : t ≤ u) : Solo s h u := { hs with term := Int.le_trans hs.term htu }

set_option maxRecDepth 100000 in
set_option maxHeartbeats 2000000 in
theorem alone_any (a0 a1 : Int) (w : World) (h0 : -9223372036854775808 ≤ a0) (h1 : a0 ≤ 9223372036854775807) (h2 : -9223372036854775808 ≤ a1) (h3 : a1 ≤ 9223372036854775807) :
    Calls Try.prog 7 #[.int .i64 a0, .int .i64 a1] w fun e w' => e = .returned (.bool true) ∧ Below w.heap.size w w' := by
  obtain ⟨B, hB⟩ : ∃ B, w.heap.size = B := ⟨_, rfl⟩
  have HB := hide hB
  clear hB
  have HT : Hid (Solo ({ Nd.made 0 1 0 (-1) [] with pat := 1 } : Nd).tick.1 1 1 ∧ ({ Nd.made 0 1 0 (-1) [] with pat := 1 } : Nd).tick.2 = []) := tick_solo (s := ({ Nd.made 0 1 0 (-1) [] with pat := 1 } : Nd)) rfl rfl rfl rfl rfl (t := 0) (Int.le_refl _) (by decide)
  have hp0 := pickZ_lo a0 70 (by decide)
  have hp1 := pickZ_hi a0 70 (by decide)
  have hq0 := pickZ_lo a1 70 (by decide)
  have hq1 := pickZ_hi a1 70 (by decide)
  obtain ⟨p, hp⟩ : ∃ p, pickZ a0 70 = p := ⟨_, rfl⟩
  obtain ⟨q, hq⟩ : ∃ q, pickZ a1 70 = q := ⟨_, rfl⟩
  have HP := hide hp
  have HQ := hide hq
  rw [hp] at hp0 hp1
  rw [hq] at hq0 hq1
  clear hp hq
  go_enter Try.func7, Try.ntmps7
  go_wp2_with (first | (go_at_call 22; refine (one_open 0 1 B w _ (Below.refl _ _) (Nat.le_of_eq (unhide HB).symm) (by decide) (by decide) (by decide)).mono ?_; rintro e w1 ⟨nb, rfl, hnb, hO1⟩; replace hO1 := hide hO1) | (go_at_call 11; refine (one_patience 1 B w _ nb _ (unhide hO1) (by decide) (by decide)).mono ?_; rintro e w2 ⟨rfl, hO2⟩; replace hO2 := hide hO2) | (go_at_call 20; refine (one_tick B w _ nb _ (unhide hO2) (by decide)).mono ?_; rintro e w3 ⟨v3, l3, rfl, hM3, hO3⟩; rw [(unhide HT).2] at hM3; obtain ⟨vo, vc, rfl⟩ := owns_form hM3.row; replace hO3 := hide hO3; clear hM3))
  go_loopw [5, 6, 8, 9] (fun r _ hv i wr => ∃ (k nb h : Nat) (s : Nd), (k : Int) ≤ p ∧ i = .int .i64 k ∧ r = ptr nb ∧ hv = .int .i64 h ∧ One B w wr nb s ∧ Solo s h (k + 1) ∧ h ≤ 60) (fun _ _ _ i _ => (p - intOf i).toNat)
  case atStart => exact ⟨0, nb, 1, _, hp0, rfl, rfl, rfl, unhide hO3, (unhide HT).1, by decide⟩
  case round =>
    obtain ⟨k, nb, h, s, hk, rfl, rfl, rfl, hO, hS, hh60⟩ := hrel
    have HO := hide hO
    clear hO hO1 hO2 hO3 hnb HT
    by_cases hlt : (k : Int) < p
    · by_cases hq : (k : Int) = q
      · have bq : ((k : Int) == q) = true := by simp [hq]
        have HS0 := hide hS
        have HL := hide hS.last
        have HTk : Hid _ := tick_solo (s := ({ Nd.made 0 1 s.term s.vote s.log with pat := 1 } : Nd)) rfl rfl rfl rfl rfl (t := (k : Int) + 1) hS.term (by have := hS.term; show s.term < 1000000; omega)
        clear hS hq
        by_cases hl : h < 60
        · have hli : (h : Int) < 60 := by omega
          have HT2 : Hid (Solo ({ Nd.made 0 1 s.term s.vote s.log with pat := 1 } : Nd).tick.1 (h + 1) ((k : Int) + 1 + 1)) := by
            have h9 := (unhide HTk).1
            have h8 : Nd.last ({ Nd.made 0 1 s.term s.vote s.log with pat := 1 } : Nd) = h := unhide HL
            rw [h8, if_pos hl] at h9; exact h9
          go_wp2_with (first | (go_at_call_of 9 a0; refine (pick_any a0 70 _ h0 h1 (by decide) (by decide)).mono ?_; rw [unhide HP]; rintro e wa ⟨rfl, qa⟩; cases qa.symm) | (go_at_call_of 9 a1; refine (pick_any a1 70 _ h2 h3 (by decide) (by decide)).mono ?_; rw [unhide HQ]; rintro e wb ⟨rfl, qb⟩; cases qb.symm) | (go_at_call 24; go_must (refine (one_saved B w _ nb _ (unhide HO)).mono ?_); rintro e w1 ⟨v1, rfl, ho1, hb1⟩; have hO1 := hide ((unhide HO).quiet hb1); have hE1 := hide (ents_of_owns ho1); obtain ⟨x1, y1, rfl⟩ := owns_form ho1; clear hb1 ho1) | (go_at_call 23; go_must (refine (one_restart B w _ 0 1 s _ (unhide HO).ok (unhide hO1).below (unhide hO1).lt (unhide HS0).id (unhide HS0).n (unhide hE1)).mono ?_); rintro e w2 ⟨n2, rfl, hn2, hO2⟩; replace hO2 := hide hO2; clear hn2) | (go_at_call 11; go_must (refine (one_patience 1 B w _ n2 _ (unhide hO2) (by decide) (by decide)).mono ?_); rintro e w3 ⟨rfl, hO3⟩; replace hO3 := hide hO3) | (go_at_call 20; go_must (refine (one_tick B w _ n2 _ (unhide hO3) (by show (0 : Int) < 4611686018427387904; decide)).mono ?_); rintro e w4 ⟨v4, l4, rfl, hM4, hO4⟩; rw [(unhide HTk).2] at hM4; obtain ⟨vo4, vc4, rfl⟩ := owns_form hM4.row; replace hO4 := hide hO4; clear hM4) | (go_at_call 25; fail))
          clear HO hO1 hO2 hO3 hE1
          have HO := hO4
          have HSo := HT2
          by_cases hh : h + 1 < 60
          · have hhi : ((h : Int) + 1) < 60 := by omega
            have HS : Hid _ := solo_propose (unhide HSo) (unhide HO).ok (k : Int) hh
            go_wp2_with (first | (go_at_call 25; refine (command_any (k : Int) _ (by omega) (by omega)).mono ?_; rintro e wc ⟨rfl, hbc⟩; have hOc := hide ((unhide HO).quiet hbc); clear hbc) | (go_at_call 15; refine (one_propose (cmdOf (k : Int)) B w _ n2 _ (unhide hOc)).mono ?_; rw [(unhide HS).1, (unhide HS).2.1, (unhide HS).2.2.1]; rintro e wd ⟨vd, ld, rfl, hMd, hOd⟩; obtain ⟨vdo, vdc, rfl⟩ := owns_form hMd.row; clear hMd; have HSd := hide (unhide HS).2.2.2; replace hOd := hide hOd) | (go_at_call 10; refine (one_status B w _ n2 _ (unhide hOd)).mono ?_; rw [(unhide HSd).1.role, (unhide HSd).2, (unhide HSd).1.last]; rintro e we ⟨rfl, hbe⟩; have hOe := hide ((unhide hOd).quiet hbe); clear hbe))
            go_roundw
            case rel => exact ⟨k + 1, n2, h + 1 + 1, _, by omega, by go_num, rfl, by go_num, (unhide hOe).alloc _, (unhide HSd).1.mono (by omega), by omega⟩
            case measure => simp [intOf]; omega
          · obtain rfl : h = 59 := by omega
            have HF := hide (solo_full (unhide HSo) (k : Int))
            go_wp2_with (first | (go_at_call 25; refine (command_any (k : Int) _ (by omega) (by omega)).mono ?_; rintro e wc ⟨rfl, hbc⟩; have hOc := hide ((unhide HO).quiet hbc); clear hbc) | (go_at_call 15; refine (one_propose (cmdOf (k : Int)) B w _ n2 _ (unhide hOc)).mono ?_; rw [unhide HF]; rintro e wd ⟨vd, ld, rfl, hMd, hOd⟩; obtain ⟨vdo, vdc, rfl⟩ := owns_form hMd.row; clear hMd; replace hOd := hide hOd) | (go_at_call 10; refine (one_status B w _ n2 _ (unhide hOd)).mono ?_; rintro e we ⟨rfl, hbe⟩; have hOe := hide ((unhide hOd).quiet hbe); clear hbe))
            go_roundw
            case rel => exact ⟨k + 1, n2, 60, _, by omega, by go_num, rfl, by go_num, (unhide hOe).alloc _, (unhide HSo).mono (by omega), by omega⟩
            case measure => simp [intOf]; omega
        · obtain rfl : h = 60 := by omega
          have HT2 : Hid (Solo ({ Nd.made 0 1 s.term s.vote s.log with pat := 1 } : Nd).tick.1 60 ((k : Int) + 1 + 1)) := by
            have h9 := (unhide HTk).1
            have h8 : Nd.last ({ Nd.made 0 1 s.term s.vote s.log with pat := 1 } : Nd) = 60 := unhide HL
            rw [h8, if_neg (by decide)] at h9; exact h9
          go_wp2_with (first | (go_at_call_of 9 a0; refine (pick_any a0 70 _ h0 h1 (by decide) (by decide)).mono ?_; rw [unhide HP]; rintro e wa ⟨rfl, qa⟩; cases qa.symm) | (go_at_call_of 9 a1; refine (pick_any a1 70 _ h2 h3 (by decide) (by decide)).mono ?_; rw [unhide HQ]; rintro e wb ⟨rfl, qb⟩; cases qb.symm) | (go_at_call 24; go_must (refine (one_saved B w _ nb _ (unhide HO)).mono ?_); rintro e w1 ⟨v1, rfl, ho1, hb1⟩; have hO1 := hide ((unhide HO).quiet hb1); have hE1 := hide (ents_of_owns ho1); obtain ⟨x1, y1, rfl⟩ := owns_form ho1; clear hb1 ho1) | (go_at_call 23; go_must (refine (one_restart B w _ 0 1 s _ (unhide HO).ok (unhide hO1).below (unhide hO1).lt (unhide HS0).id (unhide HS0).n (unhide hE1)).mono ?_); rintro e w2 ⟨n2, rfl, hn2, hO2⟩; replace hO2 := hide hO2; clear hn2) | (go_at_call 11; go_must (refine (one_patience 1 B w _ n2 _ (unhide hO2) (by decide) (by decide)).mono ?_); rintro e w3 ⟨rfl, hO3⟩; replace hO3 := hide hO3) | (go_at_call 20; go_must (refine (one_tick B w _ n2 _ (unhide hO3) (by show (0 : Int) < 4611686018427387904; decide)).mono ?_); rintro e w4 ⟨v4, l4, rfl, hM4, hO4⟩; rw [(unhide HTk).2] at hM4; obtain ⟨vo4, vc4, rfl⟩ := owns_form hM4.row; replace hO4 := hide hO4; clear hM4) | (go_at_call 25; fail))
          clear HO hO1 hO2 hO3 hE1
          have HO := hO4
          have HSo := HT2
          have HF := hide (solo_full (unhide HSo) (k : Int))
          go_wp2_with (first | (go_at_call 25; refine (command_any (k : Int) _ (by omega) (by omega)).mono ?_; rintro e wc ⟨rfl, hbc⟩; have hOc := hide ((unhide HO).quiet hbc); clear hbc) | (go_at_call 15; refine (one_propose (cmdOf (k : Int)) B w _ n2 _ (unhide hOc)).mono ?_; rw [unhide HF]; rintro e wd ⟨vd, ld, rfl, hMd, hOd⟩; obtain ⟨vdo, vdc, rfl⟩ := owns_form hMd.row; clear hMd; replace hOd := hide hOd) | (go_at_call 10; refine (one_status B w _ n2 _ (unhide hOd)).mono ?_; rintro e we ⟨rfl, hbe⟩; have hOe := hide ((unhide hOd).quiet hbe); clear hbe))
          go_roundw
          case rel => exact ⟨k + 1, n2, 60, _, by omega, by go_num, rfl, by go_num, (unhide hOe).alloc _, (unhide HSo).mono (by omega), by omega⟩
          case measure => simp [intOf]; omega
      · have bq : ((k : Int) == q) = false := by simp [hq]
        have HSo := hide hS
        clear hS hq
        by_cases hh : h < 60
        · have hhi : (h : Int) < 60 := by omega
          go_wp2_with (first | (go_at_call_of 9 a0; refine (pick_any a0 70 _ h0 h1 (by decide) (by decide)).mono ?_; rw [unhide HP]; rintro e wa ⟨rfl, qa⟩; cases qa.symm) | (go_at_call_of 9 a1; refine (pick_any a1 70 _ h2 h3 (by decide) (by decide)).mono ?_; rw [unhide HQ]; rintro e wb ⟨rfl, qb⟩; cases qb.symm) | (go_at_call 25; fail))
          have HS : Hid _ := solo_propose (unhide HSo) (unhide HO).ok (k : Int) hh
          go_wp2_with (first | (go_at_call 25; refine (command_any (k : Int) _ (by omega) (by omega)).mono ?_; rintro e wc ⟨rfl, hbc⟩; have hOc := hide ((unhide HO).quiet hbc); clear hbc) | (go_at_call 15; refine (one_propose (cmdOf (k : Int)) B w _ nb _ (unhide hOc)).mono ?_; rw [(unhide HS).1, (unhide HS).2.1, (unhide HS).2.2.1]; rintro e wd ⟨vd, ld, rfl, hMd, hOd⟩; obtain ⟨vdo, vdc, rfl⟩ := owns_form hMd.row; clear hMd; have HSd := hide (unhide HS).2.2.2; replace hOd := hide hOd) | (go_at_call 10; refine (one_status B w _ nb _ (unhide hOd)).mono ?_; rw [(unhide HSd).1.role, (unhide HSd).2, (unhide HSd).1.last]; rintro e we ⟨rfl, hbe⟩; have hOe := hide ((unhide hOd).quiet hbe); clear hbe))
          go_roundw
          case rel => exact ⟨k + 1, nb, h + 1, _, by omega, by go_num, rfl, by go_num, (unhide hOe).alloc _, (unhide HSd).1.mono (by omega), by omega⟩
          case measure => simp [intOf]; omega
        · obtain rfl : h = 60 := by omega
          go_wp2_with (first | (go_at_call_of 9 a0; refine (pick_any a0 70 _ h0 h1 (by decide) (by decide)).mono ?_; rw [unhide HP]; rintro e wa ⟨rfl, qa⟩; cases qa.symm) | (go_at_call_of 9 a1; refine (pick_any a1 70 _ h2 h3 (by decide) (by decide)).mono ?_; rw [unhide HQ]; rintro e wb ⟨rfl, qb⟩; cases qb.symm) | (go_at_call 25; fail))
          have HF := hide (solo_full (unhide HSo) (k : Int))
          go_wp2_with (first | (go_at_call 25; refine (command_any (k : Int) _ (by omega) (by omega)).mono ?_; rintro e wc ⟨rfl, hbc⟩; have hOc := hide ((unhide HO).quiet hbc); clear hbc) | (go_at_call 15; refine (one_propose (cmdOf (k : Int)) B w _ nb _ (unhide hOc)).mono ?_; rw [unhide HF]; rintro e wd ⟨vd, ld, rfl, hMd, hOd⟩; obtain ⟨vdo, vdc, rfl⟩ := owns_form hMd.row; clear hMd; replace hOd := hide hOd) | (go_at_call 10; refine (one_status B w _ nb _ (unhide hOd)).mono ?_; rintro e we ⟨rfl, hbe⟩; have hOe := hide ((unhide hOd).quiet hbe); clear hbe))
          go_roundw
          case rel => exact ⟨k + 1, nb, 60, _, by omega, by go_num, rfl, by go_num, (unhide hOe).alloc _, (unhide HSo).mono (by omega), by omega⟩
          case measure => simp [intOf]; omega
    · have HSo := hide hS
      have hkp : ((k : Int) < p) = False := by simp; omega
      have hc5 : s.cmds.length ≤ h := by have h9 := cmds_le (unhide HO).ok; rw [hS.last] at h9; exact h9
      have hc6 : (s.cmds.length : Int) ≤ (h : Int) := by omega
      have HL := hide hS.last
      clear hS
      go_wp2_with (first | (go_at_call_of 9 a0; refine (pick_any a0 70 _ h0 h1 (by decide) (by decide)).mono ?_; rw [unhide HP]; rintro e wa ⟨rfl, qa⟩; cases qa.symm) | (go_at_call 18; go_must (refine (one_committed B w _ nb _ (unhide HO)).mono ?_); rintro e w5 ⟨v5, rfl, ho5, hb5⟩; obtain ⟨x5, y5, rfl⟩ := owns_form ho5; have hO5 := hide ((unhide HO).quiet hb5); clear hb5 ho5) | (go_at_call 10; refine (one_status B w _ nb _ (unhide hO5)).mono ?_; rw [unhide HL]; rintro e w6 ⟨rfl, hb6⟩; have hO6 := hide ((unhide hO5).quiet hb6); clear hb6))
      go_ret
      exact ⟨rfl, by rw [unhide HB]; exact ((unhide hO6).alloc _).below⟩

end Go.Proofs.Yteiecbkfganhnaa
