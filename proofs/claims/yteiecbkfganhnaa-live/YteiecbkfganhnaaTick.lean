/- The program's node: Tick. -/
import Derived.Test.YteiecbkfganhnaaAsk
namespace Go.Proofs.Yteiecbkfganhnaa
open Go.RowKit Go.MuLone

theorem Sent.unlock {nb : Nat} {lv : Value} {w w1 w' : World} {r : Nd × List Msg} {e : Ending} (hlt : nb < w.heap.size) (h1 : Ew nb w w1) (hs : Sent 1 nb lv w1 r e w') : Sent 0 nb lv w r e (w'.setCell ⟨nb, 0, none⟩ (.int .i32 0)) := by
  obtain ⟨v, l, lv', he, hN, hL, hM, hV, hA⟩ := hs
  have hE : Ew nb w' (w'.setCell ⟨nb, 0, none⟩ (.int .i32 0)) := (Ew.refl nb w').set 0 _
  exact ⟨v, l, lv', he, hN.setMu 0, hL.ew hN hE, (hM.base h1.size).ew hE hlt, ((Ev.ofEw h1).trans hV).ew hE, hA⟩

theorem Sent.c0 {nb : Nat} {lv : Value} {w w' : World} {r : Nd × List Msg} {e : Ending} (hs : Sent 1 nb lv w r e w') : w'.cell? ⟨nb, 0, none⟩ = some (.int .i32 1) ∧ w'.frozen? ⟨nb, 0, none⟩ = false := by
  obtain ⟨v, l, lv', he, hN, hL, hM, hV⟩ := hs
  exact ⟨hN.c0, hN.free 0⟩

set_option maxRecDepth 100000 in
set_option maxHeartbeats 1000000 in
theorem tick_any (nb : Nat) (s : Nd) (lv : Value) (w : World) (h : NB 0 w nb s lv) (hl : NL w s lv) (hok : Ok s) (he : s.elapsed < 4611686018427387904) :
    Calls Try.prog 20 #[.pointer (some ⟨nb, 0, none⟩)] w fun e w' => Sent 0 nb lv w s.tick e w' := by
  have c0 := h.c0
  have f0 := h.free 0
  have c10 := h.c10
  have c7 := h.c7
  have c11 := h.c11
  have c4 := h.c4
  have f10 := h.free 10
  have e0 := hok.e0
  have HLT := hide h.lt
  have HN1 := hide ((h.setMu 1).setElapsed (s.elapsed + 1))
  have HE1 := hide (((Ew.refl nb w).set 0 (.int .i32 1)).set 10 (.int .i64 (s.elapsed + 1)))
  have HL1 : Hid (NL ((w.setCell ⟨nb, 0, none⟩ (.int .i32 1)).setCell ⟨nb, 10, none⟩ (.int .i64 (s.elapsed + 1))) s.tickS lv) := hl.ew h (unhide HE1)
  have HOK := hide hok.tickS
  clear h hl hok
  by_cases hr : s.role = 3
  · have HR : Hid (s.tick = s.tickS.tickLeader) := if_pos hr
    have HLD : Hid (Leads s.tickS) := (unhide HOK).lead hr
    rw [hr] at c7
    clear hr
    rw [unhide HR]
    go_enter_defers Try.func20, Try.ntmps20
    go_wp2_with (first | (go_at_call 27; refine (lock_free muLib ⟨nb, 0, none⟩ _ c0 f0).mono ?_; rintro e w' ⟨rfl, rfl⟩) | (go_at_call 36; refine (tickLeader_any 1 nb s.tickS lv _ (unhide HN1) (unhide HL1) (unhide HLD) (unhide HOK).n7 (unhide HOK).id).mono ?_; intro e w4 hx4; obtain ⟨v, l, lv', rfl, hx4⟩ := hx4; replace hx4 := hide hx4))
    have hs4 : Sent 1 nb lv _ _ _ w4 := ⟨v, l, lv', rfl, unhide hx4⟩
    refine leaves_cons (f := 28) (args := #[.pointer (some ⟨nb, 0, none⟩)]) (by simp) (by simp [go_sem]) ?_
    refine (unlock_deferred muLib ⟨nb, 0, none⟩ .returning _ hs4.c0.1 hs4.c0.2).mono ?_
    rintro e u' w'' ⟨rfl, rfl, rfl⟩
    have hu := Sent.unlock (unhide HLT) (unhide HE1) hs4
    refine ⟨_, results_tmp rfl _ _ _, ?_⟩
    exact hu
  · have hr2 : (s.role == 3) = false := by simpa using hr
    by_cases hw : s.elapsed + 1 < s.pat ∨ 1000000 ≤ s.term
    · have HR : Hid (s.tick = (s.tickS, [])) := by show _ = _; unfold Nd.tick; rw [if_neg hr, if_pos hw]
      clear hr
      rw [unhide HR]
      by_cases hq : s.elapsed + 1 < s.pat
      · have hd : decide (s.elapsed + 1 < s.pat) = true := decide_eq_true hq
        clear hw
        go_enter_defers Try.func20, Try.ntmps20
        go_wp2_with (first | (go_at_call 27; refine (lock_free muLib ⟨nb, 0, none⟩ _ c0 f0).mono ?_; rintro e w' ⟨rfl, rfl⟩))
        go_quiet (fail)
        go_wp2
        have hs4 := Sent.quiet (Ew.refl nb _) (NB.drewN (unhide HN1) nq) (NL.drewN (unhide HL1) nq)
        refine leaves_cons (f := 28) (args := #[.pointer (some ⟨nb, 0, none⟩)]) (by simp) (by simp [go_sem]) ?_
        refine (unlock_deferred muLib ⟨nb, 0, none⟩ .returning _ hs4.c0.1 hs4.c0.2).mono ?_
        rintro e u' w'' ⟨rfl, rfl, rfl⟩
        have hu := Sent.unlock (unhide HLT) ((unhide HE1).drewN _) hs4
        refine ⟨_, results_tmp rfl _ _ _, ?_⟩
        exact hu
      · have hd : decide (s.elapsed + 1 < s.pat) = false := decide_eq_false hq
        have ht : 1000000 ≤ s.term := by omega
        clear hw
        go_enter_defers Try.func20, Try.ntmps20
        go_wp2_with (first | (go_at_call 27; refine (lock_free muLib ⟨nb, 0, none⟩ _ c0 f0).mono ?_; rintro e w' ⟨rfl, rfl⟩))
        go_quiet (fail)
        go_wp2
        have hs4 := Sent.quiet (Ew.refl nb _) (NB.drewN (unhide HN1) nq) (NL.drewN (unhide HL1) nq)
        refine leaves_cons (f := 28) (args := #[.pointer (some ⟨nb, 0, none⟩)]) (by simp) (by simp [go_sem]) ?_
        refine (unlock_deferred muLib ⟨nb, 0, none⟩ .returning _ hs4.c0.1 hs4.c0.2).mono ?_
        rintro e u' w'' ⟨rfl, rfl, rfl⟩
        have hu := Sent.unlock (unhide HLT) ((unhide HE1).drewN _) hs4
        refine ⟨_, results_tmp rfl _ _ _, ?_⟩
        exact hu
    · have HR : Hid (s.tick = s.tickS.ask) := by show _ = _; unfold Nd.tick; rw [if_neg hr, if_neg hw]
      have hd : decide (s.elapsed + 1 < s.pat) = false := decide_eq_false (by omega)
      have ht : ¬ 1000000 ≤ s.term := by omega
      have htt : s.tickS.term < 1000000 := by show s.term < 1000000; omega
      clear hr hw
      rw [unhide HR]
      go_enter_defers Try.func20, Try.ntmps20
      go_wp2_with (first | (go_at_call 27; refine (lock_free muLib ⟨nb, 0, none⟩ _ c0 f0).mono ?_; rintro e w' ⟨rfl, rfl⟩))
      go_quiet (fail)
      go_wp2_with (go_at_call 37; refine (ask_any 1 nb s.tickS lv _ (NB.drewN (unhide HN1) _) (NL.drewN (unhide HL1) _) (unhide HOK) htt).mono ?_; intro e w4 hx4; obtain ⟨v, l, lv', rfl, hx4⟩ := hx4; replace hx4 := hide hx4)
      have hs4 : Sent 1 nb lv _ _ _ w4 := ⟨v, l, lv', rfl, unhide hx4⟩
      refine leaves_cons (f := 28) (args := #[.pointer (some ⟨nb, 0, none⟩)]) (by simp) (by simp [go_sem]) ?_
      refine (unlock_deferred muLib ⟨nb, 0, none⟩ .returning _ hs4.c0.1 hs4.c0.2).mono ?_
      rintro e u' w'' ⟨rfl, rfl, rfl⟩
      have hu := Sent.unlock (unhide HLT) ((unhide HE1).drewN _) hs4
      refine ⟨_, results_tmp rfl _ _ _, ?_⟩
      exact hu

end Go.Proofs.Yteiecbkfganhnaa
