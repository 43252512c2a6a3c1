/- The program's node: goOn, goBack. -/
import Derived.Test.YteiecbkfganhnaaStepAsk
import Derived.Test.YteiecbkfganhnaaInvC
namespace Go.Proofs.Yteiecbkfganhnaa
open Go.RowKit Go.MuLone

/-- What a leader does that hears of k entries at f. -/
def Nd.goOn (s : Nd) (f k : Nat) : Nd × List Msg :=
  if k ≤ s.last ∧ s.mt f < k then (s.matched f k, if k + 1 ≤ s.last then [(s.matched f k).appendTo f] else []) else (s, [])
def Nd.goBack (s : Nd) (f k : Nat) : Nd × List Msg := (s.backs f k, [(s.backs f k).appendTo f])

theorem one_lt {f n : Nat} (h : f < n) : ∀ t ∈ [f], t < n := by
  intro t ht
  simp at ht
  omega

set_option maxRecDepth 100000 in
set_option maxHeartbeats 1000000 in
theorem goOn_any (mu : Int) (nb : Nat) (s : Nd) (lv : Value) (f k : Nat) (w : World) (h : NB mu w nb s lv) (hl : NL w s lv) (hok : Ok s) (hr : s.role = 3) (hf : f < s.n) (hk : k ≤ 1000000) :
    Calls Try.prog 72 #[.pointer (some ⟨nb, 0, none⟩), .int .i64 (f : Int), .int .i64 (k : Int)] w fun e w' => Sent mu nb lv w (s.goOn f k) e w' := by
  have hn7 := hok.n7
  have hf7 : (f : Int) < 7 := by omega
  have hf0 : (0 : Int) ≤ (f : Int) := by omega
  have c26 := h.mt (i := f) (by omega)
  have HF := hide hl.form
  have H := hide h
  have HL := hide hl
  have HOK := hide hok
  by_cases h1 : s.last < k
  · have d1 : decide ((s.last : Int) < (k : Int)) = true := decide_eq_true (by omega)
    have HR : Hid (s.goOn f k = (s, [])) := if_neg (by omega)
    clear h hl hok hr d1
    go_enter Try.func72, Try.ntmps72
    go_wp2_with (go_at_call 33; refine (last_any mu nb s _ _ (unhide H) (unhide HF)).mono ?_; rintro e w1 ⟨rfl, q1⟩; cases q1.symm)
    go_ret
    rw [unhide HR]
    exact Sent.quiet (Ew.refl nb w) (unhide H) (unhide HL)
  · have d1 : decide ((s.last : Int) < (k : Int)) = false := decide_eq_false (by omega)
    by_cases h2 : k ≤ s.mt f
    · have d2 : decide ((k : Int) ≤ (s.mt f : Int)) = true := decide_eq_true (by omega)
      have HR : Hid (s.goOn f k = (s, [])) := if_neg (by omega)
      clear h hl hok hr d1 d2
      go_enter Try.func72, Try.ntmps72
      go_wp2_with (go_at_call 33; refine (last_any mu nb s _ _ (unhide H) (unhide HF)).mono ?_; rintro e w1 ⟨rfl, q1⟩; cases q1.symm)
      go_ret
      rw [unhide HR]
      exact Sent.quiet (Ew.refl nb w) (unhide H) (unhide HL)
    · have d2 : decide ((k : Int) ≤ (s.mt f : Int)) = false := decide_eq_false (by omega)
      have HR : Hid (s.goOn f k = (s.matched f k, if k + 1 ≤ s.last then [(s.matched f k).appendTo f] else [])) := if_pos (by omega)
      have HKL : Hid (k ≤ s.last) := by show _ ≤ _; omega
      have f26 := h.free (26 + f)
      have g1 := h.setMt (i := f) (by omega) k
      have f19 := g1.free (19 + f)
      have c19 := g1.nx (i := f) (by omega)
      have g2 : NB mu ((w.setCell ⟨nb, 26 + f, none⟩ (.int .i64 (k : Int))).setCell ⟨nb, 19 + f, none⟩ (.int .i64 ((k : Int) + 1))) nb { s with mt := upd s.mt f k, nx := upd s.nx f (k + 1) } lv := g1.setNx (i := f) (by omega) (k + 1)
      have HN2 := hide g2
      have HE2 : Hid (Ew nb w ((w.setCell ⟨nb, 26 + f, none⟩ (.int .i64 (k : Int))).setCell ⟨nb, 19 + f, none⟩ (.int .i64 ((k : Int) + 1)))) := ((Ew.refl nb w).set _ _).set _ _
      have HNL2 : Hid (NL ((w.setCell ⟨nb, 26 + f, none⟩ (.int .i64 (k : Int))).setCell ⟨nb, 19 + f, none⟩ (.int .i64 ((k : Int) + 1))) ({ s with mt := upd s.mt f k, nx := upd s.nx f (k + 1) } : Nd) lv) := hl.ew h (unhide HE2)
      have HOK2 : Hid (Ok (s.matched f k)) := hok.matched f k (unhide HKL)
      have HLD2 : Hid (Leads (s.matched f k)) := (unhide HOK2).lead hr
      have HOL : Hid (OwnLast ({ s with mt := upd s.mt f k, nx := upd s.nx f (k + 1) } : Nd)) := ownLast_of (s := ({ s with mt := upd s.mt f k, nx := upd s.nx f (k + 1) } : Nd)) hok.log
      have HNX : Hid ((s.matched f k).nx f = k + 1) := by show upd s.nx f (k + 1) f = k + 1; unfold upd; rw [if_pos rfl]
      have HLA : Hid ((s.matched f k).last = s.last) := rfl
      have hla : ((s.matched f k).last : Int) = (s.last : Int) := rfl
      have hl60 := hok.len
      clear h hl hok g1 g2 hr d1 d2
      by_cases h3 : k + 1 ≤ s.last
      · have d3 : decide ((s.last : Int) < (k : Int) + 1) = false := decide_eq_false (by omega)
        have HR2 : Hid (s.goOn f k = (s.matched f k, [(s.matched f k).appendTo f])) := by show _ = _; rw [unhide HR, if_pos h3]
        clear h3 HR
        go_enter Try.func72, Try.ntmps72
        go_wp2_with (first | (go_at_call 33; refine (last_any mu nb s _ _ (unhide H) (unhide HF)).mono ?_; rintro e w1 ⟨rfl, q1⟩; cases q1.symm) | (go_at_call 52; refine (count_any mu nb _ lv _ (unhide HN2) (unhide HNL2) hl60 hn7 (unhide HOL)).mono ?_; rintro e w5 ⟨rfl, hN5, hE5⟩; have hL5 : NL w5 (s.matched f k) lv := ((unhide HNL2).ew (unhide HN2) hE5); have hE6 := hide ((unhide HE2).trans hE5); have hN6 : NB mu w5 nb (s.matched f k) lv := hN5; have e19 := hN6.nx (i := f) (by omega); rw [unhide HNX] at e19; have hF5 := hide hL5.form; replace hN6 := hide hN6; replace hL5 := hide hL5; clear hE5 hN5))
        go_quiet ((go_at_call 33; exact Calls.quiet_of_same (last_any mu nb (s.matched f k) _ _ (NB.drewN (unhide hN6) _) (unhide hF5))))
        have HE7 := hide ((unhide hE6).drewN nq)
        have HN7 : Hid (NB mu (w5.drewN nq) nb (s.matched f k) lv) := NB.drewN (unhide hN6) nq
        have HL7 : Hid (NL (w5.drewN nq) (s.matched f k) lv) := NL.drewN (unhide hL5) nq
        clear e19
        generalize w5.drewN nq = W7 at *
        go_wp2_with (first | (go_at_call 53; refine (sendAppends_any mu nb (s.matched f k) lv [f] _ _ ((unhide HN7).below (below_alloc _ _)) ((unhide HL7).below (below_alloc _ _)) (unhide HLD2) hn7 (by exact ints_at _ _ rfl _) (one_lt hf) (by simp)).mono ?_; rintro e w7 ⟨v, l, rfl, hm7, hb7⟩; replace hm7 := hide hm7; replace hb7 := hide hb7))
        go_ret
        rw [unhide HR2]
        exact Sent.told ((unhide HE7).below (below_alloc _ _)) ((unhide HN7).below (below_alloc _ _)) ((unhide HL7).below (below_alloc _ _)) (unhide hm7) (unhide hb7)
      · have d3 : decide ((s.last : Int) < (k : Int) + 1) = true := decide_eq_true (by omega)
        have HR2 : Hid (s.goOn f k = (s.matched f k, [])) := by show _ = _; rw [unhide HR, if_neg h3]
        clear h3 HR
        go_enter Try.func72, Try.ntmps72
        go_wp2_with (first | (go_at_call 33; refine (last_any mu nb s _ _ (unhide H) (unhide HF)).mono ?_; rintro e w1 ⟨rfl, q1⟩; cases q1.symm) | (go_at_call 52; refine (count_any mu nb _ lv _ (unhide HN2) (unhide HNL2) hl60 hn7 (unhide HOL)).mono ?_; rintro e w5 ⟨rfl, hN5, hE5⟩; have hL5 : NL w5 (s.matched f k) lv := ((unhide HNL2).ew (unhide HN2) hE5); have hE6 := hide ((unhide HE2).trans hE5); have hN6 : NB mu w5 nb (s.matched f k) lv := hN5; have e19 := hN6.nx (i := f) (by omega); rw [unhide HNX] at e19; have hF5 := hide hL5.form; replace hN6 := hide hN6; replace hL5 := hide hL5; clear hE5 hN5))
        go_quiet ((go_at_call 33; exact Calls.quiet_of_same (last_any mu nb (s.matched f k) _ _ (NB.drewN (unhide hN6) _) (unhide hF5))))
        go_wp2
        go_ret
        rw [unhide HR2]
        exact Sent.quiet ((unhide hE6).drewN _) (NB.drewN (unhide hN6) _) (NL.drewN (unhide hL5) _)

end Go.Proofs.Yteiecbkfganhnaa
