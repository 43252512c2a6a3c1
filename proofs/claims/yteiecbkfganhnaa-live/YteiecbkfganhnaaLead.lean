/- The program's node: lead. -/
import Derived.Test.YteiecbkfganhnaaPut
namespace Go.Proofs.Yteiecbkfganhnaa
open Go.RowKit Go.MuLone

def lp (s : Nd) (k : Nat) : Nd := { s with role := 3, leads := s.id, elapsed := 0, hd := none7, nx := fun i => if i < k then s.last + 1 else s.nx i, mt := fun i => if i < k then 0 else s.mt i }

theorem lp_zero (s : Nd) : lp s 0 = { s with role := 3, leads := s.id, elapsed := 0, hd := none7 } := by simp [lp]
theorem lp_n (s : Nd) : lp s s.n = s.leadA := rfl
theorem upd_less {α : Type} (a : α) (f : Nat → α) (k : Nat) : upd (fun i => if i < k then a else f i) k a = fun i => if i < k + 1 then a else f i := by
  funext i
  unfold upd
  by_cases h : i = k
  · subst h; simp
  · by_cases h2 : i < k
    · simp only [if_neg h, if_pos h2, if_pos (show i < k + 1 by omega)]
    · simp only [if_neg h, if_neg h2, if_neg (show ¬ i < k + 1 by omega)]


theorem lp_step {mu : Int} {wr : World} {nb k : Nat} {s : Nd} {lv : Value} (hN : NB mu wr nb (lp s k) lv) (hk : k < 7) : NB mu ((wr.setCell ⟨nb, 19 + k, none⟩ (.int .i64 (((lp s k).last : Int) + 1))).setCell ⟨nb, 26 + k, none⟩ (.int .i64 0)) nb (lp s (k + 1)) lv := by
  have h2 := (hN.setNx (i := k) hk (s.last + 1)).setMt (i := k) hk 0
  have e1 : ((s.last + 1 : Nat) : Int) = ((lp s k).last : Int) + 1 := by simp [lp, Nd.last]
  have e2 : ((0 : Nat) : Int) = 0 := rfl
  rw [e1, e2] at h2
  have h3 : ({ ({ lp s k with nx := upd (lp s k).nx k (s.last + 1) } : Nd) with mt := upd (lp s k).mt k 0 } : Nd) = lp s (k + 1) := by
    simp only [lp]
    rw [upd_less, upd_less]
  rw [← h3]
  exact h2

set_option maxRecDepth 100000 in
set_option maxHeartbeats 1000000 in
theorem lead_any (mu : Int) (nb : Nat) (s : Nd) (lv : Value) (w : World) (h : NB mu w nb s lv) (hl : NL w s lv) (hs : s.last ≤ 60) (hn : s.n ≤ 7) (hid : s.id < s.n) (hol : OwnLast s.leadA.leadB.leadC) (hld : Leads s.leadS) :
    Calls Try.prog 68 #[.pointer (some ⟨nb, 0, none⟩)] w fun e w' => Sent mu nb lv w s.lead e w' := by
  have c2 := h.c2
  have c7 := h.c7
  have c8 := h.c8
  have c10 := h.c10
  have c3 := h.c3
  have f7 := h.free 7
  have f8 := h.free 8
  have f10 := h.free 10
  have c33 := h.c33
  have f33 := h.free 33
  have c34 := h.c34
  have f34 := h.free 34
  have c35 := h.c35
  have f35 := h.free 35
  have c36 := h.c36
  have f36 := h.free 36
  have c37 := h.c37
  have f37 := h.free 37
  have c38 := h.c38
  have f38 := h.free 38
  have c39 := h.c39
  have f39 := h.free 39
  have hN1 : NB mu ((((((((((w.setCell ⟨nb, 7, none⟩ (.int .i64 3)).setCell ⟨nb, 8, none⟩ (.int .i64 (s.id : Int))).setCell ⟨nb, 10, none⟩ (.int .i64 0)).setCell ⟨nb, 33, none⟩ (.bool false)).setCell ⟨nb, 34, none⟩ (.bool false)).setCell ⟨nb, 35, none⟩ (.bool false)).setCell ⟨nb, 36, none⟩ (.bool false)).setCell ⟨nb, 37, none⟩ (.bool false)).setCell ⟨nb, 38, none⟩ (.bool false)).setCell ⟨nb, 39, none⟩ (.bool false)) nb (lp s 0) lv := by
    rw [lp_zero]
    exact (((h.setRole 3).setLeads (s.id : Int)).setElapsed 0).setHd none7
  have hE1 : Ew nb w ((((((((((w.setCell ⟨nb, 7, none⟩ (.int .i64 3)).setCell ⟨nb, 8, none⟩ (.int .i64 (s.id : Int))).setCell ⟨nb, 10, none⟩ (.int .i64 0)).setCell ⟨nb, 33, none⟩ (.bool false)).setCell ⟨nb, 34, none⟩ (.bool false)).setCell ⟨nb, 35, none⟩ (.bool false)).setCell ⟨nb, 36, none⟩ (.bool false)).setCell ⟨nb, 37, none⟩ (.bool false)).setCell ⟨nb, 38, none⟩ (.bool false)).setCell ⟨nb, 39, none⟩ (.bool false)) := ((((((((((Ew.refl nb w).set 7 _).set 8 _).set 10 _).set 33 _).set 34 _).set 35 _).set 36 _).set 37 _).set 38 _).set 39 _
  have HN1 := hide hN1
  have HE1 := hide hE1
  have H := hide h
  have HL := hide hl
  have HOL := hide hol
  have HLD := hide hld
  have hs' : s.log.length ≤ 60 := hs
  clear h hl hN1 hE1 hol hld
  go_enter Try.func68, Try.ntmps68
  go_wp2
  generalize ((((((((((w.setCell ⟨nb, 7, none⟩ (.int .i64 3)).setCell ⟨nb, 8, none⟩ (.int .i64 (s.id : Int))).setCell ⟨nb, 10, none⟩ (.int .i64 0)).setCell ⟨nb, 33, none⟩ (.bool false)).setCell ⟨nb, 34, none⟩ (.bool false)).setCell ⟨nb, 35, none⟩ (.bool false)).setCell ⟨nb, 36, none⟩ (.bool false)).setCell ⟨nb, 37, none⟩ (.bool false)).setCell ⟨nb, 38, none⟩ (.bool false)).setCell ⟨nb, 39, none⟩ (.bool false)) = W1 at *
  clear c2 c7 c8 c10 c3 f7 f8 f10 c33 f33 c34 f34 c35 f35 c36 f36 c37 f37 c38 f38 c39 f39
  go_loopw [25] (fun i wr => ∃ k : Nat, k ≤ s.n ∧ i = .int .i64 k ∧ NB mu wr nb (lp s k) lv ∧ Ew nb w wr) (fun i _ => s.n - (intOf i).toNat)
  case atStart => exact ⟨0, Nat.zero_le _, rfl, unhide HN1, unhide HE1⟩
  case round =>
    obtain ⟨k, hk, rfl, hN, hE⟩ := hrel
    have hNLr := (unhide HL).ew (unhide H) hE
    have HFR := hide hNLr.form
    by_cases hlt : k < s.n
    · have i1 : (0 : Int) ≤ (k : Int) := by omega
      have i2 : (k : Int) < (s.n : Int) := by omega
      have i7 : (k : Int) < 7 := by omega
      have c19 := hN.nx (i := k) (by omega)
      have f19 := hN.free (19 + k)
      have c26 := hN.mt (i := k) (by omega)
      have f26 := hN.free (26 + k)
      have HN := hide hN
      have HE := hide hE
      have HN2 := hide (lp_step hN (by omega))
      have hlpk : (lp s k).last ≤ 60 := hs
      clear hN hE hNLr
      go_wp2
      go_region_held3 (fun w' => True) (first | go_keep | trivial) (first | (go_at_call 33; refine (last_any mu nb (lp s k) _ _ (by exact unhide HN) (unhide HFR)).mono ?_; rintro e w1 ⟨rfl, rfl⟩))
      all_goals go_wp2
      all_goals go_roundw
      case rel => exact ⟨k + 1, by omega, by go_num, (unhide HN2).drew, (((unhide HE).set _ _).set _ _).drew⟩
      case measure => simp [intOf]; omega
    · have hkn : k = s.n := by omega
      subst hkn
      rw [lp_n] at hN
      obtain ⟨sA, hsA⟩ : ∃ sA, s.leadA = sA := ⟨_, rfl⟩
      rw [hsA] at hN
      have hNLa : NL wr sA lv := by rw [← hsA]; exact hNLr
      have hlA : sA.last = s.last := by rw [← hsA]; rfl
      have hidA : sA.id = s.id := by rw [← hsA]; rfl
      have hnA : sA.n = s.n := by rw [← hsA]; rfl
      have HSA := hide hsA
      have HN := hide hN
      have HE := hide hE
      have HNL := hide hNLa
      have HFA := hide hNLa.form
      have HIDA := hide (And.intro hlA (And.intro hidA hnA))
      clear hsA hNLr hE
      by_cases h60 : s.last < 60
      · have hf : decide (60 ≤ sA.last) = false := decide_eq_false (by omega)
        have HFU := hide hf
        clear hf hN hNLa hlA hidA hnA
        have HS2 : Hid (s.leadA.leadB = { sA with log := sA.log ++ [((sA.term, ⟨#[]⟩) : Ent)] }) := by
          show _ = _
          rw [unhide HSA]
          exact if_pos (show sA.last < 60 by have := (unhide HIDA).1; omega)
        have HID : Hid (({ sA with log := sA.log ++ [((sA.term, ⟨#[]⟩) : Ent)] } : Nd).id = s.id ∧ ({ sA with log := sA.log ++ [((sA.term, ⟨#[]⟩) : Ent)] } : Nd).n = s.n ∧ ({ sA with log := sA.log ++ [((sA.term, ⟨#[]⟩) : Ent)] } : Nd).last ≤ 60) := by
          have hx := unhide HIDA
          refine ⟨hx.2.1, hx.2.2, ?_⟩
          show (sA.log ++ [((sA.term, ⟨#[]⟩) : Ent)]).length ≤ 60
          rw [List.length_append]
          have h1 : sA.log.length = s.log.length := hx.1
          have h2 : s.log.length < 60 := h60
          simp; omega
        have HLS : Hid (s.lead = (({ sA with log := sA.log ++ [((sA.term, ⟨#[]⟩) : Ent)] } : Nd).leadC.count, ({ sA with log := sA.log ++ [((sA.term, ⟨#[]⟩) : Ent)] } : Nd).leadC.count.appends)) := by
          show (s.leadA.leadB.leadC.count, s.leadA.leadB.leadC.count.appends) = _
          rw [unhide HS2]
        have HLD2 : Hid (Leads ({ sA with log := sA.log ++ [((sA.term, ⟨#[]⟩) : Ent)] } : Nd).leadC.count) := by
          have h1 : Leads s.leadA.leadB.leadC.count := unhide HLD
          rw [unhide HS2] at h1
          exact h1
        rw [unhide HS2] at HOL
        have HSL : Hid (sA.last ≤ 60) := by show _ ≤ _; have := (unhide HIDA).1; omega
        go_wp2_with (first | (go_at_call 31; refine (isFull_any mu nb sA lv _ (unhide HN) (unhide HNL)).mono ?_; rw [unhide HFU]; rintro e w1 ⟨rfl, h1⟩; cases h1.symm) | (go_at_call 32; refine (put_any mu nb sA lv ⟨#[]⟩ _ (unhide HN) (unhide HNL) (unhide HSL) (by decide)).mono ?_; rintro e w5 ⟨rfl, lv5, hN5, hL5, hV5⟩; replace hN5 := hide hN5; replace hL5 := hide hL5; replace hV5 := hide hV5) | (go_at_call 34; refine (spread_any mu nb _ lv5 _ (unhide hN5) (unhide hL5) (unhide HID).2.2 (by show sA.n ≤ 7; have h1 : sA.n = s.n := (unhide HID).2.1; omega) (by show sA.id < sA.n; have h1 : sA.n = s.n := (unhide HID).2.1; have h2 : sA.id = s.id := (unhide HID).1; omega) (unhide HOL) (unhide HLD2)).mono ?_; intro e w6 hx6; obtain ⟨v6, l6, lv6, rfl, hx6⟩ := hx6; replace hx6 := hide hx6))
        go_ret
        have hx := unhide hx6
        rw [unhide HLS]
        exact ⟨_, l6, lv6, rfl, hx.1, hx.2.1, hx.2.2.1.base (Ev.size ((Ev.ofEw (unhide HE)).trans (unhide hV5))), ((Ev.ofEw (unhide HE)).trans (unhide hV5)).trans hx.2.2.2.1, hx.2.2.2.2⟩
      · have hf : decide (60 ≤ sA.last) = true := decide_eq_true (by omega)
        have HFU := hide hf
        clear hf hN hNLa hlA hidA hnA
        have HS2 : Hid (s.leadA.leadB = sA) := by
          show _ = _
          rw [unhide HSA]
          exact if_neg (show ¬ sA.last < 60 by have := (unhide HIDA).1; omega)
        have HLS : Hid (s.lead = (sA.leadC.count, sA.leadC.count.appends)) := by
          show (s.leadA.leadB.leadC.count, s.leadA.leadB.leadC.count.appends) = _
          rw [unhide HS2]
        have HLD2 : Hid (Leads sA.leadC.count) := by
          have h1 : Leads s.leadA.leadB.leadC.count := unhide HLD
          rw [unhide HS2] at h1
          exact h1
        rw [unhide HS2] at HOL
        have HSL : Hid (sA.last ≤ 60) := by show _ ≤ _; have := (unhide HIDA).1; omega
        go_wp2_with (first | (go_at_call 31; refine (isFull_any mu nb sA lv _ (unhide HN) (unhide HNL)).mono ?_; rw [unhide HFU]; rintro e w1 ⟨rfl, h1⟩; cases h1.symm) | (go_at_call 34; refine (spread_any mu nb sA lv _ (unhide HN) (unhide HNL) (unhide HSL) (by have h1 : sA.n = s.n := (unhide HIDA).2.2; omega) (by have h1 : sA.n = s.n := (unhide HIDA).2.2; have h2 : sA.id = s.id := (unhide HIDA).2.1; omega) (unhide HOL) (unhide HLD2)).mono ?_; intro e w6 hx6; obtain ⟨v6, l6, lv6, rfl, hx6⟩ := hx6; replace hx6 := hide hx6))
        go_ret
        have hx := unhide hx6
        rw [unhide HLS]
        exact ⟨_, l6, lv6, rfl, hx.1, hx.2.1, hx.2.2.1.base (unhide HE).size, (Ev.ofEw (unhide HE)).trans hx.2.2.2.1, hx.2.2.2.2⟩

end Go.Proofs.Yteiecbkfganhnaa
