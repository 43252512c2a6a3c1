/- The program's node: count. -/
import Derived.Test.YteiecbkfganhnaaApps
import Derived.Deep.LoopGhost
import Derived.WalkMore
namespace Go.Proofs.Yteiecbkfganhnaa
open Go.RowKit Go.MuLone

theorem cntTo_mono (g : Nat → Bool) {j n : Nat} (h : j ≤ n) : cntTo g j ≤ cntTo g n := by
  induction n with
  | zero => have : j = 0 := by omega
            subst this; exact Nat.le_refl _
  | succ n ih =>
    by_cases hj : j = n + 1
    · subst hj; exact Nat.le_refl _
    · exact Nat.le_trans (ih (by omega)) (by simp [cntTo])

theorem maj_mono {s : Nd} {a b : Nat} (h : a ≤ b) (ha : s.maj a = true) : s.maj b = true := by
  simp only [Nd.maj, decide_eq_true_eq] at *; omega

theorem countFrom_le {s : Nd} {k : Nat} (h : k ≤ s.commit) : s.countFrom k = s.commit := by
  cases k with
  | zero => rfl
  | succ k => simp [Nd.countFrom, h]
theorem countFrom_hit {s : Nd} {k : Nat} (h : s.commit < k) (hm : s.maj (s.have_ k) = true) (ht : s.termOf k = s.term) : s.countFrom k = k := by
  cases k with
  | zero => omega
  | succ k => simp [Nd.countFrom, hm, ht]; omega
theorem countFrom_next {s : Nd} {k : Nat} (h : s.commit < k + 1) (hm : s.maj (s.have_ (k + 1)) = false) : s.countFrom (k + 1) = s.countFrom k := by
  simp [Nd.countFrom, hm]; omega
theorem countFrom_old {s : Nd} {k : Nat} (h : ∀ j, 1 ≤ j → j ≤ k → s.termOf j ≠ s.term) : s.countFrom k = s.commit := by
  induction k with
  | zero => rfl
  | succ k ih =>
    have h1 := h (k + 1) (by omega) (Nat.le_refl _)
    simp only [Nd.countFrom, h1, and_false, if_false]
    split
    · rfl
    · exact ih fun j a b => h j a (by omega)

theorem NL.drewN {w : World} {s : Nd} {lv : Value} (h : NL w s lv) (m : Nat) : NL (w.drewN m) s lv := h
theorem termOf_at (mu : Int) (nb : Nat) (s : Nd) (lv : Value) (k : Nat) (T : Int) (w : World) (h : NB mu w nb s lv) (hl : NL w s lv) (hk : k ≤ s.last) (hs : s.last ≤ 60) (hT : s.termOf k = T) :
    Calls Try.prog 69 #[.pointer (some ⟨nb, 0, none⟩), .int .i64 (k : Int)] w fun e w' => e = .returned (.int .i64 T) ∧ w' = w := by
  rw [← hT]; exact termOf_any mu nb s lv k w h hl hk hs

theorem count_same {s : Nd} (h : s.countFrom s.last = s.commit) : s.count = s := by unfold Nd.count; rw [h]

set_option maxRecDepth 100000 in
set_option maxHeartbeats 1000000 in
theorem count_any (mu : Int) (nb : Nat) (s : Nd) (lv : Value) (w : World) (h : NB mu w nb s lv) (hl : NL w s lv) (hs : s.last ≤ 60) (hn : s.n ≤ 7) (ho : OwnLast s) :
    Calls Try.prog 52 #[.pointer (some ⟨nb, 0, none⟩)] w fun e w' => e = .returned (.tuple #[]) ∧ NB mu w' nb s.count lv ∧ Ew nb w w' := by
  have H := hide h
  have HL := hide hl
  have HF := hide hl.form
  have HO := hide ho
  clear h hl ho
  go_enter Try.func52, Try.ntmps52
  go_wp2
  go_step3
  go_wp2
  go_step3
  go_wp2_with (go_at_call 33; refine (last_any mu nb s _ _ (unhide H) (unhide HF)).mono ?_; rintro e w1 ⟨rfl, h1⟩; cases h1.symm)
  go_loopg [2] s.last (fun g s2 wx => s2 = .int .i64 (g : Int) ∧ g ≤ s.last ∧ s.countFrom s.last = s.countFrom g ∧ NB mu wx nb s lv ∧ Ew nb w wx)
  case atStart => exact ⟨rfl, Nat.le_refl _, rfl, unhide H, Ew.refl _ _⟩
  case round =>
    obtain ⟨rfl, hk, hc, hN, hE⟩ := hrel
    obtain ⟨K, hK⟩ : ∃ K, K = gk := ⟨_, rfl⟩
    subst hK
    have e9 := hN.c9
    have e4 := hN.c4
    have e3 := hN.c3
    have hNL := (unhide HL).ew (unhide H) hE
    by_cases hcm : s.commit < K
    · have hcm' : ((s.commit : Int) < (K : Int)) := by omega
      have hdc : decide ((s.commit : Int) < (K : Int)) = true := decide_eq_true hcm'
      by_cases ht : s.termOf K = s.term
      · have HT := hide ht
        have HC := hide hc
        have HN := hide hN
        have HE := hide hE
        have HNL := hide hNL
        clear hc hN hE hNL ht
        go_wp2
        go_quiet ((go_at_call 69; exact Calls.quiet_of_same (termOf_at mu nb s lv K _ _ (NB.drewN (unhide HN) _) (NL.drewN (unhide HNL) _) hk hs (unhide HT))))
        go_wp2
        have HN2 : Hid (NB mu (wr.drewN nq) nb s lv) := NB.drewN (unhide HN) nq
        have HE2 : Hid (Ew nb w (wr.drewN nq)) := (unhide HE).drewN nq
        have f9 := (unhide HN2).free 9
        have g9 := (unhide HN2).c9
        generalize wr.drewN nq = W at *
        clear HN HE HNL e9 e4 e3
        go_loopg [3, 29] s.n (fun g s3 s29 wy => ∃ j : Nat, j + g = s.n ∧ s29 = .int .i64 (j : Int) ∧ s3 = .int .i64 (cntTo (fun i => decide (K ≤ s.mt i)) j : Int) ∧ s.maj (cntTo (fun i => decide (K ≤ s.mt i)) j) = false ∧ wy = W)
        case atStart => exact ⟨0, by omega, rfl, rfl, by simp [cntTo, Nd.maj], rfl⟩
        case round =>
          obtain ⟨j, hj, rfl, rfl, hmj, rfl⟩ := hrel
          have c26 := fun hj7 => (unhide HN2).mt (i := j) hj7
          have g3 := (unhide HN2).c3
          have hcl := cntTo_le (fun i => decide (K ≤ s.mt i)) j
          cases gk with
          | zero =>
            have hjn : j = s.n := by omega
            have hge : ¬ (j : Int) < (s.n : Int) := by omega
            obtain ⟨q, rfl⟩ : ∃ q, K = q + 1 := ⟨K - 1, by omega⟩
            have HR : Hid (s.countFrom s.last = s.countFrom q) := by
              show _ = _
              rw [unhide HC]
              refine countFrom_next hcm ?_
              rw [hjn] at hmj
              exact hmj
            clear c26 hmj hjn
            go_wp2
            go_roundg q
            case rel => exact ⟨by go_num, by omega, unhide HR, unhide HN2, unhide HE2⟩
            case measure => omega
          | succ gj =>
            have hjn : j < s.n := by omega
            have hlt : (j : Int) < (s.n : Int) := by omega
            have hlt7 : (j : Int) < 7 := by omega
            have hj0 : (0 : Int) ≤ (j : Int) := by omega
            have d26 := c26 (by omega)
            clear c26
            by_cases hm : s.mt j < K
            · have HCN : Hid (cntTo (fun i => decide (K ≤ s.mt i)) (j + 1) = cntTo (fun i => decide (K ≤ s.mt i)) j) := cntTo_no (by simp; omega)
              have HMJ := hide hmj
              have hm' : ((s.mt j : Int) < (K : Int)) := by omega
              generalize cntTo (fun i => decide (K ≤ s.mt i)) j = c at *
              generalize s.mt j = mj at *
              clear hmj
              go_wp2
              go_roundg gj
              case rel => exact ⟨j + 1, by omega, by go_num, by rw [unhide HCN], by rw [unhide HCN]; exact unhide HMJ, rfl⟩
              case measure => omega
            · have HCN : Hid (cntTo (fun i => decide (K ≤ s.mt i)) (j + 1) = cntTo (fun i => decide (K ≤ s.mt i)) j + 1) := cntTo_yes (by simp; omega)
              have hm' : ¬ ((s.mt j : Int) < (K : Int)) := by omega
              have hge : cntTo (fun i => decide (K ≤ s.mt i)) (j + 1) ≤ s.have_ K := cntTo_mono _ (by omega)
              rw [unhide HCN] at hge
              have HGE := hide hge
              clear hge hmj
              by_cases hmaj : s.maj (cntTo (fun i => decide (K ≤ s.mt i)) j + 1) = true
              · have HR : Hid (s.count = { s with commit := K }) := by
                  show _ = _
                  unfold Nd.count
                  rw [unhide HC, countFrom_hit hcm (maj_mono (unhide HGE) hmaj) (unhide HT)]
                have HMJ := hide hmaj
                generalize cntTo (fun i => decide (K ≤ s.mt i)) j = c at *
                generalize s.mt j = mj at *
                clear hmaj
                go_wp2_with (go_at_call 55; refine (isMajority_any mu nb s lv (c + 1) _ (unhide HN2) hn).mono ?_; rw [unhide HMJ]; rintro e w1 ⟨rfl, h1⟩; cases h1.symm)
                rw [Exit.noGoto_normal]
                go_end0
                rw [unhide HR]
                exact ⟨rfl, (unhide HN2).setCommit K, (unhide HE2).set 9 _⟩
              · have hmaj' : s.maj (cntTo (fun i => decide (K ≤ s.mt i)) j + 1) = false := by simpa using hmaj
                have HMJ := hide hmaj'
                generalize cntTo (fun i => decide (K ≤ s.mt i)) j = c at *
                generalize s.mt j = mj at *
                clear hmaj hmaj'
                go_wp2_with (go_at_call 55; refine (isMajority_any mu nb s lv (c + 1) _ (unhide HN2) hn).mono ?_; rw [unhide HMJ]; rintro e w1 ⟨rfl, h1⟩; cases h1.symm)
                go_roundg gj
                case rel => exact ⟨j + 1, by omega, by go_num, by rw [unhide HCN]; go_num, by rw [unhide HCN]; exact unhide HMJ, rfl⟩
                case measure => omega
      · have HTN : Hid (s.count = s) := count_same (by rw [hc]; exact countFrom_old ((unhide HO) K hk ht))
        have htb : (s.termOf K == s.term) = false := by simpa using ht
        obtain ⟨T, hT⟩ : ∃ T, s.termOf K = T := ⟨_, rfl⟩
        rw [hT] at htb
        have HT := hide hT
        have HN := hide hN
        have HE := hide hE
        have HNL := hide hNL
        clear hc hN hE hNL ht hT
        go_wp2
        go_quiet ((go_at_call 69; exact Calls.quiet_of_same (termOf_at mu nb s lv K _ _ (NB.drewN (unhide HN) _) (NL.drewN (unhide HNL) _) hk hs (unhide HT))))
        go_wp2
        rw [Exit.noGoto_normal]
        go_end0
        rw [unhide HTN]
        exact ⟨rfl, NB.drewN (unhide HN) _, (unhide HE).drewN _⟩
    · have hcm' : decide ((s.commit : Int) < (K : Int)) = false := decide_eq_false (by omega)
      have HS : Hid (s.count = s) := count_same (by rw [hc]; exact countFrom_le (by omega))
      have HN := hide hN
      have HE := hide hE
      clear hc hN hE hNL
      go_wp2
      go_quiet (fail)
      go_wp2
      rw [Exit.noGoto_normal]
      go_end0
      rw [unhide HS]
      exact ⟨rfl, NB.drewN (unhide HN) _, (unhide HE).drewN _⟩

end Go.Proofs.Yteiecbkfganhnaa
