/- The document's node: counts. -/
import Derived.Test.YteiecbkfganhnaaGreatKRefX

namespace Go.Proofs.YteiecbkfganhnaaGreat

open Go.RowKit Go.MuLone

theorem countFrom_miss {s : Nd} {k : Nat} (h : s.commit < k + 1) (hm : ¬ (s.maj (s.have_ (k + 1)) = true ∧ s.termOf (k + 1) = s.term)) : s.countFrom (k + 1) = s.countFrom k := by
  simp only [Nd.countFrom]
  rw [if_neg (by omega), if_neg hm]

set_option maxRecDepth 100000 in
set_option maxHeartbeats 1000000 in
theorem refCounts_any (rb : Nat) (s : Nd) (v : RV) (out : List (Msg × Value)) (w : World) (h : RB w rb s v out) (hn : s.n ≤ 7) (hs : s.last ≤ 60) :
    Calls Tryz.prog 83 #[.pointer (some ⟨rb, 0, none⟩)] w fun e w' => e = .returned (.tuple #[]) ∧ RB w' rb s.count v out ∧ Er rb v v w w' := by
  obtain ⟨lo, lc, hlv⟩ := owns_form h.log
  have c4 := h.c4
  rw [hlv] at c4
  have hsl : s.log.length = s.last := rfl
  rw [hsl] at c4
  have H := hide h
  clear h hlv hsl
  go_enter Tryz.func83, Tryz.ntmps83
  go_wp2
  clear c4
  go_loopg [2] s.last (fun g s2 wx => s2 = .int .i64 (g : Int) ∧ g ≤ s.last ∧ s.countFrom s.last = s.countFrom g ∧ RB wx rb s v out ∧ Er rb v v w wx)
  case atStart => exact ⟨rfl, Nat.le_refl _, rfl, unhide H, Er.refl _ _ _⟩
  case round =>
    obtain ⟨rfl, hk, hc, hR, hE⟩ := hrel
    obtain ⟨K, hK⟩ : ∃ K, K = gk := ⟨_, rfl⟩
    subst hK
    have e5 := hR.c5
    have e1 := hR.c1
    have HR := hide hR
    have HE := hide hE
    have HC := hide hc
    by_cases hcm : s.commit < K
    · have hcm' : ((s.commit : Int) < (K : Int)) := by omega
      obtain ⟨mo, mc, hmv⟩ := owns_form hR.mt
      have hmt := hR.mt
      rw [hmv] at hmt
      have e12 := hR.c12
      rw [hmv] at e12
      have HMT := hide hmt
      clear hR hE hc hmt hmv
      go_wp2
      go_loopg [3, 4] s.n (fun g s3 s4 wy => ∃ j : Nat, j + g = s.n ∧ s4 = .int .i64 (j : Int) ∧ s3 = .int .i64 (cntTo (fun i => decide (K ≤ s.mt i)) j : Int) ∧ wy = wr)
      case atStart => exact ⟨0, by omega, rfl, rfl, rfl⟩
      case round =>
        obtain ⟨j, hj, rfl, rfl, rfl⟩ := hrel
        have hcl := cntTo_le (fun i => decide (K ≤ s.mt i)) j
        cases gk with
        | zero =>
          have hjn : j = s.n := by omega
          have hge : ¬ (j : Int) < (s.n : Int) := by omega
          subst hjn
          have HHV : Hid (cntTo (fun i => decide (K ≤ s.mt i)) s.n = s.have_ K) := rfl
          rw [unhide HHV] at hcl ⊢
          have e2 := (unhide HR).c2
          have f5 := (unhide HR).free 5
          by_cases hmj : s.maj (s.have_ K) = true
          · by_cases ht : s.termOf K = s.term
            · have HS : Hid (s.count = { s with commit := K }) := by
                show _ = _
                unfold Nd.count
                rw [unhide HC, countFrom_hit hcm hmj ht]
              have HMJ := hide hmj
              have HTT := hide ht
              clear hmj ht e12 HMT HHV
              generalize s.have_ K = c at *
              go_wp2_with (go_at_call 56; refine (refMajority_any rb s v out c _ (unhide HR) (by omega)).mono ?_; rw [unhide HMJ]; rintro e w1 ⟨rfl, h1⟩; cases h1.symm)
              go_quiet ((go_at_call 105; exact Calls.quiet_of_same (refTermOf_at rb s v out K s.term _ ((unhide HR).drewN _) hk hs (unhide HTT))))
              go_wp2
              have hfin := ((unhide HR).drewN nq).putCommit K
              rw [← unhide HS] at hfin
              exact bodyPost_ret (v := .tuple #[]) (results_none rfl _ _ _) rfl ⟨rfl, hfin, (((unhide HE).drewN nq)).set (.inl (v.self rb)) 5 _⟩
            · have HN : Hid (s.countFrom s.last = s.countFrom (K - 1)) := by
                show _ = _
                rw [unhide HC]
                obtain ⟨q, rfl⟩ : ∃ q, K = q + 1 := ⟨K - 1, by omega⟩
                exact countFrom_miss hcm (fun hx => ht hx.2)
              obtain ⟨T, hT⟩ : ∃ T, s.termOf K = T := ⟨_, rfl⟩
              have hTn : (T == s.term) = false := by rw [← hT]; simpa using ht
              have HTT := hide hT
              have HMJ := hide hmj
              clear hmj ht hT e12 HMT HHV f5
              generalize s.have_ K = c at *
              go_wp2_with (go_at_call 56; refine (refMajority_any rb s v out c _ (unhide HR) (by omega)).mono ?_; rw [unhide HMJ]; rintro e w1 ⟨rfl, h1⟩; cases h1.symm)
              go_quiet ((go_at_call 105; exact Calls.quiet_of_same (refTermOf_at rb s v out K T _ ((unhide HR).drewN _) hk hs (unhide HTT))))
              go_wp2
              go_roundg (K - 1)
              case rel => exact ⟨by rw [show ((K - 1 : Nat) : Int) = (K : Int) - 1 by omega], by omega, unhide HN, (unhide HR).drewN _, (unhide HE).drewN _⟩
              case measure => omega
          · have HN : Hid (s.countFrom s.last = s.countFrom (K - 1)) := by
              show _ = _
              rw [unhide HC]
              obtain ⟨q, rfl⟩ : ∃ q, K = q + 1 := ⟨K - 1, by omega⟩
              exact countFrom_miss hcm (fun hx => hmj hx.1)
            have hmj' : s.maj (s.have_ K) = false := by simpa using hmj
            have HMJ := hide hmj'
            clear hmj hmj' e12 HMT HHV f5
            generalize s.have_ K = c at *
            go_wp2_with (go_at_call 56; refine (refMajority_any rb s v out c _ (unhide HR) (by omega)).mono ?_; rw [unhide HMJ]; rintro e w1 ⟨rfl, h1⟩; cases h1.symm)
            go_quiet (fail)
            go_wp2
            go_roundg (K - 1)
            case rel => exact ⟨by rw [show ((K - 1 : Nat) : Int) = (K : Int) - 1 by omega], by omega, unhide HN, (unhide HR).drewN _, (unhide HE).drewN _⟩
            case measure => omega
        | succ gj =>
          have hjn : j < s.n := by omega
          have hlt : (j : Int) < (s.n : Int) := by omega
          have hj0 : (0 : Int) ≤ (j : Int) := by omega
          obtain ⟨mg, rfl, _, hcell⟩ := owns_at (unhide HMT) (j := j) (by rw [nC_length]; exact hjn)
          have hce : wr.cell? ⟨mg, j, none⟩ = some (.int .i64 (s.mt j : Int)) := by
            rw [hcell]
            have h2 := nC_get s.mt hjn
            rw [List.getElem?_eq_getElem (by rw [nC_length]; exact hjn)] at h2
            exact h2
          clear hcell
          by_cases hm : s.mt j < K
          · have HCN : Hid (cntTo (fun i => decide (K ≤ s.mt i)) (j + 1) = cntTo (fun i => decide (K ≤ s.mt i)) j) := cntTo_no (by simp; omega)
            have hm' : ¬ ((K : Int) ≤ (s.mt j : Int)) := by omega
            generalize cntTo (fun i => decide (K ≤ s.mt i)) j = c at *
            generalize s.mt j = mj at *
            go_wp2
            go_roundg gj
            case rel => exact ⟨j + 1, by omega, by go_num, by rw [unhide HCN], rfl⟩
            case measure => omega
          · have HCN : Hid (cntTo (fun i => decide (K ≤ s.mt i)) (j + 1) = cntTo (fun i => decide (K ≤ s.mt i)) j + 1) := cntTo_yes (by simp; omega)
            have hm' : ((K : Int) ≤ (s.mt j : Int)) := by omega
            generalize cntTo (fun i => decide (K ≤ s.mt i)) j = c at *
            generalize s.mt j = mj at *
            go_wp2
            go_roundg gj
            case rel => exact ⟨j + 1, by omega, by go_num, by rw [unhide HCN]; go_num, rfl⟩
            case measure => omega
    · have hcm' : ¬ ((s.commit : Int) < (K : Int)) := by omega
      have HS : Hid (s.count = s) := count_same (by rw [hc]; exact countFrom_le (by omega))
      clear hR hE hc
      go_wp2
      go_end0
      rw [unhide HS]
      exact ⟨rfl, unhide HR, unhide HE⟩

end Go.Proofs.YteiecbkfganhnaaGreat
