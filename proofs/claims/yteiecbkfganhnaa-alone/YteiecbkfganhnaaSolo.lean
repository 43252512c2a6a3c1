/- A node that is alone: plain data. -/
import Derived.Test.YteiecbkfganhnaaInvC
namespace Go.Proofs.Yteiecbkfganhnaa

theorem alone_others {s : Nd} (h0 : s.id = 0) (h1 : s.n = 1) : s.others = [] := by
  unfold Nd.others
  rw [h0, h1]
  decide

theorem alone_appends {s : Nd} (h0 : s.id = 0) (h1 : s.n = 1) : s.appends = [] := by
  unfold Nd.appends
  rw [alone_others h0 h1]
  rfl

theorem alone_maj {s : Nd} (h1 : s.n = 1) : s.maj 1 = true := by
  unfold Nd.maj
  rw [h1]
  decide

theorem cnt_one : cnt (upd none7 0 true) = 1 := by decide

theorem alone_gr {s : Nd} (h0 : s.id = 0) (h1 : s.n = 1) (r : Int) : (s.campaign r).maj (cnt (s.campaign r).gr) = true := by
  show s.maj (cnt (upd none7 s.id true)) = true
  rw [h0, cnt_one]
  exact alone_maj h1

theorem termOf_last {l : List Ent} {e : Ent} : Nd.termAt (l ++ [e]) (l.length + 1) = e.1 := by
  simp [Nd.termAt]

theorem count_alone {s : Nd} (h1 : s.n = 1) (hm : s.mt 0 = s.last) (ht : s.termOf s.last = s.term) (hc : s.commit < s.last) : s.count.commit = s.last := by
  show s.countFrom s.last = s.last
  obtain ⟨k, hk⟩ : ∃ k, s.last = k + 1 := ⟨s.last - 1, by omega⟩
  have hh : s.have_ s.last = 1 := by
    unfold Nd.have_
    rw [h1]
    simp [cntTo, b1, hm]
  rw [hk] at hh ht hc ⊢
  show (if k + 1 ≤ s.commit then s.commit else if s.maj (s.have_ (k + 1)) = true ∧ s.termOf (k + 1) = s.term then k + 1 else s.countFrom k) = k + 1
  rw [if_neg (by omega), hh, if_pos ⟨alone_maj h1, ht⟩]

/-- A node that is alone, and leads. -/
structure Solo (s : Nd) (h : Nat) (t : Int) : Prop where
  id : s.id = 0
  n : s.n = 1
  role : s.role = 3
  last : s.last = h
  term : s.term ≤ t

theorem lead_solo {s : Nd} (h0 : s.id = 0) (h1 : s.n = 1) {t : Int} (ht : s.term ≤ t) : Solo s.leadS (if s.last < 60 then s.last + 1 else s.last) t := by
  have e1 : s.leadA.leadB.last = if s.last < 60 then s.last + 1 else s.last := by
    unfold Nd.leadB
    show (if s.last < 60 then ({ s.leadA with log := s.leadA.log ++ [(s.leadA.term, ⟨#[]⟩)] } : Nd) else s.leadA).log.length = _
    split
    · simp [Nd.leadA, Nd.last]
    · rfl
  have e2 : s.leadA.leadB.id = s.id := by unfold Nd.leadB; split <;> rfl
  have e3 : s.leadA.leadB.n = s.n := by unfold Nd.leadB; split <;> rfl
  have e4 : s.leadA.leadB.role = 3 := by unfold Nd.leadB; split <;> rfl
  have e5 : s.leadA.leadB.term = s.term := by unfold Nd.leadB; split <;> rfl
  exact ⟨e2.trans h0, e3.trans h1, e4, e1, by show s.leadA.leadB.term ≤ t; rw [e5]; exact ht⟩

/-- A node that is alone and whose patience is one tick leads at its next tick. -/
theorem tick_solo {s : Nd} (h0 : s.id = 0) (h1 : s.n = 1) (hr : s.role = 0) (hp : s.pat = 1) (he : s.elapsed = 0) {t : Int} (ht : s.term ≤ t) (hb : s.term < 1000000) :
    Solo s.tick.1 (if s.last < 60 then s.last + 1 else s.last) (t + 1) ∧ s.tick.2 = [] := by
  have e1 : s.tick = s.tickS.ask := by
    unfold Nd.tick
    rw [if_neg (by rw [hr]; decide), if_neg (by rw [hp, he]; omega)]
  have e2 : s.tickS.ask = (s.tickS.campaign 1).stand := by
    unfold Nd.ask
    rw [if_pos (alone_gr (s := s.tickS) h0 h1 1)]
  have e3 : (s.tickS.campaign 1).stand = (s.tickS.campaign 1).standS.lead := by
    unfold Nd.stand
    rw [if_pos]
    exact alone_gr (s := ({ (s.tickS.campaign 1) with term := (s.tickS.campaign 1).term + 1, vote := (s.tickS.campaign 1).id } : Nd)) h0 h1 2
  rw [e1, e2, e3]
  have h := lead_solo (s := (s.tickS.campaign 1).standS) h0 h1 (t := t + 1) (by show s.term + 1 ≤ t + 1; omega)
  exact ⟨h, alone_appends (s := (s.tickS.campaign 1).standS.leadS) h.id h.n⟩

theorem propose_solo {s : Nd} {h : Nat} {t : Int} (hs : Solo s h t) (hok : Ok s) (c : ByteArray) (hc : c.size = 2) (hl : h < 60) :
    s.propErr c = 0 ∧ Solo (s.proposeS c) (h + 1) t ∧ (s.proposeS c).commit = h + 1 ∧ (s.proposeS c).appends = [] := by
  have e1 : s.propErr c = 0 := by
    unfold Nd.propErr
    rw [if_neg (by omega), if_neg (fun hx => hx hs.role), if_neg (by rw [hs.last]; omega)]
  have e2 : (s.puts c).leadC.last = h + 1 := by show (s.log ++ [(s.term, c)]).length = h + 1; have : s.log.length = h := hs.last; simp [this]
  have hS : Solo (s.proposeS c) (h + 1) t := by
    rw [proposeS_eq]
    exact ⟨hs.id, hs.n, hs.role, e2, hs.term⟩
  refine ⟨e1, hS, ?_, alone_appends hS.id hS.n⟩
  rw [proposeS_eq, count_alone (s := (s.puts c).leadC) hs.n, e2]
  · show upd s.mt s.id (s.puts c).last 0 = _
    rw [hs.id]
    show (if 0 = 0 then _ else _) = _
    rw [if_pos rfl]
    rfl
  · rw [e2]
    show Nd.termAt (s.log ++ [(s.term, c)]) (h + 1) = s.term
    have hl : s.log.length = h := hs.last
    rw [← hl]
    exact termOf_last
  · rw [e2]
    show s.commit < h + 1
    have h1 := hok.com
    have h2 := hs.last
    omega

theorem propose_full {s : Nd} {t : Int} (hs : Solo s 60 t) (c : ByteArray) (hc : c.size = 2) : s.propErr c = 5 := by
  unfold Nd.propErr
  rw [if_neg (by omega), if_neg (fun hx => hx hs.role), if_pos (by rw [hs.last]; exact Nat.le_refl _)]

end Go.Proofs.Yteiecbkfganhnaa
