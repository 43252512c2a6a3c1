/- What holds of every node: plain data. -/
import Derived.Test.YteiecbkfganhnaaNd
namespace Go.Proofs.Yteiecbkfganhnaa

theorem okE_cons (e : Ent) (es : List Ent) (low high : Int) : okE (e :: es) low high = true ↔ low ≤ e.1 ∧ e.1 ≤ high ∧ e.2.size ≤ 20 ∧ okE es e.1 high = true := by
  simp only [okE]
  split
  · rename_i h
    constructor
    · intro h2; cases h2
    · rintro ⟨a, b, c, _⟩; omega
  · rename_i h
    constructor
    · intro h2; exact ⟨by omega, by omega, by omega, h2⟩
    · rintro ⟨_, _, _, d⟩; exact d

theorem okE_high {es : List Ent} {low a b : Int} (h : okE es low a = true) (hab : a ≤ b) : okE es low b = true := by
  induction es generalizing low with
  | nil => rfl
  | cons e es ih =>
    rw [okE_cons] at h ⊢
    exact ⟨h.1, by omega, h.2.2.1, ih h.2.2.2⟩

theorem okE_low {es : List Ent} {a b high : Int} (h : okE es a high = true) (hab : b ≤ a) : okE es b high = true := by
  cases es with
  | nil => rfl
  | cons e es =>
    rw [okE_cons] at h ⊢
    exact ⟨by omega, h.2⟩

theorem okE_get {es : List Ent} {low high : Int} (h : okE es low high = true) (k : Nat) (hk : k < es.length) : low ≤ es[k].1 ∧ es[k].1 ≤ high ∧ es[k].2.size ≤ 20 := by
  induction es generalizing low k with
  | nil => simp at hk
  | cons e es ih =>
    rw [okE_cons] at h
    cases k with
    | zero => exact ⟨h.1, h.2.1, h.2.2.1⟩
    | succ k =>
      have := ih h.2.2.2 k (by simpa using hk)
      simp only [List.getElem_cons_succ]
      exact ⟨by omega, this.2⟩

theorem okE_rise {es : List Ent} {low high : Int} (h : okE es low high = true) (j k : Nat) (hjk : j ≤ k) (hk : k < es.length) : es[j].1 ≤ es[k].1 := by
  induction es generalizing low j k with
  | nil => simp at hk
  | cons e es ih =>
    rw [okE_cons] at h
    cases k with
    | zero => have : j = 0 := by omega
              subst this; exact Int.le_refl _
    | succ k =>
      cases j with
      | zero => exact (okE_get h.2.2.2 k (by simpa using hk)).1
      | succ j => exact ih h.2.2.2 j k (by omega) (by simpa using hk)

theorem okE_append {a b : List Ent} {low mid high : Int} (ha : okE a low mid = true) (hb : okE b mid high = true) (hm : low ≤ mid) (hh : mid ≤ high) : okE (a ++ b) low high = true := by
  induction a generalizing low with
  | nil => exact okE_low hb hm
  | cons e a ih =>
    rw [okE_cons] at ha
    rw [List.cons_append, okE_cons]
    exact ⟨ha.1, by omega, ha.2.2.1, ih ha.2.2.2 ha.2.1⟩

theorem okE_take {es : List Ent} {low high : Int} (h : okE es low high = true) (k : Nat) : okE (es.take k) low high = true := by
  induction es generalizing low k with
  | nil => simp [okE]
  | cons e es ih =>
    cases k with
    | zero => rfl
    | succ k =>
      rw [okE_cons] at h
      rw [List.take_succ_cons, okE_cons]
      exact ⟨h.1, h.2.1, h.2.2.1, ih h.2.2.2 k⟩

theorem okE_sizes {es : List Ent} {low high : Int} (h : okE es low high = true) : ∀ e ∈ es, e.2.size ≤ 20 := by
  intro e he
  obtain ⟨k, hk, rfl⟩ := List.getElem_of_mem he
  exact (okE_get h k hk).2.2

theorem termAt_get {l : List Ent} {k : Nat} (hk : k < l.length) : Nd.termAt l (k + 1) = l[k].1 := by
  simp [Nd.termAt, hk]

/-- Entries of a node's own term lie at the end of its log. -/
def OwnLast (s : Nd) : Prop := ∀ k, k ≤ s.last → s.termOf k ≠ s.term → ∀ j, 1 ≤ j → j ≤ k → s.termOf j ≠ s.term

theorem ownLast_of {s : Nd} (h : okE s.log 1 s.term = true) : OwnLast s := by
  intro k hk ht j hj hjk he
  obtain ⟨a, rfl⟩ : ∃ a, j = a + 1 := ⟨j - 1, by omega⟩
  obtain ⟨b, rfl⟩ : ∃ b, k = b + 1 := ⟨k - 1, by omega⟩
  have hb : b < s.log.length := hk
  have ha : a < s.log.length := by omega
  unfold Nd.termOf at ht he
  rw [termAt_get hb] at ht
  rw [termAt_get ha] at he
  have h1 := okE_rise h a b (by omega) hb
  have h2 := (okE_get h b hb).2.1
  omega

/-- What a leader's numbers must be for an Append to be sent. -/
structure Leads (s : Nd) : Prop where
  last : s.last ≤ 60
  pos : 0 < s.last
  sz : ∀ e ∈ s.log, e.2.size ≤ 20
  lo : ∀ i, i < s.n → 1 ≤ s.nx i
  hi : ∀ i, i < s.n → s.nx i ≤ s.last + 1
  mm : ∀ i, i < s.n → s.mt i ≤ s.last

/-- What holds of every node. -/
structure Ok (s : Nd) : Prop where
  n1 : 1 ≤ s.n
  n7 : s.n ≤ 7
  id : s.id < s.n
  t0 : 0 ≤ s.term
  t1 : s.term ≤ 1000000
  log : okE s.log 1 s.term = true
  len : s.last ≤ 60
  com : s.commit ≤ s.last
  lead : s.role = 3 → Leads s
  e0 : 0 ≤ s.elapsed
  p0 : 1 ≤ s.pat
  p1 : s.pat ≤ 40
  g7 : ∀ i, s.n ≤ i → s.gr i = false
  h7 : ∀ i, s.n ≤ i → s.hd i = false
  l0 : -1 ≤ s.leads
  v0 : -1 ≤ s.vote
  v1 : s.vote < s.n

theorem Nd.count_log (s : Nd) : s.count.log = s.log := rfl

theorem countFrom_bound (s : Nd) (k : Nat) : s.countFrom k ≤ max s.commit k := by
  induction k with
  | zero => simp [Nd.countFrom]
  | succ k ih =>
    simp only [Nd.countFrom]
    split
    · omega
    · split
      · omega
      · omega

theorem upd_over {n j i : Nat} {g : Nat → Bool} {b : Bool} (hg : ∀ i, n ≤ i → g i = false) (hj : j < n) (hi : n ≤ i) : upd g j b i = false := by
  unfold upd
  rw [if_neg (by omega)]
  exact hg i hi

theorem leadB_facts {s : Nd} (h : okE s.log 1 s.term = true) (hl : s.last ≤ 60) (ht : 1 ≤ s.term) : okE s.leadA.leadB.log 1 s.term = true ∧ s.leadA.leadB.last ≤ 60 ∧ 0 < s.leadA.leadB.last ∧ s.last ≤ s.leadA.leadB.last ∧ s.leadA.leadB.term = s.term ∧ s.leadA.leadB.n = s.n ∧ s.leadA.leadB.id = s.id ∧ s.leadA.leadB.nx = s.leadA.nx ∧ s.leadA.leadB.role = 3 ∧ s.leadA.leadB.elapsed = 0 ∧ s.leadA.leadB.pat = s.pat ∧ s.leadA.leadB.commit = s.commit := by
  unfold Nd.leadB
  by_cases hc : s.leadA.last < 60
  · rw [if_pos hc]
    have hc' : s.log.length < 60 := hc
    refine ⟨?_, ?_, ?_, ?_, rfl, rfl, rfl, rfl, rfl, rfl, rfl, rfl⟩
    · exact okE_append h (by rw [okE_cons]; exact ⟨Int.le_refl _, Int.le_refl _, (by show (0 : Nat) ≤ 20; decide), rfl⟩) ht (Int.le_refl _)
    · show (s.log ++ [((s.term, ⟨#[]⟩) : Ent)]).length ≤ 60
      simp; omega
    · show 0 < (s.log ++ [((s.term, ⟨#[]⟩) : Ent)]).length
      simp
    · show s.log.length ≤ (s.log ++ [((s.term, ⟨#[]⟩) : Ent)]).length
      simp
  · rw [if_neg hc]
    have hc' : ¬ s.log.length < 60 := hc
    refine ⟨h, hl, ?_, Nat.le_refl _, rfl, rfl, rfl, rfl, rfl, rfl, rfl, rfl⟩
    show 0 < s.log.length
    omega

theorem lead_own {s : Nd} (h : okE s.log 1 s.term = true) (hl : s.last ≤ 60) (ht : 1 ≤ s.term) : OwnLast s.leadA.leadB.leadC := by
  have hf := leadB_facts h hl ht
  refine ownLast_of ?_
  show okE s.leadA.leadB.log 1 s.leadA.leadB.term = true
  rw [hf.2.2.2.2.1]
  exact hf.1

theorem lead_leads {s : Nd} (h : okE s.log 1 s.term = true) (hl : s.last ≤ 60) (ht : 1 ≤ s.term) : Leads s.leadS := by
  have hf := leadB_facts h hl ht
  refine ⟨hf.2.1, hf.2.2.1, okE_sizes hf.1, fun i hi => ?_, fun i hi => ?_, fun i hi => ?_⟩
  · have hi' : i < s.n := by have h1 : s.leadS.n = s.leadA.leadB.n := rfl; omega
    show 1 ≤ s.leadA.leadB.nx i
    rw [hf.2.2.2.2.2.2.2.1]
    simp [Nd.leadA, hi']
  · have hi' : i < s.n := by have h1 : s.leadS.n = s.leadA.leadB.n := rfl; omega
    show s.leadA.leadB.nx i ≤ s.leadA.leadB.last + 1
    rw [hf.2.2.2.2.2.2.2.1]
    have : s.leadA.nx i = s.last + 1 := by simp [Nd.leadA, hi']
    omega
  · have hi' : i < s.n := by have h1 : s.leadS.n = s.leadA.leadB.n := rfl; omega
    have hmt : s.leadA.leadB.mt = s.leadA.mt := by unfold Nd.leadB; split <;> rfl
    show upd s.leadA.leadB.mt s.leadA.leadB.id s.leadA.leadB.last i ≤ s.leadA.leadB.last
    unfold upd
    split
    · exact Nat.le_refl _
    · rw [hmt]
      simp [Nd.leadA, hi']

theorem Ok.leadS {s : Nd} (h : Ok s) (ht : 1 ≤ s.term) : Ok s.leadS := by
  have hf := leadB_facts h.log h.len ht
  have hterm : s.leadS.term = s.term := hf.2.2.2.2.1
  have hn : s.leadS.n = s.n := hf.2.2.2.2.2.1
  have hid : s.leadS.id = s.id := hf.2.2.2.2.2.2.1
  refine { n1 := by rw [hn]; exact h.n1, n7 := by rw [hn]; exact h.n7, id := by rw [hid, hn]; exact h.id, t0 := by rw [hterm]; exact h.t0, t1 := by rw [hterm]; exact h.t1, log := by rw [hterm]; exact hf.1, len := hf.2.1, com := ?_, lead := fun _ => lead_leads h.log h.len ht, e0 := ?_, p0 := ?_, p1 := ?_, g7 := ?_, h7 := ?_, l0 := ?_, v0 := ?_, v1 := ?_ }
  · have h1 := countFrom_bound s.leadA.leadB.leadC s.leadA.leadB.leadC.last
    have h2 : s.leadA.leadB.leadC.commit = s.commit := hf.2.2.2.2.2.2.2.2.2.2.2
    have h3 : s.leadA.leadB.leadC.last = s.leadA.leadB.last := rfl
    have h4 := h.com
    have h5 := hf.2.2.2.1
    show s.leadA.leadB.leadC.countFrom s.leadA.leadB.leadC.last ≤ s.leadA.leadB.last
    omega
  · have : s.leadS.elapsed = 0 := hf.2.2.2.2.2.2.2.2.2.1
    omega
  · have : s.leadS.pat = s.pat := hf.2.2.2.2.2.2.2.2.2.2.1
    rw [this]; exact h.p0
  · have : s.leadS.pat = s.pat := hf.2.2.2.2.2.2.2.2.2.2.1
    rw [this]; exact h.p1
  · have h1 : s.leadS.gr = s.gr := by show s.leadA.leadB.gr = s.gr; unfold Nd.leadB; split <;> rfl
    rw [hn, h1]; exact h.g7
  · have h1 : s.leadS.hd = none7 := by show s.leadA.leadB.hd = none7; unfold Nd.leadB; split <;> rfl
    rw [h1]; exact fun _ _ => rfl
  · have h1 : s.leadS.leads = s.id := by show s.leadA.leadB.leads = s.id; unfold Nd.leadB; split <;> rfl
    rw [h1]; omega
  · have h1 : s.leadS.vote = s.vote := by show s.leadA.leadB.vote = s.vote; unfold Nd.leadB; split <;> rfl
    rw [h1]; exact h.v0
  · have h1 : s.leadS.vote = s.vote := by show s.leadA.leadB.vote = s.vote; unfold Nd.leadB; split <;> rfl
    rw [h1, hn]; exact h.v1

theorem Ok.follow {s : Nd} (h : Ok s) (t l : Int) (ht : t ≤ 1000000) (hl : -1 ≤ l) : Ok (s.follow t l) := by
  unfold Nd.follow
  split
  · rename_i hlt
    exact { h with t0 := by show 0 ≤ t; have := h.t0; omega, t1 := ht, log := okE_high h.log (Int.le_of_lt hlt), lead := fun hr => (by cases hr), l0 := hl, v0 := (by show (-1 : Int) ≤ -1; decide), v1 := (by show (-1 : Int) < (s.n : Int); omega) }
  · exact { h with lead := fun hr => (by cases hr), l0 := hl }

theorem Ok.campaign {s : Nd} (h : Ok s) (r : Int) (hr : r ≠ 3) : Ok (s.campaign r) :=
  { h with lead := fun h3 => absurd h3 hr, e0 := Int.le_refl _, g7 := fun _ hi => upd_over (fun _ _ => rfl) h.id hi, l0 := Int.le_refl _ }

theorem Ok.standS {s : Nd} (h : Ok s) (ht : s.term < 1000000) : Ok s.standS :=
  { h with t0 := by show 0 ≤ s.term + 1; have := h.t0; omega, t1 := by show s.term + 1 ≤ 1000000; omega, log := okE_high h.log (by show s.term ≤ s.term + 1; omega), lead := fun h3 => (by cases h3), e0 := Int.le_refl _, g7 := fun _ hi => upd_over (fun _ _ => rfl) h.id hi, l0 := Int.le_refl _, v0 := (by show (-1 : Int) ≤ (s.id : Int); omega), v1 := (by show (s.id : Int) < (s.n : Int); have := h.id; omega) }

theorem Ok.stand {s : Nd} (h : Ok s) (ht : s.term < 1000000) : Ok s.stand.1 := by
  unfold Nd.stand
  split
  · exact (h.standS ht).leadS (by show 1 ≤ s.term + 1; have := h.t0; omega)
  · exact h.standS ht

theorem Ok.ask {s : Nd} (h : Ok s) (ht : s.term < 1000000) : Ok s.ask.1 := by
  unfold Nd.ask
  split
  · exact (h.campaign 1 (by decide)).stand ht
  · exact h.campaign 1 (by decide)

theorem Ok.tickS {s : Nd} (h : Ok s) : Ok s.tickS := { h with lead := fun h3 => (by have := h.lead h3; exact ⟨this.last, this.pos, this.sz, this.lo, this.hi, this.mm⟩), e0 := by show 0 ≤ s.elapsed + 1; have := h.e0; omega }

theorem Ok.tick {s : Nd} (h : Ok s) : Ok s.tick.1 := by
  unfold Nd.tick
  split
  · rename_i hr
    unfold Nd.tickLeader
    split
    · split
      · exact { h with lead := fun _ => (by have := h.lead hr; exact ⟨this.last, this.pos, this.sz, this.lo, this.hi, this.mm⟩), e0 := Int.le_refl _, h7 := fun _ _ => rfl }
      · have h0 : Ok ({ s.tickS with elapsed := 0 } : Nd) := { h with lead := fun _ => (by have := h.lead hr; exact ⟨this.last, this.pos, this.sz, this.lo, this.hi, this.mm⟩), e0 := Int.le_refl _ }
        exact h0.follow _ _ h.t1 (by decide)
    · exact h.tickS
  · split
    · exact h.tickS
    · exact h.tickS.ask (by show s.term < 1000000; omega)

end Go.Proofs.Yteiecbkfganhnaa
