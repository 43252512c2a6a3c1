/- What holds of every node, behind every call: plain data. -/
import Derived.Test.YteiecbkfganhnaaNdB
namespace Go.Proofs.Yteiecbkfganhnaa

theorem Leads.same {s t : Nd} (h : Leads s) (h1 : t.log = s.log) (h2 : t.n = s.n) (h3 : t.nx = s.nx) (h4 : t.mt = s.mt) : Leads t := by
  refine ⟨?_, ?_, ?_, ?_, ?_, ?_⟩
  · show t.log.length ≤ 60; rw [h1]; exact h.last
  · show 0 < t.log.length; rw [h1]; exact h.pos
  · rw [h1]; exact h.sz
  · rw [h2, h3]; exact h.lo
  · rw [h2, h3]; show ∀ i, i < s.n → s.nx i ≤ t.log.length + 1; rw [h1]; exact h.hi
  · rw [h2, h4]; show ∀ i, i < s.n → s.mt i ≤ t.log.length; rw [h1]; exact h.mm

theorem Ok.count {s : Nd} (h : Ok s) : Ok s.count := by
  refine { h with com := ?_, lead := fun h3 => (h.lead h3).same rfl rfl rfl rfl }
  have h1 := countFrom_bound s s.last
  have h2 := h.com
  show s.countFrom s.last ≤ s.last
  omega

theorem Ok.hears {s : Nd} (h : Ok s) {f : Nat} (hf : f < s.n) : Ok (s.hears f) :=
  { h with h7 := fun _ hi => upd_over h.h7 hf hi, lead := fun h3 => (h.lead h3).same rfl rfl rfl rfl }

theorem upd_le {n j x b : Nat} {g : Nat → Nat} (hg : ∀ i, i < n → g i ≤ b) (hx : x ≤ b) : ∀ i, i < n → upd g j x i ≤ b := by
  intro i hi
  unfold upd
  split
  · exact hx
  · exact hg i hi
theorem le_upd {n j x b : Nat} {g : Nat → Nat} (hg : ∀ i, i < n → b ≤ g i) (hx : b ≤ x) : ∀ i, i < n → b ≤ upd g j x i := by
  intro i hi
  unfold upd
  split
  · exact hx
  · exact hg i hi

theorem Ok.matched {s : Nd} (h : Ok s) (f k : Nat) (hk : k ≤ s.last) : Ok (s.matched f k) := by
  have h1 : Ok ({ s with mt := upd s.mt f k, nx := upd s.nx f (k + 1) } : Nd) := by
    refine { h with lead := fun h3 => ?_ }
    have hl := h.lead h3
    exact ⟨hl.last, hl.pos, hl.sz, le_upd hl.lo (by omega), upd_le hl.hi (by show k + 1 ≤ s.last + 1; omega), upd_le hl.mm hk⟩
  exact h1.count

theorem Ok.backs {s : Nd} (h : Ok s) (hr : s.role = 3) {f : Nat} (hf : f < s.n) (k : Nat) : Ok (s.backs f k) := by
  refine { h with lead := fun h3 => ?_ }
  have hl := h.lead hr
  have h1 := hl.lo f hf
  have h2 := hl.hi f hf
  have h4 := hl.mm f hf
  exact ⟨hl.last, hl.pos, hl.sz, le_upd hl.lo (by omega), upd_le hl.hi (by show max (s.mt f + 1) (min (s.nx f - 1) (k + 1)) ≤ s.last + 1; omega), hl.mm⟩

theorem Ok.stepAppendReply {s : Nd} (h : Ok s) (m : Msg) (hm : SoundM m s.id s.n) : Ok (s.stepAppendReply m).1 := by
  have hf : m.src.toNat < s.n := by have := hm.s0; have := hm.s1; omega
  unfold Nd.stepAppendReply
  split
  · exact h.follow _ _ hm.t1 (by decide)
  · split
    · rename_i hr
      split
      · split
        · rename_i hi
          exact (h.hears hf).matched _ _ hi.1
        · exact h.hears hf
      · exact (h.hears hf).backs hr.1 hf _
    · exact h

theorem okE_drop_high {es : List Ent} {low high : Int} (h : okE es low high = true) (k : Nat) (hk : k < es.length) : okE (es.drop k) es[k].1 high = true := by
  induction es generalizing low k with
  | nil => simp at hk
  | cons e es ih =>
    rw [okE_cons] at h
    cases k with
    | zero => simp only [List.drop_zero, List.getElem_cons_zero]; rw [okE_cons]; exact ⟨Int.le_refl _, h.2⟩
    | succ k => simpa using ih h.2.2.2 k (by simpa using hk)

/-- A head of a log bears the term of its last as a bound. -/
theorem okE_take_term {es : List Ent} {low high : Int} (h : okE es low high = true) (k : Nat) (hk : k ≤ es.length) (h0 : 0 < k) : okE (es.take k) low (Nd.termAt es k) = true := by
  induction es generalizing low k with
  | nil => simp at hk; omega
  | cons e es ih =>
    rw [okE_cons] at h
    obtain ⟨j, rfl⟩ : ∃ j, k = j + 1 := ⟨k - 1, by omega⟩
    rw [List.take_succ_cons, okE_cons]
    cases j with
    | zero => simp [Nd.termAt, okE, h.1, h.2.2.1]
    | succ j =>
      have h1 := ih h.2.2.2 (j + 1) (by simpa using hk) (by omega)
      have h2 : Nd.termAt (e :: es) (j + 1 + 1) = Nd.termAt es (j + 1) := by simp [Nd.termAt]
      rw [h2]
      refine ⟨h.1, ?_, h.2.2.1, h1⟩
      have hj : j < es.length := by simp at hk; omega
      rw [termAt_get hj]
      exact (okE_get h.2.2.2 j hj).1

theorem takes_ok {l : List Ent} {high : Int} (hl : okE l 1 high = true) (es : List Ent) (at_ : Nat) (ha : at_ ≤ l.length) (hes : okE es (max 1 (Nd.termAt l at_)) high = true) : okE (Nd.takes l at_ es) 1 high = true ∧ (Nd.takes l at_ es).length ≤ max l.length (at_ + es.length) ∧ at_ + es.length ≤ (Nd.takes l at_ es).length := by
  induction es generalizing at_ with
  | nil => exact ⟨hl, by simp only [Nd.takes]; omega, by simp only [Nd.takes]; simpa using ha⟩
  | cons e es ih =>
    simp only [Nd.takes]
    split
    · refine ⟨?_, ?_, ?_⟩
      · by_cases h0 : at_ = 0
        · subst h0
          rw [List.take_zero, List.nil_append]
          exact okE_low hes (by omega)
        · have h2 := okE_take_term hl at_ ha (by omega)
          have h3 : Nd.termAt l at_ ≤ high := by
            obtain ⟨j, rfl⟩ : ∃ j, at_ = j + 1 := ⟨at_ - 1, by omega⟩
            rw [termAt_get (by omega)]
            exact (okE_get hl j (by omega)).2.1
          have h4 : 1 ≤ Nd.termAt l at_ := by
            obtain ⟨j, rfl⟩ : ∃ j, at_ = j + 1 := ⟨at_ - 1, by omega⟩
            rw [termAt_get (by omega)]
            exact (okE_get hl j (by omega)).1
          exact okE_append h2 (okE_low hes (by omega)) h4 h3
      · rw [List.length_append, List.length_take]; omega
      · rw [List.length_append, List.length_take]; omega
    · rename_i hc
      have hlt : at_ < l.length := by omega
      have hte : Nd.termAt l (at_ + 1) = e.1 := Classical.not_not.1 fun hx => hc (.inr hx)
      rw [okE_cons] at hes
      have h2 := ih (at_ + 1) hlt (by rw [hte]; exact okE_low hes.2.2.2 (by omega))
      refine ⟨h2.1, ?_, ?_⟩
      · have := h2.2.1; simp only [List.length_cons]; omega
      · have := h2.2.2; simp only [List.length_cons]; omega

theorem keeps_get {l : List Ent} {commit at_ : Nat} {es : List Ent} (h : Nd.keeps l commit at_ es = true) (k : Nat) (hk : k < es.length) (hc : at_ + k < commit) : l[at_ + k]? = some es[k] := by
  induction es generalizing at_ k with
  | nil => simp at hk
  | cons e es ih =>
    simp only [Nd.keeps, Bool.and_eq_true, Bool.or_eq_true, decide_eq_true_eq] at h
    cases k with
    | zero =>
      rcases h.1 with h1 | h1
      · omega
      · simpa using h1
    | succ k =>
      have h2 := ih h.2 k (by simpa using hk) (by omega)
      rw [show at_ + (k + 1) = at_ + 1 + k by omega, h2]
      simp

/-- What is committed stays. -/
theorem takes_keeps {l : List Ent} {commit at_ : Nat} {es : List Ent} (h : Nd.keeps l commit at_ es = true) (hc : commit ≤ l.length) : commit ≤ (Nd.takes l at_ es).length ∧ (Nd.takes l at_ es).take commit = l.take commit := by
  induction es generalizing at_ with
  | nil => exact ⟨hc, rfl⟩
  | cons e es ih =>
    have hk := h
    simp only [Nd.keeps, Bool.and_eq_true, Bool.or_eq_true, decide_eq_true_eq] at h
    simp only [Nd.takes]
    split
    · rename_i hx
      have hle : commit ≤ at_ := by
        rcases h.1 with h1 | h1
        · exact h1
        · exfalso
          have hlt : at_ < l.length := by
            rcases Nat.lt_or_ge at_ l.length with h2 | h2
            · exact h2
            · rw [List.getElem?_eq_none h2] at h1; cases h1
          rw [List.getElem?_eq_getElem hlt] at h1
          rcases hx with h2 | h2
          · omega
          · rw [termAt_get hlt] at h2
            have := Option.some.inj h1
            rw [this] at h2
            exact h2 rfl
      refine ⟨?_, ?_⟩
      · rw [List.length_append, List.length_take]; omega
      · rw [List.take_append_of_le_length (by rw [List.length_take]; omega), List.take_take, Nat.min_eq_left hle]
    · exact ih h.2

theorem Ok.stepAppend {s : Nd} (h : Ok s) (m : Msg) (hm : SoundM m s.id s.n) : Ok (s.stepAppend m).1 := by
  unfold Nd.stepAppend
  split
  · exact h
  · rename_i h1
    split
    · exact h
    · have hF : Ok (s.follow m.term m.src) := h.follow _ _ hm.t1 (by have := hm.s0; omega)
      have hlog : (s.follow m.term m.src).log = s.log := by unfold Nd.follow; split <;> rfl
      have hcom : (s.follow m.term m.src).commit = s.commit := by unfold Nd.follow; split <;> rfl
      have hterm : (s.follow m.term m.src).term = m.term := by
        unfold Nd.follow
        split
        · rfl
        · show s.term = m.term; omega
      have hrole : (s.follow m.term m.src).role = 0 := by unfold Nd.follow; split <;> rfl
      have hA : Ok (s.appS m) := { hF with e0 := Int.le_refl _, lead := fun h3 => (by have h9 : (s.follow m.term m.src).role = 3 := h3; rw [hrole] at h9; cases h9) }
      split
      · exact hA
      · rename_i h3
        split
        · exact hA
        · rename_i h4
          have hi : m.index.toNat ≤ s.log.length := by
            have h5 : ¬ (s.last : Int) < m.index := fun hx => h3 (.inl hx)
            have h6 := hm.i0
            have h7 : s.last = s.log.length := rfl
            omega
          have hlt : s.termOf m.index.toNat = m.logTerm := Classical.not_not.1 fun hx => h3 (.inr hx)
          have hk : Nd.keeps s.log s.commit m.index.toNat m.ents = true := by
            cases hb : Nd.keeps s.log s.commit m.index.toNat m.ents with
            | true => rfl
            | false => exact absurd (.inr hb) h4
          have hl60 : ¬ 60 < m.index.toNat + m.ents.length := fun hx => h4 (.inl hx)
          have hlogA : okE s.log 1 m.term = true := okE_high h.log (by omega)
          have hT := takes_ok hlogA m.ents m.index.toNat hi (by rw [show Nd.termAt s.log m.index.toNat = m.logTerm from hlt]; exact hm.ok)
          have hC := takes_keeps (at_ := m.index.toNat) hk h.com
          refine { hA with log := ?_, len := ?_, com := ?_, lead := ?_ }
          · show okE (Nd.takes s.log m.index.toNat m.ents) 1 (s.follow m.term m.src).term = true
            rw [hterm]; exact hT.1
          · show (Nd.takes s.log m.index.toNat m.ents).length ≤ 60
            have h5 : s.log.length ≤ 60 := h.len
            have h6 := hT.2.1
            omega
          · show max s.commit (min m.commit.toNat (m.index.toNat + m.ents.length)) ≤ (Nd.takes s.log m.index.toNat m.ents).length
            have h5 := hC.1
            have h6 := hT.2.2
            omega
          · intro h9
            have h10 : (s.follow m.term m.src).role = 3 := h9
            rw [hrole] at h10; cases h10

theorem Ok.step {s : Nd} (h : Ok s) (m : Msg) : Ok (s.step m).1 := by
  unfold Nd.step
  split
  · rename_i hb
    have hm := soundM_of hb
    split
    · exact (h.reply0 m hm).1
    · split
      · exact (h.reply0 m hm).2.1
      · split
        · exact h.stepVote m hm
        · split
          · exact (h.reply0 m hm).2.2
          · split
            · exact h.stepAppend m hm
            · exact h.stepAppendReply m hm
  · exact h

/-- A log that is one entry longer. -/
def Nd.puts (s : Nd) (c : ByteArray) : Nd := { s with log := s.log ++ [(s.term, c)] }

theorem proposeS_eq (s : Nd) (c : ByteArray) : s.proposeS c = (s.puts c).leadC.count := by
  simp [Nd.proposeS, Nd.puts, Nd.leadC, Nd.last]

theorem Ok.puts {s : Nd} (h : Ok s) (c : ByteArray) (hc : c.size ≤ 20) (hl : s.last < 60) (ht : 1 ≤ s.term) : Ok (s.puts c) := by
  have hlen : (s.log ++ [(s.term, c)]).length = s.last + 1 := by simp [Nd.last]
  have hok : okE (s.log ++ [(s.term, c)]) 1 s.term = true := okE_append h.log (by rw [okE_cons]; exact ⟨Int.le_refl _, Int.le_refl _, hc, rfl⟩) ht (Int.le_refl _)
  refine { h with log := hok, len := ?_, com := ?_, lead := fun h3 => ?_ }
  · show (s.log ++ [(s.term, c)]).length ≤ 60; omega
  · show s.commit ≤ (s.log ++ [(s.term, c)]).length; have := h.com; omega
  · have hL := h.lead h3
    refine ⟨?_, ?_, okE_sizes hok, hL.lo, fun i hi => ?_, fun i hi => ?_⟩
    · show (s.log ++ [(s.term, c)]).length ≤ 60; omega
    · show 0 < (s.log ++ [(s.term, c)]).length; omega
    · show s.nx i ≤ (s.log ++ [(s.term, c)]).length + 1; have := hL.hi i hi; omega
    · show s.mt i ≤ (s.log ++ [(s.term, c)]).length; have := hL.mm i hi; omega

theorem Ok.leadC {s : Nd} (h : Ok s) : Ok s.leadC :=
  { h with lead := fun h3 => (by have := h.lead h3; exact ⟨this.last, this.pos, this.sz, this.lo, this.hi, upd_le this.mm (Nat.le_refl _)⟩) }

theorem Ok.proposeS {s : Nd} (h : Ok s) (c : ByteArray) (hc : c.size ≤ 20) (hl : s.last < 60) (ht : 1 ≤ s.term) : Ok (s.proposeS c) := by
  rw [proposeS_eq]
  exact ((h.puts c hc hl ht).leadC).count

theorem Ok.setPat {s : Nd} (h : Ok s) (p : Int) (h1 : 1 ≤ p) (h2 : p ≤ 40) : Ok ({ s with pat := p } : Nd) :=
  { h with p0 := h1, p1 := h2, lead := fun h3 => (h.lead h3).same rfl rfl rfl rfl }

theorem Ok.made {id n : Nat} {term vote : Int} {log : List Ent} (h1 : 1 ≤ n) (h2 : n ≤ 7) (h3 : id < n) (h4 : ¬ (term < 0 ∨ 1000000 < term ∨ vote < -1 ∨ (n : Int) ≤ vote ∨ 60 < (log.length : Int) ∨ okE log 1 term = false)) : Ok (Nd.made id n term vote log) :=
  { n1 := h1, n7 := h2, id := h3, t0 := by show 0 ≤ term; omega, t1 := by show term ≤ 1000000; omega,
    log := by
      show okE log 1 term = true
      cases hb : okE log 1 term with
      | true => rfl
      | false => exact absurd (.inr (.inr (.inr (.inr (.inr hb))))) h4
    len := by show log.length ≤ 60; omega, com := Nat.zero_le _, lead := fun h9 => (by cases h9), e0 := Int.le_refl _, p0 := by show (1 : Int) ≤ 10; decide, p1 := by show (10 : Int) ≤ 40; decide, g7 := fun _ _ => rfl, h7 := fun _ _ => rfl, l0 := by show (-1 : Int) ≤ -1; decide, v0 := by show -1 ≤ vote; omega, v1 := by show vote < (n : Int); omega }

/-- What is saved of a node is right. -/
theorem Ok.saved {s : Nd} (h : Ok s) : ¬ (s.term < 0 ∨ 1000000 < s.term ∨ s.vote < -1 ∨ (s.n : Int) ≤ s.vote ∨ 60 < (s.log.length : Int) ∨ okE s.log 1 s.term = false) := by
  have h1 := h.t0
  have h2 := h.t1
  have h3 := h.v0
  have h4 := h.v1
  have h5 : s.log.length ≤ 60 := h.len
  rintro (hx | hx | hx | hx | hx | hx)
  · omega
  · omega
  · omega
  · omega
  · omega
  · rw [h.log] at hx; cases hx

end Go.Proofs.Yteiecbkfganhnaa
