/- A leader's Append and its reply, one message: plain data. -/
import Derived.Test.YteiecbkfganhnaaRaft

namespace Go.Proofs.Yteiecbkfganhnaa

/-- An Append of the log L, behind the number k. -/
def apM (x : Nat) (T : Int) (L : List Ent) (c j k : Nat) : Msg := { kind := 4, src := x, dst := j, term := T, index := k, logTerm := Nd.termAt L k, commit := c, ents := (L.drop k).take 3, granted := false }
/-- A reply to it. -/
def apR (x : Nat) (T : Int) (j k : Nat) (b : Bool) : Msg := { kind := 5, src := j, dst := x, term := T, index := k, logTerm := 0, commit := 0, ents := [], granted := b }

theorem appendTo_eq {s : Nd} {x : Nat} {T : Int} {L : List Ent} (h1 : s.id = x) (h2 : s.term = T) (h3 : s.log = L) (j : Nat) (h4 : 1 ≤ s.nx j) : s.appendTo j = apM x T L s.commit j (s.nx j - 1) := by
  show ({ kind := 4, src := (s.id : Int), dst := (j : Int), term := s.term, index := (s.nx j : Int) - 1, logTerm := Nd.termAt s.log (s.nx j - 1), commit := (s.commit : Int), ents := (s.log.drop (s.nx j - 1)).take 3, granted := false } : Msg) = _
  rw [h1, h2, h3, show (s.nx j : Int) - 1 = ((s.nx j - 1 : Nat) : Int) by omega]
  rfl

theorem okE_drop {high : Int} (k : Nat) : ∀ {es : List Ent} {low : Int}, okE es low high = true → 0 ≤ low → k ≤ es.length → okE (es.drop k) (max low (Nd.termAt es k)) high = true := by
  induction k with
  | zero =>
    intro es low h h0 _
    rw [List.drop_zero]
    exact okE_low h (by show max low 0 ≤ low; omega)
  | succ k ih =>
    intro es low h h0 hk
    cases es with
    | nil => simp at hk
    | cons e es =>
      rw [okE_cons] at h
      have h1 := ih h.2.2.2 (by omega) (by simpa using hk)
      rw [List.drop_succ_cons]
      refine okE_low h1 ?_
      cases k with
      | zero => have : Nd.termAt (e :: es) (0 + 1) = e.1 := rfl
                rw [this]
                show max low e.1 ≤ max e.1 0
                omega
      | succ k =>
        have : Nd.termAt (e :: es) (k + 1 + 1) = Nd.termAt es (k + 1) := by simp [Nd.termAt]
        rw [this]; omega

theorem termAt_bounds {es : List Ent} {high : Int} (h : okE es 1 high = true) (h0 : 0 ≤ high) (k : Nat) : 0 ≤ Nd.termAt es k ∧ Nd.termAt es k ≤ high := by
  unfold Nd.termAt
  split
  · exact ⟨Int.le_refl _, h0⟩
  · cases hx : es[k - 1]? with
    | none => exact ⟨Int.le_refl _, h0⟩
    | some e =>
      obtain ⟨h1, h2⟩ := List.getElem?_eq_some_iff.1 hx
      have := okE_get h (k - 1) h1
      rw [h2] at this
      exact ⟨by show 0 ≤ e.1; omega, this.2.1⟩

theorem keeps_pre {l L : List Ent} {c : Nat} (h : l.take c = L.take c) : ∀ (es : List Ent) (a : Nat), es <+: L.drop a → Nd.keeps l c a es = true := by
  intro es
  induction es with
  | nil => intro a _; rfl
  | cons e es ih =>
    intro a hp
    have hlt : a < L.length := by have := hp.length_le; rw [List.length_drop, List.length_cons] at this; omega
    rw [List.drop_eq_getElem_cons hlt] at hp
    obtain ⟨h1, h2⟩ := List.cons_prefix_cons.1 hp
    simp only [Nd.keeps, Bool.and_eq_true, Bool.or_eq_true, decide_eq_true_eq]
    refine ⟨?_, ih _ h2⟩
    by_cases hca : c ≤ a
    · exact .inl hca
    · right
      have h3 : (l.take c)[a]? = l[a]? := List.getElem?_take_of_lt (by omega)
      have h4 : (L.take c)[a]? = L[a]? := List.getElem?_take_of_lt (by omega)
      rw [← h3, h, h4, List.getElem?_eq_getElem hlt, h1]

/-- What is known of a term, its leader and its log. -/
structure Tm (n : Nat) (h : Gh) (x : Nat) (T : Int) (L : List Ent) : Prop where
  gi : GI n h
  ld : h.L T = some x
  H : h.H T = L
  xn : x < n
  t0 : 1 ≤ T
  t1 : T ≤ 1000000
  ok : okE L 1 T = true
  len : L.length ≤ 60
  full : 60 ≤ L.length ∨ Nd.termAt L L.length = T

/-- A node that follows x in the term T, and has just heard of it. -/
structure Fo (x : Nat) (T : Int) (t : Nd) : Prop where
  term : t.term = T
  role : t.role = 0
  leads : t.leads = (x : Int)
  el : t.elapsed = 0

theorem com_pre {n : Nat} {h : Gh} {x : Nat} {T : Int} {L : List Ent} (hT : Tm n h x T L) {S : Int} (hS : S ≤ T) {l : List Ent} {c : Nat} (hc : Com n h S l c) : c ≤ L.length ∧ l.take c = L.take c := by
  rcases hc with rfl | ⟨h0, u, k, h1, h2, h3, h4⟩
  · exact ⟨Nat.zero_le _, rfl⟩
  · have h5 := chosen_pre hT.gi h2 (show u ≤ T by omega) hT.ld
    rw [hT.H] at h5
    have h6 : ((h.H u).take k).length = k := by rw [List.length_take]; have := h2.1.2.1; omega
    refine ⟨by have := h5.length_le; omega, ?_⟩
    rw [h4, ← take_take_le (h.H u) h3, take_pre h5 (by omega)]

theorem soundM_ap {n x : Nat} {h : Gh} {T : Int} {L : List Ent} (hT : Tm n h x T L) {c j k : Nat} (hjx : j ≠ x) (hc : c ≤ 60) (hk : k ≤ L.length) : soundM (apM x T L c j k) j n = true := by
  have h1 := termAt_bounds hT.ok (by have := hT.t0; omega) k
  have h2 := okE_drop k hT.ok (by decide) hk
  have h3 := okE_take h2 3
  have hx := hT.xn; have ht0 := hT.t0; have ht1 := hT.t1; have hl := hT.len
  have hne : ¬ (x : Int) = (j : Int) := by omega
  have hl3 : (((L.drop k).take 3).length : Int) ≤ 3 := by rw [List.length_take]; omega
  simp only [soundM, apM, numOk, srcOk, Bool.and_eq_true, decide_eq_true_eq]
  refine ⟨⟨⟨⟨⟨⟨⟨⟨⟨?_, ?_⟩, ?_⟩, ?_⟩, ?_, ?_⟩, ?_⟩, ?_⟩, ⟨?_, ?_⟩, ⟨?_, ?_⟩, ?_, ?_⟩, ?_⟩, ?_⟩
  all_goals first | exact h3 | (refine decide_eq_true ?_; first | exact hl3 | exact hne | omega) | trivial

theorem soundM_apR {n x : Nat} {T : Int} (h0 : 1 ≤ T) (h1 : T ≤ 1000000) {j k : Nat} (hj : j < n) (hjx : j ≠ x) (hk : k ≤ 60) (b : Bool) : soundM (apR x T j k b) x n = true := by
  have hne : ¬ (j : Int) = (x : Int) := by omega
  simp only [soundM, apR, numOk, srcOk, okE, Bool.and_eq_true, decide_eq_true_eq, List.length_nil]
  refine ⟨⟨⟨⟨⟨⟨⟨⟨⟨?_, ?_⟩, ?_⟩, ?_⟩, ?_, ?_⟩, ?_⟩, ?_⟩, ⟨?_, ?_⟩, ⟨?_, ?_⟩, ?_, ?_⟩, ?_⟩, ?_⟩
  all_goals first | (refine decide_eq_true ?_; first | exact hne | omega) | trivial

theorem step4 {s : Nd} {m : Msg} {i n : Nat} (h1 : s.id = i) (h2 : s.n = n) (hs : soundM m i n = true) (hk : m.kind = 4) : s.step m = s.stepAppend m := by
  unfold Nd.step
  rw [h1, h2, if_pos hs, if_neg (by rw [hk]; decide), if_neg (by rw [hk]; decide), if_neg (by rw [hk]; decide), if_neg (by rw [hk]; decide), if_pos hk]
theorem step5 {s : Nd} {m : Msg} {i n : Nat} (h1 : s.id = i) (h2 : s.n = n) (hs : soundM m i n = true) (hk : m.kind = 5) : s.step m = s.stepAppendReply m := by
  unfold Nd.step
  rw [h1, h2, if_pos hs, if_neg (by rw [hk]; decide), if_neg (by rw [hk]; decide), if_neg (by rw [hk]; decide), if_neg (by rw [hk]; decide), if_neg (by rw [hk]; decide)]

/-- A node is told of an Append of a term that is no less than its own. -/
theorem fol_app {n x j k c : Nat} {h : Gh} {T : Int} {L : List Ent} {t : Nd} (hT : Tm n h x T L) (ht : NI n h j t) (hjx : j ≠ x) (htm : t.term ≤ T) (hc : c ≤ 60) (hk : k ≤ L.length) :
    ∃ t', Fo x T t' ∧
      ((t.step (apM x T L c j k) = (t', [apR x T j (min (k + 3) L.length) true]) ∧ (L.length ≤ k + 3 → t'.log = L) ∧ t'.commit = max t.commit (min c (min (k + 3) L.length))) ∨
       (∃ a, a < k ∧ t.step (apM x T L c j k) = (t', [apR x T j a false]) ∧ h.A T j < k)) := by
  have hs := soundM_ap (n := n) hT hjx hc hk
  rw [step4 ht.fid ht.fn hs rfl]
  have hlen := hT.len
  have hr3 : ¬ ((apM x T L c j k).term = t.term ∧ t.role = 3) := by
    rintro ⟨h1, h2⟩
    have h3 := (ht.ldr h2).1
    rw [← h1] at h3
    have h4 : h.L T = some j := h3
    rw [hT.ld] at h4
    exact hjx (Option.some.inj h4).symm
  have hfo : (t.follow T x).term = T := by rw [follow_term]; omega
  have hF : Fo x T (t.appS (apM x T L c j k)) := ⟨hfo, fol_role _ _ _, by show (t.follow T x).leads = _; unfold Nd.follow; split <;> rfl, rfl⟩
  have hid : (t.appS (apM x T L c j k)).id = j := (follow_id _ _ _).trans ht.fid
  have hidx : (apM x T L c j k).index.toNat = k := by show ((k : Int)).toNat = k; omega
  have hents : (apM x T L c j k).ents.length = min 3 (L.length - k) := by show ((L.drop k).take 3).length = _; rw [List.length_take, List.length_drop]
  have hsum : k + min 3 (L.length - k) = min (k + 3) L.length := by omega
  unfold Nd.stepAppend
  rw [if_neg (show ¬ (apM x T L c j k).term < t.term by show ¬ T < t.term; omega), if_neg hr3]
  by_cases href : (t.last : Int) < (apM x T L c j k).index ∨ t.termOf (apM x T L c j k).index.toNat ≠ (apM x T L c j k).logTerm
  · rw [if_pos href]
    refine ⟨_, hF, .inr ⟨min t.last (k - 1), ?_, ?_, ?_⟩⟩
    · have : k ≠ 0 := by
        rintro rfl
        rcases href with h1 | h1
        · have h2 : (t.last : Int) < ((0 : Nat) : Int) := h1
          omega
        · exact h1 rfl
      omega
    · congr 1
      show [({ kind := 5, src := ((t.appS (apM x T L c j k)).id : Int), dst := (x : Int), term := (t.follow T x).term, index := min (t.last : Int) (max 0 ((k : Int) - 1)), logTerm := 0, commit := 0, ents := [], granted := false } : Msg)] = _
      rw [hid, hfo, show min (t.last : Int) (max 0 ((k : Int) - 1)) = ((min t.last (k - 1) : Nat) : Int) by omega]
      rfl
    · apply Classical.byContradiction
      intro hA
      rw [hidx] at href
      have hk0 : k ≠ 0 := by
        rintro rfl
        rcases href with h1 | h1
        · have h2 : (t.last : Int) < ((0 : Nat) : Int) := h1
          omega
        · exact h1 rfl
      have h1 := ht.ta T (by omega)
      have h2 : t.term = T := by omega
      have h3 := ht.acc
      rw [h2, hT.H] at h3
      have h4 : (L.take (h.A T j)).length = h.A T j := by
        have := hT.gi.ah T j
        rw [hT.H] at this
        rw [List.length_take]; omega
      have h5 : k ≤ t.log.length := by have := h3.length_le; omega
      rcases href with h6 | h6
      · have h7 : (t.log.length : Int) < (k : Int) := h6
        omega
      · apply h6
        show Nd.termAt t.log k = Nd.termAt L k
        rw [termAt_pre h3 (by omega), termAt_take _ (by omega)]
  · rw [if_neg href]
    rw [hidx] at href ⊢
    obtain ⟨_, hcp⟩ := com_pre hT htm ht.com
    have hkeep : Nd.keeps t.log t.commit k (apM x T L c j k).ents = true := keeps_pre hcp _ _ (List.take_prefix _ _)
    rw [if_neg (by rw [hents, hkeep]; rintro (h1 | h1); · omega
                   · cases h1)]
    refine ⟨{ t.appS (apM x T L c j k) with log := Nd.takes t.log k (apM x T L c j k).ents, commit := max t.commit (min (apM x T L c j k).commit.toNat (k + (apM x T L c j k).ents.length)) }, ⟨hF.term, hF.role, hF.leads, hF.el⟩, .inl ⟨?_, ?_, ?_⟩⟩
    · rw [hents, hsum]
      congr 1
      show [({ kind := 5, src := ((t.appS (apM x T L c j k)).id : Int), dst := (x : Int), term := (t.follow T x).term, index := ((min (k + 3) L.length : Nat) : Int), logTerm := 0, commit := 0, ents := [], granted := true } : Msg)] = _
      rw [hid, hfo]
      rfl
    · intro hLk
      show Nd.takes t.log k (apM x T L c j k).ents = L
      have hkl : k ≤ t.log.length := by
        have : ¬ (t.log.length : Int) < (k : Int) := fun hx => href (.inl hx)
        omega
      have hkt : Nd.termAt t.log k = Nd.termAt L k := Classical.not_not.1 fun hx => href (.inr hx)
      have hgl : LGood h L := by rw [← hT.H]; exact hT.gi.gh T
      have heq := good_meet ht.good hgl hkl hk hkt
      have hend : k + (apM x T L c j k).ents.length = L.length := by rw [hents]; omega
      rcases takes_shape ht.good hgl (apM x T L c j k).ents k hkl (List.take_prefix _ _) hk heq with ⟨h1, h2, h3⟩ | ⟨a, _, _, _, _, _, h6⟩
      · rw [h1]
        rw [hend] at h2 h3
        rw [List.take_length] at h3
        have hpre : L <+: t.log := by rw [← h3]; exact List.take_prefix _ _
        apply Classical.byContradiction
        intro hne
        have hlt : L.length < t.log.length := by
          rcases Nat.lt_or_ge L.length t.log.length with h7 | h7
          · exact h7
          · exact absurd (pre_eq hpre h7).symm hne
        rcases hT.full with h8 | h8
        · have h9 : t.log.length ≤ 60 := ht.ok.len
          omega
        · have h9 : Nd.termAt t.log (L.length + 1) = T := by
            rw [termAt_get hlt]
            have h10 := (okE_get ht.ok.log L.length hlt).2.1
            have hpos : L.length ≠ 0 := by
              intro h0
              rw [h0] at h8
              have : Nd.termAt L 0 = 0 := rfl
              have := hT.t0
              omega
            have h11 := okE_rise ht.ok.log (L.length - 1) L.length (by omega) hlt
            have h12 := termAt_get (l := t.log) (k := L.length - 1) (by omega)
            rw [show L.length - 1 + 1 = L.length by omega, termAt_pre hpre (Nat.le_refl _), h8] at h12
            omega
          have h13 := ht.good (L.length + 1) (by omega) hlt
          rw [h9, hT.H] at h13
          have := h13.length_le
          rw [List.length_take] at this
          omega
      · rw [h6, hend, List.take_length]
    · show max t.commit (min ((c : Int)).toNat (k + (apM x T L c j k).ents.length)) = _
      rw [hents, hsum, show ((c : Int)).toNat = c by omega]

end Go.Proofs.Yteiecbkfganhnaa

namespace Go.Proofs.Yteiecbkfganhnaa

theorem tell1_at {g : Gp} {m : Msg} {r out : List Msg} {d : Nat} {t' : Nd} (hw : g.way = m :: r) (hd : m.dst = (d : Int)) (hl : d < g.nodes.length) (hs : (g.node d).step m = (t', out)) (hlen : r.length + out.length ≤ 200) :
    g.tell1.way = r ++ out ∧ g.tell1.node d = t' ∧ (∀ i, i ≠ d → g.tell1.node i = g.node i) ∧ g.tell1.nodes.length = g.nodes.length := by
  have hdn : m.dst.toNat = d := by omega
  have hg : g.tell1 = ({ g with way := r } : Gp).did d (t', out) := by
    rw [tell1_cons hw]
    show Gp.did _ m.dst.toNat ((Gp.node _ m.dst.toNat).step m) = _
    rw [hdn]
    show Gp.did _ d ((g.node d).step m) = _
    rw [hs]
  rw [hg]
  refine ⟨?_, ?_, fun i hi => ?_, ?_⟩
  · show r ++ out.take (200 - r.length) = _
    rw [List.take_of_length_le (by omega)]
  · show (g.nodes.set d t')[d]?.getD _ = _
    rw [List.getElem?_set_self hl]; rfl
  · show (g.nodes.set d t')[i]?.getD _ = g.nodes[i]?.getD _
    rw [List.getElem?_set_ne (fun hx => hi hx.symm)]
  · show (g.nodes.set d t').length = _
    rw [List.length_set]

theorem J.len {n : Nat} {g : Gp} (h : J n g) : g.nodes.length = n := by
  obtain ⟨_, hj⟩ := h
  exact hj.len

theorem ldr_yes {s : Nd} {n x j e : Nat} {T : Int} (h1 : s.id = x) (h2 : s.n = n) (h3 : s.role = 3) (h4 : s.term = T) (hs : soundM (apR x T j e true) x n = true) :
    s.step (apR x T j e true) = if e ≤ s.last ∧ s.mt j < e then ((s.hears j).matched j e, if e + 1 ≤ s.last then [((s.hears j).matched j e).appendTo j] else []) else (s.hears j, []) := by
  rw [step5 h1 h2 hs rfl]
  unfold Nd.stepAppendReply
  have a1 : (apR x T j e true).src.toNat = j := by show ((j : Int)).toNat = j; omega
  have a2 : (apR x T j e true).index.toNat = e := by show ((e : Int)).toNat = e; omega
  rw [a1, a2, if_neg (show ¬ s.term < (apR x T j e true).term by show ¬ s.term < T; omega), if_pos (show s.role = 3 ∧ (apR x T j e true).term = s.term from ⟨h3, h4.symm⟩), if_pos (show (apR x T j e true).granted = true from rfl)]

theorem ldr_no {s : Nd} {n x j e : Nat} {T : Int} (h1 : s.id = x) (h2 : s.n = n) (h3 : s.role = 3) (h4 : s.term = T) (hs : soundM (apR x T j e false) x n = true) :
    s.step (apR x T j e false) = ((s.hears j).backs j e, [((s.hears j).backs j e).appendTo j]) := by
  rw [step5 h1 h2 hs rfl]
  unfold Nd.stepAppendReply
  have a1 : (apR x T j e false).src.toNat = j := by show ((j : Int)).toNat = j; omega
  have a2 : (apR x T j e false).index.toNat = e := by show ((e : Int)).toNat = e; omega
  rw [a1, a2, if_neg (show ¬ s.term < (apR x T j e false).term by show ¬ s.term < T; omega), if_pos (show s.role = 3 ∧ (apR x T j e false).term = s.term from ⟨h3, h4.symm⟩), if_neg (show ¬ (apR x T j e false).granted = true from fun hx => by cases hx)]

/-- What is on its way between the leader s and the node t. -/
def Pend (x : Nat) (T : Int) (L : List Ent) (K : Prop) (s t : Nd) (j : Nat) (m : Msg) : Prop :=
  (∃ c, c ≤ 60 ∧ (K → c = L.length) ∧ m = apM x T L c j (s.nx j - 1)) ∨
  (Fo x T t ∧ m = apR x T j (min (s.nx j - 1 + 3) L.length) true ∧ (L.length ≤ s.nx j - 1 + 3 → t.log = L ∧ (K → t.commit = L.length))) ∨
  (Fo x T t ∧ ∃ a, a < s.nx j - 1 ∧ m = apR x T j a false ∧ s.mt j < s.nx j - 1)

/-- All is told between them. -/
structure Dn (x : Nat) (T : Int) (L : List Ent) (K : Prop) (s t : Nd) (j : Nat) : Prop where
  fo : Fo x T t
  com : K → t.commit = L.length
  log : t.log = L
  hd : s.hd j = true
  mt : s.mt j = L.length
  nx : s.nx j = L.length + 1

def mu (L : List Ent) (s : Nd) (j : Nat) (m : Msg) : Nat := 2 * ((s.nx j - s.mt j - 1) + (L.length - s.mt j)) + (if m.kind = 4 then 2 else 1)
def muS (L : List Ent) (s : Nd) (f : Nat → Msg) : List Nat → Nat
  | [] => 0
  | j :: js => mu L s j (f j) + muS L s f js

theorem mu4 {L : List Ent} {s : Nd} {j : Nat} {m : Msg} (h : m.kind = 4) : mu L s j m = 2 * ((s.nx j - s.mt j - 1) + (L.length - s.mt j)) + 2 := by unfold mu; rw [if_pos h]
theorem mu5 {L : List Ent} {s : Nd} {j : Nat} {m : Msg} (h : m.kind = 5) : mu L s j m = 2 * ((s.nx j - s.mt j - 1) + (L.length - s.mt j)) + 1 := by unfold mu; rw [if_neg (by rw [h]; decide)]

theorem muS_append (L : List Ent) (s : Nd) (f : Nat → Msg) (a b : List Nat) : muS L s f (a ++ b) = muS L s f a + muS L s f b := by
  induction a with
  | nil => simp [muS]
  | cons j a ih => simp only [List.cons_append, muS, ih]; omega

theorem muS_congr {L : List Ent} {s s' : Nd} {f f' : Nat → Msg} (js : List Nat) (h : ∀ j ∈ js, s'.nx j = s.nx j ∧ s'.mt j = s.mt j ∧ f' j = f j) : muS L s' f' js = muS L s f js := by
  induction js with
  | nil => rfl
  | cons j js ih =>
    obtain ⟨h1, h2, h3⟩ := h j (List.mem_cons_self ..)
    simp only [muS, mu, h1, h2, h3, ih fun i hi => h i (List.mem_cons_of_mem _ hi)]

/-- No number above what is committed may be. -/
def Counted (s : Nd) : Prop := ∀ k, s.commit < k → k ≤ s.last → ¬ (s.maj (s.have_ k) = true ∧ s.termOf k = s.term)

theorem countFrom_top (s : Nd) : ∀ m k, s.countFrom m < k → k ≤ m → ¬ (s.maj (s.have_ k) = true ∧ s.termOf k = s.term) := by
  intro m
  induction m with
  | zero => intro k h1 h2; omega
  | succ m ih =>
    intro k h1 h2
    simp only [Nd.countFrom] at h1
    split at h1
    · omega
    · split at h1
      · omega
      · rename_i h3 h4
        by_cases hk : k = m + 1
        · rw [hk]; exact h4
        · exact ih k h1 (by omega)

theorem counted_count (s : Nd) : Counted s.count := fun k h1 h2 => countFrom_top s s.last k h1 h2

theorem count_last {s : Nd} (h : s.commit = s.last) : s.count.commit = s.last := by
  show s.countFrom s.last = s.last
  cases hl : s.last with
  | zero => show s.commit = 0; omega
  | succ k => simp only [Nd.countFrom]; rw [if_pos (by omega)]; omega

/-- The leader x of the term T and the others talk: f j is on its way for each j of js, the rest is done. C: it has counted; K: all that it has is committed. -/
structure Cv (n x : Nat) (T : Int) (L : List Ent) (C K : Prop) (g : Gp) (js : List Nat) (f : Nat → Msg) : Prop where
  j : J n g
  way : g.way = js.map f
  nd : js.Nodup
  jl : js.length ≤ 7
  mem : ∀ j ∈ js, j < n ∧ j ≠ x
  xn : x < n
  role : (g.node x).role = 3
  term : (g.node x).term = T
  log : (g.node x).log = L
  tm : ∀ j, j < n → (g.node j).term ≤ T
  cm : C → Counted (g.node x)
  kc : K → (g.node x).commit = L.length
  pend : ∀ j ∈ js, Pend x T L K (g.node x) (g.node j) j (f j)
  done : ∀ j, j < n → j ≠ x → j ∉ js → Dn x T L K (g.node x) (g.node j) j

theorem lead_tm {n x : Nat} {h : Gh} {s : Nd} (hg : GI n h) (hn : NI n h x s) (hx : x < n) (hr : s.role = 3) : Tm n h x s.term s.log := by
  obtain ⟨h1, h2, _⟩ := hn.ldr hr
  exact ⟨hg, h1, h2.symm, hx, lead_term hn.ok hr, hn.ok.t1, hn.ok.log, hn.ok.len, (hn.ldn hr).2.2.2⟩

section
variable {n x : Nat} {T : Int} {L : List Ent} {C K : Prop} {g : Gp} {js : List Nat} {f : Nat → Msg}

/-- One message of theirs is told. -/
theorem Cv.step {j : Nat} (h : Cv n x T L C K g (j :: js) f) : ∃ js' f', Cv n x T L C K g.tell1 js' f' ∧ muS L (g.tell1.node x) f' js' + 1 ≤ muS L (g.node x) f (j :: js) := by
  have hJ1 := h.j.tell1
  have hJ := h.j
  obtain ⟨hh, hj⟩ := hJ
  obtain ⟨hjn, hjx⟩ := h.mem j (List.mem_cons_self ..)
  obtain ⟨hnj, hnd⟩ := List.nodup_cons.1 h.nd
  obtain ⟨_, hnx⟩ := hj.node h.xn
  obtain ⟨_, hnt⟩ := hj.node hjn
  have hT := lead_tm hj.gi hnx h.xn h.role
  rw [h.term, h.log] at hT
  have hlen := hj.len
  have hLd := hnx.ok.lead h.role
  obtain ⟨ld1, ld2, ld3, ld4⟩ := hnx.ldn h.role
  have hnxj := ld3 j hjn hjx
  have hnhi : (g.node x).nx j ≤ L.length + 1 := by have := hLd.hi j (by rw [hnx.fn]; exact hjn); unfold Nd.last at this; rw [h.log] at this; exact this
  have hmtl : (g.node x).mt j ≤ L.length := by have := hLd.mm j (by rw [hnx.fn]; exact hjn); unfold Nd.last at this; rw [h.log] at this; exact this
  have hmtA : (g.node x).mt j ≤ hh.A T j := by have := (hnx.ldr h.role).2.2 j hjn; rw [h.term] at this; exact this
  have hlast : (g.node x).last = L.length := by unfold Nd.last; rw [h.log]
  have hL60 := hT.len
  have hw : g.way = f j :: js.map f := h.way
  have hjl : js.length + 1 ≤ 7 := h.jl
  have hrl : (js.map f).length ≤ 6 := by rw [List.length_map]; omega
  have hmem' : ∀ i ∈ js, i < n ∧ i ≠ x := fun i hi => h.mem i (List.mem_cons_of_mem _ hi)
  have hne : ∀ i ∈ js, i ≠ j := fun i hi hx => hnj (hx ▸ hi)
  -- js.map does not see a change at j
  have hmap : ∀ m : Msg, js.map (upd f j m) = js.map f := fun m => List.map_congr_left fun i hi => by unfold upd; rw [if_neg (hne i hi)]
  have hndj : (js ++ [j]).Nodup := by
    rw [List.nodup_append]
    exact ⟨hnd, by simp, fun a ha b hb => by rw [List.mem_singleton.1 hb]; exact hne a ha⟩
  -- what a reply does to the leader
  have fin : ∀ (s' : Nd) (out : List Msg), (f j).dst = (x : Int) → (f j).kind = 5 → Fo x T (g.node j) → (g.node x).step (f j) = (s', out) → s'.role = 3 → s'.term = T → s'.log = L →
      (∀ i, i ≠ j → s'.nx i = (g.node x).nx i ∧ s'.mt i = (g.node x).mt i ∧ s'.hd i = (g.node x).hd i) →
      (C → Counted s') → (K → s'.commit = L.length) → ((out = [] ∧ Dn x T L K s' (g.node j) j) ∨ (∃ c, c ≤ 60 ∧ (K → c = L.length) ∧ out = [apM x T L c j (s'.nx j - 1)] ∧ (s'.nx j - s'.mt j - 1) + (L.length - s'.mt j) + 1 ≤ ((g.node x).nx j - (g.node x).mt j - 1) + (L.length - (g.node x).mt j))) →
      ∃ js' f', Cv n x T L C K g.tell1 js' f' ∧ muS L (g.tell1.node x) f' js' + 1 ≤ muS L (g.node x) f (j :: js) := by
    intro s' out hdst hk5 hF hst r1 r2 r3 hoth hcC hcK hout
    have hol : out.length ≤ 1 := by rcases hout with ⟨h1, _⟩ | ⟨c, _, _, h1, _⟩ <;> rw [h1] <;> simp
    obtain ⟨e1, e2, e3, e4⟩ := tell1_at (d := x) hw hdst (by rw [hlen]; exact h.xn) hst (by omega)
    have ej := e3 j hjx
    have htm : ∀ i, i < n → (g.tell1.node i).term ≤ T := by
      intro i hi
      by_cases hix : i = x
      · rw [hix, e2, r2]; exact Int.le_refl _
      · rw [e3 i hix]; exact h.tm i hi
    have hpd : ∀ i ∈ js, Pend x T L K (g.tell1.node x) (g.tell1.node i) i (f i) := by
      intro i hi
      obtain ⟨q1, q2, _⟩ := hoth i (hne i hi)
      rw [e2, e3 i (hmem' i hi).2]
      have := h.pend i (List.mem_cons_of_mem _ hi)
      unfold Pend at this ⊢
      rw [q1, q2]; exact this
    have hdn : ∀ i, i < n → i ≠ x → i ≠ j → i ∉ js → Dn x T L K (g.tell1.node x) (g.tell1.node i) i := by
      intro i hi hix hij hin
      obtain ⟨q1, q2, q3⟩ := hoth i hij
      have := h.done i hi hix fun hx => by
        rcases List.mem_cons.1 hx with hx | hx
        · exact hij hx
        · exact hin hx
      rw [e2, e3 i hix]
      exact ⟨this.fo, this.com, this.log, by rw [q3]; exact this.hd, by rw [q2]; exact this.mt, by rw [q1]; exact this.nx⟩
    rcases hout with ⟨h1, hD⟩ | ⟨c, hc, hcl, h1, hmu⟩
    · refine ⟨js, f, ⟨hJ1, by rw [e1, h1]; simp, hnd, by omega, hmem', h.xn, by rw [e2]; exact r1, by rw [e2]; exact r2, by rw [e2]; exact r3, htm, by rw [e2]; exact hcC, by rw [e2]; exact hcK, hpd, fun i hi hix hin => ?_⟩, ?_⟩
      · by_cases hij : i = j
        · rw [hij, e2, ej]; exact hD
        · exact hdn i hi hix hij hin
      · rw [muS_congr (s := g.node x) (f := f) js fun i hi => by
          obtain ⟨q1, q2, _⟩ := hoth i (hne i hi)
          rw [e2]; exact ⟨q1, q2, rfl⟩]
        simp only [muS]
        rw [mu5 hk5]
        omega
    · refine ⟨js ++ [j], upd f j (apM x T L c j (s'.nx j - 1)), ⟨hJ1, ?_, hndj, by simp; omega, ?_, h.xn, by rw [e2]; exact r1, by rw [e2]; exact r2, by rw [e2]; exact r3, htm, by rw [e2]; exact hcC, by rw [e2]; exact hcK, ?_, fun i hi hix hin => ?_⟩, ?_⟩
      · rw [e1, List.map_append, hmap, h1]
        simp [upd]
      · intro i hi
        rcases List.mem_append.1 hi with hi | hi
        · exact hmem' i hi
        · rw [List.mem_singleton.1 hi]; exact ⟨hjn, hjx⟩
      · intro i hi
        rcases List.mem_append.1 hi with hi | hi
        · have : upd f j (apM x T L c j (s'.nx j - 1)) i = f i := by unfold upd; rw [if_neg (hne i hi)]
          rw [this]; exact hpd i hi
        · rw [List.mem_singleton.1 hi]
          have : upd f j (apM x T L c j (s'.nx j - 1)) j = apM x T L c j (s'.nx j - 1) := by unfold upd; rw [if_pos rfl]
          rw [this, e2]
          exact .inl ⟨c, hc, hcl, rfl⟩
      · exact hdn i hi hix (fun hx => hin (List.mem_append.2 (.inr (by rw [hx]; exact List.mem_singleton.2 rfl)))) (fun hx => hin (List.mem_append.2 (.inl hx)))
      · rw [muS_append, muS_congr (s := g.node x) (f := f) js fun i hi => by
          obtain ⟨q1, q2, _⟩ := hoth i (hne i hi)
          rw [e2]; exact ⟨q1, q2, by unfold upd; rw [if_neg (hne i hi)]⟩]
        have h5 : upd f j (apM x T L c j (s'.nx j - 1)) j = apM x T L c j (s'.nx j - 1) := by unfold upd; rw [if_pos rfl]
        have h6 : (apM x T L c j (s'.nx j - 1)).kind = 4 := rfl
        simp only [muS]
        rw [h5, mu5 hk5, mu4 h6, e2]
        omega
  rcases h.pend j (List.mem_cons_self ..) with ⟨c, hc, hcK, hm⟩ | ⟨hF, hm, hlogj⟩ | ⟨hF, a, ha, hm, hmt⟩
  · -- an Append
    rw [hm] at hw
    obtain ⟨t', hF', hr⟩ := fol_app (c := c) (k := (g.node x).nx j - 1) hT hnt hjx (h.tm j hjn) hc (by omega)
    have key : ∃ m', (g.node j).step (apM x T L c j ((g.node x).nx j - 1)) = (t', [m']) ∧ m'.kind = 5 ∧ Pend x T L K (g.node x) t' j m' := by
      rcases hr with ⟨h1, h2, h2c⟩ | ⟨a, h1, h2, h3⟩
      · refine ⟨_, h1, rfl, .inr (.inl ⟨hF', rfl, fun hle => ⟨h2 hle, fun hK => ?_⟩⟩)⟩
        have h9 := (com_pre hT (h.tm j hjn) hnt.com).1
        rw [h2c, hcK hK]
        omega
      · exact ⟨_, h2, rfl, .inr (.inr ⟨hF', a, h1, rfl, by omega⟩)⟩
    obtain ⟨m', hst, hk5, hP⟩ := key
    obtain ⟨e1, e2, e3, e4⟩ := tell1_at (d := j) hw rfl (by rw [hlen]; exact hjn) hst (by simp; omega)
    have ex := e3 x (fun hx => hjx hx.symm)
    refine ⟨js ++ [j], upd f j m', ⟨hJ1, ?_, hndj, by simp; omega, ?_, h.xn, by rw [ex]; exact h.role, by rw [ex]; exact h.term, by rw [ex]; exact h.log, ?_, by rw [ex]; exact h.cm, by rw [ex]; exact h.kc, ?_, ?_⟩, ?_⟩
    · rw [e1, List.map_append, hmap]
      simp [upd]
    · intro i hi
      rcases List.mem_append.1 hi with hi | hi
      · exact hmem' i hi
      · rw [List.mem_singleton.1 hi]; exact ⟨hjn, hjx⟩
    · intro i hi
      by_cases hij : i = j
      · rw [hij, e2, hF'.term]; exact Int.le_refl _
      · rw [e3 i hij]; exact h.tm i hi
    · intro i hi
      rw [ex]
      rcases List.mem_append.1 hi with hi | hi
      · rw [e3 i (hne i hi)]
        have : upd f j m' i = f i := by unfold upd; rw [if_neg (hne i hi)]
        rw [this]
        exact h.pend i (List.mem_cons_of_mem _ hi)
      · rw [List.mem_singleton.1 hi, e2]
        have : upd f j m' j = m' := by unfold upd; rw [if_pos rfl]
        rw [this]; exact hP
    · intro i hi hix hin
      have hij : i ≠ j := fun hx => hin (List.mem_append.2 (.inr (by rw [hx]; exact List.mem_singleton.2 rfl)))
      rw [ex, e3 i hij]
      refine h.done i hi hix fun hx => ?_
      rcases List.mem_cons.1 hx with hx | hx
      · exact hij hx
      · exact hin (List.mem_append.2 (.inl hx))
    · rw [ex, muS_append, muS_congr (s := g.node x) (f := f) js fun i hi => ⟨rfl, rfl, by unfold upd; rw [if_neg (hne i hi)]⟩]
      have h1 : upd f j m' j = m' := by unfold upd; rw [if_pos rfl]
      have h2 : (f j).kind = 4 := by rw [hm]; rfl
      simp only [muS]
      rw [h1, mu5 hk5, mu4 h2]
      omega
  · -- it was taken
    have hsd := soundM_apR (n := n) (x := x) (k := min ((g.node x).nx j - 1 + 3) L.length) hT.t0 hT.t1 hjn hjx (by omega) true
    have hy := ldr_yes hnx.fid hnx.fn h.role h.term hsd
    generalize he : min ((g.node x).nx j - 1 + 3) L.length = e at *
    rw [← hm, hlast] at hy
    by_cases hc : e ≤ L.length ∧ (g.node x).mt j < e
    · rw [if_pos hc] at hy
      have hcom : (((g.node x).hears j).matched j e).commit ≤ 60 := by
        have h5 := hnx.ok.hears (f := j) (by rw [hnx.fn]; exact hjn)
        have h6 : Ok ({ (g.node x).hears j with mt := upd ((g.node x).hears j).mt j e, nx := upd ((g.node x).hears j).nx j (e + 1) } : Nd) := by
          refine { h5 with lead := fun h3 => ?_ }
          have hl := h5.lead h3
          exact ⟨hl.last, hl.pos, hl.sz, le_upd hl.lo (by omega), upd_le hl.hi (by show e + 1 ≤ (g.node x).last + 1; omega), upd_le hl.mm (by show e ≤ (g.node x).last; omega)⟩
        have h7 := h6.count
        exact Nat.le_trans h7.com h7.len
      refine fin _ _ (by rw [hm]; rfl) (by rw [hm]; rfl) hF hy h.role h.term h.log (fun i hi => ?_) ?_ ?_ ?_
      · refine ⟨?_, ?_, ?_⟩
        · show upd (g.node x).nx j (e + 1) i = _; unfold upd; rw [if_neg hi]
        · show upd (g.node x).mt j e i = _; unfold upd; rw [if_neg hi]
        · show upd (g.node x).hd j true i = _; unfold upd; rw [if_neg hi]
      · intro _
        exact counted_count _
      · intro hK
        have h9 := count_last (s := ({ (g.node x).hears j with mt := upd ((g.node x).hears j).mt j e, nx := upd ((g.node x).hears j).nx j (e + 1) } : Nd)) (by show (g.node x).commit = (g.node x).last; rw [h.kc hK, hlast])
        have h10 : (((g.node x).hears j).matched j e).commit = (g.node x).last := h9
        rw [h10, hlast]
      · have q1 : (((g.node x).hears j).matched j e).nx j = e + 1 := by show upd (g.node x).nx j (e + 1) j = _; unfold upd; rw [if_pos rfl]
        have q2 : (((g.node x).hears j).matched j e).mt j = e := by show upd (g.node x).mt j e j = _; unfold upd; rw [if_pos rfl]
        have q3 : (((g.node x).hears j).matched j e).hd j = true := by show upd (g.node x).hd j true j = _; unfold upd; rw [if_pos rfl]
        by_cases hel : e + 1 ≤ L.length
        · right
          rw [if_pos hel]
          refine ⟨_, hcom, fun hK => ?_, ?_, ?_⟩
          · have h9 := count_last (s := ({ (g.node x).hears j with mt := upd ((g.node x).hears j).mt j e, nx := upd ((g.node x).hears j).nx j (e + 1) } : Nd)) (by show (g.node x).commit = (g.node x).last; rw [h.kc hK, hlast])
            have h10 : (((g.node x).hears j).matched j e).commit = (g.node x).last := h9
            rw [h10, hlast]
          · rw [appendTo_eq (s := ((g.node x).hears j).matched j e) (x := x) (T := T) (L := L) hnx.fid h.term h.log j (by rw [q1]; omega)]
          · rw [q1, q2]; omega
        · left
          rw [if_neg hel]
          exact ⟨rfl, hF, (hlogj (by omega)).2, (hlogj (by omega)).1, q3, by rw [q2]; omega, by rw [q1]; omega⟩
    · rw [if_neg hc] at hy
      refine fin _ _ (by rw [hm]; rfl) (by rw [hm]; rfl) hF hy h.role h.term h.log (fun i hi => ?_) ?_ ?_ ?_
      · refine ⟨rfl, rfl, ?_⟩
        show upd (g.node x).hd j true i = _; unfold upd; rw [if_neg hi]
      · exact h.cm
      · exact h.kc
      · left
        refine ⟨rfl, hF, (hlogj (by omega)).2, (hlogj (by omega)).1, ?_, ?_, ?_⟩
        · show upd (g.node x).hd j true j = _; unfold upd; rw [if_pos rfl]
        · show (g.node x).mt j = _; omega
        · show (g.node x).nx j = _; omega
  · -- it was refused
    have hsd := soundM_apR (n := n) (x := x) (k := a) hT.t0 hT.t1 hjn hjx (by omega) false
    have hy := ldr_no hnx.fid hnx.fn h.role h.term hsd
    rw [← hm] at hy
    have q1 : (((g.node x).hears j).backs j a).nx j = max ((g.node x).mt j + 1) (min ((g.node x).nx j - 1) (a + 1)) := by show upd (g.node x).nx j (max ((g.node x).mt j + 1) (min ((g.node x).nx j - 1) (a + 1))) j = _; unfold upd; rw [if_pos rfl]
    have q2 : (((g.node x).hears j).backs j a).mt j = (g.node x).mt j := rfl
    refine fin _ _ (by rw [hm]; rfl) (by rw [hm]; rfl) hF hy h.role h.term h.log (fun i hi => ?_) h.cm h.kc (.inr ⟨(((g.node x).hears j).backs j a).commit, ?_, h.kc, ?_, ?_⟩)
    · refine ⟨?_, rfl, ?_⟩
      · show upd (g.node x).nx j _ i = _; unfold upd; rw [if_neg hi]
      · show upd (g.node x).hd j true i = _; unfold upd; rw [if_neg hi]
    · show (g.node x).commit ≤ 60
      have := hnx.ok.com; have := hnx.ok.len; omega
    · rw [appendTo_eq (s := ((g.node x).hears j).backs j a) (x := x) (T := T) (L := L) hnx.fid h.term h.log j (by rw [q1]; omega)]
    · rw [q1, q2]; omega

/-- All of it is told. -/
theorem Cv.run : ∀ (N : Nat) (g : Gp) (js : List Nat) (f : Nat → Msg), Cv n x T L C K g js f → muS L (g.node x) f js ≤ N → ∃ k f', k ≤ N ∧ Cv n x T L C K (g.tells k) [] f' := by
  intro N
  induction N with
  | zero =>
    intro g js f h hN
    cases js with
    | nil => exact ⟨0, f, Nat.le_refl _, h⟩
    | cons j js =>
      obtain ⟨_, _, _, h2⟩ := h.step
      omega
  | succ N ih =>
    intro g js f h hN
    cases js with
    | nil => exact ⟨0, f, Nat.zero_le _, h⟩
    | cons j js =>
      obtain ⟨js', f', h1, h2⟩ := h.step
      obtain ⟨k, f2, hk, h3⟩ := ih _ _ _ h1 (by omega)
      refine ⟨1 + k, f2, by omega, ?_⟩
      rw [tells_add]
      exact h3
end

end Go.Proofs.Yteiecbkfganhnaa

namespace Go.Proofs.Yteiecbkfganhnaa

/-- A node is told of one message behind the other. -/
def Nd.steps (s : Nd) : List Msg → Nd × List Msg
  | [] => (s, [])
  | m :: ms => (((s.step m).1.steps ms).1, (s.step m).2 ++ ((s.step m).1.steps ms).2)

/-- Messages to different nodes. -/
theorem fan_out (m : Nat → Msg) (r : Nat → Nd × List Msg) : ∀ (js : List Nat) (g : Gp) (t : List Msg), js.Nodup → (∀ j ∈ js, j < g.nodes.length ∧ (m j).dst = (j : Int) ∧ (g.node j).step (m j) = r j ∧ (r j).2.length ≤ 1) → g.way = js.map m ++ t → js.length + t.length ≤ 100 →
    (g.tells js.length).way = t ++ js.flatMap (fun j => (r j).2) ∧ (∀ i, i ∉ js → (g.tells js.length).node i = g.node i) ∧ (∀ j ∈ js, (g.tells js.length).node j = (r j).1) ∧ (g.tells js.length).nodes.length = g.nodes.length := by
  intro js
  induction js with
  | nil => intro g t _ _ hw _; exact ⟨by show g.way = _; simpa using hw, fun i _ => rfl, fun j hj => (by cases hj), rfl⟩
  | cons j js ih =>
    intro g t hnd hjs hw hlen
    obtain ⟨hnj, hnd'⟩ := List.nodup_cons.1 hnd
    obtain ⟨h1, h2, h3, h4⟩ := hjs j (List.mem_cons_self ..)
    simp only [List.length_cons] at hlen
    obtain ⟨e1, e2, e3, e4⟩ := tell1_at (m := m j) (r := js.map m ++ t) (out := (r j).2) (t' := (r j).1) (d := j) (by rw [hw]; rfl) h2 h1 h3 (by simp; omega)
    obtain ⟨r1, r2, r3, r4⟩ := ih g.tell1 (t ++ (r j).2) hnd' (fun i hi => by
      obtain ⟨q1, q2, q3, q4⟩ := hjs i (List.mem_cons_of_mem _ hi)
      exact ⟨by rw [e4]; exact q1, q2, by rw [e3 i (fun hx => hnj (hx ▸ hi))]; exact q3, q4⟩) (by rw [e1, List.append_assoc]) (by simp; omega)
    have hsplit : g.tells (j :: js).length = g.tell1.tells js.length := by
      rw [List.length_cons, Nat.add_comm, tells_add]; rfl
    rw [hsplit]
    refine ⟨by rw [r1, List.append_assoc]; rfl, fun i hi => ?_, fun i hi => ?_, by rw [r4, e4]⟩
    · rw [r2 i (fun hx => hi (List.mem_cons_of_mem _ hx)), e3 i (fun hx => hi (hx ▸ List.mem_cons_self ..))]
    · rcases List.mem_cons.1 hi with rfl | hi'
      · rw [r2 _ hnj, e2]
      · exact r3 i hi'

/-- Messages to one node. -/
theorem fan_in {x : Nat} : ∀ (ms : List Msg) (g : Gp) (t : List Msg), x < g.nodes.length → (∀ m ∈ ms, m.dst = (x : Int)) → g.way = ms ++ t → ms.length + t.length + ((g.node x).steps ms).2.length ≤ 200 →
    (g.tells ms.length).way = t ++ ((g.node x).steps ms).2 ∧ (g.tells ms.length).node x = ((g.node x).steps ms).1 ∧ (∀ i, i ≠ x → (g.tells ms.length).node i = g.node i) ∧ (g.tells ms.length).nodes.length = g.nodes.length := by
  intro ms
  induction ms with
  | nil => intro g t _ _ hw _; exact ⟨by show g.way = t ++ []; simpa using hw, rfl, fun i _ => rfl, rfl⟩
  | cons m ms ih =>
    intro g t hx hd hw hlen
    have hlen' : ms.length + 1 + t.length + (((g.node x).step m).2.length + (((g.node x).step m).1.steps ms).2.length) ≤ 200 := by
      have h1 : ((g.node x).steps (m :: ms)).2.length = ((g.node x).step m).2.length + (((g.node x).step m).1.steps ms).2.length := by
        show (((g.node x).step m).2 ++ (((g.node x).step m).1.steps ms).2).length = _
        rw [List.length_append]
      rw [h1] at hlen
      simpa using hlen
    obtain ⟨e1, e2, e3, e4⟩ := tell1_at (m := m) (r := ms ++ t) (out := ((g.node x).step m).2) (t' := ((g.node x).step m).1) (d := x) (by rw [hw]; rfl) (hd m (List.mem_cons_self ..)) hx rfl (by simp; omega)
    obtain ⟨r1, r2, r3, r4⟩ := ih g.tell1 (t ++ ((g.node x).step m).2) (by rw [e4]; exact hx) (fun q hq => hd q (List.mem_cons_of_mem _ hq)) (by rw [e1, List.append_assoc]) (by rw [e2]; simp; omega)
    have hsplit : g.tells (m :: ms).length = g.tell1.tells ms.length := by
      rw [List.length_cons, Nat.add_comm, tells_add]; rfl
    rw [hsplit]
    rw [e2] at r1 r2
    exact ⟨by rw [r1, List.append_assoc]; rfl, r2, fun i hi => by rw [r3 i hi, e3 i hi], by rw [r4, e4]⟩

/-- A question of node i, whose log is L. -/
def rqM (i : Nat) (kind τ : Int) (L : List Ent) (j : Nat) : Msg := { kind := kind, src := i, dst := j, term := τ, index := L.length, logTerm := Nd.termAt L L.length, commit := 0, ents := [], granted := false }
/-- The answer. -/
def rpM (kind : Int) (j i : Nat) (τ : Int) (b : Bool) : Msg := { kind := kind, src := j, dst := i, term := τ, index := 0, logTerm := 0, commit := 0, ents := [], granted := b }

theorem request_eq {s : Nd} {i : Nat} {L : List Ent} (h1 : s.id = i) (h2 : s.log = L) (kind τ : Int) : s.request kind τ = s.others.map (rqM i kind τ L) := by
  unfold Nd.request
  refine List.map_congr_left fun j _ => ?_
  show ({ kind := kind, src := (s.id : Int), dst := (j : Int), term := τ, index := (s.log.length : Int), logTerm := Nd.termAt s.log s.log.length, commit := 0, ents := [], granted := false } : Msg) = _
  rw [h1, h2]; rfl

theorem soundM_rq {n i j : Nat} {kind τ : Int} {L : List Ent} (hi : i < n) (hji : j ≠ i) (hk : 0 ≤ kind ∧ kind ≤ 5) (h0 : 1 ≤ τ) (h1 : τ ≤ 1000000) (hL : okE L 1 1000000 = true) (hl : L.length ≤ 60) : soundM (rqM i kind τ L j) j n = true := by
  have h2 := termAt_bounds hL (by decide) L.length
  have hne : ¬ (i : Int) = (j : Int) := by omega
  simp only [soundM, rqM, numOk, srcOk, okE, Bool.and_eq_true, decide_eq_true_eq, List.length_nil]
  refine ⟨⟨⟨⟨⟨⟨⟨⟨⟨?_, ?_⟩, ?_⟩, ?_⟩, ?_, ?_⟩, ?_⟩, ?_⟩, ⟨?_, ?_⟩, ⟨?_, ?_⟩, ?_, ?_⟩, ?_⟩, ?_⟩
  all_goals first | (refine decide_eq_true ?_; first | exact hne | omega) | trivial | omega

theorem soundM_rp {n i j : Nat} {kind τ : Int} (hj : j < n) (hji : j ≠ i) (hk : 0 ≤ kind ∧ kind ≤ 5) (h0 : 1 ≤ τ) (h1 : τ ≤ 1000000) (b : Bool) : soundM (rpM kind j i τ b) i n = true := by
  have hne : ¬ (j : Int) = (i : Int) := by omega
  simp only [soundM, rpM, numOk, srcOk, okE, Bool.and_eq_true, decide_eq_true_eq, List.length_nil]
  refine ⟨⟨⟨⟨⟨⟨⟨⟨⟨?_, ?_⟩, ?_⟩, ?_⟩, ?_, ?_⟩, ?_⟩, ?_⟩, ⟨?_, ?_⟩, ⟨?_, ?_⟩, ?_, ?_⟩, ?_⟩, ?_⟩
  all_goals first | (refine decide_eq_true ?_; first | exact hne | omega) | trivial | omega

theorem step0 {s : Nd} {m : Msg} {i n : Nat} (h1 : s.id = i) (h2 : s.n = n) (hs : soundM m i n = true) (hk : m.kind = 0) : s.step m = s.stepAsk m := by
  unfold Nd.step
  rw [h1, h2, if_pos hs, if_pos hk]
theorem step1 {s : Nd} {m : Msg} {i n : Nat} (h1 : s.id = i) (h2 : s.n = n) (hs : soundM m i n = true) (hk : m.kind = 1) : s.step m = s.stepAskReply m := by
  unfold Nd.step
  rw [h1, h2, if_pos hs, if_neg (by rw [hk]; decide), if_pos hk]
theorem step2 {s : Nd} {m : Msg} {i n : Nat} (h1 : s.id = i) (h2 : s.n = n) (hs : soundM m i n = true) (hk : m.kind = 2) : s.step m = s.stepVote m := by
  unfold Nd.step
  rw [h1, h2, if_pos hs, if_neg (by rw [hk]; decide), if_neg (by rw [hk]; decide), if_pos hk]
theorem step3 {s : Nd} {m : Msg} {i n : Nat} (h1 : s.id = i) (h2 : s.n = n) (hs : soundM m i n = true) (hk : m.kind = 3) : s.step m = s.stepVoteReply m := by
  unfold Nd.step
  rw [h1, h2, if_pos hs, if_neg (by rw [hk]; decide), if_neg (by rw [hk]; decide), if_neg (by rw [hk]; decide), if_pos hk]

/-- Would t say yes to an Ask for the term τ of a node whose log is L? -/
def AskYes (t : Nd) (τ : Int) (L : List Ent) : Prop := t.term < τ ∧ (t.termOf t.last < Nd.termAt L L.length ∨ (Nd.termAt L L.length = t.termOf t.last ∧ t.last ≤ L.length)) ∧ t.knows = false

theorem asGood_iff {t : Nd} {i j : Nat} {k τ : Int} {L : List Ent} : t.asGood (rqM i k τ L j) = true ↔ (t.termOf t.last < Nd.termAt L L.length ∨ (Nd.termAt L L.length = t.termOf t.last ∧ t.last ≤ L.length)) := by
  unfold Nd.asGood
  simp only [Bool.or_eq_true, Bool.and_eq_true, decide_eq_true_eq]
  show (_ < Nd.termAt L L.length ∨ Nd.termAt L L.length = _ ∧ (t.last : Int) ≤ (L.length : Int)) ↔ _
  have : ((t.last : Int) ≤ (L.length : Int)) ↔ t.last ≤ L.length := by omega
  rw [this]

/-- The answer to an Ask. -/
def askOut (t : Nd) (i j : Nat) (τ : Int) (L : List Ent) [Decidable (AskYes t τ L)] : List Msg :=
  if AskYes t τ L then [rpM 1 j i τ true] else if t.term = 0 then [] else [rpM 1 j i t.term false]

open Classical in
theorem fol_ask {n i j : Nat} {τ : Int} {L : List Ent} {t : Nd} (h1 : t.id = j) (h2 : t.n = n) (hs : soundM (rqM i 0 τ L j) j n = true) : t.step (rqM i 0 τ L j) = (t, askOut t i j τ L) := by
  rw [step0 h1 h2 hs rfl]
  unfold Nd.stepAsk askOut AskYes
  by_cases hy : t.term < τ ∧ (t.termOf t.last < Nd.termAt L L.length ∨ (Nd.termAt L L.length = t.termOf t.last ∧ t.last ≤ L.length)) ∧ t.knows = false
  · rw [if_pos (show t.term < (rqM i 0 τ L j).term ∧ t.asGood (rqM i 0 τ L j) = true ∧ t.knows = false from ⟨hy.1, asGood_iff.2 hy.2.1, hy.2.2⟩), if_pos hy]
    show (t, [({ kind := 1, src := (t.id : Int), dst := (i : Int), term := τ, index := 0, logTerm := 0, commit := 0, ents := [], granted := true } : Msg)]) = _
    rw [h1]; rfl
  · rw [if_neg (show ¬ (t.term < (rqM i 0 τ L j).term ∧ t.asGood (rqM i 0 τ L j) = true ∧ t.knows = false) from fun hx => hy ⟨hx.1, asGood_iff.1 hx.2.1, hx.2.2⟩), if_neg hy]
    split
    · rfl
    · show (t, [({ kind := 1, src := (t.id : Int), dst := (i : Int), term := t.term, index := 0, logTerm := 0, commit := 0, ents := [], granted := false } : Msg)]) = _
      rw [h1]; rfl

/-- What a Vote may change. -/
structure Vo (τ : Int) (t t' : Nd) : Prop where
  lo : t.term ≤ t'.term
  hi : t'.term ≤ max t.term τ
  leads : t'.leads = t.leads ∨ t'.leads = -1
  role : t'.role = t.role ∨ t'.role = 0
  log : t'.log = t.log
  pat : t'.pat = t.pat

theorem Vo.refl (τ : Int) (t : Nd) : Vo τ t t := ⟨Int.le_refl _, by omega, .inl rfl, .inl rfl, rfl, rfl⟩

theorem fol_vote {n i j : Nat} {τ : Int} {L : List Ent} {t : Nd} (h1 : t.id = j) (h2 : t.n = n) (hs : soundM (rqM i 2 τ L j) j n = true) :
    ∃ t' out, t.step (rqM i 2 τ L j) = (t', out) ∧ Vo τ t t' ∧ (out = [] ∨ ∃ b, out = [rpM 3 j i (max t.term τ) b]) ∧ (AskYes t τ L → out = [rpM 3 j i τ true]) := by
  rw [step2 h1 h2 hs rfl]
  unfold Nd.stepVote
  by_cases hk : t.term < (rqM i 2 τ L j).term ∧ t.knows = true
  · rw [if_pos hk]
    refine ⟨_, _, rfl, Vo.refl _ _, .inl rfl, fun hy => ?_⟩
    have := hy.2.2
    rw [hk.2] at this; cases this
  · rw [if_neg hk]
    have hterm : (t.voteS (rqM i 2 τ L j)).term = max t.term τ := by
      unfold Nd.voteS
      split
      · rw [follow_term]; rfl
      · rename_i hx
        have hx' : ¬ t.term < τ := hx
        omega
    have hid : (t.voteS (rqM i 2 τ L j)).id = j := by
      unfold Nd.voteS
      split
      · rw [follow_id]; exact h1
      · exact h1
    have hV : Vo τ t (t.voteS (rqM i 2 τ L j)) := by
      unfold Nd.voteS
      split
      · rename_i hx
        have hx' : t.term < τ := hx
        unfold Nd.follow
        rw [if_pos hx]
        exact ⟨by show t.term ≤ τ; omega, by show τ ≤ max t.term τ; omega, .inr rfl, .inr rfl, rfl, rfl⟩
      · exact Vo.refl _ _
    refine ⟨_, _, rfl, ?_, .inr ⟨(t.voteS (rqM i 2 τ L j)).votes (rqM i 2 τ L j), ?_⟩, fun hy => ?_⟩
    · split
      · exact ⟨hV.lo, hV.hi, hV.leads, hV.role, hV.log, hV.pat⟩
      · exact hV
    · show [({ kind := 3, src := ((t.voteS (rqM i 2 τ L j)).id : Int), dst := (i : Int), term := (t.voteS (rqM i 2 τ L j)).term, index := 0, logTerm := 0, commit := 0, ents := [], granted := _ } : Msg)] = _
      rw [hid, hterm]; rfl
    · have hv : t.voteS (rqM i 2 τ L j) = { t with role := 0, leads := -1, term := τ, vote := -1 } := by
        unfold Nd.voteS
        rw [if_pos (show t.term < (rqM i 2 τ L j).term from hy.1)]
        unfold Nd.follow
        rw [if_pos (show t.term < (rqM i 2 τ L j).term from hy.1)]
        rfl
      have hvo : (t.voteS (rqM i 2 τ L j)).votes (rqM i 2 τ L j) = true := by
        rw [hv]
        unfold Nd.votes
        simp only [Bool.and_eq_true, Bool.or_eq_true, decide_eq_true_eq]
        exact ⟨⟨rfl, trivial, .inl trivial⟩, asGood_iff.2 hy.2.1⟩
      rw [hvo]
      show [({ kind := 3, src := ((t.voteS (rqM i 2 τ L j)).id : Int), dst := (i : Int), term := (t.voteS (rqM i 2 τ L j)).term, index := 0, logTerm := 0, commit := 0, ents := [], granted := true } : Msg)] = _
      rw [hid, hterm]
      have := hy.1
      rw [show max t.term τ = τ by omega]; rfl

end Go.Proofs.Yteiecbkfganhnaa

namespace Go.Proofs.Yteiecbkfganhnaa

/-- What stays of a node while it is told of answers. -/
structure Sta (s s' : Nd) : Prop where
  id : s'.id = s.id
  n : s'.n = s.n
  log : s'.log = s.log
  pat : s'.pat = s.pat

theorem Sta.refl (s : Nd) : Sta s s := ⟨rfl, rfl, rfl, rfl⟩
theorem Sta.trans {a b c : Nd} (h : Sta a b) (k : Sta b c) : Sta a c := ⟨k.id.trans h.id, k.n.trans h.n, k.log.trans h.log, k.pat.trans h.pat⟩
theorem Sta.follow (s : Nd) (t l : Int) : Sta s (s.follow t l) := ⟨follow_id _ _ _, follow_n _ _ _, follow_log _ _ _, by unfold Nd.follow; split <;> rfl⟩

/-- An answer to node i, one of n. -/
def Ans (n i : Nat) (m : Msg) : Prop := ∃ k j τ b, (k = 1 ∨ k = 3) ∧ m = rpM k j i τ b ∧ j < n ∧ j ≠ i ∧ 1 ≤ τ ∧ τ ≤ 1000000

theorem steps_cons {s t : Nd} {m : Msg} {ms o : List Msg} (h : s.step m = (t, o)) : s.steps (m :: ms) = ((t.steps ms).1, o ++ (t.steps ms).2) := by
  show (((s.step m).1.steps ms).1, (s.step m).2 ++ ((s.step m).1.steps ms).2) = _
  rw [h]

/-- It is set back. -/
structure Bck (s s' : Nd) (ms : List Msg) (B : Int) : Prop where
  sta : Sta s s'
  role : s'.role = 0
  leads : s'.leads = -1
  lo : s.term ≤ s'.term
  all : ∀ m ∈ ms, m.granted = false → m.term ≤ s'.term
  hi : s'.term ≤ B

theorem fold0 {n i : Nat} {B : Int} : ∀ (ms : List Msg) (s : Nd), s.id = i → s.n = n → s.role = 0 → s.leads = -1 → s.term ≤ B → (∀ m ∈ ms, Ans n i m ∧ ((m.kind = 1 ∧ m.granted = true) ∨ m.term ≤ B)) →
    (s.steps ms).2 = [] ∧ Bck s (s.steps ms).1 ms B := by
  intro ms
  induction ms with
  | nil => intro s _ _ h3 h4 h5 _; exact ⟨rfl, Sta.refl _, h3, h4, Int.le_refl _, fun m hm => (by cases hm), h5⟩
  | cons m ms ih =>
    intro s h1 h2 h3 h4 h5 hms
    obtain ⟨⟨k, j, τ, b, hk, rfl, hj, hji, ht0, ht1⟩, hB⟩ := hms _ (List.mem_cons_self ..)
    have hrest : ∀ m ∈ ms, Ans n i m ∧ ((m.kind = 1 ∧ m.granted = true) ∨ m.term ≤ B) := fun q hq => hms q (List.mem_cons_of_mem _ hq)
    have hs := soundM_rp (n := n) (kind := k) hj hji (by omega) ht0 ht1 b
    -- what it does with this one
    have key : ∃ t, s.step (rpM k j i τ b) = (t, []) ∧ Sta s t ∧ t.role = 0 ∧ t.leads = -1 ∧ s.term ≤ t.term ∧ t.term ≤ B ∧ (b = false → τ ≤ t.term) := by
      have hfol : s.term < τ → τ ≤ B → Sta s (s.follow τ (-1)) ∧ (s.follow τ (-1)).role = 0 ∧ (s.follow τ (-1)).leads = -1 ∧ s.term ≤ (s.follow τ (-1)).term ∧ (s.follow τ (-1)).term ≤ B ∧ (b = false → τ ≤ (s.follow τ (-1)).term) := by
        intro hlt hle
        refine ⟨Sta.follow _ _ _, fol_role _ _ _, by unfold Nd.follow; split <;> rfl, ?_, ?_, fun _ => ?_⟩ <;> rw [follow_term] <;> omega
      rcases hk with rfl | rfl
      · rw [step1 h1 h2 hs rfl]
        unfold Nd.stepAskReply
        cases b with
        | false =>
          rw [if_pos (show (rpM 1 j i τ false).granted = false from rfl)]
          by_cases hlt : s.term < τ
          · rw [if_pos (show s.term < (rpM 1 j i τ false).term from hlt)]
            have hle : τ ≤ B := by
              rcases hB with hx | hx
              · cases hx.2
              · exact hx
            exact ⟨_, rfl, hfol hlt hle⟩
          · rw [if_neg (show ¬ s.term < (rpM 1 j i τ false).term from hlt)]
            exact ⟨_, rfl, Sta.refl _, h3, h4, Int.le_refl _, h5, fun _ => by omega⟩
        | true =>
          rw [if_neg (show ¬ (rpM 1 j i τ true).granted = false from fun hx => by cases hx), if_neg (show ¬ (s.role = 1 ∧ _) from fun hx => by have := hx.1; rw [h3] at this; cases this)]
          exact ⟨_, rfl, Sta.refl _, h3, h4, Int.le_refl _, h5, fun hx => by cases hx⟩
      · rw [step3 h1 h2 hs rfl]
        unfold Nd.stepVoteReply
        by_cases hlt : s.term < τ
        · rw [if_pos (show s.term < (rpM 3 j i τ b).term from hlt)]
          have hle : τ ≤ B := by
            rcases hB with hx | hx
            · have h9 : (3 : Int) = 1 := hx.1
              omega
            · exact hx
          exact ⟨_, rfl, hfol hlt hle⟩
        · rw [if_neg (show ¬ s.term < (rpM 3 j i τ b).term from hlt), if_neg (show ¬ (_ ∧ s.role = 2 ∧ _) from fun hx => by have := hx.2.1; rw [h3] at this; cases this)]
          exact ⟨_, rfl, Sta.refl _, h3, h4, Int.le_refl _, h5, fun _ => by omega⟩
    obtain ⟨t, e1, e2, e3, e4, e5, e6, e7⟩ := key
    obtain ⟨r1, r2⟩ := ih t (e2.id.trans h1) (e2.n.trans h2) e3 e4 e6 hrest
    rw [steps_cons e1]
    refine ⟨by show [] ++ (t.steps ms).2 = []; rw [r1]; rfl, e2.trans r2.sta, r2.role, r2.leads, Int.le_trans e5 r2.lo, fun q hq hqg => ?_, r2.hi⟩
    rcases List.mem_cons.1 hq with rfl | hq
    · exact Int.le_trans (e7 hqg) r2.lo
    · exact r2.all q hq hqg

/-- Answers to an Ask for the term t + 1. -/
def Ans1 (n i : Nat) (t : Int) (m : Msg) : Prop := ∃ j τ b, m = rpM 1 j i τ b ∧ j < n ∧ j ≠ i ∧ 1 ≤ τ ∧ τ ≤ 1000000 ∧ (b = true → τ = t + 1)

theorem Ans1.ans {n i : Nat} {t B : Int} {m : Msg} (h : Ans1 n i t m) (hB : m.granted = false → m.term ≤ B) : Ans n i m ∧ ((m.kind = 1 ∧ m.granted = true) ∨ m.term ≤ B) := by
  obtain ⟨j, τ, b, rfl, h1, h2, h3, h4, _⟩ := h
  refine ⟨⟨1, j, τ, b, .inl rfl, rfl, h1, h2, h3, h4⟩, ?_⟩
  cases b with
  | true => exact .inl ⟨rfl, rfl⟩
  | false => exact .inr (hB rfl)

/-- A candidate is told of old answers to its Ask. -/
theorem foldC {n i : Nat} {t B : Int} : ∀ (ms : List Msg) (s : Nd), s.id = i → s.n = n → s.role = 2 → (∀ m ∈ ms, Ans1 n i t m) → (∀ m ∈ ms, m.granted = false → m.term ≤ B) →
    (s.steps ms).2 = [] ∧ (((s.steps ms).1 = s ∧ ∀ m ∈ ms, m.granted = false → m.term ≤ s.term) ∨ (s.term < (s.steps ms).1.term ∧ Bck s (s.steps ms).1 ms B)) := by
  intro ms
  induction ms with
  | nil => intro s _ _ _ _ _; exact ⟨rfl, .inl ⟨rfl, fun m hm => by cases hm⟩⟩
  | cons m ms ih =>
    intro s h1 h2 h3 hms hB
    obtain ⟨j, τ, b, rfl, hj, hji, ht0, ht1, _⟩ := hms _ (List.mem_cons_self ..)
    have hrest : ∀ m ∈ ms, Ans1 n i t m := fun q hq => hms q (List.mem_cons_of_mem _ hq)
    have hrB : ∀ m ∈ ms, m.granted = false → m.term ≤ B := fun q hq => hB q (List.mem_cons_of_mem _ hq)
    have hs := soundM_rp (n := n) (kind := 1) hj hji (by omega) ht0 ht1 b
    have hst := step1 h1 h2 hs rfl
    unfold Nd.stepAskReply at hst
    cases b with
    | false =>
      rw [if_pos (show (rpM 1 j i τ false).granted = false from rfl)] at hst
      by_cases hlt : s.term < τ
      · rw [if_pos (show s.term < (rpM 1 j i τ false).term from hlt)] at hst
        have hle : τ ≤ B := hB _ (List.mem_cons_self ..) rfl
        have ht : (s.follow τ (-1)).term = τ := by rw [follow_term]; omega
        have hS := Sta.follow s τ (-1)
        obtain ⟨r1, r2⟩ := fold0 (n := n) (i := i) (B := B) ms (s.follow τ (-1)) (hS.id.trans h1) (hS.n.trans h2) (fol_role _ _ _) (by unfold Nd.follow; split <;> rfl) (by omega) fun q hq => (hrest q hq).ans (hrB q hq)
        rw [steps_cons hst]
        refine ⟨by show [] ++ _ = []; rw [show ((s.follow (rpM 1 j i τ false).term (-1)).steps ms).2 = [] from r1]; rfl, .inr ⟨?_, hS.trans r2.sta, r2.role, r2.leads, ?_, fun q hq hqg => ?_, r2.hi⟩⟩
        · have := r2.lo; show s.term < ((s.follow τ (-1)).steps ms).1.term; omega
        · have := r2.lo; show s.term ≤ ((s.follow τ (-1)).steps ms).1.term; omega
        · rcases List.mem_cons.1 hq with rfl | hq
          · have := r2.lo; show τ ≤ ((s.follow τ (-1)).steps ms).1.term; omega
          · exact r2.all q hq hqg
      · rw [if_neg (show ¬ s.term < (rpM 1 j i τ false).term from hlt)] at hst
        obtain ⟨r1, r2⟩ := ih s h1 h2 h3 hrest hrB
        rw [steps_cons hst]
        refine ⟨by show [] ++ _ = []; rw [r1]; rfl, ?_⟩
        rcases r2 with ⟨q1, q2⟩ | ⟨q1, q2⟩
        · refine .inl ⟨q1, fun q hq hqg => ?_⟩
          rcases List.mem_cons.1 hq with rfl | hq
          · show τ ≤ s.term; omega
          · exact q2 q hq hqg
        · refine .inr ⟨q1, q2.sta, q2.role, q2.leads, q2.lo, fun q hq hqg => ?_, q2.hi⟩
          rcases List.mem_cons.1 hq with rfl | hq
          · show τ ≤ (s.steps ms).1.term; omega
          · exact q2.all q hq hqg
    | true =>
      rw [if_neg (show ¬ (rpM 1 j i τ true).granted = false from fun hx => by cases hx), if_neg (show ¬ (s.role = 1 ∧ _) from fun hx => by have := hx.1; rw [h3] at this; cases this)] at hst
      obtain ⟨r1, r2⟩ := ih s h1 h2 h3 hrest hrB
      rw [steps_cons hst]
      refine ⟨by show [] ++ _ = []; rw [r1]; rfl, ?_⟩
      rcases r2 with ⟨q1, q2⟩ | ⟨q1, q2⟩
      · refine .inl ⟨q1, fun q hq hqg => ?_⟩
        rcases List.mem_cons.1 hq with rfl | hq
        · cases hqg
        · exact q2 q hq hqg
      · refine .inr ⟨q1, q2.sta, q2.role, q2.leads, q2.lo, fun q hq hqg => ?_, q2.hi⟩
        rcases List.mem_cons.1 hq with rfl | hq
        · cases hqg
        · exact q2.all q hq hqg

/-- Yes of node j is among them. -/
def Yes (ms : List Msg) (j : Nat) : Prop := ∃ m ∈ ms, m.granted = true ∧ m.src = (j : Int)

/-- One that asks is told of the answers. -/
inductive AskEnd (n i : Nat) (B : Int) (s s' : Nd) (ms out : List Msg) : Prop where
  | wait (h : out = []) (sta : Sta s s') (role : s'.role = 1) (leads : s'.leads = -1) (term : s'.term = s.term) (all : ∀ m ∈ ms, m.granted = false → m.term ≤ s.term) (yes : ∀ j, (s.gr j = true ∨ Yes ms j) → s'.gr j = true) (maj : s'.maj (cnt s'.gr) = false)
  | back (h : out = []) (b : Bck s s' ms B) (lt : s.term < s'.term)
  | stood (h : out = s.others.map (rqM i 2 (s.term + 1) s.log)) (G : Nat → Bool) (maj : s.maj (cnt G) = true) (yes : ∀ j, G j = true → s.gr j = true ∨ Yes ms j) (sta : Sta s s') (role : s'.role = 2) (leads : s'.leads = -1) (term : s'.term = s.term + 1) (gr : s'.gr = upd none7 i true) (all : ∀ m ∈ ms, m.granted = false → m.term ≤ s.term + 1)
  | fell (h : out = s.others.map (rqM i 2 (s.term + 1) s.log)) (b : Bck s s' ms B) (lt : s.term + 1 < s'.term)

theorem upd_true {g : Nat → Bool} {i j : Nat} (h : g j = true) : upd g i true j = true := by
  unfold upd; split
  · rfl
  · exact h
theorem upd_self {g : Nat → Bool} {i : Nat} : upd g i true i = true := by unfold upd; rw [if_pos rfl]

theorem foldA {n i : Nat} {B : Int} (hi7 : i < 7) (hn2 : 2 ≤ n) : ∀ (ms : List Msg) (s : Nd), s.id = i → s.n = n → s.role = 1 → s.leads = -1 → s.term ≤ B → s.maj (cnt s.gr) = false → (∀ m ∈ ms, Ans1 n i s.term m) → (∀ m ∈ ms, m.granted = false → m.term ≤ B) →
    AskEnd n i B s (s.steps ms).1 ms (s.steps ms).2 := by
  intro ms
  induction ms with
  | nil => intro s _ _ h3 h4 _ h6 _ _; exact .wait rfl (Sta.refl _) h3 h4 rfl (fun m hm => by cases hm) (fun j hj => hj.elim id fun ⟨m, hm, _⟩ => by cases hm) h6
  | cons m ms ih =>
    intro s h1 h2 h3 h4 h5 h6 hms hB
    obtain ⟨j, τ, b, rfl, hj, hji, ht0, ht1, hbt⟩ := hms _ (List.mem_cons_self ..)
    have hrest : ∀ m ∈ ms, Ans1 n i s.term m := fun q hq => hms q (List.mem_cons_of_mem _ hq)
    have hrB : ∀ m ∈ ms, m.granted = false → m.term ≤ B := fun q hq => hB q (List.mem_cons_of_mem _ hq)
    have hs := soundM_rp (n := n) (kind := 1) hj hji (by omega) ht0 ht1 b
    have hst := step1 h1 h2 hs rfl
    have hmono : ∀ {k : Nat}, Yes ms k → Yes (rpM 1 j i τ b :: ms) k := fun ⟨q, hq, hr⟩ => ⟨q, List.mem_cons_of_mem _ hq, hr⟩
    unfold Nd.stepAskReply at hst
    cases b with
    | false =>
      rw [if_pos (show (rpM 1 j i τ false).granted = false from rfl)] at hst
      by_cases hlt : s.term < τ
      · rw [if_pos (show s.term < (rpM 1 j i τ false).term from hlt)] at hst
        have hle : τ ≤ B := hB _ (List.mem_cons_self ..) rfl
        have ht : (s.follow τ (-1)).term = τ := by rw [follow_term]; omega
        have hS := Sta.follow s τ (-1)
        obtain ⟨r1, r2⟩ := fold0 (n := n) (i := i) (B := B) ms (s.follow τ (-1)) (hS.id.trans h1) (hS.n.trans h2) (fol_role _ _ _) (by unfold Nd.follow; split <;> rfl) (by omega) fun q hq => (hrest q hq).ans (hrB q hq)
        rw [steps_cons hst]
        refine .back (by show [] ++ _ = []; rw [show ((s.follow (rpM 1 j i τ false).term (-1)).steps ms).2 = [] from r1]; rfl) ⟨hS.trans r2.sta, r2.role, r2.leads, ?_, fun q hq hqg => ?_, r2.hi⟩ ?_
        · have := r2.lo; show s.term ≤ ((s.follow τ (-1)).steps ms).1.term; omega
        · rcases List.mem_cons.1 hq with rfl | hq
          · have := r2.lo; show τ ≤ ((s.follow τ (-1)).steps ms).1.term; omega
          · exact r2.all q hq hqg
        · have := r2.lo; show s.term < ((s.follow τ (-1)).steps ms).1.term; omega
      · rw [if_neg (show ¬ s.term < (rpM 1 j i τ false).term from hlt)] at hst
        have r := ih s h1 h2 h3 h4 h5 h6 hrest hrB
        rw [steps_cons hst]
        cases r with
        | wait h sta role leads term all yes maj =>
          refine .wait (by show [] ++ _ = []; rw [h]; rfl) sta role leads term (fun q hq hqg => ?_) (fun k hk => ?_) maj
          · rcases List.mem_cons.1 hq with rfl | hq
            · show τ ≤ s.term; omega
            · exact all q hq hqg
          · refine yes k (hk.imp id ?_)
            rintro ⟨q, hq, hqg, hqs⟩
            rcases List.mem_cons.1 hq with rfl | hq
            · cases hqg
            · exact ⟨q, hq, hqg, hqs⟩
        | back h b lt =>
          refine .back (by show [] ++ _ = []; rw [h]; rfl) ⟨b.sta, b.role, b.leads, b.lo, fun q hq hqg => ?_, b.hi⟩ lt
          rcases List.mem_cons.1 hq with rfl | hq
          · show τ ≤ (s.steps ms).1.term; omega
          · exact b.all q hq hqg
        | stood h G maj yes sta role leads term gr all =>
          refine .stood (by show [] ++ _ = _; rw [h]; rfl) G maj (fun k hk => (yes k hk).imp id hmono) sta role leads term gr fun q hq hqg => ?_
          rcases List.mem_cons.1 hq with rfl | hq
          · show τ ≤ s.term + 1; omega
          · exact all q hq hqg
        | fell h b lt =>
          refine .fell (by show [] ++ _ = _; rw [h]; rfl) ⟨b.sta, b.role, b.leads, b.lo, fun q hq hqg => ?_, b.hi⟩ lt
          rcases List.mem_cons.1 hq with rfl | hq
          · show τ ≤ (s.steps ms).1.term; omega
          · exact b.all q hq hqg
    | true =>
      have hτ := hbt rfl
      have hsrc : (rpM 1 j i τ true).src.toNat = j := by show ((j : Int)).toNat = j; omega
      rw [if_neg (show ¬ (rpM 1 j i τ true).granted = false from fun hx => by cases hx), if_pos (show s.role = 1 ∧ (rpM 1 j i τ true).term = s.term + 1 from ⟨h3, hτ⟩), hsrc] at hst
      have hyj : Yes (rpM 1 j i τ true :: ms) j := ⟨_, List.mem_cons_self .., rfl, rfl⟩
      have hg1 : ∀ k, (s.addGrant j).gr k = true → s.gr k = true ∨ k = j := by
        intro k hk
        have hk' : upd s.gr j true k = true := hk
        unfold upd at hk'
        split at hk'
        · exact .inr ‹_›
        · exact .inl hk'
      by_cases hmaj : (s.addGrant j).maj (cnt (s.addGrant j).gr) = true
      · rw [if_pos hmaj] at hst
        have hone : ¬ ((s.addGrant j).standS).maj (cnt ((s.addGrant j).standS).gr) = true := by
          have e1 : ((s.addGrant j).standS).gr = upd none7 i true := by show upd none7 s.id true = _; rw [h1]
          rw [e1, cnt1 _ hi7]
          have e2 : ((s.addGrant j).standS).n = n := h2
          unfold Nd.maj
          rw [e2]
          simp; omega
        unfold Nd.stand at hst
        rw [if_neg hone] at hst
        have hreq : ((s.addGrant j).standS).request 2 ((s.addGrant j).standS).term = s.others.map (rqM i 2 (s.term + 1) s.log) := request_eq (s := (s.addGrant j).standS) h1 rfl _ _
        rw [hreq] at hst
        have hgr : ((s.addGrant j).standS).gr = upd none7 i true := by show upd none7 s.id true = _; rw [h1]
        obtain ⟨r1, r2⟩ := foldC (n := n) (i := i) (t := s.term) (B := B) ms ((s.addGrant j).standS) h1 h2 rfl hrest hrB
        rw [steps_cons hst]
        have hout : s.others.map (rqM i 2 (s.term + 1) s.log) ++ (((s.addGrant j).standS).steps ms).2 = s.others.map (rqM i 2 (s.term + 1) s.log) := by rw [r1, List.append_nil]
        have hyes : ∀ k, (s.addGrant j).gr k = true → s.gr k = true ∨ Yes (rpM 1 j i τ true :: ms) k := by
          intro k hk
          rcases hg1 k hk with h9 | h9
          · exact .inl h9
          · rw [h9]; exact .inr hyj
        rcases r2 with ⟨q1, q2⟩ | ⟨q1, q2⟩
        · rw [q1]
          refine .stood hout (s.addGrant j).gr hmaj hyes ⟨rfl, rfl, rfl, rfl⟩ rfl rfl rfl hgr fun q hq hqg => ?_
          rcases List.mem_cons.1 hq with rfl | hq
          · cases hqg
          · exact q2 q hq hqg
        · have q1' : s.term + 1 < (((s.addGrant j).standS).steps ms).1.term := q1
          refine .fell hout ⟨Sta.trans (b := (s.addGrant j).standS) ⟨rfl, rfl, rfl, rfl⟩ q2.sta, q2.role, q2.leads, ?_, fun q hq hqg => ?_, q2.hi⟩ q1'
          · show s.term ≤ (((s.addGrant j).standS).steps ms).1.term; omega
          · rcases List.mem_cons.1 hq with rfl | hq
            · cases hqg
            · exact q2.all q hq hqg
      · rw [if_neg hmaj] at hst
        have r := ih (s.addGrant j) h1 h2 h3 h4 h5 (by simpa using hmaj) hrest hrB
        rw [steps_cons hst]
        have hS : Sta s (s.addGrant j) := ⟨rfl, rfl, rfl, rfl⟩
        cases r with
        | wait h sta role leads term all yes maj =>
          refine .wait (by show [] ++ _ = []; rw [h]; rfl) (hS.trans sta) role leads term (fun q hq hqg => ?_) (fun k hk => ?_) maj
          · rcases List.mem_cons.1 hq with rfl | hq
            · cases hqg
            · exact all q hq hqg
          · rcases hk with hk | ⟨q, hq, hqg, hqs⟩
            · exact yes k (.inl (upd_true hk))
            · rcases List.mem_cons.1 hq with rfl | hq
              · have hkj : (j : Int) = (k : Int) := hqs
                have hkj' : k = j := by omega
                rw [hkj']; exact yes j (.inl upd_self)
              · exact yes k (.inr ⟨q, hq, hqg, hqs⟩)
        | back h b lt =>
          refine .back (by show [] ++ _ = []; rw [h]; rfl) ⟨hS.trans b.sta, b.role, b.leads, b.lo, fun q hq hqg => ?_, b.hi⟩ lt
          rcases List.mem_cons.1 hq with rfl | hq
          · cases hqg
          · exact b.all q hq hqg
        | stood h G maj yes sta role leads term gr all =>
          refine .stood (by show [] ++ _ = _; rw [h]; rfl) G maj (fun k hk => ?_) (hS.trans sta) role leads term gr fun q hq hqg => ?_
          · rcases yes k hk with h9 | h9
            · rcases hg1 k h9 with h8 | h8
              · exact .inl h8
              · rw [h8]; exact .inr hyj
            · exact .inr (hmono h9)
          · rcases List.mem_cons.1 hq with rfl | hq
            · cases hqg
            · exact all q hq hqg
        | fell h b lt =>
          refine .fell (by show [] ++ _ = _; rw [h]; rfl) ⟨hS.trans b.sta, b.role, b.leads, b.lo, fun q hq hqg => ?_, b.hi⟩ lt
          rcases List.mem_cons.1 hq with rfl | hq
          · cases hqg
          · exact b.all q hq hqg

/-- Answers to a Vote in the term t. -/
def Ans3 (n i : Nat) (t : Int) (m : Msg) : Prop := ∃ j b, m = rpM 3 j i t b ∧ j < n ∧ j ≠ i ∧ 1 ≤ t ∧ t ≤ 1000000

/-- A leader is told of votes. -/
theorem foldL {n i : Nat} : ∀ (ms : List Msg) (s : Nd), s.id = i → s.n = n → s.role = 3 → (∀ m ∈ ms, Ans3 n i s.term m) → s.steps ms = (s, []) := by
  intro ms
  induction ms with
  | nil => intro s _ _ _ _; rfl
  | cons m ms ih =>
    intro s h1 h2 h3 hms
    obtain ⟨j, b, rfl, hj, hji, ht0, ht1⟩ := hms _ (List.mem_cons_self ..)
    have hs := soundM_rp (n := n) (kind := 3) hj hji (by omega) ht0 ht1 b
    have hst := step3 h1 h2 hs rfl
    unfold Nd.stepVoteReply at hst
    rw [if_neg (show ¬ s.term < (rpM 3 j i s.term b).term by show ¬ s.term < s.term; omega), if_neg (show ¬ (_ ∧ s.role = 2 ∧ _) from fun hx => by have := hx.2.1; rw [h3] at this; cases this)] at hst
    rw [steps_cons hst, ih s h1 h2 h3 fun q hq => hms q (List.mem_cons_of_mem _ hq)]
    rfl

theorem lead_facts (s : Nd) : s.leadS.role = 3 ∧ s.leadS.term = s.term ∧ s.leadS.pat = s.pat := by
  refine ⟨?_, ?_, ?_⟩
  · show s.leadA.leadB.role = _; unfold Nd.leadB; split <;> rfl
  · show s.leadA.leadB.term = _; unfold Nd.leadB; split <;> rfl
  · show s.leadA.leadB.pat = _; unfold Nd.leadB; split <;> rfl

/-- A candidate is told of the votes. -/
theorem foldV {n i : Nat} : ∀ (ms : List Msg) (s : Nd), s.id = i → s.n = n → s.role = 2 → s.leads = -1 → s.maj (cnt s.gr) = false → (∀ m ∈ ms, Ans3 n i s.term m) →
    ((s.steps ms).2 = [] ∧ Sta s (s.steps ms).1 ∧ (s.steps ms).1.role = 2 ∧ (s.steps ms).1.leads = -1 ∧ (s.steps ms).1.term = s.term ∧ (s.steps ms).1.maj (cnt (s.steps ms).1.gr) = false ∧ (∀ j, (s.gr j = true ∨ Yes ms j) → (s.steps ms).1.gr j = true)) ∨
    ((s.steps ms).1.role = 3 ∧ (s.steps ms).1.term = s.term ∧ (s.steps ms).2 = (s.steps ms).1.appends) := by
  intro ms
  induction ms with
  | nil => intro s _ _ h3 h4 h6 _; exact .inl ⟨rfl, Sta.refl _, h3, h4, rfl, h6, fun j hj => hj.elim id fun ⟨m, hm, _⟩ => by cases hm⟩
  | cons m ms ih =>
    intro s h1 h2 h3 h4 h6 hms
    obtain ⟨j, b, rfl, hj, hji, ht0, ht1⟩ := hms _ (List.mem_cons_self ..)
    have hrest : ∀ m ∈ ms, Ans3 n i s.term m := fun q hq => hms q (List.mem_cons_of_mem _ hq)
    have hs := soundM_rp (n := n) (kind := 3) hj hji (by omega) ht0 ht1 b
    have hst := step3 h1 h2 hs rfl
    have hsrc : (rpM 3 j i s.term b).src.toNat = j := by show ((j : Int)).toNat = j; omega
    unfold Nd.stepVoteReply at hst
    rw [if_neg (show ¬ s.term < (rpM 3 j i s.term b).term by show ¬ s.term < s.term; omega), hsrc] at hst
    cases b with
    | false =>
      rw [if_neg (show ¬ ((rpM 3 j i s.term false).granted = true ∧ _) from fun hx => by cases hx.1)] at hst
      rw [steps_cons hst]
      rcases ih s h1 h2 h3 h4 h6 hrest with ⟨a1, a2, a3, a4, a5, a6, a7⟩ | ⟨a1, a2, a3⟩
      · refine .inl ⟨by show [] ++ _ = []; rw [a1]; rfl, a2, a3, a4, a5, a6, fun k hk => a7 k (hk.imp id ?_)⟩
        rintro ⟨q, hq, hqg, hqs⟩
        rcases List.mem_cons.1 hq with rfl | hq
        · cases hqg
        · exact ⟨q, hq, hqg, hqs⟩
      · exact .inr ⟨a1, a2, a3⟩
    | true =>
      rw [if_pos (show (rpM 3 j i s.term true).granted = true ∧ s.role = 2 ∧ (rpM 3 j i s.term true).term = s.term from ⟨rfl, h3, rfl⟩)] at hst
      by_cases hmaj : (s.addGrant j).maj (cnt (s.addGrant j).gr) = true
      · rw [if_pos hmaj] at hst
        have hst' : s.step (rpM 3 j i s.term true) = ((s.addGrant j).leadS, (s.addGrant j).leadS.appends) := hst
        obtain ⟨l1, l2, _⟩ := lead_facts (s.addGrant j)
        obtain ⟨l4, l5⟩ := lead_fix (s.addGrant j)
        have hl2 : (s.addGrant j).leadS.term = s.term := l2
        have hL := foldL (n := n) (i := i) ms (s.addGrant j).leadS (l4.trans h1) (l5.trans h2) l1 (by rw [hl2]; exact hrest)
        rw [steps_cons hst', hL]
        exact .inr ⟨l1, hl2, by show _ ++ [] = _; rw [List.append_nil]⟩
      · rw [if_neg hmaj] at hst
        rw [steps_cons hst]
        rcases ih (s.addGrant j) h1 h2 h3 h4 (by simpa using hmaj) hrest with ⟨a1, a2, a3, a4, a5, a6, a7⟩ | ⟨a1, a2, a3⟩
        · refine .inl ⟨by show [] ++ _ = []; rw [a1]; rfl, Sta.trans (b := s.addGrant j) ⟨rfl, rfl, rfl, rfl⟩ a2, a3, a4, a5, a6, fun k hk => ?_⟩
          rcases hk with hk | ⟨q, hq, hqg, hqs⟩
          · exact a7 k (.inl (upd_true hk))
          · rcases List.mem_cons.1 hq with rfl | hq
            · have hkj : (j : Int) = (k : Int) := hqs
              have hkj' : k = j := by omega
              rw [hkj']; exact a7 j (.inl upd_self)
            · exact a7 k (.inr ⟨q, hq, hqg, hqs⟩)
        · exact .inr ⟨a1, a2, a3⟩

end Go.Proofs.Yteiecbkfganhnaa

namespace Go.Proofs.Yteiecbkfganhnaa

theorem pat_follow (s : Nd) (t l : Int) : (s.follow t l).pat = s.pat := by unfold Nd.follow; split <;> rfl
theorem pat_stand (s : Nd) : s.stand.1.pat = s.pat := by
  unfold Nd.stand; split
  · exact (lead_facts _).2.2
  · rfl
theorem pat_ask (s : Nd) : s.ask.1.pat = s.pat := by
  unfold Nd.ask; split
  · exact pat_stand _
  · rfl
theorem pat_tick (s : Nd) : s.tick.1.pat = s.pat := by
  unfold Nd.tick; split
  · unfold Nd.tickLeader; split
    · split
      · rfl
      · exact pat_follow _ _ _
    · rfl
  · split
    · rfl
    · exact pat_ask _
theorem pat_step (s : Nd) (m : Msg) : (s.step m).1.pat = s.pat := by
  unfold Nd.step
  split
  · split
    · unfold Nd.stepAsk; split
      · rfl
      · split <;> rfl
    · split
      · unfold Nd.stepAskReply; split
        · show (if _ then _ else _ : Nd).pat = _
          split
          · exact pat_follow _ _ _
          · rfl
        · split
          · split
            · exact pat_stand _
            · rfl
          · rfl
      · split
        · unfold Nd.stepVote; split
          · rfl
          · have hv : (s.voteS m).pat = s.pat := by
              unfold Nd.voteS; split
              · exact pat_follow _ _ _
              · rfl
            show (if _ then _ else _ : Nd).pat = _
            split
            · exact hv
            · exact hv
        · split
          · unfold Nd.stepVoteReply; split
            · exact pat_follow _ _ _
            · split
              · split
                · exact (lead_facts _).2.2
                · rfl
              · rfl
          · split
            · unfold Nd.stepAppend; split
              · rfl
              · split
                · rfl
                · split
                  · exact pat_follow _ _ _
                  · split
                    · exact pat_follow _ _ _
                    · exact pat_follow _ _ _
            · unfold Nd.stepAppendReply; split
              · exact pat_follow _ _ _
              · split
                · split
                  · split <;> rfl
                  · rfl
                · rfl
  · rfl

theorem fn_follow (s : Nd) (t l : Int) : (s.follow t l).n = s.n := by unfold Nd.follow; split <;> rfl
theorem fn_stand (s : Nd) : s.stand.1.n = s.n := by
  unfold Nd.stand; split
  · exact (lead_fix _).2
  · rfl
theorem fn_ask (s : Nd) : s.ask.1.n = s.n := by
  unfold Nd.ask; split
  · exact fn_stand _
  · rfl
theorem fn_tick (s : Nd) : s.tick.1.n = s.n := by
  unfold Nd.tick; split
  · unfold Nd.tickLeader; split
    · split
      · rfl
      · exact fn_follow _ _ _
    · rfl
  · split
    · rfl
    · exact fn_ask _
theorem step_n (s : Nd) (m : Msg) : (s.step m).1.n = s.n := by
  unfold Nd.step
  split
  · split
    · unfold Nd.stepAsk; split
      · rfl
      · split <;> rfl
    · split
      · unfold Nd.stepAskReply; split
        · show (if _ then _ else _ : Nd).n = _
          split
          · exact fn_follow _ _ _
          · rfl
        · split
          · split
            · exact fn_stand _
            · rfl
          · rfl
      · split
        · unfold Nd.stepVote; split
          · rfl
          · have hv : (s.voteS m).n = s.n := by
              unfold Nd.voteS; split
              · exact fn_follow _ _ _
              · rfl
            show (if _ then _ else _ : Nd).n = _
            split
            · exact hv
            · exact hv
        · split
          · unfold Nd.stepVoteReply; split
            · exact fn_follow _ _ _
            · split
              · split
                · exact (lead_fix _).2
                · rfl
              · rfl
          · split
            · unfold Nd.stepAppend; split
              · rfl
              · split
                · rfl
                · split
                  · exact fn_follow _ _ _
                  · split
                    · exact fn_follow _ _ _
                    · exact fn_follow _ _ _
            · unfold Nd.stepAppendReply; split
              · exact fn_follow _ _ _
              · split
                · split
                  · split <;> rfl
                  · rfl
                · rfl
  · rfl

theorem fi_follow (s : Nd) (t l : Int) : (s.follow t l).id = s.id := by unfold Nd.follow; split <;> rfl
theorem fi_stand (s : Nd) : s.stand.1.id = s.id := by
  unfold Nd.stand; split
  · exact (lead_fix _).1
  · rfl
theorem fi_ask (s : Nd) : s.ask.1.id = s.id := by
  unfold Nd.ask; split
  · exact fi_stand _
  · rfl
theorem fi_tick (s : Nd) : s.tick.1.id = s.id := by
  unfold Nd.tick; split
  · unfold Nd.tickLeader; split
    · split
      · rfl
      · exact fi_follow _ _ _
    · rfl
  · split
    · rfl
    · exact fi_ask _
theorem step_id (s : Nd) (m : Msg) : (s.step m).1.id = s.id := by
  unfold Nd.step
  split
  · split
    · unfold Nd.stepAsk; split
      · rfl
      · split <;> rfl
    · split
      · unfold Nd.stepAskReply; split
        · show (if _ then _ else _ : Nd).id = _
          split
          · exact fi_follow _ _ _
          · rfl
        · split
          · split
            · exact fi_stand _
            · rfl
          · rfl
      · split
        · unfold Nd.stepVote; split
          · rfl
          · have hv : (s.voteS m).id = s.id := by
              unfold Nd.voteS; split
              · exact fi_follow _ _ _
              · rfl
            show (if _ then _ else _ : Nd).id = _
            split
            · exact hv
            · exact hv
        · split
          · unfold Nd.stepVoteReply; split
            · exact fi_follow _ _ _
            · split
              · split
                · exact (lead_fix _).1
                · rfl
              · rfl
          · split
            · unfold Nd.stepAppend; split
              · rfl
              · split
                · rfl
                · split
                  · exact fi_follow _ _ _
                  · split
                    · exact fi_follow _ _ _
                    · exact fi_follow _ _ _
            · unfold Nd.stepAppendReply; split
              · exact fi_follow _ _ _
              · split
                · split
                  · split <;> rfl
                  · rfl
                · rfl
  · rfl

theorem node_did {g : Gp} {i : Nat} {r : Nd × List Msg} (j : Nat) : (g.did i r).node j = if j = i ∧ i < g.nodes.length then r.1 else g.node j := by
  show (g.nodes.set i r.1)[j]?.getD _ = _
  by_cases h : j = i ∧ i < g.nodes.length
  · rw [if_pos h, h.1, List.getElem?_set_self h.2]; rfl
  · rw [if_neg h]
    by_cases hj : j = i
    · have hl : g.nodes.length ≤ i := by
        rcases Nat.lt_or_ge i g.nodes.length with h1 | h1
        · exact absurd ⟨hj, h1⟩ h
        · exact h1
      rw [List.set_eq_of_length_le hl]; rfl
    · rw [List.getElem?_set_ne (fun hx => hj hx.symm)]; rfl

theorem pat_tell1 (g : Gp) (j : Nat) : (g.tell1.node j).pat = (g.node j).pat := by
  cases hw : g.way with
  | nil => rw [tell1_nil hw]
  | cons m r =>
    rw [tell1_cons hw]
    show (Gp.node (Gp.did _ m.dst.toNat _) j).pat = _
    rw [node_did]
    split
    · rename_i h
      rw [pat_step, h.1]; rfl
    · rfl

theorem pat_tells (g : Gp) (j k : Nat) : ((g.tells k).node j).pat = (g.node j).pat := by
  induction k with
  | zero => rfl
  | succ k ih => show ((g.tells k).tell1.node j).pat = _; rw [pat_tell1, ih]

theorem pat_turn (g : Gp) (i j : Nat) : ((g.turn i).node j).pat = (g.node j).pat := by
  show (((g.tick i).tells 3000).node j).pat = _
  rw [pat_tells]
  show (Gp.node (Gp.did _ i _) j).pat = _
  rw [node_did]
  split
  · rename_i h
    rw [pat_tick, h.1]
  · rfl

theorem turn_end {g : Gp} {i k : Nat} (hk : k ≤ 3000) (h : ((g.tick i).tells k).way = []) : g.turn i = (g.tick i).tells k := by
  have h1 := tells_done (g := g.tick i) h (3000 - k)
  rw [show k + (3000 - k) = 3000 by omega] at h1
  exact h1

/-- x leads, and all follow it with its log. -/
structure Syn (n x : Nat) (g : Gp) : Prop where
  j : J n g
  way : g.way = []
  xn : x < n
  role : (g.node x).role = 3
  fo : ∀ j, j < n → j ≠ x → (g.node j).term = (g.node x).term ∧ (g.node j).role = 0 ∧ (g.node j).leads = (x : Int) ∧ (g.node j).log = (g.node x).log ∧ (g.node x).hd j = true

theorem others_mem {s : Nd} {n x : Nat} (h1 : s.id = x) (h2 : s.n = n) (j : Nat) : j ∈ s.others ↔ (j < n ∧ j ≠ x) := by
  unfold Nd.others
  rw [List.mem_filter, List.mem_range, h2, h1]
  simp
theorem others_nodup (s : Nd) : s.others.Nodup := List.Nodup.sublist List.filter_sublist List.nodup_range
theorem others_le7 {s : Nd} {n : Nat} (h : s.n = n) (h7 : n ≤ 7) : s.others.length ≤ 7 := by
  have h1 : s.others.length ≤ (List.range s.n).length := List.length_filter_le _ _
  rw [List.length_range, h] at h1
  omega

theorem muS_le {L : List Ent} {s : Nd} {f : Nat → Msg} {b : Nat} (js : List Nat) (h : ∀ j ∈ js, mu L s j (f j) ≤ b) : muS L s f js ≤ b * js.length := by
  induction js with
  | nil => exact Nat.zero_le _
  | cons j js ih =>
    have h1 := h j (List.mem_cons_self ..)
    have h2 := ih fun i hi => h i (List.mem_cons_of_mem _ hi)
    simp only [muS, List.length_cons, Nat.mul_add, Nat.mul_one]
    omega

section
variable {n x : Nat} {g : Gp}

/-- A leader's Appends to all are told, and all that comes of them. -/
theorem lead_conv (C K : Prop) (hJ : J n g) (hx : x < n) (hr : (g.node x).role = 3) (hway : g.way = (g.node x).appends) (htm : ∀ j, j < n → (g.node j).term ≤ (g.node x).term) (hC : C → Counted (g.node x)) (hK : K → (g.node x).commit = (g.node x).log.length) :
    ∃ k, k ≤ 2000 ∧ Syn n x (g.tells k) ∧ ((g.tells k).node x).term = (g.node x).term ∧ ((g.tells k).node x).log = (g.node x).log ∧ (∀ j, j < n → j ≠ x → ((g.tells k).node j).elapsed = 0) ∧
      (C → Nd.termAt (g.node x).log (g.node x).log.length = (g.node x).term → ((g.tells k).node x).commit = (g.node x).log.length) ∧
      (K → ((g.tells k).node x).commit = (g.node x).log.length ∧ ∀ j, j < n → j ≠ x → ((g.tells k).node j).commit = (g.node x).log.length) := by
  have hJ0 := hJ
  obtain ⟨h, hj⟩ := hJ
  obtain ⟨_, hnx⟩ := hj.node hx
  have hL := hnx.ok.lead hr
  have hn7 := hj.n7
  obtain ⟨ld1, ld2, ld3, ld4⟩ := hnx.ldn hr
  have hmem := others_mem hnx.fid hnx.fn
  have hlo : ∀ j, j < n → 1 ≤ (g.node x).nx j := fun j hj' => hL.lo j (by rw [hnx.fn]; exact hj')
  have hcom : (g.node x).commit ≤ 60 := Nat.le_trans hnx.ok.com hnx.ok.len
  have hcv : Cv n x (g.node x).term (g.node x).log C K g (g.node x).others (g.node x).appendTo := by
    refine ⟨hJ0, hway, others_nodup _, others_le7 hnx.fn hn7, fun j hj' => (hmem j).1 hj', hx, hr, rfl, rfl, htm, hC, hK, fun j hj' => ?_, fun j h1 h2 h3 => absurd ((hmem j).2 ⟨h1, h2⟩) h3⟩
    obtain ⟨h1, h2⟩ := (hmem j).1 hj'
    exact .inl ⟨_, hcom, hK, appendTo_eq hnx.fid rfl rfl j (hlo j h1)⟩
  have hmu : muS (g.node x).log (g.node x) (g.node x).appendTo (g.node x).others ≤ 2000 := by
    have h1 := muS_le (L := (g.node x).log) (s := g.node x) (f := (g.node x).appendTo) (b := 242) (g.node x).others fun j hj' => by
      have h2 : (g.node x).nx j ≤ (g.node x).last + 1 := hL.hi j (by rw [hnx.fn]; exact ((hmem j).1 hj').1)
      have h3 : (g.node x).last ≤ 60 := hL.last
      rw [mu4 rfl]
      have h4 : (g.node x).log.length ≤ 60 := h3
      omega
    have h2 := others_le7 hnx.fn hn7
    omega
  obtain ⟨k, f', hk, hc⟩ := hcv.run 2000 g _ _ hmu
  refine ⟨k, hk, ⟨hc.j, hc.way, hx, hc.role, fun j h1 h2 => ?_⟩, hc.term, hc.log, fun j h1 h2 => (hc.done j h1 h2 (by simp)).fo.el, fun hC' ht => ?_, fun hK' => ⟨hc.kc hK', fun j h1 h2 => (hc.done j h1 h2 (by simp)).com hK'⟩⟩
  · have hd := hc.done j h1 h2 (by simp)
    exact ⟨by rw [hd.fo.term, hc.term], hd.fo.role, hd.fo.leads, by rw [hd.log, hc.log], hd.hd⟩
  · have hcnt := hc.cm hC'
    have hJ2 := hc.j
    obtain ⟨h', hj'⟩ := hJ2
    obtain ⟨_, hnx'⟩ := hj'.node hx
    obtain ⟨_, m2, _, _⟩ := hnx'.ldn hc.role
    have hle : ((g.tells k).node x).commit ≤ ((g.tells k).node x).last := hnx'.ok.com
    have hlast : ((g.tells k).node x).last = (g.node x).log.length := by show ((g.tells k).node x).log.length = _; rw [hc.log]
    rw [← hlast]
    apply Classical.byContradiction
    intro hne
    refine hcnt ((g.tells k).node x).last (by omega) (Nat.le_refl _) ⟨?_, ?_⟩
    · have hall : ∀ j, j < n → ((g.tells k).node x).mt j = ((g.tells k).node x).last := by
        intro j h1
        by_cases hjx : j = x
        · rw [hjx]; exact m2
        · rw [(hc.done j h1 hjx (by simp)).mt, hlast]
      have hhv : n ≤ ((g.tells k).node x).have_ ((g.tells k).node x).last := by
        unfold Nd.have_
        rw [hnx'.fn]
        have h1 : ∀ q, q ≤ n → q ≤ cntTo (fun i => decide (((g.tells k).node x).last ≤ ((g.tells k).node x).mt i)) q := by
          intro q
          induction q with
          | zero => intro _; exact Nat.zero_le _
          | succ q ih =>
            intro hq
            have := ih (by omega)
            show q + 1 ≤ cntTo _ q + b1 (decide _)
            rw [decide_eq_true (show ((g.tells k).node x).last ≤ ((g.tells k).node x).mt q by rw [hall q (by omega)]; exact Nat.le_refl _)]
            simp [b1]; omega
        exact h1 n (Nat.le_refl _)
      unfold Nd.maj
      rw [hnx'.fn]
      exact decide_eq_true (by omega)
    · show Nd.termAt ((g.tells k).node x).log ((g.tells k).node x).log.length = _
      rw [hc.log, hc.term]; exact ht

theorem tick_way (hway : g.way = []) {i : Nat} {o : List Msg} {s' : Nd} (hi : i < g.nodes.length) (ht : (g.node i).tick = (s', o)) (ho : o.length ≤ 200) : (g.tick i).way = o ∧ (g.tick i).node i = s' ∧ (∀ j, j ≠ i → (g.tick i).node j = g.node j) := by
  refine ⟨?_, ?_, fun j hj => ?_⟩
  · show g.way ++ (g.node i).tick.2.take (200 - g.way.length) = _
    rw [hway, ht]
    show [] ++ o.take 200 = o
    rw [List.take_of_length_le ho]; rfl
  · show (g.did i (g.node i).tick).node i = s'
    rw [node_did, if_pos ⟨rfl, hi⟩, ht]
  · show (g.did i (g.node i).tick).node j = _
    rw [node_did, if_neg (fun hx => hj hx.1)]

/-- A leader that sends ticks, and no term is greater: all follow it. -/
theorem lead_turn (C K : Prop) (hJ : J n g) (hway : g.way = []) (hx : x < n) (hr : (g.node x).role = 3) (hgo : ¬ (g.node x).pat ≤ (g.node x).elapsed + 1 ∨ (g.node x).maj (cnt (upd (g.node x).hd (g.node x).id true)) = true) (htm : ∀ j, j < n → (g.node j).term ≤ (g.node x).term) (hC : C → Counted (g.node x)) (hK : K → (g.node x).commit = (g.node x).log.length) :
    Syn n x (g.turn x) ∧ ((g.turn x).node x).term = (g.node x).term ∧ ((g.turn x).node x).log = (g.node x).log ∧ (∀ j, j < n → j ≠ x → ((g.turn x).node j).elapsed = 0) ∧
      (K → ((g.turn x).node x).commit = (g.node x).log.length ∧ ∀ j, j < n → j ≠ x → ((g.turn x).node j).commit = (g.node x).log.length) := by
  have hlen := hJ.len
  have hJt := hJ.tick hx
  obtain ⟨s', ht, e1, e2, e3, e4, e5, e6, e7⟩ : ∃ s' : Nd, (g.node x).tick = (s', s'.appends) ∧ s'.role = 3 ∧ s'.term = (g.node x).term ∧ s'.log = (g.node x).log ∧ s'.commit = (g.node x).commit ∧ s'.n = (g.node x).n ∧ s'.id = (g.node x).id ∧ (Counted (g.node x) → Counted s') := by
    unfold Nd.tick
    rw [if_pos hr]
    unfold Nd.tickLeader
    by_cases he : (g.node x).tickS.pat ≤ (g.node x).tickS.elapsed
    · rw [if_pos he]
      have hm : (g.node x).tickS.maj (cnt (upd (g.node x).tickS.hd (g.node x).tickS.id true)) = true := by
        rcases hgo with h1 | h1
        · exact absurd he h1
        · exact h1
      rw [if_pos hm]
      exact ⟨_, rfl, hr, rfl, rfl, rfl, rfl, rfl, fun h => h⟩
    · rw [if_neg he]
      exact ⟨_, rfl, hr, rfl, rfl, rfl, rfl, rfl, fun h => h⟩
  obtain ⟨hn7, hfn⟩ : n ≤ 7 ∧ (g.node x).n = n := by
    obtain ⟨h, hj⟩ := hJ
    exact ⟨hj.n7, (hj.node hx).2.fn⟩
  have hol : s'.appends.length ≤ 200 := by
    unfold Nd.appends
    rw [List.length_map]
    have := others_le7 (s := s') (e5.trans hfn) hn7
    omega
  obtain ⟨w1, w2, w3⟩ := tick_way hway (by rw [hlen]; exact hx) ht hol
  obtain ⟨k, hk, r1, r2, r3, r4, _, r6⟩ := lead_conv C K hJt hx (by rw [w2]; exact e1) (by rw [w1, w2]) (fun j hj => by
    rw [w2, e2]
    by_cases hjx : j = x
    · rw [hjx, w2, e2]; exact Int.le_refl _
    · rw [w3 j hjx]; exact htm j hj) (fun hC' => by rw [w2]; exact e7 (hC hC')) (fun hK' => by rw [w2, e4, e3]; exact hK hK')
  have hend := turn_end (g := g) (i := x) (k := k) (by omega) r1.way
  rw [hend]
  rw [w2] at r2 r3 r6
  rw [e3] at r6
  exact ⟨r1, r2.trans e2, r3.trans e3, r4, r6⟩

/-- All follow it, and it ticks. -/
theorem syn_turn (K : Prop) (h : Syn n x g) (hK : K → (g.node x).commit = (g.node x).log.length) :
    Syn n x (g.turn x) ∧ ((g.turn x).node x).term = (g.node x).term ∧ ((g.turn x).node x).log = (g.node x).log ∧ (∀ j, j < n → j ≠ x → ((g.turn x).node j).elapsed = 0) ∧
      (K → ((g.turn x).node x).commit = (g.node x).log.length ∧ ∀ j, j < n → j ≠ x → ((g.turn x).node j).commit = (g.node x).log.length) := by
  have hJ := h.j
  obtain ⟨hh, hj⟩ := hJ
  obtain ⟨_, hnx⟩ := hj.node h.xn
  refine lead_turn False K h.j h.way h.xn h.role (.inr ?_) (fun j hjn => ?_) (fun hf => hf.elim) hK
  · have h1 : n ≤ cnt (upd (g.node x).hd (g.node x).id true) := by
      refine cnt_full hj.n7 fun j hjn => ?_
      rw [hnx.fid]
      by_cases hjx : j = x
      · rw [hjx]; exact upd_self
      · exact upd_true (h.fo j hjn hjx).2.2.2.2
    unfold Nd.maj
    rw [hnx.fn]
    have := hj.n1
    exact decide_eq_true (by omega)
  · by_cases hjx : j = x
    · rw [hjx]; exact Int.le_refl _
    · rw [(h.fo j hjn hjx).1]; exact Int.le_refl _

end

end Go.Proofs.Yteiecbkfganhnaa

namespace Go.Proofs.Yteiecbkfganhnaa

/-- What became of a turn in which a node asked and does not lead: T the greatest term. -/
structure Asked (n i : Nat) (T : Int) (g g' : Gp) : Prop where
  j : J n g'
  way : g'.way = []
  role : (g'.node i).role ≠ 3
  term : (g'.node i).term = T
  leads : (g'.node i).leads = -1
  log : (g'.node i).log = (g.node i).log
  oth : ∀ j, j < n → j ≠ i → Vo T (g.node j) (g'.node j)
  same : (g.node i).term = T → ∀ j, j ≠ i → g'.node j = g.node j
  no : (g.node i).term = T → ∃ j, j < n ∧ j ≠ i ∧ ¬ AskYes (g.node j) (T + 1) (g.node i).log

section
variable {n i : Nat} {g : Gp} {T : Int}

theorem flat_len {r : Nat → List Msg} (h : ∀ j, (r j).length ≤ 1) (js : List Nat) : (js.flatMap r).length ≤ js.length := by
  induction js with
  | nil => simp
  | cons j js ih => rw [List.flatMap_cons, List.length_append, List.length_cons]; have := h j; omega

open Classical in
theorem askOut_len (t : Nd) (i j : Nat) (τ : Int) (L : List Ent) : (askOut t i j τ L).length ≤ 1 := by
  unfold askOut; split
  · simp
  · split <;> simp

open Classical in
theorem ask_turn (hJ : J n g) (hway : g.way = []) (hi : i < n) (h2 : 2 ≤ n) (hr : (g.node i).role ≠ 3) (hto : (g.node i).pat ≤ (g.node i).elapsed + 1) (hT : ∀ j, j < n → (g.node j).term ≤ T) (hz : ∃ z, z < n ∧ (g.node z).term = T) (hT1 : T ≤ 999990) :
    Syn n i (g.turn i) ∧ (∀ j, j < n → j ≠ i → ((g.turn i).node j).elapsed = 0) ∨ Asked n i T g (g.turn i) := by
  have hJt := hJ.tick hi
  have hlen := hJ.len
  have hJ0 := hJ
  obtain ⟨hh, hj⟩ := hJ0
  have hn7 := hj.n7
  have hni := (hj.node hi).2
  have hti := hT i hi
  have ht0 := hni.ok.t0
  obtain ⟨s1, hs1⟩ : ∃ s1, (g.node i).tickS.campaign 1 = s1 := ⟨_, rfl⟩
  have a1 : s1.id = i := by rw [← hs1]; exact hni.fid
  have a2 : s1.n = n := by rw [← hs1]; exact hni.fn
  have a3 : s1.role = 1 := by rw [← hs1]; rfl
  have a4 : s1.leads = -1 := by rw [← hs1]; rfl
  have a5 : s1.term = (g.node i).term := by rw [← hs1]; rfl
  have a6 : s1.log = (g.node i).log := by rw [← hs1]; rfl
  have a7 : s1.gr = upd none7 i true := by rw [← hs1]; show upd none7 (g.node i).id true = _; rw [hni.fid]
  have hone : s1.maj (cnt s1.gr) = false := by
    rw [a7, cnt1 _ (by omega)]
    unfold Nd.maj
    rw [a2]
    exact decide_eq_false (by omega)
  have htick : (g.node i).tick = (s1, s1.others.map (rqM i 0 ((g.node i).term + 1) (g.node i).log)) := by
    unfold Nd.tick
    rw [if_neg hr, if_neg (by omega)]
    unfold Nd.ask
    rw [hs1, if_neg (by rw [hone]; decide)]
    congr 1
    exact request_eq a1 a6 0 _
  generalize hL : (g.node i).log = L at *
  generalize ht : (g.node i).term = t at *
  obtain ⟨js, hjs⟩ : ∃ js, s1.others = js := ⟨_, rfl⟩
  have hmem : ∀ j, j ∈ js ↔ (j < n ∧ j ≠ i) := by rw [← hjs]; exact others_mem a1 a2
  have hnd : js.Nodup := by rw [← hjs]; exact others_nodup _
  have hjl : js.length ≤ 7 := by rw [← hjs]; exact others_le7 a2 hn7
  rw [hjs] at htick
  obtain ⟨w1, w2, w3⟩ := tick_way hway (by rw [hlen]; exact hi) htick (by rw [List.length_map]; omega)
  generalize hg0 : g.tick i = g0 at *
  have hlen0 : g0.nodes.length = n := hJt.len
  have hokL : okE L 1 1000000 = true := by rw [← hL]; exact okE_high hni.ok.log (by rw [ht]; omega)
  have hL60 : L.length ≤ 60 := by rw [← hL]; exact hni.ok.len
  have hnj : ∀ j, j < n → NI n hh j (g.node j) := fun j hj' => (hj.node hj').2
  -- they are asked
  obtain ⟨p1, p2, p3, p4⟩ := fan_out (rqM i 0 (t + 1) L) (fun j => (g.node j, askOut (g.node j) i j (t + 1) L)) js g0 [] hnd (fun j hj' => by
    obtain ⟨q1, q2⟩ := (hmem j).1 hj'
    refine ⟨by rw [hlen0]; exact q1, rfl, ?_, askOut_len _ _ _ _ _⟩
    rw [w3 j q2]
    exact fol_ask (hnj j q1).fid (hnj j q1).fn (soundM_rq hi q2 (by omega) (by omega) (by omega) hokL hL60)) (by rw [w1, List.append_nil]) (by simp; omega)
  have hJ1 := hJt.tells js.length
  generalize hg1 : g0.tells js.length = g1 at *
  have p2i : g1.node i = s1 := by rw [p2 i (fun hx => ((hmem i).1 hx).2 rfl), w2]
  have p3j : ∀ j, j ≠ i → g1.node j = g.node j := by
    intro j hji
    by_cases hjm : j ∈ js
    · exact p3 j hjm
    · rw [p2 j hjm, w3 j hji]
  obtain ⟨ms, hms⟩ : ∃ ms, (js.flatMap fun j => askOut (g.node j) i j (t + 1) L) = ms := ⟨_, rfl⟩
  have hmsl : ms.length ≤ 7 := by
    rw [← hms]
    have := flat_len (r := fun j => askOut (g.node j) i j (t + 1) L) (fun j => askOut_len _ _ _ _ _) js
    omega
  have hmm : ∀ m, m ∈ ms ↔ ∃ j, (j < n ∧ j ≠ i) ∧ m ∈ askOut (g.node j) i j (t + 1) L := by
    intro m
    rw [← hms, List.mem_flatMap]
    exact ⟨fun ⟨j, h1, h2⟩ => ⟨j, (hmem j).1 h1, h2⟩, fun ⟨j, h1, h2⟩ => ⟨j, (hmem j).2 h1, h2⟩⟩
  have hans : ∀ m ∈ ms, Ans1 n i t m ∧ (m.granted = false → m.term ≤ T) ∧ m.dst = (i : Int) := by
    intro m hm
    obtain ⟨j, ⟨q1, q2⟩, q3⟩ := (hmm m).1 hm
    have hjt := (hnj j q1).ok.t0
    have hjT := hT j q1
    unfold askOut at q3
    split at q3
    · rw [List.mem_singleton.1 q3]
      exact ⟨⟨j, t + 1, true, rfl, q1, q2, by omega, by omega, fun _ => rfl⟩, fun hx => (by cases hx), rfl⟩
    · split at q3
      · cases q3
      · rw [List.mem_singleton.1 q3]
        exact ⟨⟨j, (g.node j).term, false, rfl, q1, q2, by omega, by omega, fun hx => by cases hx⟩, fun _ => hjT, rfl⟩
  -- one with a greater term says so
  have hgt : ∀ j, j < n → j ≠ i → t < (g.node j).term → ∃ m ∈ ms, m.granted = false ∧ m.term = (g.node j).term := by
    intro j q1 q2 q3
    refine ⟨rpM 1 j i (g.node j).term false, (hmm _).2 ⟨j, ⟨q1, q2⟩, ?_⟩, rfl, rfl⟩
    unfold askOut
    rw [if_neg (fun hx => by have := hx.1; omega), if_neg (by omega)]
    exact List.mem_singleton.2 rfl
  have hyes : ∀ j, (j < n ∧ j ≠ i ∧ AskYes (g.node j) (t + 1) L) → Yes ms j := by
    rintro j ⟨q1, q2, q3⟩
    refine ⟨rpM 1 j i (t + 1) true, (hmm _).2 ⟨j, ⟨q1, q2⟩, ?_⟩, rfl, rfl⟩
    unfold askOut
    rw [if_pos q3]
    exact List.mem_singleton.2 rfl
  have hyes' : ∀ j, Yes ms j → j < n ∧ j ≠ i ∧ AskYes (g.node j) (t + 1) L := by
    rintro j ⟨m, hm, hmg, hms'⟩
    obtain ⟨k, ⟨q1, q2⟩, q3⟩ := (hmm m).1 hm
    unfold askOut at q3
    split at q3
    · rename_i hy
      rw [List.mem_singleton.1 q3] at hms'
      have : (k : Int) = (j : Int) := hms'
      have hkj : k = j := by omega
      subst hkj
      exact ⟨q1, q2, hy⟩
    · split at q3
      · cases q3
      · rw [List.mem_singleton.1 q3] at hmg; cases hmg
  have hfA := foldA (n := n) (i := i) (B := T) (by omega) h2 ms s1 a1 a2 a3 a4 (by omega) hone (fun m hm => by rw [a5]; exact (hans m hm).1) (fun m hm => (hans m hm).2.1)
  have hol : (s1.steps ms).2.length ≤ 7 := by
    cases hfA with
    | wait h _ _ _ _ _ _ _ => rw [h]; simp
    | back h _ _ => rw [h]; simp
    | stood h _ _ _ _ _ _ _ _ _ => rw [h, List.length_map, hjs]; exact hjl
    | fell h _ _ => rw [h, List.length_map, hjs]; exact hjl
  obtain ⟨b1, b2, b3, b4⟩ := fan_in (x := i) ms g1 [] (by rw [hJ1.len]; exact hi) (fun m hm => (hans m hm).2.2) (by rw [p1, hms]; simp) (by rw [p2i]; simp; omega)
  rw [p2i] at b1 b2
  rw [List.nil_append] at b1
  have hJ2 := hJ1.tells ms.length
  have hcat2 : g0.tells (js.length + ms.length) = g1.tells ms.length := by rw [tells_add, hg1]
  generalize hg2 : g1.tells ms.length = g2 at *
  generalize hs2 : (s1.steps ms).1 = s2 at *
  have b3j : ∀ j, j ≠ i → g2.node j = g.node j := fun j hji => by rw [b3 j hji, p3j j hji]
  obtain ⟨z, hzn, hzT⟩ := hz
  -- nothing more is sent
  have quiet : (s1.steps ms).2 = [] → s2.role ≠ 3 → s2.term = T → s2.leads = -1 → s2.log = L → (t = T → ∃ j, j < n ∧ j ≠ i ∧ ¬ AskYes (g.node j) (T + 1) L) → Asked n i T g (g.turn i) := by
    intro h1 h3 h4 h5 h6 h7
    rw [h1] at b1
    have hend : g.turn i = g2 := by
      have := turn_end (g := g) (i := i) (k := js.length + ms.length) (by omega) (by rw [hg0, hcat2]; exact b1)
      rw [this, hg0, hcat2]
    rw [hend]
    exact ⟨hJ2, b1, by rw [b2]; exact h3, by rw [b2]; exact h4, by rw [b2]; exact h5, by rw [b2, hL]; exact h6, fun j q1 q2 => by rw [b3j j q2]; exact Vo.refl _ _, fun _ j q2 => b3j j q2, fun hx => by rw [hL]; exact h7 (by rw [← hx, ht])⟩
  -- the votes are told
  have votes : (s1.steps ms).2 = js.map (rqM i 2 (t + 1) L) → ∃ (r : Nat → Nd × List Msg), (∀ j, j < n → j ≠ i → (g.node j).step (rqM i 2 (t + 1) L j) = r j ∧ Vo (t + 1) (g.node j) (r j).1 ∧ ((r j).2 = [] ∨ ∃ b, (r j).2 = [rpM 3 j i (max (g.node j).term (t + 1)) b]) ∧ (AskYes (g.node j) (t + 1) L → (r j).2 = [rpM 3 j i (t + 1) true])) := by
    intro _
    refine ⟨fun j => (g.node j).step (rqM i 2 (t + 1) L j), fun j q1 q2 => ?_⟩
    obtain ⟨t', out, e1, e2, e3, e4⟩ := fol_vote (n := n) (i := i) (j := j) (τ := t + 1) (L := L) (hnj j q1).fid (hnj j q1).fn (soundM_rq hi q2 (by omega) (by omega) (by omega) hokL hL60)
    refine ⟨rfl, ?_, ?_, ?_⟩
    · show Vo _ _ ((g.node j).step (rqM i 2 (t + 1) L j)).1; rw [e1]; exact e2
    · show ((g.node j).step (rqM i 2 (t + 1) L j)).2 = [] ∨ ∃ b, ((g.node j).step (rqM i 2 (t + 1) L j)).2 = _; rw [e1]; exact e3
    · show _ → ((g.node j).step (rqM i 2 (t + 1) L j)).2 = _; rw [e1]; exact e4
  have phase3 : ∀ (r : Nat → Nd × List Msg), (s1.steps ms).2 = js.map (rqM i 2 (t + 1) L) → (∀ j, j < n → j ≠ i → (g.node j).step (rqM i 2 (t + 1) L j) = r j ∧ Vo (t + 1) (g.node j) (r j).1 ∧ ((r j).2 = [] ∨ ∃ b, (r j).2 = [rpM 3 j i (max (g.node j).term (t + 1)) b]) ∧ (AskYes (g.node j) (t + 1) L → (r j).2 = [rpM 3 j i (t + 1) true])) →
      ∃ g3, g0.tells (js.length + ms.length + js.length) = g3 ∧ J n g3 ∧ g3.way = js.flatMap (fun j => (r j).2) ∧ g3.node i = s2 ∧ (∀ j, j < n → j ≠ i → g3.node j = (r j).1) ∧ (js.flatMap (fun j => (r j).2)).length ≤ 7 := by
    intro r hout hrj
    rw [hout] at b1
    have hl1 : ∀ j ∈ js, (r j).2.length ≤ 1 := by
      intro j hjm
      obtain ⟨q1, q2⟩ := (hmem j).1 hjm
      rcases (hrj j q1 q2).2.2.1 with h9 | ⟨b, h9⟩ <;> rw [h9] <;> simp
    obtain ⟨c1, c2, c3, c4⟩ := fan_out (rqM i 2 (t + 1) L) r js g2 [] hnd (fun j hjm => by
      obtain ⟨q1, q2⟩ := (hmem j).1 hjm
      exact ⟨by rw [hJ2.len]; exact q1, rfl, by rw [b3j j q2]; exact (hrj j q1 q2).1, hl1 j hjm⟩) (by rw [b1, List.append_nil]) (by simp; omega)
    refine ⟨g2.tells js.length, by rw [tells_add, hcat2], hJ2.tells _, by rw [c1]; rfl, by rw [c2 i (fun hx => ((hmem i).1 hx).2 rfl), b2], fun j q1 q2 => c3 j ((hmem j).2 ⟨q1, q2⟩), ?_⟩
    have hfl : ∀ l : List Nat, (∀ j ∈ l, (r j).2.length ≤ 1) → (l.flatMap (fun j => (r j).2)).length ≤ l.length := by
      intro l
      induction l with
      | nil => intro _; simp
      | cons a l ih =>
        intro hl
        rw [List.flatMap_cons, List.length_append, List.length_cons]
        have h8 := hl a (List.mem_cons_self ..)
        have h9 := ih fun j hj' => hl j (List.mem_cons_of_mem _ hj')
        omega
    have := hfl js hl1
    omega
  cases hfA with
  | wait h sta role leads term all yes maj =>
    right
    have htT : t = T := by
      apply Classical.byContradiction
      intro hne
      have hzi : z ≠ i := by rintro rfl; rw [ht] at hzT; exact hne hzT
      obtain ⟨m, hm, hmg, hmt⟩ := hgt z hzn hzi (by omega)
      have := all m hm hmg
      rw [a5] at this
      omega
    refine quiet h (by rw [role]; decide) (by rw [term, a5]; exact htT) leads (sta.log.trans a6) fun _ => ?_
    apply Classical.byContradiction
    intro hno
    have hfull : n ≤ cnt s2.gr := by
      refine cnt_full hn7 fun j hjn => ?_
      by_cases hji : j = i
      · rw [hji]; exact yes i (.inl (by rw [a7]; exact upd_self))
      · refine yes j (.inr (hyes j ⟨hjn, hji, ?_⟩))
        apply Classical.byContradiction
        intro hx
        exact hno ⟨j, hjn, hji, by rw [← htT]; exact hx⟩
    have h9 : s2.n = n := sta.n.trans a2
    unfold Nd.maj at maj
    rw [h9] at maj
    have := of_decide_eq_false maj
    omega
  | back h b lt =>
    right
    rw [a5] at lt
    have hhi := b.hi
    have hzi : z ≠ i := by rintro rfl; rw [ht] at hzT; omega
    obtain ⟨m, hm, hmg, hmt⟩ := hgt z hzn hzi (by omega)
    have hlo := b.all m hm hmg
    exact quiet h (by rw [b.role]; decide) (by omega) b.leads (b.sta.log.trans a6) fun hx => by omega
  | fell h b lt =>
    right
    rw [a5] at lt h
    rw [a6, hjs] at h
    have hhi := b.hi
    have hzi : z ≠ i := by rintro rfl; rw [ht] at hzT; omega
    obtain ⟨m, hm, hmg, hmt⟩ := hgt z hzn hzi (by omega)
    have hlo := b.all m hm hmg
    obtain ⟨r, hr3⟩ := votes h
    obtain ⟨g3, c0, c1, c2, c3, c4, c5⟩ := phase3 r h hr3
    generalize hms3 : (js.flatMap fun j => (r j).2) = ms3 at *
    have hans3 : ∀ m ∈ ms3, Ans n i m ∧ ((m.kind = 1 ∧ m.granted = true) ∨ m.term ≤ T) ∧ m.dst = (i : Int) := by
      intro m hm
      rw [← hms3, List.mem_flatMap] at hm
      obtain ⟨j, hjm, hjm2⟩ := hm
      obtain ⟨q1, q2⟩ := (hmem j).1 hjm
      have hjt := (hnj j q1).ok.t0
      have hjT := hT j q1
      rcases (hr3 j q1 q2).2.2.1 with h9 | ⟨b', h9⟩
      · rw [h9] at hjm2; cases hjm2
      · rw [h9] at hjm2
        rw [List.mem_singleton.1 hjm2]
        exact ⟨⟨3, j, _, b', .inr rfl, rfl, q1, q2, by omega, by omega⟩, .inr (by show max (g.node j).term (t + 1) ≤ T; omega), rfl⟩
    obtain ⟨f1, f2⟩ := fold0 (n := n) (i := i) (B := T) ms3 s2 (b.sta.id.trans a1) (b.sta.n.trans a2) b.role b.leads b.hi fun m hm => ⟨(hans3 m hm).1, (hans3 m hm).2.1⟩
    obtain ⟨d1, d2, d3, d4⟩ := fan_in (x := i) ms3 g3 [] (by rw [c1.len]; exact hi) (fun m hm => (hans3 m hm).2.2) (by rw [c2, List.append_nil]) (by rw [c3, f1]; simp; omega)
    rw [c3] at d1 d2
    rw [f1] at d1
    have hcat : g0.tells (js.length + ms.length + js.length + ms3.length) = g3.tells ms3.length := by rw [tells_add, c0]
    have hend : g.turn i = g3.tells ms3.length := by
      have := turn_end (g := g) (i := i) (k := js.length + ms.length + js.length + ms3.length) (by omega) (by rw [hg0, hcat, d1]; rfl)
      rw [this, hg0, hcat]
    rw [hend]
    have hf2 := f2.lo
    have hf3 := f2.hi
    refine ⟨c1.tells _, d1, by rw [d2, f2.role]; decide, by rw [d2]; omega, by rw [d2]; exact f2.leads, by rw [d2, hL]; exact (f2.sta.log.trans b.sta.log).trans a6, fun j q1 q2 => ?_, fun hx => by rw [ht] at hx; omega, fun hx => by rw [ht] at hx; omega⟩
    rw [d3 j q2, c4 j q1 q2]
    have hv := (hr3 j q1 q2).2.1
    have hjT := hT j q1
    exact ⟨hv.lo, by have := hv.hi; omega, hv.leads, hv.role, hv.log, hv.pat⟩
  | stood h G maj yes sta role leads term gr all =>
    left
    rw [a5] at h term all
    rw [a6, hjs] at h
    obtain ⟨r, hr3⟩ := votes h
    obtain ⟨g3, c0, c1, c2, c3, c4, c5⟩ := phase3 r h hr3
    have hle : ∀ j, j < n → j ≠ i → (g.node j).term ≤ t + 1 := by
      intro j q1 q2
      apply Classical.byContradiction
      intro hx
      obtain ⟨m, hm, hmg, hmt⟩ := hgt j q1 q2 (by omega)
      have := all m hm hmg
      omega
    generalize hms3 : (js.flatMap fun j => (r j).2) = ms3 at *
    have hans3 : ∀ m ∈ ms3, Ans3 n i (t + 1) m ∧ m.dst = (i : Int) := by
      intro m hm
      rw [← hms3, List.mem_flatMap] at hm
      obtain ⟨j, hjm, hjm2⟩ := hm
      obtain ⟨q1, q2⟩ := (hmem j).1 hjm
      have hjt := hle j q1 q2
      rcases (hr3 j q1 q2).2.2.1 with h9 | ⟨b', h9⟩
      · rw [h9] at hjm2; cases hjm2
      · rw [h9, show max (g.node j).term (t + 1) = t + 1 by omega] at hjm2
        rw [List.mem_singleton.1 hjm2]
        exact ⟨⟨j, b', rfl, q1, q2, by omega, by omega⟩, rfl⟩
    have hmaj2 : s2.maj (cnt s2.gr) = false := by
      rw [gr, cnt1 _ (by omega)]
      unfold Nd.maj
      rw [sta.n, a2]
      exact decide_eq_false (by omega)
    rcases foldV (n := n) (i := i) ms3 s2 (sta.id.trans a1) (sta.n.trans a2) role leads hmaj2 (fun m hm => by rw [term]; exact (hans3 m hm).1) with ⟨_, f2, _, _, _, f6, f7⟩ | ⟨f1, f2, f3⟩
    · exfalso
      have hsub : ∀ k, G k = true → (s2.steps ms3).1.gr k = true := by
        intro k hk
        rcases yes k hk with h9 | h9
        · rw [a7] at h9
          have hki : k = i := by
            unfold upd at h9
            split at h9
            · assumption
            · cases h9
          rw [hki]; exact f7 i (.inl (by rw [gr]; exact upd_self))
        · obtain ⟨q1, q2, q3⟩ := hyes' k h9
          refine f7 k (.inr ⟨rpM 3 k i (t + 1) true, ?_, rfl, rfl⟩)
          rw [← hms3, List.mem_flatMap]
          exact ⟨k, (hmem k).2 ⟨q1, q2⟩, by rw [(hr3 k q1 q2).2.2.2 q3]; exact List.mem_singleton.2 rfl⟩
      have hcnt : cnt G ≤ cnt (s2.steps ms3).1.gr := cntTo_sub fun k _ hk => hsub k hk
      unfold Nd.maj at maj f6
      rw [a2] at maj
      rw [f2.n, sta.n, a2] at f6
      have h8 := of_decide_eq_true maj
      have h9 := of_decide_eq_false f6
      omega
    · have happ : (s2.steps ms3).2.length ≤ 7 := by
        rw [f3]
        unfold Nd.appends
        rw [List.length_map]
        have hJ4 := c1.tells ms3.length
        -- its n is n: what holds of all nodes
        have hn' : ((s2.steps ms3).1).n = n := by
          have hst : ∀ (l : List Msg) (s : Nd), (s.steps l).1.n = s.n := by
            intro l
            induction l with
            | nil => intro s; rfl
            | cons m l ih =>
              intro s
              show ((s.step m).1.steps l).1.n = s.n
              rw [ih, step_n]
          rw [hst, sta.n, a2]
        exact others_le7 hn' hn7
      obtain ⟨d1, d2, d3, d4⟩ := fan_in (x := i) ms3 g3 [] (by rw [c1.len]; exact hi) (fun m hm => (hans3 m hm).2) (by rw [c2, List.append_nil]) (by rw [c3]; simp; omega)
      rw [c3] at d1 d2
      have hcat : g0.tells (js.length + ms.length + js.length + ms3.length) = g3.tells ms3.length := by rw [tells_add, c0]
      generalize hg4 : g3.tells ms3.length = g4 at *
      have hJ4 : J n g4 := by rw [← hg4]; exact c1.tells _
      obtain ⟨k, hk, r1, _, _, r4, _, _⟩ := lead_conv (g := g4) False False hJ4 hi (by rw [d2]; exact f1) (by rw [d1, d2, List.nil_append]; exact f3) (fun j q1 => by
        rw [d2, f2, term]
        by_cases hji : j = i
        · rw [hji, d2, f2, term]; exact Int.le_refl _
        · rw [d3 j hji, c4 j q1 hji]
          have := (hr3 j q1 hji).2.1.hi
          have := hle j q1 hji
          omega) (fun hf => hf.elim) (fun hf => hf.elim)
      have hcat5 : g0.tells (js.length + ms.length + js.length + ms3.length + k) = g4.tells k := by rw [tells_add, hcat]
      have hend : g.turn i = g4.tells k := by
        have := turn_end (g := g) (i := i) (k := js.length + ms.length + js.length + ms3.length + k) (by omega) (by rw [hg0, hcat5]; exact r1.way)
        rw [this, hg0, hcat5]
      rw [hend]
      exact ⟨r1, r4⟩

end

end Go.Proofs.Yteiecbkfganhnaa

namespace Go.Proofs.Yteiecbkfganhnaa

/-- Its term does not fall; it comes to no role but a follower's. -/
structure Rl (B : Int) (t t' : Nd) : Prop where
  lo : t.term ≤ t'.term
  hi : t'.term ≤ B
  role : t'.role = t.role ∨ t'.role = 0

theorem Rl.refl {B : Int} {t : Nd} (h : t.term ≤ B) : Rl B t t := ⟨Int.le_refl _, h, .inl rfl⟩
theorem Rl.trans {B : Int} {a b c : Nd} (h : Rl B a b) (k : Rl B b c) : Rl B a c := ⟨Int.le_trans h.lo k.lo, k.hi, by
  rcases k.role with h1 | h1
  · rw [h1]; exact h.role
  · exact .inr h1⟩
theorem Rl.follow {B : Int} (s : Nd) (t l : Int) (h1 : s.term ≤ B) (h2 : t ≤ B) : Rl B s (s.follow t l) := ⟨by rw [follow_term]; omega, by rw [follow_term]; omega, .inr (fol_role _ _ _)⟩

theorem app_any {B : Int} (t : Nd) (m : Msg) (hk : m.kind = 4) (h1 : t.term ≤ B) (h2 : m.term ≤ B) :
    (t.step m).2.length ≤ 1 ∧ (∀ o ∈ (t.step m).2, o.kind = 5 ∧ o.dst = m.src ∧ o.term ≤ B) ∧ Rl B t (t.step m).1 := by
  by_cases hs : soundM m t.id t.n = true
  · rw [step4 rfl rfl hs hk]
    have hF := Rl.follow t m.term m.src h1 h2
    have hone : ∀ o : Msg, o.kind = 5 → o.dst = m.src → o.term ≤ B → ([o].length ≤ 1 ∧ ∀ q ∈ [o], q.kind = 5 ∧ q.dst = m.src ∧ q.term ≤ B) := by
      intro o a b c
      refine ⟨by simp, fun q hq => ?_⟩
      rw [List.mem_singleton.1 hq]; exact ⟨a, b, c⟩
    have hzero : (([] : List Msg).length ≤ 1 ∧ ∀ q ∈ ([] : List Msg), q.kind = 5 ∧ q.dst = m.src ∧ q.term ≤ B) := ⟨by simp, fun q hq => by cases hq⟩
    unfold Nd.stepAppend
    split
    · exact ⟨(hone _ rfl rfl h1).1, (hone _ rfl rfl h1).2, Rl.refl h1⟩
    · split
      · exact ⟨hzero.1, hzero.2, Rl.refl h1⟩
      · split
        · have := hone ((t.appS m).reply 5 m.src (t.appS m).term (min (t.last : Int) (max 0 (m.index - 1))) false) rfl rfl hF.hi
          exact ⟨this.1, this.2, ⟨hF.lo, hF.hi, hF.role⟩⟩
        · split
          · exact ⟨hzero.1, hzero.2, ⟨hF.lo, hF.hi, hF.role⟩⟩
          · have := hone ((t.appS m).reply 5 m.src (t.appS m).term ((m.index.toNat + m.ents.length : Nat) : Int) true) rfl rfl hF.hi
            exact ⟨this.1, this.2, ⟨hF.lo, hF.hi, hF.role⟩⟩
  · have : t.step m = (t, []) := by unfold Nd.step; rw [if_neg hs]
    rw [this]
    exact ⟨by simp, fun q hq => (by cases hq), Rl.refl h1⟩

theorem rep_any {B : Int} {i : Nat} (s : Nd) (m : Msg) (hid : s.id = i) (hk : m.kind = 5) (h1 : s.term ≤ B) (h2 : m.term ≤ B) :
    (s.step m).2.length ≤ 1 ∧ (∀ o ∈ (s.step m).2, o.kind = 4 ∧ o.src = (i : Int) ∧ o.dst ≠ (i : Int) ∧ o.term ≤ B) ∧ Rl B s (s.step m).1 ∧ (s.role ≠ 3 → (s.step m).2 = []) ∧ (soundM m s.id s.n = true → s.term < m.term → (s.step m).1.role = 0) ∧ ((s.step m).1.role = 3 → (s.step m).1.term = s.term) := by
  by_cases hs : soundM m s.id s.n = true
  · rw [step5 rfl rfl hs hk]
    have hm := soundM_of hs
    have hzero : (([] : List Msg).length ≤ 1 ∧ ∀ q ∈ ([] : List Msg), q.kind = 4 ∧ q.src = (i : Int) ∧ q.dst ≠ (i : Int) ∧ q.term ≤ B) := ⟨by simp, fun q hq => by cases hq⟩
    have hone : ∀ o : Msg, o.kind = 4 → o.src = (s.id : Int) → o.dst = ((m.src.toNat : Nat) : Int) → o.term = s.term → ([o].length ≤ 1 ∧ ∀ q ∈ [o], q.kind = 4 ∧ q.src = (i : Int) ∧ q.dst ≠ (i : Int) ∧ q.term ≤ B) := by
      intro o a b c d
      refine ⟨by simp, fun q hq => ?_⟩
      rw [List.mem_singleton.1 hq]
      have h9 := hm.src
      have h8 := hm.s0
      exact ⟨a, by rw [b, hid], by rw [c]; omega, by rw [d]; exact h1⟩
    unfold Nd.stepAppendReply
    split
    · rename_i hlt
      exact ⟨hzero.1, hzero.2, Rl.follow _ _ _ h1 h2, fun _ => rfl, fun _ _ => fol_role _ _ _, fun hx => by rw [fol_role] at hx; cases hx⟩
    · rename_i hlt
      split
      · rename_i hr
        have hno : s.role ≠ 3 → ∀ l : List Msg, l = [] := fun hx => absurd hr.1 hx
        split
        · split
          · split
            · have := hone (((s.hears m.src.toNat).matched m.src.toNat m.index.toNat).appendTo m.src.toNat) rfl rfl rfl rfl
              exact ⟨this.1, this.2, ⟨Int.le_refl _, h1, .inl rfl⟩, fun hx => hno hx _, fun _ hx => absurd hx hlt, fun _ => rfl⟩
            · exact ⟨hzero.1, hzero.2, ⟨Int.le_refl _, h1, .inl rfl⟩, fun _ => rfl, fun _ hx => absurd hx hlt, fun _ => rfl⟩
          · exact ⟨hzero.1, hzero.2, ⟨Int.le_refl _, h1, .inl rfl⟩, fun _ => rfl, fun _ hx => absurd hx hlt, fun _ => rfl⟩
        · have := hone (((s.hears m.src.toNat).backs m.src.toNat m.index.toNat).appendTo m.src.toNat) rfl rfl rfl rfl
          exact ⟨this.1, this.2, ⟨Int.le_refl _, h1, .inl rfl⟩, fun hx => hno hx _, fun _ hx => absurd hx hlt, fun _ => rfl⟩
      · exact ⟨hzero.1, hzero.2, Rl.refl h1, fun _ => rfl, fun _ hx => absurd hx hlt, fun _ => rfl⟩
  · have : s.step m = (s, []) := by unfold Nd.step; rw [if_neg hs]
    rw [this]
    exact ⟨by simp, fun q hq => (by cases hq), Rl.refl h1, fun _ => rfl, fun hx => absurd hx hs, fun _ => rfl⟩

def wt (m : Msg) : Nat := if m.kind = 4 then 2 else 1
def wts : List Msg → Nat
  | [] => 0
  | m :: l => wt m + wts l
theorem wts_append (a b : List Msg) : wts (a ++ b) = wts a + wts b := by
  induction a with
  | nil => simp [wts]
  | cons m a ih => simp only [List.cons_append, wts, ih]; omega
theorem wts_le (l : List Msg) : wts l ≤ 2 * l.length := by
  induction l with
  | nil => simp [wts]
  | cons m l ih => simp only [wts, List.length_cons, wt]; split <;> omega

/-- One message of node i's, or to it. -/
def Lft (i : Nat) (B : Int) (m : Msg) : Prop := m.term ≤ B ∧ ((m.kind = 4 ∧ m.src = (i : Int) ∧ m.dst ≠ (i : Int)) ∨ (m.kind = 5 ∧ m.dst = (i : Int)))

/-- What an old leader's messages still do. -/
theorem drain {n i : Nat} {B : Int} (hi : i < n) : ∀ (N : Nat) (g : Gp), J n g → (g.node i).role = 0 → (∀ j, j < n → (g.node j).term ≤ B) → (∀ m ∈ g.way, Lft i B m) → wts g.way ≤ N → g.way.length ≤ 100 →
    ∃ k, k ≤ N ∧ (g.tells k).way = [] ∧ ∀ j, j < n → Rl B (g.node j) ((g.tells k).node j) := by
  intro N
  induction N with
  | zero =>
    intro g _ _ ht _ hN _
    cases hw : g.way with
    | nil => exact ⟨0, Nat.le_refl _, hw, fun j hj => Rl.refl (ht j hj)⟩
    | cons m r => rw [hw] at hN; simp only [wts, wt] at hN; split at hN <;> omega
  | succ N ih =>
    intro g hJ hr ht hL hN hl
    cases hw : g.way with
    | nil => exact ⟨0, Nat.zero_le _, hw, fun j hj => Rl.refl (ht j hj)⟩
    | cons m r =>
      have hJ1 := hJ.tell1
      have hlen := hJ.len
      have hmail : 0 ≤ m.dst ∧ m.dst < n := by
        obtain ⟨h, hj⟩ := hJ
        have := (hj.mi m (by rw [hw]; exact List.mem_cons_self ..)).2
        exact ⟨this.1, this.2.1⟩
      obtain ⟨d, hd⟩ : ∃ d : Nat, m.dst = (d : Int) := ⟨m.dst.toNat, by omega⟩
      have hdn : d < n := by omega
      rw [hw] at hL hN hl
      obtain ⟨hmB, hmk⟩ := hL m (List.mem_cons_self ..)
      have hLr : ∀ q ∈ r, Lft i B q := fun q hq => hL q (List.mem_cons_of_mem _ hq)
      simp only [wts, List.length_cons] at hN hl
      -- what it does
      have key : ∃ t' out, (g.node d).step m = (t', out) ∧ out.length ≤ 1 ∧ (∀ o ∈ out, Lft i B o) ∧ Rl B (g.node d) t' ∧ wts out + 1 ≤ wt m := by
        rcases hmk with ⟨k1, k2, k3⟩ | ⟨k1, k2⟩
        · obtain ⟨a1, a2, a3⟩ := app_any (B := B) (g.node d) m k1 (ht d hdn) hmB
          refine ⟨((g.node d).step m).1, ((g.node d).step m).2, rfl, a1, fun o ho => ?_, a3, ?_⟩
          · obtain ⟨b1, b2, b3⟩ := a2 o ho
            exact ⟨b3, .inr ⟨b1, by rw [b2]; exact k2⟩⟩
          · have h9 : wt m = 2 := by unfold wt; rw [if_pos k1]
            rw [h9]
            cases ho : ((g.node d).step m).2 with
            | nil => simp [wts]
            | cons o l =>
              rw [ho] at a1 a2
              have hl0 : l = [] := by cases l with
                | nil => rfl
                | cons _ _ => simp at a1
              rw [hl0]
              have := (a2 o (List.mem_cons_self ..)).1
              simp only [wts, wt]
              rw [if_neg (by rw [this]; decide)]
              omega
        · have hdi : d = i := by omega
          subst hdi
          have hid : (g.node d).id = d := by
            obtain ⟨h, hj⟩ := hJ
            exact (hj.node hdn).2.fid
          obtain ⟨a1, a2, a3, a4, _⟩ := rep_any (B := B) (g.node d) m hid k1 (ht d hdn) hmB
          refine ⟨((g.node d).step m).1, ((g.node d).step m).2, rfl, a1, fun o ho => ?_, a3, ?_⟩
          · rw [a4 (by rw [hr]; decide)] at ho; cases ho
          · rw [a4 (by rw [hr]; decide)]
            simp only [wts, wt]; split <;> omega
      obtain ⟨t', out, e1, e2, e3, e4, e5⟩ := key
      obtain ⟨f1, f2, f3, _⟩ := tell1_at (d := d) hw hd (by rw [hlen]; exact hdn) e1 (by omega)
      have hRl : ∀ j, j < n → Rl B (g.node j) (g.tell1.node j) := by
        intro j hj
        by_cases hjd : j = d
        · rw [hjd, f2]; exact e4
        · rw [f3 j hjd]; exact Rl.refl (ht j hj)
      obtain ⟨k, hk, r1, r2⟩ := ih g.tell1 hJ1 (by
        rcases (hRl i hi).role with h9 | h9
        · rw [h9]; exact hr
        · exact h9) (fun j hj => (hRl j hj).hi) (fun q hq => by
        rw [f1] at hq
        rcases List.mem_append.1 hq with hq | hq
        · exact hLr q hq
        · exact e3 q hq) (by rw [f1, wts_append]; omega) (by rw [f1, List.length_append]; omega)
      refine ⟨1 + k, by omega, ?_, fun j hj => ?_⟩
      · rw [tells_add]; exact r1
      · rw [tells_add]; exact (hRl j hj).trans (r2 j hj)

/-- A leader is told of replies, one of a greater term among them. -/
theorem foldR {n i : Nat} {B : Int} : ∀ (ms : List Msg) (s : Nd), s.id = i → s.n = n → s.term ≤ B → (∀ m ∈ ms, m.kind = 5 ∧ m.term ≤ B) →
    (s.steps ms).2.length ≤ ms.length ∧ (∀ o ∈ (s.steps ms).2, o.kind = 4 ∧ o.src = (i : Int) ∧ o.dst ≠ (i : Int) ∧ o.term ≤ B) ∧ Rl B s (s.steps ms).1 ∧ ((∃ m ∈ ms, soundM m i n = true ∧ s.term < m.term) → s.role = 3 ∨ s.role = 0 → (s.steps ms).1.role = 0) := by
  intro ms
  induction ms with
  | nil => intro s _ _ h3 _; exact ⟨Nat.le_refl _, fun o ho => (by cases ho), Rl.refl h3, fun ⟨m, hm, _⟩ => by cases hm⟩
  | cons m ms ih =>
    intro s h1 h2 h3 hms
    obtain ⟨hk, hB⟩ := hms m (List.mem_cons_self ..)
    obtain ⟨a1, a2, a3, _, a5, a6⟩ := rep_any (B := B) (i := i) s m h1 hk h3 hB
    have hid : (s.step m).1.id = i := by
      rw [step_id, h1]
    have hn : (s.step m).1.n = n := by rw [step_n, h2]
    obtain ⟨r1, r2, r3, r4⟩ := ih (s.step m).1 hid hn a3.hi fun q hq => hms q (List.mem_cons_of_mem _ hq)
    refine ⟨?_, fun o ho => ?_, a3.trans r3, ?_⟩
    · show ((s.step m).2 ++ ((s.step m).1.steps ms).2).length ≤ _
      rw [List.length_append, List.length_cons]; omega
    · have ho' : o ∈ (s.step m).2 ++ ((s.step m).1.steps ms).2 := ho
      rcases List.mem_append.1 ho' with ho' | ho'
      · exact a2 o ho'
      · exact r2 o ho'
    · rintro ⟨q, hq, hqs, hqt⟩ hr
      show ((s.step m).1.steps ms).1.role = 0
      have hzero : (s.step m).1.role = 0 → ((s.step m).1.steps ms).1.role = 0 := fun hx => by
        rcases r3.role with h9 | h9
        · rw [h9]; exact hx
        · exact h9
      rcases List.mem_cons.1 hq with rfl | hq
      · exact hzero (a5 (by rw [h1, h2]; exact hqs) hqt)
      · by_cases h0 : (s.step m).1.role = 0
        · exact hzero h0
        · have h33 : (s.step m).1.role = 3 := by
            rcases a3.role with h9 | h9
            · rw [h9]
              rcases hr with h8 | h8
              · exact h8
              · exact absurd (h9.trans h8) h0
            · exact absurd h9 h0
          exact r4 ⟨q, hq, hqs, by rw [a6 h33]; exact hqt⟩ (.inl h33)

/-- What became of a turn. -/
structure Trn (n i : Nat) (T : Int) (g g' : Gp) : Prop where
  j : J n g'
  way : g'.way = []
  role : (g'.node i).role ≠ 3
  rl : ∀ j, j < n → (g.node j).term ≤ (g'.node j).term ∧ (g'.node j).term ≤ T ∧ (j ≠ i → (g'.node j).role = (g.node j).role ∨ (g'.node j).role = 0)

theorem old_turn {n i : Nat} {T : Int} {g : Gp} (hJ : J n g) (hway : g.way = []) (hi : i < n) (hr : (g.node i).role = 3) (hT : ∀ j, j < n → (g.node j).term ≤ T) (hT1 : T ≤ 999990) :
    Syn n i (g.turn i) ∧ (∀ j, j < n → j ≠ i → ((g.turn i).node j).elapsed = 0) ∨ Trn n i T g (g.turn i) := by
  have hlen := hJ.len
  have hJt := hJ.tick hi
  have hJ0 := hJ
  obtain ⟨hh, hj⟩ := hJ0
  have hn7 := hj.n7
  have hni := (hj.node hi).2
  by_cases hgo : ¬ (g.node i).pat ≤ (g.node i).elapsed + 1 ∨ (g.node i).maj (cnt (upd (g.node i).hd (g.node i).id true)) = true
  · by_cases hmax : ∀ j, j < n → (g.node j).term ≤ (g.node i).term
    · obtain ⟨r1, _, _, r4, _⟩ := lead_turn False False hJ hway hi hr hgo hmax (fun hf => hf.elim) (fun hf => hf.elim)
      exact .inl ⟨r1, r4⟩
    · right
      obtain ⟨z, hzn, hzt⟩ : ∃ z, z < n ∧ (g.node i).term < (g.node z).term := by
        apply Classical.byContradiction
        intro hx
        apply hmax
        intro j hjn
        apply Classical.byContradiction
        intro hy
        exact hx ⟨j, hjn, by omega⟩
      have hzi : z ≠ i := by rintro rfl; omega
      obtain ⟨s', ht, e1, e2, e3, e4, e5⟩ : ∃ s' : Nd, (g.node i).tick = (s', s'.appends) ∧ s'.role = 3 ∧ s'.term = (g.node i).term ∧ s'.log = (g.node i).log ∧ s'.n = (g.node i).n ∧ s'.id = (g.node i).id := by
        unfold Nd.tick
        rw [if_pos hr]
        unfold Nd.tickLeader
        by_cases he : (g.node i).tickS.pat ≤ (g.node i).tickS.elapsed
        · rw [if_pos he]
          have hm : (g.node i).tickS.maj (cnt (upd (g.node i).tickS.hd (g.node i).tickS.id true)) = true := by
            rcases hgo with h1 | h1
            · exact absurd he h1
            · exact h1
          rw [if_pos hm]
          exact ⟨_, rfl, hr, rfl, rfl, rfl, rfl⟩
        · rw [if_neg he]
          exact ⟨_, rfl, hr, rfl, rfl, rfl, rfl⟩
      have hs'n : s'.n = n := e4.trans hni.fn
      have hs'i : s'.id = i := e5.trans hni.fid
      have hol : s'.others.length ≤ 7 := others_le7 hs'n hn7
      have hmem := others_mem hs'i hs'n
      obtain ⟨w1, w2, w3⟩ := tick_way hway (by rw [hlen]; exact hi) ht (by unfold Nd.appends; rw [List.length_map]; omega)
      generalize hg0 : g.tick i = g0 at *
      obtain ⟨js, hjs⟩ : ∃ js, s'.others = js := ⟨_, rfl⟩
      have w1' : g0.way = js.map s'.appendTo := by rw [w1, ← hjs]; rfl
      rw [hjs] at hmem hol
      have hnd : js.Nodup := by rw [← hjs]; exact others_nodup _
      have hst : s'.term ≤ T := by rw [e2]; exact hT i hi
      have hap : ∀ j, (((g.node j).step (s'.appendTo j)).2.length ≤ 1 ∧ (∀ o ∈ ((g.node j).step (s'.appendTo j)).2, o.kind = 5 ∧ o.dst = (i : Int) ∧ o.term ≤ T) ∧ Rl T (g.node j) ((g.node j).step (s'.appendTo j)).1) ∨ n ≤ j := by
        intro j
        rcases Nat.lt_or_ge j n with h9 | h9
        · obtain ⟨a1, a2, a3⟩ := app_any (B := T) (g.node j) (s'.appendTo j) rfl (hT j h9) hst
          exact .inl ⟨a1, fun o ho => ⟨(a2 o ho).1, by rw [(a2 o ho).2.1]; show (s'.id : Int) = i; rw [hs'i], (a2 o ho).2.2⟩, a3⟩
        · exact .inr h9
      have hap' : ∀ j, j < n → ((g.node j).step (s'.appendTo j)).2.length ≤ 1 ∧ (∀ o ∈ ((g.node j).step (s'.appendTo j)).2, o.kind = 5 ∧ o.dst = (i : Int) ∧ o.term ≤ T) ∧ Rl T (g.node j) ((g.node j).step (s'.appendTo j)).1 := by
        intro j hjn
        rcases hap j with h9 | h9
        · exact h9
        · omega
      obtain ⟨p1, p2, p3, p4⟩ := fan_out s'.appendTo (fun j => (g.node j).step (s'.appendTo j)) js g0 [] hnd (fun j hj' => by
        obtain ⟨q1, q2⟩ := (hmem j).1 hj'
        exact ⟨by rw [hJt.len]; exact q1, rfl, by rw [w3 j q2], (hap' j q1).1⟩) (by rw [w1', List.append_nil]) (by simp; omega)
      have hJ1 := hJt.tells js.length
      generalize hg1 : g0.tells js.length = g1 at *
      have p2i : g1.node i = s' := by rw [p2 i (fun hx => ((hmem i).1 hx).2 rfl), w2]
      obtain ⟨ms, hms⟩ : ∃ ms, (js.flatMap fun j => ((g.node j).step (s'.appendTo j)).2) = ms := ⟨_, rfl⟩
      have hmm : ∀ m ∈ ms, m.kind = 5 ∧ m.dst = (i : Int) ∧ m.term ≤ T := by
        intro m hm
        rw [← hms, List.mem_flatMap] at hm
        obtain ⟨j, hjm, hjm2⟩ := hm
        exact (hap' j ((hmem j).1 hjm).1).2.1 m hjm2
      have hmsl : ms.length ≤ 7 := by
        rw [← hms]
        have hfl : ∀ l : List Nat, (∀ j ∈ l, ((g.node j).step (s'.appendTo j)).2.length ≤ 1) → (l.flatMap (fun j => ((g.node j).step (s'.appendTo j)).2)).length ≤ l.length := by
          intro l
          induction l with
          | nil => intro _; simp
          | cons a l ih =>
            intro hl
            rw [List.flatMap_cons, List.length_append, List.length_cons]
            have h8 := hl a (List.mem_cons_self ..)
            have h9 := ih fun j hj' => hl j (List.mem_cons_of_mem _ hj')
            omega
        have := hfl js fun j hjm => (hap' j ((hmem j).1 hjm).1).1
        omega
      -- the one with a greater term says so
      have hzm : ∃ m ∈ ms, soundM m i n = true ∧ s'.term < m.term := by
        have hT' := lead_tm hj.gi hni hi hr
        have hL := hni.ok.lead hr
        have hzt0 := (hj.node hzn).2.ok.t1
        have hnx : s'.nx z = (g.node i).nx z := by
          unfold Nd.tick at ht
          rw [if_pos hr] at ht
          unfold Nd.tickLeader at ht
          split at ht
          · split at ht
            · rw [← (Prod.mk.inj ht).1]; rfl
            · exfalso
              have h9 := (Prod.mk.inj ht).1
              rw [← h9, fol_role] at e1
              cases e1
          · rw [← (Prod.mk.inj ht).1]; rfl
        have hcm : s'.commit = (g.node i).commit := by
          unfold Nd.tick at ht
          rw [if_pos hr] at ht
          unfold Nd.tickLeader at ht
          split at ht
          · split at ht
            · rw [← (Prod.mk.inj ht).1]; rfl
            · exfalso
              have h9 := (Prod.mk.inj ht).1
              rw [← h9, fol_role] at e1
              cases e1
          · rw [← (Prod.mk.inj ht).1]; rfl
        have hlo : 1 ≤ (g.node i).nx z := hL.lo z (by rw [hni.fn]; exact hzn)
        have hhi : (g.node i).nx z ≤ (g.node i).log.length + 1 := hL.hi z (by rw [hni.fn]; exact hzn)
        have heq := appendTo_eq (s := s') (x := i) (T := (g.node i).term) (L := (g.node i).log) hs'i e2 e3 z (by rw [hnx]; exact hlo)
        have hsd := soundM_ap (n := n) (c := s'.commit) (j := z) (k := s'.nx z - 1) hT' hzi (by rw [hcm]; exact Nat.le_trans hni.ok.com hni.ok.len) (by rw [hnx]; omega)
        rw [← heq] at hsd
        have hst2 := step4 (s := g.node z) (hj.node hzn).2.fid (hj.node hzn).2.fn hsd rfl
        unfold Nd.stepAppend at hst2
        rw [if_pos (show (s'.appendTo z).term < (g.node z).term by show s'.term < _; rw [e2]; exact hzt)] at hst2
        refine ⟨(g.node z).reply 5 (s'.appendTo z).src (g.node z).term 0 false, ?_, ?_, ?_⟩
        · rw [← hms, List.mem_flatMap]
          exact ⟨z, (hmem z).2 ⟨hzn, hzi⟩, by rw [hst2]; exact List.mem_singleton.2 rfl⟩
        · have h9 : (g.node z).reply 5 (s'.appendTo z).src (g.node z).term 0 false = rpM 5 z i (g.node z).term false := by
            show ({ kind := 5, src := ((g.node z).id : Int), dst := (s'.id : Int), term := (g.node z).term, index := 0, logTerm := 0, commit := 0, ents := [], granted := false } : Msg) = _
            rw [(hj.node hzn).2.fid, hs'i]; rfl
          rw [h9]
          have h8 := hni.ok.t0
          exact soundM_rp hzn hzi (by omega) (by omega) hzt0 false
        · show s'.term < (g.node z).term
          rw [e2]; exact hzt
      obtain ⟨f1, f2, f3, f4⟩ := foldR (n := n) (i := i) (B := T) ms s' hs'i hs'n hst fun m hm => ⟨(hmm m hm).1, (hmm m hm).2.2⟩
      have hr0 := f4 hzm (.inl e1)
      obtain ⟨b1, b2, b3, b4⟩ := fan_in (x := i) ms g1 [] (by rw [hJ1.len]; exact hi) (fun m hm => (hmm m hm).2.1) (by rw [p1, hms]; simp) (by rw [p2i]; simp; omega)
      rw [p2i] at b1 b2
      rw [List.nil_append] at b1
      have hJ2 := hJ1.tells ms.length
      have hcat2 : g0.tells (js.length + ms.length) = g1.tells ms.length := by rw [tells_add, hg1]
      generalize hg2 : g1.tells ms.length = g2 at *
      have hRl : ∀ j, j < n → Rl T (g.node j) (g2.node j) := by
        intro j hjn
        by_cases hji : j = i
        · rw [hji, b2]
          exact ⟨by have := f3.lo; rw [e2] at this; exact this, f3.hi, .inr hr0⟩
        · rw [b3 j hji, p3 j ((hmem j).2 ⟨hjn, hji⟩)]
          exact (hap' j hjn).2.2
      obtain ⟨k, hk, r1, r2⟩ := drain (B := T) hi (2 * 7) g2 hJ2 (by rw [b2]; exact hr0) (fun j hjn => (hRl j hjn).hi) (fun m hm => by
        rw [b1] at hm
        obtain ⟨q1, q2, q3, q4⟩ := f2 m hm
        exact ⟨q4, .inl ⟨q1, q2, q3⟩⟩) (by rw [b1]; have := wts_le (s'.steps ms).2; omega) (by rw [b1]; omega)
      have hcat3 : g0.tells (js.length + ms.length + k) = g2.tells k := by rw [tells_add, hcat2]
      have hend : g.turn i = g2.tells k := by
        have := turn_end (g := g) (i := i) (k := js.length + ms.length + k) (by omega) (by rw [hg0, hcat3]; exact r1)
        rw [this, hg0, hcat3]
      rw [hend]
      refine ⟨hJ2.tells k, r1, ?_, fun j hjn => ?_⟩
      · rcases (r2 i hi).role with h9 | h9
        · rw [h9, b2, hr0]; decide
        · rw [h9]; decide
      · have h9 := (hRl j hjn).trans (r2 j hjn)
        exact ⟨h9.lo, h9.hi, fun _ => h9.role⟩
  · right
    have hgo1 : (g.node i).pat ≤ (g.node i).elapsed + 1 := Classical.not_not.1 fun hx => hgo (.inl hx)
    have hgo2 : ¬ (g.node i).maj (cnt (upd (g.node i).hd (g.node i).id true)) = true := fun hx => hgo (.inr hx)
    have ht : (g.node i).tick = ((({ (g.node i).tickS with elapsed := 0 } : Nd).follow (g.node i).tickS.term (-1)), []) := by
      unfold Nd.tick
      rw [if_pos hr]
      unfold Nd.tickLeader
      rw [if_pos (show (g.node i).tickS.pat ≤ (g.node i).tickS.elapsed from hgo1), if_neg (show ¬ (g.node i).tickS.maj (cnt (upd (g.node i).tickS.hd (g.node i).tickS.id true)) = true from hgo2)]
    obtain ⟨w1, w2, w3⟩ := tick_way hway (by rw [hlen]; exact hi) ht (by simp)
    have hend : g.turn i = g.tick i := turn_end (g := g) (i := i) (k := 0) (by omega) w1
    rw [hend]
    refine ⟨hJt, w1, by rw [w2, fol_role]; decide, fun j hjn => ?_⟩
    by_cases hji : j = i
    · rw [hji, w2, follow_term]
      show (g.node i).term ≤ max (g.node i).term (g.node i).term ∧ max (g.node i).term (g.node i).term ≤ T ∧ _
      have := hT i hi
      exact ⟨by omega, by omega, fun hx => absurd rfl hx⟩
    · rw [w3 j hji]
      exact ⟨Int.le_refl _, hT j hjn, fun _ => .inl rfl⟩

end Go.Proofs.Yteiecbkfganhnaa

namespace Go.Proofs.Yteiecbkfganhnaa

section
variable {n i : Nat} {g : Gp}

/-- A node that waits ticks. -/
theorem idle_turn (hJ : J n g) (hway : g.way = []) (hi : i < n) (hr : (g.node i).role ≠ 3) (he : (g.node i).elapsed + 1 < (g.node i).pat) :
    J n (g.turn i) ∧ (g.turn i).way = [] ∧ (g.turn i).node i = (g.node i).tickS ∧ ∀ j, j ≠ i → (g.turn i).node j = g.node j := by
  have ht : (g.node i).tick = ((g.node i).tickS, []) := by
    unfold Nd.tick
    rw [if_neg hr, if_pos (.inl he)]
  obtain ⟨w1, w2, w3⟩ := tick_way hway (by rw [hJ.len]; exact hi) ht (by simp)
  have hend : g.turn i = g.tick i := turn_end (g := g) (i := i) (k := 0) (by omega) w1
  rw [hend]
  exact ⟨hJ.tick hi, w1, w2, w3⟩

/-- x leads, at number k of a round. P: all is committed at it; Q: and at the others. -/
structure SyP (n x k : Nat) (T : Int) (L : List Ent) (P Q : Prop) (g : Gp) : Prop where
  syn : Syn n x g
  el : ∀ j, j < n → j ≠ x → (g.node j).elapsed ≤ (if k ≤ x then 1 else 0) + (if j < k then 1 else 0)
  pats : ∀ j, j < n → 4 ≤ (g.node j).pat
  term : (g.node x).term = T
  log : (g.node x).log = L
  p : P → (g.node x).commit = L.length
  q : Q → ∀ j, j < n → j ≠ x → (g.node j).commit = L.length

variable {x k : Nat} {T : Int} {L : List Ent} {P Q : Prop}

theorem SyP.other (h : SyP n x k T L P Q g) (hk : k < n) (hkx : k ≠ x) : SyP n x (k + 1) T L P Q (g.turn k) := by
  obtain ⟨f1, f2, f3, f4, f5⟩ := h.syn.fo k hk hkx
  have hel := h.el k hk hkx
  have hp := h.pats k hk
  rw [if_neg (Nat.lt_irrefl k)] at hel
  have hel1 : (g.node k).elapsed ≤ 1 := by split at hel <;> omega
  obtain ⟨a1, a2, a3, a4⟩ := idle_turn h.syn.j h.syn.way hk (by rw [f2]; decide) (by omega)
  have ax := a4 x (fun hx => hkx hx.symm)
  refine ⟨⟨a1, a2, h.syn.xn, by rw [ax]; exact h.syn.role, fun j hj hjx => ?_⟩, fun j hj hjx => ?_, fun j hj => by rw [pat_turn]; exact h.pats j hj, by rw [ax]; exact h.term, by rw [ax]; exact h.log, fun hP => by rw [ax]; exact h.p hP, fun hQ j hj hjx => ?_⟩
  · rw [ax]
    by_cases hjk : j = k
    · rw [hjk, a3]; exact ⟨f1, f2, f3, f4, f5⟩
    · rw [a4 j hjk]; exact h.syn.fo j hj hjx
  · by_cases hjk : j = k
    · rw [hjk, a3, if_pos (show k < k + 1 by omega)]
      show (g.node k).elapsed + 1 ≤ _
      by_cases h1 : k ≤ x
      · rw [if_pos h1] at hel
        rw [if_pos (show k + 1 ≤ x by omega)]; omega
      · rw [if_neg h1] at hel
        rw [if_neg (show ¬ k + 1 ≤ x by omega)]; omega
    · rw [a4 j hjk]
      have := h.el j hj hjx
      by_cases h1 : k ≤ x
      · rw [if_pos h1] at this
        rw [if_pos (show k + 1 ≤ x by omega)]
        by_cases h2 : j < k
        · rw [if_pos h2] at this; rw [if_pos (show j < k + 1 by omega)]; exact this
        · rw [if_neg h2] at this; rw [if_neg (show ¬ j < k + 1 by omega)]; exact this
      · rw [if_neg h1] at this
        rw [if_neg (show ¬ k + 1 ≤ x by omega)]
        by_cases h2 : j < k
        · rw [if_pos h2] at this; rw [if_pos (show j < k + 1 by omega)]; exact this
        · rw [if_neg h2] at this; rw [if_neg (show ¬ j < k + 1 by omega)]; exact this
  · by_cases hjk : j = k
    · rw [hjk, a3]; exact h.q hQ k hk hkx
    · rw [a4 j hjk]; exact h.q hQ j hj hjx

theorem syp_first {g' : Gp} (h : Syn n x g') (hel : ∀ j, j < n → j ≠ x → (g'.node j).elapsed = 0) (hp : ∀ j, j < n → 4 ≤ (g'.node j).pat) (hP : P → (g'.node x).commit = (g'.node x).log.length) (hQ : Q → ∀ j, j < n → j ≠ x → (g'.node j).commit = (g'.node x).log.length) :
    SyP n x (x + 1) (g'.node x).term (g'.node x).log P Q g' :=
  ⟨h, fun j hj hjx => by rw [hel j hj hjx]; split <;> split <;> omega, hp, rfl, rfl, hP, hQ⟩

theorem SyP.self (h : SyP n x x T L P Q g) : SyP n x (x + 1) T L P P (g.turn x) := by
  obtain ⟨r1, r2, r3, r4, r5⟩ := syn_turn P h.syn (fun hP => by rw [h.p hP, h.log])
  have h1 := syp_first (P := P) (Q := P) r1 r4 (fun j hj => by rw [pat_turn]; exact h.pats j hj) (fun hP => by rw [(r5 hP).1, r3]) (fun hP j hj hjx => by rw [(r5 hP).2 j hj hjx, r3])
  rw [r2, r3, h.term, h.log] at h1
  exact h1

theorem SyP.weak {P' Q' : Prop} (h : SyP n x k T L P Q g) (hP : P' → P) (hQ : Q' → Q) : SyP n x k T L P' Q' g :=
  ⟨h.syn, h.el, h.pats, h.term, h.log, fun hx => h.p (hP hx), fun hx => h.q (hQ hx)⟩

theorem SyP.again (h : SyP n x n T L P Q g) : SyP n x 0 T L P Q g :=
  ⟨h.syn, fun j hj hjx => by
    have h1 := h.el j hj hjx
    have h2 := h.syn.xn
    rw [if_neg (by omega), if_pos hj] at h1
    rw [if_pos (Nat.zero_le _), if_neg (by omega)]
    omega, h.pats, h.term, h.log, h.p, h.q⟩

theorem SyP.step (h : SyP n x k T L P (x < k ∧ P) g) (hk : k < n) : SyP n x (k + 1) T L P (x < k + 1 ∧ P) (g.turn k) := by
  by_cases hkx : k = x
  · subst hkx
    exact h.self.weak id fun hx => hx.2
  · exact (h.other hk hkx).weak id fun hx => ⟨by omega, hx.2⟩

theorem SyP.roundTo (d : Nat) : ∀ k, k + d ≤ n → SyP n x k T L P (x < k ∧ P) (g.roundTo k) → SyP n x (k + d) T L P (x < k + d ∧ P) (g.roundTo (k + d)) := by
  induction d with
  | zero => intro k _ h; exact h
  | succ d ih =>
    intro k hk h
    have h1 := ih k (by omega) h
    exact h1.step (k := k + d) (by omega)

theorem SyP.round (h : SyP n x 0 T L P Q g) : SyP n x 0 T L P P (g.roundTo n) := by
  have h1 := SyP.roundTo (g := g) n 0 (by omega) (h.weak id fun hx => absurd hx.1 (Nat.not_lt_zero _))
  rw [Nat.zero_add] at h1
  have h2 := h.syn.xn
  exact (h1.again).weak id fun hx => ⟨h2, hx⟩

theorem SyP.rounds (h : SyP n x 0 T L P Q g) (m : Nat) : SyP n x 0 T L P Q (g.rounds n m) ∨ SyP n x 0 T L P P (g.rounds n m) := by
  induction m with
  | zero => exact .inl h
  | succ m ih =>
    rcases ih with h1 | h1
    · exact .inr h1.round
    · exact .inr h1.round

theorem SyP.rounds1 (h : SyP n x 0 T L P Q g) (m : Nat) : SyP n x 0 T L P P (g.rounds n (m + 1)) := by
  rcases h.rounds m with h1 | h1
  · exact h1.round
  · exact h1.round

end

/-- One leads, and all follow. -/
def Led (n k : Nat) (g : Gp) : Prop := ∃ x T L, SyP n x k T L False False g

theorem Led.step {n k : Nat} {g : Gp} (h : Led n k g) (hk : k < n) : Led n (k + 1) (g.turn k) := by
  obtain ⟨x, T, L, h⟩ := h
  exact ⟨x, T, L, (SyP.step (h.weak id fun hx => hx.2) hk).weak id fun hx => hx.elim⟩

theorem Led.again {n : Nat} {g : Gp} (h : Led n n g) : Led n 0 g := by
  obtain ⟨x, T, L, h⟩ := h
  exact ⟨x, T, L, h.again⟩

theorem Led.rounds {n : Nat} {g : Gp} (h : Led n 0 g) (m : Nat) : Led n 0 (g.rounds n m) := by
  obtain ⟨x, T, L, h⟩ := h
  rcases h.rounds m with h1 | h1 <;> exact ⟨x, T, L, h1⟩

/-- What holds while it may be that none leads: T the greatest term. -/
structure Bs (n : Nat) (T : Int) (g : Gp) : Prop where
  j : J n g
  way : g.way = []
  tm : ∀ j, j < n → (g.node j).term ≤ T
  top : ∃ z, z < n ∧ (g.node z).term = T
  lo : ∀ j, j < n → 4 ≤ (g.node j).pat
  hi : ∀ j, j < n → (g.node j).pat ≤ 34
  t1 : T ≤ 999990

theorem J.n1 {n : Nat} {g : Gp} (h : J n g) : 1 ≤ n ∧ n ≤ 7 := by
  obtain ⟨_, hj⟩ := h
  exact ⟨hj.n1, hj.n7⟩

/-- One that is alone leads when its patience is at its end. -/
theorem alone_turn {g : Gp} (hJ : J 1 g) (hway : g.way = []) (hr : (g.node 0).role ≠ 3) (hto : (g.node 0).pat ≤ (g.node 0).elapsed + 1) (ht : (g.node 0).term < 1000000) : Syn 1 0 (g.turn 0) := by
  have hlen := hJ.len
  have hJ0 := hJ
  obtain ⟨hh, hj⟩ := hJ0
  have hni := (hj.node (i := 0) (by omega)).2
  have hm1 : ∀ s : Nd, s.n = 1 → s.gr = upd none7 0 true → s.maj (cnt s.gr) = true := by
    intro s h1 h2
    rw [h2, cnt1 _ (by omega)]
    unfold Nd.maj
    rw [h1]
    exact decide_eq_true (by omega)
  obtain ⟨s', hs', e1, e2, e3⟩ : ∃ s' : Nd, (g.node 0).tick = (s', s'.appends) ∧ s'.role = 3 ∧ s'.n = 1 ∧ s'.id = 0 := by
    unfold Nd.tick
    rw [if_neg hr, if_neg (by omega)]
    unfold Nd.ask
    rw [if_pos (hm1 ((g.node 0).tickS.campaign 1) hni.fn (by show upd none7 (g.node 0).id true = _; rw [hni.fid]))]
    unfold Nd.stand
    rw [if_pos (hm1 ((g.node 0).tickS.campaign 1).standS hni.fn (by show upd none7 (g.node 0).id true = _; rw [hni.fid]))]
    exact ⟨_, rfl, (lead_facts _).1, (lead_fix _).2.trans hni.fn, (lead_fix _).1.trans hni.fid⟩
  have ho : s'.appends = [] := by
    unfold Nd.appends
    have : s'.others = [] := by
      apply List.eq_nil_iff_forall_not_mem.2
      intro j hjm
      obtain ⟨h1, h2⟩ := (others_mem e3 e2 j).1 hjm
      omega
    rw [this]; rfl
  rw [ho] at hs'
  obtain ⟨w1, w2, w3⟩ := tick_way hway (by rw [hlen]; omega) hs' (by simp)
  have hend : g.turn 0 = g.tick 0 := turn_end (g := g) (i := 0) (k := 0) (by omega) w1
  rw [hend]
  exact ⟨hJ.tick (by omega), w1, by omega, by rw [w2]; exact e1, fun j h1 h2 => by omega⟩

section
variable {n k : Nat} {T : Int} {g : Gp}

theorem Bs.pats {g' : Gp} (h : Bs n T g) (k : Nat) (hg : g' = g.turn k) : (∀ j, j < n → 4 ≤ (g'.node j).pat) ∧ (∀ j, j < n → (g'.node j).pat ≤ 34) := by
  rw [hg]
  exact ⟨fun j hj => by rw [pat_turn]; exact h.lo j hj, fun j hj => by rw [pat_turn]; exact h.hi j hj⟩

theorem Bs.led {x : Nat} (h : Bs n T g) (hs : Syn n x (g.turn x)) (he : ∀ j, j < n → j ≠ x → ((g.turn x).node j).elapsed = 0) : Led n (x + 1) (g.turn x) :=
  ⟨x, _, _, syp_first hs he (h.pats x rfl).1 (fun hf => hf.elim) (fun hf => hf.elim)⟩

/-- A turn of a node that does not lead. -/
theorem Bs.turn (h : Bs n T g) (hk : k < n) (hr : (g.node k).role ≠ 3) :
    Led n (k + 1) (g.turn k) ∨
    (Bs n T (g.turn k) ∧ (g.node k).elapsed + 1 < (g.node k).pat ∧ (g.turn k).node k = (g.node k).tickS ∧ ∀ j, j ≠ k → (g.turn k).node j = g.node j) ∨
    (Bs n T (g.turn k) ∧ (g.node k).pat ≤ (g.node k).elapsed + 1 ∧ Asked n k T g (g.turn k)) := by
  obtain ⟨p1, p2⟩ := h.pats k rfl
  by_cases he : (g.node k).elapsed + 1 < (g.node k).pat
  · obtain ⟨a1, a2, a3, a4⟩ := idle_turn h.j h.way hk hr he
    have htm : ∀ j, ((g.turn k).node j).term = (g.node j).term := by
      intro j
      by_cases hjk : j = k
      · rw [hjk, a3]; rfl
      · rw [a4 j hjk]
    obtain ⟨z, hz1, hz2⟩ := h.top
    exact .inr (.inl ⟨⟨a1, a2, fun j hj => by rw [htm]; exact h.tm j hj, ⟨z, hz1, by rw [htm]; exact hz2⟩, p1, p2, h.t1⟩, he, a3, a4⟩)
  · have hto : (g.node k).pat ≤ (g.node k).elapsed + 1 := by omega
    obtain ⟨n1, n7⟩ := h.j.n1
    by_cases h2 : 2 ≤ n
    · rcases ask_turn h.j h.way hk h2 hr hto h.tm h.top h.t1 with ⟨r1, r2⟩ | hA
      · exact .inl (h.led r1 r2)
      · refine .inr (.inr ⟨⟨hA.j, hA.way, fun j hj => ?_, ⟨k, hk, hA.term⟩, p1, p2, h.t1⟩, hto, hA⟩)
        by_cases hjk : j = k
        · rw [hjk, hA.term]; exact Int.le_refl _
        · have h3 := (hA.oth j hj hjk).hi
          have h4 := h.tm j hj
          omega
    · have hn : n = 1 := by omega
      subst hn
      have hk0 : k = 0 := by omega
      subst hk0
      have h3 := h.tm 0 hk
      have h4 := h.t1
      exact .inl (h.led (alone_turn h.j h.way hr hto (by omega)) fun j h5 h6 => by omega)

/-- The first round: behind it one leads and all follow, or none leads. -/
theorem first_round (h : Bs n T g) : ∀ k, k ≤ n → Led n k (g.roundTo k) ∨ (Bs n T (g.roundTo k) ∧ ∀ j, j < k → ((g.roundTo k).node j).role ≠ 3) := by
  intro k
  induction k with
  | zero => intro _; exact .inr ⟨h, fun j hj => by omega⟩
  | succ k ih =>
    intro hk
    rcases ih (by omega) with h1 | ⟨h1, h2⟩
    · exact .inl (h1.step (by omega))
    · show Led n (k + 1) ((g.roundTo k).turn k) ∨ (Bs n T ((g.roundTo k).turn k) ∧ ∀ j, j < k + 1 → (((g.roundTo k).turn k).node j).role ≠ 3)
      generalize g.roundTo k = G at *
      have hkn : k < n := by omega
      by_cases hr : (G.node k).role = 3
      · rcases old_turn h1.j h1.way hkn hr h1.tm h1.t1 with ⟨r1, r2⟩ | hT
        · exact .inl (h1.led r1 r2)
        · obtain ⟨p1, p2⟩ := h1.pats k rfl
          obtain ⟨z, hz1, hz2⟩ := h1.top
          refine .inr ⟨⟨hT.j, hT.way, fun j hj => (hT.rl j hj).2.1, ⟨z, hz1, ?_⟩, p1, p2, h1.t1⟩, fun j hj => ?_⟩
          · have h3 := (hT.rl z hz1).1
            have h4 := (hT.rl z hz1).2.1
            omega
          · by_cases hjk : j = k
            · rw [hjk]; exact hT.role
            · rcases (hT.rl j (by omega)).2.2 hjk with h5 | h5
              · rw [h5]; exact h2 j (by omega)
              · rw [h5]; decide
      · rcases h1.turn hkn hr with h3 | ⟨h3, _, h4, h5⟩ | ⟨h3, _, hA⟩
        · exact .inl h3
        · refine .inr ⟨h3, fun j hj => ?_⟩
          by_cases hjk : j = k
          · rw [hjk, h4]; exact hr
          · rw [h5 j hjk]; exact h2 j (by omega)
        · refine .inr ⟨h3, fun j hj => ?_⟩
          by_cases hjk : j = k
          · rw [hjk]; exact hA.role
          · rcases (hA.oth j (by omega) hjk).role with h5 | h5
            · rw [h5]; exact h2 j (by omega)
            · rw [h5]; decide

end

end Go.Proofs.Yteiecbkfganhnaa

namespace Go.Proofs.Yteiecbkfganhnaa

/-- Not all that may lie behind is behind it: its term is less, or it thinks that some node leads. -/
def ndn (T : Int) (g : Gp) (j : Nat) : Bool := !(decide ((g.node j).term = T) && decide ((g.node j).leads = -1))

theorem ndn_false {T : Int} {g : Gp} {j : Nat} : ndn T g j = false ↔ (g.node j).term = T ∧ (g.node j).leads = -1 := by
  unfold ndn
  simp

theorem cntTo_congr {a b : Nat → Bool} (m : Nat) (h : ∀ j, j < m → a j = b j) : cntTo a m = cntTo b m := by
  induction m with
  | zero => rfl
  | succ m ih => simp only [cntTo]; rw [ih fun j hj => h j (by omega), h m (by omega)]

theorem cntTo_less {a b : Nat → Bool} {k : Nat} (m : Nat) (hk : k < m) (h : ∀ j, j < m → a j = true → b j = true) (h1 : a k = false) (h2 : b k = true) : cntTo a m < cntTo b m := by
  induction m with
  | zero => omega
  | succ m ih =>
    simp only [cntTo]
    by_cases hkm : k = m
    · subst hkm
      have h3 := cntTo_sub (a := a) (b := b) (m := k) fun j hj => h j (by omega)
      rw [h1, h2]
      have e1 : b1 false = 0 := rfl
      have e2 : b1 true = 1 := rfl
      rw [e1, e2]
      omega
    · have h3 := ih (by omega) fun j hj => h j (by omega)
      have h4 : b1 (a m) ≤ b1 (b m) := by
        have := h m (by omega)
        unfold b1
        cases ha : a m
        · simp
        · rw [this ha]; simp
      omega

theorem cntTo_zero {a : Nat → Bool} (m : Nat) (h : ∀ j, j < m → a j = false) : cntTo a m = 0 := by
  induction m with
  | zero => rfl
  | succ m ih => simp only [cntTo]; rw [ih fun j hj => h j (by omega), h m (by omega)]; rfl

theorem cntTo_none {a : Nat → Bool} {m : Nat} (h : cntTo a m = 0) : ∀ j, j < m → a j = false := by
  induction m with
  | zero => intro j hj; omega
  | succ m ih =>
    simp only [cntTo] at h
    intro j hj
    by_cases hjm : j = m
    · subst hjm
      cases ha : a j with
      | false => rfl
      | true => rw [ha] at h; simp [b1] at h
    · exact ih (by omega) j (by omega)

/-- None leads. -/
structure Nl (n : Nat) (T : Int) (g : Gp) : Prop where
  bs : Bs n T g
  no : ∀ j, j < n → (g.node j).role ≠ 3

/-- A while in which none leads: r rounds and k turns of it are behind us. -/
def Wn (n : Nat) (T : Int) (c r k : Nat) (g : Gp) : Prop := Nl n T g ∧ (cntTo (ndn T g) n < c ∨ (cntTo (ndn T g) n ≤ c ∧ (∀ j, j < n → ndn T g j = true → (r : Int) + (if j < k then 1 else 0) ≤ (g.node j).elapsed) ∧ (34 ≤ r → ∀ j, j < k → ndn T g j = false)))

section
variable {n : Nat} {T : Int} {g : Gp} {c r k : Nat}

theorem Nl.asked (h : Nl n T g) (hA : Asked n k T g (g.turn k)) (hb : Bs n T (g.turn k)) : Nl n T (g.turn k) ∧ (∀ j, j < n → ndn T (g.turn k) j = true → ndn T g j = true) ∧ ndn T (g.turn k) k = false := by
  refine ⟨⟨hb, fun j hj => ?_⟩, fun j hj hx => ?_, ndn_false.2 ⟨hA.term, hA.leads⟩⟩
  · by_cases hjk : j = k
    · rw [hjk]; exact hA.role
    · rcases (hA.oth j hj hjk).role with h1 | h1
      · rw [h1]; exact h.no j hj
      · rw [h1]; decide
  · by_cases hjk : j = k
    · subst hjk
      rw [ndn_false.2 ⟨hA.term, hA.leads⟩] at hx; cases hx
    · cases hy : ndn T g j with
      | true => rfl
      | false =>
        obtain ⟨h1, h2⟩ := ndn_false.1 hy
        have hv := hA.oth j hj hjk
        have h3 := hv.lo
        have h4 := hv.hi
        have h5 : ndn T (g.turn k) j = false := ndn_false.2 ⟨by omega, by rcases hv.leads with h6 | h6 <;> rw [h6]; exact h2⟩
        rw [h5] at hx; cases hx

theorem Wn.step (h : Wn n T c r k g) (hk : k < n) : Led n (k + 1) (g.turn k) ∨ Wn n T c r (k + 1) (g.turn k) := by
  obtain ⟨hN, hw⟩ := h
  rcases hN.bs.turn hk (hN.no k hk) with h1 | ⟨hb, he, h4, h5⟩ | ⟨hb, he, hA⟩
  · exact .inl h1
  · right
    have hsame : ∀ j, ndn T (g.turn k) j = ndn T g j := by
      intro j
      unfold ndn
      by_cases hjk : j = k
      · rw [hjk, h4]; rfl
      · rw [h5 j hjk]
    have hc : cntTo (ndn T (g.turn k)) n = cntTo (ndn T g) n := cntTo_congr n fun j _ => hsame j
    refine ⟨⟨hb, fun j hj => ?_⟩, ?_⟩
    · by_cases hjk : j = k
      · rw [hjk, h4]; exact hN.no k hk
      · rw [h5 j hjk]; exact hN.no j hj
    · rw [hc]
      rcases hw with hw | ⟨w1, w2, w3⟩
      · exact .inl hw
      · refine .inr ⟨w1, fun j hj hx => ?_, fun hr j hj => ?_⟩
        · rw [hsame] at hx
          have h6 := w2 j hj hx
          by_cases hjk : j = k
          · subst hjk
            rw [if_neg (Nat.lt_irrefl j)] at h6
            rw [h4, if_pos (Nat.lt_succ_self j)]
            show (r : Int) + 1 ≤ (g.node j).elapsed + 1
            omega
          · rw [h5 j hjk]
            by_cases h7 : j < k
            · rw [if_pos h7] at h6; rw [if_pos (by omega)]; exact h6
            · rw [if_neg h7] at h6; rw [if_neg (by omega)]; exact h6
        · rw [hsame]
          by_cases hjk : j = k
          · subst hjk
            cases hx : ndn T g j with
            | false => rfl
            | true =>
              have h6 := w2 j hk hx
              rw [if_neg (Nat.lt_irrefl j)] at h6
              have h7 := hN.bs.hi j hk
              omega
          · exact w3 hr j (by omega)
  · right
    obtain ⟨hN', hmono, hkf⟩ := hN.asked hA hb
    refine ⟨hN', ?_⟩
    have hle : cntTo (ndn T (g.turn k)) n ≤ cntTo (ndn T g) n := cntTo_sub hmono
    cases hkn : ndn T g k with
    | true =>
      left
      have h6 := cntTo_less n hk hmono hkf hkn
      rcases hw with hw | ⟨w1, _⟩ <;> omega
    | false =>
      have hot := hA.same (ndn_false.1 hkn).1
      have hsame : ∀ j, ndn T (g.turn k) j = ndn T g j := by
        intro j
        by_cases hjk : j = k
        · rw [hjk, hkf, hkn]
        · unfold ndn; rw [hot j hjk]
      rcases hw with hw | ⟨w1, w2, w3⟩
      · exact .inl (by omega)
      · refine .inr ⟨by omega, fun j hj hx => ?_, fun hr j hj => ?_⟩
        · rw [hsame] at hx
          have hjk : j ≠ k := by rintro rfl; rw [hkn] at hx; cases hx
          have h6 := w2 j hj hx
          rw [hot j hjk]
          by_cases h7 : j < k
          · rw [if_pos h7] at h6; rw [if_pos (by omega)]; exact h6
          · rw [if_neg h7] at h6; rw [if_neg (by omega)]; exact h6
        · by_cases hjk : j = k
          · rw [hjk]; exact hkf
          · rw [hsame]; exact w3 hr j (by omega)

theorem Wn.round (h : Wn n T c r 0 g) : ∀ k, k ≤ n → Led n k (g.roundTo k) ∨ Wn n T c r k (g.roundTo k) := by
  intro k
  induction k with
  | zero => intro _; exact .inr h
  | succ k ih =>
    intro hk
    rcases ih (by omega) with h1 | h1
    · exact .inl (h1.step (by omega))
    · exact h1.step (by omega)

theorem Nl.rounds (h : Nl n T g) : ∀ r, Led n 0 (g.rounds n r) ∨ Wn n T (cntTo (ndn T g) n) r 0 (g.rounds n r) := by
  intro r
  induction r with
  | zero =>
    refine .inr ⟨h, .inr ⟨Nat.le_refl _, fun j hj _ => ?_, fun hx => absurd hx (by omega)⟩⟩
    have hJ := h.bs.j
    obtain ⟨hh, hj'⟩ := hJ
    have := (hj'.node hj).2.ok.e0
    rw [if_neg (by omega)]
    show ((0 : Nat) : Int) + 0 ≤ (g.node j).elapsed
    omega
  | succ r ih =>
    show Led n 0 ((g.rounds n r).roundTo n) ∨ Wn n T _ (r + 1) 0 ((g.rounds n r).roundTo n)
    rcases ih with h1 | h1
    · exact .inl (h1.rounds 1)
    · rcases h1.round n (Nat.le_refl _) with h2 | ⟨h2, h3⟩
      · exact .inl h2.again
      · refine .inr ⟨h2, ?_⟩
        rcases h3 with h3 | ⟨w1, w2, w3⟩
        · exact .inl h3
        · refine .inr ⟨w1, fun j hj hx => ?_, fun _ j hj => by omega⟩
          have h6 := w2 j hj hx
          rw [if_pos hj] at h6
          rw [if_neg (by omega)]
          omega

theorem Nl.window (h : Nl n T g) : Led n 0 (g.rounds n 35) ∨ (Nl n T (g.rounds n 35) ∧ (cntTo (ndn T (g.rounds n 35)) n < cntTo (ndn T g) n ∨ cntTo (ndn T (g.rounds n 35)) n = 0)) := by
  show Led n 0 ((g.rounds n 34).roundTo n) ∨ (Nl n T ((g.rounds n 34).roundTo n) ∧ (cntTo (ndn T ((g.rounds n 34).roundTo n)) n < _ ∨ cntTo (ndn T ((g.rounds n 34).roundTo n)) n = 0))
  rcases h.rounds 34 with h1 | h1
  · exact .inl (h1.rounds 1)
  · rcases h1.round n (Nat.le_refl _) with h2 | ⟨h2, h3⟩
    · exact .inl h2.again
    · refine .inr ⟨h2, ?_⟩
      rcases h3 with h3 | ⟨_, _, w3⟩
      · exact .inl h3
      · exact .inr (cntTo_zero n fun j hj => w3 (Nat.le_refl _) j hj)

theorem Nl.windows (h : Nl n T g) : ∀ m, Led n 0 (g.rounds n (35 * m)) ∨ (Nl n T (g.rounds n (35 * m)) ∧ cntTo (ndn T (g.rounds n (35 * m))) n ≤ 7 - m) := by
  intro m
  induction m with
  | zero =>
    refine .inr ⟨h, ?_⟩
    have h1 := cntTo_le (ndn T g) n
    have h2 := h.bs.j.n1.2
    show cntTo (ndn T g) n ≤ 7
    omega
  | succ m ih =>
    rw [show 35 * (m + 1) = 35 * m + 35 by omega, rounds_add]
    rcases ih with h1 | ⟨h1, h2⟩
    · exact .inl (h1.rounds 35)
    · rcases h1.window with h3 | ⟨h3, h4⟩
      · exact .inl h3
      · refine .inr ⟨h3, ?_⟩
        rcases h4 with h4 | h4 <;> omega

/-- L is as good a log as l. -/
def Gd (l L : List Ent) : Prop := Nd.termAt l l.length < Nd.termAt L L.length ∨ (Nd.termAt L L.length = Nd.termAt l l.length ∧ l.length ≤ L.length)

theorem gd_best (f : Nat → List Ent) : ∀ m, 1 ≤ m → ∃ b, b < m ∧ ∀ j, j < m → Gd (f j) (f b) := by
  intro m
  induction m with
  | zero => intro h; omega
  | succ m ih =>
    intro _
    by_cases hm : m = 0
    · subst hm
      exact ⟨0, by omega, fun j hj => by
        have : j = 0 := by omega
        subst this; exact .inr ⟨rfl, Nat.le_refl _⟩⟩
    · obtain ⟨b, hb, hall⟩ := ih (by omega)
      by_cases hg : Gd (f m) (f b)
      · refine ⟨b, by omega, fun j hj => ?_⟩
        by_cases hjm : j = m
        · rw [hjm]; exact hg
        · exact hall j (by omega)
      · refine ⟨m, by omega, fun j hj => ?_⟩
        by_cases hjm : j = m
        · rw [hjm]; exact .inr ⟨rfl, Nat.le_refl _⟩
        · have h1 := hall j (by omega)
          unfold Gd at hg h1 ⊢
          omega

/-- None leads, all is behind all; b has the best log; it waits. -/
def Fn (n : Nat) (T : Int) (b r k : Nat) (g : Gp) : Prop := Nl n T g ∧ (∀ j, j < n → ndn T g j = false) ∧ (∀ j, j < n → Gd (g.node j).log (g.node b).log) ∧ (r : Int) + (if b < k then 1 else 0) ≤ (g.node b).elapsed ∧ (34 ≤ r → k ≤ b)

theorem Fn.step {b : Nat} (hb : b < n) (h : Fn n T b r k g) (hk : k < n) : Led n (k + 1) (g.turn k) ∨ Fn n T b r (k + 1) (g.turn k) := by
  obtain ⟨hN, hd, hg, he, hr⟩ := h
  rcases hN.bs.turn hk (hN.no k hk) with h1 | ⟨hB, hel, h4, h5⟩ | ⟨hB, hel, hA⟩
  · exact .inl h1
  · right
    have hlog : ∀ j, ((g.turn k).node j).log = (g.node j).log := by
      intro j
      by_cases hjk : j = k
      · rw [hjk, h4]; rfl
      · rw [h5 j hjk]
    refine ⟨⟨hB, fun j hj => ?_⟩, fun j hj => ?_, fun j hj => by rw [hlog, hlog]; exact hg j hj, ?_, fun h34 => ?_⟩
    · by_cases hjk : j = k
      · rw [hjk, h4]; exact hN.no k hk
      · rw [h5 j hjk]; exact hN.no j hj
    · have h6 := hd j hj
      unfold ndn at h6 ⊢
      by_cases hjk : j = k
      · subst hjk; rw [h4]; exact h6
      · rw [h5 j hjk]; exact h6
    · by_cases hbk : b = k
      · subst hbk
        rw [if_neg (Nat.lt_irrefl b)] at he
        rw [h4, if_pos (Nat.lt_succ_self b)]
        show (r : Int) + 1 ≤ (g.node b).elapsed + 1
        omega
      · rw [h5 b hbk]
        by_cases h7 : b < k
        · rw [if_pos h7] at he; rw [if_pos (by omega)]; exact he
        · rw [if_neg h7] at he; rw [if_neg (by omega)]; exact he
    · have h6 := hr h34
      by_cases hbk : k = b
      · exfalso
        subst hbk
        rw [if_neg (Nat.lt_irrefl k)] at he
        have := hN.bs.hi k hk
        omega
      · omega
  · by_cases hbk : k = b
    · exfalso
      subst hbk
      obtain ⟨j, h1, h2, h3⟩ := hA.no (ndn_false.1 (hd k hk)).1
      obtain ⟨d1, d2⟩ := ndn_false.1 (hd j h1)
      refine h3 ⟨by omega, hg j h1, ?_⟩
      unfold Nd.knows
      rw [d2]; rfl
    · right
      have hot := hA.same (ndn_false.1 (hd k hk)).1
      obtain ⟨hN', _, hkf⟩ := hN.asked hA hB
      have hlog : ∀ j, ((g.turn k).node j).log = (g.node j).log := by
        intro j
        by_cases hjk : j = k
        · rw [hjk]; exact hA.log
        · rw [hot j hjk]
      refine ⟨hN', fun j hj => ?_, fun j hj => by rw [hlog, hlog]; exact hg j hj, ?_, fun h34 => ?_⟩
      · by_cases hjk : j = k
        · rw [hjk]; exact hkf
        · have h6 := hd j hj
          unfold ndn at h6 ⊢
          rw [hot j hjk]; exact h6
      · rw [hot b (fun hx => hbk hx.symm)]
        by_cases h7 : b < k
        · rw [if_pos h7] at he; rw [if_pos (by omega)]; exact he
        · rw [if_neg h7] at he; rw [if_neg (by omega)]; exact he
      · have h6 := hr h34
        omega

theorem Fn.round {b : Nat} (hb : b < n) (h : Fn n T b r 0 g) : ∀ k, k ≤ n → Led n k (g.roundTo k) ∨ Fn n T b r k (g.roundTo k) := by
  intro k
  induction k with
  | zero => intro _; exact .inr h
  | succ k ih =>
    intro hk
    rcases ih (by omega) with h1 | h1
    · exact .inl (h1.step (by omega))
    · exact h1.step hb (by omega)

theorem Fn.rounds {b : Nat} (hb : b < n) (h : Fn n T b 0 0 g) : ∀ r, r ≤ 34 → Led n 0 (g.rounds n r) ∨ Fn n T b r 0 (g.rounds n r) := by
  intro r
  induction r with
  | zero => intro _; exact .inr h
  | succ r ih =>
    intro hr
    show Led n 0 ((g.rounds n r).roundTo n) ∨ Fn n T b (r + 1) 0 ((g.rounds n r).roundTo n)
    rcases ih (by omega) with h1 | h1
    · exact .inl (h1.rounds 1)
    · rcases h1.round hb n (Nat.le_refl _) with h2 | ⟨a1, a2, a3, a4, _⟩
      · exact .inl h2.again
      · rw [if_pos hb] at a4
        refine .inr ⟨a1, a2, a3, ?_, fun _ => Nat.zero_le _⟩
        rw [if_neg (by omega)]
        omega

theorem Nl.ends (h : Nl n T g) (hz : cntTo (ndn T g) n = 0) : Led n 0 (g.rounds n 35) := by
  obtain ⟨b, hb, hall⟩ := gd_best (fun j => (g.node j).log) n h.bs.j.n1.1
  have hF : Fn n T b 0 0 g := by
    refine ⟨h, cntTo_none hz, hall, ?_, fun hx => absurd hx (by omega)⟩
    have hJ := h.bs.j
    obtain ⟨hh, hj'⟩ := hJ
    have := (hj'.node hb).2.ok.e0
    rw [if_neg (by omega)]
    show ((0 : Nat) : Int) + 0 ≤ (g.node b).elapsed
    omega
  show Led n 0 ((g.rounds n 34).roundTo n)
  rcases hF.rounds hb 34 (Nat.le_refl _) with h1 | h1
  · exact h1.rounds 1
  · rcases h1.round hb n (Nat.le_refl _) with h2 | ⟨_, _, _, _, a5⟩
    · exact h2.again
    · have := a5 (Nat.le_refl _)
      omega

/-- Whatever was: behind 300 rounds one leads, and all follow. -/
theorem led_300 (h : Bs n T g) : Led n 0 (g.rounds n 300) := by
  have key : Led n 0 (g.rounds n 281) := by
    rw [show 281 = 1 + (245 + 35) by omega, rounds_add]
    show Led n 0 ((g.roundTo n).rounds n (245 + 35))
    rcases first_round h n (Nat.le_refl _) with h1 | ⟨h1, h2⟩
    · exact h1.again.rounds _
    · rw [rounds_add]
      rcases (Nl.mk h1 h2).windows 7 with h3 | ⟨h3, h4⟩
      · exact h3.rounds 35
      · exact h3.ends (by omega)
  rw [show 300 = 281 + 19 by omega, rounds_add]
  exact key.rounds 19

end

end Go.Proofs.Yteiecbkfganhnaa

namespace Go.Proofs.Yteiecbkfganhnaa

/-- What was written down of terms and of what is known stays. -/
def Kp (g g' : Gp) : Prop := g'.terms = g.terms ∧ g'.known = g.known
theorem Kp.refl (g : Gp) : Kp g g := ⟨rfl, rfl⟩
theorem Kp.trans {a b c : Gp} (h : Kp a b) (k : Kp b c) : Kp a c := ⟨k.1.trans h.1, k.2.trans h.2⟩
theorem kp_tell1 (g : Gp) : Kp g g.tell1 := by
  unfold Gp.tell1
  split
  · exact Kp.refl g
  · exact ⟨rfl, rfl⟩
theorem kp_tells (g : Gp) (k : Nat) : Kp g (g.tells k) := by
  induction k with
  | zero => exact Kp.refl g
  | succ k ih => exact ih.trans (kp_tell1 _)
theorem kp_turn (g : Gp) (i : Nat) : Kp g (g.turn i) := Kp.trans (b := g.tick i) ⟨rfl, rfl⟩ (kp_tells _ _)
theorem kp_roundTo (g : Gp) (k : Nat) : Kp g (g.roundTo k) := by
  induction k with
  | zero => exact Kp.refl g
  | succ k ih => exact ih.trans (kp_turn _ k)
theorem kp_rounds (g : Gp) (n k : Nat) : Kp g (g.rounds n k) := by
  induction k with
  | zero => exact Kp.refl g
  | succ k ih => exact ih.trans (kp_roundTo _ n)
theorem kp_patTo (g : Gp) (k : Nat) : Kp g (g.patTo k) := by
  induction k with
  | zero => exact Kp.refl g
  | succ k ih => exact ih.trans ⟨rfl, rfl⟩
theorem Kp.tb {g g' : Gp} (h : Kp g g') (ht : TB g) : TB g' := ⟨by rw [h.1]; exact ht.nd, by rw [h.1]; exact ht.rg, by rw [h.2]; exact ht.kn⟩

theorem patTo_way (g : Gp) (k : Nat) : (g.patTo k).way = g.way := by
  induction k with
  | zero => rfl
  | succ k ih => exact ih

theorem patTo_len (g : Gp) (k : Nat) : (g.patTo k).nodes.length = g.nodes.length := by
  induction k with
  | zero => rfl
  | succ k ih => show ((g.patTo k).nodes.set k _).length = _; rw [List.length_set, ih]

theorem patTo_node (g : Gp) : ∀ k, k ≤ g.nodes.length → ∀ j, (g.patTo k).node j = if j < k then { g.node j with pat := 4 + 5 * (j : Int) } else g.node j := by
  intro k
  induction k with
  | zero => intro _ j; rw [if_neg (by omega)]; rfl
  | succ k ih =>
    intro hk j
    show ((g.patTo k).put k { (g.patTo k).node k with pat := 4 + 5 * (k : Int) }).node j = _
    by_cases hjk : j = k
    · subst hjk
      rw [node_put_self (by rw [patTo_len]; omega), if_pos (by omega), ih (by omega) j, if_neg (by omega)]
    · rw [node_put_ne hjk, ih (by omega) j]
      by_cases h : j < k
      · rw [if_pos h, if_pos (by omega)]
      · rw [if_neg h, if_neg (by omega)]

theorem max_term (f : Nat → Int) : ∀ n, 1 ≤ n → ∃ T, (∀ j, j < n → f j ≤ T) ∧ ∃ z, z < n ∧ f z = T := by
  intro n
  induction n with
  | zero => intro h; omega
  | succ n ih =>
    intro _
    by_cases hn : n = 0
    · subst hn
      exact ⟨f 0, fun j hj => by rw [show j = 0 by omega]; exact Int.le_refl _, 0, by omega, rfl⟩
    · obtain ⟨T, h1, z, h2, h3⟩ := ih (by omega)
      by_cases hf : f n ≤ T
      · refine ⟨T, fun j hj => ?_, z, by omega, h3⟩
        by_cases hjn : j = n
        · rw [hjn]; exact hf
        · exact h1 j (by omega)
      · refine ⟨f n, fun j hj => ?_, n, by omega, rfl⟩
        by_cases hjn : j = n
        · rw [hjn]; exact Int.le_refl _
        · have := h1 j (by omega); omega

section
variable {n : Nat} {G : Gp}

theorem bs_pat (hJ : J n G) (hw : G.way = []) (ht : ∀ j, j < n → (G.node j).term ≤ 999600) : ∃ T, Bs n T (G.patTo n) := by
  obtain ⟨n1, n7⟩ := hJ.n1
  have hlen := hJ.len
  have hnode : ∀ j, j < n → (G.patTo n).node j = { G.node j with pat := 4 + 5 * (j : Int) } := fun j hj => by rw [patTo_node G n (by omega) j, if_pos hj]
  obtain ⟨T, h1, z, h2, h3⟩ := max_term (fun j => (G.node j).term) n n1
  refine ⟨T, hJ.patTo n (Nat.le_refl _) n7, by rw [patTo_way]; exact hw, fun j hj => by rw [hnode j hj]; exact h1 j hj, ⟨z, h2, by rw [hnode z h2]; exact h3⟩, fun j hj => ?_, fun j hj => ?_, ?_⟩
  · rw [hnode j hj]; show (4 : Int) ≤ 4 + 5 * (j : Int); omega
  · rw [hnode j hj]; show 4 + 5 * (j : Int) ≤ 34; omega
  · have := ht z h2
    have h4 : (G.node z).term = T := h3
    omega

variable {x : Nat} {T : Int} {L : List Ent} {P Q : Prop}

theorem syp_same {G' : Gp} {k : Nat} (h : SyP n x k T L P Q G) (hJ : J n G') (hn : G'.nodes = G.nodes) (hw : G'.way = G.way) : SyP n x k T L P Q G' := by
  have e : ∀ j, G'.node j = G.node j := fun j => by unfold Gp.node; rw [hn]
  refine ⟨⟨hJ, by rw [hw]; exact h.syn.way, h.syn.xn, by rw [e]; exact h.syn.role, fun j h1 h2 => by rw [e, e]; exact h.syn.fo j h1 h2⟩, fun j h1 h2 => by rw [e]; exact h.el j h1 h2, fun j h1 => by rw [e]; exact h.pats j h1, by rw [e]; exact h.term, by rw [e]; exact h.log, fun hP => by rw [e]; exact h.p hP, fun hQ j h1 h2 => by rw [e]; exact h.q hQ j h1 h2⟩

theorem syp_head {k : Nat} (h : SyP n x k T L P Q G) : G.headTo n = ((x : Int), T) := by
  have hJ := h.syn.j
  obtain ⟨hh, hj⟩ := hJ
  have h1 : 1 ≤ (G.node x).term := lead_term (hj.node h.syn.xn).2.ok h.syn.role
  have key : ∀ m, m ≤ n → G.headTo m = if x < m then ((x : Int), T) else (-1, 0) := by
    intro m
    induction m with
    | zero => intro _; rw [if_neg (by omega)]; rfl
    | succ m ih =>
      intro hm
      show (if (G.node m).role = 3 ∧ (G.headTo m).2 < (G.node m).term then ((m : Int), (G.node m).term) else G.headTo m) = _
      by_cases hmx : m = x
      · rw [hmx] at ih ⊢
        have h2 := ih (by omega)
        rw [if_neg (Nat.lt_irrefl x)] at h2
        rw [h2, if_pos ⟨h.syn.role, by show (0 : Int) < _; omega⟩, if_pos (by omega), h.term]
      · rw [if_neg (fun hx => by have := (h.syn.fo m (by omega) hmx).2.1; rw [hx.1] at this; cases this), ih (by omega)]
        by_cases h3 : x < m
        · rw [if_pos h3, if_pos (by omega)]
        · rw [if_neg h3, if_neg (by omega)]
  rw [key n (Nat.le_refl _), if_pos h.syn.xn]

theorem syp_known {k : Nat} (h : SyP n x k T L P Q G) : G.known.length ≤ L.length := by
  have hJ := h.syn.j
  obtain ⟨hh, hj⟩ := hJ
  have hT := lead_tm hj.gi (hj.node h.syn.xn).2 h.syn.xn h.syn.role
  rw [h.term, h.log] at hT
  rcases hj.kn with h0 | ⟨_, t, m, _, h2, h3, h4⟩
  · rw [h0]; exact Nat.zero_le _
  · obtain ⟨j, hjn, ha, _⟩ := h2.2.meet h2.2
    have hm := h2.1.1
    have h5 := (hj.node hjn).2.ta t (by omega)
    have h6 : (G.node j).term = T := by
      by_cases hjx : j = x
      · rw [hjx]; exact h.term
      · rw [(h.syn.fo j hjn hjx).1]; exact h.term
    exact (com_pre hT (Int.le_refl T) (.inr ⟨Nat.le_refl _, t, m, by omega, h2, h3, h4⟩)).1

theorem seenTo_known {m : Nat} (hc : ∀ j, j < n → (G.node j).commit = m ∧ m ≤ (G.node j).log.length) (hk : G.known.length ≤ m) : ∀ k, k ≤ n → (G.seenTo k).known.length ≤ m ∧ (1 ≤ k → (G.seenTo k).known.length = m) := by
  intro k
  induction k with
  | zero => intro _; exact ⟨hk, fun h => by omega⟩
  | succ k ih =>
    intro hkn
    obtain ⟨h1, h2⟩ := ih (by omega)
    obtain ⟨c1, c2⟩ := hc k (by omega)
    have e : (G.seenTo (k + 1)).known = Gp.knows (G.seenTo k).known (G.node k).log (G.node k).commit := rfl
    rw [e]
    have : (Gp.knows (G.seenTo k).known (G.node k).log (G.node k).commit).length = m := by
      unfold Gp.knows
      rw [c1]
      split
      · rw [List.length_take]; omega
      · omega
    exact ⟨by omega, fun _ => this⟩

/-- What Live asks for, x leading. -/
structure LiveEnd (n x : Nat) (c : ByteArray) (S : Gp) : Prop where
  com : ∀ k, k < n → ((((S.propose x c).tells 3000).rounds n 5).node k).commit = (S.node x).log.length + 1
  leads : ∀ k, k < n → ((((S.propose x c).tells 3000).rounds n 5).node k).leads = (x : Int)
  log : ∀ k, k < n → ((((S.propose x c).tells 3000).rounds n 5).node k).log = (S.node x).log ++ [((S.node x).term, c)]
  known : ((((S.propose x c).tells 3000).rounds n 5).seenTo n).known.length = (S.node x).log.length + 1

theorem live_end {c : ByteArray} (h : SyP n x 0 T L P Q G) (h0 : c.size ≠ 0) (h20 : c.size ≤ 20) (hl : (G.node x).last < 60) : LiveEnd n x c G := by
  have hJ := h.syn.j
  have hJ0 := hJ
  obtain ⟨hh, hj⟩ := hJ0
  have hxn := h.syn.xn
  have hlen := hj.len
  obtain ⟨_, hnx⟩ := hj.node hxn
  have he : (G.node x).propErr c = 0 := by
    unfold Nd.propErr
    rw [if_neg (by omega), if_neg (fun hx => hx h.syn.role), if_neg (by omega)]
  have hpr : (G.node x).propose c = ((((G.node x).proposeS c).last : Int), (G.node x).proposeS c, ((G.node x).proposeS c).appends, 0) := by
    unfold Nd.propose
    rw [if_pos he]
  have hJ1 : J n (G.propose x c) := hj.propose hxn c
  obtain ⟨s', hs'⟩ : ∃ s', (G.node x).proposeS c = s' := ⟨_, rfl⟩
  have e1 : s'.role = 3 := by rw [← hs']; exact h.syn.role
  have e2 : s'.term = T := by rw [← hs']; exact h.term
  have e3 : s'.log = L ++ [(T, c)] := by rw [← hs', ← h.log, ← h.term]; rfl
  have e4 : Counted s' := by rw [← hs']; exact counted_count _
  have e5 : s'.n = n := by rw [← hs']; exact hnx.fn
  have hap : s'.appends.length ≤ 7 := by unfold Nd.appends; rw [List.length_map]; exact others_le7 e5 hj.n7
  have w2 : (G.propose x c).node x = s' := by
    show (G.did x _).node x = s'
    rw [node_did, if_pos ⟨rfl, by rw [hlen]; exact hxn⟩, hpr]
    exact hs'
  have w3 : ∀ j, j ≠ x → (G.propose x c).node j = G.node j := fun j hjx => by
    show (G.did x _).node j = _
    rw [node_did, if_neg (fun hx => hjx hx.1)]
  have w1 : (G.propose x c).way = s'.appends := by
    show G.way ++ ((G.node x).propose c).2.2.1.take (200 - G.way.length) = _
    rw [hpr, h.syn.way]
    show [] ++ ((G.node x).proposeS c).appends.take 200 = _
    rw [hs', List.take_of_length_le (by omega)]; rfl
  obtain ⟨k, hk, r1, r2, r3, r4, r5, _⟩ := lead_conv True False hJ1 hxn (by rw [w2]; exact e1) (by rw [w1, w2]) (fun j hjn => by
    rw [w2, e2]
    by_cases hjx : j = x
    · rw [hjx, w2, e2]; exact Int.le_refl _
    · rw [w3 j hjx, (h.syn.fo j hjn hjx).1, h.term]; exact Int.le_refl _) (fun _ => by rw [w2]; exact e4) (fun hf => hf.elim)
  rw [w2] at r2 r3 r5
  have htl : (G.propose x c).tells 3000 = (G.propose x c).tells k := by
    have := tells_done (g := G.propose x c) r1.way (3000 - k)
    rw [show k + (3000 - k) = 3000 by omega] at this
    exact this
  have hpats : ∀ j, j < n → 4 ≤ (((G.propose x c).tells k).node j).pat := by
    intro j hjn
    rw [pat_tells]
    by_cases hjx : j = x
    · rw [hjx, w2, ← hs']; exact h.pats x hxn
    · rw [w3 j hjx]; exact h.pats j hjn
  have hS : SyP n x 0 T (L ++ [(T, c)]) True False ((G.propose x c).tells k) := by
    refine ⟨r1, fun j hjn hjx => by rw [r4 j hjn hjx]; split <;> split <;> omega, hpats, r2.trans e2, r3.trans e3, fun _ => ?_, fun hf => hf.elim⟩
    rw [r5 trivial (by rw [e3, e2]; simp [Nd.termAt]), e3]
  have hF := hS.rounds1 4
  have hLx : (G.node x).log = L := h.log
  have hTx : (G.node x).term = T := h.term
  have hlenL : (L ++ [(T, c)]).length = L.length + 1 := by simp
  have hcom : ∀ j, j < n → ((((G.propose x c).tells k).rounds n 5).node j).commit = L.length + 1 := by
    intro j hjn
    by_cases hjx : j = x
    · rw [hjx, ← hlenL]; exact hF.p trivial
    · rw [← hlenL]; exact hF.q trivial j hjn hjx
  have hlog : ∀ j, j < n → ((((G.propose x c).tells k).rounds n 5).node j).log = L ++ [(T, c)] := by
    intro j hjn
    by_cases hjx : j = x
    · rw [hjx]; exact hF.log
    · rw [(hF.syn.fo j hjn hjx).2.2.2.1]; exact hF.log
  refine ⟨fun j hjn => ?_, fun j hjn => ?_, fun j hjn => ?_, ?_⟩
  · rw [htl, hLx]; exact hcom j hjn
  · rw [htl]
    by_cases hjx : j = x
    · rw [hjx]
      have hJ5 := hF.syn.j
      obtain ⟨hh5, hj5⟩ := hJ5
      exact ((hj5.node hxn).2.ldn hF.syn.role).1
    · exact (hF.syn.fo j hjn hjx).2.2.1
  · rw [htl, hLx, hTx]; exact hlog j hjn
  · rw [htl, hLx]
    exact (seenTo_known (fun j hjn => ⟨hcom j hjn, by rw [hlog j hjn, hlenL]; exact Nat.le_refl _⟩) (by have := syp_known hF; rw [hlenL] at this; exact this) n (Nat.le_refl _)).2 hj.n1

/-- Live, in plain data. -/
theorem live_all (hJ : J n G) (hw : G.way = []) (ht : ∀ j, j < n → (G.node j).term ≤ 999600) (htb : TB G) :
    ∃ x, x < n ∧ (((G.patTo n).rounds n 300).headTo n).1 = (x : Int) ∧ ((((G.patTo n).rounds n 300).seenTo n).node x).role = 3 ∧ J n (((G.patTo n).rounds n 300).seenTo n) ∧ TB (((G.patTo n).rounds n 300).seenTo n) ∧ (((G.patTo n).rounds n 300).seenTo n).way = [] ∧
      ((((G.patTo n).rounds n 300).seenTo n).node x).last ≤ 60 ∧ ∀ c : ByteArray, c.size ≠ 0 → c.size ≤ 20 → ((((G.patTo n).rounds n 300).seenTo n).node x).last < 60 → LiveEnd n x c (((G.patTo n).rounds n 300).seenTo n) := by
  obtain ⟨T, hB⟩ := bs_pat hJ hw ht
  obtain ⟨x, T', L, hS⟩ := led_300 hB
  have hTB := Kp.tb ((kp_patTo G n).trans (kp_rounds _ n 300)) htb
  generalize (G.patTo n).rounds n 300 = R at *
  have hR := hS.syn.j
  obtain ⟨hh, hj⟩ := hR
  obtain ⟨hj2, ht2⟩ := hj.seenTo hTB n (Nat.le_refl _)
  obtain ⟨q1, q2, _⟩ := seenTo_nodes (g := R) n
  have hS2 := syp_same hS ⟨hh, hj2⟩ q1 q2
  refine ⟨x, hS.syn.xn, by rw [syp_head hS], hS2.syn.role, ⟨hh, hj2⟩, ht2, hS2.syn.way, (hj2.node hS.syn.xn).2.ok.len, fun c h0 h20 hl => live_end hS2 h0 h20 hl⟩

end

end Go.Proofs.Yteiecbkfganhnaa
