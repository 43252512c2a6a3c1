/- P7 in plain data: what has been and is told nowhere (who led a term, with which log; who voted; who has taken how much), and what holds of it. No program is named here. -/
import Derived.Test.YteiecbkfganhnaaInvC

namespace Go.Proofs.Yteiecbkfganhnaa

theorem take_pre {a b : List Ent} (h : a <+: b) {k : Nat} (hk : k ≤ a.length) : b.take k = a.take k := by
  obtain ⟨c, rfl⟩ := h
  rw [List.take_append_of_le_length hk]

theorem termAt_pre {a b : List Ent} (h : a <+: b) {k : Nat} (hk : k ≤ a.length) : Nd.termAt b k = Nd.termAt a k := by
  obtain ⟨c, rfl⟩ := h
  unfold Nd.termAt
  split
  · rfl
  · rw [List.getElem?_append_left (by omega)]

theorem termAt_take (l : List Ent) {k m : Nat} (h : k ≤ m) : Nd.termAt (l.take m) k = Nd.termAt l k := by
  unfold Nd.termAt
  split
  · rfl
  · rw [List.getElem?_take_of_lt (by omega)]

theorem take_take_le (l : List Ent) {k m : Nat} (h : k ≤ m) : (l.take m).take k = l.take k := by
  rw [List.take_take, Nat.min_eq_left h]

theorem pre_eq {a b : List Ent} (h : a <+: b) (hl : b.length ≤ a.length) : a = b := h.eq_of_length (Nat.le_antisymm h.length_le hl)

/-- More than half of n. -/
def Most (n : Nat) (S : Nat → Prop) : Prop := ∃ b : Nat → Bool, (∀ j, j < n → b j = true → S j) ∧ n / 2 < cntTo b n

theorem Most.mono {n : Nat} {S T : Nat → Prop} (h : Most n S) (hst : ∀ j, j < n → S j → T j) : Most n T := by
  obtain ⟨b, h1, h2⟩ := h
  exact ⟨b, fun j hj hb => hst j hj (h1 j hj hb), h2⟩

theorem cntTo_apart (a b : Nat → Bool) (n : Nat) (h : ∀ j, j < n → ¬ (a j = true ∧ b j = true)) : cntTo a n + cntTo b n ≤ n := by
  induction n with
  | zero => simp [cntTo]
  | succ n ih =>
    have h1 := ih fun j hj => h j (by omega)
    have h2 := h n (by omega)
    simp only [cntTo, b1]
    cases ha : a n <;> cases hb : b n <;> simp_all <;> omega

theorem Most.meet {n : Nat} {S T : Nat → Prop} (h : Most n S) (k : Most n T) : ∃ j, j < n ∧ S j ∧ T j := by
  obtain ⟨a, ha, ca⟩ := h
  obtain ⟨b, hb, cb⟩ := k
  apply Classical.byContradiction
  intro hx
  have h1 := cntTo_apart a b n fun j hj hab => hx ⟨j, hj, ha j hj hab.1, hb j hj hab.2⟩
  omega

/-- What has been: L who led a term; K with which log a node stood in it; H the log of its leader, as far as it got; V who voted for whom; A up to where a node has taken it. -/
structure Gh where
  L : Int → Option Nat
  K : Int → Nat → List Ent
  H : Int → List Ent
  V : Int → Nat → Option Nat
  A : Int → Nat → Nat

/-- Each entry of a log stands in the log of its term's leader, and all ahead of it. -/
def LGood (g : Gh) (l : List Ent) : Prop := ∀ k, 1 ≤ k → k ≤ l.length → l.take k <+: g.H (Nd.termAt l k)

/-- The k-th entry of a term's log is of that term. -/
def Pt (g : Gh) (t : Int) (k : Nat) : Prop := 1 ≤ k ∧ k ≤ (g.H t).length ∧ Nd.termAt (g.H t) k = t

/-- The leaders of the terms behind t up to u had it when they stood. -/
def Bet (g : Gh) (t u : Int) (p : List Ent) : Prop := ∀ x, t < x → x ≤ u → ∀ c, g.L x = some c → p <+: g.K x c

theorem Bet.mono {g : Gh} {t u v : Int} {p : List Ent} (h : Bet g t u p) (hv : v ≤ u) : Bet g t v p := fun x h1 h2 => h x h1 (by omega)

def Chosen (n : Nat) (g : Gh) (t : Int) (k : Nat) : Prop := Pt g t k ∧ Most n fun j => k ≤ g.A t j
def Com (n : Nat) (g : Gh) (T : Int) (l : List Ent) (c : Nat) : Prop := c = 0 ∨ (c ≤ l.length ∧ ∃ t k, t ≤ T ∧ Chosen n g t k ∧ c ≤ k ∧ l.take c = (g.H t).take c)

structure GI (n : Nat) (g : Gh) : Prop where
  hn : ∀ t, g.L t = none → g.H t = []
  ln : ∀ t c, g.L t = some c → c < n ∧ g.V t c = some c ∧ g.K t c <+: g.H t ∧ ∀ k, (g.K t c).length < k → k ≤ (g.H t).length → Nd.termAt (g.H t) k = t
  kt : ∀ t c k, 1 ≤ k → k ≤ (g.K t c).length → Nd.termAt (g.K t c) k < t
  gh : ∀ t, LGood g (g.H t)
  gk : ∀ t c, LGood g (g.K t c)
  ah : ∀ t j, g.A t j ≤ (g.H t).length
  vs : ∀ t j c, g.V t j = some c → c < n ∧ g.V t c = some c
  vk : ∀ u j c, g.V u j = some c → ∀ t k, t < u → Pt g t k → k ≤ g.A t j → Bet g t u ((g.H t).take k) → (g.H t).take k <+: g.K u c
  el : ∀ u c, g.L u = some c → Most n fun j => g.V u j = some c ∧ ∀ t k, t < u → Pt g t k → k ≤ g.A t j → Bet g t (u - 1) ((g.H t).take k) → (g.H t).take k <+: g.K u c

/-- What holds of a node. -/
structure NI (n : Nat) (g : Gh) (i : Nat) (s : Nd) : Prop where
  ok : Ok s
  fid : s.id = i
  fn : s.n = n
  va : ∀ t, s.term < t → g.V t i = none
  vo : g.V s.term i = if s.vote = -1 then none else some s.vote.toNat
  ta : ∀ t, 0 < g.A t i → t ≤ s.term
  cand : s.role = 2 → s.vote = i ∧ s.log = g.K s.term i ∧ g.L s.term ≠ some i ∧ ∀ j, j < n → s.gr j = true → g.V s.term j = some i
  ldr : s.role = 3 → g.L s.term = some i ∧ s.log = g.H s.term ∧ ∀ j, j < n → s.mt j ≤ g.A s.term j
  good : LGood g s.log
  has : ∀ t k, Pt g t k → k ≤ g.A t i → Bet g t s.term ((g.H t).take k) → (g.H t).take k <+: s.log
  com : Com n g s.term s.log s.commit
  acc : (g.H s.term).take (g.A s.term i) <+: s.log
  ldn : s.role = 3 → s.leads = (i : Int) ∧ s.mt i = s.log.length ∧ (∀ j, j < n → j ≠ i → s.mt j < s.nx j) ∧ (60 ≤ s.log.length ∨ Nd.termAt s.log s.log.length = s.term)

/-- What holds of a message. -/
structure MI (n : Nat) (g : Gh) (m : Msg) : Prop where
  vote : m.kind = 2 → ∃ c : Nat, m.src = c ∧ g.V m.term c = some c ∧ ((g.K m.term c).length : Int) = m.index ∧ Nd.termAt (g.K m.term c) (g.K m.term c).length = m.logTerm
  yes : m.kind = 3 → m.granted = true → ∃ d j : Nat, m.dst = d ∧ m.src = j ∧ g.V m.term j = some d
  app : m.kind = 4 → ∃ c : Nat, m.src = c ∧ g.L m.term = some c ∧ m.index.toNat ≤ (g.H m.term).length ∧ Nd.termAt (g.H m.term) m.index.toNat = m.logTerm ∧ m.ents <+: (g.H m.term).drop m.index.toNat ∧ Com n g m.term (g.H m.term) m.commit.toNat
  took : m.kind = 5 → m.granted = true → ∃ j : Nat, m.src = j ∧ m.index.toNat ≤ g.A m.term j

/-- What has been grows, by what node i does. -/
structure Evo (i : Nat) (g g' : Gh) : Prop where
  L : ∀ t c, g.L t = some c → g'.L t = some c
  L1 : ∀ t c, g'.L t = some c → g.L t = some c ∨ c = i
  K : ∀ t c, g.V t c = some c → g'.K t c = g.K t c
  H : ∀ t, g.H t <+: g'.H t
  H1 : ∀ t c, c ≠ i → g.L t = some c → g'.H t = g.H t
  V : ∀ t j c, g.V t j = some c → g'.V t j = some c
  V1 : ∀ t j, j ≠ i → g'.V t j = g.V t j
  A : ∀ t j, g.A t j ≤ g'.A t j
  A1 : ∀ t j, j ≠ i → g'.A t j = g.A t j

theorem Evo.refl (i : Nat) (g : Gh) : Evo i g g :=
  ⟨fun _ _ h => h, fun _ _ h => .inl h, fun _ _ _ => rfl, fun _ => List.prefix_refl _, fun _ _ _ _ => rfl, fun _ _ _ h => h, fun _ _ _ => rfl, fun _ _ => Nat.le_refl _, fun _ _ _ => rfl⟩

theorem Evo.trans {i : Nat} {a b c : Gh} (h : Evo i a b) (k : Evo i b c) : Evo i a c where
  L t x hx := k.L t x (h.L t x hx)
  L1 t x hx := by
    rcases k.L1 t x hx with h1 | h1
    · exact h.L1 t x h1
    · exact .inr h1
  K t x hx := (k.K t x (h.V t x x hx)).trans (h.K t x hx)
  H t := (h.H t).trans (k.H t)
  H1 t x hx hl := (k.H1 t x hx (h.L t x hl)).trans (h.H1 t x hx hl)
  V t j x hx := k.V t j x (h.V t j x hx)
  V1 t j hj := (k.V1 t j hj).trans (h.V1 t j hj)
  A t j := Nat.le_trans (h.A t j) (k.A t j)
  A1 t j hj := (k.A1 t j hj).trans (h.A1 t j hj)

section
variable {n i : Nat} {g g' : Gh}

theorem Evo.good (he : Evo i g g') {l : List Ent} (h : LGood g l) : LGood g' l := fun k h1 h2 => (h k h1 h2).trans (he.H _)
theorem Evo.take (he : Evo i g g') {t : Int} {k : Nat} (hk : k ≤ (g.H t).length) : (g'.H t).take k = (g.H t).take k := take_pre (he.H t) hk
theorem Evo.term (he : Evo i g g') {t : Int} {k : Nat} (hk : k ≤ (g.H t).length) : Nd.termAt (g'.H t) k = Nd.termAt (g.H t) k := termAt_pre (he.H t) hk
theorem Evo.pt (he : Evo i g g') {t : Int} {k : Nat} (h : Pt g t k) : Pt g' t k := ⟨h.1, Nat.le_trans h.2.1 (he.H t).length_le, (he.term h.2.1).trans h.2.2⟩
theorem Evo.pt' (he : Evo i g g') {t : Int} {k : Nat} (h : Pt g' t k) (hk : k ≤ (g.H t).length) : Pt g t k := ⟨h.1, hk, (he.term hk).symm.trans h.2.2⟩
theorem Evo.bet (he : Evo i g g') (hg : GI n g) {t u : Int} {p : List Ent} (h : Bet g' t u p) : Bet g t u p := by
  intro x h1 h2 c hc
  have h3 := h x h1 h2 c (he.L x c hc)
  rwa [he.K x c (hg.ln x c hc).2.1] at h3
theorem Evo.chosen (he : Evo i g g') {t : Int} {k : Nat} (h : Chosen n g t k) : Chosen n g' t k := ⟨he.pt h.1, h.2.mono fun j _ hj => Nat.le_trans hj (he.A t j)⟩
theorem Evo.com (he : Evo i g g') {T : Int} {l : List Ent} {c : Nat} (h : Com n g T l c) : Com n g' T l c := by
  rcases h with h | ⟨h0, t, k, h1, h2, h3, h4⟩
  · exact .inl h
  · refine .inr ⟨h0, t, k, h1, he.chosen h2, h3, ?_⟩
    rw [h4, he.take (Nat.le_trans h3 h2.1.2.1)]

theorem Com.mono {T T' : Int} {l : List Ent} {c : Nat} (h : Com n g T l c) (hT : T ≤ T') : Com n g T' l c := by
  rcases h with h | ⟨h0, t, k, h1, h2⟩
  · exact .inl h
  · exact .inr ⟨h0, t, k, by omega, h2⟩

theorem Com.pre {T : Int} {l l' : List Ent} {c d : Nat} (h : Com n g T l c) (hd : d ≤ c) (hl : d ≤ l'.length) (ht : l'.take d = l.take d) : Com n g T l' d := by
  rcases h with h | ⟨h0, t, k, h1, h2, h3, h4⟩
  · exact .inl (by omega)
  · refine .inr ⟨hl, t, k, h1, h2, by omega, ?_⟩
    rw [ht, ← take_take_le l hd, h4, take_take_le _ hd]

/-- What another node does leaves what holds of a node. -/
theorem Evo.ni (he : Evo i g g') (hg : GI n g) {j : Nat} {s : Nd} (h : NI n g j s) (hj : j ≠ i) : NI n g' j s where
  ok := h.ok
  fid := h.fid
  fn := h.fn
  va t ht := (he.V1 t j hj).trans (h.va t ht)
  vo := (he.V1 _ j hj).trans h.vo
  ta t ht := h.ta t (by rwa [he.A1 t j hj] at ht)
  cand hr := by
    obtain ⟨h1, h2, h3, h4⟩ := h.cand hr
    have hv : g.V s.term j = some j := by
      rw [h.vo, h1, if_neg (by omega)]
      simp
    refine ⟨h1, by rw [he.K _ _ hv]; exact h2, fun hx => ?_, fun k hk hgr => he.V _ _ _ (h4 k hk hgr)⟩
    rcases he.L1 _ _ hx with h5 | h5
    · exact h3 h5
    · exact hj h5
  ldr hr := by
    obtain ⟨h1, h2, h3⟩ := h.ldr hr
    exact ⟨he.L _ _ h1, by rw [he.H1 _ j hj h1]; exact h2, fun k hk => Nat.le_trans (h3 k hk) (he.A _ k)⟩
  good := he.good h.good
  has t k hp hk hb := by
    rw [he.A1 t j hj] at hk
    have hkl := Nat.le_trans hk (hg.ah t j)
    rw [he.take hkl] at hb ⊢
    exact h.has t k (he.pt' hp hkl) hk (he.bet hg hb)
  com := he.com h.com
  acc := by
    rw [he.A1 _ j hj, he.take (hg.ah _ j)]
    exact h.acc
  ldn := h.ldn

theorem Evo.mi (he : Evo i g g') {m : Msg} (h : MI n g m) : MI n g' m where
  vote hk := by
    obtain ⟨c, h1, h2, h3, h4⟩ := h.vote hk
    exact ⟨c, h1, he.V _ _ _ h2, by rw [he.K _ _ h2]; exact h3, by rw [he.K _ _ h2]; exact h4⟩
  yes hk hg := by
    obtain ⟨d, j, h1, h2, h3⟩ := h.yes hk hg
    exact ⟨d, j, h1, h2, he.V _ _ _ h3⟩
  app hk := by
    obtain ⟨c, h1, h2, h3, h4, h5, h6⟩ := h.app hk
    refine ⟨c, h1, he.L _ _ h2, Nat.le_trans h3 (he.H _).length_le, (he.term h3).trans h4, ?_, ?_⟩
    · obtain ⟨r, hr⟩ := he.H m.term
      rw [← hr, List.drop_append_of_le_length h3]
      exact h5.trans (List.prefix_append _ _)
    · have h7 := he.com h6
      have h8 : m.commit.toNat ≤ (g.H m.term).length := by
        rcases h6 with h | h
        · omega
        · exact h.1
      exact h7.pre (Nat.le_refl _) (Nat.le_trans h8 (he.H _).length_le) (he.take h8)
  took hk hg := by
    obtain ⟨j, h1, h2⟩ := h.took hk hg
    exact ⟨j, h1, Nat.le_trans h2 (he.A _ _)⟩

/-- Where two right logs have one term at one number they are the same up to it. -/
theorem good_meet {a b : List Ent} (ha : LGood g a) (hb : LGood g b) {k : Nat} (h0 : k ≤ a.length) (h1 : k ≤ b.length) (ht : Nd.termAt a k = Nd.termAt b k) : a.take k = b.take k := by
  by_cases hk : k = 0
  · subst hk; rfl
  · have h2 := ha k (by omega) h0
    have h3 := hb k (by omega) h1
    rw [ht] at h2
    have h4 := List.prefix_of_prefix_length_le h2 h3 (by simp; omega)
    exact pre_eq h4 (by simp; omega)

theorem LGood.take {l : List Ent} (h : LGood g l) (m : Nat) : LGood g (l.take m) := by
  intro k h1 h2
  rw [List.length_take] at h2
  rw [take_take_le l (by omega), termAt_take l (by omega)]
  exact h k h1 (by omega)

theorem LGood.nil : LGood g [] := fun k h1 h2 => by simp at h2; omega

theorem led_of_H (hg : GI n g) {t : Int} {k : Nat} (h : Pt g t k) : ∃ c, g.L t = some c := by
  cases hl : g.L t with
  | none => have := hg.hn t hl; have h1 := h.2.1; have h2 := h.1; rw [this] at h1; simp at h1; omega
  | some c => exact ⟨c, rfl⟩

/-- What a majority has taken in its own term is with the leaders of all later ones. -/
theorem chosen_led (hg : GI n g) {t : Int} {k : Nat} (h : Chosen n g t k) : ∀ (d : Nat) (u : Int), u ≤ t + d → t < u → ∀ c, g.L u = some c → (g.H t).take k <+: g.K u c := by
  intro d
  induction d with
  | zero => intro u h1 h2; omega
  | succ d ih =>
    intro u h1 h2 c hc
    obtain ⟨j, _, ⟨_, h3⟩, h4⟩ := (hg.el u c hc).meet h.2
    exact h3 t k h2 h.1 h4 fun x hx1 hx2 c' hc' => ih x (by omega) hx1 c' hc'

theorem chosen_pre (hg : GI n g) {t u : Int} {k : Nat} (h : Chosen n g t k) (htu : t ≤ u) {c : Nat} (hc : g.L u = some c) : (g.H t).take k <+: g.H u := by
  by_cases he : t = u
  · subst he; exact List.take_prefix _ _
  · have h1 := chosen_led hg h (u - t).toNat u (by omega) (by omega) c hc
    exact h1.trans (hg.ln u c hc).2.2.1

/-- What is committed anywhere is the same, as far as both have got. -/
theorem com_same (hg : GI n g) {S T : Int} {l l' : List Ent} {c d : Nat} (h : Com n g S l c) (k : Com n g T l' d) (hcd : c ≤ d) : l.take c = l'.take c := by
  rcases h with h | ⟨h0, t, x, _, h2, h3, h4⟩
  · subst h; rfl
  · rcases k with k | ⟨k0, u, y, _, k2, k3, k4⟩
    · have : c = 0 := by omega
      subst this; rfl
    · have e1 : l'.take c = (g.H u).take c := by rw [← take_take_le l' hcd, k4, take_take_le _ hcd]
      rw [h4, e1]
      obtain ⟨a, ha⟩ := led_of_H hg h2.1
      obtain ⟨b, hb⟩ := led_of_H hg k2.1
      have hx := h2.1.2.1
      have hy := k2.1.2.1
      rcases Int.le_total t u with htu | htu
      · have h5 := chosen_pre hg h2 htu hb
        rw [← take_take_le (g.H t) h3, ← take_pre h5 (by rw [List.length_take]; omega)]
      · have h5 := chosen_pre hg k2 htu ha
        rw [← take_take_le (g.H u) (by omega : c ≤ y), ← take_pre h5 (by rw [List.length_take]; omega)]
end

end Go.Proofs.Yteiecbkfganhnaa

namespace Go.Proofs.Yteiecbkfganhnaa

def upd1 {α : Type} (f : Int → α) (t : Int) (v : α) : Int → α := fun x => if x = t then v else f x
def upd2 {α : Type} (f : Int → Nat → α) (t : Int) (i : Nat) (v : α) : Int → Nat → α := fun x y => if x = t ∧ y = i then v else f x y

theorem upd1_at {α : Type} (f : Int → α) (t : Int) (v : α) : upd1 f t v t = v := if_pos rfl
theorem upd1_ne {α : Type} (f : Int → α) {t x : Int} (v : α) (h : x ≠ t) : upd1 f t v x = f x := if_neg h
theorem upd2_at {α : Type} (f : Int → Nat → α) (t : Int) (i : Nat) (v : α) : upd2 f t i v t i = v := if_pos ⟨rfl, rfl⟩
theorem upd2_ne {α : Type} (f : Int → Nat → α) {t x : Int} {i y : Nat} (v : α) (h : ¬ (x = t ∧ y = i)) : upd2 f t i v x y = f x y := if_neg h

def Gh.vote (g : Gh) (t : Int) (i c : Nat) : Gh := { g with V := upd2 g.V t i (some c) }
def Gh.stand (g : Gh) (t : Int) (i : Nat) (l : List Ent) : Gh := { g with V := upd2 g.V t i (some i), K := upd2 g.K t i l }
def Gh.lead (g : Gh) (t : Int) (i : Nat) (l : List Ent) : Gh := { g with L := upd1 g.L t (some i), H := upd1 g.H t l }
def Gh.more (g : Gh) (t : Int) (l : List Ent) : Gh := { g with H := upd1 g.H t l }
def Gh.ack (g : Gh) (t : Int) (i k : Nat) : Gh := { g with A := upd2 g.A t i (max (g.A t i) k) }

section
variable {n i : Nat} {g : Gh}

theorem gi_vote (hg : GI n g) {t : Int} {c : Nat} (hc : g.V t c = some c) (hv : g.V t i = none ∨ g.V t i = some c)
    (hk : ∀ t0 k, t0 < t → Pt g t0 k → k ≤ g.A t0 i → Bet g t0 t ((g.H t0).take k) → (g.H t0).take k <+: g.K t c) : GI n (g.vote t i c) ∧ Evo i g (g.vote t i c) := by
  have hm : ∀ x j d, g.V x j = some d → (g.vote t i c).V x j = some d := by
    intro x j d hd
    show upd2 g.V t i (some c) x j = some d
    by_cases h : x = t ∧ j = i
    · obtain ⟨rfl, rfl⟩ := h
      rw [upd2_at]
      rcases hv with hv | hv
      · rw [hv] at hd; cases hd
      · rw [hv] at hd; exact hd
    · rw [upd2_ne _ _ h]; exact hd
  have hb : ∀ x j d, (g.vote t i c).V x j = some d → g.V x j = some d ∨ (x = t ∧ j = i ∧ d = c) := by
    intro x j d hd
    by_cases h : x = t ∧ j = i
    · obtain ⟨rfl, rfl⟩ := h
      have : upd2 g.V x j (some c) x j = some d := hd
      rw [upd2_at] at this
      exact .inr ⟨rfl, rfl, (Option.some.inj this).symm⟩
    · have : upd2 g.V t i (some c) x j = some d := hd
      rw [upd2_ne _ _ h] at this
      exact .inl this
  refine ⟨⟨hg.hn, ?_, hg.kt, hg.gh, hg.gk, hg.ah, ?_, ?_, ?_⟩, ⟨fun _ _ h => h, fun _ _ h => .inl h, fun _ _ _ => rfl, fun _ => List.prefix_refl _, fun _ _ _ _ => rfl, hm, fun x j hj => upd2_ne _ _ (fun h => hj h.2), fun _ _ => Nat.le_refl _, fun _ _ _ => rfl⟩⟩
  · intro x d hd
    obtain ⟨h1, h2, h3⟩ := hg.ln x d hd
    exact ⟨h1, hm _ _ _ h2, h3⟩
  · intro x j d hd
    rcases hb x j d hd with h | ⟨rfl, rfl, rfl⟩
    · exact ⟨(hg.vs x j d h).1, hm _ _ _ (hg.vs x j d h).2⟩
    · exact ⟨(hg.vs _ _ _ hc).1, hm _ _ _ hc⟩
  · intro u j d hd
    rcases hb u j d hd with h | ⟨rfl, rfl, rfl⟩
    · exact hg.vk u j d h
    · exact hk
  · intro u d hd
    exact (hg.el u d hd).mono fun j _ hj => ⟨hm _ _ _ hj.1, hj.2⟩

theorem gi_stand (hg : GI n g) (hi : i < n) {t : Int} {l : List Ent} (hv : g.V t i = none) (hgl : LGood g l) (hlt : ∀ k, 1 ≤ k → k ≤ l.length → Nd.termAt l k < t)
    (hk : ∀ t0 k, t0 < t → Pt g t0 k → k ≤ g.A t0 i → Bet g t0 t ((g.H t0).take k) → (g.H t0).take k <+: l) : GI n (g.stand t i l) ∧ Evo i g (g.stand t i l) := by
  have hm : ∀ x j d, g.V x j = some d → (g.stand t i l).V x j = some d := by
    intro x j d hd
    show upd2 g.V t i (some i) x j = some d
    by_cases h : x = t ∧ j = i
    · obtain ⟨rfl, rfl⟩ := h
      rw [hv] at hd; cases hd
    · rw [upd2_ne _ _ h]; exact hd
  have hno : ∀ j, g.V t j ≠ some i := by
    intro j hj
    have := (hg.vs _ _ _ hj).2
    rw [hv] at this; cases this
  have hb : ∀ x j d, (g.stand t i l).V x j = some d → (g.V x j = some d ∧ ¬ (x = t ∧ d = i)) ∨ (x = t ∧ j = i ∧ d = i) := by
    intro x j d hd
    by_cases h : x = t ∧ j = i
    · obtain ⟨rfl, rfl⟩ := h
      have : upd2 g.V x j (some j) x j = some d := hd
      rw [upd2_at] at this
      exact .inr ⟨rfl, rfl, (Option.some.inj this).symm⟩
    · have : upd2 g.V t i (some i) x j = some d := hd
      rw [upd2_ne _ _ h] at this
      refine .inl ⟨this, ?_⟩
      rintro ⟨rfl, rfl⟩
      exact hno _ this
  have hK : ∀ x d, ¬ (x = t ∧ d = i) → (g.stand t i l).K x d = g.K x d := fun x d h => upd2_ne _ _ h
  have hKt : (g.stand t i l).K t i = l := upd2_at _ _ _ _
  have hL : ∀ x d, g.L x = some d → ¬ (x = t ∧ d = i) := by
    rintro x d hd ⟨rfl, rfl⟩
    have := (hg.ln _ _ hd).2.1
    rw [hv] at this; cases this
  have hbet : ∀ a u p, Bet (g.stand t i l) a u p → Bet g a u p := by
    intro a u p h x h1 h2 d hd
    have := h x h1 h2 d hd
    rwa [hK x d (hL x d hd)] at this
  refine ⟨⟨hg.hn, ?_, ?_, hg.gh, ?_, hg.ah, ?_, ?_, ?_⟩, ⟨fun _ _ h => h, fun _ _ h => .inl h, ?_, fun _ => List.prefix_refl _, fun _ _ _ _ => rfl, hm, fun x j hj => upd2_ne _ _ (fun h => hj h.2), fun _ _ => Nat.le_refl _, fun _ _ _ => rfl⟩⟩
  · intro x d hd
    obtain ⟨h1, h2, h3, h4⟩ := hg.ln x d hd
    rw [hK x d (hL x d hd)]
    exact ⟨h1, hm _ _ _ h2, h3, h4⟩
  · intro x d k
    by_cases h : x = t ∧ d = i
    · obtain ⟨rfl, rfl⟩ := h
      rw [hKt]; exact hlt k
    · rw [hK x d h]; exact hg.kt x d k
  · intro x d
    by_cases h : x = t ∧ d = i
    · obtain ⟨rfl, rfl⟩ := h
      rw [hKt]; exact hgl
    · rw [hK x d h]; exact hg.gk x d
  · intro x j d hd
    rcases hb x j d hd with h | ⟨rfl, rfl, rfl⟩
    · exact ⟨(hg.vs x j d h.1).1, hm _ _ _ (hg.vs x j d h.1).2⟩
    · exact ⟨hi, upd2_at _ _ _ _⟩
  · intro u j d hd a k h1 h2 h3 h4
    rcases hb u j d hd with h | ⟨rfl, rfl, rfl⟩
    · rw [hK u d h.2]
      exact hg.vk u j d h.1 a k h1 h2 h3 (hbet _ _ _ h4)
    · rw [hKt]
      exact hk a k h1 h2 h3 (hbet _ _ _ h4)
  · intro u d hd
    rw [hK u d (hL u d hd)]
    exact (hg.el u d hd).mono fun j _ hj => ⟨hm _ _ _ hj.1, fun a k h1 h2 h3 h4 => hj.2 a k h1 h2 h3 (hbet _ _ _ h4)⟩
  · intro x d hd
    refine hK x d ?_
    rintro ⟨rfl, rfl⟩
    exact hno _ hd

theorem gi_lead (hg : GI n g) {t : Int} {l : List Ent} (hl : g.L t = none) (hm : Most n fun j => g.V t j = some i) (hpre : g.K t i <+: l)
    (hown : ∀ k, (g.K t i).length < k → k ≤ l.length → Nd.termAt l k = t) : GI n (g.lead t i l) ∧ Evo i g (g.lead t i l) := by
  have hH0 := hg.hn t hl
  have hA0 : ∀ j, g.A t j = 0 := fun j => by have := hg.ah t j; rw [hH0] at this; simpa using this
  obtain ⟨j0, hj0, hv0, _⟩ := hm.meet hm
  have hvi := hg.vs _ _ _ hv0
  have hH : ∀ x, x ≠ t → (g.lead t i l).H x = g.H x := fun x hx => upd1_ne _ _ hx
  have hHt : (g.lead t i l).H t = l := upd1_at _ _ _
  have hL : ∀ x d, (g.lead t i l).L x = some d → (x ≠ t ∧ g.L x = some d) ∨ (x = t ∧ d = i) := by
    intro x d hd
    by_cases h : x = t
    · subst h
      have : upd1 g.L x (some i) x = some d := hd
      rw [upd1_at] at this
      exact .inr ⟨rfl, (Option.some.inj this).symm⟩
    · have : upd1 g.L t (some i) x = some d := hd
      rw [upd1_ne _ _ h] at this
      exact .inl ⟨h, this⟩
  have hLm : ∀ x d, g.L x = some d → (g.lead t i l).L x = some d := by
    intro x d hd
    have hx : x ≠ t := by rintro rfl; rw [hl] at hd; cases hd
    exact (upd1_ne _ _ hx).trans hd
  have hHm : ∀ x, g.H x <+: (g.lead t i l).H x := by
    intro x
    by_cases h : x = t
    · subst h; rw [hH0]; exact List.nil_prefix
    · rw [hH x h]; exact List.prefix_refl _
  have hE : Evo i g (g.lead t i l) := ⟨hLm, fun x d hd => by rcases hL x d hd with h | h; exact .inl h.2; exact .inr h.2, fun _ _ _ => rfl, hHm, fun x d hd hx => hH x (by rintro rfl; rw [hl] at hx; cases hx), fun _ _ _ h => h, fun _ _ _ => rfl, fun _ _ => Nat.le_refl _, fun _ _ _ => rfl⟩
  have hpt : ∀ a k j, Pt (g.lead t i l) a k → k ≤ g.A a j → a ≠ t ∧ Pt g a k := by
    intro a k j h1 h2
    have ha : a ≠ t := by rintro rfl; have := hA0 j; have := h1.1; omega
    refine ⟨ha, h1.1, Nat.le_trans h2 (hg.ah a j), ?_⟩
    have := h1.2.2
    rwa [hH a ha] at this
  refine ⟨⟨?_, ?_, hg.kt, ?_, fun x d => hE.good (hg.gk x d), ?_, hg.vs, ?_, ?_⟩, hE⟩
  · intro x hx
    by_cases h : x = t
    · subst h
      have : upd1 g.L x (some i) x = none := hx
      rw [upd1_at] at this; cases this
    · have : upd1 g.L t (some i) x = none := hx
      rw [upd1_ne _ _ h] at this
      rw [hH x h]; exact hg.hn x this
  · intro x d hd
    rcases hL x d hd with ⟨h1, h2⟩ | ⟨rfl, rfl⟩
    · rw [hH x h1]; exact hg.ln x d h2
    · rw [hHt]; exact ⟨hvi.1, hvi.2, hpre, hown⟩
  · intro x
    by_cases h : x = t
    · subst h
      rw [hHt]
      intro k h1 h2
      by_cases hk : k ≤ (g.K x i).length
      · have := hE.good (hg.gk x i) k h1 hk
        rwa [← take_pre hpre hk, ← termAt_pre hpre hk] at this
      · rw [hown k (by omega) h2, hHt]; exact List.take_prefix _ _
    · rw [hH x h]; exact hE.good (hg.gh x)
  · intro x j
    exact Nat.le_trans (hg.ah x j) (hHm x).length_le
  · intro u j d hd a k h1 h2 h3 h4
    obtain ⟨ha, hp⟩ := hpt a k j h2 h3
    rw [hH a ha] at h4 ⊢
    exact hg.vk u j d hd a k h1 hp h3 (hE.bet hg h4)
  · intro u d hd
    rcases hL u d hd with ⟨hu, h2⟩ | ⟨rfl, rfl⟩
    · refine (hg.el u d h2).mono fun j _ hj => ⟨hj.1, fun a k h1 hp h3 h4 => ?_⟩
      obtain ⟨ha, hp'⟩ := hpt a k j hp h3
      rw [hH a ha] at h4 ⊢
      exact hj.2 a k h1 hp' h3 (hE.bet hg h4)
    · refine hm.mono fun j _ hj => ⟨hj, fun a k h1 hp h3 h4 => ?_⟩
      obtain ⟨ha, hp'⟩ := hpt a k j hp h3
      rw [hH a ha] at h4 ⊢
      refine hg.vk u j d hj a k h1 hp' h3 fun x hx1 hx2 e he => ?_
      have hxu : x ≠ u := by rintro rfl; rw [hl] at he; cases he
      exact h4 x hx1 (by omega) e (hLm x e he)

theorem gi_more (hg : GI n g) {t : Int} {l : List Ent} (hl : g.L t = some i) (hpre : g.H t <+: l) (hown : ∀ k, (g.H t).length < k → k ≤ l.length → Nd.termAt l k = t) : GI n (g.more t l) ∧ Evo i g (g.more t l) := by
  have hH : ∀ x, x ≠ t → (g.more t l).H x = g.H x := fun x hx => upd1_ne _ _ hx
  have hHt : (g.more t l).H t = l := upd1_at _ _ _
  have hHm : ∀ x, g.H x <+: (g.more t l).H x := by
    intro x
    by_cases h : x = t
    · subst h; rw [hHt]; exact hpre
    · rw [hH x h]; exact List.prefix_refl _
  have hE : Evo i g (g.more t l) := ⟨fun _ _ h => h, fun _ _ h => .inl h, fun _ _ _ => rfl, hHm, fun x d hd hx => hH x (by rintro rfl; rw [hl] at hx; exact hd (Option.some.inj hx).symm), fun _ _ _ h => h, fun _ _ _ => rfl, fun _ _ => Nat.le_refl _, fun _ _ _ => rfl⟩
  refine ⟨⟨?_, ?_, hg.kt, ?_, fun x d => hE.good (hg.gk x d), fun x j => Nat.le_trans (hg.ah x j) (hHm x).length_le, hg.vs, ?_, ?_⟩, hE⟩
  · intro x hx
    have hxt : x ≠ t := by rintro rfl; have : g.L x = none := hx; rw [hl] at this; cases this
    rw [hH x hxt]; exact hg.hn x hx
  · intro x d hd
    obtain ⟨h1, h2, h3, h4⟩ := hg.ln x d hd
    refine ⟨h1, h2, h3.trans (hHm x), fun k hk1 hk2 => ?_⟩
    by_cases hk : k ≤ (g.H x).length
    · rw [hE.term hk]; exact h4 k hk1 hk
    · have hx : x = t := Classical.byContradiction fun hx => by rw [hH x hx] at hk2; exact hk hk2
      subst hx
      rw [hHt] at hk2 ⊢
      exact hown k (by omega) hk2
  · intro x k h1 h2
    by_cases hk : k ≤ (g.H x).length
    · rw [hE.take hk, hE.term hk]; exact hE.good (hg.gh x) k h1 hk
    · have hx : x = t := Classical.byContradiction fun hx => by rw [hH x hx] at h2; exact hk h2
      subst hx
      rw [hHt] at h2 ⊢
      rw [hown k (by omega) h2, hHt]; exact List.take_prefix _ _
  · intro u j d hd a k h1 h2 h3 h4
    have hk := Nat.le_trans h3 (hg.ah a j)
    rw [hE.take hk] at h4 ⊢
    exact hg.vk u j d hd a k h1 (hE.pt' h2 hk) h3 (hE.bet hg h4)
  · intro u d hd
    refine (hg.el u d hd).mono fun j _ hj => ⟨hj.1, fun a k h1 h2 h3 h4 => ?_⟩
    have hk : k ≤ (g.H a).length := Nat.le_trans h3 (hg.ah a j)
    rw [hE.take hk] at h4 ⊢
    exact hj.2 a k h1 (hE.pt' h2 hk) h3 (hE.bet hg h4)

theorem gi_ack (hg : GI n g) {t : Int} {k0 : Nat} (hk : k0 ≤ (g.H t).length) (hv : ∀ u, t < u → g.V u i = none) : GI n (g.ack t i k0) ∧ Evo i g (g.ack t i k0) := by
  have hA : ∀ x j, ¬ (x = t ∧ j = i) → (g.ack t i k0).A x j = g.A x j := fun x j h => upd2_ne _ _ h
  have hAm : ∀ x j, g.A x j ≤ (g.ack t i k0).A x j := by
    intro x j
    by_cases h : x = t ∧ j = i
    · obtain ⟨rfl, rfl⟩ := h
      show _ ≤ upd2 g.A x j _ x j
      rw [upd2_at]; exact Nat.le_max_left _ _
    · rw [hA x j h]; exact Nat.le_refl _
  have hold : ∀ u j d a k, g.V u j = some d → a < u → k ≤ (g.ack t i k0).A a j → k ≤ g.A a j := by
    intro u j d a k h1 h2 h3
    by_cases h : a = t ∧ j = i
    · obtain ⟨rfl, rfl⟩ := h
      rw [hv u h2] at h1; cases h1
    · rwa [hA a j h] at h3
  refine ⟨⟨hg.hn, hg.ln, hg.kt, hg.gh, hg.gk, ?_, hg.vs, ?_, ?_⟩, ⟨fun _ _ h => h, fun _ _ h => .inl h, fun _ _ _ => rfl, fun _ => List.prefix_refl _, fun _ _ _ _ => rfl, fun _ _ _ h => h, fun _ _ _ => rfl, hAm, fun x j hj => hA x j (fun h => hj h.2)⟩⟩
  · intro x j
    by_cases h : x = t ∧ j = i
    · obtain ⟨rfl, rfl⟩ := h
      show upd2 g.A x j _ x j ≤ _
      rw [upd2_at]
      exact Nat.max_le.2 ⟨hg.ah x j, hk⟩
    · rw [hA x j h]; exact hg.ah x j
  · intro u j d hd a k h1 h2 h3 h4
    exact hg.vk u j d hd a k h1 h2 (hold u j d a k hd h1 h3) h4
  · intro u d hd
    exact (hg.el u d hd).mono fun j _ hj => ⟨hj.1, fun a k h1 h2 h3 h4 => hj.2 a k h1 h2 (hold u j d a k hj.1 h1 h3) h4⟩

end

end Go.Proofs.Yteiecbkfganhnaa

namespace Go.Proofs.Yteiecbkfganhnaa

/-- Behind what node i did: what has been has grown, what held holds, and what it sent is right. -/
def Did (n i : Nat) (g : Gh) (r : Nd × List Msg) : Prop := ∃ g', Evo i g g' ∧ GI n g' ∧ NI n g' i r.1 ∧ ∀ m ∈ r.2, MI n g' m

section
variable {n i : Nat} {g : Gh} {s : Nd}

theorem Did.same (hg : GI n g) {t : Nd} {l : List Msg} (h : NI n g i t) (hm : ∀ m ∈ l, MI n g m) : Did n i g (t, l) := ⟨g, Evo.refl i g, hg, h, hm⟩
theorem Did.trans {g' : Gh} {r : Nd × List Msg} (he : Evo i g g') (h : Did n i g' r) : Did n i g r := by
  obtain ⟨g2, h1, h2⟩ := h
  exact ⟨g2, he.trans h1, h2⟩

/-- A message of a kind that tells nothing. -/
theorem MI.plain {m : Msg} (h2 : m.kind ≠ 2) (h3 : m.kind = 3 → m.granted = false) (h4 : m.kind ≠ 4) (h5 : m.kind = 5 → m.granted = false) : MI n g m where
  vote h := absurd h h2
  yes h hg := by rw [h3 h] at hg; cases hg
  app h := absurd h h4
  took h hg := by rw [h5 h] at hg; cases hg

/-- Term, vote and log stay; it comes to stand or lead not by this. -/
theorem NI.same {t : Nd} (h : NI n g i s) (hok : Ok t) (hid : t.id = s.id) (hn : t.n = s.n) (ht : t.term = s.term) (hv : t.vote = s.vote) (hl : t.log = s.log) (hc : Com n g s.term s.log t.commit)
    (h2 : t.role = 2 → s.role = 2 ∧ t.gr = s.gr) (h3 : t.role = 3 → s.role = 3 ∧ t.mt = s.mt) (h4 : t.role = 3 → t.leads = s.leads ∧ ∀ j, s.nx j ≤ t.nx j ∨ t.mt j < t.nx j := by intro hx; first | exact ⟨rfl, fun _ => .inl (Nat.le_refl _)⟩ | cases hx) : NI n g i t where
  ok := hok
  fid := hid.trans h.fid
  fn := hn.trans h.fn
  va u hu := h.va u (by rwa [ht] at hu)
  vo := by rw [ht, hv]; exact h.vo
  ta u hu := by rw [ht]; exact h.ta u hu
  cand hr := by
    obtain ⟨a, b⟩ := h2 hr
    obtain ⟨c1, c2, c3, c4⟩ := h.cand a
    rw [ht, hv, hl, b]
    exact ⟨c1, c2, c3, c4⟩
  ldr hr := by
    obtain ⟨a, b⟩ := h3 hr
    obtain ⟨c1, c2, c3⟩ := h.ldr a
    rw [ht, hl, b]
    exact ⟨c1, c2, c3⟩
  good := by rw [hl]; exact h.good
  has u k hp hk hb := by rw [hl]; exact h.has u k hp hk (by rwa [ht] at hb)
  com := by rw [ht, hl]; exact hc
  acc := by rw [ht, hl]; exact h.acc
  ldn hr := by
    obtain ⟨a, b⟩ := h3 hr
    obtain ⟨c1, c2, c3, c4⟩ := h.ldn a
    obtain ⟨d1, d2⟩ := h4 hr
    refine ⟨d1.trans c1, by rw [b, hl]; exact c2, fun j hj hji => ?_, by rw [hl, ht]; exact c4⟩
    rcases d2 j with d | d
    · have := c3 j hj hji
      rw [b]; omega
    · exact d

/-- It goes up to a greater term. -/
theorem NI.up {t : Nd} (h : NI n g i s) (hok : Ok t) (hid : t.id = s.id) (hn : t.n = s.n) (ht : s.term < t.term) (hv : t.vote = -1) (hl : t.log = s.log) (hc : t.commit = s.commit) (hr : t.role = 0 ∨ t.role = 1) : NI n g i t where
  ok := hok
  fid := hid.trans h.fid
  fn := hn.trans h.fn
  va u hu := h.va u (by omega)
  vo := by rw [hv, if_pos rfl]; exact h.va _ ht
  ta u hu := by have := h.ta u hu; omega
  cand h2 := by rcases hr with hr | hr <;> rw [hr] at h2 <;> cases h2
  ldr h2 := by rcases hr with hr | hr <;> rw [hr] at h2 <;> cases h2
  good := by rw [hl]; exact h.good
  has u k hp hk hb := by rw [hl]; exact h.has u k hp hk (hb.mono (Int.le_of_lt ht))
  com := by rw [hl, hc]; exact h.com.mono (Int.le_of_lt ht)
  acc := by
    have h0 : g.A t.term i = 0 := Nat.eq_zero_of_not_pos fun hx => by have := h.ta _ hx; omega
    rw [h0]; exact List.nil_prefix
  ldn h2 := by rcases hr with hr | hr <;> rw [hr] at h2 <;> cases h2

theorem follow_term (s : Nd) (t l : Int) : (s.follow t l).term = max s.term t := by
  unfold Nd.follow; split
  · show t = max s.term t; omega
  · show s.term = max s.term t; omega
theorem fol_role (s : Nd) (t l : Int) : (s.follow t l).role = 0 := by unfold Nd.follow; split <;> rfl
theorem follow_log (s : Nd) (t l : Int) : (s.follow t l).log = s.log := by unfold Nd.follow; split <;> rfl
theorem follow_commit (s : Nd) (t l : Int) : (s.follow t l).commit = s.commit := by unfold Nd.follow; split <;> rfl
theorem follow_id (s : Nd) (t l : Int) : (s.follow t l).id = s.id := by unfold Nd.follow; split <;> rfl
theorem follow_n (s : Nd) (t l : Int) : (s.follow t l).n = s.n := by unfold Nd.follow; split <;> rfl

theorem NI.follow (h : NI n g i s) (t l : Int) (ht : t ≤ 1000000) (hl : -1 ≤ l) : NI n g i (s.follow t l) := by
  have hok := h.ok.follow t l ht hl
  by_cases hlt : s.term < t
  · exact h.up hok (follow_id _ _ _) (follow_n _ _ _) (by rw [follow_term]; omega) (by unfold Nd.follow; rw [if_pos hlt]) (follow_log _ _ _) (follow_commit _ _ _) (.inl (fol_role _ _ _))
  · refine h.same hok (follow_id _ _ _) (follow_n _ _ _) (by rw [follow_term]; omega) (by unfold Nd.follow; rw [if_neg hlt]) (follow_log _ _ _) (by rw [follow_commit]; exact h.com) ?_ ?_ ?_
    · intro hr; rw [fol_role] at hr; cases hr
    · intro hr; rw [fol_role] at hr; cases hr
    · intro hr; rw [fol_role] at hr; cases hr

/-- What the vote asks for: what a node has taken is with whom it votes for. -/
theorem vote_core (hg : GI n g) (h : NI n g i s) {t' : Int} {c : Nat} (ht : s.term ≤ t') (hgood : s.termOf s.last < Nd.termAt (g.K t' c) (g.K t' c).length ∨ (Nd.termAt (g.K t' c) (g.K t' c).length = s.termOf s.last ∧ s.last ≤ (g.K t' c).length)) :
    ∀ t k, t < t' → Pt g t k → k ≤ g.A t i → Bet g t t' ((g.H t).take k) → (g.H t).take k <+: g.K t' c := by
  intro t k h1 hp hk hb
  have hP := h.has t k hp hk (hb.mono ht)
  have hlen : ((g.H t).take k).length = k := by rw [List.length_take]; have := hp.2.1; omega
  have hkl : k ≤ s.log.length := by have := hP.length_le; omega
  have htk : Nd.termAt s.log k = t := by
    rw [termAt_pre hP (by omega), termAt_take _ (Nat.le_refl _)]; exact hp.2.2
  have hk1 := hp.1
  -- the last entry's term is no less
  have hlast : t ≤ s.termOf s.last := by
    obtain ⟨a, rfl⟩ : ∃ a, k = a + 1 := ⟨k - 1, by omega⟩
    have hb1 : s.log.length - 1 < s.log.length := by omega
    have h5 := okE_rise h.ok.log a (s.log.length - 1) (by omega) hb1
    have h6 : s.termOf s.last = s.log[s.log.length - 1].1 := by
      unfold Nd.termOf Nd.last
      have := termAt_get hb1
      rwa [show s.log.length - 1 + 1 = s.log.length by omega] at this
    rw [termAt_get (by omega)] at htk
    omega
  have ht1 : 1 ≤ t := by
    obtain ⟨a, rfl⟩ : ∃ a, k = a + 1 := ⟨k - 1, by omega⟩
    rw [termAt_get (by omega)] at htk
    have := (okE_get h.ok.log a (by omega)).1
    omega
  have hKpos : 1 ≤ (g.K t' c).length := by
    rcases Nat.eq_zero_or_pos (g.K t' c).length with h0 | h0
    · exfalso
      rw [h0] at hgood
      have : Nd.termAt (g.K t' c) 0 = 0 := rfl
      omega
    · exact h0
  have hK := hg.gk t' c _ hKpos (Nat.le_refl _)
  rw [List.take_length] at hK
  have hKt := hg.kt t' c _ hKpos (Nat.le_refl _)
  generalize hτ : Nd.termAt (g.K t' c) (g.K t' c).length = τ at *
  rcases hgood with h7 | ⟨h7, h8⟩
  · cases hL : g.L τ with
    | none => have h10 := hg.hn τ hL; rw [h10] at hK; have h11 := hK.length_le; rw [List.length_nil] at h11; omega
    | some d =>
      have hB := hb τ (by omega) (by omega) d hL
      obtain ⟨_, _, h9, _⟩ := hg.ln τ d hL
      have hlt : (g.K τ d).length < (g.K t' c).length := by
        rcases Nat.lt_or_ge (g.K τ d).length (g.K t' c).length with hx | hx
        · exact hx
        · exfalso
          have e1 : Nd.termAt (g.H τ) (g.K t' c).length = τ := by rw [termAt_pre hK (Nat.le_refl _)]; exact hτ
          rw [termAt_pre h9 hx] at e1
          have := hg.kt τ d _ hKpos hx
          omega
      exact List.prefix_of_prefix_length_le (hB.trans h9) hK (by have := hB.length_le; omega)
  · have hl1 : 1 ≤ s.log.length := by omega
    have h9 := h.good s.log.length hl1 (Nat.le_refl _)
    rw [List.take_length, show Nd.termAt s.log s.log.length = τ from h7.symm] at h9
    exact hP.trans (List.prefix_of_prefix_length_le h9 hK h8)

/-- A vote is given. -/
theorem ni_vote (hg : GI n g) (h : NI n g i s) (hr : s.role = 0) {c : Nat} (hc : g.V s.term c = some c) (hv : s.vote = -1 ∨ s.vote = c) (hok : Ok ({ s with vote := c, elapsed := 0 } : Nd))
    (hgood : s.termOf s.last < Nd.termAt (g.K s.term c) (g.K s.term c).length ∨ (Nd.termAt (g.K s.term c) (g.K s.term c).length = s.termOf s.last ∧ s.last ≤ (g.K s.term c).length)) :
    Evo i g (g.vote s.term i c) ∧ GI n (g.vote s.term i c) ∧ NI n (g.vote s.term i c) i { s with vote := c, elapsed := 0 } ∧ (g.vote s.term i c).V s.term i = some c := by
  have h1 := gi_vote (i := i) hg hc (by rw [h.vo]; rcases hv with hv | hv <;> simp [hv]) (vote_core hg h (Int.le_refl _) hgood)
  have hat : (g.vote s.term i c).V s.term i = some c := upd2_at _ _ _ _
  refine ⟨h1.2, h1.1, ?_, hat⟩
  exact {
    ok := hok
    fid := h.fid
    fn := h.fn
    va := fun u hu => (upd2_ne _ _ (fun hx => by have hu' : s.term < u := hu; have := hx.1; omega)).trans (h.va u hu)
    vo := by
      show (g.vote s.term i c).V s.term i = if (c : Int) = -1 then none else some (c : Int).toNat
      rw [hat, if_neg (by omega)]; simp
    ta := h.ta
    cand := fun h2 => by have h3 : s.role = 2 := h2; rw [hr] at h3; cases h3
    ldr := fun h2 => by have h3 : s.role = 3 := h2; rw [hr] at h3; cases h3
    good := h.good
    has := h.has
    com := h1.2.com h.com
    acc := h.acc
    ldn := fun h2 => by have h3 : s.role = 3 := h2; rw [hr] at h3; cases h3 }

theorem log_lt (h : NI n g i s) (k : Nat) (h1 : 1 ≤ k) (h2 : k ≤ s.log.length) : Nd.termAt s.log k < s.term + 1 := by
  obtain ⟨a, rfl⟩ : ∃ a, k = a + 1 := ⟨k - 1, by omega⟩
  rw [termAt_get (by omega)]
  have := (okE_get h.ok.log a (by omega)).2.1
  omega

/-- It stands. -/
theorem ni_stand (hg : GI n g) (h : NI n g i s) (ht : s.term < 1000000) :
    Evo i g (g.stand (s.term + 1) i s.log) ∧ GI n (g.stand (s.term + 1) i s.log) ∧ NI n (g.stand (s.term + 1) i s.log) i s.standS := by
  have hi : i < n := by have := h.ok.id; rw [h.fid, h.fn] at this; exact this
  have hv := h.va (s.term + 1) (by omega)
  have h1 := gi_stand hg hi hv h.good (log_lt h) fun t0 k h1 hp hk hb => h.has t0 k hp hk (hb.mono (by omega))
  have hat : (g.stand (s.term + 1) i s.log).V (s.term + 1) i = some i := upd2_at _ _ _ _
  refine ⟨h1.2, h1.1, ?_⟩
  exact {
    ok := h.ok.standS ht
    fid := h.fid
    fn := h.fn
    va := fun u hu => (upd2_ne _ _ (fun hx => by have hu' : s.term + 1 < u := hu; have := hx.1; omega)).trans (h.va u (by have hu' : s.term + 1 < u := hu; omega))
    vo := by
      show (g.stand (s.term + 1) i s.log).V (s.term + 1) i = if (s.id : Int) = -1 then none else some (s.id : Int).toNat
      rw [hat, if_neg (by omega), h.fid]; simp
    ta := fun u hu => by have h2 : u ≤ s.term := h.ta u hu; show u ≤ s.term + 1; omega
    cand := fun _ => by
      refine ⟨by show (s.id : Int) = i; rw [h.fid], (upd2_at _ _ _ _).symm, fun hx => ?_, fun j hj hgr => ?_⟩
      · have hx2 : g.L (s.term + 1) = some i := hx
        have := (hg.ln _ _ hx2).2.1
        rw [hv] at this; cases this
      · have : upd none7 s.id true j = true := hgr
        have hji : j = i := by
          unfold upd at this
          split at this
          · rw [← h.fid]; assumption
          · cases this
        rw [hji]; exact hat
    ldr := fun h2 => by cases h2
    good := h1.2.good h.good
    has := fun u k hp hk hb => by
      have hkl := Nat.le_trans hk (hg.ah u i)
      refine h.has u k hp hk (h1.2.bet hg (Bet.mono hb ?_))
      show s.term ≤ s.term + 1; omega
    com := h1.2.com (h.com.mono (by show s.term ≤ s.term + 1; omega))
    acc := by
      have h0 : g.A (s.term + 1) i = 0 := Nat.eq_zero_of_not_pos fun hx => by have := h.ta _ hx; omega
      show (g.H (s.term + 1)).take (g.A (s.term + 1) i) <+: s.log
      rw [h0]; exact List.nil_prefix
    ldn := fun h2 => by cases h2 }

end

end Go.Proofs.Yteiecbkfganhnaa

namespace Go.Proofs.Yteiecbkfganhnaa

section
variable {n i : Nat} {g : Gh} {s : Nd}

theorem cntTo_sub {a b : Nat → Bool} {m : Nat} (h : ∀ j, j < m → a j = true → b j = true) : cntTo a m ≤ cntTo b m := by
  induction m with
  | zero => simp [cntTo]
  | succ m ih =>
    have h1 := ih fun j hj => h j (by omega)
    have h2 := h m (by omega)
    simp only [cntTo, b1]
    cases ha : a m <;> cases hb : b m <;> simp_all <;> omega

theorem cntTo_over {a : Nat → Bool} {m k : Nat} (h : ∀ j, m ≤ j → a j = false) (hk : m ≤ k) : cntTo a k = cntTo a m := by
  induction k with
  | zero => have : m = 0 := by omega
            rw [this]
  | succ k ih =>
    by_cases he : m = k + 1
    · rw [he]
    · rw [← ih (by omega)]
      simp [cntTo, b1, h k (by omega)]

theorem most_of_maj (h : NI n g i s) {b : Nat → Bool} {S : Nat → Prop} (hb : ∀ j, j < n → b j = true → S j) (hm : s.maj (cntTo b n) = true) : Most n S := by
  refine ⟨b, hb, ?_⟩
  have := of_decide_eq_true hm
  rw [h.fn] at this
  exact this

theorem countFrom_spec (s : Nd) (m : Nat) : s.countFrom m = s.commit ∨ (1 ≤ s.countFrom m ∧ s.countFrom m ≤ m ∧ s.maj (s.have_ (s.countFrom m)) = true ∧ s.termOf (s.countFrom m) = s.term) := by
  induction m with
  | zero => exact .inl rfl
  | succ m ih =>
    simp only [Nd.countFrom]
    split
    · exact .inl rfl
    · split
      · rename_i h; exact .inr ⟨by omega, by omega, h.1, h.2⟩
      · rcases ih with h | ⟨h1, h2, h3⟩
        · exact .inl h
        · exact .inr ⟨h1, by omega, h3⟩

/-- A leader counts. -/
theorem ni_count (h : NI n g i s) (hr : s.role = 3) (hok : Ok s.count) : NI n g i s.count := by
  obtain ⟨h1, h2, h3⟩ := h.ldr hr
  refine h.same hok rfl rfl rfl rfl rfl ?_ (fun hx => ⟨hx, rfl⟩) (fun hx => ⟨hx, rfl⟩)
  show Com n g s.term s.log (s.countFrom s.last)
  rcases countFrom_spec s s.last with he | ⟨k1, k2, k3, k4⟩
  · rw [he]; exact h.com
  · generalize s.countFrom s.last = k at *
    have hn := h.fn
    refine .inr ⟨k2, s.term, k, Int.le_refl _, ⟨⟨k1, by rw [← h2]; exact k2, by rw [← h2]; exact k4⟩, ?_⟩, Nat.le_refl _, by rw [← h2]⟩
    unfold Nd.have_ at k3
    rw [hn] at k3
    exact most_of_maj h (fun j hj hb => Nat.le_trans (of_decide_eq_true hb) (h3 j hj)) k3

/-- An Append of a leader. -/
theorem mi_append (h : NI n g i s) (hr : s.role = 3) (j : Nat) (hj : j < n) : MI n g (s.appendTo j) := by
  obtain ⟨h1, h2, h3⟩ := h.ldr hr
  have hL := h.ok.lead hr
  have hlo := hL.lo j (by rw [h.fn]; exact hj)
  have hhi := hL.hi j (by rw [h.fn]; exact hj)
  have hlen : s.last = (g.H s.term).length := by show s.log.length = _; rw [h2]
  have hidx : (((s.nx j : Nat) : Int) - 1).toNat = s.nx j - 1 := by omega
  refine ⟨fun hk => (by cases hk), fun hk => (by cases hk), fun _ => ⟨i, by show (s.id : Int) = i; rw [h.fid], h1, ?_, ?_, ?_, ?_⟩, fun hk => (by cases hk)⟩
  · show (((s.nx j : Nat) : Int) - 1).toNat ≤ (g.H s.term).length
    rw [hidx, ← hlen]; omega
  · show Nd.termAt (g.H s.term) (((s.nx j : Nat) : Int) - 1).toNat = Nd.termAt s.log (s.nx j - 1)
    rw [hidx, h2]
  · show (s.log.drop (s.nx j - 1)).take 3 <+: (g.H s.term).drop (((s.nx j : Nat) : Int) - 1).toNat
    rw [hidx, h2]; exact List.take_prefix _ _
  · show Com n g s.term (g.H s.term) ((s.commit : Nat) : Int).toNat
    rw [← h2]; simpa using h.com

theorem rf_others (h : NI n g i s) {j : Nat} (hj : j ∈ s.others) : j < n := by
  unfold Nd.others at hj
  simp only [List.mem_filter, List.mem_range] at hj
  rw [h.fn] at hj
  exact hj.1

theorem mi_appends (h : NI n g i s) (hr : s.role = 3) : ∀ m ∈ s.appends, MI n g m := by
  intro m hm
  unfold Nd.appends at hm
  obtain ⟨j, hj, rfl⟩ := List.mem_map.1 hm
  exact mi_append h hr j (rf_others h hj)

/-- A leader's log is one entry longer, and its own match is its last. -/
theorem ni_put (hg : GI n g) (h : NI n g i s) (hr : s.role = 3) (c : ByteArray) (hok : Ok (s.puts c).leadC) :
    Evo i g ((g.more s.term (s.log ++ [(s.term, c)])).ack s.term i (s.last + 1)) ∧ GI n ((g.more s.term (s.log ++ [(s.term, c)])).ack s.term i (s.last + 1)) ∧ NI n ((g.more s.term (s.log ++ [(s.term, c)])).ack s.term i (s.last + 1)) i (s.puts c).leadC := by
  obtain ⟨h1, h2, h3⟩ := h.ldr hr
  have hlen : (s.log ++ [(s.term, c)]).length = s.last + 1 := by simp [Nd.last]
  have e1 := gi_more hg (l := s.log ++ [(s.term, c)]) h1 (by rw [← h2]; exact List.prefix_append _ _) (by
    intro k k1 k2
    rw [← h2] at k1
    have : k = s.log.length + 1 := by simp at k2; omega
    subst this
    simp [Nd.termAt])
  have hHt : (g.more s.term (s.log ++ [(s.term, c)])).H s.term = s.log ++ [(s.term, c)] := upd1_at _ _ _
  have e2 := gi_ack (i := i) e1.1 (t := s.term) (k0 := s.last + 1) (by rw [hHt, hlen]; exact Nat.le_refl _) (fun u hu => h.va u hu)
  have hE := e1.2.trans e2.2
  refine ⟨hE, e2.1, ?_⟩
  generalize hg2 : (g.more s.term (s.log ++ [(s.term, c)])).ack s.term i (s.last + 1) = g2 at *
  have hH2 : g2.H s.term = s.log ++ [(s.term, c)] := by rw [← hg2]; exact hHt
  have hA2 : g2.A s.term i = max (g.A s.term i) (s.last + 1) := by rw [← hg2]; exact upd2_at _ _ _ _
  have hA3 : ∀ t j, ¬ (t = s.term ∧ j = i) → g2.A t j = g.A t j := by intro t j hx; rw [← hg2]; exact upd2_ne _ _ hx
  have hV2 : g2.V = g.V := by rw [← hg2]; rfl
  have hL2 : g2.L = g.L := by rw [← hg2]; rfl
  have hlast := hg.ah s.term i
  exact {
    ok := hok
    fid := h.fid
    fn := h.fn
    va := fun u hu => by rw [hV2]; exact h.va u hu
    vo := by rw [hV2]; exact h.vo
    ta := fun t ht => by
      by_cases hx : t = s.term
      · rw [hx]; exact Int.le_refl _
      · rw [hA3 t i (fun hy => hx hy.1)] at ht; exact h.ta t ht
    cand := fun hx => by have hy : s.role = 2 := hx; rw [hr] at hy; cases hy
    ldr := fun _ => by
      refine ⟨by rw [hL2]; exact h1, hH2.symm, fun j hj => ?_⟩
      show upd s.mt s.id (s.puts c).last j ≤ g2.A s.term j
      unfold upd
      split
      · rename_i hji
        have : j = i := by rw [hji]; exact h.fid
        subst this
        rw [hA2]
        have : (s.puts c).last = s.last + 1 := hlen
        omega
      · exact Nat.le_trans (h3 j hj) (hE.A _ _)
    good := by
      show LGood g2 (s.log ++ [(s.term, c)])
      rw [← hH2]; exact e2.1.gh _
    has := fun t k hp hk hb => by
      show (g2.H t).take k <+: s.log ++ [(s.term, c)]
      by_cases hx : t = s.term
      · subst hx; rw [hH2]; exact List.take_prefix _ _
      · rw [hA3 t i (fun hy => hx hy.1)] at hk
        have hkl := Nat.le_trans hk (hg.ah t i)
        rw [hE.take hkl] at hb ⊢
        exact (h.has t k (hE.pt' hp hkl) hk (hE.bet hg hb)).trans (List.prefix_append _ _)
    com := by
      show Com n g2 s.term (s.log ++ [(s.term, c)]) s.commit
      have h4 := h.ok.com
      have h5 : s.commit ≤ s.log.length := h4
      exact (hE.com h.com).pre (Nat.le_refl _) (by rw [hlen]; omega) (List.take_append_of_le_length h5)
    acc := by
      show (g2.H s.term).take (g2.A s.term i) <+: s.log ++ [(s.term, c)]
      rw [hH2]; exact List.take_prefix _ _
    ldn := fun _ => by
      obtain ⟨c1, c2, c3, _⟩ := h.ldn hr
      refine ⟨c1, ?_, fun j hj hji => ?_, .inr ?_⟩
      · show upd s.mt s.id (s.puts c).last i = (s.puts c).last
        unfold upd; rw [if_pos h.fid.symm]
      · show upd s.mt s.id (s.puts c).last j < s.nx j
        unfold upd
        rw [if_neg (by rw [h.fid]; exact hji)]
        exact c3 j hj hji
      · show Nd.termAt (s.log ++ [(s.term, c)]) (s.log ++ [(s.term, c)]).length = s.term
        simp [Nd.termAt] }

/-- It leads. -/
theorem ni_lead (hg : GI n g) (h : NI n g i s) (hr : s.role = 2) (hm : s.maj (cnt s.gr) = true) (ht : 1 ≤ s.term) : Did n i g s.lead := by
  obtain ⟨h1, h2, h3, h4⟩ := h.cand hr
  have hn7 : n ≤ 7 := by have := h.ok.n7; rw [h.fn] at this; exact this
  have hcnt : cnt s.gr = cntTo s.gr n := cntTo_over (fun j hj => h.ok.g7 j (by rw [h.fn]; exact hj)) hn7
  rw [hcnt] at hm
  have hmost : Most n fun j => g.V s.term j = some i := most_of_maj h h4 hm
  have hL0 : g.L s.term = none := by
    cases hx : g.L s.term with
    | none => rfl
    | some c =>
      exfalso
      obtain ⟨j, _, ⟨k1, _⟩, k2⟩ := (hg.el s.term c hx).meet hmost
      rw [k1] at k2
      rw [Option.some.inj k2] at hx
      exact h3 hx
  have hok := h.ok.leadS ht
  -- the log with which it leads
  generalize hl : s.leadA.leadB.log = l at *
  have hlog : s.leadS.log = l := hl
  have hform : (l = s.log ++ [(s.term, ⟨#[]⟩)]) ∨ l = s.log := by
    rw [← hl]
    unfold Nd.leadB
    split
    · exact .inl rfl
    · exact .inr rfl
  have hpre : g.K s.term i <+: l := by
    rw [← h2]
    rcases hform with hx | hx <;> rw [hx]
    · exact List.prefix_append _ _
    · exact List.prefix_refl _
  have hown : ∀ k, (g.K s.term i).length < k → k ≤ l.length → Nd.termAt l k = s.term := by
    rw [← h2]
    intro k k1 k2
    rcases hform with hx | hx
    · have : k = s.log.length + 1 := by rw [hx] at k2; simp at k2; omega
      subst this
      rw [hx]; simp [Nd.termAt]
    · rw [hx] at k2; omega
  have e1 := gi_lead hg hL0 hmost hpre hown
  have hHt : (g.lead s.term i l).H s.term = l := upd1_at _ _ _
  have e2 := gi_ack (i := i) e1.1 (t := s.term) (k0 := l.length) (by rw [hHt]; exact Nat.le_refl _) (fun u hu => h.va u hu)
  have hE := e1.2.trans e2.2
  generalize hg2 : (g.lead s.term i l).ack s.term i l.length = g2 at *
  have hH2 : g2.H s.term = l := by rw [← hg2]; exact hHt
  have hA2 : g2.A s.term i = max (g.A s.term i) l.length := by rw [← hg2]; exact upd2_at _ _ _ _
  have hA3 : ∀ t j, ¬ (t = s.term ∧ j = i) → g2.A t j = g.A t j := by intro t j hx; rw [← hg2]; exact upd2_ne _ _ hx
  have hV2 : g2.V = g.V := by rw [← hg2]; rfl
  have hL2 : g2.L s.term = some i := by rw [← hg2]; exact upd1_at _ _ _
  have f1 : s.leadA.leadB.leadC.term = s.term := by show s.leadA.leadB.term = _; unfold Nd.leadB; split <;> rfl
  have f2 : s.leadA.leadB.leadC.id = s.id := by show s.leadA.leadB.id = _; unfold Nd.leadB; split <;> rfl
  have f3 : s.leadA.leadB.leadC.n = s.n := by show s.leadA.leadB.n = _; unfold Nd.leadB; split <;> rfl
  have f4 : s.leadA.leadB.leadC.vote = s.vote := by show s.leadA.leadB.vote = _; unfold Nd.leadB; split <;> rfl
  have f5 : s.leadA.leadB.leadC.role = 3 := by show s.leadA.leadB.role = _; unfold Nd.leadB; split <;> rfl
  have f6 : s.leadA.leadB.leadC.commit = s.commit := by show s.leadA.leadB.commit = _; unfold Nd.leadB; split <;> rfl
  have f7 : ∀ j, j < n → j ≠ i → s.leadA.leadB.leadC.mt j = 0 := by
    intro j hj hji
    have hjn : j < s.n := by rw [h.fn]; exact hj
    have e : s.leadA.leadB.mt j = 0 := by unfold Nd.leadB; split <;> exact if_pos hjn
    show upd s.leadA.leadB.mt s.leadA.leadB.id s.leadA.leadB.last j = 0
    have hid : s.leadA.leadB.id = s.id := by unfold Nd.leadB; split <;> rfl
    unfold upd
    rw [if_neg (by rw [hid, h.fid]; exact hji)]
    exact e
  have f8 : s.leadA.leadB.leadC.mt i = l.length := by
    show upd s.leadA.leadB.mt s.leadA.leadB.id s.leadA.leadB.last i = l.length
    have hid : s.leadA.leadB.id = s.id := by unfold Nd.leadB; split <;> rfl
    unfold upd
    rw [if_pos (by rw [hid, h.fid])]
    show s.leadA.leadB.log.length = _
    rw [hl]
  -- ahead of the count
  have hokC : Ok s.leadA.leadB.leadC := by
    have h9 := h.ok.com
    have hcl : s.commit ≤ l.length := by
      have : s.commit ≤ s.log.length := h9
      rcases hform with hx | hx <;> rw [hx] <;> simp <;> omega
    refine { hok with com := ?_, lead := fun h3 => (hok.lead h3).same rfl rfl rfl rfl }
    rw [f6]
    show s.commit ≤ s.leadA.leadB.log.length
    rw [hl]; exact hcl
  have hN : NI n g2 i s.leadA.leadB.leadC := {
    ok := hokC
    fid := f2.trans h.fid
    fn := f3.trans h.fn
    va := fun u hu => by rw [hV2]; exact h.va u (by rwa [f1] at hu)
    vo := by rw [hV2, f1, f4]; exact h.vo
    ta := fun t ht => by
      rw [f1]
      by_cases hx : t = s.term
      · rw [hx]; exact Int.le_refl _
      · rw [hA3 t i (fun hy => hx hy.1)] at ht; exact h.ta t ht
    cand := fun hx => by rw [f5] at hx; cases hx
    ldr := fun _ => by
      rw [f1]
      refine ⟨hL2, by rw [hH2]; exact hl, fun j hj => ?_⟩
      by_cases hji : j = i
      · rw [hji, f8, hA2]; omega
      · rw [f7 j hj hji]; exact Nat.zero_le _
    good := by
      show LGood g2 s.leadA.leadB.log
      rw [hl, ← hH2]; exact e2.1.gh _
    has := fun t k hp hk hb => by
      show (g2.H t).take k <+: s.leadA.leadB.log
      rw [hl]
      rw [f1] at hb
      by_cases hx : t = s.term
      · subst hx; rw [hH2]; exact List.take_prefix _ _
      · rw [hA3 t i (fun hy => hx hy.1)] at hk
        have hkl := Nat.le_trans hk (hg.ah t i)
        rw [hE.take hkl] at hb ⊢
        have h5 := h.has t k (hE.pt' hp hkl) hk (hE.bet hg hb)
        rw [h2] at h5
        exact h5.trans hpre
    com := by
      rw [f1, f6]
      show Com n g2 s.term s.leadA.leadB.log s.commit
      rw [hl]
      have h5 : s.commit ≤ s.log.length := h.ok.com
      refine (hE.com h.com).pre (Nat.le_refl _) ?_ ?_
      · rcases hform with hx | hx <;> rw [hx]
        · rw [List.length_append]; omega
        · exact h5
      · rcases hform with hx | hx <;> rw [hx]
        exact List.take_append_of_le_length h5
    acc := by
      rw [f1]
      show (g2.H s.term).take (g2.A s.term i) <+: s.leadA.leadB.log
      rw [hl, hH2]; exact List.take_prefix _ _
    ldn := fun _ => by
      refine ⟨?_, by rw [f8]; show _ = s.leadA.leadB.log.length; rw [hl], fun j hj hji => ?_, ?_⟩
      · show s.leadA.leadB.leads = (i : Int)
        have : s.leadA.leadB.leads = (s.id : Int) := by unfold Nd.leadB; split <;> rfl
        rw [this, h.fid]
      · rw [f7 j hj hji]
        show 0 < s.leadA.leadB.nx j
        have : s.leadA.leadB.nx j = if j < s.n then s.last + 1 else s.nx j := by unfold Nd.leadB; split <;> rfl
        rw [this, if_pos (by rw [h.fn]; exact hj)]
        omega
      · rw [f1]
        show 60 ≤ s.leadA.leadB.log.length ∨ Nd.termAt s.leadA.leadB.log s.leadA.leadB.log.length = s.term
        unfold Nd.leadB
        split
        · right
          show Nd.termAt (s.log ++ [(s.term, _)]) (s.log ++ [(s.term, _)]).length = s.term
          simp [Nd.termAt]
        · rename_i hx
          left
          have hy : ¬ s.log.length < 60 := hx
          show 60 ≤ s.log.length
          omega }
  have hN2 := ni_count hN f5 hok
  exact ⟨g2, hE, e2.1, hN2, mi_appends hN2 f5⟩

end

end Go.Proofs.Yteiecbkfganhnaa

namespace Go.Proofs.Yteiecbkfganhnaa

def Nd.propose (s : Nd) (c : ByteArray) : Int × Nd × List Msg × Int :=
  if s.propErr c = 0 then (((s.proposeS c).last : Int), s.proposeS c, (s.proposeS c).appends, 0) else (0, s, [], s.propErr c)

theorem lead_term {s : Nd} (h : Ok s) (hr : s.role = 3) : 1 ≤ s.term := by
  have hl := (h.lead hr).pos
  have := okE_get h.log 0 hl
  omega

theorem Ok.propose {s : Nd} (h : Ok s) (c : ByteArray) : Ok (s.propose c).2.1 := by
  unfold Nd.propose
  split
  · rename_i hp
    unfold Nd.propErr at hp
    split at hp
    · cases hp
    · split at hp
      · cases hp
      · split at hp
        · cases hp
        · rename_i h1 h2 h3
          have hr : s.role = 3 := Classical.not_not.1 h2
          exact h.proposeS c (by omega) (by omega) (lead_term h hr)
  · exact h

abbrev ptr (b : Nat) : Value := .pointer (some ⟨b, 0, none⟩)

/-- Which of n things a raw number speaks of. -/
def pickZ (c n : Int) : Int := (if c < 0 then -(c + 1) else c) % n

theorem pickZ_lo (c n : Int) (h : 0 < n) : 0 ≤ pickZ c n := Int.emod_nonneg _ (by omega)
theorem pickZ_hi (c n : Int) (h : 0 < n) : pickZ c n < n := Int.emod_lt_of_pos _ h

/-- A command, out of a raw number. -/
def cmdOf (n : Int) : ByteArray := Go.strOfNums [99, 48 + pickZ n 10]

theorem cmdOf_size (n : Int) : (cmdOf n).size = 2 := rfl

end Go.Proofs.Yteiecbkfganhnaa

namespace Go.Proofs.Yteiecbkfganhnaa

section
variable {n i : Nat} {g : Gh} {s : Nd}

theorem did_stand (hg : GI n g) (h : NI n g i s) (ht : s.term < 1000000) : Did n i g s.stand := by
  obtain ⟨e1, e2, e3⟩ := ni_stand hg h ht
  unfold Nd.stand
  split
  · rename_i hm
    exact Did.trans e1 (ni_lead e2 e3 rfl hm (by show 1 ≤ s.term + 1; have := h.ok.t0; omega))
  · refine ⟨_, e1, e2, e3, ?_⟩
    intro m hm
    unfold Nd.request at hm
    obtain ⟨j, hj, rfl⟩ := List.mem_map.1 hm
    have hK : (g.stand (s.term + 1) i s.log).K (s.term + 1) i = s.log := upd2_at _ _ _ _
    refine ⟨fun _ => ⟨i, by show (s.id : Int) = i; rw [h.fid], upd2_at _ _ _ _, ?_, ?_⟩, fun hk => (by cases hk), fun hk => (by cases hk), fun hk => (by cases hk)⟩
    · show (((g.stand (s.term + 1) i s.log).K (s.term + 1) i).length : Int) = (s.log.length : Int)
      rw [hK]
    · show Nd.termAt ((g.stand (s.term + 1) i s.log).K (s.term + 1) i) ((g.stand (s.term + 1) i s.log).K (s.term + 1) i).length = Nd.termAt s.log s.log.length
      rw [hK]

theorem did_ask (hg : GI n g) (h : NI n g i s) (ht : s.term < 1000000) : Did n i g s.ask := by
  have hok := h.ok.campaign 1 (by decide)
  have h1 : NI n g i (s.campaign 1) := h.same hok rfl rfl rfl rfl rfl h.com (fun hx => by cases hx) (fun hx => by cases hx)
  unfold Nd.ask
  split
  · exact did_stand hg h1 ht
  · refine Did.same hg h1 ?_
    intro m hm
    unfold Nd.request at hm
    obtain ⟨j, hj, rfl⟩ := List.mem_map.1 hm
    exact MI.plain (by show (0 : Int) ≠ 2; decide) (fun hk => by cases hk) (by show (0 : Int) ≠ 4; decide) (fun hk => by cases hk)

theorem did_tick (hg : GI n g) (h : NI n g i s) : Did n i g s.tick := by
  have hokS : Ok s.tickS := { h.ok with e0 := by show 0 ≤ s.elapsed + 1; have := h.ok.e0; omega, lead := fun h3 => (h.ok.lead h3).same rfl rfl rfl rfl }
  have hS : NI n g i s.tickS := h.same hokS rfl rfl rfl rfl rfl h.com (fun hx => ⟨hx, rfl⟩) (fun hx => ⟨hx, rfl⟩)
  unfold Nd.tick
  split
  · rename_i hr
    unfold Nd.tickLeader
    split
    · split
      · have hok2 : Ok ({ s.tickS with elapsed := 0, hd := none7 } : Nd) := { hokS with e0 := Int.le_refl _, h7 := fun _ _ => rfl, lead := fun h3 => (hokS.lead h3).same rfl rfl rfl rfl }
        have h2 : NI n g i ({ s.tickS with elapsed := 0, hd := none7 } : Nd) := hS.same hok2 rfl rfl rfl rfl rfl hS.com (fun hx => ⟨hx, rfl⟩) (fun hx => ⟨hx, rfl⟩)
        exact Did.same hg h2 (mi_appends h2 hr)
      · have hok2 : Ok ({ s.tickS with elapsed := 0 } : Nd) := { hokS with e0 := Int.le_refl _, lead := fun h3 => (hokS.lead h3).same rfl rfl rfl rfl }
        have h2 : NI n g i ({ s.tickS with elapsed := 0 } : Nd) := hS.same hok2 rfl rfl rfl rfl rfl hS.com (fun hx => ⟨hx, rfl⟩) (fun hx => ⟨hx, rfl⟩)
        exact Did.same hg (h2.follow _ _ h.ok.t1 (by decide)) (fun m hm => by cases hm)
    · exact Did.same hg hS (mi_appends hS hr)
  · split
    · exact Did.same hg hS (fun m hm => by cases hm)
    · rename_i h1
      exact did_ask hg hS (by show s.term < 1000000; omega)

theorem mi_reply {k : Int} (hk : k = 1 ∨ k = 3 ∨ k = 5) (t : Nd) (dst term index : Int) (yes : Bool) (h1 : k = 1 ∨ yes = false) : MI n g (t.reply k dst term index yes) := by
  refine MI.plain ?_ ?_ ?_ ?_
  · show k ≠ 2; omega
  · intro h; have h' : k = 3 := h; rcases h1 with h1 | h1; omega; exact h1
  · show k ≠ 4; omega
  · intro h; have h' : k = 5 := h; rcases h1 with h1 | h1; omega; exact h1

theorem one_mem {α : Type} {P : α → Prop} {x : α} (h : P x) : ∀ y ∈ [x], P y := by
  intro y hy; rw [List.mem_singleton.1 hy]; exact h

theorem did_stepAsk (hg : GI n g) (h : NI n g i s) (m : Msg) : Did n i g (s.stepAsk m) := by
  unfold Nd.stepAsk
  split
  · exact Did.same hg h (one_mem (mi_reply (.inl rfl) _ _ _ _ _ (.inl rfl)))
  · split
    · exact Did.same hg h (fun _ hm => by cases hm)
    · exact Did.same hg h (one_mem (mi_reply (.inl rfl) _ _ _ _ _ (.inl rfl)))

theorem ok_grant (h : NI n g i s) {m : Msg} (hm : SoundM m s.id s.n) : Ok (s.addGrant m.src.toNat) :=
  { h.ok with g7 := fun _ hi => upd_over h.ok.g7 (by have := hm.s0; have := hm.s1; omega) hi, lead := fun h3 => (h.ok.lead h3).same rfl rfl rfl rfl }

theorem did_stepAskReply (hg : GI n g) (h : NI n g i s) (m : Msg) (hm : SoundM m s.id s.n) : Did n i g (s.stepAskReply m) := by
  unfold Nd.stepAskReply
  split
  · split
    · exact Did.same hg (h.follow _ _ hm.t1 (by decide)) (fun _ hx => by cases hx)
    · exact Did.same hg h (fun _ hx => by cases hx)
  · split
    · rename_i h1
      have h2 : NI n g i (s.addGrant m.src.toNat) := h.same (ok_grant h hm) rfl rfl rfl rfl rfl h.com (fun hx => by have hy : s.role = 2 := hx; rw [h1.1] at hy; cases hy) (fun hx => ⟨hx, rfl⟩)
      split
      · exact did_stand hg h2 (by show s.term < 1000000; have := hm.t1; omega)
      · exact Did.same hg h2 (fun _ hx => by cases hx)
    · exact Did.same hg h (fun _ hx => by cases hx)

theorem did_stepVoteReply (hg : GI n g) (h : NI n g i s) (m : Msg) (hm : SoundM m s.id s.n) (hi : MI n g m) (hk : m.kind = 3) : Did n i g (s.stepVoteReply m) := by
  unfold Nd.stepVoteReply
  split
  · exact Did.same hg (h.follow _ _ hm.t1 (by decide)) (fun _ hx => by cases hx)
  · split
    · rename_i h1
      obtain ⟨c1, c2, c3, c4⟩ := h.cand h1.2.1
      obtain ⟨d, j, y1, y2, y3⟩ := hi.yes hk h1.1
      have hd : d = i := by have := hm.dst; rw [y1, h.fid] at this; omega
      have hsrc : m.src.toNat = j := by omega
      have h2 : NI n g i (s.addGrant m.src.toNat) := {
        h.same (t := { s with elapsed := s.elapsed }) h.ok rfl rfl rfl rfl rfl h.com (fun hx => ⟨hx, rfl⟩) (fun hx => ⟨hx, rfl⟩) with
        ok := ok_grant h hm
        cand := fun _ => ⟨c1, c2, c3, fun x hx hgr => by
          have hgr' : upd s.gr m.src.toNat true x = true := hgr
          unfold upd at hgr'
          split at hgr'
          · rename_i he
            show g.V s.term x = some i
            rw [he, hsrc, ← h1.2.2, y3, hd]
          · exact c4 x hx hgr'⟩ }
      split
      · rename_i hmaj
        exact ni_lead hg h2 h1.2.1 hmaj (by show 1 ≤ s.term; have := hm.t0; omega)
      · exact Did.same hg h2 (fun _ hx => by cases hx)
    · exact Did.same hg h (fun _ hx => by cases hx)

theorem did_stepVote (hg : GI n g) (h : NI n g i s) (m : Msg) (hm : SoundM m s.id s.n) (hi : MI n g m) (hk : m.kind = 2) : Did n i g (s.stepVote m) := by
  have hokv := h.ok.stepVote m hm
  have hv : NI n g i (s.voteS m) := by
    unfold Nd.voteS
    split
    · exact h.follow _ _ hm.t1 (by decide)
    · exact h
  unfold Nd.stepVote at hokv ⊢
  split
  · exact Did.same hg h (fun _ hx => by cases hx)
  · rename_i hkn
    rw [if_neg hkn] at hokv
    cases hy : (s.voteS m).votes m with
    | false =>
      rw [if_neg (by decide)]
      exact Did.same hg hv (one_mem (mi_reply (.inr (.inl rfl)) _ _ _ _ _ (.inr rfl)))
    | true =>
      rw [if_pos rfl]
      rw [if_pos hy] at hokv
      obtain ⟨c, x1, x2, x3, x4⟩ := hi.vote hk
      unfold Nd.votes at hy
      simp only [Bool.and_eq_true, Bool.or_eq_true, decide_eq_true_eq] at hy
      obtain ⟨⟨y1, y2, y3⟩, y4⟩ := hy
      have hgood : (s.voteS m).termOf (s.voteS m).last < Nd.termAt (g.K (s.voteS m).term c) (g.K (s.voteS m).term c).length ∨ (Nd.termAt (g.K (s.voteS m).term c) (g.K (s.voteS m).term c).length = (s.voteS m).termOf (s.voteS m).last ∧ (s.voteS m).last ≤ (g.K (s.voteS m).term c).length) := by
        rw [← y1, x4]
        unfold Nd.asGood at y4
        simp only [Bool.and_eq_true, Bool.or_eq_true, decide_eq_true_eq] at y4
        rcases y4 with z | ⟨z1, z2⟩
        · exact .inl z
        · exact .inr ⟨z1, by omega⟩
      rw [x1] at hokv y3 ⊢
      obtain ⟨e1, e2, e3, e4⟩ := ni_vote hg hv y2 (by rw [← y1]; exact x2) y3 hokv hgood
      refine ⟨_, e1, e2, e3, one_mem ?_⟩
      refine ⟨fun hx => (by cases hx), fun _ _ => ⟨c, i, rfl, by show (((s.voteS m).id : Nat) : Int) = i; rw [hv.fid], e4⟩, fun hx => (by cases hx), fun hx => (by cases hx)⟩

/-- The log behind an Append: where it was told of nothing new it is as it was, else it is the leader's up to the last entry that was told. -/
theorem takes_shape {h l : List Ent} (hgl : LGood g l) (hgh : LGood g h) (es : List Ent) (at_ : Nat) (ha : at_ ≤ l.length) (hes : es <+: h.drop at_) (hah : at_ ≤ h.length) (heq : l.take at_ = h.take at_) :
    (Nd.takes l at_ es = l ∧ at_ + es.length ≤ l.length ∧ l.take (at_ + es.length) = h.take (at_ + es.length)) ∨
    (∃ a, at_ ≤ a ∧ a < at_ + es.length ∧ a ≤ l.length ∧ l.take a = h.take a ∧ (l.length ≤ a ∨ Nd.termAt l (a + 1) ≠ Nd.termAt h (a + 1)) ∧ Nd.takes l at_ es = h.take (at_ + es.length)) := by
  induction es generalizing at_ with
  | nil => exact .inl ⟨rfl, by simpa using ha, by simpa using heq⟩
  | cons e es ih =>
    have hlt : at_ < h.length := by have := hes.length_le; rw [List.length_drop, List.length_cons] at this; omega
    have hdrop : h.drop at_ = h[at_] :: h.drop (at_ + 1) := List.drop_eq_getElem_cons hlt
    rw [hdrop] at hes
    obtain ⟨he, hes'⟩ := List.cons_prefix_cons.1 hes
    have hth : Nd.termAt h (at_ + 1) = e.1 := by rw [termAt_get hlt, he]
    simp only [Nd.takes]
    split
    · rename_i hc
      refine .inr ⟨at_, Nat.le_refl _, by simp, ha, heq, by rw [hth]; exact hc, ?_⟩
      obtain ⟨r, hr⟩ := hes
      rw [← hdrop] at hr
      have h9 : h = h.take at_ ++ ((e :: es) ++ r) := by rw [hr, List.take_append_drop]
      rw [heq]
      have hlen : (h.take at_ ++ (e :: es)).length = at_ + (e :: es).length := by rw [List.length_append, List.length_take]; omega
      rw [← List.append_assoc] at h9
      have h10 : h.take (at_ + (e :: es).length) = h.take at_ ++ (e :: es) := by
        have h11 := congrArg (List.take (at_ + (e :: es).length)) h9
        rw [h11, ← hlen, List.take_left']
        rfl
      exact h10.symm
    · rename_i hc
      have hal : at_ < l.length := by omega
      have hte : Nd.termAt l (at_ + 1) = e.1 := Classical.not_not.1 fun hx => hc (.inr hx)
      have heq' : l.take (at_ + 1) = h.take (at_ + 1) := good_meet hgl hgh hal hlt (by rw [hte, hth])
      rcases ih (at_ + 1) hal hes' hlt heq' with ⟨h1, h2, h3⟩ | ⟨a, h1, h2, h3, h4, h5, h6⟩
      · refine .inl ⟨h1, ?_, ?_⟩
        · simp only [List.length_cons]; omega
        · rw [List.length_cons, show at_ + (es.length + 1) = at_ + 1 + es.length by omega]; exact h3
      · refine .inr ⟨a, by omega, by simp only [List.length_cons]; omega, h3, h4, h5, ?_⟩
        rw [List.length_cons, show at_ + (es.length + 1) = at_ + 1 + es.length by omega]; exact h6

end

end Go.Proofs.Yteiecbkfganhnaa

namespace Go.Proofs.Yteiecbkfganhnaa

section
variable {n i : Nat} {g : Gh} {s : Nd}

/-- An Append is taken. -/
theorem did_take (hg : GI n g) (h : NI n g i s) (m : Msg) (hm : SoundM m s.id s.n) (hi : MI n g m) (hk : m.kind = 4) (hterm : s.term ≤ m.term) (hidx : m.index.toNat ≤ s.log.length) (hlt : s.termOf m.index.toNat = m.logTerm)
    (hkeep : Nd.keeps s.log s.commit m.index.toNat m.ents = true)
    (hok : Ok ({ s.appS m with log := Nd.takes s.log m.index.toNat m.ents, commit := max s.commit (min m.commit.toNat (m.index.toNat + m.ents.length)) } : Nd)) :
    Did n i g ({ s.appS m with log := Nd.takes s.log m.index.toNat m.ents, commit := max s.commit (min m.commit.toNat (m.index.toNat + m.ents.length)) }, [(s.appS m).reply 5 m.src (s.appS m).term ((m.index.toNat + m.ents.length : Nat) : Int) true]) := by
  obtain ⟨c, x1, x2, x3, x4, x5, x6⟩ := hi.app hk
  have hA := h.follow m.term m.src hm.t1 (by have := hm.s0; omega)
  have hT : (s.follow m.term m.src).term = m.term := by rw [follow_term]; omega
  have hva : ∀ u, m.term < u → g.V u i = none := fun u hu => hA.va u (by rw [hT]; exact hu)
  generalize hh : g.H m.term = hl at *
  have hend : m.index.toNat + m.ents.length ≤ hl.length := by have := x5.length_le; rw [List.length_drop] at this; omega
  have hheq : s.log.take m.index.toNat = hl.take m.index.toNat := by
    refine good_meet h.good (by rw [← hh]; exact hg.gh m.term) hidx x3 ?_
    rw [x4]; exact hlt
  have hgh : LGood g hl := by rw [← hh]; exact hg.gh m.term
  have hshape := takes_shape h.good hgh m.ents m.index.toNat hidx x5 x3 hheq
  have hkp := takes_keeps (at_ := m.index.toNat) hkeep h.ok.com
  generalize hl' : Nd.takes s.log m.index.toNat m.ents = l' at *
  generalize he : m.index.toNat + m.ents.length = e at *
  have htk : l'.take e = hl.take e ∧ e ≤ l'.length := by
    rcases hshape with ⟨h1, h2, h3⟩ | ⟨a, h1, h2, h3, h4, h5, h6⟩
    · rw [h1]; exact ⟨h3, h2⟩
    · rw [h6]; refine ⟨?_, ?_⟩
      · rw [take_take_le _ (Nat.le_refl _)]
      · rw [List.length_take]; omega
  have hgl' : LGood g l' := by
    rcases hshape with ⟨h1, _⟩ | ⟨a, _, _, _, _, _, h6⟩
    · rw [h1]; exact h.good
    · rw [h6]; exact hgh.take _
  obtain ⟨e1, e2⟩ := gi_ack (i := i) hg (t := m.term) (k0 := e) (by rw [hh]; exact hend) hva
  generalize hg2 : g.ack m.term i e = g2 at *
  have hH2 : g2.H = g.H := by rw [← hg2]; rfl
  have hA2 : g2.A m.term i = max (g.A m.term i) e := by rw [← hg2]; exact upd2_at _ _ _ _
  have hA3 : ∀ t j, ¬ (t = m.term ∧ j = i) → g2.A t j = g.A t j := by intro t j hx; rw [← hg2]; exact upd2_ne _ _ hx
  have hV2 : g2.V = g.V := by rw [← hg2]; rfl
  refine ⟨g2, e2, e1, ?_, one_mem ?_⟩
  · exact {
      ok := hok
      fid := (follow_id s m.term m.src).trans h.fid
      fn := (follow_n s m.term m.src).trans h.fn
      va := fun u hu => by rw [hV2]; exact hA.va u hu
      vo := by rw [hV2]; exact hA.vo
      ta := fun t ht => by
        show t ≤ (s.follow m.term m.src).term
        by_cases hx : t = m.term
        · rw [hx, hT]; exact Int.le_refl _
        · rw [hA3 t i (fun hy => hx hy.1)] at ht; exact hA.ta t ht
      cand := fun hx => by
        have hy : (s.follow m.term m.src).role = 2 := hx
        rw [fol_role] at hy; cases hy
      ldr := fun hx => by
        have hy : (s.follow m.term m.src).role = 3 := hx
        rw [fol_role] at hy; cases hy
      good := e2.good hgl'
      has := fun t k hp hk' hb => by
        show (g2.H t).take k <+: l'
        have hb1 : Bet g2 t (s.follow m.term m.src).term ((g2.H t).take k) := hb
        rw [hT] at hb1
        rw [hH2] at hb1 ⊢
        have hb2 := e2.bet hg hb1
        by_cases hold : k ≤ g.A t i
        · have hkl := Nat.le_trans hold (hg.ah t i)
          have hp' := e2.pt' hp hkl
          have hP := h.has t k hp' hold (hb2.mono hterm)
          rcases hshape with ⟨h1, _⟩ | ⟨a, h1, h2, h3, h4, h5, h6⟩
          · rw [h1]; exact hP
          · have htm : t ≤ m.term := by have := h.ta t (by have := hp.1; omega); omega
            have hPh : (g.H t).take k <+: hl := by
              by_cases hx : t = m.term
              · subst hx; rw [hh]; exact List.take_prefix _ _
              · rw [← hh]
                exact (hb2 m.term (by omega) (Int.le_refl _) c x2).trans (hg.ln m.term c x2).2.2.1
            have hlenP : ((g.H t).take k).length = k := by rw [List.length_take]; omega
            have hka : k ≤ a := by
              apply Classical.byContradiction
              intro hx
              have hlk : k ≤ s.log.length := by have := hP.length_le; omega
              rcases h5 with h5 | h5
              · omega
              · apply h5
                rw [termAt_pre hP (by omega), termAt_pre hPh (by omega)]
            rw [h6]
            have e9 : (g.H t).take k = hl.take k := by
              have := take_pre hPh (k := k) (by omega)
              rw [this, take_take_le _ (Nat.le_refl _)]
            rw [e9, ← take_take_le hl (show k ≤ e by omega)]
            exact List.take_prefix _ _
        · have hti : t = m.term ∧ i = i := Classical.byContradiction fun hx => by rw [hA3 t i hx] at hk'; exact hold hk'
          obtain ⟨rfl, _⟩ := hti
          have hke : k ≤ e := by rw [hA2] at hk'; omega
          rw [hh, ← take_take_le hl hke, ← htk.1]
          exact (List.take_prefix _ _).trans (List.take_prefix _ _)
      com := by
        show Com n g2 (s.follow m.term m.src).term l' (max s.commit (min m.commit.toNat e))
        rw [hT]
        refine e2.com ?_
        by_cases hx : min m.commit.toNat e ≤ s.commit
        · rw [Nat.max_eq_left hx]
          exact (h.com.mono hterm).pre (Nat.le_refl _) hkp.1 hkp.2
        · rw [Nat.max_eq_right (by omega)]
          refine x6.pre (by omega) (by omega) ?_
          rw [← take_take_le l' (show min m.commit.toNat e ≤ e by omega), htk.1, take_take_le _ (by omega)]
      acc := by
        show (g2.H (s.follow m.term m.src).term).take (g2.A (s.follow m.term m.src).term i) <+: l'
        rw [hT, hH2, hA2, hh]
        by_cases hAe : g.A m.term i ≤ e
        · rw [Nat.max_eq_right hAe, ← htk.1]; exact List.take_prefix _ _
        · rw [Nat.max_eq_left (by omega)]
          have hst : m.term = s.term := by
            have := h.ta m.term (by omega)
            omega
          have hP := h.acc
          rw [← hst, hh] at hP
          rcases hshape with ⟨h1, _⟩ | ⟨a, h1, h2, h3, h4, h5, h6⟩
          · rw [h1]; exact hP
          · exfalso
            have hAl := hg.ah m.term i
            rw [hh] at hAl
            have hlenP : (hl.take (g.A m.term i)).length = g.A m.term i := by rw [List.length_take]; omega
            have hlk : g.A m.term i ≤ s.log.length := by have := hP.length_le; omega
            rcases h5 with h5 | h5
            · omega
            · apply h5
              rw [termAt_pre hP (by omega), termAt_take _ (by omega)]
      ldn := fun hx => by
        have hy : (s.follow m.term m.src).role = 3 := hx
        rw [fol_role] at hy; cases hy }
  · refine ⟨fun hx => (by cases hx), fun hx => (by cases hx), fun hx => (by cases hx), fun _ _ => ⟨i, by show (((s.follow m.term m.src).id : Nat) : Int) = i; rw [follow_id, h.fid], ?_⟩⟩
    show (e : Int).toNat ≤ g2.A (s.follow m.term m.src).term i
    rw [hT, hA2]; omega

theorem did_stepAppend (hg : GI n g) (h : NI n g i s) (m : Msg) (hm : SoundM m s.id s.n) (hi : MI n g m) (hk : m.kind = 4) : Did n i g (s.stepAppend m) := by
  have hokF := h.ok.stepAppend m hm
  have hF := h.follow m.term m.src hm.t1 (by have := hm.s0; omega)
  unfold Nd.stepAppend at hokF ⊢
  split
  · exact Did.same hg h (one_mem (mi_reply (.inr (.inr rfl)) _ _ _ _ _ (.inr rfl)))
  · rename_i h1
    rw [if_neg h1] at hokF
    split
    · exact Did.same hg h (fun _ hx => by cases hx)
    · rename_i h2
      rw [if_neg h2] at hokF
      have hokA : Ok (s.appS m) := { hF.ok with e0 := Int.le_refl _, lead := fun h3 => by have h4 : (s.follow m.term m.src).role = 3 := h3; rw [fol_role] at h4; cases h4 }
      have hA : NI n g i (s.appS m) := hF.same hokA rfl rfl rfl rfl rfl hF.com (fun hx => ⟨hx, rfl⟩) (fun hx => ⟨hx, rfl⟩)
      split
      · exact Did.same hg hA (one_mem (mi_reply (.inr (.inr rfl)) _ _ _ _ _ (.inr rfl)))
      · rename_i h3
        rw [if_neg h3] at hokF
        split
        · exact Did.same hg hA (fun _ hx => by cases hx)
        · rename_i h4
          rw [if_neg h4] at hokF
          refine did_take hg h m hm hi hk (by omega) ?_ (Classical.not_not.1 fun hx => h3 (.inr hx)) ?_ hokF
          · have h5 : ¬ (s.last : Int) < m.index := fun hx => h3 (.inl hx)
            have h6 := hm.i0
            have h7 : s.last = s.log.length := rfl
            omega
          · cases hb : Nd.keeps s.log s.commit m.index.toNat m.ents with
            | true => rfl
            | false => exact absurd (.inr hb) h4

theorem did_stepAppendReply (hg : GI n g) (h : NI n g i s) (m : Msg) (hm : SoundM m s.id s.n) (hi : MI n g m) (hk : m.kind = 5) : Did n i g (s.stepAppendReply m) := by
  have hf : m.src.toNat < s.n := by have := hm.s0; have := hm.s1; omega
  have hfn : m.src.toNat < n := by rw [← h.fn]; exact hf
  unfold Nd.stepAppendReply
  split
  · exact Did.same hg (h.follow _ _ hm.t1 (by decide)) (fun _ hx => by cases hx)
  · split
    · rename_i hr
      have hH : NI n g i (s.hears m.src.toNat) := h.same (h.ok.hears hf) rfl rfl rfl rfl rfl h.com (fun hx => ⟨hx, rfl⟩) (fun hx => ⟨hx, rfl⟩)
      split
      · rename_i hy
        split
        · rename_i hx
          obtain ⟨j, y1, y2⟩ := hi.took hk hy
          have hj : m.src.toNat = j := by omega
          obtain ⟨l1, l2, l3⟩ := hH.ldr hr.1
          have hok1 : Ok ({ s.hears m.src.toNat with mt := upd (s.hears m.src.toNat).mt m.src.toNat m.index.toNat, nx := upd (s.hears m.src.toNat).nx m.src.toNat (m.index.toNat + 1) } : Nd) := by
            refine { h.ok.hears hf with lead := fun h3 => ?_ }
            have hl := (h.ok.hears hf).lead h3
            exact ⟨hl.last, hl.pos, hl.sz, le_upd hl.lo (by omega), upd_le hl.hi (by show m.index.toNat + 1 ≤ s.last + 1; omega), upd_le hl.mm hx.1⟩
          have h1 : NI n g i ({ s.hears m.src.toNat with mt := upd (s.hears m.src.toNat).mt m.src.toNat m.index.toNat, nx := upd (s.hears m.src.toNat).nx m.src.toNat (m.index.toNat + 1) } : Nd) := {
            hH with
            ok := hok1
            ldr := fun _ => ⟨l1, l2, fun x hxn => by
              show upd s.mt m.src.toNat m.index.toNat x ≤ g.A s.term x
              unfold upd
              split
              · rename_i he
                rw [he, hj, ← hr.2]; exact y2
              · exact l3 x hxn⟩
            ldn := fun _ => by
              obtain ⟨c1, c2, c3, c4⟩ := h.ldn hr.1
              have hsi : i ≠ m.src.toNat := by
                have h8 := hm.src
                have h9 := hm.s0
                have h10 := h.fid
                omega
              refine ⟨c1, ?_, fun x hxn hxi => ?_, c4⟩
              · show upd s.mt m.src.toNat m.index.toNat i = _
                unfold upd; rw [if_neg hsi]; exact c2
              · show upd s.mt m.src.toNat m.index.toNat x < upd s.nx m.src.toNat (m.index.toNat + 1) x
                unfold upd
                split
                · omega
                · exact c3 x hxn hxi }
          have h2 := ni_count h1 hr.1 hok1.count
          refine Did.same hg h2 ?_
          split
          · exact one_mem (mi_append h2 hr.1 _ hfn)
          · intro _ hx; cases hx
        · exact Did.same hg hH (fun _ hx => by cases hx)
      · have hB : NI n g i ((s.hears m.src.toNat).backs m.src.toNat m.index.toNat) := hH.same ((h.ok.hears hf).backs hr.1 hf _) rfl rfl rfl rfl rfl hH.com (fun hx => ⟨hx, rfl⟩) (fun hx => ⟨hx, rfl⟩) (fun _ => ⟨rfl, fun j => by
          show s.nx j ≤ upd s.nx m.src.toNat _ j ∨ s.mt j < upd s.nx m.src.toNat _ j
          unfold upd
          split
          · rename_i he
            subst he
            right
            show s.mt m.src.toNat < max (s.mt m.src.toNat + 1) (min _ _)
            omega
          · exact .inl (Nat.le_refl _)⟩)
        exact Did.same hg hB (one_mem (mi_append hB hr.1 _ hfn))
    · exact Did.same hg h (fun _ hx => by cases hx)

theorem did_step (hg : GI n g) (h : NI n g i s) (m : Msg) (hi : MI n g m) : Did n i g (s.step m) := by
  unfold Nd.step
  split
  · rename_i hb
    have hm := soundM_of hb
    split
    · exact did_stepAsk hg h m
    · split
      · exact did_stepAskReply hg h m hm
      · split
        · rename_i hk; exact did_stepVote hg h m hm hi hk
        · split
          · rename_i hk; exact did_stepVoteReply hg h m hm hi hk
          · split
            · rename_i hk; exact did_stepAppend hg h m hm hi hk
            · refine did_stepAppendReply hg h m hm hi ?_
              have := hm.k0; have := hm.k1; omega
  · exact Did.same hg h (fun _ hx => by cases hx)

theorem did_propose (hg : GI n g) (h : NI n g i s) (c : ByteArray) : Did n i g ((s.propose c).2.1, (s.propose c).2.2.1) := by
  have hok := h.ok.propose c
  unfold Nd.propose at hok ⊢
  split
  · rename_i he
    have hr : s.role = 3 := by
      unfold Nd.propErr at he
      split at he
      · cases he
      · split at he
        · cases he
        · rename_i hx; exact Classical.not_not.1 hx
    have hl : s.last < 60 := by
      unfold Nd.propErr at he
      split at he
      · cases he
      · split at he
        · cases he
        · split at he
          · cases he
          · omega
    have hc : c.size ≤ 20 := by
      unfold Nd.propErr at he
      split at he
      · cases he
      · omega
    rw [if_pos he] at hok
    have hok1 : Ok (s.puts c).leadC := (h.ok.puts c hc hl (lead_term h.ok hr)).leadC
    obtain ⟨e1, e2, e3⟩ := ni_put hg h hr c hok1
    rw [proposeS_eq] at hok ⊢
    have e4 := ni_count e3 hr hok
    exact ⟨_, e1, e2, e4, mi_appends e4 hr⟩
  · exact Did.same hg h (fun _ hx => by cases hx)

theorem did_patience (h : NI n g i s) (p : Int) (h1 : 1 ≤ p) (h2 : p ≤ 40) : NI n g i ({ s with pat := p } : Nd) :=
  h.same (h.ok.setPat p h1 h2) rfl rfl rfl rfl rfl h.com (fun hx => ⟨hx, rfl⟩) (fun hx => ⟨hx, rfl⟩)

theorem did_restart (h : NI n g i s) : NI n g i (Nd.made i n s.term s.vote s.log) := by
  have hok := h.ok.saved
  have hok2 := Ok.made (id := s.id) (n := s.n) h.ok.n1 h.ok.n7 h.ok.id hok
  rw [h.fid, h.fn] at hok2
  exact h.same hok2 h.fid.symm h.fn.symm rfl rfl rfl (.inl rfl) (fun hx => by cases hx) (fun hx => by cases hx)

/-- At first. -/
def Gh.first : Gh := ⟨fun _ => none, fun _ _ => [], fun _ => [], fun _ _ => none, fun _ _ => 0⟩

theorem gi_first (n : Nat) : GI n Gh.first where
  hn _ _ := rfl
  ln _ _ h := by cases h
  kt _ _ k h1 h2 := by have : k ≤ 0 := h2; omega
  gh _ := LGood.nil
  gk _ _ := LGood.nil
  ah _ _ := Nat.le_refl _
  vs _ _ _ h := by cases h
  vk _ _ _ h := by cases h
  el _ _ h := by cases h

theorem ni_first {n i : Nat} (h1 : 1 ≤ n) (h2 : n ≤ 7) (h3 : i < n) : NI n Gh.first i (Nd.made i n 0 (-1) []) where
  ok := Ok.made h1 h2 h3 (by simp [okE]; omega)
  fid := rfl
  fn := rfl
  va _ _ := rfl
  vo := rfl
  ta t h := by have : (0 : Nat) < 0 := h; omega
  cand h := by cases h
  ldr h := by cases h
  good := LGood.nil
  has t k hp hk _ := by have : k ≤ 0 := hk; have := hp.1; omega
  com := .inl rfl
  acc := List.nil_prefix
  ldn h := by cases h

end

end Go.Proofs.Yteiecbkfganhnaa

namespace Go.Proofs.Yteiecbkfganhnaa

structure Gp where
  nodes : List Nd
  way : List Msg
  terms : List Int
  heads : List Nat
  known : List Ent
  ok : Bool

namespace Gp

def put (g : Gp) (i : Nat) (s : Nd) : Gp := { g with nodes := g.nodes.set i s }
/-- Messages are on their way, 200 at most. -/
def sends (g : Gp) (l : List Msg) : Gp := { g with way := g.way ++ l.take (200 - g.way.length) }
def did (g : Gp) (i : Nat) (r : Nd × List Msg) : Gp := (g.put i r.1).sends r.2
def node (g : Gp) (i : Nat) : Nd := g.nodes[i]?.getD (Nd.made 0 1 0 (-1) [])
def tick (g : Gp) (i : Nat) : Gp := g.did i (g.node i).tick
def ticks (g : Gp) (i : Nat) : Nat → Gp
  | 0 => g
  | k + 1 => (g.ticks i k).tick i
def told (g : Gp) (m : Msg) : Gp := g.did m.dst.toNat ((g.node m.dst.toNat).step m)
def propose (g : Gp) (i : Nat) (c : ByteArray) : Gp := g.did i (((g.node i).propose c).2.1, ((g.node i).propose c).2.2.1)
def restart (g : Gp) (i : Nat) : Gp := g.put i (Nd.made i g.nodes.length (g.node i).term (g.node i).vote (g.node i).log)
def patience (g : Gp) (i : Nat) (p : Int) : Gp := g.put i { g.node i with pat := p }

/-- One step: what happens. -/
def step (g : Gp) (kind a b : Int) : Gp :=
  let i := (pickZ a g.nodes.length).toNat
  let k := pickZ kind 8
  if k = 0 then g.ticks i ((pickZ b 12).toNat + 1)
  else if k = 1 ∨ k = 2 ∨ k = 3 then
    match g.way[(pickZ a g.way.length).toNat]? with
    | none => g
    | some m =>
      let h := if k = 3 ∨ b.tmod 2 = 0 then { g with way := g.way.eraseIdx (pickZ a g.way.length).toNat } else g
      if k = 3 then h else h.told m
  else if k = 4 then g.propose i (cmdOf b)
  else if k = 5 then g.restart i
  else if k = 6 then g.patience i (1 + pickZ b 40)
  else { g with way := g.way.filter fun m => decide (m.dst ≠ (i : Int)) }

end Gp

/-- A message that node i may send. -/
def Sendable (n i : Nat) (m : Msg) : Prop := m.src = i ∧ m.dst ≠ i ∧ 0 ≤ m.dst ∧ m.dst < n ∧ m.ents.length ≤ 3
/-- One that was sent. -/
def Mailed (n : Nat) (m : Msg) : Prop := 0 ≤ m.dst ∧ m.dst < n ∧ m.ents.length ≤ 3

/-- What holds of them, with what has been. -/
structure JG (n : Nat) (h : Gh) (g : Gp) : Prop where
  gi : GI n h
  ni : ∀ (i : Nat) (s : Nd), g.nodes[i]? = some s → NI n h i s
  mi : ∀ m ∈ g.way, MI n h m ∧ Mailed n m
  len : g.nodes.length = n
  ok : g.ok = true
  way : g.way.length ≤ 200
  th : g.terms.length = g.heads.length
  led : ∀ (k : Nat) (t : Int) (i : Nat), g.terms[k]? = some t → g.heads[k]? = some i → h.L t = some i
  kn : Com n h 1000000 g.known g.known.length
  n1 : 1 ≤ n
  n7 : n ≤ 7

def J (n : Nat) (g : Gp) : Prop := ∃ h, JG n h g

section
variable {n : Nat} {h : Gh} {g : Gp}

theorem JG.node (hj : JG n h g) {i : Nat} (hi : i < n) : g.nodes[i]? = some (g.node i) ∧ NI n h i (g.node i) := by
  have hl : i < g.nodes.length := by rw [hj.len]; exact hi
  have h1 : g.nodes[i]? = some (g.node i) := by
    unfold Gp.node
    rw [List.getElem?_eq_getElem hl]; rfl
  exact ⟨h1, hj.ni i _ h1⟩

/-- A node did something. -/
theorem JG.did (hj : JG n h g) {i : Nat} (hi : i < n) {r : Nd × List Msg} (hd : Did n i h r) (hs : ∀ m ∈ r.2, Mailed n m) : J n (g.did i r) := by
  obtain ⟨h', he, hg, hn, hm⟩ := hd
  refine ⟨h', ⟨hg, ?_, ?_, ?_, hj.ok, ?_, hj.th, fun k t j h1 h2 => he.L _ _ (hj.led k t j h1 h2), he.com hj.kn, hj.n1, hj.n7⟩⟩
  · intro j s hjs
    have hjs' : (g.nodes.set i r.1)[j]? = some s := hjs
    by_cases hji : j = i
    · subst hji
      rw [List.getElem?_set_self (by rw [hj.len]; exact hi)] at hjs'
      rw [← Option.some.inj hjs']; exact hn
    · rw [List.getElem?_set_ne (fun hx => hji hx.symm)] at hjs'
      exact he.ni hj.gi (hj.ni j s hjs') hji
  · intro m hmw
    have hmw' : m ∈ g.way ++ r.2.take (200 - g.way.length) := hmw
    rcases List.mem_append.1 hmw' with h1 | h1
    · exact ⟨he.mi (hj.mi m h1).1, (hj.mi m h1).2⟩
    · have h2 := List.mem_of_mem_take h1
      exact ⟨hm m h2, hs m h2⟩
  · show (g.nodes.set i r.1).length = n
    rw [List.length_set]; exact hj.len
  · show (g.way ++ r.2.take (200 - g.way.length)).length ≤ 200
    have := hj.way
    rw [List.length_append, List.length_take]; omega

theorem JG.put (hj : JG n h g) {i : Nat} (hi : i < n) {s : Nd} (hn : NI n h i s) : JG n h (g.put i s) :=
  { hj with
    ni := fun j t hjt => by
      have hjt' : (g.nodes.set i s)[j]? = some t := hjt
      by_cases hji : j = i
      · subst hji
        rw [List.getElem?_set_self (by rw [hj.len]; exact hi)] at hjt'
        rw [← Option.some.inj hjt']; exact hn
      · rw [List.getElem?_set_ne (fun hx => hji hx.symm)] at hjt'
        exact hj.ni j t hjt'
    len := by show (g.nodes.set i s).length = n; rw [List.length_set]; exact hj.len }

theorem JG.less (hj : JG n h g) {l : List Msg} (hl : ∀ m ∈ l, m ∈ g.way) (hn : l.length ≤ 200) : JG n h { g with way := l } :=
  { hj with mi := fun m hm => hj.mi m (hl m hm), way := hn }

/-- What a node sends is to others, and bears its number. -/
theorem sendable_others {i : Nat} {s : Nd} (hid : s.id = i) (hn : s.n = n) {f : Nat → Msg} (hf : ∀ j, (f j).src = i ∧ (f j).dst = (j : Int) ∧ (f j).ents.length ≤ 3) : ∀ m ∈ s.others.map f, Sendable n i m := by
  intro m hm
  obtain ⟨j, hj, rfl⟩ := List.mem_map.1 hm
  unfold Nd.others at hj
  simp only [List.mem_filter, List.mem_range, decide_eq_true_eq] at hj
  obtain ⟨h1, h2, h3⟩ := hf j
  refine ⟨h1, ?_, ?_, ?_, h3⟩
  · rw [h2]; intro hx; exact hj.2 (by rw [hid]; omega)
  · rw [h2]; omega
  · rw [h2, ← hn]; omega

theorem sendable_appends {i : Nat} {s : Nd} (hid : s.id = i) (hn : s.n = n) : ∀ m ∈ s.appends, Sendable n i m :=
  sendable_others hid hn fun j => ⟨by show (s.id : Int) = i; rw [hid], rfl, by show ((s.log.drop _).take 3).length ≤ 3; rw [List.length_take]; omega⟩
theorem sendable_request {i : Nat} {s : Nd} (hid : s.id = i) (hn : s.n = n) (k t : Int) : ∀ m ∈ s.request k t, Sendable n i m :=
  sendable_others hid hn fun j => ⟨by show (s.id : Int) = i; rw [hid], rfl, Nat.zero_le _⟩
theorem sendable_nil {i : Nat} : ∀ m ∈ ([] : List Msg), Sendable n i m := fun m hm => by cases hm

theorem lead_fix (s : Nd) : s.leadS.id = s.id ∧ s.leadS.n = s.n := by
  constructor
  · show s.leadA.leadB.id = _; unfold Nd.leadB; split <;> rfl
  · show s.leadA.leadB.n = _; unfold Nd.leadB; split <;> rfl

theorem sendable_stand {i : Nat} {s : Nd} (hid : s.id = i) (hn : s.n = n) : ∀ m ∈ s.stand.2, Sendable n i m := by
  unfold Nd.stand
  split
  · exact sendable_appends ((lead_fix s.standS).1.trans hid) ((lead_fix s.standS).2.trans hn)
  · exact sendable_request (s := s.standS) hid hn _ _

theorem sendable_ask {i : Nat} {s : Nd} (hid : s.id = i) (hn : s.n = n) : ∀ m ∈ s.ask.2, Sendable n i m := by
  unfold Nd.ask
  split
  · exact sendable_stand (s := s.campaign 1) hid hn
  · exact sendable_request (s := s.campaign 1) hid hn _ _

theorem sendable_tick {i : Nat} {s : Nd} (hid : s.id = i) (hn : s.n = n) : ∀ m ∈ s.tick.2, Sendable n i m := by
  unfold Nd.tick
  split
  · unfold Nd.tickLeader
    split
    · split
      · exact sendable_appends (s := ({ s.tickS with elapsed := 0, hd := none7 } : Nd)) hid hn
      · exact sendable_nil
    · exact sendable_appends (s := s.tickS) hid hn
  · split
    · exact sendable_nil
    · exact sendable_ask (s := s.tickS) hid hn

theorem sendable_one {i : Nat} {m m' : Msg} {s : Nd} (hid : s.id = i) (hn : s.n = n) (hm : SoundM m s.id s.n) (h1 : m'.src = s.id) (h2 : m'.dst = m.src) (h3 : m'.ents.length ≤ 3) : ∀ x ∈ [m'], Sendable n i x := by
  intro x hx
  rw [List.mem_singleton.1 hx]
  refine ⟨by rw [h1, hid], ?_, ?_, ?_, h3⟩
  · rw [h2, ← hid]; exact hm.src
  · rw [h2]; exact hm.s0
  · rw [h2, ← hn]; exact hm.s1

theorem sendable_step {i : Nat} {s : Nd} (hid : s.id = i) (hn : s.n = n) (m : Msg) : ∀ x ∈ (s.step m).2, Sendable n i x := by
  unfold Nd.step
  split
  · rename_i hb
    have hm := soundM_of hb
    have hsn : ((m.src.toNat : Nat) : Int) = m.src := by have := hm.s0; omega
    split
    · unfold Nd.stepAsk
      split
      · exact sendable_one hid hn hm rfl rfl (Nat.zero_le _)
      · split
        · exact sendable_nil
        · exact sendable_one hid hn hm rfl rfl (Nat.zero_le _)
    · split
      · unfold Nd.stepAskReply
        split
        · exact sendable_nil
        · split
          · split
            · exact sendable_stand (s := s.addGrant m.src.toNat) hid hn
            · exact sendable_nil
          · exact sendable_nil
      · split
        · unfold Nd.stepVote
          split
          · exact sendable_nil
          · refine sendable_one hid hn hm ?_ rfl (Nat.zero_le _)
            show (((s.voteS m).id : Nat) : Int) = s.id
            unfold Nd.voteS
            split
            · rw [follow_id]
            · rfl
        · split
          · unfold Nd.stepVoteReply
            split
            · exact sendable_nil
            · split
              · split
                · exact sendable_appends ((lead_fix _).1.trans hid) ((lead_fix _).2.trans hn)
                · exact sendable_nil
              · exact sendable_nil
          · split
            · unfold Nd.stepAppend
              have hA : (((s.appS m).id : Nat) : Int) = s.id := by show (((s.follow m.term m.src).id : Nat) : Int) = _; rw [follow_id]
              split
              · exact sendable_one hid hn hm rfl rfl (Nat.zero_le _)
              · split
                · exact sendable_nil
                · split
                  · exact sendable_one hid hn hm hA rfl (Nat.zero_le _)
                  · split
                    · exact sendable_nil
                    · exact sendable_one hid hn hm hA rfl (Nat.zero_le _)
            · unfold Nd.stepAppendReply
              split
              · exact sendable_nil
              · split
                · split
                  · split
                    · split
                      · exact sendable_one hid hn hm rfl hsn (by show ((List.drop _ _).take 3).length ≤ 3; rw [List.length_take]; omega)
                      · exact sendable_nil
                    · exact sendable_nil
                  · exact sendable_one hid hn hm rfl hsn (by show ((List.drop _ _).take 3).length ≤ 3; rw [List.length_take]; omega)
                · exact sendable_nil
  · exact sendable_nil

theorem sendable_propose {i : Nat} {s : Nd} (hid : s.id = i) (hn : s.n = n) (c : ByteArray) : ∀ m ∈ (s.propose c).2.2.1, Sendable n i m := by
  unfold Nd.propose
  split
  · exact sendable_appends (s := s.proposeS c) hid hn
  · exact sendable_nil

theorem Sendable.mailed {i : Nat} {m : Msg} (h : Sendable n i m) : Mailed n m := h.2.2

theorem JG.tick (hj : JG n h g) {i : Nat} (hi : i < n) : J n (g.tick i) := by
  obtain ⟨_, h2⟩ := hj.node hi
  exact hj.did hi (did_tick hj.gi h2) fun m hm => (sendable_tick h2.fid h2.fn m hm).mailed

theorem J.ticks (hj : J n g) {i : Nat} (hi : i < n) (k : Nat) : J n (g.ticks i k) := by
  induction k with
  | zero => exact hj
  | succ k ih =>
    obtain ⟨h', hj'⟩ := ih
    exact hj'.tick hi

theorem JG.told (hj : JG n h g) {m : Msg} (hm : MI n h m ∧ Mailed n m) : J n (g.told m) := by
  have hi : m.dst.toNat < n := by have := hm.2.1; have := hm.2.2.1; omega
  obtain ⟨_, h2⟩ := hj.node hi
  exact hj.did hi (did_step hj.gi h2 m hm.1) fun x hx => (sendable_step h2.fid h2.fn m x hx).mailed

theorem JG.propose (hj : JG n h g) {i : Nat} (hi : i < n) (c : ByteArray) : J n (g.propose i c) := by
  obtain ⟨_, h2⟩ := hj.node hi
  exact hj.did hi (did_propose hj.gi h2 c) fun x hx => (sendable_propose h2.fid h2.fn c x hx).mailed

theorem JG.restart (hj : JG n h g) {i : Nat} (hi : i < n) : JG n h (g.restart i) := by
  obtain ⟨_, h2⟩ := hj.node hi
  unfold Gp.restart
  rw [hj.len]
  exact hj.put hi (did_restart h2)

theorem JG.patience (hj : JG n h g) {i : Nat} (hi : i < n) {p : Int} (h1 : 1 ≤ p) (h2 : p ≤ 40) : JG n h (g.patience i p) := by
  obtain ⟨_, h3⟩ := hj.node hi
  exact hj.put hi (did_patience h3 p h1 h2)

theorem pick_lt (hj : JG n h g) (a : Int) : (pickZ a g.nodes.length).toNat < n := by
  have h1 := hj.n1
  have h2 := hj.len
  have h3 := pickZ_lo a g.nodes.length (by omega)
  have h4 := pickZ_hi a g.nodes.length (by omega)
  omega

theorem J.step (hj : J n g) (kind a b : Int) : J n (g.step kind a b) := by
  have hj0 := hj
  obtain ⟨h, hj⟩ := hj
  have hi := pick_lt hj a
  unfold Gp.step
  simp only
  split
  · exact J.ticks hj0 hi _
  · split
    · split
      · exact hj0
      · rename_i m hm
        have hmem := List.mem_of_getElem? hm
        have hmi := hj.mi m hmem
        have hj2 : JG n h (if pickZ kind 8 = 3 ∨ b.tmod 2 = 0 then { g with way := g.way.eraseIdx (pickZ a g.way.length).toNat } else g) := by
          split
          · exact hj.less (fun x hx => List.mem_of_mem_eraseIdx hx) (Nat.le_trans (List.length_eraseIdx_le _ _) hj.way)
          · exact hj
        split
        · exact ⟨h, hj2⟩
        · exact hj2.told hmi
    · split
      · exact hj.propose hi _
      · split
        · exact ⟨h, hj.restart hi⟩
        · split
          · have h1 := pickZ_lo b 40 (by decide)
            have h2 := pickZ_hi b 40 (by decide)
            exact ⟨h, hj.patience hi (by omega) (by omega)⟩
          · exact ⟨h, hj.less (fun x hx => (List.mem_filter.1 hx).1) (Nat.le_trans (List.length_filter_le _ _) hj.way)⟩

/-- Two logs that have an entry of one term at one number are the same up to it. -/
theorem JG.matches (hj : JG n h g) {i j : Nat} {s t : Nd} (hi : g.nodes[i]? = some s) (hk : g.nodes[j]? = some t) (k : Nat) (h1 : k < s.log.length) (h2 : k < t.log.length) (he : s.log[k].1 = t.log[k].1) : s.log.take (k + 1) = t.log.take (k + 1) :=
  good_meet (hj.ni i s hi).good (hj.ni j t hk).good h1 h2 (by rw [termAt_get h1, termAt_get h2]; exact he)

/-- One leads in a term. -/
theorem JG.one (hj : JG n h g) {i : Nat} {s : Nd} (hi : g.nodes[i]? = some s) (hr : s.role = 3) : ∀ k : Nat, g.terms[k]? = some s.term → g.heads[k]? = some i := by
  intro k hk
  have hlt : k < g.heads.length := by rw [← hj.th]; exact (List.getElem?_eq_some_iff.1 hk).1
  obtain ⟨x, hx⟩ : ∃ x, g.heads[k]? = some x := ⟨g.heads[k], by rw [List.getElem?_eq_getElem hlt]⟩
  have h1 := hj.led k s.term x hk hx
  rw [((hj.ni i s hi).ldr hr).1] at h1
  rw [hx, ← Option.some.inj h1]

end

/-- At first. -/
def Gp.first (n : Nat) : Gp := ⟨(List.range n).map fun i => Nd.made i n 0 (-1) [], [], [], [], [], true⟩

theorem J.first {n : Nat} (h1 : 1 ≤ n) (h2 : n ≤ 7) : J n (Gp.first n) := by
  refine ⟨Gh.first, ⟨gi_first n, ?_, fun m hm => (by cases hm), by simp [Gp.first], rfl, Nat.zero_le _, rfl, fun k t i hk => (by simp [Gp.first] at hk), .inl rfl, h1, h2⟩⟩
  intro i s hs
  have hs' : ((List.range n).map fun i => Nd.made i n 0 (-1) [])[i]? = some s := hs
  rw [List.getElem?_map] at hs'
  by_cases hi : i < n
  · rw [List.getElem?_range hi] at hs'
    have := Option.some.inj hs'
    rw [← this]
    exact ni_first h1 h2 hi
  · rw [List.getElem?_eq_none (by simp; omega)] at hs'
    cases hs'

end Go.Proofs.Yteiecbkfganhnaa

namespace Go.Proofs.Yteiecbkfganhnaa

/-- What a call does to the clock: it is set back, or (by a tick) one on. -/
theorem lead_el (s : Nd) : s.leadS.elapsed = 0 := by
  show s.leadA.leadB.elapsed = 0
  unfold Nd.leadB; split <;> rfl
theorem stand_el (s : Nd) : s.stand.1.elapsed = 0 := by
  unfold Nd.stand; split
  · exact lead_el _
  · rfl
theorem ask_el (s : Nd) : s.ask.1.elapsed = 0 := by
  unfold Nd.ask; split
  · exact stand_el _
  · rfl
theorem follow_el (s : Nd) (t l : Int) : (s.follow t l).elapsed = s.elapsed := by unfold Nd.follow; split <;> rfl

theorem tick_el {s : Nd} (h : 0 ≤ s.elapsed) : s.tick.1.elapsed ≤ s.elapsed + 1 := by
  unfold Nd.tick
  split
  · unfold Nd.tickLeader
    split
    · split
      · show (0 : Int) ≤ _; omega
      · rw [follow_el]; show (0 : Int) ≤ _; omega
    · exact Int.le_refl _
  · split
    · exact Int.le_refl _
    · rw [ask_el]; omega

theorem step_el {s : Nd} (h : 0 ≤ s.elapsed) (m : Msg) : (s.step m).1.elapsed ≤ s.elapsed := by
  unfold Nd.step
  split
  · split
    · unfold Nd.stepAsk; split
      · exact Int.le_refl _
      · split <;> exact Int.le_refl _
    · split
      · unfold Nd.stepAskReply; split
        · show (if s.term < m.term then s.follow m.term (-1) else s).elapsed ≤ _
          split
          · rw [follow_el]; exact Int.le_refl _
          · exact Int.le_refl _
        · split
          · split
            · rw [stand_el]; exact h
            · exact Int.le_refl _
          · exact Int.le_refl _
      · split
        · unfold Nd.stepVote; split
          · exact Int.le_refl _
          · show (if (s.voteS m).votes m = true then ({ s.voteS m with vote := m.src, elapsed := 0 } : Nd) else s.voteS m).elapsed ≤ _
            split
            · exact h
            · unfold Nd.voteS; split
              · rw [follow_el]; exact Int.le_refl _
              · exact Int.le_refl _
        · split
          · unfold Nd.stepVoteReply; split
            · rw [follow_el]; exact Int.le_refl _
            · split
              · split
                · show (s.addGrant m.src.toNat).leadS.elapsed ≤ _
                  rw [lead_el]; exact h
                · exact Int.le_refl _
              · exact Int.le_refl _
          · split
            · unfold Nd.stepAppend; split
              · exact Int.le_refl _
              · split
                · exact Int.le_refl _
                · split
                  · exact h
                  · split
                    · exact h
                    · exact h
            · unfold Nd.stepAppendReply; split
              · rw [follow_el]; exact Int.le_refl _
              · split
                · split
                  · split <;> exact Int.le_refl _
                  · exact Int.le_refl _
                · exact Int.le_refl _
  · exact Int.le_refl _

theorem propose_el (s : Nd) (c : ByteArray) : (s.propose c).2.1.elapsed = s.elapsed := by
  unfold Nd.propose; split <;> rfl

/-- How many messages a call sends. -/
theorem others_few (s : Nd) : s.others.length ≤ s.n := by
  have := List.length_filter_le (fun i => decide (i ≠ s.id)) (List.range s.n)
  simpa [Nd.others] using this
theorem appends_few (s : Nd) : s.appends.length ≤ s.n := by unfold Nd.appends; rw [List.length_map]; exact others_few s
theorem request_few (s : Nd) (k t : Int) : (s.request k t).length ≤ s.n := by unfold Nd.request; rw [List.length_map]; exact others_few s
theorem stand_few (s : Nd) : s.stand.2.length ≤ s.n := by
  unfold Nd.stand; split
  · show s.standS.leadS.appends.length ≤ _
    have h := appends_few s.standS.leadS
    rw [(lead_fix s.standS).2] at h; exact h
  · exact request_few _ _ _
theorem ask_few (s : Nd) : s.ask.2.length ≤ s.n := by
  unfold Nd.ask; split
  · exact stand_few (s.campaign 1)
  · exact request_few _ _ _
theorem tick_few (s : Nd) : s.tick.2.length ≤ s.n := by
  unfold Nd.tick; split
  · unfold Nd.tickLeader; split
    · split
      · exact appends_few _
      · exact Nat.zero_le _
    · exact appends_few _
  · split
    · exact Nat.zero_le _
    · exact ask_few s.tickS
theorem step_few {s : Nd} (h1 : 1 ≤ s.n) (m : Msg) : (s.step m).2.length ≤ s.n := by
  unfold Nd.step
  split
  · split
    · unfold Nd.stepAsk; split
      · exact h1
      · split
        · exact Nat.zero_le _
        · exact h1
    · split
      · unfold Nd.stepAskReply; split
        · exact Nat.zero_le _
        · split
          · split
            · exact stand_few (s.addGrant m.src.toNat)
            · exact Nat.zero_le _
          · exact Nat.zero_le _
      · split
        · unfold Nd.stepVote; split
          · exact Nat.zero_le _
          · exact h1
        · split
          · unfold Nd.stepVoteReply; split
            · exact Nat.zero_le _
            · split
              · split
                · show (s.addGrant m.src.toNat).leadS.appends.length ≤ _
                  have h := appends_few (s.addGrant m.src.toNat).leadS
                  rw [(lead_fix (s.addGrant m.src.toNat)).2] at h; exact h
                · exact Nat.zero_le _
              · exact Nat.zero_le _
          · split
            · unfold Nd.stepAppend; split
              · exact h1
              · split
                · exact Nat.zero_le _
                · split
                  · exact h1
                  · split
                    · exact Nat.zero_le _
                    · exact h1
            · unfold Nd.stepAppendReply; split
              · exact Nat.zero_le _
              · split
                · split
                  · split
                    · show (if _ then _ else _ : List Msg).length ≤ _
                      split
                      · exact h1
                      · exact Nat.zero_le _
                    · exact Nat.zero_le _
                  · exact h1
                · exact Nat.zero_le _
  · exact Nat.zero_le _
theorem propose_few (s : Nd) (c : ByteArray) : (s.propose c).2.2.1.length ≤ s.n := by
  unfold Nd.propose; split
  · exact appends_few (s.proposeS c)
  · exact Nat.zero_le _

/-- No clock of a group's has got beyond E. -/
def El (g : Gp) (E : Int) : Prop := ∀ (i : Nat) (s : Nd), g.nodes[i]? = some s → s.elapsed ≤ E

section
variable {n : Nat} {h : Gh} {g : Gp} {E : Int}

theorem El.mono {F : Int} (he : El g E) (hf : E ≤ F) : El g F := fun i s hi => Int.le_trans (he i s hi) hf

theorem El.did (he : El g E) {i : Nat} {r : Nd × List Msg} {F : Int} (hr : r.1.elapsed ≤ F) (hf : E ≤ F) : El (g.did i r) F := by
  intro j s hj
  have hj' : (g.nodes.set i r.1)[j]? = some s := hj
  by_cases hji : j = i
  · subst hji
    by_cases hl : j < g.nodes.length
    · rw [List.getElem?_set_self hl] at hj'
      rw [← Option.some.inj hj']; exact hr
    · rw [List.getElem?_eq_none (by rw [List.length_set]; omega)] at hj'; cases hj'
  · rw [List.getElem?_set_ne (fun hx => hji hx.symm)] at hj'
    exact Int.le_trans (he j s hj') hf

theorem El.put (he : El g E) {i : Nat} {s : Nd} (hr : s.elapsed ≤ E) : El (g.put i s) E := by
  intro j t hj
  have hj' : (g.nodes.set i s)[j]? = some t := hj
  by_cases hji : j = i
  · subst hji
    by_cases hl : j < g.nodes.length
    · rw [List.getElem?_set_self hl] at hj'
      rw [← Option.some.inj hj']; exact hr
    · rw [List.getElem?_eq_none (by rw [List.length_set]; omega)] at hj'; cases hj'
  · rw [List.getElem?_set_ne (fun hx => hji hx.symm)] at hj'
    exact he j t hj'

theorem El.tick (he : El g E) (hj : JG n h g) {i : Nat} (hi : i < n) : El (g.tick i) (E + 1) := by
  obtain ⟨h1, h2⟩ := hj.node hi
  refine he.did (Int.le_trans (tick_el h2.ok.e0) ?_) (by omega)
  have := he i _ h1
  omega

theorem El.told (he : El g E) (hj : JG n h g) {m : Msg} (hm : Mailed n m) : El (g.told m) E := by
  have hi : m.dst.toNat < n := by have := hm.1; have := hm.2.1; omega
  obtain ⟨h1, h2⟩ := hj.node hi
  exact he.did (Int.le_trans (step_el h2.ok.e0 m) (he _ _ h1)) (Int.le_refl _)

theorem El.ticks (he : El g E) (hj : J n g) {i : Nat} (hi : i < n) (k : Nat) : El (g.ticks i k) (E + k) := by
  induction k with
  | zero => exact he.mono (by omega)
  | succ k ih =>
    obtain ⟨h', hj'⟩ := J.ticks hj hi k
    exact (El.tick ih hj' hi).mono (by omega)

theorem El.step (he : El g E) (h0 : 0 ≤ E) (hj : J n g) (kind a b : Int) : El (g.step kind a b) (E + 12) := by
  have hj0 := hj
  obtain ⟨h, hj⟩ := hj
  have hi := pick_lt hj a
  unfold Gp.step
  simp only
  split
  · have h1 := pickZ_lo b 12 (by decide)
    have h2 := pickZ_hi b 12 (by decide)
    exact (he.ticks hj0 hi _).mono (by omega)
  · split
    · split
      · exact he.mono (by omega)
      · rename_i m hm
        have hmi := hj.mi m (List.mem_of_getElem? hm)
        split
        · split
          · exact he.mono (by omega)
          · exact he.mono (by omega)
        · split
          · have hj2 : JG n h { g with way := g.way.eraseIdx (pickZ a g.way.length).toNat } := hj.less (fun x hx => List.mem_of_mem_eraseIdx hx) (Nat.le_trans (List.length_eraseIdx_le _ _) hj.way)
            exact (El.told (g := { g with way := g.way.eraseIdx (pickZ a g.way.length).toNat }) he hj2 hmi.2).mono (by omega)
          · exact (he.told hj hmi.2).mono (by omega)
    · split
      · obtain ⟨h1, h2⟩ := hj.node hi
        refine (he.did (F := E) ?_ (Int.le_refl _)).mono (by omega)
        show ((g.node _).propose _).2.1.elapsed ≤ E
        rw [propose_el]
        exact he _ _ h1
      · split
        · refine El.mono (E := E) ?_ (by omega)
          unfold Gp.restart
          exact he.put (show (0 : Int) ≤ E from h0)
        · split
          · obtain ⟨h1, h2⟩ := hj.node hi
            have h3 : (g.node (pickZ a g.nodes.length).toNat).elapsed ≤ E := he _ _ h1
            refine El.mono (E := E) ?_ (by omega)
            exact he.put (s := ({ g.node (pickZ a g.nodes.length).toNat with pat := 1 + pickZ b 40 } : Nd)) h3
          · exact he.mono (by omega)

theorem gstep_eq0 {kind a b : Int} (hk : pickZ kind 8 = 0) : g.step kind a b = g.ticks (pickZ a g.nodes.length).toNat ((pickZ b 12).toNat + 1) := by
  unfold Gp.step; simp only; rw [if_pos hk]
theorem gstep_eq4 {kind a b : Int} (hk : pickZ kind 8 = 4) : g.step kind a b = g.propose (pickZ a g.nodes.length).toNat (cmdOf b) := by
  unfold Gp.step; simp only; rw [hk, if_neg (by decide), if_neg (by decide), if_pos rfl]
theorem gstep_eq5 {kind a b : Int} (hk : pickZ kind 8 = 5) : g.step kind a b = g.restart (pickZ a g.nodes.length).toNat := by
  unfold Gp.step; simp only; rw [hk, if_neg (by decide), if_neg (by decide), if_neg (by decide), if_pos rfl]
theorem gstep_eq6 {kind a b : Int} (hk : pickZ kind 8 = 6) : g.step kind a b = g.patience (pickZ a g.nodes.length).toNat (1 + pickZ b 40) := by
  unfold Gp.step; simp only; rw [hk, if_neg (by decide), if_neg (by decide), if_neg (by decide), if_neg (by decide), if_pos rfl]
theorem gstep_eq7 {kind a b : Int} (hk : pickZ kind 8 = 7) : g.step kind a b = { g with way := g.way.filter fun m => decide (m.dst ≠ ((pickZ a g.nodes.length).toNat : Int)) } := by
  unfold Gp.step; simp only; rw [hk, if_neg (by decide), if_neg (by decide), if_neg (by decide), if_neg (by decide), if_neg (by decide)]
theorem gstep_eqN {kind a b : Int} (hk : pickZ kind 8 = 1 ∨ pickZ kind 8 = 2 ∨ pickZ kind 8 = 3) (hw : g.way = []) : g.step kind a b = g := by
  unfold Gp.step; simp only
  rw [if_neg (by omega), if_pos hk, hw]; rfl
theorem gstep_eqM {kind a b : Int} (hk : pickZ kind 8 = 1 ∨ pickZ kind 8 = 2 ∨ pickZ kind 8 = 3) {m : Msg} (hm : g.way[(pickZ a g.way.length).toNat]? = some m) :
    g.step kind a b = if pickZ kind 8 = 3 then (if pickZ kind 8 = 3 ∨ b.tmod 2 = 0 then { g with way := g.way.eraseIdx (pickZ a g.way.length).toNat } else g) else Gp.told (if pickZ kind 8 = 3 ∨ b.tmod 2 = 0 then { g with way := g.way.eraseIdx (pickZ a g.way.length).toNat } else g) m := by
  unfold Gp.step; simp only
  rw [if_neg (by omega), if_pos hk, hm]

end

end Go.Proofs.Yteiecbkfganhnaa

namespace Go.Proofs.Yteiecbkfganhnaa

namespace Gp
/-- A node leads in a term. -/
def leds (g : Gp) (t : Int) (i : Nat) : Gp := if t ∈ g.terms then g else { g with terms := g.terms ++ [t], heads := g.heads ++ [i] }
/-- What is seen to be committed, where a node's log is l, up to c. -/
def knows (known l : List Ent) (c : Nat) : List Ent := if known.length < c then l.take c else known
def seen (g : Gp) (i : Nat) (s : Nd) : Gp := { (if s.role = 3 then g.leds s.term i else g) with known := knows g.known s.log s.commit }
def seenTo (g : Gp) : Nat → Gp
  | 0 => g
  | k + 1 => (g.seenTo k).seen k (g.node k)
end Gp

/-- The terms that were seen are apart, and few. -/
structure TB (g : Gp) : Prop where
  nd : g.terms.Nodup
  rg : ∀ t ∈ g.terms, 0 ≤ t ∧ t ≤ 1000000
  kn : g.known.length ≤ 60

theorem nodup_few (m : Nat) : ∀ l : List Nat, l.Nodup → (∀ x ∈ l, x < m) → l.length ≤ m := by
  induction m with
  | zero =>
    intro l _ h
    cases l with
    | nil => exact Nat.le_refl _
    | cons a l => have := h a (List.mem_cons_self ..); omega
  | succ m ih =>
    intro l hn h
    have h1 := ih (l.filter fun x => decide (x ≠ m)) (hn.sublist List.filter_sublist) (fun x hx => by
      obtain ⟨h2, h3⟩ := List.mem_filter.1 hx
      have := h x h2
      simp at h3
      omega)
    have h2 : ∀ l : List Nat, l.Nodup → l.length ≤ (l.filter fun x => decide (x ≠ m)).length + 1 := by
      intro l
      induction l with
      | nil => intro _; simp
      | cons a l ihl =>
        intro hnd
        obtain ⟨h3, h4⟩ := List.nodup_cons.1 hnd
        by_cases ha : a = m
        · subst ha
          have h5 : l.filter (fun x => decide (x ≠ a)) = l := List.filter_eq_self.2 (fun x hx => by simp; intro he; subst he; exact h3 hx)
          rw [List.filter_cons_of_neg (by simp), h5]
          simp
        · rw [List.filter_cons_of_pos (by simpa using ha)]
          have := ihl h4
          simp only [List.length_cons]
          omega
    have := h2 l hn
    omega

theorem nodup_toNat : ∀ l : List Int, l.Nodup → (∀ t ∈ l, 0 ≤ t) → (l.map Int.toNat).Nodup := by
  intro l
  induction l with
  | nil => intro _ _; exact List.nodup_nil
  | cons a l ih =>
    intro hn h0
    obtain ⟨h1, h2⟩ := List.nodup_cons.1 hn
    rw [List.map_cons, List.nodup_cons]
    refine ⟨fun hx => ?_, ih h2 fun t ht => h0 t (List.mem_cons_of_mem _ ht)⟩
    obtain ⟨b, hb, he⟩ := List.mem_map.1 hx
    have ha := h0 a (List.mem_cons_self ..)
    have hb0 := h0 b (List.mem_cons_of_mem _ hb)
    have : a = b := by omega
    subst this
    exact h1 hb

theorem TB.few {g : Gp} (h : TB g) : g.terms.length ≤ 1000001 := by
  have h1 := nodup_few 1000001 (g.terms.map Int.toNat) (nodup_toNat _ h.nd fun t ht => (h.rg t ht).1) (fun x hx => by
    obtain ⟨t, ht, rfl⟩ := List.mem_map.1 hx
    have := h.rg t ht
    omega)
  rwa [List.length_map] at h1

section
variable {n : Nat} {h : Gh} {g : Gp}

theorem leds_nodes (t : Int) (i : Nat) : (g.leds t i).nodes = g.nodes ∧ (g.leds t i).way = g.way ∧ (g.leds t i).ok = g.ok ∧ (g.leds t i).known = g.known := by
  unfold Gp.leds; split <;> exact ⟨rfl, rfl, rfl, rfl⟩

theorem JG.leds (hj : JG n h g) {t : Int} {i : Nat} (hL : h.L t = some i) : JG n h (g.leds t i) := by
  unfold Gp.leds
  split
  · exact hj
  · refine { hj with th := by show (g.terms ++ [t]).length = (g.heads ++ [i]).length; simp [hj.th], led := ?_ }
    intro k u j hk1 hk2
    have hk1' : (g.terms ++ [t])[k]? = some u := hk1
    have hk2' : (g.heads ++ [i])[k]? = some j := hk2
    by_cases hk : k < g.terms.length
    · rw [List.getElem?_append_left hk] at hk1'
      rw [List.getElem?_append_left (by rw [← hj.th]; exact hk)] at hk2'
      exact hj.led k u j hk1' hk2'
    · rw [List.getElem?_append_right (by omega)] at hk1'
      rw [List.getElem?_append_right (by rw [← hj.th]; omega)] at hk2'
      by_cases hz : k - g.terms.length = 0
      · rw [hz] at hk1'
        rw [← hj.th, hz] at hk2'
        simp at hk1' hk2'
        subst hk1' hk2'
        exact hL
      · rw [List.getElem?_eq_none (by simp; omega)] at hk1'
        cases hk1'

theorem TB.leds (ht : TB g) {t : Int} {i : Nat} (h0 : 0 ≤ t) (h1 : t ≤ 1000000) : TB (g.leds t i) := by
  unfold Gp.leds
  split
  · exact ht
  · rename_i hx
    refine ⟨?_, ?_, ht.kn⟩
    · show (g.terms ++ [t]).Nodup
      rw [List.nodup_append]
      refine ⟨ht.nd, by simp, fun a ha b hb => ?_⟩
      rw [List.mem_singleton.1 hb]
      intro he; subst he; exact hx ha
    · intro u hu
      have hu' : u ∈ g.terms ++ [t] := hu
      rcases List.mem_append.1 hu' with h2 | h2
      · exact ht.rg u h2
      · rw [List.mem_singleton.1 h2]; exact ⟨h0, h1⟩

/-- What was seen to be committed is in a node's log, as far as that is committed. -/
theorem JG.agree (hj : JG n h g) {i : Nat} {s : Nd} (hi : g.nodes[i]? = some s) (k : Nat) (h1 : k < g.known.length) (h2 : k < s.commit) : g.known[k]? = s.log[k]? := by
  have hN := hj.ni i s hi
  rcases Nat.le_total g.known.length s.commit with hle | hle
  · have h3 := com_same hj.gi hj.kn hN.com hle
    rw [List.take_length] at h3
    rw [h3, List.getElem?_take_of_lt h1]
  · have h3 := com_same hj.gi hN.com hj.kn hle
    have h4 : (s.log.take s.commit)[k]? = (g.known.take s.commit)[k]? := by rw [h3]
    rw [List.getElem?_take_of_lt h2, List.getElem?_take_of_lt h2] at h4
    exact h4.symm

theorem JG.seen (hj : JG n h g) {i : Nat} {s : Nd} (hi : g.nodes[i]? = some s) : JG n h (g.seen i s) := by
  have hN := hj.ni i s hi
  have h1 : JG n h (if s.role = 3 then g.leds s.term i else g) := by
    split
    · rename_i hr; exact hj.leds (hN.ldr hr).1
    · exact hj
  refine { h1 with kn := ?_ }
  show Com n h 1000000 (Gp.knows g.known s.log s.commit) (Gp.knows g.known s.log s.commit).length
  unfold Gp.knows
  split
  · have hc : s.commit ≤ s.log.length := hN.ok.com
    have hl : (s.log.take s.commit).length = s.commit := by rw [List.length_take]; omega
    rw [hl]
    exact (hN.com.mono hN.ok.t1).pre (Nat.le_refl _) (by omega) (by rw [take_take_le _ (Nat.le_refl _)])
  · exact hj.kn

theorem TB.seen (ht : TB g) {i : Nat} {s : Nd} (hok : Ok s) : TB (g.seen i s) := by
  have hk : (Gp.knows g.known s.log s.commit).length ≤ 60 := by
    have h1 := ht.kn
    have h2 := hok.com
    have h3 := hok.len
    unfold Gp.knows
    split
    · rw [List.length_take]; omega
    · exact h1
  unfold Gp.seen
  split
  · have h1 := ht.leds (i := i) hok.t0 hok.t1
    exact ⟨h1.nd, h1.rg, hk⟩
  · exact ⟨ht.nd, ht.rg, hk⟩

theorem seen_nodes (i : Nat) (s : Nd) : (g.seen i s).nodes = g.nodes ∧ (g.seen i s).way = g.way ∧ (g.seen i s).ok = g.ok := by
  unfold Gp.seen
  split
  · exact ⟨(leds_nodes _ _).1, (leds_nodes _ _).2.1, (leds_nodes _ _).2.2.1⟩
  · exact ⟨rfl, rfl, rfl⟩

theorem seenTo_nodes (k : Nat) : (g.seenTo k).nodes = g.nodes ∧ (g.seenTo k).way = g.way ∧ (g.seenTo k).ok = g.ok := by
  induction k with
  | zero => exact ⟨rfl, rfl, rfl⟩
  | succ k ih =>
    obtain ⟨h1, h2, h3⟩ := seen_nodes (g := g.seenTo k) k (g.node k)
    exact ⟨h1.trans ih.1, h2.trans ih.2.1, h3.trans ih.2.2⟩

theorem JG.seenTo (hj : JG n h g) (ht : TB g) (k : Nat) (hk : k ≤ n) : JG n h (g.seenTo k) ∧ TB (g.seenTo k) := by
  induction k with
  | zero => exact ⟨hj, ht⟩
  | succ k ih =>
    obtain ⟨h1, h2⟩ := ih (by omega)
    obtain ⟨h3, h4⟩ := hj.node (i := k) (by omega)
    exact ⟨h1.seen (by rw [(seenTo_nodes k).1]; exact h3), h2.seen h4.ok⟩

theorem step_terms (kind a b : Int) : (g.step kind a b).terms = g.terms ∧ (g.step kind a b).known = g.known := by
  have ht : ∀ (i k : Nat), (g.ticks i k).terms = g.terms ∧ (g.ticks i k).known = g.known := by
    intro i k
    induction k with
    | zero => exact ⟨rfl, rfl⟩
    | succ k ih => exact ih
  unfold Gp.step
  simp only
  split
  · exact ht _ _
  · split
    · split
      · exact ⟨rfl, rfl⟩
      · split
        · split <;> exact ⟨rfl, rfl⟩
        · split <;> exact ⟨rfl, rfl⟩
    · split
      · exact ⟨rfl, rfl⟩
      · split
        · exact ⟨rfl, rfl⟩
        · split <;> exact ⟨rfl, rfl⟩

theorem TB.step (ht : TB g) (kind a b : Int) : TB (g.step kind a b) := by
  obtain ⟨h1, h2⟩ := step_terms (g := g) kind a b
  exact ⟨by rw [h1]; exact ht.nd, by rw [h1]; exact ht.rg, by rw [h2]; exact ht.kn⟩

end

end Go.Proofs.Yteiecbkfganhnaa

namespace Go.Proofs.Yteiecbkfganhnaa

namespace Gp
/-- The first message on its way is told. -/
def tell1 (g : Gp) : Gp := match g.way with
  | [] => g
  | m :: r => Gp.told { g with way := r } m
def tells (g : Gp) : Nat → Gp
  | 0 => g
  | k + 1 => (g.tells k).tell1
/-- A node's clock ticks, and all that is sent is told. -/
def turn (g : Gp) (i : Nat) : Gp := (g.tick i).tells 3000
def roundTo (g : Gp) : Nat → Gp
  | 0 => g
  | k + 1 => (g.roundTo k).turn k
def rounds (n : Nat) (g : Gp) : Nat → Gp
  | 0 => g
  | k + 1 => (g.rounds n k).roundTo n
/-- The node that leads in the greatest term, of the first k; that term. -/
def headTo (g : Gp) : Nat → Int × Int
  | 0 => (-1, 0)
  | k + 1 => if (g.node k).role = 3 ∧ (g.headTo k).2 < (g.node k).term then ((k : Int), (g.node k).term) else g.headTo k
/-- Nodes' patiences that differ. -/
def patTo (g : Gp) : Nat → Gp
  | 0 => g
  | k + 1 => (g.patTo k).patience k (4 + 5 * (k : Int))
end Gp

section
variable {n : Nat} {h : Gh} {g : Gp} {E : Int}

theorem tell1_nil (hw : g.way = []) : g.tell1 = g := by unfold Gp.tell1; rw [hw]
theorem tell1_cons {m : Msg} {r : List Msg} (hw : g.way = m :: r) : g.tell1 = Gp.told { g with way := r } m := by unfold Gp.tell1; rw [hw]

theorem tells_done {k : Nat} (hw : (g.tells k).way = []) (d : Nat) : g.tells (k + d) = g.tells k := by
  induction d with
  | zero => rfl
  | succ d ih =>
    show (g.tells (k + d)).tell1 = _
    rw [ih]
    exact tell1_nil hw

theorem tells_add (a b : Nat) : g.tells (a + b) = (g.tells a).tells b := by
  induction b with
  | zero => rfl
  | succ b ih => show (g.tells (a + b)).tell1 = ((g.tells a).tells b).tell1; rw [ih]

theorem J.tell1 (hj : J n g) : J n g.tell1 := by
  obtain ⟨h, hj⟩ := hj
  cases hw : g.way with
  | nil => rw [tell1_nil hw]; exact ⟨h, hj⟩
  | cons m r =>
    rw [tell1_cons hw]
    have h1 : JG n h { g with way := r } := hj.less (fun x hx => by rw [hw]; exact List.mem_cons_of_mem _ hx) (by have := hj.way; rw [hw] at this; simp at this; omega)
    exact h1.told (hj.mi m (by rw [hw]; exact List.mem_cons_self ..))

theorem J.tells (hj : J n g) (k : Nat) : J n (g.tells k) := by
  induction k with
  | zero => exact hj
  | succ k ih => exact ih.tell1

theorem El.tell1 (he : El g E) (hj : J n g) : El g.tell1 E := by
  obtain ⟨h, hj⟩ := hj
  cases hw : g.way with
  | nil => rw [tell1_nil hw]; exact he
  | cons m r =>
    rw [tell1_cons hw]
    have h1 : JG n h { g with way := r } := hj.less (fun x hx => by rw [hw]; exact List.mem_cons_of_mem _ hx) (by have := hj.way; rw [hw] at this; simp at this; omega)
    exact El.told (g := { g with way := r }) he h1 (hj.mi m (by rw [hw]; exact List.mem_cons_self ..)).2

theorem El.tells (he : El g E) (hj : J n g) (k : Nat) : El (g.tells k) E := by
  induction k with
  | zero => exact he
  | succ k ih => exact ih.tell1 (hj.tells k)

theorem J.tick (hj : J n g) {i : Nat} (hi : i < n) : J n (g.tick i) := by
  obtain ⟨h, hj⟩ := hj
  exact hj.tick hi

theorem J.turn (hj : J n g) {i : Nat} (hi : i < n) : J n (g.turn i) := (hj.tick hi).tells 3000

theorem El.turn (he : El g E) (hj : J n g) {i : Nat} (hi : i < n) : El (g.turn i) (E + 1) := by
  have h1 : El (g.tick i) (E + 1) := by
    obtain ⟨h, hj'⟩ := hj
    exact he.tick hj' hi
  exact h1.tells (hj.tick hi) 3000

theorem J.roundTo (hj : J n g) (k : Nat) (hk : k ≤ n) : J n (g.roundTo k) := by
  induction k with
  | zero => exact hj
  | succ k ih => exact (ih (by omega)).turn (by omega)

theorem El.roundTo (he : El g E) (hj : J n g) (k : Nat) (hk : k ≤ n) : El (g.roundTo k) (E + k) := by
  induction k with
  | zero => exact he.mono (by omega)
  | succ k ih => exact ((ih (by omega)).turn (hj.roundTo k (by omega)) (by omega)).mono (by omega)

theorem J.rounds (hj : J n g) (k : Nat) : J n (g.rounds n k) := by
  induction k with
  | zero => exact hj
  | succ k ih => exact ih.roundTo n (Nat.le_refl _)

theorem El.rounds (he : El g E) (hj : J n g) (hn : n ≤ 7) (k : Nat) : El (g.rounds n k) (E + 7 * k) := by
  induction k with
  | zero => exact he.mono (by omega)
  | succ k ih => exact (ih.roundTo (hj.rounds k) n (Nat.le_refl _)).mono (by omega)

theorem J.patTo (hj : J n g) (k : Nat) (hk : k ≤ n) (hn : n ≤ 7) : J n (g.patTo k) := by
  induction k with
  | zero => exact hj
  | succ k ih =>
    obtain ⟨h', hj'⟩ := ih (by omega)
    exact ⟨h', hj'.patience (by omega) (by omega) (by omega)⟩

end

end Go.Proofs.Yteiecbkfganhnaa

namespace Go.Proofs.Yteiecbkfganhnaa

namespace Gp
def start (n k : Nat) : Gp := ((Gp.first n).patTo n).rounds n k
/-- One node's clock ticks and all is told, k times. -/
def turns (g : Gp) (i : Nat) : Nat → Gp
  | 0 => g
  | k + 1 => (g.turns i k).turn i
/-- One node's clock ticks, what it sends is lost, k times. -/
def solo (g : Gp) (i : Nat) : Nat → Gp
  | 0 => g
  | k + 1 => (g.solo i k).put i ((g.solo i k).node i).tick.1
end Gp

section
variable {n : Nat} {g : Gp} {E : Int}

theorem J.start (h1 : 1 ≤ n) (h2 : n ≤ 7) (k : Nat) : J n (Gp.start n k) := ((J.first h1 h2).patTo n (Nat.le_refl _) h2).rounds k

theorem J.turns (hj : J n g) {i : Nat} (hi : i < n) (k : Nat) : J n (g.turns i k) := by
  induction k with
  | zero => exact hj
  | succ k ih => exact ih.turn hi

theorem El.turns (he : El g E) (hj : J n g) {i : Nat} (hi : i < n) (k : Nat) : El (g.turns i k) (E + k) := by
  induction k with
  | zero => exact he.mono (by omega)
  | succ k ih => exact (ih.turn (hj.turns hi k) hi).mono (by omega)

/-- What it sends is lost: all that held holds. -/
theorem J.solo (hj : J n g) {i : Nat} (hi : i < n) (k : Nat) : J n (g.solo i k) := by
  induction k with
  | zero => exact hj
  | succ k ih =>
    obtain ⟨h, hj'⟩ := ih
    obtain ⟨h1, h2⟩ := hj'.node hi
    obtain ⟨h', he, hg, hn, hm⟩ := did_tick hj'.gi h2
    have hd : Did n i h (((g.solo i k).node i).tick.1, []) := ⟨h', he, hg, hn, fun m hm => by cases hm⟩
    have h3 := hj'.did hi hd (fun m hm => by cases hm)
    have e : (g.solo i k).did i (((g.solo i k).node i).tick.1, []) = g.solo i (k + 1) := by
      show ({ (g.solo i k).put i _ with way := _ } : Gp) = (g.solo i k).put i _
      simp [Gp.put]
    rw [e] at h3
    exact h3

theorem El.solo (he : El g E) (hj : J n g) {i : Nat} (hi : i < n) (k : Nat) : El (g.solo i k) (E + k) := by
  induction k with
  | zero => exact he.mono (by omega)
  | succ k ih =>
    obtain ⟨h, hj'⟩ := hj.solo hi k
    obtain ⟨h1, h2⟩ := hj'.node hi
    refine (El.put (E := E + k + 1) (ih.mono (by omega)) ?_).mono (by omega)
    have h3 := tick_el h2.ok.e0
    have h4 := ih i _ h1
    omega

theorem El.patTo (he : El g E) (hj : J n g) (k : Nat) (hk : k ≤ n) (hn : n ≤ 7) : El (g.patTo k) E := by
  induction k with
  | zero => exact he
  | succ k ih =>
    obtain ⟨h, hj'⟩ := hj.patTo k (by omega) hn
    obtain ⟨h1, h2⟩ := hj'.node (i := k) (by omega)
    have h3 : ((g.patTo k).node k).elapsed ≤ E := ih (by omega) k _ h1
    exact (ih (by omega)).put (s := ({ (g.patTo k).node k with pat := 4 + 5 * (k : Int) } : Nd)) h3

theorem El.zero (n : Nat) : El (Gp.first n) 0 := by
  intro i s hi
  have hi' : ((List.range n).map fun i => Nd.made i n 0 (-1) [])[i]? = some s := hi
  rw [List.getElem?_map] at hi'
  obtain ⟨j, _, rfl⟩ := Option.map_eq_some_iff.1 hi'
  exact Int.le_refl _

end

/-- What the statement Steps asks of n nodes. -/
structure StepsGood (n : Nat) (at_ : Nat) : Prop where
  lt : at_ < n
  hd : ((Gp.start n 10).headTo n).1 = (at_ : Int)
  yes : ∀ p : Nat, 1 ≤ p → p ≤ 40 → ((((Gp.start n 10).patience at_ p).turns at_ (2 * p + 40)).node at_).role = 3
  no : ∀ p : Nat, 1 ≤ p → p ≤ 40 → ((((Gp.start n 10).patience at_ p).solo at_ (2 * p + 40)).node at_).role ≠ 3 ∧ ((((Gp.start n 10).patience at_ p).solo at_ (2 * p + 40)).node at_).leads = -1

end Go.Proofs.Yteiecbkfganhnaa

namespace Go.Proofs.Yteiecbkfganhnaa

namespace Gp
/-- Messages are told, one by one; what comes of them goes behind. -/
def feed (g : Gp) : List Msg → Gp
  | [] => g
  | m :: l => (g.told m).feed l
/-- Reckoning: F messages at most. -/
def turnF (F : Nat) (g : Gp) (i : Nat) : Gp := (g.tick i).tells F
def roundF (F : Nat) (g : Gp) : Nat → Gp
  | 0 => g
  | k + 1 => turnF F (roundF F g k) k
def roundsF (F n : Nat) (g : Gp) : Nat → Gp
  | 0 => g
  | k + 1 => roundF F (roundsF F n g k) n
def stillTo (F : Nat) (g : Gp) : Nat → Bool
  | 0 => true
  | k + 1 => stillTo F g k && (turnF F (roundF F g k) k).way.isEmpty
def stills (F n : Nat) (g : Gp) : Nat → Bool
  | 0 => true
  | k + 1 => stills F n g k && stillTo F (roundsF F n g k) n
end Gp

theorem turnF_eq {F i : Nat} {g : Gp} (hF : F ≤ 3000) (h : (Gp.turnF F g i).way = []) : g.turn i = Gp.turnF F g i := by
  have h1 := tells_done (g := g.tick i) (k := F) h (3000 - F)
  rw [show F + (3000 - F) = 3000 by omega] at h1
  exact h1

theorem roundF_eq {F : Nat} {g : Gp} (hF : F ≤ 3000) (k : Nat) (h : Gp.stillTo F g k = true) : g.roundTo k = Gp.roundF F g k := by
  induction k with
  | zero => rfl
  | succ k ih =>
    simp only [Gp.stillTo, Bool.and_eq_true, List.isEmpty_iff] at h
    show (g.roundTo k).turn k = _
    rw [ih h.1]
    exact turnF_eq hF h.2

theorem roundsF_eq {F n : Nat} {g : Gp} (hF : F ≤ 3000) (k : Nat) (h : Gp.stills F n g k = true) : g.rounds n k = Gp.roundsF F n g k := by
  induction k with
  | zero => rfl
  | succ k ih =>
    simp only [Gp.stills, Bool.and_eq_true] at h
    show (g.rounds n k).roundTo n = _
    rw [ih h.1]
    exact roundF_eq hF n h.2

section
variable {n : Nat} {g : Gp}

theorem told_way (g : Gp) (m : Msg) : (g.told m).way = g.way ++ ((g.node m.dst.toNat).step m).2.take (200 - g.way.length) := rfl

/-- A told message does not hang on what else is on its way. -/
theorem told_swap (g : Gp) (m : Msg) (w1 w2 : List Msg) (o : List Msg) (ho : ((g.node m.dst.toNat).step m).2 = o) (h1 : w1.length + w2.length + o.length ≤ 200) :
    Gp.told { g with way := w1 ++ w2 } m = { Gp.told { g with way := w2 } m with way := w1 ++ (Gp.told { g with way := w2 } m).way } := by
  have e1 : (Gp.told { g with way := w1 ++ w2 } m).way = (w1 ++ w2) ++ o := by
    rw [told_way]
    show (w1 ++ w2) ++ ((g.node m.dst.toNat).step m).2.take _ = _
    rw [ho, List.take_of_length_le]
    show o.length ≤ 200 - (w1 ++ w2).length
    rw [List.length_append]; omega
  have e2 : (Gp.told { g with way := w2 } m).way = w2 ++ o := by
    rw [told_way]
    show w2 ++ ((g.node m.dst.toNat).step m).2.take _ = _
    rw [ho, List.take_of_length_le]
    show o.length ≤ 200 - w2.length
    omega
  have e3 : Gp.told { g with way := w1 ++ w2 } m = { Gp.told { g with way := w1 ++ w2 } m with way := (w1 ++ w2) ++ o } := by rw [← e1]
  rw [e3, e2, List.append_assoc]
  rfl

end

end Go.Proofs.Yteiecbkfganhnaa

namespace Go.Proofs.Yteiecbkfganhnaa

/-- A node that may follow in the term T, with the log L of which c are committed. -/
structure Fol (n : Nat) (T : Int) (L : List Ent) (c : Nat) (j : Nat) (t : Nd) : Prop where
  fid : t.id = j
  fn : t.n = n
  term : t.term = T
  role : t.role ≠ 3
  log : t.log = L
  com : t.commit = c

/-- It leads them. -/
structure Ldr (n x : Nat) (T : Int) (L : List Ent) (c : Nat) (s : Nd) : Prop where
  fid : s.id = x
  fn : s.n = n
  term : s.term = T
  role : s.role = 3
  log : s.log = L
  com : s.commit = c
  nm : ∀ j, j < n → j ≠ x → s.nx j = L.length + 1 ∧ s.mt j = L.length

/-- The Append that says nothing new, and its reply. -/
def syApp (x : Nat) (T : Int) (L : List Ent) (c j : Nat) : Msg := { kind := 4, src := x, dst := j, term := T, index := L.length, logTerm := Nd.termAt L L.length, commit := c, ents := [], granted := false }
def syRep (x : Nat) (T : Int) (L : List Ent) (j : Nat) : Msg := { kind := 5, src := j, dst := x, term := T, index := L.length, logTerm := 0, commit := 0, ents := [], granted := true }

/-- What is asked of a term and a log. -/
structure SyOk (n x : Nat) (T : Int) (L : List Ent) (c : Nat) : Prop where
  n7 : n ≤ 7
  xn : x < n
  t0 : 1 ≤ T
  t1 : T ≤ 1000000
  len : L.length ≤ 60
  lt0 : 0 ≤ Nd.termAt L L.length
  lt1 : Nd.termAt L L.length ≤ 1000000
  c : c ≤ L.length

section
variable {n x : Nat} {T : Int} {L : List Ent} {c : Nat}

theorem fol_step (ho : SyOk n x T L c) {j : Nat} (hjx : j ≠ x) {t : Nd} (h : Fol n T L c j t) :
    ∃ t', t.step (syApp x T L c j) = (t', [syRep x T L j]) ∧ Fol n T L c j t' ∧ t'.elapsed = 0 ∧ t'.pat = t.pat ∧ t'.role = 0 ∧ t'.leads = (x : Int) := by
  have hs : soundM (syApp x T L c j) t.id t.n = true := by
    have := ho.xn; have := ho.t0; have := ho.t1; have := ho.len; have := ho.lt0; have := ho.lt1; have := ho.c
    rw [h.fid, h.fn]
    simp only [soundM, syApp, numOk, srcOk, okE, Bool.and_eq_true, decide_eq_true_eq, List.length_nil, and_true]
    have hne : ¬ (x : Int) = (j : Int) := by omega
    repeat' apply And.intro
    all_goals first | (refine decide_eq_true ?_; first | exact hne | omega | rfl) | rfl | omega
  have hkeep : Nd.keeps t.log t.commit L.length [] = true := rfl
  have htake : Nd.takes t.log L.length [] = t.log := rfl
  have hidx : ((L.length : Int)).toNat = L.length := by omega
  unfold Nd.step
  rw [if_pos hs]
  show ∃ t', (if (4 : Int) = 0 then _ else if (4 : Int) = 1 then _ else if (4 : Int) = 2 then _ else if (4 : Int) = 3 then _ else if (4 : Int) = 4 then t.stepAppend (syApp x T L c j) else _) = _ ∧ _
  rw [if_neg (by decide), if_neg (by decide), if_neg (by decide), if_neg (by decide), if_pos rfl]
  unfold Nd.stepAppend
  have e1 : ¬ (syApp x T L c j).term < t.term := by show ¬ T < t.term; rw [h.term]; omega
  have e2 : ¬ ((syApp x T L c j).term = t.term ∧ t.role = 3) := by rintro ⟨_, hx⟩; exact h.role hx
  have e3 : ¬ ((t.last : Int) < (syApp x T L c j).index ∨ t.termOf (syApp x T L c j).index.toNat ≠ (syApp x T L c j).logTerm) := by
    show ¬ ((t.log.length : Int) < (L.length : Int) ∨ Nd.termAt t.log ((L.length : Int)).toNat ≠ Nd.termAt L L.length)
    rw [h.log, hidx]
    rintro (hx | hx)
    · omega
    · exact hx rfl
  have e4 : ¬ (60 < (syApp x T L c j).index.toNat + (syApp x T L c j).ents.length ∨ Nd.keeps t.log t.commit (syApp x T L c j).index.toNat (syApp x T L c j).ents = false) := by
    have := ho.len
    show ¬ (60 < ((L.length : Int)).toNat + 0 ∨ Nd.keeps t.log t.commit _ [] = false)
    rintro (hx | hx)
    · omega
    · cases hx
  rw [if_neg e1, if_neg e2, if_neg e3, if_neg e4]
  have hfol : t.follow T x = { t with role := 0, leads := (x : Int) } := by
    unfold Nd.follow
    rw [if_neg (by rw [h.term]; omega)]
  have happ : t.appS (syApp x T L c j) = { t with role := 0, leads := (x : Int), elapsed := 0 } := by
    show ({ t.follow T x with elapsed := 0 } : Nd) = _
    rw [hfol]
  refine ⟨{ t.appS (syApp x T L c j) with log := Nd.takes t.log (syApp x T L c j).index.toNat (syApp x T L c j).ents, commit := max t.commit (min (syApp x T L c j).commit.toNat ((syApp x T L c j).index.toNat + (syApp x T L c j).ents.length)) }, ?_, ?_, rfl, ?_, ?_, ?_⟩
  · rw [happ]
    show (_, [Nd.reply _ 5 (x : Int) t.term _ true]) = _
    congr 1
    show [({ kind := 5, src := (t.id : Int), dst := (x : Int), term := t.term, index := ((((L.length : Int)).toNat + 0 : Nat) : Int), logTerm := 0, commit := 0, ents := [], granted := true } : Msg)] = _
    rw [h.fid, h.term, hidx]
    rfl
  · rw [happ]
    have hc := ho.c
    exact ⟨h.fid, h.fn, h.term, by show ¬ (0 : Int) = 3; decide, h.log, by
      show max t.commit (min ((c : Int)).toNat (((L.length : Int)).toNat + 0)) = c
      rw [h.com]; omega⟩
  · rw [happ]
  · rw [happ]
  · rw [happ]

theorem ldr_step (ho : SyOk n x T L c) {j : Nat} (hj : j < n) (hjx : j ≠ x) {s : Nd} (h : Ldr n x T L c s) : s.step (syRep x T L j) = (s.hears j, []) ∧ Ldr n x T L c (s.hears j) := by
  have hs : soundM (syRep x T L j) s.id s.n = true := by
    have := ho.xn; have := ho.t0; have := ho.t1; have := ho.len; have := ho.lt0; have := ho.lt1; have := ho.c
    rw [h.fid, h.fn]
    simp only [soundM, syRep, numOk, srcOk, okE, Bool.and_eq_true, decide_eq_true_eq, List.length_nil, and_true]
    have hne : ¬ (j : Int) = (x : Int) := by omega
    repeat' apply And.intro
    all_goals first | (refine decide_eq_true ?_; first | exact hne | omega | rfl) | rfl | omega
  have hsrc : (syRep x T L j).src.toNat = j := by show ((j : Int)).toNat = j; omega
  have hidx : (syRep x T L j).index.toNat = L.length := by show ((L.length : Int)).toNat = _; omega
  refine ⟨?_, ⟨h.fid, h.fn, h.term, h.role, h.log, h.com, h.nm⟩⟩
  unfold Nd.step
  rw [if_pos hs]
  show (if (5 : Int) = 0 then _ else if (5 : Int) = 1 then _ else if (5 : Int) = 2 then _ else if (5 : Int) = 3 then _ else if (5 : Int) = 4 then _ else s.stepAppendReply (syRep x T L j)) = _
  rw [if_neg (by decide), if_neg (by decide), if_neg (by decide), if_neg (by decide), if_neg (by decide)]
  unfold Nd.stepAppendReply
  rw [if_neg (by show ¬ s.term < T; rw [h.term]; omega), if_pos ⟨h.role, h.term.symm⟩, if_pos (show (syRep x T L j).granted = true from rfl), hsrc, hidx, if_neg (by rw [(h.nm j hj hjx).2]; omega)]

/-- The others are told of the Append. -/
theorem phase1 (ho : SyOk n x T L c) : ∀ (js : List Nat) (g : Gp) (t : List Msg), js.Nodup → (∀ j ∈ js, j < n ∧ j ≠ x) → g.nodes.length = n → (∀ j ∈ js, Fol n T L c j (g.node j)) → g.way = js.map (syApp x T L c) ++ t → js.length + t.length ≤ 100 →
    (g.tells js.length).way = t ++ js.map (syRep x T L) ∧ (∀ i, i ∉ js → (g.tells js.length).node i = g.node i) ∧ (∀ j ∈ js, Fol n T L c j ((g.tells js.length).node j) ∧ ((g.tells js.length).node j).elapsed = 0 ∧ ((g.tells js.length).node j).pat = (g.node j).pat ∧ ((g.tells js.length).node j).role = 0 ∧ ((g.tells js.length).node j).leads = (x : Int)) ∧ (g.tells js.length).nodes.length = n := by
  intro js
  induction js with
  | nil => intro g t _ _ hl _ hw _; exact ⟨by show g.way = _; simpa using hw, fun i _ => rfl, fun j hj => (by cases hj), hl⟩
  | cons j js ih =>
    intro g t hnd hjs hl hf hw hlen
    obtain ⟨hnj, hnd'⟩ := List.nodup_cons.1 hnd
    obtain ⟨hj1, hj2⟩ := hjs j (List.mem_cons_self ..)
    obtain ⟨t', ht, hF, he0, hpt, hr0, hld⟩ := fol_step ho hj2 (hf j (List.mem_cons_self ..))
    have hw1 : g.way = syApp x T L c j :: (js.map (syApp x T L c) ++ t) := by rw [hw]; rfl
    have hd : (syApp x T L c j).dst.toNat = j := by show ((j : Int)).toNat = j; omega
    obtain ⟨g1, hg1⟩ : ∃ g1, g.tell1 = g1 := ⟨_, rfl⟩
    have hg1' : g1 = ({ g with way := js.map (syApp x T L c) ++ t } : Gp).did j (t', [syRep x T L j]) := by
      rw [← hg1, tell1_cons hw1]
      show Gp.did _ (syApp x T L c j).dst.toNat ((Gp.node _ (syApp x T L c j).dst.toNat).step (syApp x T L c j)) = _
      rw [hd]
      show Gp.did _ j ((g.node j).step (syApp x T L c j)) = _
      rw [ht]
    have hway1 : g1.way = js.map (syApp x T L c) ++ (t ++ [syRep x T L j]) := by
      rw [hg1']
      show (js.map (syApp x T L c) ++ t) ++ [syRep x T L j].take (200 - (js.map (syApp x T L c) ++ t).length) = _
      simp only [List.length_cons] at hlen
      rw [List.take_of_length_le (by simp; omega), List.append_assoc]
    have hnodes1 : g1.nodes = g.nodes.set j t' := by rw [hg1']; rfl
    have hother : ∀ i, i ≠ j → g1.node i = g.node i := by
      intro i hi
      unfold Gp.node
      rw [hnodes1, List.getElem?_set_ne (fun hx => hi hx.symm)]
    have hself : g1.node j = t' := by
      unfold Gp.node
      rw [hnodes1, List.getElem?_set_self (by rw [hl]; exact hj1)]; rfl
    have hl1 : g1.nodes.length = n := by rw [hnodes1, List.length_set]; exact hl
    obtain ⟨r1, r2, r3, r4⟩ := ih g1 (t ++ [syRep x T L j]) hnd' (fun i hi => hjs i (List.mem_cons_of_mem _ hi)) hl1 (fun i hi => by
      rw [hother i (fun hx => hnj (hx ▸ hi))]; exact hf i (List.mem_cons_of_mem _ hi)) hway1 (by simp at hlen ⊢; omega)
    have hsplit : g.tells (j :: js).length = g1.tells js.length := by
      rw [List.length_cons, Nat.add_comm, tells_add]
      show (g.tell1).tells js.length = _
      rw [hg1]
    rw [hsplit]
    refine ⟨by rw [r1, List.append_assoc]; rfl, fun i hi => ?_, fun i hi => ?_, r4⟩
    · rw [r2 i (fun hx => hi (List.mem_cons_of_mem _ hx)), hother i (fun hx => hi (hx ▸ List.mem_cons_self ..))]
    · rcases List.mem_cons.1 hi with rfl | hi'
      · rw [r2 _ hnj, hself]; exact ⟨hF, he0, hpt, hr0, hld⟩
      · have h9 := r3 i hi'
        rw [hother i (fun hx => hnj (hx ▸ hi'))] at h9
        exact h9

/-- The leader is told of the replies. -/
theorem phase2 (ho : SyOk n x T L c) : ∀ (js : List Nat) (g : Gp), (∀ j ∈ js, j < n ∧ j ≠ x) → g.nodes.length = n → Ldr n x T L c (g.node x) → g.way = js.map (syRep x T L) →
    (g.tells js.length).way = [] ∧ (∀ i, i ≠ x → (g.tells js.length).node i = g.node i) ∧ Ldr n x T L c ((g.tells js.length).node x) ∧ ((g.tells js.length).node x).elapsed = (g.node x).elapsed ∧ ((g.tells js.length).node x).pat = (g.node x).pat ∧ (∀ j, (j ∈ js ∨ (g.node x).hd j = true) → ((g.tells js.length).node x).hd j = true) ∧ (g.tells js.length).nodes.length = n := by
  intro js
  induction js with
  | nil => intro g _ hl hL hw; exact ⟨by show g.way = _; simpa using hw, fun i _ => rfl, hL, rfl, rfl, fun j hj => hj.elim (fun h => by cases h) (fun h => h), hl⟩
  | cons j js ih =>
    intro g hjs hl hL hw
    obtain ⟨hj1, hj2⟩ := hjs j (List.mem_cons_self ..)
    obtain ⟨hst, hL1⟩ := ldr_step ho hj1 hj2 hL
    have hw1 : g.way = syRep x T L j :: js.map (syRep x T L) := hw
    have hd : (syRep x T L j).dst.toNat = x := by show ((x : Int)).toNat = x; omega
    obtain ⟨g1, hg1⟩ : ∃ g1, g.tell1 = g1 := ⟨_, rfl⟩
    have hg1' : g1 = ({ g with way := js.map (syRep x T L) } : Gp).did x ((g.node x).hears j, []) := by
      rw [← hg1, tell1_cons hw1]
      show Gp.did _ (syRep x T L j).dst.toNat ((Gp.node _ (syRep x T L j).dst.toNat).step (syRep x T L j)) = _
      rw [hd]
      show Gp.did _ x ((g.node x).step (syRep x T L j)) = _
      rw [hst]
    have hway1 : g1.way = js.map (syRep x T L) := by rw [hg1']; show js.map (syRep x T L) ++ [].take _ = _; simp
    have hnodes1 : g1.nodes = g.nodes.set x ((g.node x).hears j) := by rw [hg1']; rfl
    have hother : ∀ i, i ≠ x → g1.node i = g.node i := by
      intro i hi
      unfold Gp.node
      rw [hnodes1, List.getElem?_set_ne (fun hx => hi hx.symm)]
    have hself : g1.node x = (g.node x).hears j := by
      have : g1.nodes[x]? = some ((g.node x).hears j) := by rw [hnodes1, List.getElem?_set_self (by rw [hl]; exact ho.xn)]
      show g1.nodes[x]?.getD _ = _
      rw [this]; rfl
    have hl1 : g1.nodes.length = n := by rw [hnodes1, List.length_set]; exact hl
    obtain ⟨r1, r2, r3, r4, r5, r6, r7⟩ := ih g1 (fun i hi => hjs i (List.mem_cons_of_mem _ hi)) hl1 (by rw [hself]; exact hL1) hway1
    have hsplit : g.tells (j :: js).length = g1.tells js.length := by
      rw [List.length_cons, Nat.add_comm, tells_add]
      show (g.tell1).tells js.length = _
      rw [hg1]
    rw [hsplit]
    refine ⟨r1, fun i hi => by rw [r2 i hi, hother i hi], r3, by rw [r4, hself]; rfl, by rw [r5, hself]; rfl, fun i hi => r6 i ?_, r7⟩
    rw [hself]
    rcases hi with hi | hi
    · rcases List.mem_cons.1 hi with rfl | hi'
      · exact .inr (by show upd (g.node x).hd i true i = true; simp [upd])
      · exact .inl hi'
    · refine .inr ?_
      show upd (g.node x).hd j true i = true
      unfold upd; split
      · rfl
      · exact hi

end

end Go.Proofs.Yteiecbkfganhnaa

namespace Go.Proofs.Yteiecbkfganhnaa

structure Sync (n x : Nat) (T : Int) (L : List Ent) (c : Nat) (g : Gp) : Prop where
  len : g.nodes.length = n
  way : g.way = []
  ldr : Ldr n x T L c (g.node x)
  fol : ∀ j, j < n → j ≠ x → Fol n T L c j (g.node j)
  hd : ∀ j, j < n → j ≠ x → (g.node x).hd j = true

theorem cnt_full {f : Nat → Bool} {n : Nat} (hn : n ≤ 7) (h : ∀ j, j < n → f j = true) : n ≤ cnt f := by
  have h1 : ∀ k, k ≤ n → k ≤ cntTo f k := by
    intro k
    induction k with
    | zero => intro _; exact Nat.zero_le _
    | succ k ih =>
      intro hk
      have := ih (by omega)
      show k + 1 ≤ cntTo f k + b1 (f k)
      rw [h k (by omega)]
      simp [b1]; omega
  have h2 : ∀ d, cntTo f n ≤ cntTo f (n + d) := by
    intro d
    induction d with
    | zero => exact Nat.le_refl _
    | succ d ih => exact Nat.le_trans ih (Nat.le_add_right _ _)
  have h3 := h1 n (Nat.le_refl _)
  have h4 := h2 (7 - n)
  rw [show n + (7 - n) = 7 by omega] at h4
  exact Nat.le_trans h3 h4

theorem cnt1 : ∀ i, i < 7 → cnt (upd none7 i true) = 1 := by decide

section
variable {n x : Nat} {T : Int} {L : List Ent} {c : Nat} {g : Gp}

theorem ldr_appends {s : Nd} (h : Ldr n x T L c s) : s.appends = s.others.map (syApp x T L c) := by
  unfold Nd.appends
  refine List.map_congr_left fun j hj => ?_
  have hj' : j < n ∧ j ≠ x := by
    have := List.mem_filter.1 hj
    refine ⟨by have := List.mem_range.1 this.1; rw [h.fn] at this; exact this, ?_⟩
    have h2 := of_decide_eq_true this.2
    rw [h.fid] at h2; exact h2
  obtain ⟨e1, _⟩ := h.nm j hj'.1 hj'.2
  show ({ kind := 4, src := (s.id : Int), dst := (j : Int), term := s.term, index := (s.nx j : Int) - 1, logTerm := Nd.termAt s.log (s.nx j - 1), commit := (s.commit : Int), ents := (s.log.drop (s.nx j - 1)).take 3, granted := false } : Msg) = _
  rw [h.fid, h.term, e1, h.com, h.log, Nat.add_sub_cancel, List.drop_length, List.take_nil, show ((L.length + 1 : Nat) : Int) - 1 = (L.length : Int) by omega]
  rfl

/-- What a leader's tick does when it has heard all. -/
theorem ldr_tick (ho : SyOk n x T L c) (h : Ldr n x T L c (g.node x)) (hh : ∀ j, j < n → j ≠ x → (g.node x).hd j = true) :
    Ldr n x T L c (g.node x).tick.1 ∧ (g.node x).tick.2 = (g.node x).others.map (syApp x T L c) := by
  obtain ⟨s, hs⟩ : ∃ s, g.node x = s := ⟨_, rfl⟩
  rw [hs] at h hh ⊢
  unfold Nd.tick
  rw [if_pos h.role]
  have hS : Ldr n x T L c s.tickS := ⟨h.fid, h.fn, h.term, h.role, h.log, h.com, h.nm⟩
  unfold Nd.tickLeader
  split
  · have hm : s.tickS.maj (cnt (upd s.tickS.hd s.tickS.id true)) = true := by
      have h1 : n ≤ cnt (upd s.tickS.hd s.tickS.id true) := by
        refine cnt_full ho.n7 fun j hj => ?_
        show upd s.hd s.id true j = true
        rw [h.fid]
        unfold upd
        split
        · rfl
        · exact hh j hj ‹_›
      unfold Nd.maj
      have h2 : s.tickS.n = n := h.fn
      rw [h2]
      have := ho.xn
      exact decide_eq_true (by omega)
    rw [if_pos hm]
    have hS' : Ldr n x T L c ({ s.tickS with elapsed := 0, hd := none7 } : Nd) := ⟨h.fid, h.fn, h.term, h.role, h.log, h.com, h.nm⟩
    exact ⟨hS', ldr_appends hS'⟩
  · exact ⟨hS, ldr_appends hS⟩

theorem sync_turn' (ho : SyOk n x T L c) (h : Sync n x T L c g) : Sync n x T L c (g.turn x) ∧ ∀ j, j < n → j ≠ x → ((g.turn x).node j).elapsed = 0 ∧ ((g.turn x).node j).pat = (g.node j).pat ∧ ((g.turn x).node j).role = 0 ∧ ((g.turn x).node j).leads = (x : Int) := by
  obtain ⟨hL, hout⟩ := ldr_tick ho h.ldr h.hd
  have hn7 := ho.n7
  obtain ⟨js, hjs⟩ : ∃ js, (g.node x).others = js := ⟨_, rfl⟩
  have hmem : ∀ j, j ∈ js ↔ (j < n ∧ j ≠ x) := by
    intro j
    rw [← hjs]
    unfold Nd.others
    rw [List.mem_filter, List.mem_range, h.ldr.fn, h.ldr.fid]
    simp
  have hnd : js.Nodup := by rw [← hjs]; exact List.Nodup.sublist List.filter_sublist List.nodup_range
  have hjl : js.length ≤ 7 := by
    rw [← hjs]
    have h1 : ((g.node x).others).length ≤ (List.range (g.node x).n).length := List.length_filter_le _ _
    rw [List.length_range, h.ldr.fn] at h1
    omega
  rw [hjs] at hout
  obtain ⟨g1, hg1⟩ : ∃ g1, g.tick x = g1 := ⟨_, rfl⟩
  have hway1 : g1.way = js.map (syApp x T L c) ++ [] := by
    rw [← hg1]
    show g.way ++ (g.node x).tick.2.take (200 - g.way.length) = _
    rw [h.way, hout, List.take_of_length_le (by simp; omega)]
    simp
  have hnodes1 : g1.nodes = g.nodes.set x (g.node x).tick.1 := by rw [← hg1]; rfl
  have hother : ∀ i, i ≠ x → g1.node i = g.node i := by
    intro i hi
    unfold Gp.node
    rw [hnodes1, List.getElem?_set_ne (fun hx => hi hx.symm)]
  have hself : g1.node x = (g.node x).tick.1 := by
    have : g1.nodes[x]? = some (g.node x).tick.1 := by rw [hnodes1, List.getElem?_set_self (by rw [h.len]; exact ho.xn)]
    show g1.nodes[x]?.getD _ = _
    rw [this]; rfl
  have hl1 : g1.nodes.length = n := by rw [hnodes1, List.length_set]; exact h.len
  obtain ⟨a1, a2, a3, a4⟩ := phase1 ho js g1 [] hnd (fun j hj => (hmem j).1 hj) hl1 (fun j hj => by rw [hother j ((hmem j).1 hj).2]; exact h.fol j ((hmem j).1 hj).1 ((hmem j).1 hj).2) hway1 (by simp; omega)
  obtain ⟨g2, hg2⟩ : ∃ g2, g1.tells js.length = g2 := ⟨_, rfl⟩
  rw [hg2] at a1 a2 a3 a4
  have hx2 : g2.node x = (g.node x).tick.1 := by rw [a2 x (fun hx => ((hmem x).1 hx).2 rfl), hself]
  obtain ⟨b1, b2, b3, b4, b5, b6, b7⟩ := phase2 ho js g2 (fun j hj => (hmem j).1 hj) a4 (by rw [hx2]; exact hL) (by rw [a1]; rfl)
  obtain ⟨g3, hg3⟩ : ∃ g3, g2.tells js.length = g3 := ⟨_, rfl⟩
  rw [hg3] at b1 b2 b3 b4 b5 b6 b7
  have hsum : g1.tells (js.length + js.length) = g3 := by rw [tells_add, hg2, hg3]
  have hend : g.turn x = g3 := by
    show (g.tick x).tells 3000 = g3
    rw [hg1]
    have h9 := tells_done (g := g1) (k := js.length + js.length) (by rw [hsum]; exact b1) (3000 - (js.length + js.length))
    rw [show js.length + js.length + (3000 - (js.length + js.length)) = 3000 by omega, hsum] at h9
    exact h9
  rw [hend]
  refine ⟨⟨b7, b1, b3, fun j hj hjx => ?_, fun j hj hjx => b6 j (.inl ((hmem j).2 ⟨hj, hjx⟩))⟩, fun j hj hjx => ?_⟩
  · rw [b2 j hjx]
    exact (a3 j ((hmem j).2 ⟨hj, hjx⟩)).1
  · rw [b2 j hjx]
    have h9 := (a3 j ((hmem j).2 ⟨hj, hjx⟩)).2
    rw [hother j hjx] at h9
    exact h9

theorem sync_turn (ho : SyOk n x T L c) (h : Sync n x T L c g) : Sync n x T L c (g.turn x) := (sync_turn' ho h).1

theorem sync_turns (ho : SyOk n x T L c) (h : Sync n x T L c g) (k : Nat) : Sync n x T L c (g.turns x k) := by
  induction k with
  | zero => exact h
  | succ k ih => exact sync_turn ho ih

theorem sync_patience (ho : SyOk n x T L c) (h : Sync n x T L c g) (p : Int) : Sync n x T L c (g.patience x p) := by
  have hnodes1 : (g.patience x p).nodes = g.nodes.set x { g.node x with pat := p } := rfl
  have hother : ∀ i, i ≠ x → (g.patience x p).node i = g.node i := by
    intro i hi
    unfold Gp.node
    rw [hnodes1, List.getElem?_set_ne (fun hx => hi hx.symm)]
  have hself : (g.patience x p).node x = { g.node x with pat := p } := by
    have : (g.patience x p).nodes[x]? = some { g.node x with pat := p } := by rw [hnodes1, List.getElem?_set_self (by rw [h.len]; exact ho.xn)]
    show (g.patience x p).nodes[x]?.getD _ = _
    rw [this]; rfl
  have hl := h.ldr
  refine ⟨by rw [hnodes1, List.length_set]; exact h.len, h.way, ?_, fun j hj hjx => ?_, fun j hj hjx => ?_⟩
  · rw [hself]; exact ⟨hl.fid, hl.fn, hl.term, hl.role, hl.log, hl.com, hl.nm⟩
  · rw [hother j hjx]; exact h.fol j hj hjx
  · rw [hself]; exact h.hd j hj hjx

end

/-- A leader that hears nobody: m ticks at most are left to it. -/
def Fades (p : Int) (m : Nat) (s : Nd) : Prop :=
  (s.role = 3 ∧ 0 ≤ s.elapsed ∧ s.hd = none7 ∧ s.elapsed < p ∧ p - s.elapsed ≤ m) ∨ (s.role = 3 ∧ 0 ≤ s.elapsed ∧ p + max 1 (p - s.elapsed) ≤ m) ∨ (s.role ≠ 3 ∧ s.leads = -1)

theorem fades_tick {p : Int} {m : Nat} {s : Nd} (hp : 1 ≤ p) (hn : 2 ≤ s.n) (hi : s.id < 7) (hpat : s.pat = p) (h : Fades p (m + 1) s) : Fades p m s.tick.1 ∧ s.tick.1.n = s.n ∧ s.tick.1.id = s.id ∧ s.tick.1.pat = p := by
  have hone : ∀ t : Nd, t.id = s.id → t.n = s.n → ¬ t.maj (cnt (upd none7 t.id true)) = true := by
    intro t h1 h2
    rw [h1, cnt1 _ hi]
    unfold Nd.maj
    rw [h2]
    simp; omega
  by_cases hr : s.role = 3
  · unfold Nd.tick
    rw [if_pos hr]
    unfold Nd.tickLeader
    by_cases he : s.tickS.pat ≤ s.tickS.elapsed
    · rw [if_pos he]
      have he' : p ≤ s.elapsed + 1 := by rw [← hpat]; exact he
      by_cases hm : s.tickS.maj (cnt (upd s.tickS.hd s.tickS.id true)) = true
      · rw [if_pos hm]
        refine ⟨?_, rfl, rfl, hpat⟩
        rcases h with ⟨_, _, hh, _⟩ | ⟨_, _, h3⟩ | ⟨h1, _⟩
        · exfalso
          have h9 : s.tickS.hd = none7 := hh
          rw [h9] at hm
          exact hone s.tickS rfl rfl hm
        · refine .inl ⟨hr, Int.le_refl _, rfl, by show (0 : Int) < p; omega, ?_⟩
          show p - 0 ≤ (m : Int)
          omega
        · exact absurd hr h1
      · rw [if_neg hm]
        refine ⟨.inr (.inr ?_), ?_, ?_, ?_⟩
        all_goals unfold Nd.follow
        all_goals rw [if_neg (by show ¬ s.term < s.term; omega)]
        · exact ⟨by show ¬ (0 : Int) = 3; decide, rfl⟩
        · rfl
        · rfl
        · exact hpat
    · rw [if_neg he]
      have he' : ¬ p ≤ s.elapsed + 1 := by rw [← hpat]; exact he
      refine ⟨?_, rfl, rfl, hpat⟩
      rcases h with ⟨_, h0, hh, h1, h2⟩ | ⟨_, h0, h3⟩ | ⟨h1, _⟩
      · refine .inl ⟨hr, by show 0 ≤ s.elapsed + 1; omega, hh, by show s.elapsed + 1 < p; omega, ?_⟩
        show p - (s.elapsed + 1) ≤ (m : Int)
        omega
      · refine .inr (.inl ⟨hr, by show 0 ≤ s.elapsed + 1; omega, ?_⟩)
        show p + max 1 (p - (s.elapsed + 1)) ≤ (m : Int)
        omega
      · exact absurd hr h1
  · have hl : s.leads = -1 := by
      rcases h with ⟨h1, _⟩ | ⟨h1, _⟩ | ⟨_, h2⟩
      · exact absurd h1 hr
      · exact absurd h1 hr
      · exact h2
    unfold Nd.tick
    rw [if_neg hr]
    split
    · exact ⟨.inr (.inr ⟨hr, hl⟩), rfl, rfl, hpat⟩
    · unfold Nd.ask
      rw [if_neg (show ¬ (s.tickS.campaign 1).maj (cnt (s.tickS.campaign 1).gr) = true from hone (s.tickS.campaign 1) rfl rfl)]
      exact ⟨.inr (.inr ⟨by show ¬ (1 : Int) = 3; decide, rfl⟩), rfl, rfl, hpat⟩

theorem fades_end {p : Int} {s : Nd} (hp : 1 ≤ p) (h : Fades p 0 s) : s.role ≠ 3 ∧ s.leads = -1 := by
  rcases h with ⟨_, _, _, h1, h2⟩ | ⟨_, _, h3⟩ | h4
  · exfalso; omega
  · exfalso; omega
  · exact h4

theorem fades_solo {p : Int} {x : Nat} (hp : 1 ≤ p) : ∀ (k m : Nat) (g : Gp), x < g.nodes.length → k ≤ m → 2 ≤ (g.node x).n → (g.node x).id < 7 → (g.node x).pat = p → Fades p m (g.node x) →
    Fades p (m - k) ((g.solo x k).node x) ∧ 2 ≤ ((g.solo x k).node x).n ∧ ((g.solo x k).node x).id < 7 ∧ ((g.solo x k).node x).pat = p ∧ x < (g.solo x k).nodes.length := by
  intro k
  induction k with
  | zero => intro m g hx _ h1 h2 h3 h4; exact ⟨h4, h1, h2, h3, hx⟩
  | succ k ih =>
    intro m g hx hk h1 h2 h3 h4
    obtain ⟨r1, r2, r3, r4, r5⟩ := ih m g hx (by omega) h1 h2 h3 h4
    have hself : (g.solo x (k + 1)).node x = ((g.solo x k).node x).tick.1 := by
      show ((g.solo x k).nodes.set x ((g.solo x k).node x).tick.1)[x]?.getD _ = _
      rw [List.getElem?_set_self r5]; rfl
    have hm : m - k = (m - (k + 1)) + 1 := by omega
    rw [hm] at r1
    obtain ⟨t1, t2, t3, t4⟩ := fades_tick hp r2 r3 r4 r1
    rw [hself, t2, t3]
    refine ⟨t1, r2, r3, t4, ?_⟩
    show x < ((g.solo x k).nodes.set x _).length
    rw [List.length_set]; exact r5

end Go.Proofs.Yteiecbkfganhnaa

namespace Go.Proofs.Yteiecbkfganhnaa

def folB (n x : Nat) (T : Int) (L : List Ent) (c j : Nat) (t : Nd) : Bool := decide (t.id = j) && decide (t.n = n) && decide (t.term = T) && decide (t.role = 0) && decide (t.leads = (x : Int)) && decide (t.log = L) && decide (t.commit = c)
def ldrB (n x : Nat) (T : Int) (L : List Ent) (c : Nat) (s : Nd) : Bool := decide (s.id = x) && decide (s.n = n) && decide (s.term = T) && decide (s.role = 3) && decide (s.log = L) && decide (s.commit = c) && (List.range n).all fun j => decide (j = x) || (decide (s.nx j = L.length + 1) && decide (s.mt j = L.length) && s.hd j)
def syncB (n x : Nat) (T : Int) (L : List Ent) (c : Nat) (g : Gp) : Bool := decide (g.nodes.length = n) && g.way.isEmpty && ldrB n x T L c (g.node x) && (List.range n).all fun j => decide (j = x) || folB n x T L c j (g.node j)

theorem sync_of {n x : Nat} {T : Int} {L : List Ent} {c : Nat} {g : Gp} (h : syncB n x T L c g = true) : Sync n x T L c g := by
  simp only [syncB, ldrB, folB, Bool.and_eq_true, decide_eq_true_eq, List.all_eq_true, List.mem_range, Bool.or_eq_true, List.isEmpty_iff] at h
  obtain ⟨⟨⟨h1, h2⟩, ⟨⟨⟨⟨⟨⟨a1, a2⟩, a3⟩, a4⟩, a5⟩, a6⟩, a7⟩⟩, h4⟩ := h
  refine ⟨h1, h2, ⟨a1, a2, a3, a4, a5, a6, fun j hj hx => ?_⟩, fun j hj hx => ?_, fun j hj hx => ?_⟩
  · rcases a7 j hj with h | h
    · exact absurd h hx
    · exact h.1
  · rcases h4 j hj with h | ⟨⟨⟨⟨⟨⟨b1, b2⟩, b3⟩, b4⟩, b5⟩, b6⟩, b7⟩
    · exact absurd h hx
    · exact ⟨b1, b2, b3, by rw [b4]; decide, b6, b7⟩
  · rcases a7 j hj with h | h
    · exact absurd h hx
    · exact h.2

/-- The log after the first election. -/
def L1 : List Ent := [(1, ⟨#[]⟩)]
def startB (n : Nat) : Bool := Gp.stills 40 n ((Gp.first n).patTo n) 10 && (syncB n 0 1 L1 1 (Gp.roundsF 40 n ((Gp.first n).patTo n) 10) && (decide (((Gp.roundsF 40 n ((Gp.first n).patTo n) 10).headTo n).1 = 0) && decide (0 ≤ ((Gp.roundsF 40 n ((Gp.first n).patTo n) 10).node 0).elapsed)))

theorem start2 : startB 2 = true := by decide +kernel
theorem start3 : startB 3 = true := by decide +kernel
theorem start4 : startB 4 = true := by decide +kernel
theorem start5 : startB 5 = true := by decide +kernel
theorem start6 : startB 6 = true := by decide +kernel
theorem start7 : startB 7 = true := by decide +kernel

theorem start_sync {n : Nat} (h : startB n = true) : Sync n 0 1 L1 1 (Gp.start n 10) ∧ ((Gp.start n 10).headTo n).1 = 0 ∧ 0 ≤ ((Gp.start n 10).node 0).elapsed := by
  simp only [startB, Bool.and_eq_true, decide_eq_true_eq] at h
  obtain ⟨h1, h2, h3, h4⟩ := h
  have h5 : Gp.start n 10 = Gp.roundsF 40 n ((Gp.first n).patTo n) 10 := roundsF_eq (by decide) 10 h1
  rw [h5]
  exact ⟨sync_of h2, h3, h4⟩

theorem l1_ok {n : Nat} (h2 : 2 ≤ n) (h7 : n ≤ 7) : SyOk n 0 1 L1 1 :=
  ⟨h7, by omega, by decide, by decide, by decide, by decide, by decide, by decide⟩

theorem steps_of {n : Nat} (h2 : 2 ≤ n) (h7 : n ≤ 7) (h : startB n = true) : StepsGood n 0 := by
  obtain ⟨hs, hh, he⟩ := start_sync h
  have ho := l1_ok h2 h7
  refine ⟨by omega, hh, fun p _ _ => (sync_turns ho (sync_patience ho hs p) _).ldr.role, fun p hp _ => ?_⟩
  have hself : ((Gp.start n 10).patience 0 (p : Int)).node 0 = { (Gp.start n 10).node 0 with pat := (p : Int) } := by
    show ((Gp.start n 10).nodes.set 0 { (Gp.start n 10).node 0 with pat := (p : Int) })[0]?.getD _ = _
    rw [List.getElem?_set_self (by rw [hs.len]; omega)]; rfl
  have hF : Fades (p : Int) (2 * p + 40) (((Gp.start n 10).patience 0 (p : Int)).node 0) := by
    rw [hself]
    refine .inr (.inl ⟨hs.ldr.role, he, ?_⟩)
    show (p : Int) + max 1 ((p : Int) - ((Gp.start n 10).node 0).elapsed) ≤ ((2 * p + 40 : Nat) : Int)
    omega
  obtain ⟨r1, _⟩ := fades_solo (p := (p : Int)) (x := 0) (by omega) (2 * p + 40) (2 * p + 40) ((Gp.start n 10).patience 0 (p : Int))
    (by show 0 < ((Gp.start n 10).nodes.set 0 _).length; rw [List.length_set, hs.len]; omega) (Nat.le_refl _)
    (by rw [hself]; show 2 ≤ ((Gp.start n 10).node 0).n; rw [hs.ldr.fn]; exact h2)
    (by rw [hself]; show ((Gp.start n 10).node 0).id < 7; rw [hs.ldr.fid]; decide)
    (by rw [hself]) hF
  rw [Nat.sub_self] at r1
  exact fades_end (by omega) r1

theorem steps_all : ∀ n, 2 ≤ n → n ≤ 7 → ∃ i, StepsGood n i := by
  intro n h2 h7
  refine ⟨0, steps_of h2 h7 ?_⟩
  rcases (by omega : n = 2 ∨ n = 3 ∨ n = 4 ∨ n = 5 ∨ n = 6 ∨ n = 7) with rfl | rfl | rfl | rfl | rfl | rfl
  · exact start2
  · exact start3
  · exact start4
  · exact start5
  · exact start6
  · exact start7

end Go.Proofs.Yteiecbkfganhnaa

namespace Go.Proofs.Yteiecbkfganhnaa

theorem node_put_self {g : Gp} {i : Nat} {s : Nd} (h : i < g.nodes.length) : (g.put i s).node i = s := by
  show (g.nodes.set i s)[i]?.getD _ = _
  rw [List.getElem?_set_self h]; rfl

theorem node_put_ne {g : Gp} {i j : Nat} {s : Nd} (h : j ≠ i) : (g.put i s).node j = g.node j := by
  show (g.nodes.set i s)[j]?.getD _ = g.nodes[j]?.getD _
  rw [List.getElem?_set_ne (fun hx => h hx.symm)]

theorem tells_none {g : Gp} (h : g.way = []) (k : Nat) : g.tells k = g := by
  induction k with
  | zero => rfl
  | succ k ih => show (g.tells k).tell1 = g; rw [ih, tell1_nil h]

section
variable {n : Nat} {T : Int} {L : List Ent} {c : Nat} {g : Gp}

/-- A node that follows puts in what it likes of its own. -/
theorem sync_put {x : Nat} (h : Sync n x T L c g) {j : Nat} (hjx : j ≠ x) {s : Nd} (hs : j < n → Fol n T L c j s) : Sync n x T L c (g.put j s) := by
  have hx : (g.put j s).node x = g.node x := node_put_ne (fun hx => hjx hx.symm)
  refine ⟨by show (g.nodes.set j s).length = n; rw [List.length_set]; exact h.len, h.way, by rw [hx]; exact h.ldr, fun i hi hix => ?_, fun i hi hix => by rw [hx]; exact h.hd i hi hix⟩
  by_cases hij : i = j
  · subst hij
    rw [node_put_self (by rw [h.len]; exact hi)]
    exact hs hi
  · rw [node_put_ne hij]; exact h.fol i hi hix

theorem fol_wait {j : Nat} {s : Nd} (h : Fol n T L c j s) (he : s.elapsed + 1 < s.pat) : s.tick = (s.tickS, []) ∧ Fol n T L c j s.tickS := by
  unfold Nd.tick
  rw [if_neg h.role, if_pos (.inl he)]
  exact ⟨rfl, h.fid, h.fn, h.term, h.role, h.log, h.com⟩

/-- What is true of the followers. -/
structure Calm (n k : Nat) (g : Gp) : Prop where
  role : ∀ j, j < n → j ≠ 0 → (g.node j).role = 0
  leads : ∀ j, j < n → j ≠ 0 → (g.node j).leads = 0
  el : ∀ j, j < n → j ≠ 0 → k ≤ j → (g.node j).elapsed = 0

def Pats (n : Nat) (g : Gp) : Prop := ∀ j, j < n → j ≠ 0 → 2 ≤ (g.node j).pat

theorem sync_round (ho : SyOk n 0 T L c) (h : Sync n 0 T L c g) (hp : Pats n g) : ∀ k, k < n → Sync n 0 T L c (g.roundTo (k + 1)) ∧ Pats n (g.roundTo (k + 1)) ∧ Calm n (k + 1) (g.roundTo (k + 1)) := by
  intro k
  induction k with
  | zero =>
    intro _
    show Sync n 0 T L c (g.turn 0) ∧ Pats n (g.turn 0) ∧ Calm n 1 (g.turn 0)
    obtain ⟨h1, h2⟩ := sync_turn' ho h
    refine ⟨h1, fun j hj hx => ?_, fun j hj hx => (h2 j hj hx).2.2.1, fun j hj hx => (h2 j hj hx).2.2.2, fun j hj hx _ => (h2 j hj hx).1⟩
    rw [(h2 j hj hx).2.1]; exact hp j hj hx
  | succ k ih =>
    intro hk
    obtain ⟨h1, h2, h3⟩ := ih (by omega)
    obtain ⟨G, hG⟩ : ∃ G, g.roundTo (k + 1) = G := ⟨_, rfl⟩
    show Sync n 0 T L c ((g.roundTo (k + 1)).turn (k + 1)) ∧ Pats n ((g.roundTo (k + 1)).turn (k + 1)) ∧ Calm n (k + 1 + 1) ((g.roundTo (k + 1)).turn (k + 1))
    rw [hG] at h1 h2 h3 ⊢
    have hx : k + 1 ≠ 0 := by omega
    have hpk := h2 (k + 1) hk hx
    obtain ⟨t1, t2⟩ := fol_wait (h1.fol (k + 1) hk hx) (by rw [h3.el (k + 1) hk hx (Nat.le_refl _)]; omega)
    have hturn : G.turn (k + 1) = G.put (k + 1) (G.node (k + 1)).tickS := by
      show (G.tick (k + 1)).tells 3000 = _
      have h9 : G.tick (k + 1) = G.put (k + 1) (G.node (k + 1)).tickS := by
        show G.did (k + 1) (G.node (k + 1)).tick = _
        rw [t1]
        show ({ G.put (k + 1) _ with way := _ } : Gp) = G.put (k + 1) _
        simp [Gp.put]
      rw [h9, tells_none (show (G.put (k + 1) (G.node (k + 1)).tickS).way = [] from h1.way)]
    rw [hturn]
    have hl : k + 1 < G.nodes.length := by rw [h1.len]; exact hk
    refine ⟨sync_put h1 hx (fun _ => t2), fun j hj hjx => ?_, fun j hj hjx => ?_, fun j hj hjx => ?_, fun j hj hjx hkj => ?_⟩
    · by_cases hjk : j = k + 1
      · subst hjk; rw [node_put_self hl]; exact hpk
      · rw [node_put_ne hjk]; exact h2 j hj hjx
    · by_cases hjk : j = k + 1
      · subst hjk; rw [node_put_self hl]; exact h3.role _ hj hjx
      · rw [node_put_ne hjk]; exact h3.role j hj hjx
    · by_cases hjk : j = k + 1
      · subst hjk; rw [node_put_self hl]; exact h3.leads _ hj hjx
      · rw [node_put_ne hjk]; exact h3.leads j hj hjx
    · rw [node_put_ne (by omega)]; exact h3.el j hj hjx (by omega)

theorem sync_rounds (ho : SyOk n 0 T L c) (hn : 1 ≤ n) (h : Sync n 0 T L c g) (hp : Pats n g) : ∀ k, Sync n 0 T L c (g.rounds n k) ∧ Pats n (g.rounds n k) := by
  intro k
  induction k with
  | zero => exact ⟨h, hp⟩
  | succ k ih =>
    obtain ⟨h1, h2, _⟩ := sync_round ho ih.1 ih.2 (n - 1) (by omega)
    rw [show n - 1 + 1 = n by omega] at h1 h2
    exact ⟨h1, h2⟩

theorem sync_rounds_calm (ho : SyOk n 0 T L c) (hn : 1 ≤ n) (h : Sync n 0 T L c g) (hp : Pats n g) (k : Nat) : Sync n 0 T L c (g.rounds n (k + 1)) ∧ Calm n n (g.rounds n (k + 1)) := by
  obtain ⟨h1, h2⟩ := sync_rounds ho hn h hp k
  obtain ⟨h3, _, h4⟩ := sync_round ho h1 h2 (n - 1) (by omega)
  rw [show n - 1 + 1 = n by omega] at h3 h4
  exact ⟨h3, h4⟩

/-- One that may follow ticks: it stands for nothing. -/
theorem fol_tick {j : Nat} {s : Nd} (h2 : 2 ≤ n) (hj : j < 7) (h : Fol n T L c j s) : Fol n T L c j s.tick.1 ∧ s.tick.1.pat = s.pat ∧ ∀ m ∈ s.tick.2, m.kind = 0 := by
  have hone : ∀ t : Nd, t.id = s.id → t.n = s.n → ¬ t.maj (cnt (upd none7 t.id true)) = true := by
    intro t h3 h4
    rw [h3, h.fid, cnt1 _ hj]
    unfold Nd.maj
    rw [h4, h.fn]
    simp; omega
  unfold Nd.tick
  rw [if_neg h.role]
  split
  · exact ⟨⟨h.fid, h.fn, h.term, h.role, h.log, h.com⟩, rfl, fun m hm => by cases hm⟩
  · unfold Nd.ask
    rw [if_neg (show ¬ (s.tickS.campaign 1).maj (cnt (s.tickS.campaign 1).gr) = true from hone (s.tickS.campaign 1) rfl rfl)]
    refine ⟨⟨h.fid, h.fn, h.term, by show ¬ (1 : Int) = 3; decide, h.log, h.com⟩, rfl, fun m hm => ?_⟩
    obtain ⟨i, _, rfl⟩ := List.mem_map.1 hm
    rfl

theorem sync_solo {i : Nat} (h2 : 2 ≤ n) (h7 : n ≤ 7) (hi : i < n) (hi0 : i ≠ 0) (h : Sync n 0 T L c g) (hp : Pats n g) : ∀ k, Sync n 0 T L c (g.solo i k) ∧ Pats n (g.solo i k) ∧ (g.solo i k).node 0 = g.node 0 := by
  intro k
  induction k with
  | zero => exact ⟨h, hp, rfl⟩
  | succ k ih =>
    obtain ⟨h1, h3, h4⟩ := ih
    obtain ⟨t1, t2, _⟩ := fol_tick h2 (by omega) (h1.fol i hi hi0)
    show Sync n 0 T L c ((g.solo i k).put i _) ∧ Pats n ((g.solo i k).put i _) ∧ ((g.solo i k).put i _).node 0 = _
    refine ⟨sync_put h1 hi0 (fun _ => t1), fun j hj hjx => ?_, by rw [node_put_ne (fun hx => hi0 hx.symm)]; exact h4⟩
    by_cases hji : j = i
    · subst hji
      rw [node_put_self (by rw [h1.len]; exact hi), t2]; exact h3 _ hj hjx
    · rw [node_put_ne hji]; exact h3 j hj hjx

end

/-- What Quiet asks of n nodes. -/
structure QuietGood (n : Nat) : Prop where
  hd : ((Gp.start n 40).headTo n).1 = 0
  still : ∀ i k : Nat, i < n → i ≠ 0 → ((Gp.start n 40).solo i k).node 0 = (Gp.start n 40).node 0
  term : ∀ i k : Nat, i < n → i ≠ 0 → (((Gp.start n 40).solo i k).node i).term = ((Gp.start n 40).node 0).term
  asks : ∀ i k : Nat, i < n → i ≠ 0 → ∀ m ∈ (((Gp.start n 40).solo i k).node i).tick.2, m.kind = 0
  back : ∀ i k : Nat, i < n → i ≠ 0 → ((((Gp.start n 40).solo i k).rounds n 3).node i).role = 0 ∧ ((((Gp.start n 40).solo i k).rounds n 3).node i).leads = 0
  head : ∀ i k : Nat, i < n → i ≠ 0 → ((((Gp.start n 40).solo i k).rounds n 3).node 0).role = 3 ∧ ((((Gp.start n 40).solo i k).rounds n 3).node 0).term = ((Gp.start n 40).node 0).term

theorem rounds_add (n : Nat) (g : Gp) (a b : Nat) : g.rounds n (a + b) = (g.rounds n a).rounds n b := by
  induction b with
  | zero => rfl
  | succ b ih => show (g.rounds n (a + b)).roundTo n = ((g.rounds n a).rounds n b).roundTo n; rw [ih]

theorem sync_head {n : Nat} {T : Int} {L : List Ent} {c : Nat} {g : Gp} (ho : SyOk n 0 T L c) (h : Sync n 0 T L c g) : ∀ k, k < n → g.headTo (k + 1) = (0, T) := by
  intro k
  induction k with
  | zero =>
    intro _
    show (if (g.node 0).role = 3 ∧ (0 : Int) < (g.node 0).term then (((0 : Nat) : Int), (g.node 0).term) else _) = _
    have := ho.t0
    rw [if_pos ⟨h.ldr.role, by rw [h.ldr.term]; omega⟩, h.ldr.term]; rfl
  | succ k ih =>
    intro hk
    show (if (g.node (k + 1)).role = 3 ∧ _ then _ else g.headTo (k + 1)) = _
    rw [if_neg (fun hx => (h.fol (k + 1) hk (by omega)).role hx.1)]
    exact ih (by omega)

def patsB (n : Nat) : Bool := Gp.stills 40 n ((Gp.first n).patTo n) 10 && (List.range n).all fun j => decide (j = 0) || decide (2 ≤ ((Gp.roundsF 40 n ((Gp.first n).patTo n) 10).node j).pat)
theorem pats3 : patsB 3 = true := by decide +kernel
theorem pats4 : patsB 4 = true := by decide +kernel
theorem pats5 : patsB 5 = true := by decide +kernel
theorem pats6 : patsB 6 = true := by decide +kernel
theorem pats7 : patsB 7 = true := by decide +kernel

theorem quiet_of {n : Nat} (h3 : 3 ≤ n) (h7 : n ≤ 7) (h : startB n = true) (hp : patsB n = true) : QuietGood n := by
  obtain ⟨hs, _, _⟩ := start_sync h
  have ho := l1_ok (n := n) (by omega) h7
  have h5 : Gp.start n 10 = Gp.roundsF 40 n ((Gp.first n).patTo n) 10 := by
    simp only [startB, Bool.and_eq_true] at h
    exact roundsF_eq (by decide) 10 h.1
  have hP : Pats n (Gp.start n 10) := by
    intro j hj hx
    simp only [patsB, Bool.and_eq_true, List.all_eq_true, List.mem_range, Bool.or_eq_true, decide_eq_true_eq] at hp
    rw [h5]
    rcases hp.2 j hj with h9 | h9
    · exact absurd h9 hx
    · exact h9
  obtain ⟨hs4, hP4⟩ := sync_rounds ho (by omega) hs hP 30
  have h40 : (Gp.start n 10).rounds n 30 = Gp.start n 40 := (rounds_add n _ 10 30).symm
  rw [h40] at hs4 hP4
  have hso := fun i k (hi : i < n) (hi0 : i ≠ 0) => sync_solo (i := i) (by omega) h7 hi hi0 hs4 hP4 k
  have hba := fun i k (hi : i < n) (hi0 : i ≠ 0) => sync_rounds_calm ho (by omega) (hso i k hi hi0).1 (hso i k hi hi0).2.1 2
  refine ⟨?_, fun i k hi hi0 => (hso i k hi hi0).2.2, fun i k hi hi0 => ?_, fun i k hi hi0 => ?_, fun i k hi hi0 => ⟨(hba i k hi hi0).2.role i hi hi0, (hba i k hi hi0).2.leads i hi hi0⟩, fun i k hi hi0 => ⟨(hba i k hi hi0).1.ldr.role, ?_⟩⟩
  · have h9 := sync_head ho hs4 (n - 1) (by omega)
    rw [show n - 1 + 1 = n by omega] at h9
    rw [h9]
  · rw [((hso i k hi hi0).1.fol i hi hi0).term, hs4.ldr.term]
  · exact (fol_tick (by omega) (by omega) ((hso i k hi hi0).1.fol i hi hi0)).2.2
  · rw [(hba i k hi hi0).1.ldr.term, hs4.ldr.term]

theorem quiet_all : ∀ n, 3 ≤ n → n ≤ 7 → QuietGood n := by
  intro n h3 h7
  rcases (by omega : n = 3 ∨ n = 4 ∨ n = 5 ∨ n = 6 ∨ n = 7) with rfl | rfl | rfl | rfl | rfl
  · exact quiet_of h3 h7 start3 pats3
  · exact quiet_of h3 h7 start4 pats4
  · exact quiet_of h3 h7 start5 pats5
  · exact quiet_of h3 h7 start6 pats6
  · exact quiet_of h3 h7 start7 pats7

end Go.Proofs.Yteiecbkfganhnaa
