/- A node by the document, as plain data: no program is named here; What holds of every node: plain data; strings.Clone, by the library's contract laid at this program's numbers; The lock's functions and types, by this program's numbers; The program's own functions: what is right, copies; copyEntries: a list of its own; The program's node as it lies in memory; The program's small functions on a node; The program's small functions on a node: tests; The program's node: campaign, others; The program's node: others; Messages as they lie in memory; The book's messages: how they lie in memory, those that wait and those that are marked; The program's node: send. -/
import Derived.Test.YteiecbkfganhnaaGreatKSettle
import Derived.Shelf.LaysM
import Derived.Shelf.Strconv.Clone
import Derived.Test.YteiecbkfganhnaaGreatProg
import Derived.Conc.MuLone
import Derived.KernelRfl
import Derived.Deep.RegionHeld3
import Derived.Deep.RegionLaw
import Derived.Deep.DeepCutAuto
import Derived.Defers
import Derived.RegionTactic
import Derived.BigRegion

namespace Go.Proofs.YteiecbkfganhnaaGreat

structure Msg where
  kind : Int
  src : Int
  dst : Int
  term : Int
  index : Int
  logTerm : Int
  commit : Int
  ents : List Ent
  granted : Bool

structure Nd where
  id : Nat
  n : Nat
  term : Int
  vote : Int
  log : List Ent
  role : Int
  leads : Int
  commit : Nat
  elapsed : Int
  pat : Int
  gr : Nat → Bool
  nx : Nat → Nat
  mt : Nat → Nat
  hd : Nat → Bool

def upd {α : Type} (g : Nat → α) (i : Nat) (v : α) : Nat → α := fun k => if k = i then v else g k

def none7 : Nat → Bool := fun _ => false

def b1 (b : Bool) : Nat := if b = true then 1 else 0

def cntTo (g : Nat → Bool) : Nat → Nat
  | 0 => 0
  | k + 1 => cntTo g k + b1 (g k)

def cnt (g : Nat → Bool) : Nat := cntTo g 7

theorem cntTo_le (g : Nat → Bool) (k : Nat) : cntTo g k ≤ k := by
  induction k with
  | zero => exact Nat.le_refl _
  | succ k ih => simp only [cntTo, b1]; split <;> omega

namespace Nd

def made (id n : Nat) (term vote : Int) (log : List Ent) : Nd :=
  { id := id, n := n, term := term, vote := vote, log := log, role := 0, leads := -1, commit := 0, elapsed := 0, pat := 10, gr := none7, nx := fun _ => 0, mt := fun _ => 0, hd := none7 }

def last (s : Nd) : Nat := s.log.length

def termAt (l : List Ent) (k : Nat) : Int := if k = 0 then 0 else match l[k - 1]? with | some e => e.1 | none => 0

def termOf (s : Nd) (k : Nat) : Int := termAt s.log k

def maj (s : Nd) (c : Nat) : Bool := decide (s.n / 2 < c)

def others (s : Nd) : List Nat := (List.range s.n).filter fun i => i ≠ s.id

def knows (s : Nd) : Bool := decide (s.leads ≠ -1) && decide (s.elapsed < s.pat)

def asGood (s : Nd) (m : Msg) : Bool := decide (s.termOf s.last < m.logTerm) || (decide (m.logTerm = s.termOf s.last) && decide ((s.last : Int) ≤ m.index))

def follow (s : Nd) (t l : Int) : Nd := if s.term < t then { s with role := 0, leads := l, term := t, vote := -1 } else { s with role := 0, leads := l }

def campaign (s : Nd) (r : Int) : Nd := { s with role := r, leads := -1, elapsed := 0, gr := upd none7 s.id true }

def request (s : Nd) (kind term : Int) : List Msg :=
  s.others.map fun (i : Nat) => { kind := kind, src := s.id, dst := i, term := term, index := s.last, logTerm := s.termOf s.last, commit := 0, ents := [], granted := false }

def appendTo (s : Nd) (i : Nat) : Msg :=
  { kind := 4, src := s.id, dst := i, term := s.term, index := (s.nx i : Int) - 1, logTerm := s.termOf (s.nx i - 1), commit := s.commit, ents := (s.log.drop (s.nx i - 1)).take 3, granted := false }

def appends (s : Nd) : List Msg := s.others.map s.appendTo

def have_ (s : Nd) (k : Nat) : Nat := cntTo (fun i => decide (k ≤ s.mt i)) s.n

def countFrom (s : Nd) : Nat → Nat
  | 0 => s.commit
  | k + 1 => if k + 1 ≤ s.commit then s.commit else if s.maj (s.have_ (k + 1)) = true ∧ s.termOf (k + 1) = s.term then k + 1 else s.countFrom k

def count (s : Nd) : Nd := { s with commit := s.countFrom s.last }

def leadA (s : Nd) : Nd := { s with role := 3, leads := s.id, elapsed := 0, hd := none7, nx := fun i => if i < s.n then s.last + 1 else s.nx i, mt := fun i => if i < s.n then 0 else s.mt i }

def leadB (s : Nd) : Nd := if s.last < 60 then { s with log := s.log ++ [(s.term, ⟨#[]⟩)] } else s

def leadC (s : Nd) : Nd := { s with mt := upd s.mt s.id s.last }

def leadS (s : Nd) : Nd := s.leadA.leadB.leadC.count

def lead (s : Nd) : Nd × List Msg := (s.leadS, s.leadS.appends)

def standS (s : Nd) : Nd := campaign { s with term := s.term + 1, vote := s.id } 2

def stand (s : Nd) : Nd × List Msg := if s.standS.maj (cnt s.standS.gr) = true then s.standS.lead else (s.standS, s.standS.request 2 s.standS.term)

def ask (s : Nd) : Nd × List Msg := if (s.campaign 1).maj (cnt (s.campaign 1).gr) = true then (s.campaign 1).stand else (s.campaign 1, (s.campaign 1).request 0 (s.term + 1))

def tickLeader (s : Nd) : Nd × List Msg :=
  if s.pat ≤ s.elapsed then
    if s.maj (cnt (upd s.hd s.id true)) = true then ({ s with elapsed := 0, hd := none7 }, ({ s with elapsed := 0, hd := none7 } : Nd).appends)
    else (({ s with elapsed := 0 } : Nd).follow s.term (-1), [])
  else (s, s.appends)

def tickS (s : Nd) : Nd := { s with elapsed := s.elapsed + 1 }

def tick (s : Nd) : Nd × List Msg :=
  if s.role = 3 then s.tickS.tickLeader
  else if s.elapsed + 1 < s.pat ∨ 1000000 ≤ s.term then (s.tickS, []) else s.tickS.ask

def reply (s : Nd) (kind : Int) (dest : Int) (term index : Int) (granted : Bool) : Msg :=
  { kind := kind, src := s.id, dst := dest, term := term, index := index, logTerm := 0, commit := 0, ents := [], granted := granted }

def stepAsk (s : Nd) (m : Msg) : Nd × List Msg :=
  if s.term < m.term ∧ s.asGood m = true ∧ s.knows = false then (s, [s.reply 1 m.src m.term 0 true])
  else if s.term = 0 then (s, []) else (s, [s.reply 1 m.src s.term 0 false])

def addGrant (s : Nd) (i : Nat) : Nd := { s with gr := upd s.gr i true }

def stepAskReply (s : Nd) (m : Msg) : Nd × List Msg :=
  if m.granted = false then (if s.term < m.term then s.follow m.term (-1) else s, [])
  else if s.role = 1 ∧ m.term = s.term + 1 then
    if (s.addGrant m.src.toNat).maj (cnt (s.addGrant m.src.toNat).gr) = true then (s.addGrant m.src.toNat).stand else (s.addGrant m.src.toNat, [])
  else (s, [])

def voteS (s : Nd) (m : Msg) : Nd := if s.term < m.term then s.follow m.term (-1) else s

def votes (s : Nd) (m : Msg) : Bool := decide (m.term = s.term) && (decide (s.role = 0) && (decide (s.vote = -1) || decide (s.vote = m.src))) && s.asGood m

def stepVote (s : Nd) (m : Msg) : Nd × List Msg :=
  if s.term < m.term ∧ s.knows = true then (s, [])
  else (if (s.voteS m).votes m = true then { s.voteS m with vote := m.src, elapsed := 0 } else s.voteS m, [(s.voteS m).reply 3 m.src (s.voteS m).term 0 ((s.voteS m).votes m)])

def stepVoteReply (s : Nd) (m : Msg) : Nd × List Msg :=
  if s.term < m.term then (s.follow m.term (-1), [])
  else if m.granted = true ∧ s.role = 2 ∧ m.term = s.term then
    if (s.addGrant m.src.toNat).maj (cnt (s.addGrant m.src.toNat).gr) = true then (s.addGrant m.src.toNat).lead else (s.addGrant m.src.toNat, [])
  else (s, [])

/-- Does what a message tells leave what is committed? -/
def keeps (l : List Ent) (commit at_ : Nat) : List Ent → Bool
  | [] => true
  | e :: es => (decide (commit ≤ at_) || decide (l[at_]? = some e)) && keeps l commit (at_ + 1) es

/-- The log behind an Append. -/
def takes (l : List Ent) (at_ : Nat) : List Ent → List Ent
  | [] => l
  | e :: es => if l.length ≤ at_ ∨ termAt l (at_ + 1) ≠ e.1 then l.take at_ ++ e :: es else takes l (at_ + 1) es

def appS (s : Nd) (m : Msg) : Nd := { s.follow m.term m.src with elapsed := 0 }

def stepAppend (s : Nd) (m : Msg) : Nd × List Msg :=
  if m.term < s.term then (s, [s.reply 5 m.src s.term 0 false])
  else if m.term = s.term ∧ s.role = 3 then (s, [])
  else if (s.last : Int) < m.index ∨ s.termOf m.index.toNat ≠ m.logTerm then (s.appS m, [(s.appS m).reply 5 m.src (s.appS m).term (min (s.last : Int) (max 0 (m.index - 1))) false])
  else if 60 < m.index.toNat + m.ents.length ∨ keeps s.log s.commit m.index.toNat m.ents = false then (s.appS m, [])
  else ({ s.appS m with log := takes s.log m.index.toNat m.ents, commit := max s.commit (min m.commit.toNat (m.index.toNat + m.ents.length)) },
    [(s.appS m).reply 5 m.src (s.appS m).term ((m.index.toNat + m.ents.length : Nat) : Int) true])

end Nd

end Go.Proofs.YteiecbkfganhnaaGreat

namespace Go.Proofs.YteiecbkfganhnaaGreat

theorem okE_cons (e : Ent) (es : List Ent) (low high : Int) : okE (e :: es) low high = true ↔ low ≤ e.1 ∧ e.1 ≤ high ∧ e.2.size ≤ 20 ∧ okE es e.1 high = true := by
  simp only [okE]
  split
  · rename_i h
    constructor
    · intro h2; cases h2
    · rintro ⟨a, b, c, _⟩; omega
  · rename_i h
    constructor
    · intro h2; exact ⟨by omega, by omega, by omega, h2⟩
    · rintro ⟨_, _, _, d⟩; exact d

theorem okE_high {es : List Ent} {low a b : Int} (h : okE es low a = true) (hab : a ≤ b) : okE es low b = true := by
  induction es generalizing low with
  | nil => rfl
  | cons e es ih =>
    rw [okE_cons] at h ⊢
    exact ⟨h.1, by omega, h.2.2.1, ih h.2.2.2⟩

theorem okE_low {es : List Ent} {a b high : Int} (h : okE es a high = true) (hab : b ≤ a) : okE es b high = true := by
  cases es with
  | nil => rfl
  | cons e es =>
    rw [okE_cons] at h ⊢
    exact ⟨by omega, h.2⟩

theorem okE_get {es : List Ent} {low high : Int} (h : okE es low high = true) (k : Nat) (hk : k < es.length) : low ≤ es[k].1 ∧ es[k].1 ≤ high ∧ es[k].2.size ≤ 20 := by
  induction es generalizing low k with
  | nil => simp at hk
  | cons e es ih =>
    rw [okE_cons] at h
    cases k with
    | zero => exact ⟨h.1, h.2.1, h.2.2.1⟩
    | succ k =>
      have := ih h.2.2.2 k (by simpa using hk)
      simp only [List.getElem_cons_succ]
      exact ⟨by omega, this.2⟩

theorem okE_rise {es : List Ent} {low high : Int} (h : okE es low high = true) (j k : Nat) (hjk : j ≤ k) (hk : k < es.length) : es[j].1 ≤ es[k].1 := by
  induction es generalizing low j k with
  | nil => simp at hk
  | cons e es ih =>
    rw [okE_cons] at h
    cases k with
    | zero => have : j = 0 := by omega
              subst this; exact Int.le_refl _
    | succ k =>
      cases j with
      | zero => exact (okE_get h.2.2.2 k (by simpa using hk)).1
      | succ j => exact ih h.2.2.2 j k (by omega) (by simpa using hk)

theorem okE_append {a b : List Ent} {low mid high : Int} (ha : okE a low mid = true) (hb : okE b mid high = true) (hm : low ≤ mid) (hh : mid ≤ high) : okE (a ++ b) low high = true := by
  induction a generalizing low with
  | nil => exact okE_low hb hm
  | cons e a ih =>
    rw [okE_cons] at ha
    rw [List.cons_append, okE_cons]
    exact ⟨ha.1, by omega, ha.2.2.1, ih ha.2.2.2 ha.2.1⟩

theorem okE_sizes {es : List Ent} {low high : Int} (h : okE es low high = true) : ∀ e ∈ es, e.2.size ≤ 20 := by
  intro e he
  obtain ⟨k, hk, rfl⟩ := List.getElem_of_mem he
  exact (okE_get h k hk).2.2

theorem termAt_get {l : List Ent} {k : Nat} (hk : k < l.length) : Nd.termAt l (k + 1) = l[k].1 := by
  simp [Nd.termAt, hk]

/-- Entries of a node's own term lie at the end of its log. -/
def OwnLast (s : Nd) : Prop := ∀ k, k ≤ s.last → s.termOf k ≠ s.term → ∀ j, 1 ≤ j → j ≤ k → s.termOf j ≠ s.term

theorem ownLast_of {s : Nd} (h : okE s.log 1 s.term = true) : OwnLast s := by
  intro k hk ht j hj hjk he
  obtain ⟨a, rfl⟩ : ∃ a, j = a + 1 := ⟨j - 1, by omega⟩
  obtain ⟨b, rfl⟩ : ∃ b, k = b + 1 := ⟨k - 1, by omega⟩
  have hb : b < s.log.length := hk
  have ha : a < s.log.length := by omega
  unfold Nd.termOf at ht he
  rw [termAt_get hb] at ht
  rw [termAt_get ha] at he
  have h1 := okE_rise h a b (by omega) hb
  have h2 := (okE_get h b hb).2.1
  omega

/-- What a leader's numbers must be for an Append to be sent. -/
structure Leads (s : Nd) : Prop where
  last : s.last ≤ 60
  pos : 0 < s.last
  sz : ∀ e ∈ s.log, e.2.size ≤ 20
  lo : ∀ i, i < s.n → 1 ≤ s.nx i
  hi : ∀ i, i < s.n → s.nx i ≤ s.last + 1
  mm : ∀ i, i < s.n → s.mt i ≤ s.last

/-- What holds of every node. -/
structure Ok (s : Nd) : Prop where
  n1 : 1 ≤ s.n
  n7 : s.n ≤ 7
  id : s.id < s.n
  t0 : 0 ≤ s.term
  t1 : s.term ≤ 1000000
  log : okE s.log 1 s.term = true
  len : s.last ≤ 60
  com : s.commit ≤ s.last
  lead : s.role = 3 → Leads s
  e0 : 0 ≤ s.elapsed
  p0 : 1 ≤ s.pat
  p1 : s.pat ≤ 40
  g7 : ∀ i, s.n ≤ i → s.gr i = false
  h7 : ∀ i, s.n ≤ i → s.hd i = false
  l0 : -1 ≤ s.leads
  v0 : -1 ≤ s.vote
  v1 : s.vote < s.n

theorem countFrom_bound (s : Nd) (k : Nat) : s.countFrom k ≤ max s.commit k := by
  induction k with
  | zero => simp [Nd.countFrom]
  | succ k ih =>
    simp only [Nd.countFrom]
    split
    · omega
    · split
      · omega
      · omega

theorem upd_over {n j i : Nat} {g : Nat → Bool} {b : Bool} (hg : ∀ i, n ≤ i → g i = false) (hj : j < n) (hi : n ≤ i) : upd g j b i = false := by
  unfold upd
  rw [if_neg (by omega)]
  exact hg i hi

theorem leadB_facts {s : Nd} (h : okE s.log 1 s.term = true) (hl : s.last ≤ 60) (ht : 1 ≤ s.term) : okE s.leadA.leadB.log 1 s.term = true ∧ s.leadA.leadB.last ≤ 60 ∧ 0 < s.leadA.leadB.last ∧ s.last ≤ s.leadA.leadB.last ∧ s.leadA.leadB.term = s.term ∧ s.leadA.leadB.n = s.n ∧ s.leadA.leadB.id = s.id ∧ s.leadA.leadB.nx = s.leadA.nx ∧ s.leadA.leadB.role = 3 ∧ s.leadA.leadB.elapsed = 0 ∧ s.leadA.leadB.pat = s.pat ∧ s.leadA.leadB.commit = s.commit := by
  unfold Nd.leadB
  by_cases hc : s.leadA.last < 60
  · rw [if_pos hc]
    have hc' : s.log.length < 60 := hc
    refine ⟨?_, ?_, ?_, ?_, rfl, rfl, rfl, rfl, rfl, rfl, rfl, rfl⟩
    · exact okE_append h (by rw [okE_cons]; exact ⟨Int.le_refl _, Int.le_refl _, (by show (0 : Nat) ≤ 20; decide), rfl⟩) ht (Int.le_refl _)
    · show (s.log ++ [((s.term, ⟨#[]⟩) : Ent)]).length ≤ 60
      simp; omega
    · show 0 < (s.log ++ [((s.term, ⟨#[]⟩) : Ent)]).length
      simp
    · show s.log.length ≤ (s.log ++ [((s.term, ⟨#[]⟩) : Ent)]).length
      simp
  · rw [if_neg hc]
    have hc' : ¬ s.log.length < 60 := hc
    refine ⟨h, hl, ?_, Nat.le_refl _, rfl, rfl, rfl, rfl, rfl, rfl, rfl, rfl⟩
    show 0 < s.log.length
    omega

theorem lead_own {s : Nd} (h : okE s.log 1 s.term = true) (hl : s.last ≤ 60) (ht : 1 ≤ s.term) : OwnLast s.leadA.leadB.leadC := by
  have hf := leadB_facts h hl ht
  refine ownLast_of ?_
  show okE s.leadA.leadB.log 1 s.leadA.leadB.term = true
  rw [hf.2.2.2.2.1]
  exact hf.1

theorem lead_leads {s : Nd} (h : okE s.log 1 s.term = true) (hl : s.last ≤ 60) (ht : 1 ≤ s.term) : Leads s.leadS := by
  have hf := leadB_facts h hl ht
  refine ⟨hf.2.1, hf.2.2.1, okE_sizes hf.1, fun i hi => ?_, fun i hi => ?_, fun i hi => ?_⟩
  · have hi' : i < s.n := by have h1 : s.leadS.n = s.leadA.leadB.n := rfl; omega
    show 1 ≤ s.leadA.leadB.nx i
    rw [hf.2.2.2.2.2.2.2.1]
    simp [Nd.leadA, hi']
  · have hi' : i < s.n := by have h1 : s.leadS.n = s.leadA.leadB.n := rfl; omega
    show s.leadA.leadB.nx i ≤ s.leadA.leadB.last + 1
    rw [hf.2.2.2.2.2.2.2.1]
    have : s.leadA.nx i = s.last + 1 := by simp [Nd.leadA, hi']
    omega
  · have hi' : i < s.n := by have h1 : s.leadS.n = s.leadA.leadB.n := rfl; omega
    have hmt : s.leadA.leadB.mt = s.leadA.mt := by unfold Nd.leadB; split <;> rfl
    show upd s.leadA.leadB.mt s.leadA.leadB.id s.leadA.leadB.last i ≤ s.leadA.leadB.last
    unfold upd
    split
    · exact Nat.le_refl _
    · rw [hmt]
      simp [Nd.leadA, hi']

theorem Ok.leadS {s : Nd} (h : Ok s) (ht : 1 ≤ s.term) : Ok s.leadS := by
  have hf := leadB_facts h.log h.len ht
  have hterm : s.leadS.term = s.term := hf.2.2.2.2.1
  have hn : s.leadS.n = s.n := hf.2.2.2.2.2.1
  have hid : s.leadS.id = s.id := hf.2.2.2.2.2.2.1
  refine { n1 := by rw [hn]; exact h.n1, n7 := by rw [hn]; exact h.n7, id := by rw [hid, hn]; exact h.id, t0 := by rw [hterm]; exact h.t0, t1 := by rw [hterm]; exact h.t1, log := by rw [hterm]; exact hf.1, len := hf.2.1, com := ?_, lead := fun _ => lead_leads h.log h.len ht, e0 := ?_, p0 := ?_, p1 := ?_, g7 := ?_, h7 := ?_, l0 := ?_, v0 := ?_, v1 := ?_ }
  · have h1 := countFrom_bound s.leadA.leadB.leadC s.leadA.leadB.leadC.last
    have h2 : s.leadA.leadB.leadC.commit = s.commit := hf.2.2.2.2.2.2.2.2.2.2.2
    have h3 : s.leadA.leadB.leadC.last = s.leadA.leadB.last := rfl
    have h4 := h.com
    have h5 := hf.2.2.2.1
    show s.leadA.leadB.leadC.countFrom s.leadA.leadB.leadC.last ≤ s.leadA.leadB.last
    omega
  · have : s.leadS.elapsed = 0 := hf.2.2.2.2.2.2.2.2.2.1
    omega
  · have : s.leadS.pat = s.pat := hf.2.2.2.2.2.2.2.2.2.2.1
    rw [this]; exact h.p0
  · have : s.leadS.pat = s.pat := hf.2.2.2.2.2.2.2.2.2.2.1
    rw [this]; exact h.p1
  · have h1 : s.leadS.gr = s.gr := by show s.leadA.leadB.gr = s.gr; unfold Nd.leadB; split <;> rfl
    rw [hn, h1]; exact h.g7
  · have h1 : s.leadS.hd = none7 := by show s.leadA.leadB.hd = none7; unfold Nd.leadB; split <;> rfl
    rw [h1]; exact fun _ _ => rfl
  · have h1 : s.leadS.leads = s.id := by show s.leadA.leadB.leads = s.id; unfold Nd.leadB; split <;> rfl
    rw [h1]; omega
  · have h1 : s.leadS.vote = s.vote := by show s.leadA.leadB.vote = s.vote; unfold Nd.leadB; split <;> rfl
    rw [h1]; exact h.v0
  · have h1 : s.leadS.vote = s.vote := by show s.leadA.leadB.vote = s.vote; unfold Nd.leadB; split <;> rfl
    rw [h1, hn]; exact h.v1

theorem Ok.follow {s : Nd} (h : Ok s) (t l : Int) (ht : t ≤ 1000000) (hl : -1 ≤ l) : Ok (s.follow t l) := by
  unfold Nd.follow
  split
  · rename_i hlt
    exact { h with t0 := by show 0 ≤ t; have := h.t0; omega, t1 := ht, log := okE_high h.log (Int.le_of_lt hlt), lead := fun hr => (by cases hr), l0 := hl, v0 := (by show (-1 : Int) ≤ -1; decide), v1 := (by show (-1 : Int) < (s.n : Int); omega) }
  · exact { h with lead := fun hr => (by cases hr), l0 := hl }

theorem Ok.campaign {s : Nd} (h : Ok s) (r : Int) (hr : r ≠ 3) : Ok (s.campaign r) :=
  { h with lead := fun h3 => absurd h3 hr, e0 := Int.le_refl _, g7 := fun _ hi => upd_over (fun _ _ => rfl) h.id hi, l0 := Int.le_refl _ }

theorem Ok.standS {s : Nd} (h : Ok s) (ht : s.term < 1000000) : Ok s.standS :=
  { h with t0 := by show 0 ≤ s.term + 1; have := h.t0; omega, t1 := by show s.term + 1 ≤ 1000000; omega, log := okE_high h.log (by show s.term ≤ s.term + 1; omega), lead := fun h3 => (by cases h3), e0 := Int.le_refl _, g7 := fun _ hi => upd_over (fun _ _ => rfl) h.id hi, l0 := Int.le_refl _, v0 := (by show (-1 : Int) ≤ (s.id : Int); omega), v1 := (by show (s.id : Int) < (s.n : Int); have := h.id; omega) }

theorem Ok.stand {s : Nd} (h : Ok s) (ht : s.term < 1000000) : Ok s.stand.1 := by
  unfold Nd.stand
  split
  · exact (h.standS ht).leadS (by show 1 ≤ s.term + 1; have := h.t0; omega)
  · exact h.standS ht

theorem Ok.ask {s : Nd} (h : Ok s) (ht : s.term < 1000000) : Ok s.ask.1 := by
  unfold Nd.ask
  split
  · exact (h.campaign 1 (by decide)).stand ht
  · exact h.campaign 1 (by decide)

theorem Ok.tickS {s : Nd} (h : Ok s) : Ok s.tickS := { h with lead := fun h3 => (by have := h.lead h3; exact ⟨this.last, this.pos, this.sz, this.lo, this.hi, this.mm⟩), e0 := by show 0 ≤ s.elapsed + 1; have := h.e0; omega }

theorem Ok.tick {s : Nd} (h : Ok s) : Ok s.tick.1 := by
  unfold Nd.tick
  split
  · rename_i hr
    unfold Nd.tickLeader
    split
    · split
      · exact { h with lead := fun _ => (by have := h.lead hr; exact ⟨this.last, this.pos, this.sz, this.lo, this.hi, this.mm⟩), e0 := Int.le_refl _, h7 := fun _ _ => rfl }
      · have h0 : Ok ({ s.tickS with elapsed := 0 } : Nd) := { h with lead := fun _ => (by have := h.lead hr; exact ⟨this.last, this.pos, this.sz, this.lo, this.hi, this.mm⟩), e0 := Int.le_refl _ }
        exact h0.follow _ _ h.t1 (by decide)
    · exact h.tickS
  · split
    · exact h.tickS
    · exact h.tickS.ask (by show s.term < 1000000; omega)

end Go.Proofs.YteiecbkfganhnaaGreat

namespace Go.Proofs.YteiecbkfganhnaaGreat

open Go.Shelf Go.RowKit

def laysClone_ren : Go.Shelf.Ren := ⟨fun | 316 => 89 | n => n, fun | 9 => 9 | 3 => 3 | 4 => 4 | 37 => 123 | 0 => 0 | 127 => 124 | 5 => 5 | n => n, fun | n => n⟩

theorem laysClone : Go.Proofs.LaysM.n316 Tryz.prog laysClone_ren := {
  mixed := by kernel_rfl
  f316 := Tryz.func89.trans (congrArg some (by kernel_rfl))
  t0 := Tryz.underlying0
  a0 := Tryz.isAgg0
  z0 := Tryz.sizeOf0
  v0 := Tryz.zeroValue0
  t3 := Tryz.underlying3
  a3 := Tryz.isAgg3
  z3 := Tryz.sizeOf3
  v3 := Tryz.zeroValue3
  t4 := Tryz.underlying4
  a4 := Tryz.isAgg4
  z4 := Tryz.sizeOf4
  v4 := Tryz.zeroValue4
  t9 := Tryz.underlying9
  a9 := Tryz.isAgg9
  z9 := Tryz.sizeOf9
  v9 := Tryz.zeroValue9
  t37 := Tryz.underlying123
  a37 := Tryz.isAgg123
  z37 := Tryz.sizeOf123
  v37 := Tryz.zeroValue123
  t127 := Tryz.underlying124
  a127 := Tryz.isAgg124
  z127 := Tryz.sizeOf124
  v127 := Tryz.zeroValue124
  t5 := Tryz.underlying5
  a5 := Tryz.isAgg5
  z5 := Tryz.sizeOf5
  v5 := Tryz.zeroValue5
  i0 := by kernel_rfl
  i3 := by kernel_rfl
  i4 := by kernel_rfl
  i5 := by kernel_rfl
  i9 := by kernel_rfl
  i37 := by kernel_rfl
  i127 := by kernel_rfl }

theorem stringsliteClone (s : ByteArray) (w : World) (hlim : s.size ≤ 281474976710656) :
    Calls Tryz.prog 89 #[.string s] w fun e w' => e = .returned (.string s) ∧ Below w.heap.size w w' := Any.stringslite_Clone laysClone s w hlim

end Go.Proofs.YteiecbkfganhnaaGreat

namespace Go.Proofs.YteiecbkfganhnaaGreat

abbrev muLink : Go.Conc.Locks.MuLink := { lock := 51, unlock := 52, ilock := 92, iunlock := 93, lockSlow := 127, unlockSlow := 130, disable := 123, enable := 125, acquire := 126, relMerge := 128, cas32 := 124, add32 := 129, tMutex := 75, tIMutex := 73, tPMutex := 113, tPIMutex := 125, tPI32 := 127, tUP := 129, tNoCopy := 70, tU32 := 71 }

theorem muLib : Go.Conc.Locks.MuLib Tryz.prog muLink :=
  ⟨Tryz.func51, Tryz.func52, Tryz.func92, Tryz.func93, Tryz.func123, Tryz.func125, Tryz.func126, Tryz.func128, Tryz.func124, Tryz.func129, Tryz.underlying73, Tryz.runUnderlying73, Tryz.sizeOf73, Tryz.isAgg73, Tryz.zeroValue73, Tryz.underlying75, Tryz.runUnderlying75, Tryz.sizeOf75, Tryz.isAgg75, Tryz.zeroValue75, Tryz.underlying113, Tryz.runUnderlying113, Tryz.sizeOf113, Tryz.isAgg113, Tryz.zeroValue113, Tryz.underlying125, Tryz.runUnderlying125, Tryz.sizeOf125, Tryz.isAgg125, Tryz.zeroValue125, Tryz.underlying127, Tryz.runUnderlying127, Tryz.sizeOf127, Tryz.isAgg127, Tryz.zeroValue127, Tryz.underlying129, Tryz.runUnderlying129, Tryz.sizeOf129, Tryz.isAgg129, Tryz.zeroValue129, Tryz.underlying70, Tryz.runUnderlying70, Tryz.sizeOf70, Tryz.isAgg70, Tryz.zeroValue70, Tryz.underlying21, Tryz.runUnderlying21, Tryz.sizeOf21, Tryz.isAgg21, Tryz.zeroValue21, (by kernel_rfl)⟩

end Go.Proofs.YteiecbkfganhnaaGreat

namespace Go.Proofs.YteiecbkfganhnaaGreat

open Go.RowKit

set_option maxRecDepth 100000 in
set_option maxHeartbeats 1000000 in
theorem soundNodes_yes (id n : Int) (w : World) (h1 : 1 ≤ n) (h2 : n ≤ 7) (h3 : 0 ≤ id) (h4 : id < n) :
    Calls Tryz.prog 21 #[.int .i64 id, .int .i64 n] w fun e w' => e = .returned (.bool true) ∧ w' = w := by
  have d1 : decide (1 ≤ n) = true := decide_eq_true h1
  have d2 : decide (n ≤ 7) = true := decide_eq_true h2
  have d3 : decide (0 ≤ id) = true := decide_eq_true h3
  have d4 : decide (id < n) = true := decide_eq_true h4
  go_enter Tryz.func21, Tryz.ntmps21
  go_wp2
  go_ret
  exact ⟨rfl, rfl⟩

set_option maxRecDepth 100000 in
set_option maxHeartbeats 1000000 in
theorem soundNodes_no (id n : Int) (w : World) (h : n < 1 ∨ 7 < n ∨ id < 0 ∨ n ≤ id) :
    Calls Tryz.prog 21 #[.int .i64 id, .int .i64 n] w fun e w' => e = .returned (.bool false) ∧ w' = w := by
  by_cases h1 : n < 1
  · have d1 : decide (1 ≤ n) = false := decide_eq_false (by omega)
    clear h
    go_enter Tryz.func21, Tryz.ntmps21
    go_wp2
    go_ret
    exact ⟨rfl, rfl⟩
  by_cases h2 : 7 < n
  · have d1 : decide (1 ≤ n) = true := decide_eq_true (by omega)
    have d2 : decide (n ≤ 7) = false := decide_eq_false (by omega)
    clear h
    go_enter Tryz.func21, Tryz.ntmps21
    go_wp2
    go_ret
    exact ⟨rfl, rfl⟩
  by_cases h3 : id < 0
  · have d1 : decide (1 ≤ n) = true := decide_eq_true (by omega)
    have d2 : decide (n ≤ 7) = true := decide_eq_true (by omega)
    have d3 : decide (0 ≤ id) = false := decide_eq_false (by omega)
    clear h
    go_enter Tryz.func21, Tryz.ntmps21
    go_wp2
    go_ret
    exact ⟨rfl, rfl⟩
  · have d1 : decide (1 ≤ n) = true := decide_eq_true (by omega)
    have d2 : decide (n ≤ 7) = true := decide_eq_true (by omega)
    have d3 : decide (0 ≤ id) = true := decide_eq_true (by omega)
    have d4 : decide (id < n) = false := decide_eq_false (by omega)
    clear h
    go_enter Tryz.func21, Tryz.ntmps21
    go_wp2
    go_ret
    exact ⟨rfl, rfl⟩

set_option maxRecDepth 100000 in
set_option maxHeartbeats 1000000 in
theorem soundEntries_any (v : Value) (es : List Ent) (low high : Int) (w : World) (hn : es.length < 4611686018427387904) (h : EntsIn w v es) :
    Calls Tryz.prog 39 #[v, .int .i64 low, .int .i64 high] w fun e w' => e = .returned (.bool (okE es low high)) ∧ Below w.heap.size w w' := by
  obtain ⟨ao, cap, rfl, _, ha⟩ := h
  have HA := hide ha
  clear ha
  go_enter Tryz.func39, Tryz.ntmps39
  go_wp2
  go_loopw [1, 11] (fun lo i wr => ∃ (k : Nat) (l : Int), k ≤ es.length ∧ i = .int .i64 k ∧ lo = .int .i64 l ∧ okE es low high = okE (es.drop k) l high ∧ Below w.heap.size w wr) (fun _ i _ => es.length - (intOf i).toNat)
  case atStart => exact ⟨0, low, Nat.zero_le _, rfl, rfl, rfl, Below.refl _ _⟩
  case round =>
    obtain ⟨k, l, hk, rfl, rfl, hok, hbw⟩ := hrel
    by_cases hlt : k < es.length
    · obtain ⟨b, off, rfl, a0', a1'⟩ := (unhide HA) k _ (show es[k]? = some es[k] by simp [hlt])
      have a0 := (hbw.cell (p := ⟨b, off + k * 2, none⟩) (block_lt_of_cell a0')).trans a0'
      have a1 := (hbw.cell (p := ⟨b, off + k * 2 + 1, none⟩) (block_lt_of_cell a1')).trans a1'
      have hbw2 := hide (hbw.alloc (o := .cells #[.int .i64 es[k].1, .string es[k].2] 66) hbw.size)
      clear a0' a1' hbw
      have i1 : (0 : Int) ≤ (k : Int) := by omega
      have i2 : (k : Int) < (es.length : Int) := by omega
      by_cases hbad : es[k].1 < l ∨ high < es[k].1 ∨ 20 < (es[k].2.size : Int)
      · have HK : Hid (okE es low high = false) := hok.trans (okE_bad hbad)
        clear hok
        generalize es[k].1 = t at *
        generalize es[k].2 = s at *
        by_cases h1 : t < l
        · clear hbad
          go_wp2
          go_ret
          exact ⟨by rw [unhide HK]; rfl, unhide hbw2⟩
        · by_cases h2 : high < t
          · clear hbad
            go_wp2
            go_ret
            exact ⟨by rw [unhide HK]; rfl, unhide hbw2⟩
          · have h3 : ¬ (s.size : Int) ≤ 20 := by omega
            clear hbad
            go_wp2
            go_ret
            exact ⟨by rw [unhide HK]; rfl, unhide hbw2⟩
      · have HK : Hid (okE es low high = okE (es.drop (k + 1)) es[k].1 high) := hok.trans (okE_good hbad)
        have h1 : ¬ es[k].1 < l := fun h => hbad (.inl h)
        have h2 : ¬ high < es[k].1 := fun h => hbad (.inr (.inl h))
        have h3 : (es[k].2.size : Int) ≤ 20 := by
          have : ¬ 20 < (es[k].2.size : Int) := fun h => hbad (.inr (.inr h))
          omega
        clear hok hbad
        generalize es[k].1 = t at *
        generalize es[k].2 = s at *
        go_wp2
        go_roundw
        case rel => exact ⟨k + 1, t, by omega, by go_num, rfl, unhide HK, unhide hbw2⟩
        case measure => simp [intOf]; omega
    · have hkn : k = es.length := by omega
      subst hkn
      have HK : Hid (okE es low high = true) := by show _ = _; rw [hok, List.drop_length]; rfl
      replace hbw := hide hbw
      clear hok
      go_wp2
      go_ret
      exact ⟨by rw [unhide HK]; rfl, unhide hbw⟩

theorem clone_any (s : ByteArray) (w : World) (hs : s.size ≤ 1000) :
    Calls Tryz.prog 40 #[.string s] w fun e w' => e = .returned (.string s) ∧ Below w.heap.size w w' := by
  go_enter Tryz.func40, Tryz.ntmps40
  go_wp2_with (go_at_call 89; refine (stringsliteClone s _ (by omega)).mono ?_; rintro e w1 ⟨rfl, hb⟩; replace hb := hide hb)
  go_ret
  exact ⟨rfl, unhide hb⟩

set_option maxRecDepth 100000 in
set_option maxHeartbeats 2000000 in
theorem soundSaved_any (term vote n : Int) (lv : Value) (es : List Ent) (w : World) (hn : es.length < 4611686018427387904) (hl : EntsIn w lv es) (b : Bool)
    (h : b = (decide (0 ≤ term) && decide (term ≤ 1000000) && decide (-1 ≤ vote) && decide (vote < n) && decide ((es.length : Int) ≤ 60) && okE es 1 term)) :
    Calls Tryz.prog 22 #[.agg #[.int .i64 term, .int .i64 vote, lv], .int .i64 n] w fun e w' => e = .returned (.bool b) ∧ Below w.heap.size w w' := by
  have HL := hide hl
  obtain ⟨ao, cap, rfl, hl1, hl2⟩ := hl
  clear hl1 hl2
  have H := hide h
  have HB0 := hide (below_alloc w (.cells #[.int .i64 term, .int .i64 vote, .slice ao es.length cap] 24))
  clear h
  go_enter Tryz.func22, Tryz.ntmps22
  go_wp2_with (go_at_call 39; refine (soundEntries_any _ es 1 term _ hn (by exact ents_below (unhide HL) (unhide HB0))).mono ?_; rintro e w1 ⟨rfl, hb⟩; replace hb := hide hb)
  · go_ret
    have hb2 : b = okE es 1 term := by
      rw [unhide H, decide_eq_true (by assumption), decide_eq_true (by assumption), decide_eq_true (by assumption), decide_eq_true (by assumption), decide_eq_true (by assumption)]
      simp
    exact ⟨by rw [hb2]; rfl, below_trans (unhide HB0) (unhide hb)⟩
  all_goals
    go_ret
    have hb2 : b = false := by
      rw [unhide H]
      simp only [Bool.and_eq_false_iff, decide_eq_false_iff_not]
      omega
    exact ⟨by rw [hb2]; rfl, unhide HB0⟩

theorem good_saved {term vote n : Int} {es : List Ent} (h : ¬ (term < 0 ∨ 1000000 < term ∨ vote < -1 ∨ n ≤ vote ∨ 60 < (es.length : Int) ∨ okE es 1 term = false)) :
    true = (decide (0 ≤ term) && decide (term ≤ 1000000) && decide (-1 ≤ vote) && decide (vote < n) && decide ((es.length : Int) ≤ 60) && okE es 1 term) := by
  have h6 : okE es 1 term = true := by
    cases hb : okE es 1 term with
    | true => rfl
    | false => exact absurd (.inr (.inr (.inr (.inr (.inr hb))))) h
  rw [h6, decide_eq_true (by omega), decide_eq_true (by omega), decide_eq_true (by omega), decide_eq_true (by omega), decide_eq_true (by omega)]
  rfl

theorem bad_saved {term vote n : Int} {es : List Ent} (h : term < 0 ∨ 1000000 < term ∨ vote < -1 ∨ n ≤ vote ∨ 60 < (es.length : Int) ∨ okE es 1 term = false) :
    false = (decide (0 ≤ term) && decide (term ≤ 1000000) && decide (-1 ≤ vote) && decide (vote < n) && decide ((es.length : Int) ≤ 60) && okE es 1 term) := by
  symm
  simp only [Bool.and_eq_false_iff, decide_eq_false_iff_not]
  rcases h with h | h | h | h | h | h
  · omega
  · omega
  · omega
  · omega
  · omega
  · exact .inr h

end Go.Proofs.YteiecbkfganhnaaGreat

namespace Go.Proofs.YteiecbkfganhnaaGreat

open Go.RowKit

theorem made_eC (n : Nat) : (madeCells #[.int .i64 0, .string ⟨#[]⟩] (n * 2)).toList = eC (List.replicate n (0, ⟨#[]⟩)) := by
  apply List.ext_getElem?
  intro i
  by_cases hi : i < n * 2
  · have hk : (List.replicate n ((0 : Int), (⟨#[]⟩ : ByteArray)))[i / 2]? = some (0, ⟨#[]⟩) := by rw [List.getElem?_replicate, if_pos (by omega)]
    have hg := eC_get _ _ _ hk
    rcases Nat.mod_two_eq_zero_or_one i with h0 | h0
    · have e1 : i / 2 * 2 = i := by omega
      rw [e1] at hg
      rw [hg.1]
      simp [madeCells, hi, h0]
    · have e1 : i / 2 * 2 + 1 = i := by omega
      rw [e1] at hg
      rw [hg.2]
      simp [madeCells, hi, h0]
  · rw [List.getElem?_eq_none (by simp [size_madeCells]; omega), List.getElem?_eq_none (by rw [eC_length]; simp; omega)]

theorem copy_set (es : List Ent) (k : Nat) (hk : k < es.length) (z : Ent) : (es.take k ++ List.replicate (es.length - k) z).set k es[k] = es.take (k + 1) ++ List.replicate (es.length - (k + 1)) z := by
  have hl : (es.take k).length = k := by simp; omega
  rw [List.set_append_right _ _ (by omega), hl, Nat.sub_self, show es.length - k = (es.length - (k + 1)) + 1 by omega, List.replicate_succ, List.set_cons_zero, List.take_succ_eq_append_getElem hk, List.append_assoc]
  rfl

theorem own_fresh {w : World} {base e size n cap B : Nat} {xs : List Value} (h : w.ownsRow base e size (.slice (some ⟨B, 0, none⟩) n cap) n xs) : w.ownsRow B e size (.slice (some ⟨B, 0, none⟩) n cap) n xs := by
  refine ⟨h.1, ?_⟩
  rcases h.2 with ⟨hv, _⟩ | ⟨g', cap', cur, hv, hg, r⟩
  · simp at hv
  · simp only [Value.slice.injEq, Option.some.injEq, Addr.mk.injEq, and_true, true_and] at hv
    obtain ⟨rfl, rfl⟩ := hv
    exact .inr ⟨B, cap, cur, rfl, Nat.le_refl _, r⟩

set_option maxRecDepth 100000 in
set_option maxHeartbeats 2000000 in
theorem copyEntries_any (v : Value) (es : List Ent) (w : World) (hn : es.length ≤ 60) (hs : ∀ e ∈ es, e.2.size ≤ 20) (h : EntsIn w v es) :
    Calls Tryz.prog 23 #[v] w fun e w' => ∃ v', e = .returned v' ∧ w'.ownsRow w.heap.size 66 2 v' es.length (eC es) ∧ Below w.heap.size w w' := by
  obtain ⟨ao, cap, rfl, hl1, ha⟩ := h
  have HA := hide ha
  have HSZ := hide hs
  clear ha hl1 hs
  obtain ⟨i0, hi, hz0, hz1, hz2⟩ := info_parts infoEntry
  go_enter Tryz.func23, Tryz.ntmps23
  go_wp2_with (at_make; go_must (refine wpList_make_full _ rfl (.tmp 7) (.tmp 7) 22 rfl w.heap.size 66 i0 _ 2 Tryz.underlying22 hi hz0 hz1 .i64 .i64 (es.length : Int) (es.length : Int) es.length rfl rfl rfl rfl (by rw [hz2]; omega) (by unfold maxLen; omega) (Nat.le_refl _) ?_))
  intro w1 hown1 hgrow1
  rw [made_eC] at hown1
  have hb1 : Below w.heap.size w w1 := (Below.refl _ _).grown hgrow1 (Nat.le_refl _) (by intro k hk; simp at hk)
  have HO : Hid (Own w1 (fun _ => (0, 0)) (0, 0) 66 2 (.slice (some ⟨w.heap.size, 0, none⟩) es.length es.length) es.length (eC (List.replicate es.length (0, ⟨#[]⟩)))) := ⟨owns_base hown1 (Nat.zero_le _), fun _ _ => rfl⟩
  have HB := hide hb1
  clear hown1 hgrow1 hb1
  go_wp2
  obtain ⟨ob, hob⟩ : ∃ ob, ob = w.heap.size := ⟨_, rfl⟩
  rw [← hob] at HO HB ⊢
  replace hob := hide hob
  go_loopw [11] (fun i wr => ∃ k : Nat, k ≤ es.length ∧ i = .int .i64 k ∧ Own wr (fun _ => (0, 0)) (0, 0) 66 2 (.slice (some ⟨ob, 0, none⟩) es.length es.length) es.length (eC (es.take k ++ List.replicate (es.length - k) (0, ⟨#[]⟩))) ∧ Below ob w wr) (fun i _ => es.length - (intOf i).toNat)
  case atStart => exact ⟨0, Nat.zero_le _, rfl, by simpa using unhide HO, unhide HB⟩
  case round =>
    obtain ⟨k, hk, rfl, ho, hb⟩ := hrel
    by_cases hlt : k < es.length
    · obtain ⟨b, off, rfl, a0', a1'⟩ := (unhide HA) k _ (show es[k]? = some es[k] by simp [hlt])
      have hsz : es[k].2.size ≤ 20 := (unhide HSZ) _ (List.getElem_mem hlt)
      have hobw := unhide hob
      have a0 := (hb.cell (p := ⟨b, off + k * 2, none⟩) (by rw [hobw]; exact block_lt_of_cell a0')).trans a0'
      have a1 := (hb.cell (p := ⟨b, off + k * 2 + 1, none⟩) (by rw [hobw]; exact block_lt_of_cell a1')).trans a1'
      obtain ⟨g', hg', tv, f0, f1, ⟨x0, k0⟩, ⟨x1, k1⟩⟩ := own_cells2 ho hlt
      have hgo : g' = ob := by simp at hg'; exact hg'.symm
      subst hgo
      have hobl : g' < wr.heap.size := block_lt_of_cell k0
      have i1 : (0 : Int) ≤ (k : Int) := by omega
      have i2 : (k : Int) < (es.length : Int) := by omega
      have HK := hide (copy_set es k hlt (0, ⟨#[]⟩))
      have HO1 := hide ho
      have HB1 := hide hb
      clear a0' a1' ho hb hg' tv hobw HO HB
      generalize es[k] = x at *
      obtain ⟨t, s⟩ := x
      simp only at a0 a1 hsz
      go_wp2_with fail
      have c0 : (wr.alloc (Obj.cells #[.int .i64 t, .string s] 66)).cell? ⟨wr.heap.size, 0, none⟩ = some (.int .i64 t) := cell_of_row _ _ 0 _ _ _ (heap_alloc_new wr _)
      have c1 : (wr.alloc (Obj.cells #[.int .i64 t, .string s] 66)).cell? ⟨wr.heap.size, 1, none⟩ = some (.string s) := cell_of_row _ _ 1 _ _ _ (heap_alloc_new wr _)
      have hoW : Own (wr.alloc (Obj.cells #[.int .i64 t, .string s] 66)) (fun _ => (0, 0)) (0, 0) 66 2 (.slice (some ⟨g', 0, none⟩) es.length es.length) es.length (eC (es.take k ++ List.replicate (es.length - k) (0, ⟨#[]⟩))) := ⟨(unhide HO1).1.alloc _, (unhide HO1).2⟩
      have hbW := (unhide HB1).alloc (Nat.le_of_lt hobl) (Obj.cells #[.int .i64 t, .string s] 66)
      have hEB : g' < wr.heap.size := hobl
      generalize wr.alloc (Obj.cells #[.int .i64 t, .string s] 66) = W at *
      have hne : ¬ g' = wr.heap.size := by omega
      generalize wr.heap.size = EB at *
      have HGW : Hid (g' ≤ W.drew.heap.size) := Nat.le_of_lt (Nat.lt_trans hEB (block_lt_of_cell (a := ⟨EB, 0, none⟩) c0))
      have HOW := hide hoW
      have HBW := hide hbW
      clear a0 a1 f0 f1 k0 k1 HO1 HB1 hoW hbW hobl
      go_region_held3 (fun w' => w'.cell? ⟨EB, 0, none⟩ = some (.int .i64 t) ∧ w'.cell? ⟨EB, 1, none⟩ = some (.string s)) (go_keep) (first | (go_at_call 40; refine (clone_any s W.drew (by omega)).mono ?_; rintro e w2 ⟨rfl, hb2⟩; have z0 : w2.cell? ⟨EB, 0, none⟩ = _ := (hb2.cell (p := ⟨EB, 0, none⟩) (block_lt_of_cell c0)).trans c0; have z1 : w2.cell? ⟨EB, 1, none⟩ = _ := (hb2.cell (p := ⟨EB, 1, none⟩) (block_lt_of_cell c1)).trans c1; have ho2 : Own w2 (fun _ => (0, 0)) (0, 0) 66 2 (.slice (some ⟨g', 0, none⟩) es.length es.length) es.length (eC (es.take k ++ List.replicate (es.length - k) (0, ⟨#[]⟩))) := (And.intro (owns_belowD (unhide HOW).1 hb2) (unhide HOW).2); obtain ⟨g2, hg2, tv2, f0, f1, ⟨x2, k0⟩, ⟨x3, k1⟩⟩ := own_cells2 ho2 hlt; have hgo2 : g2 = g' := (by simp at hg2; exact hg2.symm); subst hgo2; replace ho2 := hide ho2; have hb3 := hide ((unhide HBW).trans ((Below.undrew hb2).mono (unhide HGW))); clear hb2 hg2 tv2))
      all_goals go_wp2
      all_goals go_roundw
      case rel =>
        refine ⟨k + 1, by omega, by go_num, ?_, ?_⟩
        · rw [← unhide HK]
          exact own_set2 (j := k) (t, s) (unhide ho2)
        · exact ((unhide hb3).setCell (p := ⟨g2, _, none⟩) (Nat.le_refl _) _).setCell (p := ⟨g2, _, none⟩) (Nat.le_refl _) _
      case measure => simp [intOf]; omega
    · have hkn : k = es.length := by omega
      subst hkn
      have ho' : Own wr (fun _ => (0, 0)) (0, 0) 66 2 (.slice (some ⟨ob, 0, none⟩) es.length es.length) es.length (eC es) := by simpa using ho
      have HO2 := hide ho'
      have HB2 := hide hb
      clear ho ho' hb
      go_wp2
      go_ret
      have hobw := unhide hob
      subst hobw
      exact ⟨_, rfl, own_fresh (unhide HO2).1, unhide HB2⟩

end Go.Proofs.YteiecbkfganhnaaGreat

namespace Go.Proofs.YteiecbkfganhnaaGreat

open Go.RowKit Go.MuLone

def ncells (mu : Int) (s : Nd) (lv : Value) : Array Value := #[.int .i32 mu, .int .u32 0, .int .i64 (s.id : Int), .int .i64 (s.n : Int), .int .i64 s.term, .int .i64 s.vote, lv, .int .i64 s.role, .int .i64 s.leads, .int .i64 (s.commit : Int), .int .i64 s.elapsed, .int .i64 s.pat, .bool (s.gr 0), .bool (s.gr 1), .bool (s.gr 2), .bool (s.gr 3), .bool (s.gr 4), .bool (s.gr 5), .bool (s.gr 6), .int .i64 (s.nx 0 : Int), .int .i64 (s.nx 1 : Int), .int .i64 (s.nx 2 : Int), .int .i64 (s.nx 3 : Int), .int .i64 (s.nx 4 : Int), .int .i64 (s.nx 5 : Int), .int .i64 (s.nx 6 : Int), .int .i64 (s.mt 0 : Int), .int .i64 (s.mt 1 : Int), .int .i64 (s.mt 2 : Int), .int .i64 (s.mt 3 : Int), .int .i64 (s.mt 4 : Int), .int .i64 (s.mt 5 : Int), .int .i64 (s.mt 6 : Int), .bool (s.hd 0), .bool (s.hd 1), .bool (s.hd 2), .bool (s.hd 3), .bool (s.hd 4), .bool (s.hd 5), .bool (s.hd 6)]

/-- The node lies in the block nb; mu: its lock (0: free, 1: held); lv: its log's slice. -/
def NB (mu : Int) (w : World) (nb : Nat) (s : Nd) (lv : Value) : Prop := w.heap[nb]? = some (.cells (ncells mu s lv) 80 (0, 0))

theorem NB.lt {mu : Int} {w : World} {nb : Nat} {s : Nd} {lv : Value} (h : NB mu w nb s lv) : nb < w.heap.size := (Array.getElem?_eq_some_iff.1 h).1

theorem NB.free {mu : Int} {w : World} {nb : Nat} {s : Nd} {lv : Value} (h : NB mu w nb s lv) (o : Nat) : w.frozen? ⟨nb, o, none⟩ = false := frozen_of_row w nb o _ _ h

theorem NB.cell {mu : Int} {w : World} {nb : Nat} {s : Nd} {lv : Value} (h : NB mu w nb s lv) (o : Nat) : w.cell? ⟨nb, o, none⟩ = (ncells mu s lv)[o]? := cell_of_row w nb o _ _ _ h

theorem NB.block {mu : Int} {w w' : World} {nb : Nat} {s : Nd} {lv : Value} (h : NB mu w nb s lv) (hk : w'.heap[nb]? = w.heap[nb]?) : NB mu w' nb s lv := hk.trans h

theorem NB.below {mu : Int} {w w' : World} {nb : Nat} {s : Nd} {lv : Value} (h : NB mu w nb s lv) (hb : Below w.heap.size w w') : NB mu w' nb s lv := (hb.block nb h.lt).trans h

theorem NB.c0 {mu : Int} {w : World} {nb : Nat} {s : Nd} {lv : Value} (h : NB mu w nb s lv) : w.cell? ⟨nb, 0, none⟩ = some (.int .i32 mu) := h.cell 0

theorem NB.c2 {mu : Int} {w : World} {nb : Nat} {s : Nd} {lv : Value} (h : NB mu w nb s lv) : w.cell? ⟨nb, 2, none⟩ = some (.int .i64 (s.id : Int)) := h.cell 2

theorem NB.c3 {mu : Int} {w : World} {nb : Nat} {s : Nd} {lv : Value} (h : NB mu w nb s lv) : w.cell? ⟨nb, 3, none⟩ = some (.int .i64 (s.n : Int)) := h.cell 3

theorem NB.c4 {mu : Int} {w : World} {nb : Nat} {s : Nd} {lv : Value} (h : NB mu w nb s lv) : w.cell? ⟨nb, 4, none⟩ = some (.int .i64 s.term) := h.cell 4

theorem NB.c5 {mu : Int} {w : World} {nb : Nat} {s : Nd} {lv : Value} (h : NB mu w nb s lv) : w.cell? ⟨nb, 5, none⟩ = some (.int .i64 s.vote) := h.cell 5

theorem NB.c6 {mu : Int} {w : World} {nb : Nat} {s : Nd} {lv : Value} (h : NB mu w nb s lv) : w.cell? ⟨nb, 6, none⟩ = some (lv) := h.cell 6

theorem NB.c7 {mu : Int} {w : World} {nb : Nat} {s : Nd} {lv : Value} (h : NB mu w nb s lv) : w.cell? ⟨nb, 7, none⟩ = some (.int .i64 s.role) := h.cell 7

theorem NB.c8 {mu : Int} {w : World} {nb : Nat} {s : Nd} {lv : Value} (h : NB mu w nb s lv) : w.cell? ⟨nb, 8, none⟩ = some (.int .i64 s.leads) := h.cell 8

theorem NB.c9 {mu : Int} {w : World} {nb : Nat} {s : Nd} {lv : Value} (h : NB mu w nb s lv) : w.cell? ⟨nb, 9, none⟩ = some (.int .i64 (s.commit : Int)) := h.cell 9

theorem NB.c10 {mu : Int} {w : World} {nb : Nat} {s : Nd} {lv : Value} (h : NB mu w nb s lv) : w.cell? ⟨nb, 10, none⟩ = some (.int .i64 s.elapsed) := h.cell 10

theorem NB.c11 {mu : Int} {w : World} {nb : Nat} {s : Nd} {lv : Value} (h : NB mu w nb s lv) : w.cell? ⟨nb, 11, none⟩ = some (.int .i64 s.pat) := h.cell 11

theorem NB.c12 {mu : Int} {w : World} {nb : Nat} {s : Nd} {lv : Value} (h : NB mu w nb s lv) : w.cell? ⟨nb, 12, none⟩ = some (.bool (s.gr 0)) := h.cell 12

theorem NB.c13 {mu : Int} {w : World} {nb : Nat} {s : Nd} {lv : Value} (h : NB mu w nb s lv) : w.cell? ⟨nb, 13, none⟩ = some (.bool (s.gr 1)) := h.cell 13

theorem NB.c14 {mu : Int} {w : World} {nb : Nat} {s : Nd} {lv : Value} (h : NB mu w nb s lv) : w.cell? ⟨nb, 14, none⟩ = some (.bool (s.gr 2)) := h.cell 14

theorem NB.c15 {mu : Int} {w : World} {nb : Nat} {s : Nd} {lv : Value} (h : NB mu w nb s lv) : w.cell? ⟨nb, 15, none⟩ = some (.bool (s.gr 3)) := h.cell 15

theorem NB.c16 {mu : Int} {w : World} {nb : Nat} {s : Nd} {lv : Value} (h : NB mu w nb s lv) : w.cell? ⟨nb, 16, none⟩ = some (.bool (s.gr 4)) := h.cell 16

theorem NB.c17 {mu : Int} {w : World} {nb : Nat} {s : Nd} {lv : Value} (h : NB mu w nb s lv) : w.cell? ⟨nb, 17, none⟩ = some (.bool (s.gr 5)) := h.cell 17

theorem NB.c18 {mu : Int} {w : World} {nb : Nat} {s : Nd} {lv : Value} (h : NB mu w nb s lv) : w.cell? ⟨nb, 18, none⟩ = some (.bool (s.gr 6)) := h.cell 18

theorem NB.gr {mu : Int} {w : World} {nb : Nat} {s : Nd} {lv : Value} (h : NB mu w nb s lv) {i : Nat} (hi : i < 7) : w.cell? ⟨nb, 12 + i, none⟩ = some (.bool (s.gr i)) := by
  have hc := h.cell (12 + i)
  rw [hc]
  rcases i with _ | _ | _ | _ | _ | _ | _ | i
  all_goals first | rfl | omega

theorem NB.nx {mu : Int} {w : World} {nb : Nat} {s : Nd} {lv : Value} (h : NB mu w nb s lv) {i : Nat} (hi : i < 7) : w.cell? ⟨nb, 19 + i, none⟩ = some (.int .i64 (s.nx i : Int)) := by
  have hc := h.cell (19 + i)
  rw [hc]
  rcases i with _ | _ | _ | _ | _ | _ | _ | i
  all_goals first | rfl | omega

theorem NB.mt {mu : Int} {w : World} {nb : Nat} {s : Nd} {lv : Value} (h : NB mu w nb s lv) {i : Nat} (hi : i < 7) : w.cell? ⟨nb, 26 + i, none⟩ = some (.int .i64 (s.mt i : Int)) := by
  have hc := h.cell (26 + i)
  rw [hc]
  rcases i with _ | _ | _ | _ | _ | _ | _ | i
  all_goals first | rfl | omega

theorem NB.c33 {mu : Int} {w : World} {nb : Nat} {s : Nd} {lv : Value} (h : NB mu w nb s lv) : w.cell? ⟨nb, 33, none⟩ = some (.bool (s.hd 0)) := h.cell 33

theorem NB.c34 {mu : Int} {w : World} {nb : Nat} {s : Nd} {lv : Value} (h : NB mu w nb s lv) : w.cell? ⟨nb, 34, none⟩ = some (.bool (s.hd 1)) := h.cell 34

theorem NB.c35 {mu : Int} {w : World} {nb : Nat} {s : Nd} {lv : Value} (h : NB mu w nb s lv) : w.cell? ⟨nb, 35, none⟩ = some (.bool (s.hd 2)) := h.cell 35

theorem NB.c36 {mu : Int} {w : World} {nb : Nat} {s : Nd} {lv : Value} (h : NB mu w nb s lv) : w.cell? ⟨nb, 36, none⟩ = some (.bool (s.hd 3)) := h.cell 36

theorem NB.c37 {mu : Int} {w : World} {nb : Nat} {s : Nd} {lv : Value} (h : NB mu w nb s lv) : w.cell? ⟨nb, 37, none⟩ = some (.bool (s.hd 4)) := h.cell 37

theorem NB.c38 {mu : Int} {w : World} {nb : Nat} {s : Nd} {lv : Value} (h : NB mu w nb s lv) : w.cell? ⟨nb, 38, none⟩ = some (.bool (s.hd 5)) := h.cell 38

theorem NB.c39 {mu : Int} {w : World} {nb : Nat} {s : Nd} {lv : Value} (h : NB mu w nb s lv) : w.cell? ⟨nb, 39, none⟩ = some (.bool (s.hd 6)) := h.cell 39

theorem NB.setMu {mu : Int} {w : World} {nb : Nat} {s : Nd} {lv : Value} (h : NB mu w nb s lv) (m : Int) : NB m (w.setCell ⟨nb, 0, none⟩ (.int .i32 m)) nb s lv := heap_setCell_same w nb 0 _ _ _ h

theorem NB.setTerm {mu : Int} {w : World} {nb : Nat} {s : Nd} {lv : Value} (h : NB mu w nb s lv) (x : Int) : NB mu (w.setCell ⟨nb, 4, none⟩ (.int .i64 x)) nb { s with term := x } lv := heap_setCell_same w nb 4 _ _ _ h

theorem NB.setVote {mu : Int} {w : World} {nb : Nat} {s : Nd} {lv : Value} (h : NB mu w nb s lv) (x : Int) : NB mu (w.setCell ⟨nb, 5, none⟩ (.int .i64 x)) nb { s with vote := x } lv := heap_setCell_same w nb 5 _ _ _ h

theorem NB.setLog {mu : Int} {w : World} {nb : Nat} {s : Nd} {lv : Value} (h : NB mu w nb s lv) (u : Value) (l : List Ent) : NB mu (w.setCell ⟨nb, 6, none⟩ u) nb { s with log := l } u := heap_setCell_same w nb 6 _ _ _ h

theorem NB.setRole {mu : Int} {w : World} {nb : Nat} {s : Nd} {lv : Value} (h : NB mu w nb s lv) (x : Int) : NB mu (w.setCell ⟨nb, 7, none⟩ (.int .i64 x)) nb { s with role := x } lv := heap_setCell_same w nb 7 _ _ _ h

theorem NB.setLeads {mu : Int} {w : World} {nb : Nat} {s : Nd} {lv : Value} (h : NB mu w nb s lv) (x : Int) : NB mu (w.setCell ⟨nb, 8, none⟩ (.int .i64 x)) nb { s with leads := x } lv := heap_setCell_same w nb 8 _ _ _ h

theorem NB.setCommit {mu : Int} {w : World} {nb : Nat} {s : Nd} {lv : Value} (h : NB mu w nb s lv) (x : Nat) : NB mu (w.setCell ⟨nb, 9, none⟩ (.int .i64 (x : Int))) nb { s with commit := x } lv := heap_setCell_same w nb 9 _ _ _ h

theorem NB.setElapsed {mu : Int} {w : World} {nb : Nat} {s : Nd} {lv : Value} (h : NB mu w nb s lv) (x : Int) : NB mu (w.setCell ⟨nb, 10, none⟩ (.int .i64 x)) nb { s with elapsed := x } lv := heap_setCell_same w nb 10 _ _ _ h

theorem NB.setPat {mu : Int} {w : World} {nb : Nat} {s : Nd} {lv : Value} (h : NB mu w nb s lv) (x : Int) : NB mu (w.setCell ⟨nb, 11, none⟩ (.int .i64 x)) nb { s with pat := x } lv := heap_setCell_same w nb 11 _ _ _ h

theorem NB.setNx {mu : Int} {w : World} {nb : Nat} {s : Nd} {lv : Value} (h : NB mu w nb s lv) {i : Nat} (hi : i < 7) (x : Nat) : NB mu (w.setCell ⟨nb, 19 + i, none⟩ (.int .i64 (x : Int))) nb { s with nx := upd s.nx i x } lv := by
  have hh := heap_setCell_same w nb (19 + i) _ _ (.int .i64 (x : Int)) h
  unfold NB
  rw [hh]
  rcases i with _ | _ | _ | _ | _ | _ | _ | i
  all_goals first | rfl | omega

theorem NB.setMt {mu : Int} {w : World} {nb : Nat} {s : Nd} {lv : Value} (h : NB mu w nb s lv) {i : Nat} (hi : i < 7) (x : Nat) : NB mu (w.setCell ⟨nb, 26 + i, none⟩ (.int .i64 (x : Int))) nb { s with mt := upd s.mt i x } lv := by
  have hh := heap_setCell_same w nb (26 + i) _ _ (.int .i64 (x : Int)) h
  unfold NB
  rw [hh]
  rcases i with _ | _ | _ | _ | _ | _ | _ | i
  all_goals first | rfl | omega

theorem NB.setGr1 {mu : Int} {w : World} {nb : Nat} {s : Nd} {lv : Value} (h : NB mu w nb s lv) {i : Nat} (hi : i < 7) (x : Bool) : NB mu (w.setCell ⟨nb, 12 + i, none⟩ (.bool x)) nb { s with gr := upd s.gr i x } lv := by
  have hh := heap_setCell_same w nb (12 + i) _ _ (.bool x) h
  unfold NB
  rw [hh]
  rcases i with _ | _ | _ | _ | _ | _ | _ | i
  all_goals first | rfl | omega

theorem NB.setGr {mu : Int} {w : World} {nb : Nat} {s : Nd} {lv : Value} (h : NB mu w nb s lv) (g : Nat → Bool) : NB mu (((((((w.setCell ⟨nb, 12, none⟩ (.bool (g 0))).setCell ⟨nb, 13, none⟩ (.bool (g 1))).setCell ⟨nb, 14, none⟩ (.bool (g 2))).setCell ⟨nb, 15, none⟩ (.bool (g 3))).setCell ⟨nb, 16, none⟩ (.bool (g 4))).setCell ⟨nb, 17, none⟩ (.bool (g 5))).setCell ⟨nb, 18, none⟩ (.bool (g 6))) nb { s with gr := g } lv := by
  have h0 := NB.setGr1 h (i := 0) (by decide) (g 0)
  have h1 := NB.setGr1 h0 (i := 1) (by decide) (g 1)
  have h2 := NB.setGr1 h1 (i := 2) (by decide) (g 2)
  have h3 := NB.setGr1 h2 (i := 3) (by decide) (g 3)
  have h4 := NB.setGr1 h3 (i := 4) (by decide) (g 4)
  have h5 := NB.setGr1 h4 (i := 5) (by decide) (g 5)
  have h6 := NB.setGr1 h5 (i := 6) (by decide) (g 6)
  unfold NB at h6 ⊢
  exact h6

theorem NB.setHd1 {mu : Int} {w : World} {nb : Nat} {s : Nd} {lv : Value} (h : NB mu w nb s lv) {i : Nat} (hi : i < 7) (x : Bool) : NB mu (w.setCell ⟨nb, 33 + i, none⟩ (.bool x)) nb { s with hd := upd s.hd i x } lv := by
  have hh := heap_setCell_same w nb (33 + i) _ _ (.bool x) h
  unfold NB
  rw [hh]
  rcases i with _ | _ | _ | _ | _ | _ | _ | i
  all_goals first | rfl | omega

theorem NB.setHd {mu : Int} {w : World} {nb : Nat} {s : Nd} {lv : Value} (h : NB mu w nb s lv) (g : Nat → Bool) : NB mu (((((((w.setCell ⟨nb, 33, none⟩ (.bool (g 0))).setCell ⟨nb, 34, none⟩ (.bool (g 1))).setCell ⟨nb, 35, none⟩ (.bool (g 2))).setCell ⟨nb, 36, none⟩ (.bool (g 3))).setCell ⟨nb, 37, none⟩ (.bool (g 4))).setCell ⟨nb, 38, none⟩ (.bool (g 5))).setCell ⟨nb, 39, none⟩ (.bool (g 6))) nb { s with hd := g } lv := by
  have h0 := NB.setHd1 h (i := 0) (by decide) (g 0)
  have h1 := NB.setHd1 h0 (i := 1) (by decide) (g 1)
  have h2 := NB.setHd1 h1 (i := 2) (by decide) (g 2)
  have h3 := NB.setHd1 h2 (i := 3) (by decide) (g 3)
  have h4 := NB.setHd1 h3 (i := 4) (by decide) (g 4)
  have h5 := NB.setHd1 h4 (i := 5) (by decide) (g 5)
  have h6 := NB.setHd1 h5 (i := 6) (by decide) (g 6)
  unfold NB at h6 ⊢
  exact h6

/-- All but the node's own block is as it was. -/
structure Ew (nb : Nat) (w w' : World) : Prop where
  os : w'.os = w.os
  tape : w'.tape = w.tape
  output : w'.output = w.output
  size : w.heap.size ≤ w'.heap.size
  block : ∀ k, k < w.heap.size → k ≠ nb → w'.heap[k]? = w.heap[k]?

theorem Ew.refl (nb : Nat) (w : World) : Ew nb w w := ⟨rfl, rfl, rfl, Nat.le_refl _, fun _ _ _ => rfl⟩

theorem Ew.ofBelow {nb : Nat} {w w' : World} (h : Below w.heap.size w w') : Ew nb w w' := ⟨h.os, h.tape, h.output, h.size, fun k hk _ => h.block k hk⟩

theorem Ew.trans {nb : Nat} {a b c : World} (h : Ew nb a b) (k : Ew nb b c) : Ew nb a c :=
  ⟨k.os.trans h.os, k.tape.trans h.tape, k.output.trans h.output, Nat.le_trans h.size k.size, fun i hi hn => (k.block i (Nat.lt_of_lt_of_le hi h.size) hn).trans (h.block i hi hn)⟩

theorem Ew.set {nb : Nat} {w w' : World} (h : Ew nb w w') (o : Nat) (u : Value) : Ew nb w (w'.setCell ⟨nb, o, none⟩ u) :=
  ⟨h.os, h.tape, h.output, by simpa [World.setCell] using h.size, fun k hk hn => (Below.heap_setCell _ _ _ _ hn).trans (h.block k hk hn)⟩

theorem Ew.drew {nb : Nat} {w w' : World} (h : Ew nb w w') : Ew nb w w'.drew := ⟨h.os, h.tape, h.output, h.size, h.block⟩

theorem Ew.drewN {nb : Nat} {w w' : World} (h : Ew nb w w') (m : Nat) : Ew nb w (w'.drewN m) := ⟨h.os, h.tape, h.output, h.size, h.block⟩

theorem Ew.alloc {nb : Nat} {w w' : World} (h : Ew nb w w') (o : Obj) : Ew nb w (w'.alloc o) :=
  h.trans (Ew.ofBelow (below_alloc w' o))

theorem Ew.below {nb : Nat} {w w1 w2 : World} (h : Ew nb w w1) (hb : Below w1.heap.size w1 w2) : Ew nb w w2 := h.trans (Ew.ofBelow hb)

end Go.Proofs.YteiecbkfganhnaaGreat

namespace Go.Proofs.YteiecbkfganhnaaGreat

open Go.RowKit Go.MuLone

abbrev bagg (g : Nat → Bool) : Value := .agg #[.bool (g 0), .bool (g 1), .bool (g 2), .bool (g 3), .bool (g 4), .bool (g 5), .bool (g 6)]

theorem below2 (w : World) (o p : Obj) : Below w.heap.size w ((w.alloc o).alloc p) := below_trans (below_alloc w o) (below_alloc _ p)

set_option maxRecDepth 100000 in
set_option maxHeartbeats 400000 in
theorem with_0 (g : Nat → Bool) (w : World) :
    Calls Tryz.prog 95 #[bagg g, .int .i64 0] w fun e w' => e = .returned (.agg #[.bool true, .bool (g 1), .bool (g 2), .bool (g 3), .bool (g 4), .bool (g 5), .bool (g 6)]) ∧ Below w.heap.size w w' := by
  go_enter Tryz.func95, Tryz.ntmps95
  go_wp2
  refine bodyPost_ret (v := .agg #[.bool true, .bool (g 1), .bool (g 2), .bool (g 3), .bool (g 4), .bool (g 5), .bool (g 6)]) (by simp [results, Tryz.results95, go_sem]) rfl ⟨rfl, below2 w _ _⟩

set_option maxRecDepth 100000 in
set_option maxHeartbeats 400000 in
theorem with_1 (g : Nat → Bool) (w : World) :
    Calls Tryz.prog 95 #[bagg g, .int .i64 1] w fun e w' => e = .returned (.agg #[.bool (g 0), .bool true, .bool (g 2), .bool (g 3), .bool (g 4), .bool (g 5), .bool (g 6)]) ∧ Below w.heap.size w w' := by
  go_enter Tryz.func95, Tryz.ntmps95
  go_wp2
  refine bodyPost_ret (v := .agg #[.bool (g 0), .bool true, .bool (g 2), .bool (g 3), .bool (g 4), .bool (g 5), .bool (g 6)]) (by simp [results, Tryz.results95, go_sem]) rfl ⟨rfl, below2 w _ _⟩

set_option maxRecDepth 100000 in
set_option maxHeartbeats 400000 in
theorem with_2 (g : Nat → Bool) (w : World) :
    Calls Tryz.prog 95 #[bagg g, .int .i64 2] w fun e w' => e = .returned (.agg #[.bool (g 0), .bool (g 1), .bool true, .bool (g 3), .bool (g 4), .bool (g 5), .bool (g 6)]) ∧ Below w.heap.size w w' := by
  go_enter Tryz.func95, Tryz.ntmps95
  go_wp2
  refine bodyPost_ret (v := .agg #[.bool (g 0), .bool (g 1), .bool true, .bool (g 3), .bool (g 4), .bool (g 5), .bool (g 6)]) (by simp [results, Tryz.results95, go_sem]) rfl ⟨rfl, below2 w _ _⟩

set_option maxRecDepth 100000 in
set_option maxHeartbeats 400000 in
theorem with_3 (g : Nat → Bool) (w : World) :
    Calls Tryz.prog 95 #[bagg g, .int .i64 3] w fun e w' => e = .returned (.agg #[.bool (g 0), .bool (g 1), .bool (g 2), .bool true, .bool (g 4), .bool (g 5), .bool (g 6)]) ∧ Below w.heap.size w w' := by
  go_enter Tryz.func95, Tryz.ntmps95
  go_wp2
  refine bodyPost_ret (v := .agg #[.bool (g 0), .bool (g 1), .bool (g 2), .bool true, .bool (g 4), .bool (g 5), .bool (g 6)]) (by simp [results, Tryz.results95, go_sem]) rfl ⟨rfl, below2 w _ _⟩

set_option maxRecDepth 100000 in
set_option maxHeartbeats 400000 in
theorem with_4 (g : Nat → Bool) (w : World) :
    Calls Tryz.prog 95 #[bagg g, .int .i64 4] w fun e w' => e = .returned (.agg #[.bool (g 0), .bool (g 1), .bool (g 2), .bool (g 3), .bool true, .bool (g 5), .bool (g 6)]) ∧ Below w.heap.size w w' := by
  go_enter Tryz.func95, Tryz.ntmps95
  go_wp2
  refine bodyPost_ret (v := .agg #[.bool (g 0), .bool (g 1), .bool (g 2), .bool (g 3), .bool true, .bool (g 5), .bool (g 6)]) (by simp [results, Tryz.results95, go_sem]) rfl ⟨rfl, below2 w _ _⟩

set_option maxRecDepth 100000 in
set_option maxHeartbeats 400000 in
theorem with_5 (g : Nat → Bool) (w : World) :
    Calls Tryz.prog 95 #[bagg g, .int .i64 5] w fun e w' => e = .returned (.agg #[.bool (g 0), .bool (g 1), .bool (g 2), .bool (g 3), .bool (g 4), .bool true, .bool (g 6)]) ∧ Below w.heap.size w w' := by
  go_enter Tryz.func95, Tryz.ntmps95
  go_wp2
  refine bodyPost_ret (v := .agg #[.bool (g 0), .bool (g 1), .bool (g 2), .bool (g 3), .bool (g 4), .bool true, .bool (g 6)]) (by simp [results, Tryz.results95, go_sem]) rfl ⟨rfl, below2 w _ _⟩

set_option maxRecDepth 100000 in
set_option maxHeartbeats 400000 in
theorem with_6 (g : Nat → Bool) (w : World) :
    Calls Tryz.prog 95 #[bagg g, .int .i64 6] w fun e w' => e = .returned (.agg #[.bool (g 0), .bool (g 1), .bool (g 2), .bool (g 3), .bool (g 4), .bool (g 5), .bool true]) ∧ Below w.heap.size w w' := by
  go_enter Tryz.func95, Tryz.ntmps95
  go_wp2
  refine bodyPost_ret (v := .agg #[.bool (g 0), .bool (g 1), .bool (g 2), .bool (g 3), .bool (g 4), .bool (g 5), .bool true]) (by simp [results, Tryz.results95, go_sem]) rfl ⟨rfl, below2 w _ _⟩

theorem with_any (g : Nat → Bool) (i : Nat) (w : World) (hi : i < 7) :
    Calls Tryz.prog 95 #[bagg g, .int .i64 (i : Int)] w fun e w' => e = .returned (bagg (upd g i true)) ∧ Below w.heap.size w w' := by
  rcases i with _ | _ | _ | _ | _ | _ | _ | i
  · exact with_0 g w
  · exact with_1 g w
  · exact with_2 g w
  · exact with_3 g w
  · exact with_4 g w
  · exact with_5 g w
  · exact with_6 g w
  · omega

theorem ixSet0 (x0 x1 x2 x3 x4 x5 x6 : Value) (w : World) : (Instr.index 77 (.agg #[x0, x1, x2, x3, x4, x5, x6]) (.int .i64 0)).run Tryz.prog w = .ok x0 w := by kernel_rfl

theorem ixSet1 (x0 x1 x2 x3 x4 x5 x6 : Value) (w : World) : (Instr.index 77 (.agg #[x0, x1, x2, x3, x4, x5, x6]) (.int .i64 1)).run Tryz.prog w = .ok x1 w := by kernel_rfl

theorem ixSet2 (x0 x1 x2 x3 x4 x5 x6 : Value) (w : World) : (Instr.index 77 (.agg #[x0, x1, x2, x3, x4, x5, x6]) (.int .i64 2)).run Tryz.prog w = .ok x2 w := by kernel_rfl

theorem ixSet3 (x0 x1 x2 x3 x4 x5 x6 : Value) (w : World) : (Instr.index 77 (.agg #[x0, x1, x2, x3, x4, x5, x6]) (.int .i64 3)).run Tryz.prog w = .ok x3 w := by kernel_rfl

theorem ixSet4 (x0 x1 x2 x3 x4 x5 x6 : Value) (w : World) : (Instr.index 77 (.agg #[x0, x1, x2, x3, x4, x5, x6]) (.int .i64 4)).run Tryz.prog w = .ok x4 w := by kernel_rfl

theorem ixSet5 (x0 x1 x2 x3 x4 x5 x6 : Value) (w : World) : (Instr.index 77 (.agg #[x0, x1, x2, x3, x4, x5, x6]) (.int .i64 5)).run Tryz.prog w = .ok x5 w := by kernel_rfl

theorem ixSet6 (x0 x1 x2 x3 x4 x5 x6 : Value) (w : World) : (Instr.index 77 (.agg #[x0, x1, x2, x3, x4, x5, x6]) (.int .i64 6)).run Tryz.prog w = .ok x6 w := by kernel_rfl

theorem cntTo_yes {g : Nat → Bool} {k : Nat} (h : g k = true) : cntTo g (k + 1) = cntTo g k + 1 := by simp [cntTo, b1, h]

theorem cntTo_no {g : Nat → Bool} {k : Nat} (h : g k = false) : cntTo g (k + 1) = cntTo g k := by simp [cntTo, b1, h]

set_option maxRecDepth 100000 in
set_option maxHeartbeats 400000 in
theorem size_any (g : Nat → Bool) (w : World) :
    Calls Tryz.prog 96 #[bagg g] w fun e w' => e = .returned (.int .i64 (cnt g : Int)) ∧ Below w.heap.size w w' := by
  have HB := hide (below_alloc w (.cells #[.bool (g 0), .bool (g 1), .bool (g 2), .bool (g 3), .bool (g 4), .bool (g 5), .bool (g 6)] 77))
  go_enter Tryz.func96, Tryz.ntmps96
  go_wp2
  go_loop [3, 7] (fun n i => ∃ k : Nat, k ≤ 7 ∧ i = .int .i64 k ∧ n = .int .i64 (cntTo g k : Int)) (fun _ i => 7 - (intOf i).toNat)
  case atStart => exact ⟨0, Nat.zero_le _, rfl, rfl⟩
  case round =>
    obtain ⟨k, hk, rfl, rfl⟩ := hrel
    have hc := cntTo_le g k
    by_cases hlt : k < 7
    · rcases k with _ | _ | _ | _ | _ | _ | _ | k
      · have hix := ixSet0
        by_cases hg : g 0 = true
        · have HG := hide (cntTo_yes hg)
          generalize cntTo g 0 = c at *
          go_wp2
          go_round
          case rel => ((repeat apply Exists.intro); refine ⟨⟨1, by omega, rfl, ?_⟩, rfl, rfl, rfl⟩; rw [unhide HG]; go_num)
          case measure => simp [intOf]
        · have hg' : g 0 = false := by simpa using hg
          have HG := hide (cntTo_no hg')
          clear hg
          generalize cntTo g 0 = c at *
          go_wp2
          go_round
          case rel => ((repeat apply Exists.intro); refine ⟨⟨1, by omega, rfl, ?_⟩, rfl, rfl, rfl⟩; rw [unhide HG])
          case measure => simp [intOf]
      · have hix := ixSet1
        by_cases hg : g 1 = true
        · have HG := hide (cntTo_yes hg)
          generalize cntTo g 1 = c at *
          go_wp2
          go_round
          case rel => ((repeat apply Exists.intro); refine ⟨⟨2, by omega, rfl, ?_⟩, rfl, rfl, rfl⟩; rw [unhide HG]; go_num)
          case measure => simp [intOf]
        · have hg' : g 1 = false := by simpa using hg
          have HG := hide (cntTo_no hg')
          clear hg
          generalize cntTo g 1 = c at *
          go_wp2
          go_round
          case rel => ((repeat apply Exists.intro); refine ⟨⟨2, by omega, rfl, ?_⟩, rfl, rfl, rfl⟩; rw [unhide HG])
          case measure => simp [intOf]
      · have hix := ixSet2
        by_cases hg : g 2 = true
        · have HG := hide (cntTo_yes hg)
          generalize cntTo g 2 = c at *
          go_wp2
          go_round
          case rel => ((repeat apply Exists.intro); refine ⟨⟨3, by omega, rfl, ?_⟩, rfl, rfl, rfl⟩; rw [unhide HG]; go_num)
          case measure => simp [intOf]
        · have hg' : g 2 = false := by simpa using hg
          have HG := hide (cntTo_no hg')
          clear hg
          generalize cntTo g 2 = c at *
          go_wp2
          go_round
          case rel => ((repeat apply Exists.intro); refine ⟨⟨3, by omega, rfl, ?_⟩, rfl, rfl, rfl⟩; rw [unhide HG])
          case measure => simp [intOf]
      · have hix := ixSet3
        by_cases hg : g 3 = true
        · have HG := hide (cntTo_yes hg)
          generalize cntTo g 3 = c at *
          go_wp2
          go_round
          case rel => ((repeat apply Exists.intro); refine ⟨⟨4, by omega, rfl, ?_⟩, rfl, rfl, rfl⟩; rw [unhide HG]; go_num)
          case measure => simp [intOf]
        · have hg' : g 3 = false := by simpa using hg
          have HG := hide (cntTo_no hg')
          clear hg
          generalize cntTo g 3 = c at *
          go_wp2
          go_round
          case rel => ((repeat apply Exists.intro); refine ⟨⟨4, by omega, rfl, ?_⟩, rfl, rfl, rfl⟩; rw [unhide HG])
          case measure => simp [intOf]
      · have hix := ixSet4
        by_cases hg : g 4 = true
        · have HG := hide (cntTo_yes hg)
          generalize cntTo g 4 = c at *
          go_wp2
          go_round
          case rel => ((repeat apply Exists.intro); refine ⟨⟨5, by omega, rfl, ?_⟩, rfl, rfl, rfl⟩; rw [unhide HG]; go_num)
          case measure => simp [intOf]
        · have hg' : g 4 = false := by simpa using hg
          have HG := hide (cntTo_no hg')
          clear hg
          generalize cntTo g 4 = c at *
          go_wp2
          go_round
          case rel => ((repeat apply Exists.intro); refine ⟨⟨5, by omega, rfl, ?_⟩, rfl, rfl, rfl⟩; rw [unhide HG])
          case measure => simp [intOf]
      · have hix := ixSet5
        by_cases hg : g 5 = true
        · have HG := hide (cntTo_yes hg)
          generalize cntTo g 5 = c at *
          go_wp2
          go_round
          case rel => ((repeat apply Exists.intro); refine ⟨⟨6, by omega, rfl, ?_⟩, rfl, rfl, rfl⟩; rw [unhide HG]; go_num)
          case measure => simp [intOf]
        · have hg' : g 5 = false := by simpa using hg
          have HG := hide (cntTo_no hg')
          clear hg
          generalize cntTo g 5 = c at *
          go_wp2
          go_round
          case rel => ((repeat apply Exists.intro); refine ⟨⟨6, by omega, rfl, ?_⟩, rfl, rfl, rfl⟩; rw [unhide HG])
          case measure => simp [intOf]
      · have hix := ixSet6
        by_cases hg : g 6 = true
        · have HG := hide (cntTo_yes hg)
          generalize cntTo g 6 = c at *
          go_wp2
          go_round
          case rel => ((repeat apply Exists.intro); refine ⟨⟨7, by omega, rfl, ?_⟩, rfl, rfl, rfl⟩; rw [unhide HG]; go_num)
          case measure => simp [intOf]
        · have hg' : g 6 = false := by simpa using hg
          have HG := hide (cntTo_no hg')
          clear hg
          generalize cntTo g 6 = c at *
          go_wp2
          go_round
          case rel => ((repeat apply Exists.intro); refine ⟨⟨7, by omega, rfl, ?_⟩, rfl, rfl, rfl⟩; rw [unhide HG])
          case measure => simp [intOf]
      · omega
    · have hk7 : k = 7 := by omega
      subst hk7
      go_wp2
      go_ret
      exact ⟨rfl, unhide HB⟩

theorem maj_eq (s : Nd) (c : Nat) : decide ((s.n : Int) / 2 < (c : Int)) = s.maj c := by
  unfold Nd.maj
  exact decide_eq_decide.2 (by omega)

set_option maxRecDepth 100000 in
set_option maxHeartbeats 400000 in
theorem isMajority_any (mu : Int) (nb : Nat) (s : Nd) (lv : Value) (c : Nat) (w : World) (h : NB mu w nb s lv) (hn : s.n ≤ 7) :
    Calls Tryz.prog 94 #[.pointer (some ⟨nb, 0, none⟩), .int .i64 (c : Int)] w fun e w' => e = .returned (.bool (s.maj c)) ∧ w' = w := by
  have c3 := h.c3
  go_enter Tryz.func94, Tryz.ntmps94
  go_wp2
  go_ret
  exact ⟨by rw [maj_eq]; rfl, rfl⟩

set_option maxRecDepth 100000 in
set_option maxHeartbeats 400000 in
theorem follow_any (mu : Int) (nb : Nat) (s : Nd) (lv : Value) (t l : Int) (w : World) (h : NB mu w nb s lv) :
    Calls Tryz.prog 97 #[.pointer (some ⟨nb, 0, none⟩), .int .i64 t, .int .i64 l] w fun e w' => e = .returned (.tuple #[]) ∧ NB mu w' nb (s.follow t l) lv ∧ Ew nb w w' := by
  have c4 := h.c4
  have c5 := h.c5
  have c7 := h.c7
  have c8 := h.c8
  have f4 := h.free 4
  have f5 := h.free 5
  have f7 := h.free 7
  have f8 := h.free 8
  have H := hide h
  clear h
  by_cases hlt : s.term < t
  · have HE : Hid (s.follow t l = { s with role := 0, leads := l, term := t, vote := -1 }) := if_pos hlt
    go_enter Tryz.func97, Tryz.ntmps97
    go_wp2
    go_end0
    rw [unhide HE]
    exact ⟨rfl, ((((unhide H).setRole 0).setLeads l).setTerm t).setVote (-1), ((((Ew.refl nb w).set 7 _).set 8 _).set 4 _).set 5 _⟩
  · have HE : Hid (s.follow t l = { s with role := 0, leads := l }) := if_neg hlt
    go_enter Tryz.func97, Tryz.ntmps97
    go_wp2
    go_end0
    rw [unhide HE]
    exact ⟨rfl, ((unhide H).setRole 0).setLeads l, ((Ew.refl nb w).set 7 _).set 8 _⟩

/-- The node's log lies in a block of its own. -/
def NL (w : World) (s : Nd) (lv : Value) : Prop := w.ownsRow 0 66 2 lv s.log.length (eC s.log)

theorem NL.form {w : World} {s : Nd} {lv : Value} (h : NL w s lv) : ∃ ao cap, lv = .slice ao s.log.length cap := owns_form h

theorem NL.below {w w' : World} {s : Nd} {lv : Value} (h : NL w s lv) (hb : Below w.heap.size w w') : NL w' s lv := owns_below h hb

theorem NL.ents {w : World} {s : Nd} {lv : Value} (h : NL w s lv) : EntsIn w lv s.log := ents_of_owns h

/-- The node does not lie in its log's block. -/
theorem NL.apart {mu : Int} {w : World} {nb : Nat} {s t : Nd} {lv lu : Value} (h : NL w s lv) (hN : NB mu w nb t lu) : lv.ownBlock ≠ some nb := by
  intro hx
  rcases h.2 with ⟨rfl, _⟩ | ⟨g, cap, cur, rfl, _, hg, _⟩
  · simp [Value.ownBlock] at hx
  · simp [Value.ownBlock] at hx
    subst hx
    unfold NB at hN
    rw [hg] at hN
    simp at hN

theorem NL.ew {mu : Int} {w w' : World} {nb : Nat} {s t : Nd} {lv lu : Value} (h : NL w s lv) (hN : NB mu w nb t lu) (he : Ew nb w w') : NL w' s lv :=
  owns_kept h fun x hx => he.block x (owns_lt h x hx) (fun e => h.apart hN (e ▸ hx))

set_option maxRecDepth 100000 in
set_option maxHeartbeats 400000 in
theorem last_any (mu : Int) (nb : Nat) (s : Nd) (lv : Value) (w : World) (h : NB mu w nb s lv) (hl : ∃ ao cap, lv = .slice ao s.log.length cap) :
    Calls Tryz.prog 81 #[.pointer (some ⟨nb, 0, none⟩)] w fun e w' => e = .returned (.int .i64 (s.last : Int)) ∧ w' = w := by
  have c6 := h.c6
  obtain ⟨ao, cap, rfl⟩ := hl
  clear h
  go_enter Tryz.func81, Tryz.ntmps81
  go_wp2
  go_ret
  exact ⟨rfl, rfl⟩

set_option maxRecDepth 100000 in
set_option maxHeartbeats 400000 in
theorem termOf_any (mu : Int) (nb : Nat) (s : Nd) (lv : Value) (k : Nat) (w : World) (h : NB mu w nb s lv) (hl : NL w s lv) (hk : k ≤ s.last) (hs : s.last ≤ 60) :
    Calls Tryz.prog 114 #[.pointer (some ⟨nb, 0, none⟩), .int .i64 (k : Int)] w fun e w' => e = .returned (.int .i64 (s.termOf k)) ∧ w' = w := by
  have c6 := h.c6
  clear h
  rcases k with _ | k
  · go_enter Tryz.func114, Tryz.ntmps114
    go_wp2
    go_ret
    exact ⟨rfl, rfl⟩
  · have hlt : k < s.log.length := hk
    obtain ⟨ao, cap, rfl, _, ha⟩ := hl.ents
    obtain ⟨b, off, rfl, a0, a1⟩ := ha k _ (show s.log[k]? = some s.log[k] by simp [hlt])
    have HT : Hid (s.termOf (k + 1) = s.log[k].1) := termAt_get hlt
    have hs' : s.log.length ≤ 60 := hs
    clear hl ha a1 hk hs
    have hne : ((k : Int) + 1 == 0) = false := by simp; omega
    have i0 : (0 : Int) ≤ (k : Int) := by omega
    have i2 : (k : Int) < (s.log.length : Int) := by omega
    generalize s.log[k].1 = t at *
    rw [show ((k + 1 : Nat) : Int) = (k : Int) + 1 by omega]
    go_enter Tryz.func114, Tryz.ntmps114
    go_wp2
    go_ret
    exact ⟨by rw [unhide HT]; rfl, rfl⟩

end Go.Proofs.YteiecbkfganhnaaGreat

namespace Go.Proofs.YteiecbkfganhnaaGreat

open Go.RowKit Go.MuLone

set_option maxRecDepth 100000 in
set_option maxHeartbeats 400000 in
theorem knowsLeader_any (mu : Int) (nb : Nat) (s : Nd) (lv : Value) (w : World) (h : NB mu w nb s lv) :
    Calls Tryz.prog 110 #[.pointer (some ⟨nb, 0, none⟩)] w fun e w' => e = .returned (.bool s.knows) ∧ ∃ m, w' = w.drewN m := by
  have c8 := h.c8
  have c10 := h.c10
  have c11 := h.c11
  clear h
  by_cases h1 : s.leads = -1
  · have HE : Hid (s.knows = false) := by show _ = _; simp [Nd.knows, h1]
    rw [h1] at c8
    clear h1
    go_enter Tryz.func110, Tryz.ntmps110
    go_wp2
    go_quiet (fail)
    go_wp2
    go_ret
    exact ⟨by rw [unhide HE]; rfl, _, rfl⟩
  · have HE : Hid (s.knows = decide (s.elapsed < s.pat)) := by show _ = _; simp [Nd.knows, h1]
    have h2 : (s.leads != -1) = true := by simpa using h1
    clear h1
    go_enter Tryz.func110, Tryz.ntmps110
    go_wp2
    go_quiet (fail)
    go_wp2
    go_ret
    exact ⟨by rw [unhide HE]; rfl, _, rfl⟩

set_option maxRecDepth 100000 in
set_option maxHeartbeats 400000 in
theorem mayVoteFor_any (mu : Int) (nb : Nat) (s : Nd) (lv : Value) (i : Int) (w : World) (h : NB mu w nb s lv) :
    Calls Tryz.prog 112 #[.pointer (some ⟨nb, 0, none⟩), .int .i64 i] w fun e w' => e = .returned (.bool (decide (s.role = 0) && (decide (s.vote = -1) || decide (s.vote = i)))) ∧ w' = w := by
  have c7 := h.c7
  have c5 := h.c5
  clear h
  by_cases h1 : s.role = 0
  · rw [h1] at c7 ⊢
    by_cases h2 : s.vote = -1
    · rw [h2] at c5 ⊢
      clear h1 h2
      go_enter Tryz.func112, Tryz.ntmps112
      go_wp2
      go_ret
      exact ⟨rfl, rfl⟩
    · have h3 : (s.vote == -1) = false := by simpa using h2
      have HE : Hid (decide (s.vote = -1) = false) := decide_eq_false h2
      by_cases h4 : s.vote = i
      · rw [h4] at c5 h3
        have HF : Hid (decide (s.vote = i) = true) := decide_eq_true h4
        clear h1 h2 h4
        go_enter Tryz.func112, Tryz.ntmps112
        go_wp2
        go_ret
        exact ⟨by rw [unhide HE, unhide HF]; rfl, rfl⟩
      · have h5 : (s.vote == i) = false := by simpa using h4
        have HF : Hid (decide (s.vote = i) = false) := decide_eq_false h4
        clear h1 h2 h4
        go_enter Tryz.func112, Tryz.ntmps112
        go_wp2
        go_ret
        exact ⟨by rw [unhide HE, unhide HF]; rfl, rfl⟩
  · have h3 : (s.role == 0) = false := by simpa using h1
    have HE : Hid (decide (s.role = 0) = false) := decide_eq_false h1
    clear h1
    go_enter Tryz.func112, Tryz.ntmps112
    go_wp2
    go_ret
    exact ⟨by rw [unhide HE]; rfl, rfl⟩

theorem NB.drewN {mu : Int} {w : World} {nb : Nat} {s : Nd} {lv : Value} (h : NB mu w nb s lv) (m : Nat) : NB mu (w.drewN m) nb s lv := h

theorem below_drewN {B : Nat} {w w' : World} (h : Below B w w') (m : Nat) : Below B w (w'.drewN m) := ⟨h.os, h.tape, h.output, h.size, h.block⟩

/-- A message as it is handed in: its entries' slice beside it. -/
abbrev magg (m : Msg) (ev : Value) : Value := .agg #[.int .i64 m.kind, .int .i64 m.src, .int .i64 m.dst, .int .i64 m.term, .int .i64 m.index, .int .i64 m.logTerm, .int .i64 m.commit, ev, .bool m.granted]

set_option maxRecDepth 100000 in
set_option maxHeartbeats 400000 in
theorem isAsGood_any (mu : Int) (nb : Nat) (s : Nd) (lv : Value) (m : Msg) (ev : Value) (w : World) (h : NB mu w nb s lv) (hl : NL w s lv) (hs : s.last ≤ 60) (hev : ∃ ao n c, ev = .slice ao n c) :
    Calls Tryz.prog 109 #[.pointer (some ⟨nb, 0, none⟩), magg m ev] w fun e w' => e = .returned (.bool (s.asGood m)) ∧ Below w.heap.size w w' := by
  obtain ⟨eo, en, ec, rfl⟩ := hev
  have HB := hide (below_alloc w (.cells #[.int .i64 m.kind, .int .i64 m.src, .int .i64 m.dst, .int .i64 m.term, .int .i64 m.index, .int .i64 m.logTerm, .int .i64 m.commit, .slice eo en ec, .bool m.granted] 30))
  have H := hide (h.below (unhide HB))
  have HL := hide (hl.below (unhide HB))
  have HF := hide hl.form
  have hlt := h.lt
  have hne : ¬ nb = w.heap.size := by omega
  clear h hl
  obtain ⟨t, HT'⟩ : ∃ t, t = s.termOf s.last := ⟨_, rfl⟩
  have HT : s.termOf s.last = t := HT'.symm
  have HTh := hide HT
  clear HT HT'
  by_cases h1 : t < m.logTerm
  · have HE : Hid (s.asGood m = true) := by show _ = _; simp [Nd.asGood, unhide HTh, h1]
    go_enter Tryz.func109, Tryz.ntmps109
    go_wp2_with (first | (go_at_call 81; refine (last_any mu nb s _ _ (unhide H) (unhide HF)).mono ?_; rintro e w1 ⟨rfl, rfl⟩) | (go_at_call 114; refine (termOf_any mu nb s _ s.last _ (unhide H) (unhide HL) (Nat.le_refl _) hs).mono ?_; rw [unhide HTh]; rintro e w1 ⟨rfl, rfl⟩))
    go_quiet (fail)
    go_wp2
    go_ret
    exact ⟨by rw [unhide HE]; rfl, below_drewN (unhide HB) _⟩
  · have hd := decide_eq_false h1
    by_cases h2 : m.logTerm = t
    · have HE : Hid (s.asGood m = decide ((s.last : Int) ≤ m.index)) := by show _ = _; simp [Nd.asGood, unhide HTh, h2]
      have h3 : (m.logTerm == t) = true := by simpa using h2
      clear h2
      go_enter Tryz.func109, Tryz.ntmps109
      go_wp2_with (first | (go_at_call 81; refine (last_any mu nb s _ _ (unhide H) (unhide HF)).mono ?_; rintro e w1 ⟨rfl, rfl⟩) | (go_at_call 114; refine (termOf_any mu nb s _ s.last _ (unhide H) (unhide HL) (Nat.le_refl _) hs).mono ?_; rw [unhide HTh]; rintro e w1 ⟨rfl, rfl⟩))
      go_quiet ((go_at_call 81; exact Calls.quiet_of_same (last_any mu nb s _ _ (NB.drewN (unhide H) _) (unhide HF))))
      go_wp2
      go_ret
      exact ⟨by rw [unhide HE]; rfl, below_drewN (unhide HB) _⟩
    · have HE : Hid (s.asGood m = false) := by show _ = _; simp [Nd.asGood, unhide HTh, h1, h2]
      have h3 : (m.logTerm == t) = false := by simpa using h2
      clear h2
      go_enter Tryz.func109, Tryz.ntmps109
      go_wp2_with (first | (go_at_call 81; refine (last_any mu nb s _ _ (unhide H) (unhide HF)).mono ?_; rintro e w1 ⟨rfl, rfl⟩) | (go_at_call 114; refine (termOf_any mu nb s _ s.last _ (unhide H) (unhide HL) (Nat.le_refl _) hs).mono ?_; rw [unhide HTh]; rintro e w1 ⟨rfl, rfl⟩))
      go_quiet (fail)
      go_wp2
      go_ret
      exact ⟨by rw [unhide HE]; rfl, below_drewN (unhide HB) _⟩

end Go.Proofs.YteiecbkfganhnaaGreat

namespace Go.Proofs.YteiecbkfganhnaaGreat

open Go.RowKit Go.MuLone

set_option maxRecDepth 100000 in
set_option maxHeartbeats 1000000 in
theorem campaign_any (mu : Int) (nb : Nat) (s : Nd) (lv : Value) (r : Int) (w : World) (h : NB mu w nb s lv) (hid : s.id < 7) :
    Calls Tryz.prog 100 #[.pointer (some ⟨nb, 0, none⟩), .int .i64 r] w fun e w' => e = .returned (.tuple #[]) ∧ NB mu w' nb (s.campaign r) lv ∧ Ew nb w w' := by
  have c2 := h.c2
  have c7 := h.c7
  have c8 := h.c8
  have c10 := h.c10
  have f7 := h.free 7
  have f8 := h.free 8
  have f10 := h.free 10
  have hlt := h.lt
  have hN : NB mu (((w.setCell ⟨nb, 7, none⟩ (.int .i64 r)).setCell ⟨nb, 8, none⟩ (.int .i64 (-1))).setCell ⟨nb, 10, none⟩ (.int .i64 0)) nb { s with role := r, leads := -1, elapsed := 0 } lv := ((h.setRole r).setLeads (-1)).setElapsed 0
  have hE : Ew nb w (((w.setCell ⟨nb, 7, none⟩ (.int .i64 r)).setCell ⟨nb, 8, none⟩ (.int .i64 (-1))).setCell ⟨nb, 10, none⟩ (.int .i64 0)) := (((Ew.refl nb w).set 7 _).set 8 _).set 10 _
  have HN := hide hN
  have HE := hide hE
  clear h hN hE
  go_enter Tryz.func100, Tryz.ntmps100
  go_wp2_with fail
  clear c7 c8 c10 f7 f8 f10
  have e2 := (unhide HN).c2
  generalize ((w.setCell ⟨nb, 7, none⟩ (.int .i64 r)).setCell ⟨nb, 8, none⟩ (.int .i64 (-1))).setCell ⟨nb, 10, none⟩ (.int .i64 0) = W at *
  go_wp2_with (go_at_call 95; refine (with_any none7 s.id W hid).mono ?_; rintro e w1 ⟨rfl, hb⟩; have hN1 := (unhide HN).below hb; have k12 := hN1.c12; have k13 := hN1.c13; have k14 := hN1.c14; have k15 := hN1.c15; have k16 := hN1.c16; have k17 := hN1.c17; have k18 := hN1.c18; have f12 := hN1.free 12; have f13 := hN1.free 13; have f14 := hN1.free 14; have f15 := hN1.free 15; have f16 := hN1.free 16; have f17 := hN1.free 17; have f18 := hN1.free 18; replace hN1 := hide hN1; replace hb := hide hb)
  go_end0
  exact ⟨rfl, (unhide hN1).setGr _, (((((((((unhide HE).below (unhide hb)).set 12 _).set 13 _).set 14 _).set 15 _).set 16 _).set 17 _).set 18 _)⟩

end Go.Proofs.YteiecbkfganhnaaGreat

namespace Go.Proofs.YteiecbkfganhnaaGreat

open Go.RowKit Go.MuLone

/-- The cells of numbers. -/
def iC (l : List Nat) : List Value := l.map fun (k : Nat) => .int .i64 (k : Int)

theorem iC_append (a b : List Nat) : iC (a ++ b) = iC a ++ iC b := by simp [iC]

theorem iC_length (a : List Nat) : (iC a).length = a.length := by simp [iC]

theorem iC_get {a : List Nat} {k x : Nat} (h : a[k]? = some x) : (iC a)[k]? = some (.int .i64 (x : Int)) := by simp [iC, h]

theorem infoInt : (Tryz.prog.info? 3).map (fun i => (i.zero, i.size, i.bytes)) = some (some (.int .i64 0), 1, 8) := by kernel_rfl

def oth (id : Nat) (k : Nat) : List Nat := (List.range k).filter fun i => i ≠ id

theorem oth_yes {id k : Nat} (h : k ≠ id) : oth id (k + 1) = oth id k ++ [k] := by simp [oth, List.range_succ, List.filter_append, h]

theorem oth_no {id k : Nat} (h : k = id) : oth id (k + 1) = oth id k := by subst h; simp [oth, List.range_succ, List.filter_append]

theorem oth_len (id k : Nat) : (oth id k).length ≤ k := by have := List.length_filter_le (fun i => decide (i ≠ id)) (List.range k); simpa [oth] using this

set_option maxRecDepth 100000 in
set_option maxHeartbeats 1000000 in
theorem others_any (mu : Int) (nb : Nat) (s : Nd) (lv : Value) (w : World) (h : NB mu w nb s lv) (hn : s.n ≤ 7) :
    Calls Tryz.prog 99 #[.pointer (some ⟨nb, 0, none⟩)] w fun e w' => ∃ v, e = .returned v ∧ w'.ownsRow w.heap.size 3 1 v s.others.length (iC s.others) ∧ Below w.heap.size w w' := by
  have c3 := h.c3
  have H := hide h
  clear h
  obtain ⟨i0, hi, hz0, hz1, hz2⟩ := info_parts infoInt
  go_enter Tryz.func99, Tryz.ntmps99
  go_wp2
  go_loopw [3, 9] (fun l i wr => ∃ k : Nat, k ≤ s.n ∧ i = .int .i64 k ∧ wr.ownsRow w.heap.size 3 1 l (oth s.id k).length (iC (oth s.id k)) ∧ Below w.heap.size w wr) (fun _ i _ => s.n - (intOf i).toNat)
  case atStart => exact ⟨0, Nat.zero_le _, rfl, World.ownsRow_nil w _ _ _, Below.refl _ _⟩
  case round =>
    obtain ⟨k, hk, rfl, ho, hb⟩ := hrel
    have e2 := ((unhide H).below hb).c2
    obtain ⟨lo, lc, rfl⟩ := owns_form ho
    have hol := oth_len s.id k
    by_cases hlt : k < s.n
    · have i2 : (k : Int) < (s.n : Int) := by omega
      by_cases hid : k = s.id
      · have HO := hide (oth_no hid)
        rw [← hid] at e2
        have hd : ((k : Int) != (k : Int)) = false := by simp
        have hbw := hide hb
        have how := hide ho
        clear hb ho
        go_wp2
        go_roundw
        case rel => exact ⟨k + 1, by omega, by go_num, by rw [unhide HO]; exact unhide how, unhide hbw⟩
        case measure => simp [intOf]; omega
      · have HO := hide (oth_yes hid)
        have hd : ((k : Int) != (s.id : Int)) = true := by simp; omega
        have hbw := hide hb
        have how := hide ho
        clear hid hb ho
        go_wp2_with (at_builtin; go_must (refine wpList_append_own_at _ rfl (.tmp 18) (.tmp 20) 61 rfl w.heap.size 3 i0 _ 1 8 Tryz.underlying61 hi hz0 hz1 hz2 rfl (by decide) (.slice lo (oth s.id k).length lc) (oth s.id k).length (iC (oth s.id k)) rfl ((unhide how).alloc _) ⟨wr.heap.size, 0, none⟩ 1 1 [.int .i64 (k : Int)] rfl rfl (cell_one_new _ _ _) (by intro u hu; simp at hu; subst hu; rfl) (by unfold maxLen; omega) (by omega) (by have := (unhide hbw).size; simp; omega) ?_))
        intro v' w' h2 h3 _ _
        have HN : Hid (w'.ownsRow w.heap.size 3 1 v' (oth s.id (k + 1)).length (iC (oth s.id (k + 1)))) := by
          show World.ownsRow _ _ _ _ _ _ _
          rw [unhide HO, iC_append, List.length_append]
          exact h2
        have HB : Hid (Below w.heap.size w w') := ((unhide hbw).alloc (unhide hbw).size _).grown h3 (by have := (unhide hbw).size; simp; omega) (fun x hx => ((unhide how).lt x hx).1)
        clear h2 h3
        go_wp2
        go_roundw
        case rel => exact ⟨k + 1, by omega, by go_num, unhide HN, unhide HB⟩
        case measure => simp [intOf]; omega
    · have hkn : k = s.n := by omega
      subst hkn
      have how := hide ho
      have hbw := hide hb
      clear ho hb
      go_wp2
      go_ret
      exact ⟨_, rfl, unhide how, unhide hbw⟩

end Go.Proofs.YteiecbkfganhnaaGreat

namespace Go.Proofs.YteiecbkfganhnaaGreat

open Go.RowKit Go.MuLone

/-- The cells of a message; ev: its entries' slice. -/
def mcells (m : Msg) (ev : Value) : List Value := [.int .i64 m.kind, .int .i64 m.src, .int .i64 m.dst, .int .i64 m.term, .int .i64 m.index, .int .i64 m.logTerm, .int .i64 m.commit, ev, .bool m.granted]

/-- The cells of messages. -/
def mC (l : List (Msg × Value)) : List Value := l.flatMap fun x => mcells x.1 x.2

theorem mC_cons (x : Msg × Value) (l : List (Msg × Value)) : mC (x :: l) = mcells x.1 x.2 ++ mC l := rfl

theorem mC_append (a b : List (Msg × Value)) : mC (a ++ b) = mC a ++ mC b := by simp [mC]

theorem mC_length (l : List (Msg × Value)) : (mC l).length = l.length * 9 := by
  induction l with
  | nil => rfl
  | cons x l ih => rw [mC_cons, List.length_append, ih, List.length_cons]; simp [mcells]; omega

theorem mC_get (l : List (Msg × Value)) (k : Nat) (x : Msg × Value) (h : l[k]? = some x) (o : Nat) (ho : o < 9) : (mC l)[k * 9 + o]? = (mcells x.1 x.2)[o]? := by
  induction l generalizing k with
  | nil => simp at h
  | cons y l ih =>
    cases k with
    | zero =>
      simp only [List.getElem?_cons_zero, Option.some.injEq] at h
      subst h
      rw [mC_cons, Nat.zero_mul, Nat.zero_add, List.getElem?_append_left (by simpa [mcells] using ho)]
    | succ k =>
      have := ih k (by simpa using h)
      rw [mC_cons, List.getElem?_append_right (by simp [mcells]; omega), ← this]
      congr 1
      simp [mcells]
      omega

theorem mC_set (l : List (Msg × Value)) (j : Nat) (x : Msg × Value) : ((((((((((mC l).set (j * 9) (.int .i64 x.1.kind)).set (j * 9 + 1) (.int .i64 x.1.src)).set (j * 9 + 2) (.int .i64 x.1.dst)).set (j * 9 + 3) (.int .i64 x.1.term)).set (j * 9 + 4) (.int .i64 x.1.index)).set (j * 9 + 5) (.int .i64 x.1.logTerm)).set (j * 9 + 6) (.int .i64 x.1.commit)).set (j * 9 + 7) (x.2)).set (j * 9 + 8) (.bool x.1.granted)) = mC (l.set j x) := by
  induction l generalizing j with
  | nil => rfl
  | cons y l ih =>
    cases j with
    | zero => rfl
    | succ j =>
      rw [show (j + 1) * 9 = j * 9 + 1 + 1 + 1 + 1 + 1 + 1 + 1 + 1 + 1 by omega, List.set_cons_succ, mC_cons, mC_cons, ← ih j]
      rfl

theorem owns_set1 {w : World} {base e size n cap g j : Nat} {xs : List Value} (u : Value) (h : w.ownsRow base e size (.slice (some ⟨g, 0, none⟩) n cap) n xs) :
    (w.setCell ⟨g, j, none⟩ u).ownsRow base e size (.slice (some ⟨g, 0, none⟩) n cap) n (xs.set j u) := by
  obtain ⟨hl, hr⟩ := h
  refine ⟨by rw [List.length_set]; exact hl, ?_⟩
  rcases hr with ⟨hv, _⟩ | ⟨g', cap', cur, hv, hg, hh, h1, h2, h3, h4⟩
  · simp at hv
  · simp only [Value.slice.injEq, Option.some.injEq, Addr.mk.injEq, and_true, true_and] at hv
    obtain ⟨rfl, rfl⟩ := hv
    refine .inr ⟨g, cap, cur.setIfInBounds j u, rfl, hg, heap_setCell_same w g _ cur e _ hh, h1, h2, by simpa using h3, ?_⟩
    simp only [Array.toList_setIfInBounds, List.take_set, h4]

def set9 (w : World) (g j : Nat) (x : Msg × Value) : World := (((((((((w.setCell ⟨g, j * 9, none⟩ (.int .i64 x.1.kind)).setCell ⟨g, j * 9 + 1, none⟩ (.int .i64 x.1.src)).setCell ⟨g, j * 9 + 2, none⟩ (.int .i64 x.1.dst)).setCell ⟨g, j * 9 + 3, none⟩ (.int .i64 x.1.term)).setCell ⟨g, j * 9 + 4, none⟩ (.int .i64 x.1.index)).setCell ⟨g, j * 9 + 5, none⟩ (.int .i64 x.1.logTerm)).setCell ⟨g, j * 9 + 6, none⟩ (.int .i64 x.1.commit)).setCell ⟨g, j * 9 + 7, none⟩ x.2).setCell ⟨g, j * 9 + 8, none⟩ (.bool x.1.granted))

theorem owns_set9 {w : World} {base e n cap g : Nat} {l : List (Msg × Value)} (j : Nat) (x : Msg × Value) (h : w.ownsRow base e 9 (.slice (some ⟨g, 0, none⟩) n cap) n (mC l)) :
    (set9 w g j x).ownsRow base e 9 (.slice (some ⟨g, 0, none⟩) n cap) n (mC (l.set j x)) := by
  rw [← mC_set]
  exact owns_set1 _ (owns_set1 _ (owns_set1 _ (owns_set1 _ (owns_set1 _ (owns_set1 _ (owns_set1 _ (owns_set1 _ (owns_set1 _ h))))))))

theorem heap_set9 {w : World} {g j b : Nat} {x : Msg × Value} (h : b ≠ g) : (set9 w g j x).heap[b]? = w.heap[b]? := by
  unfold set9
  rw [Below.heap_setCell _ _ _ _ h, Below.heap_setCell _ _ _ _ h, Below.heap_setCell _ _ _ _ h, Below.heap_setCell _ _ _ _ h, Below.heap_setCell _ _ _ _ h, Below.heap_setCell _ _ _ _ h, Below.heap_setCell _ _ _ _ h, Below.heap_setCell _ _ _ _ h, Below.heap_setCell _ _ _ _ h]

theorem below_set9 {B : Nat} {a w : World} {g j : Nat} {x : Msg × Value} (h : Below B a w) (hB : B ≤ g) : Below B a (set9 w g j x) :=
  (((((((((h.setCell (p := ⟨g, _, none⟩) hB _).setCell (p := ⟨g, _, none⟩) hB _).setCell (p := ⟨g, _, none⟩) hB _).setCell (p := ⟨g, _, none⟩) hB _).setCell (p := ⟨g, _, none⟩) hB _).setCell (p := ⟨g, _, none⟩) hB _).setCell (p := ⟨g, _, none⟩) hB _).setCell (p := ⟨g, _, none⟩) hB _).setCell (p := ⟨g, _, none⟩) hB _)

theorem owns_at {w : World} {base e size n cap : Nat} {vo : Option Addr} {xs : List Value} (h : w.ownsRow base e size (.slice vo n cap) n xs) {j : Nat} (hj : j < xs.length) :
    ∃ g, vo = some ⟨g, 0, none⟩ ∧ w.frozen? ⟨g, j, none⟩ = false ∧ w.cell? ⟨g, j, none⟩ = some xs[j] := by
  rcases h.2 with ⟨hv, h0⟩ | ⟨g', cap', cur, hv, hg, hh, h1, h2, h3, h4⟩
  · have := h.1; simp [h0] at this; subst this; simp at hj
  · simp only [Value.slice.injEq, true_and] at hv
    obtain ⟨rfl, rfl⟩ := hv
    refine ⟨g', rfl, frozen_of_row w g' _ cur e hh, ?_⟩
    have := h.cells (g := g') rfl j xs[j] (by simp [hj])
    rwa [add0] at this

/-- A slice value that reads as these numbers. -/
def IntsIn (w : World) (v : Value) (ts : List Int) : Prop :=
  ∃ ao cap, v = .slice ao ts.length cap ∧ ∀ k t, ts[k]? = some t → ∃ b off, ao = some ⟨b, off, none⟩ ∧ w.cell? ⟨b, off + k, none⟩ = some (.int .i64 t)

theorem ints_of_owns {w : World} {base e : Nat} {v : Value} {l : List Nat} (h : w.ownsRow base e 1 v l.length (iC l)) : IntsIn w v (l.map fun (k : Nat) => (k : Int)) := by
  obtain ⟨ao, cap, rfl⟩ := owns_form h
  refine ⟨ao, cap, by simp, fun k t hk => ?_⟩
  simp only [List.getElem?_map, Option.map_eq_some_iff] at hk
  obtain ⟨x, hx, rfl⟩ := hk
  have hlt : k < (iC l).length := by rw [iC_length]; exact (List.getElem?_eq_some_iff.1 hx).1
  obtain ⟨g, rfl, _, hc⟩ := owns_at h hlt
  refine ⟨g, 0, rfl, ?_⟩
  have h2 := iC_get hx
  rw [List.getElem?_eq_getElem hlt, Option.some.injEq] at h2
  rw [Nat.zero_add, hc, h2]

/-- Messages that came out: a row of their own, and each one's entries a row of its own. -/
structure MsgsOut (w : World) (base : Nat) (v : Value) (ms : List Msg) (l : List (Msg × Value)) : Prop where
  fst : l.map Prod.fst = ms
  row : w.ownsRow base 30 9 v ms.length (mC l)
  ents : ∀ x ∈ l, w.ownsRow base 66 2 x.2 x.1.ents.length (eC x.1.ents)
  apart : l.Pairwise fun x y => ∀ b, x.2.ownBlock = some b → y.2.ownBlock ≠ some b

theorem MsgsOut.ew {nb : Nat} {w w' : World} {base : Nat} {v : Value} {ms : List Msg} {l : List (Msg × Value)} (h : MsgsOut w base v ms l) (hb : Ew nb w w') (hn : nb < base) : MsgsOut w' base v ms l :=
  ⟨h.fst, owns_kept h.row fun x hx => hb.block x (owns_lt h.row x hx) (by have := (h.row.lt x hx).1; omega), fun y hy => owns_kept (h.ents y hy) fun x hx => hb.block x (owns_lt (h.ents y hy) x hx) (by have := ((h.ents y hy).lt x hx).1; omega), h.apart⟩

theorem MsgsOut.base {w : World} {base base' : Nat} {v : Value} {ms : List Msg} {l : List (Msg × Value)} (h : MsgsOut w base v ms l) (hb : base' ≤ base) : MsgsOut w base' v ms l :=
  ⟨h.fst, owns_base h.row hb, fun x hx => owns_base (h.ents x hx) hb, h.apart⟩

theorem MsgsOut.nil (w : World) (base : Nat) : MsgsOut w base (.slice none 0 0) [] [] :=
  ⟨rfl, World.ownsRow_nil w _ _ _, fun x hx => by simp at hx, List.Pairwise.nil⟩

theorem infoMsg : (Tryz.prog.info? 30).map (fun i => (i.zero, i.size, i.bytes)) = some (some (.agg #[.int .i64 0, .int .i64 0, .int .i64 0, .int .i64 0, .int .i64 0, .int .i64 0, .int .i64 0, .slice none 0 0, .bool false]), 9, 88) := by kernel_rfl

end Go.Proofs.YteiecbkfganhnaaGreat

namespace Go.Proofs.YteiecbkfganhnaaGreat

open Go.RowKit

abbrev tM (i : Nat) : Nat × Nat := (20 * i + 8, 0)

abbrev tWM (i : Nat) : Nat × Nat := (20 * i + 9, 0)

abbrev tRM (i : Nat) : Nat × Nat := (20 * i + 12, 0)

abbrev tLM (i k : Nat) : Nat × Nat := (20 * i + 13, k)

abbrev tLX (i k j : Nat) : Nat × Nat := (20 * i + 14, 8 * k + j)

/-- Messages in a row of their own, the entries of each in a row of its own. -/
structure MRow (w : World) (tg : Tags) (T : Nat × Nat) (X : Nat → Nat × Nat) (v : Value) (l : List (Msg × Value)) : Prop where
  row : Own w tg T 30 9 v l.length (mC l)
  ents : ∀ j y, l[j]? = some y → Own w tg (X j) 66 2 y.2 y.1.ents.length (eC y.1.ents)

theorem MRow.step {A : Nat × Nat → Prop} {w w' : World} {tg tg' : Tags} {T : Nat × Nat} {X : Nat → Nat × Nat} {v : Value} {l : List (Msg × Value)} (h : MRow w tg T X v l) (hs : Stp A w tg w' tg') (h1 : ¬ A T) (h2 : ∀ j, j < l.length → ¬ A (X j)) : MRow w' tg' T X v l :=
  ⟨h.row.step hs h1, fun j y hj => (h.ents j y hj).step hs (h2 j (List.getElem?_eq_some_iff.1 hj).1)⟩

/-- A slice value that reads as these messages. -/
def MsgsIn (w : World) (v : Value) (l : List (Msg × Value)) : Prop :=
  ∃ ao cap, v = .slice ao l.length cap ∧ ∀ k y, l[k]? = some y → (∃ b off, ao = some ⟨b, off, none⟩ ∧ w.cell? ⟨b, off + k * 9, none⟩ = some (.int .i64 y.1.kind) ∧ w.cell? ⟨b, off + k * 9 + 1, none⟩ = some (.int .i64 y.1.src) ∧ w.cell? ⟨b, off + k * 9 + 2, none⟩ = some (.int .i64 y.1.dst) ∧ w.cell? ⟨b, off + k * 9 + 3, none⟩ = some (.int .i64 y.1.term) ∧ w.cell? ⟨b, off + k * 9 + 4, none⟩ = some (.int .i64 y.1.index) ∧ w.cell? ⟨b, off + k * 9 + 5, none⟩ = some (.int .i64 y.1.logTerm) ∧ w.cell? ⟨b, off + k * 9 + 6, none⟩ = some (.int .i64 y.1.commit) ∧ w.cell? ⟨b, off + k * 9 + 7, none⟩ = some y.2 ∧ w.cell? ⟨b, off + k * 9 + 8, none⟩ = some (.bool y.1.granted)) ∧ EntsIn w y.2 y.1.ents

theorem msgs_of_owns {w : World} {base : Nat} {v : Value} {l : List (Msg × Value)} (h : w.ownsRow base 30 9 v l.length (mC l)) (he : ∀ y ∈ l, EntsIn w y.2 y.1.ents) : MsgsIn w v l := by
  obtain ⟨ao, cap, rfl⟩ := owns_form h
  refine ⟨ao, cap, rfl, fun k y hk => ⟨?_, he y (List.mem_of_getElem? hk)⟩⟩
  have hc : ∀ o u, o < 9 → (mcells y.1 y.2)[o]? = some u → ∃ g, ao = some ⟨g, 0, none⟩ ∧ w.cell? ⟨g, k * 9 + o, none⟩ = some u := by
    intro o u ho hu
    have h1 := (mC_get l k y hk o ho).trans hu
    obtain ⟨hlt, hx⟩ := List.getElem?_eq_some_iff.1 h1
    obtain ⟨g, h2, _, h3⟩ := owns_at h hlt
    exact ⟨g, h2, by rw [h3, hx]⟩
  obtain ⟨g, rfl, h0⟩ := hc 0 _ (by decide) rfl
  have hd : ∀ o u, o < 9 → (mcells y.1 y.2)[o]? = some u → w.cell? ⟨g, 0 + k * 9 + o, none⟩ = some u := by
    intro o u ho hu
    obtain ⟨g', h2, h3⟩ := hc o u ho hu
    simp only [Option.some.injEq, Addr.mk.injEq, and_true] at h2
    subst h2
    rw [Nat.zero_add]
    exact h3
  exact ⟨g, 0, rfl, hd 0 _ (by decide) rfl, hd 1 _ (by decide) rfl, hd 2 _ (by decide) rfl, hd 3 _ (by decide) rfl, hd 4 _ (by decide) rfl, hd 5 _ (by decide) rfl, hd 6 _ (by decide) rfl, hd 7 _ (by decide) rfl, hd 8 _ (by decide) rfl⟩

theorem MRow.reads {w : World} {tg : Tags} {T : Nat × Nat} {X : Nat → Nat × Nat} {v : Value} {l : List (Msg × Value)} (h : MRow w tg T X v l) : MsgsIn w v l :=
  msgs_of_owns h.row.1 fun y hy => by
    obtain ⟨j, hj, rfl⟩ := List.getElem_of_mem hy
    exact ents_of_owns (h.ents j _ (List.getElem?_eq_getElem hj)).1

theorem msgs_below {w w' : World} {v : Value} {l : List (Msg × Value)} (h : MsgsIn w v l) (hb : Below w.heap.size w w') : MsgsIn w' v l := by
  obtain ⟨ao, cap, hv, he⟩ := h
  refine ⟨ao, cap, hv, fun k y hk => ?_⟩
  obtain ⟨⟨b, off, ha, h0, h1, h2, h3, h4, h5, h6, h7, h8⟩, hE⟩ := he k y hk
  have hc : ∀ {o u}, w.cell? ⟨b, o, none⟩ = some u → w'.cell? ⟨b, o, none⟩ = some u := fun {o u} hx => (hb.cell (p := ⟨b, o, none⟩) (block_lt_of_cell hx)).trans hx
  exact ⟨⟨b, off, ha, hc h0, hc h1, hc h2, hc h3, hc h4, hc h5, hc h6, hc h7, hc h8⟩, ents_below hE hb⟩

/-- Messages that wait: beside each list what it was. -/
structure WaitM (i : Nat) (w : World) (tg : Tags) (wm rm : Value) (l : List (List Msg)) : Prop where
  rows : ∃ xs ys, Own w tg (tWM i) 62 1 wm l.length xs ∧ Own w tg (tRM i) 62 1 rm l.length ys ∧
    ∀ k ms, l[k]? = some ms → (ms.length ≤ 7 ∧ ∀ m ∈ ms, m.ents.length ≤ 3) ∧ ∃ v r vl rl, xs[k]? = some v ∧ ys[k]? = some r ∧ vl.map Prod.fst = ms ∧ rl.map Prod.fst = ms ∧ MRow w tg (tLM i k) (tLX i k) v vl ∧ MRow w tg (0, 0) (fun _ => (0, 0)) r rl

theorem WaitM.step {i : Nat} {w w' : World} {tg tg' : Tags} {wm rm : Value} {l : List (List Msg)} {A : Nat × Nat → Prop} (h : WaitM i w tg wm rm l) (hs : Stp A w tg w' tg')
    (h1 : ¬ A (tWM i)) (h2 : ¬ A (tRM i)) (h3 : ∀ k, ¬ A (tLM i k)) (h4 : ∀ k j, ¬ A (tLX i k j)) (h5 : ¬ A (0, 0)) : WaitM i w' tg' wm rm l := by
  obtain ⟨xs, ys, hx, hy, hl⟩ := h.rows
  refine ⟨xs, ys, hx.step hs h1, hy.step hs h2, fun k ms hk => ?_⟩
  obtain ⟨hb, v, r, vl, rl, e1, e2, e3, e4, e5, e6⟩ := hl k ms hk
  exact ⟨hb, v, r, vl, rl, e1, e2, e3, e4, e5.step hs (h3 k) (fun j _ => h4 k j), e6.step hs h5 (fun _ _ => h5)⟩

/-- The mark of the messages of a group. -/
abbrev mkM (q : Nat) : List Value := [.int .i64 (-1 - (q : Int)), .int .i64 0, .int .i64 0, .int .i64 0, .int .i64 0, .int .i64 0, .int .i64 0, .slice none 0 0, .bool false]

/-- A slice that reads as p copies of a mark; its block is done with. -/
def SeenM (w : World) (tg : Tags) (v : Value) (q p : Nat) : Prop :=
  ∃ ao cap, v = .slice ao p cap ∧ (p ≠ 0 → ∃ b, ao = some ⟨b, 0, none⟩ ∧ tg b = (0, 0) ∧ b < w.heap.size ∧ ∀ j u, (rep (mkM q) p)[j]? = some u → w.cell? ⟨b, j, none⟩ = some u)

theorem SeenM.step {A : Nat × Nat → Prop} {w w' : World} {tg tg' : Tags} {v : Value} {q p : Nat} (h : SeenM w tg v q p) (hs : Stp A w tg w' tg') (h0 : ¬ A (0, 0)) : SeenM w' tg' v q p := by
  obtain ⟨ao, cap, hv, hp⟩ := h
  refine ⟨ao, cap, hv, fun hne => ?_⟩
  obtain ⟨b, h1, h2, h3, h4⟩ := hp hne
  have hk := hs.keep b h3 (by rw [h2]; exact h0)
  exact ⟨b, h1, hk.2.trans h2, Nat.lt_of_lt_of_le h3 hs.size, fun j u hj => (World.cell?_of_block (a := ⟨b, j, none⟩) hk.1).trans (h4 j u hj)⟩

structure MarkM (i : Nat) (w : World) (tg : Tags) (m : Value) (n : Nat) : Prop where
  rows : ∃ xs, Own w tg (tM i) 62 1 m (4 * n) xs ∧ ∀ k v, xs[k]? = some v → ∃ p, p ≤ 20 ∧ SeenM w tg v (k / 4) p

theorem MarkM.step {i : Nat} {w w' : World} {tg tg' : Tags} {m : Value} {n : Nat} {A : Nat × Nat → Prop} (h : MarkM i w tg m n) (hs : Stp A w tg w' tg') (h1 : ¬ A (tM i)) (h4 : ¬ A (0, 0)) : MarkM i w' tg' m n := by
  obtain ⟨xs, hx, hl⟩ := h.rows
  refine ⟨xs, hx.step hs h1, fun k v hv => ?_⟩
  obtain ⟨p, hp, ho⟩ := hl k v hv
  exact ⟨p, hp, ho.step hs h4⟩

end Go.Proofs.YteiecbkfganhnaaGreat

namespace Go.Proofs.YteiecbkfganhnaaGreat

open Go.RowKit Go.MuLone

def zMsg : Msg := { kind := 0, src := 0, dst := 0, term := 0, index := 0, logTerm := 0, commit := 0, ents := [], granted := false }

theorem made_mC (n : Nat) : (madeCells #[.int .i64 0, .int .i64 0, .int .i64 0, .int .i64 0, .int .i64 0, .int .i64 0, .int .i64 0, .slice none 0 0, .bool false] (n * 9)).toList = mC (List.replicate n (zMsg, .slice none 0 0)) := by
  apply List.ext_getElem?
  intro i
  by_cases hi : i < n * 9
  · have hk : (List.replicate n (zMsg, Value.slice none 0 0))[i / 9]? = some (zMsg, .slice none 0 0) := by rw [List.getElem?_replicate, if_pos (by omega)]
    have hg := mC_get _ _ _ hk (i % 9) (by omega)
    rw [show i / 9 * 9 + i % 9 = i by omega] at hg
    rw [hg]
    have h9 : i % 9 = 0 ∨ i % 9 = 1 ∨ i % 9 = 2 ∨ i % 9 = 3 ∨ i % 9 = 4 ∨ i % 9 = 5 ∨ i % 9 = 6 ∨ i % 9 = 7 ∨ i % 9 = 8 := by omega
    rcases h9 with h | h | h | h | h | h | h | h | h <;> simp [madeCells, hi, h, mcells, zMsg]
  · rw [List.getElem?_eq_none (by simp [size_madeCells]; omega), List.getElem?_eq_none (by rw [mC_length]; simp; omega)]

def toAll (m : Msg) (id : Int) (ts : List Int) : List (Msg × Value) := ts.map fun t => ({ m with src := id, dst := t }, .slice none 0 0)

theorem toAll_length (m : Msg) (id : Int) (ts : List Int) : (toAll m id ts).length = ts.length := by simp [toAll]

theorem list_put {α : Type} (l : List α) (k : Nat) (hk : k < l.length) (z : α) : (l.take k ++ List.replicate (l.length - k) z).set k l[k] = l.take (k + 1) ++ List.replicate (l.length - (k + 1)) z := by
  have hl : (l.take k).length = k := by simp; omega
  rw [List.set_append_right _ _ (by omega), hl, Nat.sub_self, show l.length - k = (l.length - (k + 1)) + 1 by omega, List.replicate_succ, List.set_cons_zero, List.take_succ_eq_append_getElem hk, List.append_assoc]
  rfl

theorem toAll_out {w : World} {base : Nat} {v : Value} {m : Msg} {id : Int} {ts : List Int} (hm : m.ents = []) (h : w.ownsRow base 30 9 v ts.length (mC (toAll m id ts))) :
    MsgsOut w base v (ts.map fun t => { m with src := id, dst := t }) (toAll m id ts) := by
  refine ⟨by simp [toAll], by simpa using h, fun x hx => ?_, ?_⟩
  · simp only [toAll, List.mem_map] at hx
    obtain ⟨t, _, rfl⟩ := hx
    simp only [hm]
    exact World.ownsRow_nil w _ _ _
  · simp only [toAll, List.pairwise_map]
    exact List.Pairwise.imp (R := fun _ _ => True) (fun _ b hb => by simp [Value.ownBlock] at hb) (List.pairwise_of_forall (fun _ _ => trivial))

set_option maxRecDepth 100000 in
set_option maxHeartbeats 2000000 in
theorem send_any (mu : Int) (nb : Nat) (s : Nd) (lv : Value) (m : Msg) (ts : List Int) (tv : Value) (w : World) (h : NB mu w nb s lv) (hm : m.ents = []) (ht : IntsIn w tv ts) (hn : ts.length ≤ 7) :
    Calls Tryz.prog 111 #[.pointer (some ⟨nb, 0, none⟩), magg m (.slice none 0 0), tv] w fun e w' => ∃ v, e = .returned v ∧ MsgsOut w' w.heap.size v (ts.map fun t => { m with src := (s.id : Int), dst := t }) (toAll m s.id ts) ∧ Below w.heap.size w w' := by
  have c2 := h.c2
  have hlt := h.lt
  have hne : ¬ nb = w.heap.size := by omega
  obtain ⟨ao, cap, rfl, ha⟩ := ht
  have HA := hide ha
  have HM := hide hm
  clear ha h hm
  obtain ⟨i0, hi, hz0, hz1, hz2⟩ := info_parts infoMsg
  go_enter Tryz.func111, Tryz.ntmps111
  go_wp2_with (at_make; go_must (refine wpList_make_full _ rfl (.tmp 16) (.tmp 16) 62 rfl (w.heap.size + 1) 30 i0 _ 9 Tryz.underlying62 hi hz0 hz1 .i64 .i64 (ts.length : Int) (ts.length : Int) ts.length rfl rfl rfl rfl (by rw [hz2]; omega) (by unfold maxLen; omega) (by simp) ?_))
  intro w1 hown1 hgrow1
  rw [made_mC] at hown1
  have hb1 : Below (w.heap.size + 1) (w.alloc (.cells #[.int .i64 m.kind, .int .i64 (s.id : Int), .int .i64 m.dst, .int .i64 m.term, .int .i64 m.index, .int .i64 m.logTerm, .int .i64 m.commit, .slice none 0 0, .bool m.granted] 30)) w1 := (Below.refl _ _).grown hgrow1 (by simp) (by intro k hk; simp at hk)
  have hbx : w1.heap[w.heap.size]? = some (.cells #[.int .i64 m.kind, .int .i64 (s.id : Int), .int .i64 m.dst, .int .i64 m.term, .int .i64 m.index, .int .i64 m.logTerm, .int .i64 m.commit, .slice none 0 0, .bool m.granted] 30 (0, 0)) := (hb1.block w.heap.size (by omega)).trans (heap_alloc_new w _)
  have hbw : Below w.heap.size w w1 := (below_alloc w _).trans (hb1.mono (Nat.le_succ _))
  have HO := hide hown1
  have HX := hide hbx
  have HB := hide hbw
  clear hown1 hgrow1 hb1 hbx hbw c2
  go_wp2
  go_loopw [20] (fun i wr => ∃ (k : Nat) (x : Int), k ≤ ts.length ∧ i = .int .i64 k ∧ wr.heap[w.heap.size]? = some (.cells #[.int .i64 m.kind, .int .i64 (s.id : Int), .int .i64 x, .int .i64 m.term, .int .i64 m.index, .int .i64 m.logTerm, .int .i64 m.commit, .slice none 0 0, .bool m.granted] 30 (0, 0)) ∧ wr.ownsRow (w.heap.size + 1) 30 9 (.slice (some ⟨w.heap.size + 1, 0, none⟩) ts.length ts.length) ts.length (mC ((toAll m s.id ts).take k ++ List.replicate ((toAll m s.id ts).length - k) (zMsg, .slice none 0 0))) ∧ Below w.heap.size w wr) (fun i _ => ts.length - (intOf i).toNat)
  case atStart => exact ⟨0, m.dst, Nat.zero_le _, rfl, unhide HX, by simpa [toAll_length] using unhide HO, unhide HB⟩
  case round =>
    obtain ⟨k, x, hk, rfl, hx, ho, hb⟩ := hrel
    by_cases hlt : k < ts.length
    · obtain ⟨b, off, rfl, a0'⟩ := (unhide HA) k _ (show ts[k]? = some ts[k] by simp [hlt])
      have a0 := (hb.cell (p := ⟨b, off + k, none⟩) (block_lt_of_cell a0')).trans a0'
      have HK := hide (list_put (toAll m s.id ts) k (by rw [toAll_length]; exact hlt) (zMsg, .slice none 0 0))
      have hel : (toAll m s.id ts)[k]'(by rw [toAll_length]; exact hlt) = ({ m with src := (s.id : Int), dst := ts[k] }, .slice none 0 0) := by simp [toAll]
      rw [hel] at HK
      have hin : ∀ o, o < 9 → k * 9 + o < (mC ((toAll m s.id ts).take k ++ List.replicate ((toAll m s.id ts).length - k) (zMsg, .slice none 0 0))).length := by
        intro o ho9
        rw [mC_length, List.length_append, List.length_take, List.length_replicate, toAll_length]
        omega
      have hat : ∀ o, o < 9 → wr.frozen? ⟨w.heap.size + 1, k * 9 + o, none⟩ = false ∧ ∃ a, wr.cell? ⟨w.heap.size + 1, k * 9 + o, none⟩ = some a := by
        intro o ho9
        obtain ⟨g, hg, h1, h2⟩ := owns_at ho (hin o ho9)
        simp only [Option.some.injEq, Addr.mk.injEq, and_true] at hg
        subst hg
        exact ⟨h1, _, h2⟩
      obtain ⟨g0, y0, d0⟩ : wr.frozen? ⟨w.heap.size + 1, k * 9, none⟩ = false ∧ ∃ a, wr.cell? ⟨w.heap.size + 1, k * 9, none⟩ = some a := hat 0 (by decide)
      obtain ⟨g1, y1, d1⟩ : wr.frozen? ⟨w.heap.size + 1, k * 9 + 1, none⟩ = false ∧ ∃ a, wr.cell? ⟨w.heap.size + 1, k * 9 + 1, none⟩ = some a := hat 1 (by decide)
      obtain ⟨g2, y2, d2⟩ : wr.frozen? ⟨w.heap.size + 1, k * 9 + 2, none⟩ = false ∧ ∃ a, wr.cell? ⟨w.heap.size + 1, k * 9 + 2, none⟩ = some a := hat 2 (by decide)
      obtain ⟨g3, y3, d3⟩ : wr.frozen? ⟨w.heap.size + 1, k * 9 + 3, none⟩ = false ∧ ∃ a, wr.cell? ⟨w.heap.size + 1, k * 9 + 3, none⟩ = some a := hat 3 (by decide)
      obtain ⟨g4, y4, d4⟩ : wr.frozen? ⟨w.heap.size + 1, k * 9 + 4, none⟩ = false ∧ ∃ a, wr.cell? ⟨w.heap.size + 1, k * 9 + 4, none⟩ = some a := hat 4 (by decide)
      obtain ⟨g5, y5, d5⟩ : wr.frozen? ⟨w.heap.size + 1, k * 9 + 5, none⟩ = false ∧ ∃ a, wr.cell? ⟨w.heap.size + 1, k * 9 + 5, none⟩ = some a := hat 5 (by decide)
      obtain ⟨g6, y6, d6⟩ : wr.frozen? ⟨w.heap.size + 1, k * 9 + 6, none⟩ = false ∧ ∃ a, wr.cell? ⟨w.heap.size + 1, k * 9 + 6, none⟩ = some a := hat 6 (by decide)
      obtain ⟨g7, y7, d7⟩ : wr.frozen? ⟨w.heap.size + 1, k * 9 + 7, none⟩ = false ∧ ∃ a, wr.cell? ⟨w.heap.size + 1, k * 9 + 7, none⟩ = some a := hat 7 (by decide)
      obtain ⟨g8, y8, d8⟩ : wr.frozen? ⟨w.heap.size + 1, k * 9 + 8, none⟩ = false ∧ ∃ a, wr.cell? ⟨w.heap.size + 1, k * 9 + 8, none⟩ = some a := hat 8 (by decide)
      have x0 : wr.cell? ⟨w.heap.size, 0, none⟩ = some (.int .i64 m.kind) := cell_of_row wr w.heap.size 0 _ _ _ hx
      have x1 : wr.cell? ⟨w.heap.size, 1, none⟩ = some (.int .i64 (s.id : Int)) := cell_of_row wr w.heap.size 1 _ _ _ hx
      have x2 : wr.cell? ⟨w.heap.size, 2, none⟩ = some (.int .i64 x) := cell_of_row wr w.heap.size 2 _ _ _ hx
      have x3 : wr.cell? ⟨w.heap.size, 3, none⟩ = some (.int .i64 m.term) := cell_of_row wr w.heap.size 3 _ _ _ hx
      have x4 : wr.cell? ⟨w.heap.size, 4, none⟩ = some (.int .i64 m.index) := cell_of_row wr w.heap.size 4 _ _ _ hx
      have x5 : wr.cell? ⟨w.heap.size, 5, none⟩ = some (.int .i64 m.logTerm) := cell_of_row wr w.heap.size 5 _ _ _ hx
      have x6 : wr.cell? ⟨w.heap.size, 6, none⟩ = some (.int .i64 m.commit) := cell_of_row wr w.heap.size 6 _ _ _ hx
      have x7 : wr.cell? ⟨w.heap.size, 7, none⟩ = some (.slice none 0 0) := cell_of_row wr w.heap.size 7 _ _ _ hx
      have x8 : wr.cell? ⟨w.heap.size, 8, none⟩ = some (.bool m.granted) := cell_of_row wr w.heap.size 8 _ _ _ hx
      have z2 := frozen_of_row wr w.heap.size 2 _ _ hx
      have i1 : (0 : Int) ≤ (k : Int) := by omega
      have i2 : (k : Int) < (ts.length : Int) := by omega
      have hne2 : ¬ w.heap.size + 1 = w.heap.size := by omega
      have HX1 := hide hx
      have HO1 := hide ho
      have HB1 := hide hb
      clear a0' hat hin hx ho hb HO HX HB hel
      generalize ts[k] = t at *
      go_wp2
      refine ⟨⟨k + 1, t, by omega, by go_num, ?_, ?_, ?_⟩, by simp [intOf]; omega⟩
      · exact (heap_set9 (w := wr.setCell ⟨w.heap.size, 2, none⟩ (.int .i64 t)) (g := w.heap.size + 1) (j := k) (x := ({ m with src := (s.id : Int), dst := t }, .slice none 0 0)) (by omega)).trans (heap_setCell_same wr w.heap.size 2 _ _ _ (unhide HX1))
      · rw [← unhide HK]
        exact owns_set9 k ({ m with src := (s.id : Int), dst := t }, .slice none 0 0) (owns_set (unhide HO1) (a := ⟨w.heap.size, 2, none⟩) (Nat.lt_succ_self _) (.int .i64 t))
      · exact below_set9 (g := w.heap.size + 1) (j := k) (x := ({ m with src := (s.id : Int), dst := t }, .slice none 0 0)) ((unhide HB1).setCell (p := ⟨w.heap.size, 2, none⟩) (Nat.le_refl _) (.int .i64 t)) (Nat.le_succ _)
    · have hkn : k = ts.length := by omega
      subst hkn
      have HO1 : Hid (wr.ownsRow (w.heap.size + 1) 30 9 (.slice (some ⟨w.heap.size + 1, 0, none⟩) ts.length ts.length) ts.length (mC (toAll m s.id ts))) := by
        show World.ownsRow _ _ _ _ _ _ _
        have h2 := ho
        rw [List.take_of_length_le (by rw [toAll_length]; exact Nat.le_refl _), toAll_length, Nat.sub_self] at h2
        simpa using h2
      have HB1 := hide hb
      clear ho hb hx
      go_wp2
      go_ret
      exact ⟨_, rfl, toAll_out (unhide HM) (owns_base (unhide HO1) (Nat.le_succ _)), unhide HB1⟩

end Go.Proofs.YteiecbkfganhnaaGreat
