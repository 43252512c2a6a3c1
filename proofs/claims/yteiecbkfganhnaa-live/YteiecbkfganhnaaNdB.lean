/- A node by the document: what is told it, what it is asked: plain data. -/
import Derived.Test.YteiecbkfganhnaaInv
namespace Go.Proofs.Yteiecbkfganhnaa

def numOk (x : Int) : Bool := decide (0 ≤ x) && decide (x ≤ 1000000)
def srcOk (x n : Int) : Bool := decide (0 ≤ x) && decide (x < n)
def soundM (m : Msg) (id n : Int) : Bool := decide (0 ≤ m.kind) && decide (m.kind ≤ 5) && decide (m.dst = id) && decide (m.src ≠ id) && srcOk m.src n && decide (1 ≤ m.term) && decide (m.term ≤ 1000000) && (numOk m.index && (numOk m.logTerm && numOk m.commit)) && decide ((m.ents.length : Int) ≤ 3) && okE m.ents (max 1 m.logTerm) m.term

/-- What is known of a message that is sound. -/
structure SoundM (m : Msg) (id n : Nat) : Prop where
  k0 : 0 ≤ m.kind
  k1 : m.kind ≤ 5
  dst : m.dst = id
  src : m.src ≠ id
  s0 : 0 ≤ m.src
  s1 : m.src < n
  t0 : 1 ≤ m.term
  t1 : m.term ≤ 1000000
  i0 : 0 ≤ m.index
  i1 : m.index ≤ 1000000
  l0 : 0 ≤ m.logTerm
  l1 : m.logTerm ≤ 1000000
  c0 : 0 ≤ m.commit
  c1 : m.commit ≤ 1000000
  len : m.ents.length ≤ 3
  ok : okE m.ents (max 1 m.logTerm) m.term = true

theorem soundM_of {m : Msg} {id n : Nat} (h : soundM m id n = true) : SoundM m id n := by
  simp only [soundM, numOk, srcOk, Bool.and_eq_true, decide_eq_true_eq] at h
  exact ⟨h.1.1.1.1.1.1.1.1.1, h.1.1.1.1.1.1.1.1.2, h.1.1.1.1.1.1.1.2, h.1.1.1.1.1.1.2, h.1.1.1.1.1.2.1, h.1.1.1.1.1.2.2, h.1.1.1.1.2, h.1.1.1.2, h.1.1.2.1.1, h.1.1.2.1.2, h.1.1.2.2.1.1, h.1.1.2.2.1.2, h.1.1.2.2.2.1, h.1.1.2.2.2.2, by have := h.1.2; omega, h.2⟩

namespace Nd

def hears (s : Nd) (f : Nat) : Nd := { s with hd := upd s.hd f true }
def matched (s : Nd) (f k : Nat) : Nd := count { s with mt := upd s.mt f k, nx := upd s.nx f (k + 1) }
def backs (s : Nd) (f k : Nat) : Nd := { s with nx := upd s.nx f (max (s.mt f + 1) (min (s.nx f - 1) (k + 1))) }

def stepAppendReply (s : Nd) (m : Msg) : Nd × List Msg :=
  if s.term < m.term then (s.follow m.term (-1), [])
  else if s.role = 3 ∧ m.term = s.term then
    if m.granted = true then
      if m.index.toNat ≤ s.last ∧ s.mt m.src.toNat < m.index.toNat then
        (((s.hears m.src.toNat).matched m.src.toNat m.index.toNat),
          if m.index.toNat + 1 ≤ s.last then [((s.hears m.src.toNat).matched m.src.toNat m.index.toNat).appendTo m.src.toNat] else [])
      else (s.hears m.src.toNat, [])
    else ((s.hears m.src.toNat).backs m.src.toNat m.index.toNat, [((s.hears m.src.toNat).backs m.src.toNat m.index.toNat).appendTo m.src.toNat])
  else (s, [])

def step (s : Nd) (m : Msg) : Nd × List Msg :=
  if soundM m s.id s.n = true then
    if m.kind = 0 then s.stepAsk m else if m.kind = 1 then s.stepAskReply m else if m.kind = 2 then s.stepVote m else if m.kind = 3 then s.stepVoteReply m else if m.kind = 4 then s.stepAppend m else s.stepAppendReply m
  else (s, [])

def proposeS (s : Nd) (c : ByteArray) : Nd := count { s with log := s.log ++ [(s.term, c)], mt := upd s.mt s.id (s.last + 1) }
def propErr (s : Nd) (c : ByteArray) : Int := if c.size = 0 ∨ 20 < c.size then 3 else if s.role ≠ 3 then 4 else if 60 ≤ s.last then 5 else 0

end Nd

theorem Ok.reply0 {s : Nd} (h : Ok s) (m : Msg) (hm : SoundM m s.id s.n) : Ok (s.stepAsk m).1 ∧ Ok (s.stepAskReply m).1 ∧ Ok (s.stepVoteReply m).1 := by
  have hgr : Ok (s.addGrant m.src.toNat) := { h with g7 := fun _ hi => upd_over h.g7 (by have := hm.s0; have := hm.s1; omega) hi, lead := fun h3 => (by have := h.lead h3; exact ⟨this.last, this.pos, this.sz, this.lo, this.hi, this.mm⟩) }
  refine ⟨?_, ?_, ?_⟩
  · unfold Nd.stepAsk
    split
    · exact h
    · split <;> exact h
  · unfold Nd.stepAskReply
    split
    · split
      · exact h.follow _ _ hm.t1 (by decide)
      · exact h
    · split
      · rename_i h2
        split
        · exact hgr.stand (by show s.term < 1000000; have := hm.t1; omega)
        · exact hgr
      · exact h
  · unfold Nd.stepVoteReply
    split
    · exact h.follow _ _ hm.t1 (by decide)
    · split
      · rename_i h2
        split
        · exact hgr.leadS (by show 1 ≤ s.term; have := hm.t0; omega)
        · exact hgr
      · exact h

theorem Ok.stepVote {s : Nd} (h : Ok s) (m : Msg) (hm : SoundM m s.id s.n) : Ok (s.stepVote m).1 := by
  have hvn : (s.voteS m).n = s.n := by unfold Nd.voteS Nd.follow; split <;> (try split) <;> rfl
  have hv : Ok (s.voteS m) := by
    unfold Nd.voteS
    split
    · exact h.follow _ _ hm.t1 (by decide)
    · exact h
  unfold Nd.stepVote
  split
  · exact h
  · show Ok (if (s.voteS m).votes m = true then { s.voteS m with vote := m.src, elapsed := 0 } else s.voteS m)
    split
    · exact { hv with lead := fun h3 => (by have := hv.lead h3; exact ⟨this.last, this.pos, this.sz, this.lo, this.hi, this.mm⟩), e0 := Int.le_refl _, v0 := (by show -1 ≤ m.src; have := hm.s0; omega), v1 := (by show m.src < ((s.voteS m).n : Int); rw [hvn]; exact hm.s1) }
    · exact hv

end Go.Proofs.Yteiecbkfganhnaa
