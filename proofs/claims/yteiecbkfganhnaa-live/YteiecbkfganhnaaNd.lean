/- A node by the document, as plain data: no program is named here. -/
import Derived.Test.YteiecbkfganhnaaBase
namespace Go.Proofs.Yteiecbkfganhnaa

structure Msg where
  kind : Int
  src : Int
  dst : Int
  term : Int
  index : Int
  logTerm : Int
  commit : Int
  ents : List Ent
  granted : Bool

structure Nd where
  id : Nat
  n : Nat
  term : Int
  vote : Int
  log : List Ent
  role : Int
  leads : Int
  commit : Nat
  elapsed : Int
  pat : Int
  gr : Nat → Bool
  nx : Nat → Nat
  mt : Nat → Nat
  hd : Nat → Bool

def upd {α : Type} (g : Nat → α) (i : Nat) (v : α) : Nat → α := fun k => if k = i then v else g k
def none7 : Nat → Bool := fun _ => false
def b1 (b : Bool) : Nat := if b = true then 1 else 0
def cntTo (g : Nat → Bool) : Nat → Nat
  | 0 => 0
  | k + 1 => cntTo g k + b1 (g k)
def cnt (g : Nat → Bool) : Nat := cntTo g 7

theorem cntTo_le (g : Nat → Bool) (k : Nat) : cntTo g k ≤ k := by
  induction k with
  | zero => exact Nat.le_refl _
  | succ k ih => simp only [cntTo, b1]; split <;> omega

namespace Nd

def made (id n : Nat) (term vote : Int) (log : List Ent) : Nd :=
  { id := id, n := n, term := term, vote := vote, log := log, role := 0, leads := -1, commit := 0, elapsed := 0, pat := 10, gr := none7, nx := fun _ => 0, mt := fun _ => 0, hd := none7 }

def last (s : Nd) : Nat := s.log.length
def termAt (l : List Ent) (k : Nat) : Int := if k = 0 then 0 else match l[k - 1]? with | some e => e.1 | none => 0
def termOf (s : Nd) (k : Nat) : Int := termAt s.log k
def maj (s : Nd) (c : Nat) : Bool := decide (s.n / 2 < c)
def others (s : Nd) : List Nat := (List.range s.n).filter fun i => i ≠ s.id
def knows (s : Nd) : Bool := decide (s.leads ≠ -1) && decide (s.elapsed < s.pat)
def asGood (s : Nd) (m : Msg) : Bool := decide (s.termOf s.last < m.logTerm) || (decide (m.logTerm = s.termOf s.last) && decide ((s.last : Int) ≤ m.index))

def follow (s : Nd) (t l : Int) : Nd := if s.term < t then { s with role := 0, leads := l, term := t, vote := -1 } else { s with role := 0, leads := l }
def campaign (s : Nd) (r : Int) : Nd := { s with role := r, leads := -1, elapsed := 0, gr := upd none7 s.id true }
def request (s : Nd) (kind term : Int) : List Msg :=
  s.others.map fun (i : Nat) => { kind := kind, src := s.id, dst := i, term := term, index := s.last, logTerm := s.termOf s.last, commit := 0, ents := [], granted := false }
def appendTo (s : Nd) (i : Nat) : Msg :=
  { kind := 4, src := s.id, dst := i, term := s.term, index := (s.nx i : Int) - 1, logTerm := s.termOf (s.nx i - 1), commit := s.commit, ents := (s.log.drop (s.nx i - 1)).take 3, granted := false }
def appends (s : Nd) : List Msg := s.others.map s.appendTo

def have_ (s : Nd) (k : Nat) : Nat := cntTo (fun i => decide (k ≤ s.mt i)) s.n
def countFrom (s : Nd) : Nat → Nat
  | 0 => s.commit
  | k + 1 => if k + 1 ≤ s.commit then s.commit else if s.maj (s.have_ (k + 1)) = true ∧ s.termOf (k + 1) = s.term then k + 1 else s.countFrom k
def count (s : Nd) : Nd := { s with commit := s.countFrom s.last }

def leadA (s : Nd) : Nd := { s with role := 3, leads := s.id, elapsed := 0, hd := none7, nx := fun i => if i < s.n then s.last + 1 else s.nx i, mt := fun i => if i < s.n then 0 else s.mt i }
def leadB (s : Nd) : Nd := if s.last < 60 then { s with log := s.log ++ [(s.term, ⟨#[]⟩)] } else s
def leadC (s : Nd) : Nd := { s with mt := upd s.mt s.id s.last }
def leadS (s : Nd) : Nd := s.leadA.leadB.leadC.count
def lead (s : Nd) : Nd × List Msg := (s.leadS, s.leadS.appends)

def standS (s : Nd) : Nd := campaign { s with term := s.term + 1, vote := s.id } 2
def stand (s : Nd) : Nd × List Msg := if s.standS.maj (cnt s.standS.gr) = true then s.standS.lead else (s.standS, s.standS.request 2 s.standS.term)
def ask (s : Nd) : Nd × List Msg := if (s.campaign 1).maj (cnt (s.campaign 1).gr) = true then (s.campaign 1).stand else (s.campaign 1, (s.campaign 1).request 0 (s.term + 1))

def tickLeader (s : Nd) : Nd × List Msg :=
  if s.pat ≤ s.elapsed then
    if s.maj (cnt (upd s.hd s.id true)) = true then ({ s with elapsed := 0, hd := none7 }, ({ s with elapsed := 0, hd := none7 } : Nd).appends)
    else (({ s with elapsed := 0 } : Nd).follow s.term (-1), [])
  else (s, s.appends)

def tickS (s : Nd) : Nd := { s with elapsed := s.elapsed + 1 }
def tick (s : Nd) : Nd × List Msg :=
  if s.role = 3 then s.tickS.tickLeader
  else if s.elapsed + 1 < s.pat ∨ 1000000 ≤ s.term then (s.tickS, []) else s.tickS.ask

def reply (s : Nd) (kind : Int) (to : Int) (term index : Int) (granted : Bool) : Msg :=
  { kind := kind, src := s.id, dst := to, term := term, index := index, logTerm := 0, commit := 0, ents := [], granted := granted }

def stepAsk (s : Nd) (m : Msg) : Nd × List Msg :=
  if s.term < m.term ∧ s.asGood m = true ∧ s.knows = false then (s, [s.reply 1 m.src m.term 0 true])
  else if s.term = 0 then (s, []) else (s, [s.reply 1 m.src s.term 0 false])

def addGrant (s : Nd) (i : Nat) : Nd := { s with gr := upd s.gr i true }

def stepAskReply (s : Nd) (m : Msg) : Nd × List Msg :=
  if m.granted = false then (if s.term < m.term then s.follow m.term (-1) else s, [])
  else if s.role = 1 ∧ m.term = s.term + 1 then
    if (s.addGrant m.src.toNat).maj (cnt (s.addGrant m.src.toNat).gr) = true then (s.addGrant m.src.toNat).stand else (s.addGrant m.src.toNat, [])
  else (s, [])

def voteS (s : Nd) (m : Msg) : Nd := if s.term < m.term then s.follow m.term (-1) else s
def votes (s : Nd) (m : Msg) : Bool := decide (m.term = s.term) && (decide (s.role = 0) && (decide (s.vote = -1) || decide (s.vote = m.src))) && s.asGood m
def stepVote (s : Nd) (m : Msg) : Nd × List Msg :=
  if s.term < m.term ∧ s.knows = true then (s, [])
  else (if (s.voteS m).votes m = true then { s.voteS m with vote := m.src, elapsed := 0 } else s.voteS m, [(s.voteS m).reply 3 m.src (s.voteS m).term 0 ((s.voteS m).votes m)])

def stepVoteReply (s : Nd) (m : Msg) : Nd × List Msg :=
  if s.term < m.term then (s.follow m.term (-1), [])
  else if m.granted = true ∧ s.role = 2 ∧ m.term = s.term then
    if (s.addGrant m.src.toNat).maj (cnt (s.addGrant m.src.toNat).gr) = true then (s.addGrant m.src.toNat).lead else (s.addGrant m.src.toNat, [])
  else (s, [])

/-- Does what a message tells leave what is committed? -/
def keeps (l : List Ent) (commit at_ : Nat) : List Ent → Bool
  | [] => true
  | e :: es => (decide (commit ≤ at_) || decide (l[at_]? = some e)) && keeps l commit (at_ + 1) es
/-- The log behind an Append. -/
def takes (l : List Ent) (at_ : Nat) : List Ent → List Ent
  | [] => l
  | e :: es => if l.length ≤ at_ ∨ termAt l (at_ + 1) ≠ e.1 then l.take at_ ++ e :: es else takes l (at_ + 1) es

def appS (s : Nd) (m : Msg) : Nd := { s.follow m.term m.src with elapsed := 0 }
def stepAppend (s : Nd) (m : Msg) : Nd × List Msg :=
  if m.term < s.term then (s, [s.reply 5 m.src s.term 0 false])
  else if m.term = s.term ∧ s.role = 3 then (s, [])
  else if (s.last : Int) < m.index ∨ s.termOf m.index.toNat ≠ m.logTerm then (s.appS m, [(s.appS m).reply 5 m.src (s.appS m).term (min (s.last : Int) (max 0 (m.index - 1))) false])
  else if 60 < m.index.toNat + m.ents.length ∨ keeps s.log s.commit m.index.toNat m.ents = false then (s.appS m, [])
  else ({ s.appS m with log := takes s.log m.index.toNat m.ents, commit := max s.commit (min m.commit.toNat (m.index.toNat + m.ents.length)) },
    [(s.appS m).reply 5 m.src (s.appS m).term ((m.index.toNat + m.ents.length : Nat) : Int) true])

end Nd
end Go.Proofs.Yteiecbkfganhnaa
