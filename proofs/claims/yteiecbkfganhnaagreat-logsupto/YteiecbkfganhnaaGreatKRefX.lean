/- The document's node as it lies in memory, against the same plain data; The document's node: one number of one node is written; its small functions; The document's node: its small functions; The document's node: good, sent, send; The document's node: send; The document's node: alone, asks. -/
import Derived.Test.YteiecbkfganhnaaGreatKSend
import Derived.Test.YteiecbkfganhnaaGreatKNdB
import Derived.Test.YteiecbkfganhnaaGreatKBmB
import Derived.Deep.AppendLies

namespace Go.Proofs.YteiecbkfganhnaaGreat

open Go.RowKit

/-- The slices of the document's node. -/
structure RV where
  lv : Value
  gv : Value
  nv : Value
  mv : Value
  hv : Value
  ov : Value

def rcells (s : Nd) (v : RV) : Array Value := #[.int .i64 (s.id : Int), .int .i64 (s.n : Int), .int .i64 s.term, .int .i64 s.vote, v.lv, .int .i64 (s.commit : Int), .int .i64 s.role, .int .i64 s.leads, .int .i64 s.elapsed, .int .i64 s.pat, v.gv, v.nv, v.mv, v.hv, v.ov]

def bC (g : Nat → Bool) (n : Nat) : List Value := (List.range n).map fun k => .bool (g k)

def nC (g : Nat → Nat) (n : Nat) : List Value := (List.range n).map fun k => .int .i64 (g k : Int)

theorem bC_length (g : Nat → Bool) (n : Nat) : (bC g n).length = n := by simp [bC]

theorem nC_length (g : Nat → Nat) (n : Nat) : (nC g n).length = n := by simp [nC]

theorem bC_get (g : Nat → Bool) {n k : Nat} (h : k < n) : (bC g n)[k]? = some (.bool (g k)) := by simp [bC, h]

theorem nC_get (g : Nat → Nat) {n k : Nat} (h : k < n) : (nC g n)[k]? = some (.int .i64 (g k : Int)) := by simp [nC, h]

theorem bC_set (g : Nat → Bool) (n k : Nat) (b : Bool) : (bC g n).set k (.bool b) = bC (upd g k b) n := by
  apply List.ext_getElem?
  intro i
  by_cases hi : i < n
  · by_cases hk : i = k
    · subst hk
      rw [bC_get _ hi, List.getElem?_set_self (by rw [bC_length]; exact hi)]
      simp [upd]
    · rw [List.getElem?_set_ne (fun e => hk e.symm), bC_get _ hi, bC_get _ hi]
      simp [upd, hk]
  · rw [List.getElem?_eq_none (by simp [bC_length]; omega), List.getElem?_eq_none (by simp [bC_length]; omega)]

theorem nC_set (g : Nat → Nat) (n k x : Nat) : (nC g n).set k (.int .i64 (x : Int)) = nC (upd g k x) n := by
  apply List.ext_getElem?
  intro i
  by_cases hi : i < n
  · by_cases hk : i = k
    · subst hk
      rw [nC_get _ hi, List.getElem?_set_self (by rw [nC_length]; exact hi)]
      simp [upd]
    · rw [List.getElem?_set_ne (fun e => hk e.symm), nC_get _ hi, nC_get _ hi]
      simp [upd, hk]
  · rw [List.getElem?_eq_none (by simp [nC_length]; omega), List.getElem?_eq_none (by simp [nC_length]; omega)]

/-- A block is the node's. -/
def RV.has (v : RV) (rb k : Nat) : Prop := k = rb ∨ v.lv.ownBlock = some k ∨ v.gv.ownBlock = some k ∨ v.nv.ownBlock = some k ∨ v.mv.ownBlock = some k ∨ v.hv.ownBlock = some k ∨ v.ov.ownBlock = some k

/-- The document's node lies in rb; out: what it has sent and not told yet. -/
structure RB (w : World) (rb : Nat) (s : Nd) (v : RV) (out : List (Msg × Value)) : Prop where
  blk : w.heap[rb]? = some (.cells (rcells s v) 64 (0, 0))
  log : w.ownsRow 0 66 2 v.lv s.log.length (eC s.log)
  gr : w.ownsRow 0 4 1 v.gv s.n (bC s.gr s.n)
  nx : w.ownsRow 0 3 1 v.nv s.n (nC s.nx s.n)
  mt : w.ownsRow 0 3 1 v.mv s.n (nC s.mt s.n)
  hd : w.ownsRow 0 4 1 v.hv s.n (bC s.hd s.n)
  row : w.ownsRow 0 30 9 v.ov out.length (mC out)
  outs : ∀ x ∈ out, w.ownsRow 0 66 2 x.2 x.1.ents.length (eC x.1.ents)
  gh : ∀ x, v.gv.ownBlock = some x → v.hv.ownBlock ≠ some x
  nm : ∀ x, v.nv.ownBlock = some x → v.mv.ownBlock ≠ some x
  lo : ∀ x ∈ out, ∀ y, v.lv.ownBlock = some y → x.2.ownBlock ≠ some y

/-- All but the node's own blocks is as it was. -/
structure Er (rb : Nat) (v v' : RV) (w w' : World) : Prop where
  os : w'.os = w.os
  tape : w'.tape = w.tape
  output : w'.output = w.output
  size : w.heap.size ≤ w'.heap.size
  block : ∀ k, k < w.heap.size → ¬ v.has rb k → w'.heap[k]? = w.heap[k]?
  own : ∀ k, v'.has rb k → v.has rb k ∨ w.heap.size ≤ k

theorem Er.refl (rb : Nat) (v : RV) (w : World) : Er rb v v w w := ⟨rfl, rfl, rfl, Nat.le_refl _, fun _ _ _ => rfl, fun _ h => .inl h⟩

theorem Er.trans {rb : Nat} {v1 v2 v3 : RV} {a b c : World} (h : Er rb v1 v2 a b) (k : Er rb v2 v3 b c) : Er rb v1 v3 a c :=
  ⟨k.os.trans h.os, k.tape.trans h.tape, k.output.trans h.output, Nat.le_trans h.size k.size,
    fun i hi hn => (k.block i (Nat.lt_of_lt_of_le hi h.size) (fun hx => (h.own i hx).elim hn (fun h2 => by omega))).trans (h.block i hi hn),
    fun i hi => (k.own i hi).elim (fun h2 => h.own i h2) (fun h2 => .inr (Nat.le_trans h.size h2))⟩

theorem Er.ofBelow {rb : Nat} {v : RV} {w w' : World} (h : Below w.heap.size w w') : Er rb v v w w' := ⟨h.os, h.tape, h.output, h.size, fun k hk _ => h.block k hk, fun _ h => .inl h⟩

theorem Er.set {rb : Nat} {v v' : RV} {w w' : World} (h : Er rb v v' w w') {b : Nat} (hb : v.has rb b ∨ w.heap.size ≤ b) (o : Nat) (u : Value) : Er rb v v' w (w'.setCell ⟨b, o, none⟩ u) :=
  ⟨h.os, h.tape, h.output, by simpa [World.setCell] using h.size, fun k hk hn => (Below.heap_setCell _ _ _ _ (fun e => by
    simp only at e
    subst e
    rcases hb with hb | hb
    · exact hn hb
    · omega)).trans (h.block k hk hn), h.own⟩

theorem Er.drew {rb : Nat} {v v' : RV} {w w' : World} (h : Er rb v v' w w') : Er rb v v' w w'.drew := ⟨h.os, h.tape, h.output, h.size, h.block, h.own⟩

theorem Er.drewN {rb : Nat} {v v' : RV} {w w' : World} (h : Er rb v v' w w') (m : Nat) : Er rb v v' w (w'.drewN m) := ⟨h.os, h.tape, h.output, h.size, h.block, h.own⟩

theorem RB.lt {w : World} {rb : Nat} {s : Nd} {v : RV} {out : List (Msg × Value)} (h : RB w rb s v out) : rb < w.heap.size := (Array.getElem?_eq_some_iff.1 h.blk).1

theorem RB.free {w : World} {rb : Nat} {s : Nd} {v : RV} {out : List (Msg × Value)} (h : RB w rb s v out) (o : Nat) : w.frozen? ⟨rb, o, none⟩ = false := frozen_of_row w rb o _ _ h.blk

theorem RB.cell {w : World} {rb : Nat} {s : Nd} {v : RV} {out : List (Msg × Value)} (h : RB w rb s v out) (o : Nat) : w.cell? ⟨rb, o, none⟩ = (rcells s v)[o]? := cell_of_row w rb o _ _ _ h.blk

theorem RB.below {w w' : World} {rb : Nat} {s : Nd} {v : RV} {out : List (Msg × Value)} (h : RB w rb s v out) (hb : Below w.heap.size w w') : RB w' rb s v out :=
  ⟨(hb.block rb h.lt).trans h.blk, owns_below h.log hb, owns_below h.gr hb, owns_below h.nx hb, owns_below h.mt hb, owns_below h.hd hb, owns_below h.row hb, fun x hx => owns_below (h.outs x hx) hb, h.gh, h.nm, h.lo⟩

/-- An owned row does not lie in the node's own block. -/
theorem owns_apart {w : World} {rb e size n : Nat} {u : Value} {xs : List Value} {cs : Array Value} {t : TypeId} (h : w.ownsRow 0 e size u n xs) (hb : w.heap[rb]? = some (.cells cs t (0, 0))) (hne : e ≠ t) : u.ownBlock ≠ some rb := by
  intro hx
  rcases h.2 with ⟨rfl, _⟩ | ⟨g, cap, cur, rfl, _, hg, _⟩
  · simp [Value.ownBlock] at hx
  · simp [Value.ownBlock] at hx
    subst hx
    rw [hg] at hb
    simp at hb
    exact hne hb.2

theorem owns_cell {w : World} {rb e size n o : Nat} {u x : Value} {xs : List Value} {cs : Array Value} {t : TypeId} (h : w.ownsRow 0 e size u n xs) (hb : w.heap[rb]? = some (.cells cs t (0, 0))) (hne : e ≠ t) : (w.setCell ⟨rb, o, none⟩ x).ownsRow 0 e size u n xs :=
  owns_kept h fun y hy => Below.heap_setCell _ _ _ _ (fun e => owns_apart h hb hne (by simp only at e; rw [← e]; exact hy))

/-- A cell of the node's own is written. -/
theorem RB.put {w : World} {rb o : Nat} {s s' : Nd} {v : RV} {x : Value} {out : List (Msg × Value)} (h : RB w rb s v out) (hc : (rcells s v).setIfInBounds o x = rcells s' v)
    (h1 : s'.log = s.log) (h2 : s'.gr = s.gr) (h3 : s'.nx = s.nx) (h4 : s'.mt = s.mt) (h5 : s'.hd = s.hd) (h6 : s'.n = s.n) : RB (w.setCell ⟨rb, o, none⟩ x) rb s' v out := by
  refine ⟨?_, ?_, ?_, ?_, ?_, ?_, owns_cell h.row h.blk (by decide), fun y hy => owns_cell (h.outs y hy) h.blk (by decide), h.gh, h.nm, h.lo⟩
  · rw [← hc]; exact heap_setCell_same w rb o _ _ _ h.blk
  · rw [h1]; exact owns_cell h.log h.blk (by decide)
  · rw [h2, h6]; exact owns_cell h.gr h.blk (by decide)
  · rw [h3, h6]; exact owns_cell h.nx h.blk (by decide)
  · rw [h4, h6]; exact owns_cell h.mt h.blk (by decide)
  · rw [h5, h6]; exact owns_cell h.hd h.blk (by decide)

theorem RB.putTerm {w : World} {rb : Nat} {s : Nd} {v : RV} {out : List (Msg × Value)} (h : RB w rb s v out) (x : Int) : RB (w.setCell ⟨rb, 2, none⟩ (.int .i64 x)) rb { s with term := x } v out := h.put rfl rfl rfl rfl rfl rfl rfl

theorem RB.putVote {w : World} {rb : Nat} {s : Nd} {v : RV} {out : List (Msg × Value)} (h : RB w rb s v out) (x : Int) : RB (w.setCell ⟨rb, 3, none⟩ (.int .i64 x)) rb { s with vote := x } v out := h.put rfl rfl rfl rfl rfl rfl rfl

theorem RB.putCommit {w : World} {rb : Nat} {s : Nd} {v : RV} {out : List (Msg × Value)} (h : RB w rb s v out) (x : Nat) : RB (w.setCell ⟨rb, 5, none⟩ (.int .i64 (x : Int))) rb { s with commit := x } v out := h.put rfl rfl rfl rfl rfl rfl rfl

theorem RB.putRole {w : World} {rb : Nat} {s : Nd} {v : RV} {out : List (Msg × Value)} (h : RB w rb s v out) (x : Int) : RB (w.setCell ⟨rb, 6, none⟩ (.int .i64 x)) rb { s with role := x } v out := h.put rfl rfl rfl rfl rfl rfl rfl

theorem RB.putLeads {w : World} {rb : Nat} {s : Nd} {v : RV} {out : List (Msg × Value)} (h : RB w rb s v out) (x : Int) : RB (w.setCell ⟨rb, 7, none⟩ (.int .i64 x)) rb { s with leads := x } v out := h.put rfl rfl rfl rfl rfl rfl rfl

theorem RB.putElapsed {w : World} {rb : Nat} {s : Nd} {v : RV} {out : List (Msg × Value)} (h : RB w rb s v out) (x : Int) : RB (w.setCell ⟨rb, 8, none⟩ (.int .i64 x)) rb { s with elapsed := x } v out := h.put rfl rfl rfl rfl rfl rfl rfl

theorem RB.putPat {w : World} {rb : Nat} {s : Nd} {v : RV} {out : List (Msg × Value)} (h : RB w rb s v out) (x : Int) : RB (w.setCell ⟨rb, 9, none⟩ (.int .i64 x)) rb { s with pat := x } v out := h.put rfl rfl rfl rfl rfl rfl rfl

/-- A grant, a number, a mark of one node is written. -/
theorem RB.putGr {w : World} {rb g cap i : Nat} {s : Nd} {v : RV} {out : List (Msg × Value)} (h : RB w rb s v out) (hv : v.gv = .slice (some ⟨g, 0, none⟩) s.n cap) (b : Bool) : RB (w.setCell ⟨g, i, none⟩ (.bool b)) rb { s with gr := upd s.gr i b } v out := by
  have hgb : v.gv.ownBlock = some g := by rw [hv]; rfl
  have key : ∀ {e size n : Nat} {u : Value} {xs : List Value}, w.ownsRow 0 e size u n xs → u.ownBlock ≠ some g → (w.setCell ⟨g, i, none⟩ (.bool b)).ownsRow 0 e size u n xs := fun {e size n u xs} ho hne => owns_kept ho fun y hy => Below.heap_setCell _ _ _ _ (fun e => hne (by simp only at e; rw [← e]; exact hy))
  have oth : ∀ {e size n : Nat} {u : Value} {xs : List Value}, w.ownsRow 0 e size u n xs → e ≠ 4 → u.ownBlock ≠ some g := fun {e size n u xs} ho hne hx => by
    rcases ho.2 with ⟨rfl, _⟩ | ⟨g1, c1, cur1, rfl, _, hg1, _⟩
    · simp [Value.ownBlock] at hx
    · simp [Value.ownBlock] at hx
      subst hx
      rcases h.gr.2 with ⟨hz, _⟩ | ⟨g2, c2, cur2, hz, _, hg2, _⟩
      · rw [hv] at hz; simp at hz
      · rw [hv] at hz
        simp at hz
        obtain ⟨rfl, _⟩ := hz
        rw [hg1] at hg2
        simp at hg2
        exact hne hg2.2
  refine ⟨?_, key h.log (oth h.log (by decide)), ?_, key h.nx (oth h.nx (by decide)), key h.mt (oth h.mt (by decide)), key h.hd (fun hx => h.gh g hgb hx), key h.row (oth h.row (by decide)), fun y hy => key (h.outs y hy) (oth (h.outs y hy) (by decide)), h.gh, h.nm, h.lo⟩
  · have hne : g ≠ rb := fun e => owns_apart h.gr h.blk (by decide) (e ▸ hgb)
    rw [Below.heap_setCell _ _ _ _ (fun e => hne e.symm)]
    exact h.blk
  · show (w.setCell ⟨g, i, none⟩ (.bool b)).ownsRow 0 4 1 v.gv s.n (bC (upd s.gr i b) s.n)
    rw [← bC_set, hv]
    have := h.gr
    rw [hv] at this
    exact owns_set1 (.bool b) this

end Go.Proofs.YteiecbkfganhnaaGreat

namespace Go.Proofs.YteiecbkfganhnaaGreat

open Go.RowKit

theorem RB.putNx {w : World} {rb g cap i : Nat} {s : Nd} {v : RV} {out : List (Msg × Value)} (h : RB w rb s v out) (hv : v.nv = .slice (some ⟨g, 0, none⟩) s.n cap) (x : Nat) : RB (w.setCell ⟨g, i, none⟩ (.int .i64 (x : Int))) rb { s with nx := upd s.nx i x } v out := by
  have hgb : v.nv.ownBlock = some g := by rw [hv]; rfl
  have key : ∀ {e size n : Nat} {u : Value} {xs : List Value}, w.ownsRow 0 e size u n xs → u.ownBlock ≠ some g → (w.setCell ⟨g, i, none⟩ (.int .i64 (x : Int))).ownsRow 0 e size u n xs := fun {e size n u xs} ho hne => owns_kept ho fun y hy => Below.heap_setCell _ _ _ _ (fun e => hne (by simp only at e; rw [← e]; exact hy))
  have oth : ∀ {e size n : Nat} {u : Value} {xs : List Value}, w.ownsRow 0 e size u n xs → e ≠ 3 → u.ownBlock ≠ some g := fun {e size n u xs} ho hne hx => by
    rcases ho.2 with ⟨rfl, _⟩ | ⟨g1, c1, cur1, rfl, _, hg1, _⟩
    · simp [Value.ownBlock] at hx
    · simp [Value.ownBlock] at hx
      subst hx
      rcases h.nx.2 with ⟨hz, _⟩ | ⟨g2, c2, cur2, hz, _, hg2, _⟩
      · rw [hv] at hz; simp at hz
      · rw [hv] at hz
        simp at hz
        obtain ⟨rfl, _⟩ := hz
        rw [hg1] at hg2
        simp at hg2
        exact hne hg2.2
  refine ⟨?_, key h.log (oth h.log (by decide)), key h.gr (oth h.gr (by decide)), ?_, key h.mt (fun hx => h.nm g hgb hx), key h.hd (oth h.hd (by decide)), key h.row (oth h.row (by decide)), fun y hy => key (h.outs y hy) (oth (h.outs y hy) (by decide)), h.gh, h.nm, h.lo⟩
  · have hne : g ≠ rb := fun e => owns_apart h.nx h.blk (by decide) (e ▸ hgb)
    rw [Below.heap_setCell _ _ _ _ (fun e => hne e.symm)]
    exact h.blk
  · show (w.setCell ⟨g, i, none⟩ (.int .i64 (x : Int))).ownsRow 0 3 1 v.nv s.n (nC (upd s.nx i x) s.n)
    rw [← nC_set, hv]
    have := h.nx
    rw [hv] at this
    exact owns_set1 (.int .i64 (x : Int)) this

theorem RB.putMt {w : World} {rb g cap i : Nat} {s : Nd} {v : RV} {out : List (Msg × Value)} (h : RB w rb s v out) (hv : v.mv = .slice (some ⟨g, 0, none⟩) s.n cap) (x : Nat) : RB (w.setCell ⟨g, i, none⟩ (.int .i64 (x : Int))) rb { s with mt := upd s.mt i x } v out := by
  have hgb : v.mv.ownBlock = some g := by rw [hv]; rfl
  have key : ∀ {e size n : Nat} {u : Value} {xs : List Value}, w.ownsRow 0 e size u n xs → u.ownBlock ≠ some g → (w.setCell ⟨g, i, none⟩ (.int .i64 (x : Int))).ownsRow 0 e size u n xs := fun {e size n u xs} ho hne => owns_kept ho fun y hy => Below.heap_setCell _ _ _ _ (fun e => hne (by simp only at e; rw [← e]; exact hy))
  have oth : ∀ {e size n : Nat} {u : Value} {xs : List Value}, w.ownsRow 0 e size u n xs → e ≠ 3 → u.ownBlock ≠ some g := fun {e size n u xs} ho hne hx => by
    rcases ho.2 with ⟨rfl, _⟩ | ⟨g1, c1, cur1, rfl, _, hg1, _⟩
    · simp [Value.ownBlock] at hx
    · simp [Value.ownBlock] at hx
      subst hx
      rcases h.mt.2 with ⟨hz, _⟩ | ⟨g2, c2, cur2, hz, _, hg2, _⟩
      · rw [hv] at hz; simp at hz
      · rw [hv] at hz
        simp at hz
        obtain ⟨rfl, _⟩ := hz
        rw [hg1] at hg2
        simp at hg2
        exact hne hg2.2
  refine ⟨?_, key h.log (oth h.log (by decide)), key h.gr (oth h.gr (by decide)), key h.nx (fun hx => h.nm g hx hgb), ?_, key h.hd (oth h.hd (by decide)), key h.row (oth h.row (by decide)), fun y hy => key (h.outs y hy) (oth (h.outs y hy) (by decide)), h.gh, h.nm, h.lo⟩
  · have hne : g ≠ rb := fun e => owns_apart h.mt h.blk (by decide) (e ▸ hgb)
    rw [Below.heap_setCell _ _ _ _ (fun e => hne e.symm)]
    exact h.blk
  · show (w.setCell ⟨g, i, none⟩ (.int .i64 (x : Int))).ownsRow 0 3 1 v.mv s.n (nC (upd s.mt i x) s.n)
    rw [← nC_set, hv]
    have := h.mt
    rw [hv] at this
    exact owns_set1 (.int .i64 (x : Int)) this

theorem RB.putHd {w : World} {rb g cap i : Nat} {s : Nd} {v : RV} {out : List (Msg × Value)} (h : RB w rb s v out) (hv : v.hv = .slice (some ⟨g, 0, none⟩) s.n cap) (b : Bool) : RB (w.setCell ⟨g, i, none⟩ (.bool b)) rb { s with hd := upd s.hd i b } v out := by
  have hgb : v.hv.ownBlock = some g := by rw [hv]; rfl
  have key : ∀ {e size n : Nat} {u : Value} {xs : List Value}, w.ownsRow 0 e size u n xs → u.ownBlock ≠ some g → (w.setCell ⟨g, i, none⟩ (.bool b)).ownsRow 0 e size u n xs := fun {e size n u xs} ho hne => owns_kept ho fun y hy => Below.heap_setCell _ _ _ _ (fun e => hne (by simp only at e; rw [← e]; exact hy))
  have oth : ∀ {e size n : Nat} {u : Value} {xs : List Value}, w.ownsRow 0 e size u n xs → e ≠ 4 → u.ownBlock ≠ some g := fun {e size n u xs} ho hne hx => by
    rcases ho.2 with ⟨rfl, _⟩ | ⟨g1, c1, cur1, rfl, _, hg1, _⟩
    · simp [Value.ownBlock] at hx
    · simp [Value.ownBlock] at hx
      subst hx
      rcases h.hd.2 with ⟨hz, _⟩ | ⟨g2, c2, cur2, hz, _, hg2, _⟩
      · rw [hv] at hz; simp at hz
      · rw [hv] at hz
        simp at hz
        obtain ⟨rfl, _⟩ := hz
        rw [hg1] at hg2
        simp at hg2
        exact hne hg2.2
  refine ⟨?_, key h.log (oth h.log (by decide)), key h.gr (fun hx => h.gh g hx hgb), key h.nx (oth h.nx (by decide)), key h.mt (oth h.mt (by decide)), ?_, key h.row (oth h.row (by decide)), fun y hy => key (h.outs y hy) (oth (h.outs y hy) (by decide)), h.gh, h.nm, h.lo⟩
  · have hne : g ≠ rb := fun e => owns_apart h.hd h.blk (by decide) (e ▸ hgb)
    rw [Below.heap_setCell _ _ _ _ (fun e => hne e.symm)]
    exact h.blk
  · show (w.setCell ⟨g, i, none⟩ (.bool b)).ownsRow 0 4 1 v.hv s.n (bC (upd s.hd i b) s.n)
    rw [← bC_set, hv]
    have := h.hd
    rw [hv] at this
    exact owns_set1 (.bool b) this

end Go.Proofs.YteiecbkfganhnaaGreat

namespace Go.Proofs.YteiecbkfganhnaaGreat

open Go.RowKit

theorem RB.c0 {w : World} {rb : Nat} {s : Nd} {v : RV} {out : List (Msg × Value)} (h : RB w rb s v out) : w.cell? ⟨rb, 0, none⟩ = some (.int .i64 (s.id : Int)) := h.cell 0

theorem RB.c1 {w : World} {rb : Nat} {s : Nd} {v : RV} {out : List (Msg × Value)} (h : RB w rb s v out) : w.cell? ⟨rb, 1, none⟩ = some (.int .i64 (s.n : Int)) := h.cell 1

theorem RB.c2 {w : World} {rb : Nat} {s : Nd} {v : RV} {out : List (Msg × Value)} (h : RB w rb s v out) : w.cell? ⟨rb, 2, none⟩ = some (.int .i64 s.term) := h.cell 2

theorem RB.c3 {w : World} {rb : Nat} {s : Nd} {v : RV} {out : List (Msg × Value)} (h : RB w rb s v out) : w.cell? ⟨rb, 3, none⟩ = some (.int .i64 s.vote) := h.cell 3

theorem RB.c4 {w : World} {rb : Nat} {s : Nd} {v : RV} {out : List (Msg × Value)} (h : RB w rb s v out) : w.cell? ⟨rb, 4, none⟩ = some v.lv := h.cell 4

theorem RB.c5 {w : World} {rb : Nat} {s : Nd} {v : RV} {out : List (Msg × Value)} (h : RB w rb s v out) : w.cell? ⟨rb, 5, none⟩ = some (.int .i64 (s.commit : Int)) := h.cell 5

theorem RB.c6 {w : World} {rb : Nat} {s : Nd} {v : RV} {out : List (Msg × Value)} (h : RB w rb s v out) : w.cell? ⟨rb, 6, none⟩ = some (.int .i64 s.role) := h.cell 6

theorem RB.c7 {w : World} {rb : Nat} {s : Nd} {v : RV} {out : List (Msg × Value)} (h : RB w rb s v out) : w.cell? ⟨rb, 7, none⟩ = some (.int .i64 s.leads) := h.cell 7

theorem RB.c8 {w : World} {rb : Nat} {s : Nd} {v : RV} {out : List (Msg × Value)} (h : RB w rb s v out) : w.cell? ⟨rb, 8, none⟩ = some (.int .i64 s.elapsed) := h.cell 8

theorem RB.c9 {w : World} {rb : Nat} {s : Nd} {v : RV} {out : List (Msg × Value)} (h : RB w rb s v out) : w.cell? ⟨rb, 9, none⟩ = some (.int .i64 s.pat) := h.cell 9

theorem RB.c10 {w : World} {rb : Nat} {s : Nd} {v : RV} {out : List (Msg × Value)} (h : RB w rb s v out) : w.cell? ⟨rb, 10, none⟩ = some v.gv := h.cell 10

theorem RB.c11 {w : World} {rb : Nat} {s : Nd} {v : RV} {out : List (Msg × Value)} (h : RB w rb s v out) : w.cell? ⟨rb, 11, none⟩ = some v.nv := h.cell 11

theorem RB.c12 {w : World} {rb : Nat} {s : Nd} {v : RV} {out : List (Msg × Value)} (h : RB w rb s v out) : w.cell? ⟨rb, 12, none⟩ = some v.mv := h.cell 12

theorem RB.c13 {w : World} {rb : Nat} {s : Nd} {v : RV} {out : List (Msg × Value)} (h : RB w rb s v out) : w.cell? ⟨rb, 13, none⟩ = some v.hv := h.cell 13

theorem RB.c14 {w : World} {rb : Nat} {s : Nd} {v : RV} {out : List (Msg × Value)} (h : RB w rb s v out) : w.cell? ⟨rb, 14, none⟩ = some v.ov := h.cell 14

theorem refMaj_eq (s : Nd) (c : Nat) : decide ((s.n : Int) < 2 * (c : Int)) = s.maj c := by
  unfold Nd.maj
  exact decide_eq_decide.2 (by omega)

set_option maxRecDepth 100000 in
set_option maxHeartbeats 400000 in
theorem refMajority_any (rb : Nat) (s : Nd) (v : RV) (out : List (Msg × Value)) (c : Nat) (w : World) (h : RB w rb s v out) (hc : c ≤ 7) :
    Calls Tryz.prog 56 #[.pointer (some ⟨rb, 0, none⟩), .int .i64 (c : Int)] w fun e w' => e = .returned (.bool (s.maj c)) ∧ w' = w := by
  have c1 := h.c1
  clear h
  go_enter Tryz.func56, Tryz.ntmps56
  go_wp2
  go_ret
  exact ⟨by rw [refMaj_eq]; rfl, rfl⟩

theorem RV.self (v : RV) (rb : Nat) : v.has rb rb := .inl rfl

set_option maxRecDepth 100000 in
set_option maxHeartbeats 400000 in
theorem refFollow_any (rb : Nat) (s : Nd) (v : RV) (out : List (Msg × Value)) (t l : Int) (w : World) (h : RB w rb s v out) :
    Calls Tryz.prog 60 #[.pointer (some ⟨rb, 0, none⟩), .int .i64 t, .int .i64 l] w fun e w' => e = .returned (.tuple #[]) ∧ RB w' rb (s.follow t l) v out ∧ Er rb v v w w' := by
  have c2 := h.c2
  have c3 := h.c3
  have c6 := h.c6
  have c7 := h.c7
  have f2 := h.free 2
  have f3 := h.free 3
  have f6 := h.free 6
  have f7 := h.free 7
  have H := hide h
  clear h
  by_cases hlt : s.term < t
  · have HE : Hid (s.follow t l = { s with role := 0, leads := l, term := t, vote := -1 }) := if_pos hlt
    go_enter Tryz.func60, Tryz.ntmps60
    go_wp2
    go_end0
    rw [unhide HE]
    exact ⟨rfl, ((((unhide H).putRole 0).putLeads l).putTerm t).putVote (-1), ((((Er.refl rb v w).set (.inl (v.self rb)) 6 _).set (.inl (v.self rb)) 7 _).set (.inl (v.self rb)) 2 _).set (.inl (v.self rb)) 3 _⟩
  · have HE : Hid (s.follow t l = { s with role := 0, leads := l }) := if_neg hlt
    go_enter Tryz.func60, Tryz.ntmps60
    go_wp2
    go_end0
    rw [unhide HE]
    exact ⟨rfl, ((unhide H).putRole 0).putLeads l, ((Er.refl rb v w).set (.inl (v.self rb)) 6 _).set (.inl (v.self rb)) 7 _⟩

set_option maxRecDepth 100000 in
set_option maxHeartbeats 400000 in
theorem refTermOf_any (rb : Nat) (s : Nd) (v : RV) (out : List (Msg × Value)) (k : Nat) (w : World) (h : RB w rb s v out) (hk : k ≤ s.last) (hs : s.last ≤ 60) :
    Calls Tryz.prog 105 #[.pointer (some ⟨rb, 0, none⟩), .int .i64 (k : Int)] w fun e w' => e = .returned (.int .i64 (s.termOf k)) ∧ w' = w := by
  have c4 := h.c4
  have hl := ents_of_owns h.log
  clear h
  rcases k with _ | k
  · go_enter Tryz.func105, Tryz.ntmps105
    go_wp2
    go_ret
    exact ⟨rfl, rfl⟩
  · have hlt : k < s.log.length := hk
    obtain ⟨ao, cap, hlv, _, ha⟩ := hl
    rw [hlv] at c4
    obtain ⟨b, off, rfl, a0, a1⟩ := ha k _ (show s.log[k]? = some s.log[k] by simp [hlt])
    have HT : Hid (s.termOf (k + 1) = s.log[k].1) := termAt_get hlt
    have hs' : s.log.length ≤ 60 := hs
    clear ha a1 hk hs hlv
    have hne : ((k : Int) + 1 == 0) = false := by simp; omega
    have i0 : (0 : Int) ≤ (k : Int) := by omega
    have i2 : (k : Int) < (s.log.length : Int) := by omega
    generalize s.log[k].1 = t at *
    rw [show ((k + 1 : Nat) : Int) = (k : Int) + 1 by omega]
    go_enter Tryz.func105, Tryz.ntmps105
    go_wp2
    go_ret
    exact ⟨by rw [unhide HT]; rfl, rfl⟩

set_option maxRecDepth 100000 in
set_option maxHeartbeats 400000 in
theorem refKnows_any (rb : Nat) (s : Nd) (v : RV) (out : List (Msg × Value)) (w : World) (h : RB w rb s v out) (hl : -1 ≤ s.leads) :
    Calls Tryz.prog 120 #[.pointer (some ⟨rb, 0, none⟩)] w fun e w' => e = .returned (.bool s.knows) ∧ ∃ m, w' = w.drewN m := by
  have c7 := h.c7
  have c8 := h.c8
  have c9 := h.c9
  clear h
  by_cases h1 : s.leads = -1
  · have HE : Hid (s.knows = false) := by show _ = _; simp [Nd.knows, h1]
    have d1 : decide (0 ≤ s.leads) = false := decide_eq_false (by omega)
    clear h1
    go_enter Tryz.func120, Tryz.ntmps120
    go_wp2
    go_quiet (fail)
    go_wp2
    go_ret
    exact ⟨by rw [unhide HE]; rfl, _, rfl⟩
  · have HE : Hid (s.knows = decide (s.elapsed < s.pat)) := by show _ = _; simp [Nd.knows, h1]
    have d1 : decide (0 ≤ s.leads) = true := decide_eq_true (by omega)
    clear h1
    go_enter Tryz.func120, Tryz.ntmps120
    go_wp2
    go_quiet (fail)
    go_wp2
    go_ret
    exact ⟨by rw [unhide HE]; rfl, _, rfl⟩

set_option maxRecDepth 100000 in
set_option maxHeartbeats 400000 in
theorem refGranted_any (g : Nat → Bool) (n : Nat) (gv : Value) (w : World) (hn : n ≤ 7) (h : w.ownsRow 0 4 1 gv n (bC g n)) :
    Calls Tryz.prog 121 #[gv] w fun e w' => e = .returned (.int .i64 (cntTo g n : Int)) ∧ w' = w := by
  obtain ⟨ao, cap, rfl⟩ := owns_form h
  have H := hide h
  clear h
  go_enter Tryz.func121, Tryz.ntmps121
  go_wp2
  go_loop [3, 4] (fun c i => ∃ k : Nat, k ≤ n ∧ i = .int .i64 k ∧ c = .int .i64 (cntTo g k : Int)) (fun _ i => n - (intOf i).toNat)
  case atStart => exact ⟨0, Nat.zero_le _, rfl, rfl⟩
  case round =>
    obtain ⟨k, hk, rfl, rfl⟩ := hrel
    have hc := cntTo_le g k
    by_cases hlt : k < n
    · obtain ⟨b, rfl, hfz, hcell⟩ := owns_at (unhide H) (j := k) (by rw [bC_length]; exact hlt)
      have hce : w.cell? ⟨b, k, none⟩ = some (.bool (g k)) := by
        rw [hcell]
        have h2 := bC_get g hlt
        rw [List.getElem?_eq_getElem (by rw [bC_length]; exact hlt)] at h2
        exact h2
      have i1 : (0 : Int) ≤ (k : Int) := by omega
      have i2 : (k : Int) < (n : Int) := by omega
      clear hfz hcell
      cases hg : g k with
      | true =>
        have HG := hide (cntTo_yes hg)
        rw [hg] at hce
        generalize cntTo g k = c at *
        clear hg
        go_wp2
        go_round
        case rel => exact ⟨k + 1, by omega, by go_num, by rw [unhide HG]; go_num⟩
        case measure => simp [intOf]; omega
      | false =>
        have HG := hide (cntTo_no hg)
        rw [hg] at hce
        generalize cntTo g k = c at *
        clear hg
        go_wp2
        go_round
        case rel => exact ⟨k + 1, by omega, by go_num, by rw [unhide HG]⟩
        case measure => simp [intOf]; omega
    · have hkn : k = n := by omega
      subst hkn
      go_wp2
      go_ret
      exact ⟨rfl, rfl⟩

end Go.Proofs.YteiecbkfganhnaaGreat

namespace Go.Proofs.YteiecbkfganhnaaGreat

open Go.RowKit Go.MuLone

theorem refTermOf_at (rb : Nat) (s : Nd) (v : RV) (out : List (Msg × Value)) (k : Nat) (T : Int) (w : World) (h : RB w rb s v out) (hk : k ≤ s.last) (hs : s.last ≤ 60) (hT : s.termOf k = T) :
    Calls Tryz.prog 105 #[.pointer (some ⟨rb, 0, none⟩), .int .i64 (k : Int)] w fun e w' => e = .returned (.int .i64 T) ∧ w' = w := by
  rw [← hT]; exact refTermOf_any rb s v out k w h hk hs

set_option maxRecDepth 100000 in
set_option maxHeartbeats 400000 in
theorem refGood_any (rb : Nat) (s : Nd) (v : RV) (out : List (Msg × Value)) (m : Msg) (ev : Value) (w : World) (h : RB w rb s v out) (hs : s.last ≤ 60) (hev : ∃ ao n c, ev = .slice ao n c) :
    Calls Tryz.prog 119 #[.pointer (some ⟨rb, 0, none⟩), magg m ev] w fun e w' => e = .returned (.bool (s.asGood m)) ∧ Below w.heap.size w w' := by
  obtain ⟨eo, en, ec, rfl⟩ := hev
  have HB := hide (below_alloc w (.cells #[.int .i64 m.kind, .int .i64 m.src, .int .i64 m.dst, .int .i64 m.term, .int .i64 m.index, .int .i64 m.logTerm, .int .i64 m.commit, .slice eo en ec, .bool m.granted] 30))
  have H := hide (h.below (unhide HB))
  have hlt := h.lt
  have hne : ¬ rb = w.heap.size := by omega
  obtain ⟨lo, lc, hlv⟩ := owns_form h.log
  have c4 := h.c4
  rw [hlv] at c4
  obtain ⟨T, hT⟩ : ∃ T, s.termOf s.last = T := ⟨_, rfl⟩
  have HT := hide hT
  have hsl : s.log.length = s.last := rfl
  rw [hsl] at c4
  clear h hT hlv hsl
  by_cases h1 : T < m.logTerm
  · have HE : Hid (s.asGood m = true) := by show _ = _; simp [Nd.asGood, unhide HT, h1]
    have d1 : decide (T < m.logTerm) = true := decide_eq_true h1
    go_enter Tryz.func119, Tryz.ntmps119
    go_wp2_with (go_at_call 105; refine (refTermOf_at rb s v out s.last T _ (unhide H) (Nat.le_refl _) hs (unhide HT)).mono ?_; rintro e w1 ⟨rfl, rfl⟩)
    go_ret
    exact ⟨by rw [unhide HE]; rfl, unhide HB⟩
  · have d1 : decide (T < m.logTerm) = false := decide_eq_false h1
    by_cases h2 : m.logTerm = T
    · have HE : Hid (s.asGood m = decide ((s.last : Int) ≤ m.index)) := by show _ = _; simp [Nd.asGood, unhide HT, h2]
      have h3 : (m.logTerm == T) = true := by simpa using h2
      clear h2
      go_enter Tryz.func119, Tryz.ntmps119
      go_wp2_with (go_at_call 105; refine (refTermOf_at rb s v out s.last T _ (unhide H) (Nat.le_refl _) hs (unhide HT)).mono ?_; rintro e w1 ⟨rfl, rfl⟩)
      go_ret
      exact ⟨by rw [unhide HE]; rfl, unhide HB⟩
    · have HE : Hid (s.asGood m = false) := by show _ = _; simp [Nd.asGood, unhide HT, h1, h2]
      have h3 : (m.logTerm == T) = false := by simpa using h2
      clear h2
      go_enter Tryz.func119, Tryz.ntmps119
      go_wp2_with (go_at_call 105; refine (refTermOf_at rb s v out s.last T _ (unhide H) (Nat.le_refl _) hs (unhide HT)).mono ?_; rintro e w1 ⟨rfl, rfl⟩)
      go_ret
      exact ⟨by rw [unhide HE]; rfl, unhide HB⟩

/-- What is written over the slice of what was sent. -/
theorem RB.putOv {w : World} {rb : Nat} {s : Nd} {v : RV} {u : Value} {out out' : List (Msg × Value)} (h : RB w rb s v out) (ho : w.ownsRow 0 30 9 u out'.length (mC out')) (hs : ∀ x ∈ out', w.ownsRow 0 66 2 x.2 x.1.ents.length (eC x.1.ents)) (hl : ∀ x ∈ out', ∀ y, v.lv.ownBlock = some y → x.2.ownBlock ≠ some y) :
    RB (w.setCell ⟨rb, 14, none⟩ u) rb s { v with ov := u } out' :=
  ⟨heap_setCell_same w rb 14 _ _ _ h.blk, owns_cell h.log h.blk (by decide), owns_cell h.gr h.blk (by decide), owns_cell h.nx h.blk (by decide), owns_cell h.mt h.blk (by decide), owns_cell h.hd h.blk (by decide), owns_cell ho h.blk (by decide), fun x hx => owns_cell (hs x hx) h.blk (by decide), h.gh, h.nm, hl⟩

/-- Behind 'sent': what was sent is told, and is nobody's. -/
def RTold (rb : Nat) (s : Nd) (v : RV) (out : List (Msg × Value)) (w : World) (e : Ending) (w' : World) : Prop :=
  e = .returned v.ov ∧ RB w' rb s { v with ov := .slice none 0 0 } [] ∧ w'.ownsRow 0 30 9 v.ov out.length (mC out) ∧ (∀ x ∈ out, w'.ownsRow 0 66 2 x.2 x.1.ents.length (eC x.1.ents)) ∧ Er rb v { v with ov := .slice none 0 0 } w w'

set_option maxRecDepth 100000 in
set_option maxHeartbeats 400000 in
theorem refSent_any (rb : Nat) (s : Nd) (v : RV) (out : List (Msg × Value)) (w : World) (h : RB w rb s v out) :
    Calls Tryz.prog 59 #[.pointer (some ⟨rb, 0, none⟩)] w fun e w' => RTold rb s v out w e w' := by
  have c14 := h.c14
  have f14 := h.free 14
  have HR := hide (h.putOv (u := .slice none 0 0) (out' := []) (World.ownsRow_nil w _ _ _) (fun x hx => by simp at hx) (fun x hx => by simp at hx))
  have HO := hide (owns_cell (o := 14) (x := .slice none 0 0) h.row h.blk (by decide))
  have HS : Hid (∀ x ∈ out, (w.setCell ⟨rb, 14, none⟩ (.slice none 0 0)).ownsRow 0 66 2 x.2 x.1.ents.length (eC x.1.ents)) := fun x hx => owns_cell (h.outs x hx) h.blk (by decide)
  clear h
  go_enter Tryz.func59, Tryz.ntmps59
  go_wp2
  go_ret
  refine ⟨rfl, unhide HR, unhide HO, unhide HS, ?_⟩
  have h1 := (Er.refl rb v w).set (.inl (v.self rb)) 14 (.slice none 0 0)
  exact ⟨h1.os, h1.tape, h1.output, h1.size, h1.block, fun k hk => by
    rcases hk with hk | hk | hk | hk | hk | hk | hk
    · exact .inl (.inl hk)
    · exact .inl (.inr (.inl hk))
    · exact .inl (.inr (.inr (.inl hk)))
    · exact .inl (.inr (.inr (.inr (.inl hk))))
    · exact .inl (.inr (.inr (.inr (.inr (.inl hk)))))
    · exact .inl (.inr (.inr (.inr (.inr (.inr (.inl hk))))))
    · simp [Value.ownBlock] at hk⟩

end Go.Proofs.YteiecbkfganhnaaGreat

namespace Go.Proofs.YteiecbkfganhnaaGreat

open Go.RowKit Go.MuLone

theorem RB.pushed {w w' : World} {rb g cap : Nat} {s : Nd} {v : RV} {out : List (Msg × Value)} {m : Msg} {ev : Value} {o : Obj} (h : RB w rb s v out) (he : w.ownsRow 0 66 2 ev m.ents.length (eC m.ents)) (hlo : ∀ y, v.lv.ownBlock = some y → ev.ownBlock ≠ some y)
    (hg : (w.alloc o).drew.grownBy w' v.ov.ownBlock) (ho : w'.ownsRow 0 30 9 (.slice (some ⟨g, 0, none⟩) (out.length + 1) cap) (out.length + 1) (mC out ++ mcells m ev)) (hat : v.ov.ownBlock = some g ∨ g = w.heap.size + 1) :
    RB (w'.setCell ⟨rb, 14, none⟩ (.slice (some ⟨g, 0, none⟩) (out.length + 1) cap)) rb s { v with ov := .slice (some ⟨g, 0, none⟩) (out.length + 1) cap } (out ++ [(m, ev)]) ∧
    Er rb v { v with ov := .slice (some ⟨g, 0, none⟩) (out.length + 1) cap } w (w'.setCell ⟨rb, 14, none⟩ (.slice (some ⟨g, 0, none⟩) (out.length + 1) cap)) := by
  have hgb : ∀ k, k < (w.alloc o).heap.size → some k ≠ v.ov.ownBlock → w'.heap[k]? = (w.alloc o).heap[k]? := hg.block
  have hgs : (w.alloc o).heap.size ≤ w'.heap.size := hg.size
  have key : ∀ {e size n : Nat} {u : Value} {xs : List Value}, w.ownsRow 0 e size u n xs → e ≠ 30 → w'.ownsRow 0 e size u n xs := fun {e size n u xs} hu hne =>
    owns_kept (hu.alloc o) fun k hk => hgb k (owns_lt (hu.alloc o) k hk) (fun e => owns_other hu h.row hne k hk e.symm)
  have hrb : w'.heap[rb]? = w.heap[rb]? := (hgb rb (by simp; have := h.lt; omega) (fun e => owns_apart h.row h.blk (by decide) e.symm)).trans (Below.heap_alloc w o rb h.lt)
  have hR : RB w' rb s { v with ov := v.ov } out → True := fun _ => trivial
  clear hR
  have hblk : w'.heap[rb]? = some (.cells (rcells s v) 64 (0, 0)) := hrb.trans h.blk
  have hout : ∀ x ∈ out ++ [(m, ev)], w'.ownsRow 0 66 2 x.2 x.1.ents.length (eC x.1.ents) := fun x hx => by
    rcases List.mem_append.1 hx with hx | hx
    · exact key (h.outs x hx) (by decide)
    · simp only [List.mem_singleton] at hx
      subst hx
      exact key he (by decide)
  have hlo2 : ∀ x ∈ out ++ [(m, ev)], ∀ y, v.lv.ownBlock = some y → x.2.ownBlock ≠ some y := fun x hx y hy => by
    rcases List.mem_append.1 hx with hx | hx
    · exact h.lo x hx y hy
    · simp only [List.mem_singleton] at hx
      subst hx
      exact hlo y hy
  refine ⟨⟨heap_setCell_same w' rb 14 _ _ _ hblk, owns_cell (key h.log (by decide)) hblk (by decide), owns_cell (key h.gr (by decide)) hblk (by decide), owns_cell (key h.nx (by decide)) hblk (by decide), owns_cell (key h.mt (by decide)) hblk (by decide), owns_cell (key h.hd (by decide)) hblk (by decide), ?_, fun x hx => owns_cell (hout x hx) hblk (by decide), h.gh, h.nm, hlo2⟩, ?_⟩
  · refine owns_cell ?_ hblk (by decide)
    rw [List.length_append, mC_append]
    simpa [mC] using ho
  · refine ⟨hg.os, hg.tape, hg.output, ?_, fun k hk hn => ?_, fun k hk => ?_⟩
    · simp [World.setCell] at hgs ⊢
      omega
    · rw [Below.heap_setCell _ _ _ _ (fun e => hn (.inl e)), hgb k (by simp; omega) (fun e => hn (.inr (.inr (.inr (.inr (.inr (.inr e.symm)))))))]
      exact Below.heap_alloc w o k hk
    · rcases hk with hk | hk | hk | hk | hk | hk | hk
      · exact .inl (.inl hk)
      · exact .inl (.inr (.inl hk))
      · exact .inl (.inr (.inr (.inl hk)))
      · exact .inl (.inr (.inr (.inr (.inl hk))))
      · exact .inl (.inr (.inr (.inr (.inr (.inl hk)))))
      · exact .inl (.inr (.inr (.inr (.inr (.inr (.inl hk))))))
      · simp [Value.ownBlock] at hk
        subst hk
        rcases hat with e | e
        · exact .inl (.inr (.inr (.inr (.inr (.inr (.inr e))))))
        · exact .inr (by omega)

theorem RB.grown {w w' : World} {rb : Nat} {s : Nd} {v : RV} {out : List (Msg × Value)} {o : Obj} (h : RB w rb s v out) (hg : (w.alloc o).drew.grownBy w' v.ov.ownBlock) : w'.heap[rb]? = some (.cells (rcells s v) 64 (0, 0)) := by
  have hgb : ∀ k, k < (w.alloc o).heap.size → some k ≠ v.ov.ownBlock → w'.heap[k]? = (w.alloc o).heap[k]? := hg.block
  exact ((hgb rb (by simp; have := h.lt; omega) (fun e => owns_apart h.row h.blk (by decide) e.symm)).trans (Below.heap_alloc w o rb h.lt)).trans h.blk

/-- Behind 'send'. -/
def RSent (rb : Nat) (s : Nd) (v : RV) (out : List (Msg × Value)) (w : World) (w' : World) : Prop := ∃ u, RB w' rb s { v with ov := u } out ∧ Er rb v { v with ov := u } w w'

set_option maxRecDepth 100000 in
set_option maxHeartbeats 1000000 in
theorem refSend_any (rb : Nat) (s : Nd) (v : RV) (out : List (Msg × Value)) (m : Msg) (ev : Value) (w : World) (h : RB w rb s v out) (hn : out.length ≤ 1000) (he : w.ownsRow 0 66 2 ev m.ents.length (eC m.ents)) (hlo : ∀ y, v.lv.ownBlock = some y → ev.ownBlock ≠ some y) :
    Calls Tryz.prog 104 #[.pointer (some ⟨rb, 0, none⟩), magg m ev] w fun e w' => e = .returned (.tuple #[]) ∧ RSent rb s v (out ++ [({ m with src := (s.id : Int) }, ev)]) w w' := by
  obtain ⟨eo, ec, rfl⟩ := owns_form he
  have hlt := h.lt
  have hne : ¬ rb = w.heap.size := by omega
  have c0 := h.c0
  have HBW := hide (below_alloc w (.cells #[.int .i64 m.kind, .int .i64 (s.id : Int), .int .i64 m.dst, .int .i64 m.term, .int .i64 m.index, .int .i64 m.logTerm, .int .i64 m.commit, .slice eo m.ents.length ec, .bool m.granted] 30))
  have HWM := hide (heap_alloc_new w (.cells #[.int .i64 m.kind, .int .i64 (s.id : Int), .int .i64 m.dst, .int .i64 m.term, .int .i64 m.index, .int .i64 m.logTerm, .int .i64 m.commit, .slice eo m.ents.length ec, .bool m.granted] 30))
  have HR := hide (h.below (unhide HBW))
  have HE := hide (owns_below he (unhide HBW))
  have HLO := hide hlo
  clear h he hlo
  obtain ⟨i0, hi, hz0, hz1, hz2⟩ := info_parts infoMsg
  go_enter Tryz.func104, Tryz.ntmps104
  go_wp2
  generalize w.alloc (.cells #[.int .i64 m.kind, .int .i64 (s.id : Int), .int .i64 m.dst, .int .i64 m.term, .int .i64 m.index, .int .i64 m.logTerm, .int .i64 m.commit, .slice eo m.ents.length ec, .bool m.granted] 30) = W at *
  clear c0
  have c14 := (unhide HR).c14
  have f14 := (unhide HR).free 14
  have hltW := (unhide HR).lt
  have hneW : ¬ rb = W.heap.size := by omega
  have x0 : W.cell? ⟨w.heap.size, 0, none⟩ = some (.int .i64 m.kind) := cell_of_row W w.heap.size 0 _ _ _ (unhide HWM)
  have x1 : W.cell? ⟨w.heap.size, 1, none⟩ = some (.int .i64 (s.id : Int)) := cell_of_row W w.heap.size 1 _ _ _ (unhide HWM)
  have x2 : W.cell? ⟨w.heap.size, 2, none⟩ = some (.int .i64 m.dst) := cell_of_row W w.heap.size 2 _ _ _ (unhide HWM)
  have x3 : W.cell? ⟨w.heap.size, 3, none⟩ = some (.int .i64 m.term) := cell_of_row W w.heap.size 3 _ _ _ (unhide HWM)
  have x4 : W.cell? ⟨w.heap.size, 4, none⟩ = some (.int .i64 m.index) := cell_of_row W w.heap.size 4 _ _ _ (unhide HWM)
  have x5 : W.cell? ⟨w.heap.size, 5, none⟩ = some (.int .i64 m.logTerm) := cell_of_row W w.heap.size 5 _ _ _ (unhide HWM)
  have x6 : W.cell? ⟨w.heap.size, 6, none⟩ = some (.int .i64 m.commit) := cell_of_row W w.heap.size 6 _ _ _ (unhide HWM)
  have x7 : W.cell? ⟨w.heap.size, 7, none⟩ = some (.slice eo m.ents.length ec) := cell_of_row W w.heap.size 7 _ _ _ (unhide HWM)
  have x8 : W.cell? ⟨w.heap.size, 8, none⟩ = some (.bool m.granted) := cell_of_row W w.heap.size 8 _ _ _ (unhide HWM)
  have hmb2 : w.heap.size < W.heap.size := (Array.getElem?_eq_some_iff.1 (unhide HWM)).1
  have hmb : ¬ w.heap.size = W.heap.size := by omega
  have hmb3 : ¬ W.heap.size = w.heap.size := by omega
  go_region_law (first | (refine step_append_lies _ (by rfl) (.tmp 13) (.tmp 15) 62 (by rfl) 0 30 i0 _ 9 88 Tryz.underlying62 hi hz0 hz1 hz2 rfl (by decide) v.ov out.length (mC out) (by rfl) (by exact World.ownsRow.alloc (unhide HR).row (.cells (mcells { m with src := (s.id : Int) } (.slice eo m.ents.length ec)).toArray 30)) ⟨W.heap.size, 0, none⟩ 1 1 (mcells { m with src := (s.id : Int) } (.slice eo m.ents.length ec)) (by rfl) rfl (by exact cells_new9 _ _ _) (mcells_one _ _ _ _) (by decide) (by unfold maxLen; omega) (by omega) (Nat.zero_le _) (W.heap.size + 1) (by simp) ?_; intro gc cap2 w4 hown4 hgrow4 hat4 hlt4; have hb4 := (unhide HR).grown hgrow4; have k14 : w4.cell? ⟨rb, 14, none⟩ = some v.ov := cell_of_row w4 rb 14 _ _ _ hb4; have q14 := frozen_of_row w4 rb 14 _ _ hb4; clear hb4; replace hown4 := hide hown4; replace hgrow4 := hide hgrow4; replace hat4 := hide hat4; clear hlt4))
  all_goals
    have hfin := (unhide HR).pushed (m := { m with src := (s.id : Int) }) (unhide HE) (unhide HLO) (unhide hgrow4) (unhide hown4) (unhide hat4)
    have HF := hide hfin
    clear hfin hown4 hgrow4 hat4
    go_wp2
    go_end0
    exact ⟨rfl, _, (unhide HF).1, (Er.ofBelow (unhide HBW)).trans (unhide HF).2⟩

end Go.Proofs.YteiecbkfganhnaaGreat

namespace Go.Proofs.YteiecbkfganhnaaGreat

open Go.RowKit Go.MuLone

theorem infoBoo : (Tryz.prog.info? 4).map (fun i => (i.zero, i.size, i.bytes)) = some (some (.bool false), 1, 1) := by kernel_rfl

theorem made_bC (n : Nat) : (madeCells #[.bool false] n).toList = bC none7 n := by
  apply List.ext_getElem?
  intro i
  by_cases hi : i < n
  · rw [bC_get _ hi]
    simp [madeCells, hi, none7, Nat.mod_one]
  · rw [List.getElem?_eq_none (by simp [size_madeCells]; omega), List.getElem?_eq_none (by rw [bC_length]; omega)]

theorem RB.newGr {w w1 : World} {rb cap : Nat} {s : Nd} {v : RV} {out : List (Msg × Value)} {f : Nat → Bool} (h : RB w rb s v out) (hb : Below w.heap.size w w1) (ho : w1.ownsRow w.heap.size 4 1 (.slice (some ⟨w.heap.size, 0, none⟩) s.n cap) s.n (bC f s.n)) :
    RB (w1.setCell ⟨rb, 10, none⟩ (.slice (some ⟨w.heap.size, 0, none⟩) s.n cap)) rb { s with gr := f } { v with gv := .slice (some ⟨w.heap.size, 0, none⟩) s.n cap } out ∧ Er rb v { v with gv := .slice (some ⟨w.heap.size, 0, none⟩) s.n cap } w (w1.setCell ⟨rb, 10, none⟩ (.slice (some ⟨w.heap.size, 0, none⟩) s.n cap)) := by
  have h1 := h.below hb
  refine ⟨⟨heap_setCell_same w1 rb 10 _ _ _ h1.blk, owns_cell h1.log h1.blk (by decide), owns_cell (owns_base ho (Nat.zero_le _)) h1.blk (by decide), owns_cell h1.nx h1.blk (by decide), owns_cell h1.mt h1.blk (by decide), owns_cell h1.hd h1.blk (by decide), owns_cell h1.row h1.blk (by decide), fun x hx => owns_cell (h1.outs x hx) h1.blk (by decide), fun x hx hy => ?_, h.nm, h.lo⟩, ?_⟩
  · simp [Value.ownBlock] at hx
    subst hx
    have := owns_lt h.hd _ hy
    omega
  · have e1 : Er rb v v w (w1.setCell ⟨rb, 10, none⟩ (.slice (some ⟨w.heap.size, 0, none⟩) s.n cap)) := (Er.ofBelow hb).set (.inl (v.self rb)) 10 _
    exact ⟨e1.os, e1.tape, e1.output, e1.size, e1.block, fun k hk => by
      rcases hk with hk | hk | hk | hk | hk | hk | hk
      · exact .inl (.inl hk)
      · exact .inl (.inr (.inl hk))
      · simp [Value.ownBlock] at hk
        exact .inr (by omega)
      · exact .inl (.inr (.inr (.inr (.inl hk))))
      · exact .inl (.inr (.inr (.inr (.inr (.inl hk)))))
      · exact .inl (.inr (.inr (.inr (.inr (.inr (.inl hk))))))
      · exact .inl (.inr (.inr (.inr (.inr (.inr (.inr hk))))))⟩

theorem RB.drew {w : World} {rb : Nat} {s : Nd} {v : RV} {out : List (Msg × Value)} (h : RB w rb s v out) : RB w.drew rb s v out := ⟨h.blk, h.log, h.gr, h.nx, h.mt, h.hd, h.row, h.outs, h.gh, h.nm, h.lo⟩

theorem RB.drewN {w : World} {rb : Nat} {s : Nd} {v : RV} {out : List (Msg × Value)} (h : RB w rb s v out) (m : Nat) : RB (w.drewN m) rb s v out := ⟨h.blk, h.log, h.gr, h.nx, h.mt, h.hd, h.row, h.outs, h.gh, h.nm, h.lo⟩

/-- Behind a call that may turn all of the node's. -/
def RGone (rb : Nat) (s : Nd) (v : RV) (out : List (Msg × Value)) (w : World) (w' : World) : Prop := ∃ v', RB w' rb s v' out ∧ Er rb v v' w w' ∧ v'.lv = v.lv

set_option maxRecDepth 100000 in
set_option maxHeartbeats 1000000 in
theorem refAlone_any (rb : Nat) (s : Nd) (v : RV) (out : List (Msg × Value)) (w : World) (h : RB w rb s v out) (hn1 : 1 ≤ s.n) (hn : s.n ≤ 7) (hid : s.id < s.n) :
    Calls Tryz.prog 55 #[.pointer (some ⟨rb, 0, none⟩)] w fun e w' => e = .returned (.tuple #[]) ∧ RGone rb { s with gr := upd none7 s.id true } v out w w' := by
  have c1 := h.c1
  have H := hide h
  have hlt := h.lt
  clear h
  obtain ⟨i0, hi, hz0, hz1, hz2⟩ := info_parts infoBoo
  go_enter Tryz.func55, Tryz.ntmps55
  go_wp2_with (at_make; go_must (refine wpList_make_full _ rfl (.tmp 6) (.tmp 6) 60 rfl w.heap.size 4 i0 _ 1 Tryz.underlying60 hi hz0 hz1 .i64 .i64 (s.n : Int) (s.n : Int) s.n rfl rfl rfl rfl (by rw [hz2]; omega) (by unfold maxLen; omega) (Nat.le_refl _) ?_))
  intro w1 hown1 hgrow1
  rw [made_bC] at hown1
  have hb1 : Below w.heap.size w w1 := (Below.refl _ _).grown hgrow1 (Nat.le_refl _) (by intro k hk; simp at hk)
  have hR1 := (unhide H).below hb1
  have k10 := hR1.c10
  have f10 := hR1.free 10
  obtain ⟨g1, g2⟩ := (unhide H).newGr hb1 hown1
  have HR2 := hide g1
  have HE2 := hide g2
  clear hown1 hgrow1 hb1 hR1 g1 g2 c1
  go_wp2
  generalize w1.setCell ⟨rb, 10, none⟩ (.slice (some ⟨w.heap.size, 0, none⟩) s.n s.n) = X at *
  clear k10 f10
  have c10 := (unhide HR2).c10
  have c0 := (unhide HR2).c0
  obtain ⟨gg, hgg, hfz, hcell⟩ := owns_at (unhide HR2).gr (j := s.id) (by rw [bC_length]; exact hid)
  simp only [Option.some.injEq, Addr.mk.injEq, and_true] at hgg
  subst hgg
  have i1 : (0 : Int) ≤ (s.id : Int) := by omega
  have i2 : (s.id : Int) < (s.n : Int) := by omega
  have HF := hide ((unhide HR2).putGr (i := s.id) rfl true)
  go_region
  all_goals go_wp2
  all_goals go_end0
  all_goals exact ⟨rfl, _, (unhide HF).drew, ((unhide HE2).set (.inr (Nat.le_refl _)) _ _).drew, rfl⟩

/-- Messages without entries, as they lie. -/
def bare (ms : List Msg) : List (Msg × Value) := ms.map fun m => (m, .slice none 0 0)

def reqMsg (s : Nd) (kind t : Int) (i : Nat) : Msg := { kind := kind, src := s.id, dst := i, term := t, index := s.last, logTerm := s.termOf s.last, commit := 0, ents := [], granted := false }

theorem bare_req_yes (s : Nd) (kind t : Int) {k : Nat} (h : k ≠ s.id) : bare ((oth s.id (k + 1)).map (reqMsg s kind t)) = bare ((oth s.id k).map (reqMsg s kind t)) ++ [(reqMsg s kind t k, .slice none 0 0)] := by
  rw [oth_yes h]; simp [bare]

theorem bare_req_no (s : Nd) (kind t : Int) {k : Nat} (h : k = s.id) : bare ((oth s.id (k + 1)).map (reqMsg s kind t)) = bare ((oth s.id k).map (reqMsg s kind t)) := by rw [oth_no h]

theorem bare_len (s : Nd) (kind t : Int) (k : Nat) : (bare ((oth s.id k).map (reqMsg s kind t))).length ≤ k := by simp only [bare, List.length_map]; exact oth_len s.id k

set_option maxRecDepth 100000 in
set_option maxHeartbeats 1000000 in
theorem refAsks_any (rb : Nat) (s : Nd) (v : RV) (out : List (Msg × Value)) (kind t : Int) (w : World) (h : RB w rb s v out) (hn : s.n ≤ 7) (hs : s.last ≤ 60) (ho : out.length ≤ 100) :
    Calls Tryz.prog 58 #[.pointer (some ⟨rb, 0, none⟩), .int .i64 kind, .int .i64 t] w fun e w' => e = .returned (.tuple #[]) ∧ RGone rb s v (out ++ bare (s.request kind t)) w w' := by
  obtain ⟨lo, lc, hlv⟩ := owns_form h.log
  have c4 := h.c4
  rw [hlv] at c4
  have hsl : s.log.length = s.last := rfl
  rw [hsl] at c4
  have H := hide h
  obtain ⟨T, hT⟩ : ∃ T, s.termOf s.last = T := ⟨_, rfl⟩
  have HT := hide hT
  have HQ : Hid (s.request kind t = (oth s.id s.n).map (reqMsg s kind t)) := rfl
  clear h hlv hsl hT
  go_enter Tryz.func58, Tryz.ntmps58
  go_wp2
  go_loopw [7] (fun i wr => ∃ (k : Nat) (v' : RV), k ≤ s.n ∧ i = .int .i64 k ∧ RB wr rb s v' (out ++ bare ((oth s.id k).map (reqMsg s kind t))) ∧ Er rb v v' w wr ∧ v'.lv = v.lv) (fun i _ => s.n - (intOf i).toNat)
  case atStart => exact ⟨0, v, Nat.zero_le _, rfl, by simpa [oth, bare] using unhide H, Er.refl _ _ _, rfl⟩
  case round =>
    obtain ⟨k, v', hk, rfl, hR, hE, hvl⟩ := hrel
    have c1 := hR.c1
    have c0 := hR.c0
    have hbl := bare_len s kind t k
    by_cases hlt : k < s.n
    · have i2 : (k : Int) < (s.n : Int) := by omega
      by_cases hid : k = s.id
      · have HB := hide (bare_req_no s kind t hid)
        rw [← hid] at c0
        have hd : ((k : Int) != (k : Int)) = false := by simp
        have HR := hide hR
        have HE := hide hE
        have HVL := hide hvl
        clear hR hE hvl hid
        go_wp2
        go_roundw
        case rel => exact ⟨k + 1, v', by omega, by go_num, by rw [unhide HB]; exact unhide HR, unhide HE, unhide HVL⟩
        case measure => simp [intOf]; omega
      · have HB := hide (bare_req_yes s kind t hid)
        have hd : ((k : Int) != (s.id : Int)) = true := by simp; omega
        have HR := hide hR
        have HE := hide hE
        have HVL := hide hvl
        clear hR hE hvl hid
        go_wp2_with (first | (go_at_call 105; refine (refTermOf_at rb s v' _ s.last T _ (unhide HR) (Nat.le_refl _) hs (unhide HT)).mono ?_; rintro e w1 ⟨rfl, h1⟩; cases h1.symm) | (go_at_call 104; refine (refSend_any rb s v' _ { kind := kind, src := 0, dst := (k : Int), term := t, index := (s.last : Int), logTerm := T, commit := 0, ents := [], granted := false } (.slice none 0 0) wr (unhide HR) (by rw [List.length_append]; omega) (World.ownsRow_nil _ _ _ _) (fun y _ => by simp [Value.ownBlock])).mono ?_; rintro e w2 ⟨rfl, u, hR2, hE2⟩; replace hR2 := hide hR2; replace hE2 := hide hE2))
        go_roundw
        case rel =>
          refine ⟨k + 1, { v' with ov := u }, by omega, by go_num, ?_, (unhide HE).trans (unhide hE2), unhide HVL⟩
          rw [unhide HB, ← List.append_assoc]
          have h3 := unhide hR2
          rw [← unhide HT] at h3
          exact h3
        case measure => simp [intOf]; omega
    · have hkn : k = s.n := by omega
      subst hkn
      have HR := hide hR
      have HE := hide hE
      have HVL := hide hvl
      clear hR hE hvl
      go_wp2
      go_end0
      rw [unhide HQ]
      exact ⟨rfl, v', unhide HR, unhide HE, unhide HVL⟩

end Go.Proofs.YteiecbkfganhnaaGreat
