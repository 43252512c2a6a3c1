/- A row that need not begin at its block's head (what is left of a list that was cut at its front): it is read, cut and appended to. No program is named here. -/
import Derived.Test.YteiecbkfganhnaaGrow
import Derived.Laws.AppendOwn
import Derived.Test.YteiecbkfganhnaaRaft
import Derived.Test.YteiecbkfganhnaaPut
import Derived.Test.YteiecbkfganhnaaProp
import Derived.Test.YteiecbkfganhnaaCom
import Derived.Test.YteiecbkfganhnaaStep
import Derived.Laws.BytesArg

namespace Go.Proofs.Yteiecbkfganhnaa
open Go.RowKit

def QRow (w : World) (e size : Nat) (v : Value) (n : Nat) (xs : List Value) : Prop :=
  xs.length = n * size ∧ ((v = .slice none 0 0 ∧ n = 0) ∨ ∃ g off cap cur, v = .slice (some ⟨g, off, none⟩) n cap ∧ w.heap[g]? = some (.cells cur e (0, 0)) ∧ n ≤ cap ∧ off + cap * size ≤ cur.size ∧ (cur.toList.drop off).take (n * size) = xs)

section
variable {w w' : World} {e size n : Nat} {v : Value} {xs : List Value}

theorem QRow.nil (w : World) (e size : Nat) : QRow w e size (.slice none 0 0) 0 [] := ⟨by simp, .inl ⟨rfl, rfl⟩⟩

theorem QRow.ofOwn {base : Nat} (h : w.ownsRow base e size v n xs) : QRow w e size v n xs := by
  refine ⟨h.1, ?_⟩
  rcases h.2 with h1 | ⟨g, cap, cur, h1, _, h3, h4, _, h6, h7⟩
  · exact .inl h1
  · exact .inr ⟨g, 0, cap, cur, h1, h3, h4, by omega, by simpa using h7⟩

theorem QRow.form (h : QRow w e size v n xs) : ∃ ao cap, v = .slice ao n cap := by
  rcases h.2 with ⟨rfl, rfl⟩ | ⟨g, off, cap, cur, rfl, _⟩
  · exact ⟨_, _, rfl⟩
  · exact ⟨_, _, rfl⟩

theorem QRow.lt (h : QRow w e size v n xs) : ∀ x, v.ownBlock = some x → x < w.heap.size := by
  intro x hx
  rcases h.2 with ⟨rfl, rfl⟩ | ⟨g, off, cap, cur, rfl, hg, _⟩
  · cases hx
  · simp [Value.ownBlock] at hx; subst hx
    exact (Array.getElem?_eq_some_iff.1 hg).1

theorem QRow.kept (h : QRow w e size v n xs) (hk : ∀ x, v.ownBlock = some x → w'.heap[x]? = w.heap[x]?) : QRow w' e size v n xs := by
  refine ⟨h.1, ?_⟩
  rcases h.2 with h1 | ⟨g, off, cap, cur, rfl, hg, h2⟩
  · exact .inl h1
  · exact .inr ⟨g, off, cap, cur, rfl, (hk g rfl).trans hg, h2⟩

theorem QRow.cell {ao : Option Addr} {cap : Nat} (h : QRow w e size (.slice ao n cap) n xs) {j : Nat} {u : Value} (hj : xs[j]? = some u) : ∃ g off, ao = some ⟨g, off, none⟩ ∧ w.cell? ⟨g, off + j, none⟩ = some u := by
  rcases h.2 with ⟨hv, h0⟩ | ⟨g, off, cap', cur, hv, hg, h1, h2, h3⟩
  · have := h.1; rw [h0, Nat.zero_mul] at this
    rw [List.eq_nil_of_length_eq_zero this] at hj; simp at hj
  · simp only [Value.slice.injEq, true_and] at hv
    obtain ⟨rfl, rfl⟩ := hv
    refine ⟨g, off, rfl, ?_⟩
    rw [cell_of_row w g (off + j) _ _ _ hg]
    rw [← h3] at hj
    have hlt : j < n * size := by have := (List.getElem?_eq_some_iff.1 hj).1; simp only [List.length_take] at this; omega
    rw [List.getElem?_take_of_lt hlt, List.getElem?_drop] at hj
    rw [← Array.getElem?_toList]; exact hj

/-- All but its first m. -/
theorem QRow.drop {ao : Option Addr} {cap m : Nat} (h : QRow w e size (.slice ao n cap) n xs) (hm : m ≤ n) {g off : Nat} (ha : ao = some ⟨g, off, none⟩) : QRow w e size (.slice (some ⟨g, off + m * size, none⟩) (n - m) (cap - m)) (n - m) (xs.drop (m * size)) := by
  subst ha
  refine ⟨by rw [List.length_drop, h.1, ← Nat.sub_mul], ?_⟩
  rcases h.2 with ⟨hv, h0⟩ | ⟨g', off', cap', cur, hv, hg, h1, h2, h3⟩
  · cases hv
  · simp only [Value.slice.injEq, Option.some.injEq, Addr.mk.injEq, and_true, true_and] at hv
    obtain ⟨⟨rfl, rfl⟩, rfl⟩ := hv
    refine .inr ⟨g, off + m * size, cap - m, cur, rfl, hg, by omega, ?_, ?_⟩
    · have : m * size + (cap - m) * size = cap * size := by rw [← Nat.add_mul]; congr 1; omega
      omega
    · rw [← h3, List.drop_take, List.drop_drop, ← Nat.sub_mul]

theorem run_append_q {P : Program} (w : World) (t ty e : TypeId) (i : TypeInfo) (z : Value) (size bytes : Nat) (ht : P.underlying t = some (.slice e)) (hi : P.info? e = some i) (hz : i.zero = some z)
    (hsize : i.size = size) (hby : i.bytes = bytes) (hzs : z.cells.size = size)
    (v : Value) (n : Nat) (xs : List Value) (hown : QRow w e size v n xs)
    (a : Addr) (m c : Nat) (news : List Value) (hl : news.length = m * size) (hnews : ∀ j u, news[j]? = some u → w.cell? (a.add j) = some u) (h1 : ∀ u ∈ news, u.oneCell' = true)
    (hm : 0 < m) (h63 : n + m ≤ maxLen) (hbytes : (n + m) * bytes ≤ 140737488355328) :
    ∃ v' w', (Builtin.append_ #[t, t] ty #[v, .slice (some a) m c]).run P w = .ok v' w' ∧ QRow w' e size v' (n + m) (xs ++ news) ∧ w.grownBy w' v.ownBlock ∧ (v'.ownBlock = v.ownBlock ∨ v'.ownBlock = some w.heap.size) := by
  subst hsize
  subst hby
  have hsmall : n + m ≤ 9223372036854775807 := by simp only [maxLen] at h63; omega
  have hlen : (xs ++ news).length = (n + m) * i.size := by rw [List.length_append, hown.1, hl, Nat.add_mul]
  have grown : ∀ (old : Nat), ∀ (row : Option Nat),
      QRow (w.drew.alloc (.cells (xs.toArray ++ news.toArray ++ Builtin.zeroCells z.cells (grownCap w (n + m) old e - (n + m))) e)) e i.size (.slice (some ⟨w.heap.size, 0, none⟩) (n + m) (grownCap w (n + m) old e)) (n + m) (xs ++ news) ∧
      w.grownBy (w.drew.alloc (.cells (xs.toArray ++ news.toArray ++ Builtin.zeroCells z.cells (grownCap w (n + m) old e - (n + m))) e)) row := by
    intro old row
    have hge := grownCap_ge w (n + m) old e
    refine ⟨⟨hlen, .inr ⟨w.heap.size, 0, _, _, rfl, heap_alloc_new w.drew _, hge, ?_, ?_⟩⟩, ⟨rfl, rfl, rfl, by simp, fun k hk _ => Below.heap_alloc w.drew _ k hk⟩⟩
    · simp only [Array.size_append, List.size_toArray, size_zeroCells, hzs, hown.1, hl, ← Nat.add_mul, Nat.zero_add]
      apply Nat.mul_le_mul_right
      omega
    · simp only [Array.toList_append, List.append_assoc, List.drop_zero]
      rw [← List.append_assoc, ← hlen]
      exact List.take_left
  rcases hown.2 with ⟨rfl, rfl⟩ | ⟨g, off, cap, cur, rfl, hg, hnc, hcs, htake⟩
  · have hx : xs = [] := List.eq_nil_of_length_eq_zero (by simpa using hown.1)
    subst hx
    have hr := run_append_nil (P := P) w t ty e i z ht hi hz a m c news hl hnews (by omega) (by omega) (by have hb := hbytes; simp only [Nat.zero_add] at hb; omega)
    have hgr := grown 0 (Value.ownBlock (.slice none 0 0))
    simp only [Nat.zero_add, List.nil_append, Array.empty_append] at hgr ⊢
    exact ⟨_, _, hr, hgr.1, hgr.2, Or.inr rfl⟩
  · by_cases hroom : n + m ≤ cap
    · have hfit : off + n * i.size + news.length ≤ cur.size := by
        have : n * i.size + m * i.size ≤ cap * i.size := by rw [← Nat.add_mul]; exact Nat.mul_le_mul_right _ hroom
        omega
      have hf := run_firstCells_some (P := P) w i.size m a m c news hl hnews
      have hst := run_storeCells_at P g (off + n * i.size) e news 0 cur w hg (by simpa using hfit) h1
      simp only [Nat.add_zero] at hst
      have hr : (Builtin.append_ #[t, t] ty #[.slice (some ⟨g, off, none⟩) n cap, .slice (some a) m c]).run P w = .ok (.slice (some ⟨g, off, none⟩) (n + m) cap) (w.setRow g (cur.toList.take (off + n * i.size) ++ news ++ cur.toList.drop (off + n * i.size + news.length)).toArray) := by
        simp [Builtin.append_, run_underlying ht, sizeOf, typeInfo, hi, Builtin.lenOf, hroom, hf, Addr.add_lit, hst]
      refine ⟨_, _, hr, ⟨hlen, .inr ⟨g, off, cap, _, rfl, setRow_heap w g cur _ e _ hg, hroom, ?_, ?_⟩⟩, ⟨rfl, rfl, rfl, by simp, fun k _ hk => setRow_other w g k _ (fun e => hk (by simp [Value.ownBlock, e]))⟩, Or.inl rfl⟩
      · simp only [List.size_toArray, List.length_append, List.length_take, List.length_drop, Array.length_toList]
        omega
      · rw [List.append_assoc, List.drop_append_of_le_length (by rw [List.length_take, Array.length_toList]; omega), List.drop_take, show off + n * i.size - off = n * i.size by omega, htake, ← List.append_assoc, ← hlen]
        exact List.take_left
    · have holds : ∀ j u, xs[j]? = some u → w.cell? ((⟨g, off, none⟩ : Addr).add j) = some u := by
        intro j u hj
        obtain ⟨g', off', he, hc⟩ := QRow.cell (ao := some ⟨g, off, none⟩) (cap := cap) hown hj
        simp only [Option.some.injEq, Addr.mk.injEq, and_true] at he
        obtain ⟨rfl, rfl⟩ := he
        rw [Addr.add_lit]; exact hc
      have hr := run_append_grow (P := P) w t ty e i z ht hi hz ⟨g, off, none⟩ n cap xs hown.1 holds a m c news hl hnews (by omega) (by omega) (growslice_fits (by omega) hbytes)
      have hgr := grown cap (Value.ownBlock (.slice (some ⟨g, off, none⟩) n cap))
      exact ⟨_, _, hr, hgr.1, hgr.2, Or.inr rfl⟩

theorem step_append_q {P : Program} {w : World} {ops : Array Oper} {o : Oper} {a : Act} {K : Act → World → Prop} {Q : Exit → Act → World → Prop} {E : Prop} (hgd : o.guard = none) (s x : Operand) (t : TypeId)
    (ho : o.op = .call { callee := .builtin .append, args := #[s, x], argTypes := #[t, t] })
    (e : TypeId) (i : TypeInfo) (z : Value) (size bytes : Nat) (ht : P.underlying t = some (.slice e)) (hi : P.info? e = some i) (hz : i.zero = some z)
    (hsize : i.size = size) (hby : i.bytes = bytes) (hzs : z.cells.size = size)
    (v : Value) (n : Nat) (xs : List Value) (hs : a.eval s = v) (hown : QRow w e size v n xs)
    (ad : Addr) (m c : Nat) (news : List Value) (hx : a.eval x = .slice (some ad) m c) (hl : news.length = m * size) (hnews : ∀ j u, news[j]? = some u → w.cell? (ad.add j) = some u) (h1 : ∀ u ∈ news, u.oneCell' = true)
    (hm : 0 < m) (h63 : n + m ≤ maxLen) (hbytes : (n + m) * bytes ≤ 140737488355328)
    (h : ∀ v' w', QRow w' e size v' (n + m) (xs ++ news) → w.grownBy w' v.ownBlock → (v'.ownBlock = v.ownBlock ∨ v'.ownBlock = some w.heap.size) → K (a.put o.dst v') w') :
    if Region.wanted o (yielded ops a.tmps) = true then Oper.wp P o a w K Q else E := by
  have hw : Region.wanted o (yielded ops a.tmps) = true := by simp [Region.wanted, hgd]
  rw [if_pos hw]
  obtain ⟨v', w', hr, h2, h3, h4⟩ := run_append_q (P := P) w t o.type e i z size bytes ht hi hz hsize hby hzs v n xs hown ad m c news hl hnews h1 hm h63 hbytes
  unfold Oper.wp execOp
  simp only [ho, resolve, invoke, builtin, Sem.run_bind, Sem.run_pure, Result.andThen_ok, List.map_toArray, List.map_cons, List.map_nil, hs, hx, hr]
  exact h v' w' h2 h3 h4

end

end Go.Proofs.Yteiecbkfganhnaa

namespace Go.Proofs.Yteiecbkfganhnaa
open Go.RowKit Go.MuLone

/-- Where the group's parts lie: its five lists, the nodes' blocks, their logs; the messages on their way with their entries. -/
structure GX where
  nv : Value
  wv : Value
  tv : Value
  hv : Value
  kv : Value
  pb : Nat → Nat
  lv : Nat → Value
  wl : List (Msg × Value)

def pC (pb : Nat → Nat) (n : Nat) : List Value := (List.range n).map fun i => ptr (pb i)
def zC (l : List Int) : List Value := l.map fun t => .int .i64 t

/-- The roles of blocks that are the group's. -/
def Agr (U : Nat × Nat) : Prop := U.1 = 1 ∨ U.1 = 2 ∨ U.1 = 3

structure GM (w : World) (tg : Tags) (gb : Nat) (G : Gp) (x : GX) : Prop where
  blk : w.heap[gb]? = some (.cells #[x.nv, x.wv, x.tv, x.hv, x.kv, .bool G.ok] 33 (0, 0))
  tb : tg gb = (1, 0)
  nodes : Own w tg (1, 1) 36 1 x.nv G.nodes.length (pC x.pb G.nodes.length)
  nd : ∀ (i : Nat) (s : Nd), G.nodes[i]? = some s → NB 0 w (x.pb i) s (x.lv i) ∧ tg (x.pb i) = (2, i) ∧ NL w s (x.lv i) ∧ Tag tg (x.lv i) (3, i)
  way : QRow w 50 9 x.wv G.way.length (mC x.wl)
  tw : Tag tg x.wv (1, 2)
  wf : x.wl.map Prod.fst = G.way
  we : ∀ y ∈ x.wl, w.ownsRow 0 78 2 y.2 y.1.ents.length (eC y.1.ents) ∧ Tag tg y.2 (4, 0)
  terms : Own w tg (1, 3) 3 1 x.tv G.terms.length (zC G.terms)
  heads : Own w tg (1, 4) 3 1 x.hv G.heads.length (iC G.heads)
  known : Own w tg (1, 5) 78 2 x.kv G.known.length (eC G.known)

/-- Messages that came out of a call. -/
structure MsgsRow (w : World) (tg : Tags) (v : Value) (l : List (Msg × Value)) : Prop where
  row : w.ownsRow 0 50 9 v l.length (mC l)
  tag : Tag tg v (0, 1)
  ents : ∀ y ∈ l, w.ownsRow 0 78 2 y.2 y.1.ents.length (eC y.1.ents) ∧ Tag tg y.2 (4, 0)

section
variable {A : Nat × Nat → Prop} {w w' : World} {tg tg' : Tags} {gb : Nat} {G : Gp} {x : GX}

theorem GM.lt (h : GM w tg gb G x) : gb < w.heap.size := (Array.getElem?_eq_some_iff.1 h.blk).1
theorem GM.free (h : GM w tg gb G x) (o : Nat) : w.frozen? ⟨gb, o, none⟩ = false := frozen_of_row w gb o _ _ h.blk
theorem GM.c0 (h : GM w tg gb G x) : w.cell? ⟨gb, 0, none⟩ = some x.nv := cell_of_row w gb 0 _ _ _ h.blk
theorem GM.c1 (h : GM w tg gb G x) : w.cell? ⟨gb, 1, none⟩ = some x.wv := cell_of_row w gb 1 _ _ _ h.blk
theorem GM.c2 (h : GM w tg gb G x) : w.cell? ⟨gb, 2, none⟩ = some x.tv := cell_of_row w gb 2 _ _ _ h.blk
theorem GM.c3 (h : GM w tg gb G x) : w.cell? ⟨gb, 3, none⟩ = some x.hv := cell_of_row w gb 3 _ _ _ h.blk
theorem GM.c4 (h : GM w tg gb G x) : w.cell? ⟨gb, 4, none⟩ = some x.kv := cell_of_row w gb 4 _ _ _ h.blk
theorem GM.c5 (h : GM w tg gb G x) : w.cell? ⟨gb, 5, none⟩ = some (.bool G.ok) := cell_of_row w gb 5 _ _ _ h.blk

theorem owns_step {base e size n : Nat} {v : Value} {xs : List Value} {T : Nat × Nat} (h : w.ownsRow base e size v n xs) (ht : Tag tg v T) (hs : Stp A w tg w' tg') (hA : ¬ A T) : w'.ownsRow base e size v n xs ∧ Tag tg' v T := by
  have hk : ∀ y, v.ownBlock = some y → w'.heap[y]? = w.heap[y]? ∧ tg' y = tg y := fun y hy => hs.keep y (owns_lt h y hy) (by rw [ht y hy]; exact hA)
  exact ⟨owns_kept h fun y hy => (hk y hy).1, fun y hy => (hk y hy).2.trans (ht y hy)⟩

theorem q_step {e size n : Nat} {v : Value} {xs : List Value} {T : Nat × Nat} (h : QRow w e size v n xs) (ht : Tag tg v T) (hs : Stp A w tg w' tg') (hA : ¬ A T) : QRow w' e size v n xs ∧ Tag tg' v T := by
  have hk : ∀ y, v.ownBlock = some y → w'.heap[y]? = w.heap[y]? ∧ tg' y = tg y := fun y hy => hs.keep y (h.lt y hy) (by rw [ht y hy]; exact hA)
  exact ⟨h.kept fun y hy => (hk y hy).1, fun y hy => (hk y hy).2.trans (ht y hy)⟩

theorem nd_step {i : Nat} {s : Nd} {b : Nat} {lv : Value} (h : NB 0 w b s lv ∧ tg b = (2, i) ∧ NL w s lv ∧ Tag tg lv (3, i)) (hs : Stp A w tg w' tg') (h2 : ¬ A (2, i)) (h3 : ¬ A (3, i)) : NB 0 w' b s lv ∧ tg' b = (2, i) ∧ NL w' s lv ∧ Tag tg' lv (3, i) := by
  obtain ⟨a1, a2, a3, a4⟩ := h
  have hk := hs.keep b a1.lt (by rw [a2]; exact h2)
  have h4 := owns_step a3 a4 hs h3
  exact ⟨a1.block hk.1, hk.2.trans a2, h4.1, h4.2⟩

theorem GM.step (h : GM w tg gb G x) (hs : Stp A w tg w' tg') (hA : ∀ U, Agr U → ¬ A U) (h4 : ¬ A (4, 0)) : GM w' tg' gb G x := by
  have hk := hs.keep gb h.lt (by rw [h.tb]; exact hA _ (.inl rfl))
  have hw := q_step h.way h.tw hs (hA _ (.inl rfl))
  exact {
    blk := hk.1.trans h.blk
    tb := hk.2.trans h.tb
    nodes := h.nodes.step hs (hA _ (.inl rfl))
    nd := fun i s hi => nd_step (h.nd i s hi) hs (hA _ (.inr (.inl rfl))) (hA _ (.inr (.inr rfl)))
    way := hw.1
    tw := hw.2
    wf := h.wf
    we := fun y hy => owns_step (h.we y hy).1 (h.we y hy).2 hs h4
    terms := h.terms.step hs (hA _ (.inl rfl))
    heads := h.heads.step hs (hA _ (.inl rfl))
    known := h.known.step hs (hA _ (.inl rfl)) }

theorem GM.quiet (h : GM w tg gb G x) (hs : Stp (fun _ => False) w tg w' tg') : GM w' tg' gb G x := h.step hs (fun _ _ h => h) (fun h => h)

theorem MsgsRow.step {v : Value} {l : List (Msg × Value)} (h : MsgsRow w tg v l) (hs : Stp A w tg w' tg') (h0 : ¬ A (0, 1)) (h4 : ¬ A (4, 0)) : MsgsRow w' tg' v l := by
  have h1 := owns_step h.row h.tag hs h0
  exact ⟨h1.1, h1.2, fun y hy => owns_step (h.ents y hy).1 (h.ents y hy).2 hs h4⟩

/-- Two rows of other types lie in other blocks. -/
theorem rows_apart {b1 b2 e1 e2 z1 z2 n1 n2 : Nat} {v1 v2 : Value} {x1 x2 : List Value} (h1 : w.ownsRow b1 e1 z1 v1 n1 x1) (h2 : w.ownsRow b2 e2 z2 v2 n2 x2) (hne : e1 ≠ e2) : ∀ y, v1.ownBlock = some y → v2.ownBlock ≠ some y := by
  intro y hy hz
  rcases h1.2 with ⟨rfl, _⟩ | ⟨g, cap, cur, rfl, _, hg, _⟩
  · cases hy
  · rcases h2.2 with ⟨rfl, _⟩ | ⟨g', cap', cur', rfl, _, hg', _⟩
    · cases hz
    · simp [Value.ownBlock] at hy hz
      subst hy hz
      rw [hg] at hg'
      simp only [Option.some.injEq, Obj.cells.injEq] at hg'
      exact hne hg'.2.1

/-- A node did something: the group behind it. -/
theorem gm_sent {i : Nat} {s : Nd} {r : Nd × List Msg} (h : GM w tg gb G x) (hi : G.nodes[i]? = some s) {v lv' : Value} {l : List (Msg × Value)}
    (hN : NB 0 w' (x.pb i) r.1 lv') (hL : NL w' r.1 lv') (hM : MsgsOut w' w.heap.size v r.2 l) (hV : Ev (x.pb i) (x.lv i) lv' w w') (hA : Apart lv' l) :
    ∃ tg', MsgsRow w' tg' v l ∧ GM w' tg' gb (G.put i r.1) { x with lv := upd x.lv i lv' } ∧ Stp (fun U => U = (2, i) ∨ U = (3, i)) w tg w' tg' := by
  obtain ⟨n1, n2, n3, n4⟩ := h.nd i s hi
  refine ⟨fun k => if k < w.heap.size then tg k else if lv'.ownBlock = some k then (3, i) else if v.ownBlock = some k then (0, 1) else (4, 0), ?_⟩
  generalize htg : (fun k => if k < w.heap.size then tg k else if lv'.ownBlock = some k then (3, i) else if v.ownBlock = some k then (0, 1) else (4, 0)) = tg'
  have told : ∀ k, k < w.heap.size → tg' k = tg k := fun k hk => by rw [← htg]; exact if_pos hk
  have tnew : ∀ k, ¬ k < w.heap.size → tg' k = if lv'.ownBlock = some k then (3, i) else if v.ownBlock = some k then (0, 1) else (4, 0) := fun k hk => by rw [← htg]; exact if_neg hk
  have hs : Stp (fun U => U = (2, i) ∨ U = (3, i)) w tg w' tg' := by
    refine ⟨hV.os, hV.tape, hV.output, hV.size, fun k hk hn => ⟨?_, told k hk⟩⟩
    refine hV.block k hk (fun hx => hn (.inl (by rw [hx]; exact n2))) (fun hx => hn (.inr (n4 k hx)))
  have hvl : ∀ y, v.ownBlock = some y → lv'.ownBlock ≠ some y := rows_apart hM.row hL (by decide)
  have hlen : l.length = r.2.length := by rw [← hM.fst, List.length_map]
  refine ⟨⟨by rw [hlen]; exact owns_base hM.row (Nat.zero_le _), ?_, ?_⟩, ?_, hs⟩
  · intro y hy
    have h1 := (hM.row.lt y hy).1
    rw [tnew y (by omega), if_neg (hvl y hy), if_pos hy]
  · intro y hy
    refine ⟨owns_base (hM.ents y hy) (Nat.zero_le _), fun z hz => ?_⟩
    have h1 := ((hM.ents y hy).lt z hz).1
    have h2 : lv'.ownBlock ≠ some z := fun hx => hA y hy z hx hz
    have h3 : v.ownBlock ≠ some z := rows_apart (hM.ents y hy) hM.row (by decide) z hz
    rw [tnew z (by omega), if_neg h2, if_neg h3]
  · have hne : ∀ T : Nat × Nat, T.1 = 1 ∨ T = (4, 0) → ¬ (T = (2, i) ∨ T = (3, i)) := by
      rintro T (hT | hT) (hx | hx) <;> rw [hx] at hT <;> simp at hT
    have hk := hs.keep gb h.lt (by rw [h.tb]; exact hne _ (.inl rfl))
    have hw := q_step h.way h.tw hs (hne _ (.inl rfl))
    have hlenN : (G.put i r.1).nodes.length = G.nodes.length := by show (G.nodes.set i r.1).length = _; rw [List.length_set]
    exact {
      blk := hk.1.trans h.blk
      tb := hk.2.trans h.tb
      nodes := by rw [hlenN]; exact h.nodes.step hs (hne _ (.inl rfl))
      nd := fun j t hj => by
        have hj' : (G.nodes.set i r.1)[j]? = some t := hj
        by_cases hji : j = i
        · subst hji
          rw [List.getElem?_set_self (List.getElem?_eq_some_iff.1 hi).1] at hj'
          have ht := Option.some.inj hj'
          subst ht
          show NB 0 w' (x.pb j) r.1 (upd x.lv j lv' j) ∧ tg' (x.pb j) = (2, j) ∧ NL w' r.1 (upd x.lv j lv' j) ∧ Tag tg' (upd x.lv j lv' j) (3, j)
          have hu : upd x.lv j lv' j = lv' := if_pos rfl
          rw [hu]
          refine ⟨hN, (told _ n1.lt).trans n2, hL, fun y hy => ?_⟩
          rcases hV.own with h1 | h1
          · have h2 : (x.lv j).ownBlock = some y := by rw [← h1]; exact hy
            rw [told y (owns_lt n3 y h2)]; exact n4 y h2
          · have h2 := h1 y hy
            rw [tnew y (by omega), if_pos hy]
        · rw [List.getElem?_set_ne (fun hx => hji hx.symm)] at hj'
          show NB 0 w' (x.pb j) t (upd x.lv i lv' j) ∧ tg' (x.pb j) = (2, j) ∧ NL w' t (upd x.lv i lv' j) ∧ Tag tg' (upd x.lv i lv' j) (3, j)
          have hu : upd x.lv i lv' j = x.lv j := if_neg hji
          rw [hu]
          refine nd_step (h.nd j t hj') hs ?_ ?_
          · rintro (hx | hx)
            · simp at hx; exact hji hx
            · simp at hx
          · rintro (hx | hx)
            · simp at hx
            · simp at hx; exact hji hx
      way := hw.1
      tw := hw.2
      wf := h.wf
      we := fun y hy => owns_step (h.we y hy).1 (h.we y hy).2 hs (hne _ (.inr rfl))
      terms := h.terms.step hs (hne _ (.inl rfl))
      heads := h.heads.step hs (hne _ (.inl rfl))
      known := h.known.step hs (hne _ (.inl rfl)) }

end

end Go.Proofs.Yteiecbkfganhnaa

namespace Go.Proofs.Yteiecbkfganhnaa
open Go.RowKit Go.MuLone

theorem sends_push (G : Gp) (ls : List Msg) (m : Msg) (hw : G.way.length ≤ 200) :
    G.sends (ls ++ [m]) = if (G.sends ls).way.length < 200 then { G.sends ls with way := (G.sends ls).way ++ [m] } else G.sends ls := by
  have hl : (G.sends ls).way.length = G.way.length + min (200 - G.way.length) ls.length := by
    show (G.way ++ ls.take (200 - G.way.length)).length = _
    rw [List.length_append, List.length_take]
  by_cases h : ls.length < 200 - G.way.length
  · rw [if_pos (by rw [hl]; omega)]
    show ({ G with way := _ } : Gp) = { G with way := _ }
    congr 1
    show G.way ++ (ls ++ [m]).take (200 - G.way.length) = G.way ++ ls.take (200 - G.way.length) ++ [m]
    rw [List.append_assoc, List.take_of_length_le (l := ls) (by omega), List.take_of_length_le (by simp; omega)]
  · rw [if_neg (by rw [hl]; omega)]
    show ({ G with way := _ } : Gp) = { G with way := _ }
    congr 1
    rw [List.take_append_of_le_length (by omega)]

theorem sends_nil (G : Gp) : G.sends [] = G := by
  show ({ G with way := _ } : Gp) = G
  simp

/-- The nine cells of the k-th message. -/
theorem row_msg {w : World} {n cap k : Nat} {vo : Option Addr} {l : List (Msg × Value)} {y : Msg × Value} (h : QRow w 50 9 (.slice vo n cap) n (mC l)) (hk : l[k]? = some y) :
    ∃ g off, vo = some ⟨g, off, none⟩ ∧ w.cell? ⟨g, off + k * 9, none⟩ = some (.int .i64 y.1.kind) ∧ w.cell? ⟨g, off + k * 9 + 1, none⟩ = some (.int .i64 y.1.src) ∧ w.cell? ⟨g, off + k * 9 + 2, none⟩ = some (.int .i64 y.1.dst) ∧ w.cell? ⟨g, off + k * 9 + 3, none⟩ = some (.int .i64 y.1.term) ∧ w.cell? ⟨g, off + k * 9 + 4, none⟩ = some (.int .i64 y.1.index) ∧ w.cell? ⟨g, off + k * 9 + 5, none⟩ = some (.int .i64 y.1.logTerm) ∧ w.cell? ⟨g, off + k * 9 + 6, none⟩ = some (.int .i64 y.1.commit) ∧ w.cell? ⟨g, off + k * 9 + 7, none⟩ = some y.2 ∧ w.cell? ⟨g, off + k * 9 + 8, none⟩ = some (.bool y.1.granted) := by
  have hc : ∀ o u, o < 9 → (mcells y.1 y.2)[o]? = some u → ∃ g off, vo = some ⟨g, off, none⟩ ∧ w.cell? ⟨g, off + k * 9 + o, none⟩ = some u := by
    intro o u ho hu
    have h1 := (mC_get l k y hk o ho).trans hu
    obtain ⟨g, off, h2, h3⟩ := h.cell h1
    exact ⟨g, off, h2, by rw [Nat.add_assoc]; exact h3⟩
  obtain ⟨g, off, rfl, h0⟩ := hc 0 _ (by decide) rfl
  refine ⟨g, off, rfl, h0, ?_⟩
  have hd : ∀ o u, o < 9 → (mcells y.1 y.2)[o]? = some u → w.cell? ⟨g, off + k * 9 + o, none⟩ = some u := by
    intro o u ho hu
    obtain ⟨g', off', h2, h3⟩ := hc o u ho hu
    simp only [Option.some.injEq, Addr.mk.injEq, and_true] at h2
    obtain ⟨rfl, rfl⟩ := h2
    exact h3
  exact ⟨hd 1 _ (by decide) rfl, hd 2 _ (by decide) rfl, hd 3 _ (by decide) rfl, hd 4 _ (by decide) rfl, hd 5 _ (by decide) rfl, hd 6 _ (by decide) rfl, hd 7 _ (by decide) rfl, hd 8 _ (by decide) rfl⟩

theorem GM.setOk {w : World} {tg : Tags} {gb : Nat} {G : Gp} {x : GX} (h : GM w tg gb G x) (hok : G.ok = true) : GM (w.setCell ⟨gb, 5, none⟩ (.bool true)) tg gb G x ∧ Stp (fun U => U.1 = 1) w tg (w.setCell ⟨gb, 5, none⟩ (.bool true)) tg := by
  have hs : Stp (fun U => U = (1, 0)) w tg (w.setCell ⟨gb, 5, none⟩ (.bool true)) tg := Stp.setCell (a := ⟨gb, 5, none⟩) h.tb _
  have hne : ∀ T : Nat × Nat, T ≠ (1, 0) → ¬ (T = (1, 0)) := fun _ h => h
  have hw := q_step h.way h.tw hs (by decide)
  refine ⟨{
    blk := by
      have := heap_setCell_same w gb 5 _ _ (.bool true) h.blk
      rw [this, hok]; rfl
    tb := h.tb
    nodes := h.nodes.step hs (by decide)
    nd := fun i s hi => nd_step (h.nd i s hi) hs (fun hx => by cases hx) (fun hx => by cases hx)
    way := hw.1
    tw := hw.2
    wf := h.wf
    we := fun y hy => owns_step (h.we y hy).1 (h.we y hy).2 hs (by decide)
    terms := h.terms.step hs (by decide)
    heads := h.heads.step hs (by decide)
    known := h.known.step hs (by decide) }, hs.mono (fun U hU => by rw [hU])⟩

/-- The way's slice turns: the group's block and the way's row. -/
theorem GM.setWay {w w' : World} {tg : Tags} {gb : Nat} {G : Gp} {x : GX} (h : GM w tg gb G x) {v' : Value} {wl : List (Msg × Value)} (hg : w.grownBy w' x.wv.ownBlock) (hq : QRow w' 50 9 v' wl.length (mC wl))
    (hat : v'.ownBlock = x.wv.ownBlock ∨ v'.ownBlock = some w.heap.size) (hwe : ∀ y ∈ wl, w.ownsRow 0 78 2 y.2 y.1.ents.length (eC y.1.ents) ∧ Tag tg y.2 (4, 0)) :
    ∃ tg', GM (w'.setCell ⟨gb, 1, none⟩ v') tg' gb { G with way := wl.map Prod.fst } { x with wv := v', wl := wl } ∧ Stp (fun U => U.1 = 1) w tg (w'.setCell ⟨gb, 1, none⟩ v') tg' := by
  have hs1 : Stp (fun U => U = (1, 2)) w tg w' (newTag w.heap.size tg (1, 2)) := ⟨hg.os, hg.tape, hg.output, hg.size, fun k hk hn => ⟨hg.block k hk (fun hx => hn (h.tw k hx.symm)), newTag_old hk⟩⟩
  have htb : newTag w.heap.size tg (1, 2) gb = (1, 0) := (newTag_old h.lt).trans h.tb
  have hs2 : Stp (fun U => U = (1, 0)) w' (newTag w.heap.size tg (1, 2)) (w'.setCell ⟨gb, 1, none⟩ v') (newTag w.heap.size tg (1, 2)) := Stp.setCell (a := ⟨gb, 1, none⟩) htb _
  have hs : Stp (fun U => U = (1, 0) ∨ U = (1, 2)) w tg (w'.setCell ⟨gb, 1, none⟩ v') (newTag w.heap.size tg (1, 2)) := (hs1.mono fun _ h => .inr h).trans (hs2.mono fun _ h => .inl h)
  have htv : Tag (newTag w.heap.size tg (1, 2)) v' (1, 2) := by
    intro y hy
    rcases hat with h1 | h1
    · rw [h1] at hy
      rw [newTag_old (h.way.lt y hy)]; exact h.tw y hy
    · rw [h1] at hy
      simp at hy; subst hy
      exact newTag_new (Nat.le_refl _)
  have hk1 := hs1.keep gb h.lt (by rw [h.tb]; decide)
  have hlen : ({ G with way := wl.map Prod.fst } : Gp).way.length = wl.length := List.length_map ..
  refine ⟨_, {
    blk := heap_setCell_same w' gb 1 _ _ v' (hk1.1.trans h.blk)
    tb := htb
    nodes := h.nodes.step hs (by decide)
    nd := fun i s hi => nd_step (h.nd i s hi) hs (fun hx => by rcases hx with hx | hx <;> cases hx) (fun hx => by rcases hx with hx | hx <;> cases hx)
    way := by rw [hlen]; exact (q_step hq htv hs2 (by decide)).1
    tw := htv
    wf := rfl
    we := fun y hy => owns_step (hwe y hy).1 (hwe y hy).2 hs (by decide)
    terms := h.terms.step hs (by decide)
    heads := h.heads.step hs (by decide)
    known := h.known.step hs (by decide) }, hs.mono (fun U hU => by rcases hU with hU | hU <;> rw [hU])⟩

/-- The group's block is not the way's row. -/
theorem way_block {w w4 : World} {tg : Tags} {gb : Nat} {G : Gp} {x : GX} {v : Value} (h : GM w tg gb G x) (hv : x.wv = v) (hg : w.grownBy w4 v.ownBlock) : w4.heap[gb]? = w.heap[gb]? :=
  hg.block gb h.lt (fun e => by subst hv; have h1 := h.tw gb e.symm; rw [h.tb] at h1; cases h1)
theorem way_kept {w w4 : World} {tg : Tags} {gb : Nat} {G : Gp} {x : GX} {v : Value} (h : GM w tg gb G x) (hv : x.wv = v) (hg : w.grownBy w4 v.ownBlock) : w4.cell? ⟨gb, 1, none⟩ = some v :=
  (World.cell?_of_block (a := ⟨gb, 1, none⟩) (way_block h hv hg)).trans (by rw [h.c1, hv])
theorem way_free {w w4 : World} {tg : Tags} {gb : Nat} {G : Gp} {x : GX} {v : Value} (h : GM w tg gb G x) (hv : x.wv = v) (hg : w.grownBy w4 v.ownBlock) : w4.frozen? ⟨gb, 1, none⟩ = false :=
  (World.frozen?_of_block (a := ⟨gb, 1, none⟩) (way_block h hv hg)).trans (h.free 1)

theorem Stp.drew1 (A : Nat × Nat → Prop) (w : World) (tg : Tags) : Stp A w tg w.drew tg := ⟨rfl, rfl, rfl, Nat.le_refl _, fun _ _ _ => ⟨rfl, rfl⟩⟩

set_option maxRecDepth 100000 in
set_option maxHeartbeats 1000000 in
theorem sends_any (gb i : Nat) (G : Gp) (x : GX) (v : Value) (l : List (Msg × Value)) (w : World) (tg : Tags) (h : GM w tg gb G x) (hv : MsgsRow w tg v l) (hok : G.ok = true) (hl : ∀ y ∈ l, Sendable G.nodes.length i y.1) (hlen : l.length ≤ 1000) (hw : G.way.length ≤ 200) :
    Calls Try.prog 35 #[ptr gb, .int .i64 (i : Int), v] w fun e w' => e = .returned (.tuple #[]) ∧ ∃ tg' x', GM w' tg' gb (G.sends (l.map Prod.fst)) x' ∧ Stp (fun U => U.1 = 1) w tg w' tg' ∧ x'.pb = x.pb := by
  obtain ⟨vo, vc, rfl⟩ := owns_form hv.row
  have H := hide h
  have HV := hide hv
  have HOK := hide hok
  have HSD := hide hl
  obtain ⟨i0, hi, hz0, hz1, hz2⟩ := info_parts infoMsg
  clear h hv hok hl
  go_enter Try.func35, Try.ntmps35
  go_wp2
  go_loopw [6] (fun u wr => ∃ (k : Nat) (tg' : Tags) (x' : GX), k ≤ l.length ∧ u = .int .i64 k ∧ GM wr tg' gb (G.sends ((l.take k).map Prod.fst)) x' ∧ Stp (fun U => U.1 = 1) w tg wr tg' ∧ x'.pb = x.pb) (fun u _ => l.length - (intOf u).toNat)
  case atStart => exact ⟨0, tg, x, Nat.zero_le _, rfl, by simpa [sends_nil] using unhide H, Stp.refl _ _ _, rfl⟩
  case round =>
    obtain ⟨k, tg1, x1, hk, rfl, h1, hs1, hpb⟩ := hrel
    have HPB := hide hpb
    clear hpb
    by_cases hlt : k < l.length
    · have HV1 := hide ((unhide HV).step hs1 (by decide) (by decide))
      have hkk : l[k]? = some l[k] := List.getElem?_eq_getElem hlt
      obtain ⟨g, off, rfl, a0, a1, a2, a3, a4, a5, a6, a7, a8⟩ := row_msg (QRow.ofOwn (unhide HV1).row) hkk
      have HSk : Hid (Sendable G.nodes.length i l[k].1) := unhide HSD _ (List.getElem_mem hlt)
      have HE : Hid (wr.ownsRow 0 78 2 l[k].2 l[k].1.ents.length (eC l[k].1.ents) ∧ Tag tg1 l[k].2 (4, 0)) := (unhide HV1).ents _ (List.getElem_mem hlt)
      have HP : Hid ((l.take (k + 1)).map Prod.fst = (l.take k).map Prod.fst ++ [l[k].1]) := by show _ = _; rw [List.take_succ_eq_append_getElem hlt, List.map_append]; rfl
      clear hkk
      generalize l[k] = y at *
      obtain ⟨m, ev⟩ := y
      have HE1 : Hid (wr.ownsRow 0 78 2 ev m.ents.length (eC m.ents) ∧ Tag tg1 ev (4, 0)) := HE
      have HP1 : Hid ((l.take (k + 1)).map Prod.fst = (l.take k).map Prod.fst ++ [m]) := HP
      clear HE HP
      simp only at a0 a1 a2 a3 a4 a5 a6 a7 a8
      obtain ⟨s1, s2, s3, s4, _⟩ := unhide HSk
      simp only at s1 s2 s3 s4
      rw [s1] at a1
      have HSRC := hide s1
      have b2 : (m.dst != (i : Int)) = true := by simpa using s2
      obtain ⟨eo, ec, rfl⟩ := owns_form (unhide HE1).1
      have hgb := h1.lt
      have hne : ¬ gb = wr.heap.size := by omega
      have hgl : g < wr.heap.size := block_lt_of_cell a0
      obtain ⟨no, nc, hnv⟩ := h1.nodes.form
      obtain ⟨wo, wc, hwv⟩ := h1.way.form
      have c0 := h1.c0
      have c1 := h1.c1
      have c5 := h1.c5
      have f5 := h1.free 5
      have hokG : (G.sends ((l.take k).map Prod.fst)).ok = true := unhide HOK
      rw [hokG] at c5
      rw [hnv] at c0
      rw [hwv] at c1
      have hG1 : (G.sends ((l.take k).map Prod.fst)).nodes.length = G.nodes.length := rfl
      rw [hG1] at c0
      have HG := hide h1
      have HS1 := hide hs1
      have HNV := hide hnv
      have HWV := hide hwv
      have HOG := hide hokG
      clear h1 hs1 s1 s2 HSk hnv hwv hokG hG1
      obtain ⟨wn, hwn0⟩ : ∃ wn, (G.sends ((l.take k).map Prod.fst)).way.length = wn := ⟨_, rfl⟩
      rw [hwn0] at c1
      have HWV2 : Hid (x1.wv = .slice wo wn wc) := by show _ = _; rw [← hwn0]; exact unhide HWV
      have HWN := hide hwn0
      clear hwn0 HWV
      go_wp2
      go_region
      -- the world behind 'g.ok = ..'
      have hG2 := (unhide HG).setOk (unhide HOG)
      have hG3 := hG2.1.quiet (Stp.alloc (A := fun _ => False) _ tg1 (.cells #[.int .i64 m.kind, .int .i64 (i : Int), .int .i64 m.dst, .int .i64 m.term, .int .i64 m.index, .int .i64 m.logTerm, .int .i64 m.commit, .slice eo m.ents.length ec, .bool m.granted] 50) (0, 1))
      have hS3 := hG2.2.trans (Stp.alloc (A := fun U => U.1 = 1) _ tg1 (.cells #[.int .i64 m.kind, .int .i64 (i : Int), .int .i64 m.dst, .int .i64 m.term, .int .i64 m.index, .int .i64 m.logTerm, .int .i64 m.commit, .slice eo m.ents.length ec, .bool m.granted] 50) (0, 1))
      have hBsz : (wr.setCell ⟨gb, 5, none⟩ (.bool true)).heap.size = wr.heap.size := by simp [World.setCell]
      rw [hBsz] at hG3 hS3
      have HMB : Hid (((wr.setCell ⟨gb, 5, none⟩ (.bool true)).alloc (.cells #[.int .i64 m.kind, .int .i64 (i : Int), .int .i64 m.dst, .int .i64 m.term, .int .i64 m.index, .int .i64 m.logTerm, .int .i64 m.commit, .slice eo m.ents.length ec, .bool m.granted] 50)).drew.heap[wr.heap.size]? = some (.cells #[.int .i64 m.kind, .int .i64 (i : Int), .int .i64 m.dst, .int .i64 m.term, .int .i64 m.index, .int .i64 m.logTerm, .int .i64 m.commit, .slice eo m.ents.length ec, .bool m.granted] 50 (0, 0))) := by
        have := heap_alloc_new (wr.setCell ⟨gb, 5, none⟩ (.bool true)) (.cells #[.int .i64 m.kind, .int .i64 (i : Int), .int .i64 m.dst, .int .i64 m.term, .int .i64 m.index, .int .i64 m.logTerm, .int .i64 m.commit, .slice eo m.ents.length ec, .bool m.granted] 50)
        rw [hBsz] at this; exact this
      have hG4 : GM ((wr.setCell ⟨gb, 5, none⟩ (.bool true)).alloc (.cells #[.int .i64 m.kind, .int .i64 (i : Int), .int .i64 m.dst, .int .i64 m.term, .int .i64 m.index, .int .i64 m.logTerm, .int .i64 m.commit, .slice eo m.ents.length ec, .bool m.granted] 50)).drew (newTag wr.heap.size tg1 (0, 1)) gb _ x1 := hG3.quiet (Stp.drew1 _ _ _)
      have hS4 : Stp (fun U => U.1 = 1) wr tg1 ((wr.setCell ⟨gb, 5, none⟩ (.bool true)).alloc (.cells #[.int .i64 m.kind, .int .i64 (i : Int), .int .i64 m.dst, .int .i64 m.term, .int .i64 m.index, .int .i64 m.logTerm, .int .i64 m.commit, .slice eo m.ents.length ec, .bool m.granted] 50)).drew (newTag wr.heap.size tg1 (0, 1)) := hS3.trans (Stp.drew1 _ _ _)
      have HE4 := hide (owns_step (unhide HE1).1 (unhide HE1).2 hS4 (by decide))
      have HS4 := hide ((unhide HS1).trans hS4)
      have hltB : wr.heap.size < ((wr.setCell ⟨gb, 5, none⟩ (.bool true)).alloc (.cells #[.int .i64 m.kind, .int .i64 (i : Int), .int .i64 m.dst, .int .i64 m.term, .int .i64 m.index, .int .i64 m.logTerm, .int .i64 m.commit, .slice eo m.ents.length ec, .bool m.granted] 50)).drew.heap.size := (Array.getElem?_eq_some_iff.1 (unhide HMB)).1
      have HG4 := hide hG4
      clear hG2 hG3 hS3 hBsz hG4 hS4 HG HS1 HE1 c0 c1 c5 f5 a0 a1 a2 a3 a4 a5 a6 a7 a8
      generalize ((wr.setCell ⟨gb, 5, none⟩ (.bool true)).alloc (.cells #[.int .i64 m.kind, .int .i64 (i : Int), .int .i64 m.dst, .int .i64 m.term, .int .i64 m.index, .int .i64 m.logTerm, .int .i64 m.commit, .slice eo m.ents.length ec, .bool m.granted] 50)).drew = W at *
      generalize newTag wr.heap.size tg1 (0, 1) = tg4 at *
      have hgbW := (unhide HG4).lt
      have d1 : W.cell? ⟨gb, 1, none⟩ = some (.slice wo wn wc) := by rw [(unhide HG4).c1, unhide HWV2]
      have e1 := (unhide HG4).free 1
      by_cases hwn : wn < 200
      · have hwi : (wn : Int) < 200 := by omega
        have m0 : W.cell? ⟨wr.heap.size, 0, none⟩ = some (.int .i64 m.kind) := cell_of_row W _ 0 _ _ _ (unhide HMB)
        have m1 : W.cell? ⟨wr.heap.size, 1, none⟩ = some (.int .i64 (i : Int)) := cell_of_row W _ 1 _ _ _ (unhide HMB)
        have m2 : W.cell? ⟨wr.heap.size, 2, none⟩ = some (.int .i64 m.dst) := cell_of_row W _ 2 _ _ _ (unhide HMB)
        have m3 : W.cell? ⟨wr.heap.size, 3, none⟩ = some (.int .i64 m.term) := cell_of_row W _ 3 _ _ _ (unhide HMB)
        have m4 : W.cell? ⟨wr.heap.size, 4, none⟩ = some (.int .i64 m.index) := cell_of_row W _ 4 _ _ _ (unhide HMB)
        have m5 : W.cell? ⟨wr.heap.size, 5, none⟩ = some (.int .i64 m.logTerm) := cell_of_row W _ 5 _ _ _ (unhide HMB)
        have m6 : W.cell? ⟨wr.heap.size, 6, none⟩ = some (.int .i64 m.commit) := cell_of_row W _ 6 _ _ _ (unhide HMB)
        have m7 : W.cell? ⟨wr.heap.size, 7, none⟩ = some (.slice eo m.ents.length ec) := cell_of_row W _ 7 _ _ _ (unhide HMB)
        have m8 : W.cell? ⟨wr.heap.size, 8, none⟩ = some (.bool m.granted) := cell_of_row W _ 8 _ _ _ (unhide HMB)
        have HGA : Hid (GM (W.alloc (.cells #[.int .i64 m.kind, .int .i64 (i : Int), .int .i64 m.dst, .int .i64 m.term, .int .i64 m.index, .int .i64 m.logTerm, .int .i64 m.commit, .slice eo m.ents.length ec, .bool m.granted] 50)).drew (newTag W.heap.size tg4 (0, 1)) gb _ x1) := ((unhide HG4).quiet (Stp.alloc (A := fun _ => False) W tg4 (.cells #[.int .i64 m.kind, .int .i64 (i : Int), .int .i64 m.dst, .int .i64 m.term, .int .i64 m.index, .int .i64 m.logTerm, .int .i64 m.commit, .slice eo m.ents.length ec, .bool m.granted] 50) (0, 1))).quiet (Stp.drew1 _ _ _)
        have HSA : Hid (Stp (fun U => U.1 = 1) W tg4 (W.alloc (.cells #[.int .i64 m.kind, .int .i64 (i : Int), .int .i64 m.dst, .int .i64 m.term, .int .i64 m.index, .int .i64 m.logTerm, .int .i64 m.commit, .slice eo m.ents.length ec, .bool m.granted] 50)).drew (newTag W.heap.size tg4 (0, 1))) := (Stp.alloc W tg4 _ _).trans (Stp.drew1 _ _ _)
        have HQA : Hid (QRow (W.alloc (.cells #[.int .i64 m.kind, .int .i64 (i : Int), .int .i64 m.dst, .int .i64 m.term, .int .i64 m.index, .int .i64 m.logTerm, .int .i64 m.commit, .slice eo m.ents.length ec, .bool m.granted] 50)).drew 50 9 (.slice wo wn wc) wn (mC x1.wl)) := by
          have h9 := (unhide HGA).way
          rw [unhide HWV2, unhide HWN] at h9; exact h9
        have hneW : ¬ gb = W.heap.size := by omega
        have hneW2 : ¬ W.heap.size = gb := by omega
        have hneB : ¬ wr.heap.size = W.heap.size := by omega
        have hneB2 : ¬ W.heap.size = wr.heap.size := by omega
        go_wp2
        go_region_law (first | (refine step_append_q (by rfl) (.tmp 62) (.tmp 64) 29 (by rfl) 50 i0 _ 9 88 Try.underlying29 hi hz0 hz1 hz2 rfl (.slice wo wn wc) wn (mC x1.wl) (by rfl) (by exact unhide HQA) ⟨W.heap.size, 0, none⟩ 1 1 [.int .i64 m.kind, .int .i64 (i : Int), .int .i64 m.dst, .int .i64 m.term, .int .i64 m.index, .int .i64 m.logTerm, .int .i64 m.commit, .slice eo m.ents.length ec, .bool m.granted] (by rfl) rfl (by exact cells_new9 _ _ _) (by intro u hu; simp at hu; rcases hu with rfl | rfl | rfl | rfl | rfl | rfl | rfl | rfl | rfl <;> rfl) (by decide) (by unfold maxLen; omega) (by omega) ?_; intro v' w4 hq4 hg4 hat4; obtain ⟨ao4, cp4, rfl⟩ := hq4.form; have k1 : w4.cell? ⟨gb, 1, none⟩ = some (.slice wo wn wc) := way_kept (unhide HGA) (unhide HWV2) hg4; have q1 : w4.frozen? ⟨gb, 1, none⟩ = false := way_free (unhide HGA) (unhide HWV2) hg4; replace hq4 := hide hq4; replace hg4 := hide hg4; replace hat4 := hide hat4))
        all_goals
          have hwl : x1.wl.length = wn := by rw [← unhide HWN, ← (unhide HG4).wf, List.length_map]
          have hq5 : QRow w4 50 9 (.slice ao4 (wn + 1) cp4) (x1.wl ++ [(m, Value.slice eo m.ents.length ec)]).length (mC (x1.wl ++ [(m, Value.slice eo m.ents.length ec)])) := by
            rw [List.length_append, hwl, mC_append]
            have h9 := unhide hq4
            have e9 : mC [(m, .slice eo m.ents.length ec)] = [.int .i64 m.kind, .int .i64 (i : Int), .int .i64 m.dst, .int .i64 m.term, .int .i64 m.index, .int .i64 m.logTerm, .int .i64 m.commit, .slice eo m.ents.length ec, .bool m.granted] := by
              show [_, Value.int .i64 m.src, _, _, _, _, _, _, _] = _
              rw [unhide HSRC]
            rw [e9]
            exact h9
          have hwe : ∀ y ∈ x1.wl ++ [(m, Value.slice eo m.ents.length ec)], (W.alloc (.cells #[.int .i64 m.kind, .int .i64 (i : Int), .int .i64 m.dst, .int .i64 m.term, .int .i64 m.index, .int .i64 m.logTerm, .int .i64 m.commit, .slice eo m.ents.length ec, .bool m.granted] 50)).drew.ownsRow 0 78 2 y.2 y.1.ents.length (eC y.1.ents) ∧ Tag (newTag W.heap.size tg4 (0, 1)) y.2 (4, 0) := by
            intro y hy
            rcases List.mem_append.1 hy with h9 | h9
            · exact (unhide HGA).we y h9
            · rw [List.mem_singleton.1 h9]
              exact owns_step (unhide HE4).1 (unhide HE4).2 (unhide HSA) (by decide)
          have hg5 := unhide hg4
          rw [← unhide HWV2] at hg5
          have hat5 := unhide hat4
          rw [← unhide HWV2] at hat5
          obtain ⟨tg5, hG5, hS5⟩ := (unhide HGA).setWay hg5 hq5 (by simpa using hat5) hwe
          have HG5 := hide hG5
          have HS5 := hide (((unhide HS4).trans (unhide HSA)).trans hS5)
          clear hq5 hg5 hat5 hwe hG5 hS5 hg4 hq4 hat4 k1 q1
          go_wp2
          go_roundw
          case rel =>
            refine ⟨k + 1, tg5, { x1 with wv := .slice ao4 (wn + 1) cp4, wl := x1.wl ++ [(m, Value.slice eo m.ents.length ec)] }, by omega, by go_num, ?_, unhide HS5, unhide HPB⟩
            rw [unhide HP1, sends_push _ _ _ hw, if_pos (by rw [unhide HWN]; exact hwn)]
            have h9 := unhide HG5
            rw [List.map_append, (unhide HG4).wf] at h9
            exact h9
          case measure => simp [intOf]; omega
      · have hwi : ¬ (wn : Int) < 200 := by omega
        go_wp2
        go_roundw
        case rel =>
          refine ⟨k + 1, tg4, x1, by omega, by go_num, ?_, unhide HS4, unhide HPB⟩
          rw [unhide HP1, sends_push _ _ _ hw, if_neg (by rw [unhide HWN]; exact hwn)]
          exact unhide HG4
        case measure => simp [intOf]; omega
    · have hkl : k = l.length := by omega
      subst hkl
      have HG := hide h1
      have HS1 := hide hs1
      clear h1 hs1
      go_wp2
      go_end0
      refine ⟨rfl, tg1, x1, ?_, unhide HS1, unhide HPB⟩
      have h9 := unhide HG
      rw [List.take_length] at h9
      exact h9

end Go.Proofs.Yteiecbkfganhnaa

namespace Go.Proofs.Yteiecbkfganhnaa
open Go.RowKit Go.MuLone

set_option maxRecDepth 100000 in
set_option maxHeartbeats 400000 in
theorem pick_any (c n : Int) (w : World) (h1 : -9223372036854775808 ≤ c) (h2 : c ≤ 9223372036854775807) (h3 : 0 < n) (h4 : n ≤ 9223372036854775807) :
    Calls Try.prog 9 #[.int .i64 c, .int .i64 n] w fun e w' => e = .returned (.int .i64 (pickZ c n)) ∧ w' = w := by
  have hn0 : ¬ n = 0 := by omega
  by_cases h : c < 0
  · have HP : Hid (pickZ c n = (-(c + 1)) % n) := by show _ = _; unfold pickZ; rw [if_pos h]
    go_enter Try.func9, Try.ntmps9
    go_wp2
    go_ret
    refine ⟨?_, rfl⟩
    rw [unhide HP]
    have h9 : -(c + 1).tmod n = -(c + 1) % n := by
      rw [← Int.neg_tmod, Int.tmod_eq_emod_of_nonneg (by omega)]
    show Ending.returned (Value.int .i64 (-(c + 1).tmod n)) = _
    rw [h9]
  · have HP : Hid (pickZ c n = c % n) := by show _ = _; unfold pickZ; rw [if_neg h]
    go_enter Try.func9, Try.ntmps9
    go_wp2
    go_ret
    refine ⟨?_, rfl⟩
    rw [unhide HP]
    rfl

theorem conv_cmd (w : World) (p : Int) : (convert 84 9 (.slice (some ⟨w.heap.size, 0, none⟩) 2 2)).run Try.prog (w.alloc (.cells #[.int .u8 99, .int .u8 p] 5)) = .ok (.string (Go.strOfNums [99, p])) (w.alloc (.cells #[.int .u8 99, .int .u8 p] 5)) := by
  refine run_convert_bytes_arg _ 84 5 Try.underlying84 Try.underlying5 w.heap.size 0 2 2 [99, p] rfl ?_ 9 Try.underlying9
  intro i hi
  rw [cell_of_row _ w.heap.size (0 + i) _ _ _ (heap_alloc_new w _)]
  match i, hi with
  | 0, _ => rfl
  | 1, _ => rfl

set_option maxRecDepth 100000 in
set_option maxHeartbeats 400000 in
theorem command_any (n : Int) (w : World) (h1 : -9223372036854775808 ≤ n) (h2 : n ≤ 9223372036854775807) :
    Calls Try.prog 25 #[.int .i64 n] w fun e w' => e = .returned (.string (cmdOf n)) ∧ Below w.heap.size w w' := by
  have hlo := pickZ_lo n 10 (by decide)
  have hhi := pickZ_hi n 10 (by decide)
  have HC : Hid (cmdOf n = Go.strOfNums [99, 48 + pickZ n 10]) := rfl
  obtain ⟨p, hp⟩ : ∃ p, pickZ n 10 = p := ⟨_, rfl⟩
  have HP := hide hp
  rw [hp] at hlo hhi HC
  have hc := conv_cmd w (48 + p)
  have hm : (48 + p) % 256 = 48 + p := by omega
  clear hp
  go_enter Try.func25, Try.ntmps25
  go_wp2_with (go_at_call 9; refine (pick_any n 10 _ h1 h2 (by decide) (by decide)).mono ?_; rw [unhide HP]; rintro e w1 ⟨rfl, q1⟩; cases q1.symm)
  go_ret
  exact ⟨by rw [unhide HC]; rfl, (Below.refl _ _).alloc (Nat.le_refl _) _⟩

end Go.Proofs.Yteiecbkfganhnaa

namespace Go.Proofs.Yteiecbkfganhnaa
open Go.RowKit Go.MuLone

/-- A node in the block nb; all below B is as it was in w0. -/
structure One (B : Nat) (w0 w : World) (nb : Nat) (s : Nd) : Prop where
  mem : ∃ lv, NB 0 w nb s lv ∧ NL w s lv ∧ ∀ x, lv.ownBlock = some x → B ≤ x
  nbB : B ≤ nb
  ok : Ok s
  below : Below B w0 w

theorem One.lt {B : Nat} {w0 w : World} {nb : Nat} {s : Nd} (h : One B w0 w nb s) : B ≤ w.heap.size := by
  obtain ⟨lv, hN, _⟩ := h.mem
  have := hN.lt
  have := h.nbB
  omega

theorem One.quiet {B : Nat} {w0 w w' : World} {nb : Nat} {s : Nd} (h : One B w0 w nb s) (hb : Below w.heap.size w w') : One B w0 w' nb s := by
  obtain ⟨lv, hN, hL, hx⟩ := h.mem
  exact ⟨⟨lv, hN.below hb, hL.below hb, hx⟩, h.nbB, h.ok, h.below.trans (hb.mono h.lt)⟩

theorem ev_below {B nb : Nat} {lv lv' : Value} {w w' : World} (h : Ev nb lv lv' w w') (hn : B ≤ nb) (hl : ∀ x, lv.ownBlock = some x → B ≤ x) (hs : B ≤ w.heap.size) : Below B w w' ∧ ∀ x, lv'.ownBlock = some x → B ≤ x := by
  refine ⟨⟨h.os, h.tape, h.output, h.size, fun k hk => h.block k (by omega) (by omega) (fun hx => by have := hl k hx; omega)⟩, fun x hx => ?_⟩
  rcases h.own with h1 | h1
  · exact hl x (h1 ▸ hx)
  · have := h1 x hx; omega

theorem One.sent {B : Nat} {w0 w w' : World} {nb : Nat} {s : Nd} {lv : Value} {r : Nd × List Msg} {e : Ending} (h : One B w0 w nb s) (hx : ∀ x, lv.ownBlock = some x → B ≤ x) (hs : Sent 0 nb lv w r e w') (hok : Ok r.1) : ∃ v l, e = .returned v ∧ MsgsOut w' w.heap.size v r.2 l ∧ One B w0 w' nb r.1 := by
  obtain ⟨v, l, lv', he, hN, hL, hM, hV, _⟩ := hs
  obtain ⟨hb, hx'⟩ := ev_below hV h.nbB hx h.lt
  exact ⟨v, l, he, hM, ⟨lv', hN, hL, hx'⟩, h.nbB, hok, h.below.trans hb⟩

theorem one_made {id n : Nat} {term vote : Int} {es : List Ent} {w : World} {e : Ending} {w' : World} {B : Nat} {w0 : World} (h : NodeMade id n term vote es w e w') (hok : Ok (Nd.made id n term vote es)) (hb : Below B w0 w) (hB : B ≤ w.heap.size) :
    ∃ nb, e = .returned (.tuple #[ptr nb, .int .i64 0]) ∧ w.heap.size ≤ nb ∧ One B w0 w' nb (Nd.made id n term vote es) := by
  obtain ⟨nb, v, he, hnb, hN, hv, hbl⟩ := h
  exact ⟨nb, he, hnb, ⟨v, hN, owns_base hv (Nat.zero_le _), fun x hx => by have := (hv.lt x hx).1; omega⟩, by omega, hok, hb.trans (hbl.mono hB)⟩

theorem one_open (id n : Nat) (B : Nat) (w0 w : World) (hb : Below B w0 w) (hB : B ≤ w.heap.size) (h1 : 1 ≤ n) (h2 : n ≤ 7) (h3 : id < n) :
    Calls Try.prog 22 #[.int .i64 (id : Int), .int .i64 (n : Int)] w fun e w' => ∃ nb, e = .returned (.tuple #[ptr nb, .int .i64 0]) ∧ w.heap.size ≤ nb ∧ One B w0 w' nb (Nd.made id n 0 (-1) []) := by
  refine (open_ok id n w h1 h2 h3).mono ?_
  intro e w' h
  exact one_made h (Ok.made h1 h2 h3 (by simp [okE]; omega)) hb hB

theorem one_patience (t : Int) (B : Nat) (w0 w : World) (nb : Nat) (s : Nd) (h : One B w0 w nb s) (h1 : 1 ≤ t) (h2 : t ≤ 40) :
    Calls Try.prog 11 #[ptr nb, .int .i64 t] w fun e w' => e = .returned (.int .i64 0) ∧ One B w0 w' nb { s with pat := t } := by
  obtain ⟨lv, hN, hL, hx⟩ := h.mem
  refine (patience_ok nb s lv t w hN h1 h2).mono ?_
  rintro e w' ⟨rfl, rfl⟩
  have hE : Ew nb w (((w.setCell ⟨nb, 0, none⟩ (.int .i32 1)).setCell ⟨nb, 11, none⟩ (.int .i64 t)).setCell ⟨nb, 0, none⟩ (.int .i32 0)) := (((Ew.refl nb w).set 0 _).set 11 _).set 0 _
  exact ⟨rfl, ⟨lv, ((hN.setMu 1).setPat t).setMu 0, hL.ew hN hE, hx⟩, h.nbB, h.ok.setPat t h1 h2, h.below.trans (ev_below (Ev.ofEw (lv := lv) hE) h.nbB hx h.lt).1⟩

theorem one_tick (B : Nat) (w0 w : World) (nb : Nat) (s : Nd) (h : One B w0 w nb s) (he : s.elapsed < 4611686018427387904) :
    Calls Try.prog 20 #[ptr nb] w fun e w' => ∃ v l, e = .returned v ∧ MsgsOut w' w.heap.size v s.tick.2 l ∧ One B w0 w' nb s.tick.1 := by
  obtain ⟨lv, hN, hL, hx⟩ := h.mem
  refine (tick_any nb s lv w hN hL h.ok he).mono ?_
  intro e w' hs
  exact h.sent hx hs h.ok.tick

theorem one_propose (c : ByteArray) (B : Nat) (w0 w : World) (nb : Nat) (s : Nd) (h : One B w0 w nb s) :
    Calls Try.prog 15 #[ptr nb, .string c] w fun e w' => ∃ v l, e = .returned (.tuple #[.int .i64 (s.propose c).1, v, .int .i64 (s.propose c).2.2.2]) ∧ MsgsOut w' w.heap.size v (s.propose c).2.2.1 l ∧ One B w0 w' nb (s.propose c).2.1 := by
  obtain ⟨lv, hN, hL, hx⟩ := h.mem
  refine (propose_any nb s lv c w hN hL h.ok).mono ?_
  rintro e w' ⟨v, l, lv', he, hN', hL', hM, hV, _⟩
  obtain ⟨hb, hx'⟩ := ev_below hV h.nbB hx h.lt
  exact ⟨v, l, he, hM, ⟨lv', hN', hL', hx'⟩, h.nbB, h.ok.propose c, h.below.trans hb⟩

theorem one_status (B : Nat) (w0 w : World) (nb : Nat) (s : Nd) (h : One B w0 w nb s) :
    Calls Try.prog 10 #[ptr nb] w fun e w' => e = .returned (.agg #[.int .i64 s.role, .int .i64 s.term, .int .i64 s.leads, .int .i64 (s.commit : Int), .int .i64 (s.last : Int)]) ∧ Below w.heap.size w w' := by
  obtain ⟨lv, hN, hL, hx⟩ := h.mem
  obtain ⟨ao, cap, hf⟩ := hL.form
  exact status_any nb s lv ao s.log.length cap w hN hf

theorem one_committed (B : Nat) (w0 w : World) (nb : Nat) (s : Nd) (h : One B w0 w nb s) :
    Calls Try.prog 18 #[ptr nb] w fun e w' => ∃ v, e = .returned v ∧ w'.ownsRow w.heap.size 9 1 v s.cmds.length (tC s.cmds) ∧ Below w.heap.size w w' := by
  obtain ⟨lv, hN, hL, hx⟩ := h.mem
  exact committed_any nb s lv w hN hL h.ok.com h.ok.len

theorem one_saved (B : Nat) (w0 w : World) (nb : Nat) (s : Nd) (h : One B w0 w nb s) :
    Calls Try.prog 24 #[ptr nb] w fun e w' => ∃ v, e = .returned (.agg #[.int .i64 s.term, .int .i64 s.vote, v]) ∧ w'.ownsRow w.heap.size 78 2 v s.log.length (eC s.log) ∧ Below w.heap.size w w' := by
  obtain ⟨lv, hN, hL, hx⟩ := h.mem
  exact saved_any nb s lv s.log w hN hL.ents h.ok.len (okE_sizes h.ok.log)

theorem one_restart (B : Nat) (w0 w : World) (id n : Nat) (s : Nd) (v : Value) (hok : Ok s) (hb : Below B w0 w) (hB : B ≤ w.heap.size) (hid : s.id = id) (hn : s.n = n) (hv : EntsIn w v s.log) :
    Calls Try.prog 23 #[.int .i64 (id : Int), .int .i64 (n : Int), .agg #[.int .i64 s.term, .int .i64 s.vote, v]] w fun e w' => ∃ nb, e = .returned (.tuple #[ptr nb, .int .i64 0]) ∧ w.heap.size ≤ nb ∧ One B w0 w' nb (Nd.made id n s.term s.vote s.log) := by
  subst hid hn
  refine (restart_ok s.id s.n s.term s.vote v s.log w hok.n1 hok.n7 hok.id hv hok.saved).mono ?_
  intro e w' h
  exact one_made h (Ok.made hok.n1 hok.n7 hok.id hok.saved) hb hB

end Go.Proofs.Yteiecbkfganhnaa

namespace Go.Proofs.Yteiecbkfganhnaa
open Go.RowKit Go.MuLone

theorem agr01 : ¬ Agr (0, 1) := by unfold Agr; decide
theorem agr00 : ¬ Agr (0, 0) := by unfold Agr; decide
theorem agr40 : ¬ Agr (4, 0) := by unfold Agr; decide

/-- What comes of a call of node i: messages in memory of their own, and the group. -/
def GDid (gb : Nat) (G : Gp) (pb : Nat → Nat) (i : Nat) (r : Nd × List Msg) (w : World) (tg : Tags) (v : Value) (w' : World) : Prop :=
  ∃ l tg' x', l.map Prod.fst = r.2 ∧ MsgsRow w' tg' v l ∧ GM w' tg' gb (G.put i r.1) x' ∧ Stp Agr w tg w' tg' ∧ x'.pb = pb

section
variable {w w' : World} {tg : Tags} {gb : Nat} {G : Gp} {x : GX} {i : Nat} {s : Nd}

theorem gm_did {r : Nd × List Msg} {e : Ending} (h : GM w tg gb G x) (hi : G.nodes[i]? = some s) (hs : Sent 0 (x.pb i) (x.lv i) w r e w') : ∃ v, e = .returned v ∧ GDid gb G x.pb i r w tg v w' := by
  obtain ⟨v, l, lv', he, hN, hL, hM, hV, hA⟩ := hs
  obtain ⟨tg', h1, h2, h3⟩ := gm_sent h hi hN hL hM hV hA
  exact ⟨v, he, l, tg', _, hM.fst, h1, h2, h3.mono (by rintro U (hU | hU) <;> rw [hU]; exact .inr (.inl rfl); exact .inr (.inr rfl)), rfl⟩

theorem gm_tick (h : GM w tg gb G x) (hi : G.nodes[i]? = some s) (hok : Ok s) (he : s.elapsed < 4611686018427387904) :
    Calls Try.prog 20 #[ptr (x.pb i)] w fun e w' => ∃ v, e = .returned v ∧ GDid gb G x.pb i s.tick w tg v w' := by
  obtain ⟨n1, _, n3, _⟩ := h.nd i s hi
  refine (tick_any (x.pb i) s (x.lv i) w n1 n3 hok he).mono ?_
  intro e w' hs
  exact gm_did h hi hs

theorem gm_told (h : GM w tg gb G x) (hi : G.nodes[i]? = some s) (hok : Ok s) (m : Msg) (eo : Option Addr) (ec : Nat) (he : w.ownsRow 0 78 2 (.slice eo m.ents.length ec) m.ents.length (eC m.ents)) (hlen : m.ents.length < 4611686018427387904) :
    Calls Try.prog 21 #[ptr (x.pb i), magg m (.slice eo m.ents.length ec)] w fun e w' => ∃ v, e = .returned v ∧ GDid gb G x.pb i (s.step m) w tg v w' := by
  obtain ⟨n1, _, n3, _⟩ := h.nd i s hi
  have hec : m.ents.length ≤ ec := by
    rcases he.2 with ⟨hv, h0⟩ | ⟨g, cap, cur, hv, _, _, hnc, _⟩
    · rw [h0]; exact Nat.zero_le _
    · simp only [Value.slice.injEq, true_and] at hv
      omega
  refine (step_all (x.pb i) s (x.lv i) m w n1 n3 hok eo ec (ents_of_owns he) hec hlen).mono ?_
  intro e w' hs
  exact gm_did h hi hs

theorem gm_propose (h : GM w tg gb G x) (hi : G.nodes[i]? = some s) (hok : Ok s) (c : ByteArray) :
    Calls Try.prog 15 #[ptr (x.pb i), .string c] w fun e w' => ∃ v, e = .returned (.tuple #[.int .i64 (s.propose c).1, v, .int .i64 (s.propose c).2.2.2]) ∧ GDid gb G x.pb i ((s.propose c).2.1, (s.propose c).2.2.1) w tg v w' := by
  obtain ⟨n1, _, n3, _⟩ := h.nd i s hi
  refine (propose_any (x.pb i) s (x.lv i) c w n1 n3 hok).mono ?_
  rintro e w' ⟨v, l, lv', he, hN, hL, hM, hV, hA⟩
  obtain ⟨tg', h1, h2, h3⟩ := gm_sent (r := ((s.propose c).2.1, (s.propose c).2.2.1)) h hi hN hL hM hV hA
  exact ⟨v, he, l, tg', _, hM.fst, h1, h2, h3.mono (by rintro U (hU | hU) <;> rw [hU]; exact .inr (.inl rfl); exact .inr (.inr rfl)), rfl⟩

theorem gm_patience (h : GM w tg gb G x) (hi : G.nodes[i]? = some s) (t : Int) (h1 : 1 ≤ t) (h2 : t ≤ 40) :
    Calls Try.prog 11 #[ptr (x.pb i), .int .i64 t] w fun e w' => e = .returned (.int .i64 0) ∧ ∃ tg' x', GM w' tg' gb (G.put i { s with pat := t }) x' ∧ Stp Agr w tg w' tg' ∧ x'.pb = x.pb := by
  obtain ⟨n1, n2, n3, n4⟩ := h.nd i s hi
  refine (patience_ok (x.pb i) s (x.lv i) t w n1 h1 h2).mono ?_
  rintro e w' ⟨rfl, rfl⟩
  have hE : Ew (x.pb i) w (((w.setCell ⟨x.pb i, 0, none⟩ (.int .i32 1)).setCell ⟨x.pb i, 11, none⟩ (.int .i64 t)).setCell ⟨x.pb i, 0, none⟩ (.int .i32 0)) := (((Ew.refl _ w).set 0 _).set 11 _).set 0 _
  obtain ⟨tg', _, k2, k3⟩ := gm_sent (r := (({ s with pat := t } : Nd), [])) (v := .slice none 0 0) (l := []) h hi (((n1.setMu 1).setPat t).setMu 0) (n3.ew n1 hE) (MsgsOut.nil _ _) (Ev.ofEw hE) (fun _ hx => by cases hx)
  exact ⟨rfl, tg', _, k2, k3.mono (by rintro U (hU | hU) <;> rw [hU]; exact .inr (.inl rfl); exact .inr (.inr rfl)), rfl⟩

theorem gm_status (h : GM w tg gb G x) (hi : G.nodes[i]? = some s) :
    Calls Try.prog 10 #[ptr (x.pb i)] w fun e w' => e = .returned (.agg #[.int .i64 s.role, .int .i64 s.term, .int .i64 s.leads, .int .i64 (s.commit : Int), .int .i64 (s.last : Int)]) ∧ Below w.heap.size w w' := by
  obtain ⟨n1, _, n3, _⟩ := h.nd i s hi
  obtain ⟨ao, cap, hf⟩ := n3.form
  exact status_any (x.pb i) s (x.lv i) ao s.log.length cap w n1 hf

theorem gm_saved (h : GM w tg gb G x) (hi : G.nodes[i]? = some s) (hok : Ok s) :
    Calls Try.prog 24 #[ptr (x.pb i)] w fun e w' => ∃ v, e = .returned (.agg #[.int .i64 s.term, .int .i64 s.vote, v]) ∧ w'.ownsRow w.heap.size 78 2 v s.log.length (eC s.log) ∧ Below w.heap.size w w' := by
  obtain ⟨n1, _, n3, _⟩ := h.nd i s hi
  exact saved_any (x.pb i) s (x.lv i) s.log w n1 n3.ents hok.len (okE_sizes hok.log)

theorem gm_committed (h : GM w tg gb G x) (hi : G.nodes[i]? = some s) (hok : Ok s) :
    Calls Try.prog 18 #[ptr (x.pb i)] w fun e w' => ∃ v, e = .returned v ∧ w'.ownsRow w.heap.size 9 1 v s.cmds.length (tC s.cmds) ∧ Below w.heap.size w w' := by
  obtain ⟨n1, _, n3, _⟩ := h.nd i s hi
  exact committed_any (x.pb i) s (x.lv i) w n1 n3 hok.com hok.len

/-- What is only made leaves the group. -/
theorem GM.below (h : GM w tg gb G x) (hb : Below w.heap.size w w') : GM w' (newTag w.heap.size tg (0, 1)) gb G x := h.quiet (Stp.ofBelow hb tg (0, 1))
theorem stp_below {A : Nat × Nat → Prop} (tg : Tags) (hb : Below w.heap.size w w') : Stp A w tg w' (newTag w.heap.size tg (0, 1)) := Stp.ofBelow hb tg (0, 1)

theorem pC_get (pb : Nat → Nat) {n i : Nat} (h : i < n) : (pC pb n)[i]? = some (ptr (pb i)) := by
  unfold pC
  rw [List.getElem?_map, List.getElem?_range h]; rfl

/-- The pointer to node i. -/
theorem GM.at_ (h : GM w tg gb G x) (hi : i < G.nodes.length) {no : Option Addr} {nc : Nat} (hv : x.nv = .slice no G.nodes.length nc) : ∃ g, no = some ⟨g, 0, none⟩ ∧ w.cell? ⟨g, i, none⟩ = some (ptr (x.pb i)) ∧ tg g = (1, 1) := by
  have h1 := h.nodes
  rw [hv] at h1
  obtain ⟨g, rfl, h2⟩ := own_elem h1.1 (pC_get x.pb hi)
  exact ⟨g, rfl, h2, h1.2 g rfl⟩

end

end Go.Proofs.Yteiecbkfganhnaa

namespace Go.Proofs.Yteiecbkfganhnaa
open Go.RowKit Go.MuLone

theorem setCell_id {w : World} {g o : Nat} {cs : Array Value} {t : TypeId} {fz : Nat × Nat} {v : Value} (h : w.heap[g]? = some (.cells cs t fz)) (hv : cs[o]? = some v) : w.setCell ⟨g, o, none⟩ v = w := by
  have hset : cs.setIfInBounds o v = cs := by
    apply Array.ext_getElem?
    intro j
    rw [Array.getElem?_setIfInBounds]
    split
    · rename_i he
      subst he
      split
      · exact hv.symm
      · rename_i hx
        rw [Array.getElem?_eq_none (by omega)] at hv; cases hv
    · rfl
  have hheap : w.heap.modify g (fun | .cells c elem frozen => .cells (if (none : Option Nat).isSome then c else c.setIfInBounds o v) elem frozen | o => o) = w.heap := by
    apply Array.ext_getElem?
    intro j
    rw [Array.getElem?_modify]
    split
    · rename_i he
      subst he
      rw [h]
      simp [hset]
    · rfl
  show ({ w with heap := _ } : World) = w
  cases w
  simp only [World.mk.injEq]
  exact ⟨hheap, trivial, trivial, trivial, trivial⟩

theorem pC_set (pb : Nat → Nat) (n i nb : Nat) : (pC pb n).set i (ptr nb) = pC (upd pb i nb) n := by
  apply List.ext_getElem?
  intro j
  by_cases hj : j < n
  · by_cases hji : j = i
    · subst hji
      rw [List.getElem?_set_self (by simp [pC]; exact hj), pC_get _ hj]
      simp [upd]
    · rw [List.getElem?_set_ne (fun h => hji h.symm), pC_get _ hj, pC_get _ hj]
      simp [upd, hji]
  · rw [List.getElem?_eq_none (by simp [pC]; omega), List.getElem?_eq_none (by simp [pC]; omega)]

section
variable {w w' : World} {tg : Tags} {gb : Nat} {G : Gp} {x : GX}

theorem GM.setOk_id (h : GM w tg gb G x) (hok : G.ok = true) : w.setCell ⟨gb, 5, none⟩ (.bool true) = w := setCell_id h.blk (by rw [hok]; rfl)
theorem told0 {kind a b : Int} {W : World} {tgW : Tags} (hk : pickZ kind 8 = 1 ∨ pickZ kind 8 = 2 ∨ pickZ kind 8 = 3) (hw : G.way.length = 0) (h : GM W tgW gb G x) (hs : Stp Agr w tg W tgW) : ∃ tg' x', GM W tg' gb (G.step kind a b) x' ∧ Stp Agr w tg W tg' := by
  rw [gstep_eqN hk (List.eq_nil_of_length_eq_zero hw)]
  exact ⟨tgW, x, h, hs⟩
theorem GM.nodes_free (h : GM w tg gb G x) {g1 nc : Nat} (hv : x.nv = .slice (some ⟨g1, 0, none⟩) G.nodes.length nc) (o : Nat) : w.frozen? ⟨g1, o, none⟩ = false := by
  have h1 := h.nodes.1
  rw [hv] at h1
  rcases h1.2 with ⟨hx, _⟩ | ⟨g, cap, cur, hx, _, hg, _⟩
  · cases hx
  · simp only [Value.slice.injEq, Option.some.injEq, Addr.mk.injEq, and_true, true_and] at hx
    rw [hx.1]
    exact frozen_of_row w g o _ _ hg
theorem GM.nodes_ne (h : GM w tg gb G x) {g1 nc : Nat} (hv : x.nv = .slice (some ⟨g1, 0, none⟩) G.nodes.length nc) : ¬ gb = g1 := by
  intro he
  have h1 := h.nodes.2 g1 (by rw [hv]; rfl)
  rw [← he, h.tb] at h1
  cases h1
theorem GM.c5t (h : GM w tg gb G x) (hok : G.ok = true) : w.cell? ⟨gb, 5, none⟩ = some (.bool true) := by rw [h.c5, hok]
theorem GM.c0v (h : GM w tg gb G x) {v : Value} (hv : x.nv = v) : w.cell? ⟨gb, 0, none⟩ = some v := by rw [h.c0, hv]
theorem GM.c1v (h : GM w tg gb G x) {v : Value} (hv : x.wv = v) : w.cell? ⟨gb, 1, none⟩ = some v := by rw [h.c1, hv]

/-- Node i is a new one, whose pointer is stored into the row of nodes. -/
theorem GM.setNode {i nb g1 nc : Nat} {s : Nd} {v : Value} (h : GM w tg gb G x) (hil : i < G.nodes.length) (hv : x.nv = .slice (some ⟨g1, 0, none⟩) G.nodes.length nc) (hb : Below w.heap.size w w') (hnb : w.heap.size ≤ nb) (hN : NB 0 w' nb s v) (hL : w'.ownsRow w.heap.size 78 2 v s.log.length (eC s.log)) :
    ∃ tg', GM (w'.setCell ⟨g1, i, none⟩ (ptr nb)) tg' gb (G.put i s) { x with pb := upd x.pb i nb, lv := upd x.lv i v } ∧ Stp Agr w tg (w'.setCell ⟨g1, i, none⟩ (ptr nb)) tg' := by
  refine ⟨fun k => if k < w.heap.size then tg k else if k = nb then (2, i) else if v.ownBlock = some k then (3, i) else (0, 1), ?_⟩
  generalize htg : (fun k => if k < w.heap.size then tg k else if k = nb then (2, i) else if v.ownBlock = some k then (3, i) else (0, 1)) = tg'
  have told : ∀ k, k < w.heap.size → tg' k = tg k := fun k hk => by rw [← htg]; exact if_pos hk
  have tnew : ∀ k, ¬ k < w.heap.size → tg' k = if k = nb then (2, i) else if v.ownBlock = some k then (3, i) else (0, 1) := fun k hk => by rw [← htg]; exact if_neg hk
  have hs1 : Stp (fun _ => False) w tg w' tg' := ⟨hb.os, hb.tape, hb.output, hb.size, fun k hk _ => ⟨hb.block k hk, told k hk⟩⟩
  have hn0 := h.nodes
  rw [hv] at hn0
  have hg1 : tg g1 = (1, 1) := hn0.2 g1 rfl
  have hg1lt : g1 < w.heap.size := owns_lt hn0.1 g1 rfl
  have hg1' : tg' g1 = (1, 1) := (told g1 hg1lt).trans hg1
  have hs2 : Stp (fun U => U = (1, 1)) w' tg' (w'.setCell ⟨g1, i, none⟩ (ptr nb)) tg' := Stp.setCell (a := ⟨g1, i, none⟩) hg1' _
  have hs : Stp (fun U => U = (1, 1)) w tg (w'.setCell ⟨g1, i, none⟩ (ptr nb)) tg' := (hs1.mono fun _ h => h.elim).trans hs2
  have h1 := h.quiet hs1
  have hne : nb ≠ g1 := by omega
  have hvn : v.ownBlock ≠ some nb := by
    intro hx
    rcases hL.2 with ⟨rfl, _⟩ | ⟨g, cap, cur, rfl, _, hg, _⟩
    · cases hx
    · simp [Value.ownBlock] at hx
      subst hx
      have h9 : w'.heap[g]? = some (.cells (ncells 0 s _) 76 (0, 0)) := hN
      rw [hg] at h9
      simp only [Option.some.injEq, Obj.cells.injEq] at h9
      exact absurd h9.2.1 (by decide)
  have hlenN : (G.put i s).nodes.length = G.nodes.length := by show (G.nodes.set i s).length = _; rw [List.length_set]
  have hw := q_step h1.way h1.tw hs2 (by decide)
  have hk := hs2.keep gb h1.lt (by rw [h1.tb]; decide)
  have hrow : (w'.setCell ⟨g1, i, none⟩ (ptr nb)).ownsRow 0 36 1 (.slice (some ⟨g1, 0, none⟩) G.nodes.length nc) G.nodes.length (pC (upd x.pb i nb) G.nodes.length) := by
    have h2 := h1.nodes.1
    rw [hv] at h2
    rw [← pC_set]
    exact owns_set1 _ h2
  refine ⟨{
    blk := hk.1.trans h1.blk
    tb := hk.2.trans h1.tb
    nodes := by rw [hlenN]; show Own _ _ _ _ _ x.nv _ _; rw [hv]; exact ⟨hrow, fun y hy => by simp [Value.ownBlock] at hy; rw [← hy]; exact hg1'⟩
    nd := fun j t hj => by
      have hj' : (G.nodes.set i s)[j]? = some t := hj
      by_cases hji : j = i
      · subst hji
        rw [List.getElem?_set_self hil] at hj'
        have ht := Option.some.inj hj'
        subst ht
        show NB 0 _ (upd x.pb j nb j) s (upd x.lv j v j) ∧ tg' (upd x.pb j nb j) = (2, j) ∧ NL _ s (upd x.lv j v j) ∧ Tag tg' (upd x.lv j v j) (3, j)
        rw [show upd x.pb j nb j = nb from if_pos rfl, show upd x.lv j v j = v from if_pos rfl]
        refine ⟨(Below.heap_setCell _ _ _ _ hne).trans hN, ?_, ?_, ?_⟩
        · rw [tnew nb (by omega), if_pos rfl]
        · have hLL : NL w' s v := owns_base hL (Nat.zero_le _)
          refine owns_kept hLL fun y hy => Below.heap_setCell _ _ _ _ ?_
          have := (hL.lt y hy).1
          show y ≠ g1
          omega
        · intro y hy
          have h2 := (hL.lt y hy).1
          rw [tnew y (by omega), if_neg (fun he => hvn (by rw [← he]; exact hy)), if_pos hy]
      · rw [List.getElem?_set_ne (fun hx => hji hx.symm)] at hj'
        show NB 0 _ (upd x.pb i nb j) t (upd x.lv i v j) ∧ tg' (upd x.pb i nb j) = (2, j) ∧ NL _ t (upd x.lv i v j) ∧ Tag tg' (upd x.lv i v j) (3, j)
        rw [show upd x.pb i nb j = x.pb j from if_neg hji, show upd x.lv i v j = x.lv j from if_neg hji]
        exact nd_step (h1.nd j t hj') hs2 (fun hx => by cases hx) (fun hx => by cases hx)
    way := hw.1
    tw := hw.2
    wf := h1.wf
    we := fun y hy => owns_step (h1.we y hy).1 (h1.we y hy).2 hs2 (by decide)
    terms := h1.terms.step hs2 (by decide)
    heads := h1.heads.step hs2 (by decide)
    known := h1.known.step hs2 (by decide) }, hs.mono fun U hU => by rw [hU]; exact .inl rfl⟩

/-- The way is a new list. -/
theorem GM.newWay {wl : List (Msg × Value)} {v : Value} (h : GM w tg gb G x) (hb : Below w.heap.size w w') (hr : w'.ownsRow w.heap.size 50 9 v wl.length (mC wl)) (hwl : ∀ y ∈ wl, y ∈ x.wl) :
    ∃ tg', GM (w'.setCell ⟨gb, 1, none⟩ v) tg' gb { G with way := wl.map Prod.fst } { x with wv := v, wl := wl } ∧ Stp Agr w tg (w'.setCell ⟨gb, 1, none⟩ v) tg' := by
  have hs1 : Stp (fun _ => False) w tg w' (newTag w.heap.size tg (1, 2)) := Stp.ofBelow hb tg _
  have h1 := h.quiet hs1
  have htv : Tag (newTag w.heap.size tg (1, 2)) v (1, 2) := fun y hy => newTag_new (hr.lt y hy).1
  have hs2 : Stp (fun U => U = (1, 0)) w' (newTag w.heap.size tg (1, 2)) (w'.setCell ⟨gb, 1, none⟩ v) (newTag w.heap.size tg (1, 2)) := Stp.setCell (a := ⟨gb, 1, none⟩) h1.tb _
  have hlen : ({ G with way := wl.map Prod.fst } : Gp).way.length = wl.length := List.length_map ..
  refine ⟨_, {
    blk := heap_setCell_same w' gb 1 _ _ v h1.blk
    tb := h1.tb
    nodes := h1.nodes.step hs2 (by decide)
    nd := fun i s hi => nd_step (h1.nd i s hi) hs2 (fun hx => by cases hx) (fun hx => by cases hx)
    way := by rw [hlen]; exact (q_step (QRow.ofOwn hr) htv hs2 (by decide)).1
    tw := htv
    wf := rfl
    we := fun y hy => owns_step (h1.we y (hwl y hy)).1 (h1.we y (hwl y hy)).2 hs2 (by decide)
    terms := h1.terms.step hs2 (by decide)
    heads := h1.heads.step hs2 (by decide)
    known := h1.known.step hs2 (by decide) }, (hs1.mono fun _ h => h.elim).trans (hs2.mono fun U hU => by rw [hU]; exact .inl rfl)⟩

end

end Go.Proofs.Yteiecbkfganhnaa

namespace Go.Proofs.Yteiecbkfganhnaa
open Go.RowKit Go.MuLone

section
variable {w w' : World} {tg : Tags} {gb : Nat} {G : Gp} {x : GX}

theorem GM.setTerms (h : GM w tg gb G x) {v' : Value} {l : List Int} (hg : w.grownBy w' x.tv.ownBlock) (hq : w'.ownsRow 0 3 1 v' l.length (zC l)) (hat : v'.ownBlock = x.tv.ownBlock ∨ v'.ownBlock = some w.heap.size) :
    ∃ tg', GM (w'.setCell ⟨gb, 2, none⟩ v') tg' gb { G with terms := l } { x with tv := v' } ∧ Stp (fun U => U.1 = 1) w tg (w'.setCell ⟨gb, 2, none⟩ v') tg' := by
  have hs1 : Stp (fun U => U = (1, 3)) w tg w' (newTag w.heap.size tg (1, 3)) := ⟨hg.os, hg.tape, hg.output, hg.size, fun k hk hn => ⟨hg.block k hk (fun hx => hn (h.terms.2 k hx.symm)), newTag_old hk⟩⟩
  have htb : newTag w.heap.size tg (1, 3) gb = (1, 0) := (newTag_old h.lt).trans h.tb
  have hs2 : Stp (fun U => U = (1, 0)) w' (newTag w.heap.size tg (1, 3)) (w'.setCell ⟨gb, 2, none⟩ v') (newTag w.heap.size tg (1, 3)) := Stp.setCell (a := ⟨gb, 2, none⟩) htb _
  have hs : Stp (fun U => U = (1, 0) ∨ U = (1, 3)) w tg (w'.setCell ⟨gb, 2, none⟩ v') (newTag w.heap.size tg (1, 3)) := (hs1.mono fun _ h => .inr h).trans (hs2.mono fun _ h => .inl h)
  have htv : Tag (newTag w.heap.size tg (1, 3)) v' (1, 3) := by
    intro y hy
    rcases hat with h1 | h1
    · rw [h1] at hy
      rw [newTag_old (owns_lt h.terms.1 y hy)]; exact h.terms.2 y hy
    · rw [h1] at hy
      simp at hy; subst hy
      exact newTag_new (Nat.le_refl _)
  have hk1 := hs1.keep gb h.lt (by rw [h.tb]; decide)
  have hw := q_step h.way h.tw hs (by decide)
  exact ⟨_, {
    blk := heap_setCell_same w' gb 2 _ _ v' (hk1.1.trans h.blk)
    tb := htb
    nodes := h.nodes.step hs (by decide)
    nd := fun i s hi => nd_step (h.nd i s hi) hs (fun hx => by rcases hx with hx | hx <;> cases hx) (fun hx => by rcases hx with hx | hx <;> cases hx)
    way := hw.1
    tw := hw.2
    wf := h.wf
    we := fun y hy => owns_step (h.we y hy).1 (h.we y hy).2 hs (by decide)
    heads := h.heads.step hs (by decide)
    known := h.known.step hs (by decide)
    terms := Own.step ⟨hq, htv⟩ hs2 (by decide) }, hs.mono (fun U hU => by rcases hU with hU | hU <;> rw [hU])⟩

theorem GM.terms_block {w4 : World} {v : Value} (h : GM w tg gb G x) (hv : x.tv = v) (hg : w.grownBy w4 v.ownBlock) : w4.heap[gb]? = w.heap[gb]? :=
  hg.block gb h.lt (fun e => by subst hv; have h1 := h.terms.2 gb e.symm; rw [h.tb] at h1; cases h1)
theorem GM.c2v (h : GM w tg gb G x) {v : Value} (hv : x.tv = v) : w.cell? ⟨gb, 2, none⟩ = some v := by rw [h.c2, hv]

theorem GM.setHeads (h : GM w tg gb G x) {v' : Value} {l : List Nat} (hg : w.grownBy w' x.hv.ownBlock) (hq : w'.ownsRow 0 3 1 v' l.length (iC l)) (hat : v'.ownBlock = x.hv.ownBlock ∨ v'.ownBlock = some w.heap.size) :
    ∃ tg', GM (w'.setCell ⟨gb, 3, none⟩ v') tg' gb { G with heads := l } { x with hv := v' } ∧ Stp (fun U => U.1 = 1) w tg (w'.setCell ⟨gb, 3, none⟩ v') tg' := by
  have hs1 : Stp (fun U => U = (1, 4)) w tg w' (newTag w.heap.size tg (1, 4)) := ⟨hg.os, hg.tape, hg.output, hg.size, fun k hk hn => ⟨hg.block k hk (fun hx => hn (h.heads.2 k hx.symm)), newTag_old hk⟩⟩
  have htb : newTag w.heap.size tg (1, 4) gb = (1, 0) := (newTag_old h.lt).trans h.tb
  have hs2 : Stp (fun U => U = (1, 0)) w' (newTag w.heap.size tg (1, 4)) (w'.setCell ⟨gb, 3, none⟩ v') (newTag w.heap.size tg (1, 4)) := Stp.setCell (a := ⟨gb, 3, none⟩) htb _
  have hs : Stp (fun U => U = (1, 0) ∨ U = (1, 4)) w tg (w'.setCell ⟨gb, 3, none⟩ v') (newTag w.heap.size tg (1, 4)) := (hs1.mono fun _ h => .inr h).trans (hs2.mono fun _ h => .inl h)
  have htv : Tag (newTag w.heap.size tg (1, 4)) v' (1, 4) := by
    intro y hy
    rcases hat with h1 | h1
    · rw [h1] at hy
      rw [newTag_old (owns_lt h.heads.1 y hy)]; exact h.heads.2 y hy
    · rw [h1] at hy
      simp at hy; subst hy
      exact newTag_new (Nat.le_refl _)
  have hk1 := hs1.keep gb h.lt (by rw [h.tb]; decide)
  have hw := q_step h.way h.tw hs (by decide)
  exact ⟨_, {
    blk := heap_setCell_same w' gb 3 _ _ v' (hk1.1.trans h.blk)
    tb := htb
    nodes := h.nodes.step hs (by decide)
    nd := fun i s hi => nd_step (h.nd i s hi) hs (fun hx => by rcases hx with hx | hx <;> cases hx) (fun hx => by rcases hx with hx | hx <;> cases hx)
    way := hw.1
    tw := hw.2
    wf := h.wf
    we := fun y hy => owns_step (h.we y hy).1 (h.we y hy).2 hs (by decide)
    terms := h.terms.step hs (by decide)
    known := h.known.step hs (by decide)
    heads := Own.step ⟨hq, htv⟩ hs2 (by decide) }, hs.mono (fun U hU => by rcases hU with hU | hU <;> rw [hU])⟩

theorem GM.heads_block {w4 : World} {v : Value} (h : GM w tg gb G x) (hv : x.hv = v) (hg : w.grownBy w4 v.ownBlock) : w4.heap[gb]? = w.heap[gb]? :=
  hg.block gb h.lt (fun e => by subst hv; have h1 := h.heads.2 gb e.symm; rw [h.tb] at h1; cases h1)
theorem GM.c3v (h : GM w tg gb G x) {v : Value} (hv : x.hv = v) : w.cell? ⟨gb, 3, none⟩ = some v := by rw [h.c3, hv]

theorem GM.setKnown (h : GM w tg gb G x) {v' : Value} {l : List Ent} (hg : w.grownBy w' x.kv.ownBlock) (hq : w'.ownsRow 0 78 2 v' l.length (eC l)) (hat : v'.ownBlock = x.kv.ownBlock ∨ v'.ownBlock = some w.heap.size) :
    ∃ tg', GM (w'.setCell ⟨gb, 4, none⟩ v') tg' gb { G with known := l } { x with kv := v' } ∧ Stp (fun U => U.1 = 1) w tg (w'.setCell ⟨gb, 4, none⟩ v') tg' := by
  have hs1 : Stp (fun U => U = (1, 5)) w tg w' (newTag w.heap.size tg (1, 5)) := ⟨hg.os, hg.tape, hg.output, hg.size, fun k hk hn => ⟨hg.block k hk (fun hx => hn (h.known.2 k hx.symm)), newTag_old hk⟩⟩
  have htb : newTag w.heap.size tg (1, 5) gb = (1, 0) := (newTag_old h.lt).trans h.tb
  have hs2 : Stp (fun U => U = (1, 0)) w' (newTag w.heap.size tg (1, 5)) (w'.setCell ⟨gb, 4, none⟩ v') (newTag w.heap.size tg (1, 5)) := Stp.setCell (a := ⟨gb, 4, none⟩) htb _
  have hs : Stp (fun U => U = (1, 0) ∨ U = (1, 5)) w tg (w'.setCell ⟨gb, 4, none⟩ v') (newTag w.heap.size tg (1, 5)) := (hs1.mono fun _ h => .inr h).trans (hs2.mono fun _ h => .inl h)
  have htv : Tag (newTag w.heap.size tg (1, 5)) v' (1, 5) := by
    intro y hy
    rcases hat with h1 | h1
    · rw [h1] at hy
      rw [newTag_old (owns_lt h.known.1 y hy)]; exact h.known.2 y hy
    · rw [h1] at hy
      simp at hy; subst hy
      exact newTag_new (Nat.le_refl _)
  have hk1 := hs1.keep gb h.lt (by rw [h.tb]; decide)
  have hw := q_step h.way h.tw hs (by decide)
  exact ⟨_, {
    blk := heap_setCell_same w' gb 4 _ _ v' (hk1.1.trans h.blk)
    tb := htb
    nodes := h.nodes.step hs (by decide)
    nd := fun i s hi => nd_step (h.nd i s hi) hs (fun hx => by rcases hx with hx | hx <;> cases hx) (fun hx => by rcases hx with hx | hx <;> cases hx)
    way := hw.1
    tw := hw.2
    wf := h.wf
    we := fun y hy => owns_step (h.we y hy).1 (h.we y hy).2 hs (by decide)
    terms := h.terms.step hs (by decide)
    heads := h.heads.step hs (by decide)
    known := Own.step ⟨hq, htv⟩ hs2 (by decide) }, hs.mono (fun U hU => by rcases hU with hU | hU <;> rw [hU])⟩

theorem GM.known_block {w4 : World} {v : Value} (h : GM w tg gb G x) (hv : x.kv = v) (hg : w.grownBy w4 v.ownBlock) : w4.heap[gb]? = w.heap[gb]? :=
  hg.block gb h.lt (fun e => by subst hv; have h1 := h.known.2 gb e.symm; rw [h.tb] at h1; cases h1)
theorem GM.c4v (h : GM w tg gb G x) {v : Value} (hv : x.kv = v) : w.cell? ⟨gb, 4, none⟩ = some v := by rw [h.c4, hv]

end

end Go.Proofs.Yteiecbkfganhnaa

namespace Go.Proofs.Yteiecbkfganhnaa
open Go.RowKit Go.MuLone

theorem zC_get {l : List Int} {k : Nat} {t : Int} (h : l[k]? = some t) : (zC l)[k]? = some (.int .i64 t) := by simp [zC, h]
theorem zC_append (a b : List Int) : zC (a ++ b) = zC a ++ zC b := by simp [zC]

set_option maxRecDepth 100000 in
set_option maxHeartbeats 1000000 in
theorem led_any (gb i : Nat) (t : Int) (G : Gp) (x : GX) (w : World) (tg : Tags) (h : GM w tg gb G x) (hth : G.terms.length = G.heads.length) (hfew : G.terms.length ≤ 1000001) (hone : ∀ k : Nat, G.terms[k]? = some t → G.heads[k]? = some i) :
    Calls Try.prog 29 #[ptr gb, .int .i64 t, .int .i64 (i : Int)] w fun e w' => e = .returned (.bool true) ∧ ∃ tg' x', GM w' tg' gb (G.leds t i) x' ∧ Stp (fun U => U.1 = 1) w tg w' tg' ∧ x'.pb = x.pb := by
  obtain ⟨tO, tc, htv⟩ := h.terms.form
  obtain ⟨ho, hc, hhv⟩ := h.heads.form
  have c2 := h.c2v htv
  have c3 := h.c3v hhv
  have hgb := h.lt
  have H := hide h
  have HTV := hide htv
  have HHV := hide hhv
  have HONE := hide hone
  have HTH := hide hth
  rw [← hth] at c3 HHV
  obtain ⟨N, hN⟩ : ∃ N, G.terms.length = N := ⟨_, rfl⟩
  rw [hN] at c2 c3 HTV HHV hfew
  have HN := hide hN
  obtain ⟨i0, hi, hz0, hz1, hz2⟩ := info_parts infoInt
  clear h htv hhv hone hth hN
  go_enter Try.func29, Try.ntmps29
  go_wp2
  go_loopw [7] (fun u wr => ∃ k : Nat, k ≤ N ∧ u = .int .i64 k ∧ wr = w ∧ ∀ j : Nat, j < k → G.terms[j]? ≠ some t) (fun u _ => N - (intOf u).toNat)
  case atStart => exact ⟨0, Nat.zero_le _, rfl, rfl, fun j hj => by omega⟩
  case round =>
    obtain ⟨k, hk, rfl, rfl, hno⟩ := hrel
    by_cases hlt : k < N
    · have hki : (k : Int) < (N : Int) := by omega
      have hkl : k < G.terms.length := by rw [unhide HN]; exact hlt
      have hkh : k < G.heads.length := by rw [← unhide HTH]; exact hkl
      have hrow := (unhide H).terms.1
      rw [unhide HTV, unhide HN] at hrow
      obtain ⟨g, rfl, e1⟩ := own_elem hrow (zC_get (List.getElem?_eq_getElem hkl))
      have hrow2 := (unhide H).heads.1
      rw [unhide HHV, ← unhide HTH, unhide HN] at hrow2
      obtain ⟨g2, rfl, e2⟩ := own_elem hrow2 (iC_get (List.getElem?_eq_getElem hkh))
      clear hrow hrow2
      by_cases ht : G.terms[k] = t
      · have hh : G.heads[k] = i := by
          have h9 := unhide HONE k (by rw [List.getElem?_eq_getElem hkl, ht])
          rw [List.getElem?_eq_getElem hkh] at h9
          exact Option.some.inj h9
        rw [ht] at e1
        rw [hh] at e2
        have HM : Hid (t ∈ G.terms) := by show _ ∈ _; rw [← ht]; exact List.getElem_mem hkl
        clear ht hh hno
        go_wp2
        go_ret
        refine ⟨rfl, tg, x, ?_, Stp.refl _ _ _, rfl⟩
        unfold Gp.leds
        rw [if_pos (unhide HM)]
        exact unhide H
      · have hb : (G.terms[k] == t) = false := by simpa using ht
        have HNO : Hid (∀ j : Nat, j < k + 1 → G.terms[j]? ≠ some t) := by
          intro j hj
          by_cases hjk : j = k
          · subst hjk
            rw [List.getElem?_eq_getElem hkl]
            intro hx; exact ht (Option.some.inj hx)
          · exact hno j (by omega)
        generalize G.terms[k] = u at *
        clear ht hno
        go_wp2
        go_roundw
        case rel => exact ⟨k + 1, by omega, by go_num, trivial, unhide HNO⟩
        case measure => simp [intOf]; omega
    · have hkn : k = N := by omega
      subst hkn
      have HM : Hid (t ∉ G.terms) := by
        intro hx
        obtain ⟨j, hj, he⟩ := List.getElem_of_mem hx
        exact hno j (by rw [unhide HN] at hj; exact hj) (by rw [List.getElem?_eq_getElem hj, he])
      have f2 := (unhide H).free 2
      clear hno
      have hne : ¬ gb = wr.heap.size := by omega
      have HGA := hide ((unhide H).quiet (Stp.alloc (A := fun _ => False) wr tg (.cells #[.int .i64 t] 3) (0, 1)))
      have HSA : Hid (Stp (fun U => U.1 = 1) wr tg (wr.alloc (.cells #[.int .i64 t] 3)) (newTag wr.heap.size tg (0, 1))) := Stp.alloc wr tg _ _
      have HRA : Hid ((wr.alloc (.cells #[.int .i64 t] 3)).ownsRow 0 3 1 (.slice tO k tc) k (zC G.terms)) := by
        have h9 := (unhide HGA).terms.1
        rw [unhide HTV, unhide HN] at h9; exact h9
      go_wp2_with (at_builtin; refine wpList_append_own_at _ rfl (.tmp 39) (.tmp 41) 30 rfl 0 3 i0 _ 1 8 Try.underlying30 hi hz0 hz1 hz2 rfl (by decide) (.slice tO k tc) k (zC G.terms) rfl (unhide HRA) ⟨wr.heap.size, 0, none⟩ 1 1 [.int .i64 t] rfl rfl (cell_one_new _ _ _) (by intro u hu; simp at hu; subst hu; rfl) (by unfold maxLen; omega) (by omega) (Nat.zero_le _) ?_)
      intro v2 w2 hr2 hg2 _ hat2
      obtain ⟨ao2, cp2, rfl⟩ := owns_form hr2
      have hbl := (unhide HGA).terms_block (unhide HTV) hg2
      have k2 : w2.cell? ⟨gb, 2, none⟩ = some (.slice tO k tc) := (World.cell?_of_block (a := ⟨gb, 2, none⟩) hbl).trans ((unhide HGA).c2v (unhide HTV))
      have k3 : w2.cell? ⟨gb, 3, none⟩ = some (.slice ho k hc) := (World.cell?_of_block (a := ⟨gb, 3, none⟩) hbl).trans ((unhide HGA).c3v (unhide HHV))
      have q2 : w2.frozen? ⟨gb, 2, none⟩ = false := (World.frozen?_of_block (a := ⟨gb, 2, none⟩) hbl).trans ((unhide HGA).free 2)
      have q3 : w2.frozen? ⟨gb, 3, none⟩ = false := (World.frozen?_of_block (a := ⟨gb, 3, none⟩) hbl).trans ((unhide HGA).free 3)
      obtain ⟨tg3, hG3, hS3⟩ := (unhide HGA).setTerms (v' := .slice ao2 (k + 1) cp2) (l := G.terms ++ [t]) (by rw [unhide HTV]; exact hg2) (by rw [zC_append, List.length_append, unhide HN]; exact hr2) (by rw [unhide HTV]; simpa using hat2)
      have hsz : (w2.setCell ⟨gb, 2, none⟩ (.slice ao2 (k + 1) cp2)).heap.size = w2.heap.size := by simp [World.setCell]
      have hgb2 : gb < w2.heap.size := by rw [← hsz]; exact hG3.lt
      have hne2 : ¬ gb = w2.heap.size := by omega
      have HGB : Hid (GM ((w2.setCell ⟨gb, 2, none⟩ (.slice ao2 (k + 1) cp2)).alloc (.cells #[.int .i64 (i : Int)] 3)) (newTag (w2.setCell ⟨gb, 2, none⟩ (.slice ao2 (k + 1) cp2)).heap.size tg3 (0, 1)) gb { G with terms := G.terms ++ [t] } { x with tv := .slice ao2 (k + 1) cp2 }) := hG3.quiet (Stp.alloc (A := fun _ => False) _ tg3 (.cells #[.int .i64 (i : Int)] 3) (0, 1))
      have HSB := hide (((unhide HSA).trans hS3).trans (Stp.alloc (A := fun U => U.1 = 1) _ tg3 (.cells #[.int .i64 (i : Int)] 3) (0, 1)))
      have HHV2 : Hid (({ x with tv := .slice ao2 (k + 1) cp2 } : GX).hv = .slice ho k hc) := unhide HHV
      have HRB : Hid (((w2.setCell ⟨gb, 2, none⟩ (.slice ao2 (k + 1) cp2)).alloc (.cells #[.int .i64 (i : Int)] 3)).ownsRow 0 3 1 (.slice ho k hc) k (iC G.heads)) := by
        have h9 := (unhide HGB).heads.1
        rw [unhide HHV2] at h9
        have h8 : ({ G with terms := G.terms ++ [t] } : Gp).heads.length = k := by show G.heads.length = k; rw [← unhide HTH, unhide HN]
        rw [h8] at h9; exact h9
      have HSZ := hide hsz
      clear hr2 hg2 hat2 hbl hG3 hS3 hsz
      go_wp2_with (at_builtin; go_must (refine wpList_append_own_at _ rfl (.tmp 49) (.tmp 51) 30 rfl 0 3 i0 _ 1 8 Try.underlying30 hi hz0 hz1 hz2 rfl (by decide) (.slice ho k hc) k (iC G.heads) rfl (unhide HRB) ⟨w2.heap.size, 0, none⟩ 1 1 [.int .i64 (i : Int)] rfl rfl (by rw [← unhide HSZ]; exact cell_one_new _ _ _) (by intro u hu; simp at hu; subst hu; rfl) (by unfold maxLen; omega) (by omega) (Nat.zero_le _) ?_))
      intro v4 w4 hr4 hg4 _ hat4
      obtain ⟨ao4, cp4, rfl⟩ := owns_form hr4
      have hbl4 := (unhide HGB).heads_block (unhide HHV2) hg4
      have k4 : w4.cell? ⟨gb, 3, none⟩ = some (.slice ho k hc) := (World.cell?_of_block (a := ⟨gb, 3, none⟩) hbl4).trans ((unhide HGB).c3v (unhide HHV2))
      have q4 : w4.frozen? ⟨gb, 3, none⟩ = false := (World.frozen?_of_block (a := ⟨gb, 3, none⟩) hbl4).trans ((unhide HGB).free 3)
      obtain ⟨tg5, hG5, hS5⟩ := (unhide HGB).setHeads (v' := .slice ao4 (k + 1) cp4) (l := G.heads ++ [i]) (by rw [unhide HHV2]; exact hg4) (by rw [iC_append, List.length_append, ← unhide HTH, unhide HN]; exact hr4) (by rw [unhide HHV2]; simpa using hat4)
      have HG5 := hide hG5
      have HS5 := hide ((unhide HSB).trans hS5)
      clear hr4 hg4 hat4 hbl4 hG5 hS5
      go_wp2
      go_ret
      refine ⟨rfl, tg5, { x with tv := .slice ao2 (k + 1) cp2, hv := .slice ao4 (k + 1) cp4 }, ?_, unhide HS5, rfl⟩
      unfold Gp.leds
      rw [if_neg (unhide HM)]
      exact unhide HG5

end Go.Proofs.Yteiecbkfganhnaa

namespace Go.Proofs.Yteiecbkfganhnaa
open Go.RowKit Go.MuLone

/-- Is a message not to node i? -/
def keepM (i : Nat) (y : Msg × Value) : Bool := decide (y.1.dst ≠ (i : Int))
theorem keepM_map (i : Nat) (l : List (Msg × Value)) : (l.filter (keepM i)).map Prod.fst = (l.map Prod.fst).filter fun m => decide (m.dst ≠ (i : Int)) := by
  rw [List.filter_map]; rfl

theorem map_erase (l : List (Msg × Value)) (k : Nat) : (l.eraseIdx k).map Prod.fst = (l.map Prod.fst).eraseIdx k := by
  rw [List.eraseIdx_eq_take_drop_succ, List.eraseIdx_eq_take_drop_succ, List.map_append, List.map_take, List.map_drop]

theorem mC_take (l : List (Msg × Value)) (k : Nat) : (mC l).take (k * 9) = mC (l.take k) := by
  induction l generalizing k with
  | nil => simp [mC]
  | cons y l ih =>
    cases k with
    | zero => simp [mC]
    | succ k =>
      have h9 : (mcells y.1 y.2).length = 9 := rfl
      rw [List.take_succ_cons, mC_cons, mC_cons, show (k + 1) * 9 = (mcells y.1 y.2).length + k * 9 by rw [h9]; omega, List.take_length_add_append, ih k]

theorem mC_drop (l : List (Msg × Value)) (k : Nat) : (mC l).drop (k * 9) = mC (l.drop k) := by
  induction l generalizing k with
  | nil => simp [mC]
  | cons y l ih =>
    cases k with
    | zero => simp
    | succ k =>
      have h9 : (mcells y.1 y.2).length = 9 := rfl
      rw [List.drop_succ_cons, mC_cons, show (k + 1) * 9 = (mcells y.1 y.2).length + k * 9 by rw [h9]; omega, List.drop_length_add_append, ih k]

theorem mC_one (l : List (Msg × Value)) (h : ∀ y ∈ l, y.2.oneCell' = true) : ∀ u ∈ mC l, u.oneCell' = true := by
  intro u hu
  unfold mC at hu
  obtain ⟨y, hy, hu2⟩ := List.mem_flatMap.1 hu
  unfold mcells at hu2
  simp only [List.mem_cons, List.not_mem_nil, or_false] at hu2
  rcases hu2 with rfl | rfl | rfl | rfl | rfl | rfl | rfl | rfl | rfl
  all_goals first | rfl | exact h y hy

set_option maxRecDepth 100000 in
set_option maxHeartbeats 400000 in
theorem slice_to (b off n cap k : Nat) (h1 : k ≤ n) (h2 : n ≤ cap) (w : World) : (Instr.slice 29 (.slice (some ⟨b, off, none⟩) n cap) none (some (.int .i64 (k : Int))) none).run Try.prog w = .ok (.slice (some ⟨b, off, none⟩) k cap) w := by
  have i1 : (0 : Int) ≤ (k : Int) := by omega
  have i3 : (k : Int) ≤ (cap : Int) := by omega
  go_simp

set_option maxRecDepth 100000 in
set_option maxHeartbeats 400000 in
theorem slice_from (b off n cap k : Nat) (h1 : k < n) (h2 : n ≤ cap) : ∃ ad c, (∀ w, (Instr.slice 29 (.slice (some ⟨b, off, none⟩) n cap) (some (.int .i64 ((k : Int) + 1))) none none).run Try.prog w = .ok (.slice (some ad) (n - (k + 1)) c) w) ∧ (k + 1 < n → ad = ⟨b, off + (k + 1) * 9, none⟩) := by
  have i1 : (0 : Int) ≤ (k : Int) + 1 := by omega
  have i2 : (k : Int) + 1 ≤ (n : Int) := by omega
  have e1 : ((k : Int) + 1).toNat = k + 1 := by omega
  by_cases hca : cap = k + 1
  · refine ⟨⟨b, off, none⟩, cap - (k + 1), fun w => ?_, fun hx => by omega⟩
    subst hca
    go_simp
  · refine ⟨⟨b, off + (k + 1) * 9, none⟩, cap - (k + 1), fun w => ?_, fun _ => rfl⟩
    go_simp

theorem src_below {w w' : World} {v : Value} {m : Nat} {xs : List Value} (h : Src w v m xs) (hb : Below w.heap.size w w') : Src w' v m xs := by
  rcases h with h | ⟨ad, c, h1, h2⟩
  · exact .inl h
  · refine .inr ⟨ad, c, h1, fun j u hj => ?_⟩
    have h3 := h2 j u hj
    exact (hb.cell (block_lt_of_cell h3)).trans h3

set_option maxRecDepth 100000 in
set_option maxHeartbeats 1000000 in
theorem without_any (v : Value) (l : List (Msg × Value)) (k : Nat) (w : World) (hq : QRow w 50 9 v l.length (mC l)) (hk : k < l.length) (hl : l.length ≤ 200) (h1 : ∀ y ∈ l, y.2.oneCell' = true) :
    Calls Try.prog 48 #[v, .int .i64 (k : Int)] w fun e w' => ∃ v', e = .returned v' ∧ w'.ownsRow w.heap.size 50 9 v' (l.eraseIdx k).length (mC (l.eraseIdx k)) ∧ Below w.heap.size w w' := by
  have HQ := hide hq
  obtain ⟨g, off, cap, rfl, hnc⟩ : ∃ g off cap, v = .slice (some ⟨g, off, none⟩) l.length cap ∧ l.length ≤ cap := by
    rcases hq.2 with ⟨_, h0⟩ | ⟨g, off, cap, cur, h2, _, h4, _⟩
    · omega
    · exact ⟨g, off, cap, h2, h4⟩
  have hcell : ∀ j u, (mC l)[j]? = some u → w.cell? ⟨g, off + j, none⟩ = some u := by
    intro j u hj
    obtain ⟨g', off', he, hc⟩ := hq.cell hj
    simp only [Option.some.injEq, Addr.mk.injEq, and_true] at he
    obtain ⟨rfl, rfl⟩ := he
    exact hc
  have HS1 : Hid (Src w (.slice (some ⟨g, off, none⟩) k cap) k (mC (l.take k))) := by
    refine .inr ⟨_, _, rfl, fun j u hj => ?_⟩
    rw [Addr.add_lit]
    refine hcell j u ?_
    rw [← mC_take] at hj
    have hlt := (List.getElem?_eq_some_iff.1 hj).1
    rw [List.length_take] at hlt
    rwa [List.getElem?_take_of_lt (by omega)] at hj
  have sl1 := slice_to g off l.length cap k (by omega) hnc
  obtain ⟨ad, c, sl2, had⟩ := slice_from g off l.length cap k hk hnc
  have HS2 : Hid (Src w (.slice (some ad) (l.length - (k + 1)) c) (l.length - (k + 1)) (mC (l.drop (k + 1)))) := by
    refine .inr ⟨_, _, rfl, fun j u hj => ?_⟩
    rw [← mC_drop, List.getElem?_drop] at hj
    have hlt := (List.getElem?_eq_some_iff.1 hj).1
    rw [mC_length] at hlt
    rw [had (by omega), Addr.add_lit, Nat.add_assoc]
    exact hcell _ u hj
  have HO1 : Hid (∀ u ∈ mC (l.take k), u.oneCell' = true) := mC_one _ fun y hy => h1 y (List.mem_of_mem_take hy)
  have HO2 : Hid (∀ u ∈ mC (l.drop (k + 1)), u.oneCell' = true) := mC_one _ fun y hy => h1 y (List.mem_of_mem_drop hy)
  have HL1 : Hid ((mC (l.take k)).length = k * 9) := by show _ = _; rw [mC_length, List.length_take]; omega
  have HL2 : Hid ((mC (l.drop (k + 1))).length = (l.length - (k + 1)) * 9) := by show _ = _; rw [mC_length, List.length_drop]
  have HER : Hid (l.eraseIdx k = l.take k ++ l.drop (k + 1)) := List.eraseIdx_eq_take_drop_succ ..
  have HLE : Hid ((l.eraseIdx k).length = k + (l.length - (k + 1))) := by show _ = _; rw [List.length_eraseIdx_of_lt hk]; omega
  have hk0 : (0 : Int) ≤ (k : Int) := by omega
  obtain ⟨i0, hi, hz0, hz1, hz2⟩ := info_parts infoMsg
  clear hq hcell had h1
  go_enter Try.func48, Try.ntmps48
  go_wp2_with (first | (at_builtin; refine wpList_append_src rfl (.tmp 6) (.tmp 9) 29 rfl w.heap.size 50 i0 _ 9 88 Try.underlying29 hi hz0 hz1 hz2 rfl (by decide) (.slice none 0 0) 0 [] rfl (World.ownsRow_nil w _ _ _) _ k (mC (l.take k)) rfl (unhide HL1) (unhide HS1) (unhide HO1) (by unfold maxLen; omega) (by omega) (Nat.le_refl _) ?_; intro v2 w2 hr2 hg2 hat2; have hb2 := hide (Below.grown (Below.refl w.heap.size w) hg2 (Nat.le_refl _) (fun x hx => by cases hx)); rw [Nat.zero_add, List.nil_append] at hr2; replace hr2 := hide hr2; clear hg2 hat2) | (at_builtin; go_must (refine wpList_append_src rfl (.tmp 11) (.tmp 15) 29 rfl w.heap.size 50 i0 _ 9 88 Try.underlying29 hi hz0 hz1 hz2 rfl (by decide) v2 k (mC (l.take k)) rfl (unhide hr2) _ (l.length - (k + 1)) (mC (l.drop (k + 1))) rfl (unhide HL2) (src_below (unhide HS2) (unhide hb2)) (unhide HO2) (by unfold maxLen; omega) (by omega) (unhide hb2).size ?_); intro v3 w3 hr3 hg3 hat3; have hb3 := hide (Below.grown (unhide hb2) hg3 (unhide hb2).size (fun x hx => ((unhide hr2).lt x hx).1)); replace hr3 := hide hr3; clear hg3 hat3))
  go_ret
  refine ⟨_, rfl, ?_, unhide hb3⟩
  rw [unhide HLE, unhide HER, mC_append]
  exact unhide hr3

end Go.Proofs.Yteiecbkfganhnaa
