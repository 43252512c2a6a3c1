/- append onto an owned row: it grows in its place, or moves to a new block: what was owned stays owned. -/
import Derived.Test.YteiecbkfganhnaaBase
namespace Go.Proofs.Yteiecbkfganhnaa
open Go.RowKit

theorem run_append_cases {P : Program} (w : World) (base : Nat) (t ty e : TypeId) (i : TypeInfo) (z : Value) (size bytes : Nat) (ht : P.underlying t = some (.slice e)) (hi : P.info? e = some i) (hz : i.zero = some z)
    (hsize : i.size = size) (hby : i.bytes = bytes) (hzs : z.cells.size = size) (hsz : 0 < size)
    (v : Value) (n : Nat) (xs : List Value) (hown : w.ownsRow base e size v n xs)
    (a : Addr) (m c : Nat) (news : List Value) (hl : news.length = m * size) (hnews : ∀ j u, news[j]? = some u → w.cell? (a.add j) = some u) (h1 : ∀ u ∈ news, u.oneCell' = true)
    (hm : 0 < m) (h63 : n + m ≤ maxLen) (hbytes : (n + m) * bytes ≤ 140737488355328) (hbase : base ≤ w.heap.size) :
    ∃ g cap w', (Builtin.append_ #[t, t] ty #[v, .slice (some a) m c]).run P w = .ok (.slice (some ⟨g, 0, none⟩) (n + m) cap) w' ∧ w'.ownsRow base e size (.slice (some ⟨g, 0, none⟩) (n + m) cap) (n + m) (xs ++ news) ∧
      ((v = .slice (some ⟨g, 0, none⟩) n cap ∧ w.grownBy w' (some g)) ∨ (g = w.heap.size ∧ Below w.heap.size w w')) := by
  obtain ⟨v', w', hr, h2, h3, _, _⟩ := run_append_own_at (P := P) w base t ty e i z size bytes ht hi hz hsize hby hzs hsz v n xs hown a m c news hl hnews h1 h63 hbytes hbase
  subst hsize
  subst hby
  have hsmall : n + m ≤ 9223372036854775807 := by simp only [maxLen] at h63; omega
  rcases hown.2 with ⟨rfl, rfl⟩ | ⟨g, cap, cur, rfl, hbg, hg, hnc, hcm, hcs, htake⟩
  · have hk := run_append_nil (P := P) w t ty e i z ht hi hz a m c news hl hnews (by omega) (by omega) (by have hb := hbytes; simp only [Nat.zero_add] at hb; omega)
    rw [hk] at hr
    simp only [Result.ok.injEq] at hr
    obtain ⟨rfl, rfl⟩ := hr
    exact ⟨w.heap.size, grownCap w m 0 e, w.drew.alloc (.cells (news.toArray ++ Builtin.zeroCells z.cells (grownCap w m 0 e - m)) e), by rw [hk, Nat.zero_add], by simpa using h2, .inr ⟨rfl, ((Below.refl _ _).drew).alloc (Nat.le_refl _) _⟩⟩
  · by_cases hroom : n + m ≤ cap
    · have hfit : n * i.size + news.length ≤ cur.size := by rw [hl, hcs, ← Nat.add_mul]; exact Nat.mul_le_mul_right _ hroom
      have hk := run_append_room (P := P) w t ty e i ht hi g n cap cur hg a m c news hl hnews h1 hroom hfit
      rw [hk] at hr
      simp only [Result.ok.injEq] at hr
      obtain ⟨rfl, rfl⟩ := hr
      exact ⟨g, cap, _, hk, h2, .inl ⟨rfl, h3⟩⟩
    · have holds : ∀ j u, xs[j]? = some u → w.cell? ((⟨g, 0, none⟩ : Addr).add j) = some u := hown.cells (g := g) rfl
      have hk := run_append_grow (P := P) w t ty e i z ht hi hz ⟨g, 0, none⟩ n cap xs hown.1 holds a m c news hl hnews (by omega) (by omega) (growslice_fits (by omega) hbytes)
      rw [hk] at hr
      simp only [Result.ok.injEq] at hr
      obtain ⟨rfl, rfl⟩ := hr
      exact ⟨w.heap.size, _, _, hk, h2, .inr ⟨rfl, ((Below.refl _ _).drew).alloc (Nat.le_refl _) _⟩⟩

/-- It grew in its place, or moved to a new block. -/
def AppC (w : World) (v : Value) (n g cap : Nat) (w' : World) : Prop := (v = .slice (some ⟨g, 0, none⟩) n cap ∧ w.grownBy w' (some g)) ∨ (g = w.heap.size ∧ Below w.heap.size w w')

theorem wpList_append_cases {P : Program} {w : World} {ops : Array Oper} {rest : List Oper} {o : Oper} {a : Act} {Q : Exit → Act → World → Prop} (hgd : o.guard = none) (s x : Operand) (t : TypeId)
    (ho : o.op = .call { callee := .builtin .append, args := #[s, x], argTypes := #[t, t] })
    (base : Nat) (e : TypeId) (i : TypeInfo) (z : Value) (size bytes : Nat) (ht : P.underlying t = some (.slice e)) (hi : P.info? e = some i) (hz : i.zero = some z)
    (hsize : i.size = size) (hby : i.bytes = bytes) (hzs : z.cells.size = size) (hsz : 0 < size)
    (v : Value) (n : Nat) (xs : List Value) (hs : a.eval s = v) (hown : w.ownsRow base e size v n xs)
    (ad : Addr) (m c : Nat) (news : List Value) (hx : a.eval x = .slice (some ad) m c) (hl : news.length = m * size) (hnews : ∀ j u, news[j]? = some u → w.cell? (ad.add j) = some u) (h1 : ∀ u ∈ news, u.oneCell' = true)
    (hm : 0 < m) (h63 : n + m ≤ maxLen) (hbytes : (n + m) * bytes ≤ 140737488355328) (hbase : base ≤ w.heap.size)
    (h : ∀ g cap w', w'.ownsRow base e size (.slice (some ⟨g, 0, none⟩) (n + m) cap) (n + m) (xs ++ news) → AppC w v n g cap w' →
      wpList P ops Q rest (a.put o.dst (.slice (some ⟨g, 0, none⟩) (n + m) cap)) w') :
    wpList P ops Q (o :: rest) a w := by
  refine wpList_plain hgd fun K hK => ?_
  obtain ⟨g, cap, w', hr, h2, h3⟩ := run_append_cases (P := P) w base t o.type e i z size bytes ht hi hz hsize hby hzs hsz v n xs hown ad m c news hl hnews h1 hm h63 hbytes hbase
  unfold Oper.wp execOp
  simp only [ho, resolve, invoke, builtin, Sem.run_bind, Sem.run_pure, Result.andThen_ok, List.map_toArray, List.map_cons, List.map_nil, hs, hx, hr]
  exact hK _ _ (h g cap w' h2 h3)

theorem eC_set (es : List Ent) (j : Nat) (x : Ent) : ((eC es).set (j * 2) (.int .i64 x.1)).set (j * 2 + 1) (.string x.2) = eC (es.set j x) := by
  induction es generalizing j with
  | nil => rfl
  | cons e es ih =>
    cases j with
    | zero => rfl
    | succ j =>
      rw [show (j + 1) * 2 = j * 2 + 1 + 1 by omega, eC_cons]
      simp only [List.set_cons_succ, eC_cons]
      rw [ih j]

theorem own_set2 {w : World} {tg : Tags} {T : Nat × Nat} {e n cap g j : Nat} {es : List Ent} (x : Ent) (h : Own w tg T e 2 (.slice (some ⟨g, 0, none⟩) n cap) n (eC es)) :
    Own ((w.setCell ⟨g, j * 2, none⟩ (.int .i64 x.1)).setCell ⟨g, j * 2 + 1, none⟩ (.string x.2)) tg T e 2 (.slice (some ⟨g, 0, none⟩) n cap) n (eC (es.set j x)) := by
  obtain ⟨⟨hl, hr⟩, ht⟩ := h
  refine ⟨⟨by rw [eC_length, List.length_set, ← eC_length]; exact hl, ?_⟩, ht⟩
  rcases hr with ⟨hv, _⟩ | ⟨g', cap', cur, hv, hg, hh, h1, h2, h3, h4⟩
  · simp at hv
  · simp only [Value.slice.injEq, Option.some.injEq, Addr.mk.injEq, and_true, true_and] at hv
    obtain ⟨rfl, rfl⟩ := hv
    refine .inr ⟨g, cap, (cur.setIfInBounds (j * 2) (.int .i64 x.1)).setIfInBounds (j * 2 + 1) (.string x.2), rfl, hg, ?_, h1, h2, by simpa using h3, ?_⟩
    · exact heap_setCell_same _ g _ _ e _ (heap_setCell_same w g _ cur e _ hh)
    · simp only [Array.toList_setIfInBounds, List.take_set, h4, eC_set]

theorem own_cells2 {w : World} {tg : Tags} {T : Nat × Nat} {e n cap j : Nat} {vo : Option Addr} {es : List Ent} (h : Own w tg T e 2 (.slice vo n cap) n (eC es)) (hj : j < n) :
    ∃ g, vo = some ⟨g, 0, none⟩ ∧ tg g = T ∧ w.frozen? ⟨g, j * 2, none⟩ = false ∧ w.frozen? ⟨g, j * 2 + 1, none⟩ = false ∧ (∃ a, w.cell? ⟨g, j * 2, none⟩ = some a) ∧ (∃ a, w.cell? ⟨g, j * 2 + 1, none⟩ = some a) := by
  obtain ⟨⟨hl, hr⟩, ht⟩ := h
  rcases hr with ⟨hv, h0⟩ | ⟨g', cap', cur, hv, hg, hh, h1, h2, h3, h4⟩
  · omega
  · simp only [Value.slice.injEq, true_and] at hv
    obtain ⟨rfl, rfl⟩ := hv
    refine ⟨g', rfl, ht g' rfl, frozen_of_row w g' _ cur e hh, frozen_of_row w g' _ cur e hh, ?_, ?_⟩
    · rw [cell_of_row w g' _ cur e _ hh]; exact ⟨cur[j * 2], by simp⟩
    · rw [cell_of_row w g' _ cur e _ hh]; exact ⟨cur[j * 2 + 1], by simp⟩

/-- p copies of one element's cells. -/
def rep (xc : List Value) (p : Nat) : List Value := (List.replicate p xc).flatten

theorem rep_add (xc : List Value) (p q : Nat) : rep xc (p + q) = rep xc p ++ rep xc q := by simp only [rep]; rw [← List.replicate_append_replicate, List.flatten_append]
theorem rep_length (xc : List Value) (p : Nat) : (rep xc p).length = p * xc.length := by simp [rep]
theorem rep_eC (x : Ent) (p : Nat) : eC (List.replicate p x) = rep [.int .i64 x.1, .string x.2] p := by simp [eC, rep, List.flatMap]
theorem rep_tC (x : ByteArray) (p : Nat) : tC (List.replicate p x) = rep [.string x] p := by
  induction p with
  | zero => rfl
  | succ p ih => rw [rep_add, ← ih, ← List.replicate_append_replicate]; simp [tC, rep]

/-- A slice of p copies, in a block that is done with or in v's own. -/
def Good (w : World) (tg : Tags) (xc : List Value) (v y : Value) (p : Nat) : Prop :=
  ∃ g c, y = .slice (some ⟨g, 0, none⟩) p c ∧ (∀ j u, (rep xc p)[j]? = some u → w.cell? ⟨g, j, none⟩ = some u) ∧ (tg g = (0, 0) ∨ v.ownBlock = some g) ∧ g < w.heap.size

theorem owns_prefix {w : World} {base e size n m cap g : Nat} {xs ys : List Value} (h : w.ownsRow base e size (.slice (some ⟨g, 0, none⟩) m cap) m (xs ++ ys)) (hx : xs.length = n * size) (hn : n ≤ m) : w.ownsRow base e size (.slice (some ⟨g, 0, none⟩) n cap) n xs := by
  refine ⟨hx, ?_⟩
  rcases h.2 with ⟨hv, _⟩ | ⟨g', cap', cur, hv, hg, hh, h1, h2, h3, h4⟩
  · simp at hv
  · simp only [Value.slice.injEq, Option.some.injEq, Addr.mk.injEq, and_true, true_and] at hv
    obtain ⟨rfl, rfl⟩ := hv
    refine .inr ⟨g, cap, cur, rfl, hg, hh, by omega, h2, h3, ?_⟩
    have h5 := congrArg (List.take (n * size)) h4
    rw [List.take_take, Nat.min_eq_left (Nat.mul_le_mul_right _ hn), ← hx, List.take_left] at h5
    rw [← hx]; exact h5

/-- An append of m copies more onto v, by way of a new block. -/
theorem mark_push {w w1 : World} {tg : Tags} {T : Nat × Nat} {e size n m cap g : Nat} {xc : List Value} {v : Value} {o : Obj} (hxc : xc.length = size) (hT0 : T ≠ (0, 0)) (hv : Own w tg T e size v n (rep xc n))
    (hown : w1.ownsRow 0 e size (.slice (some ⟨g, 0, none⟩) (n + m) cap) (n + m) (rep xc n ++ rep xc m))
    (hc : AppC (w.alloc o) v n g cap w1) (hm : 0 < m) :
    ∃ tg1, Own w1 tg1 T e size v n (rep xc n) ∧ Stp (fun U => U = T) w tg w1 tg1 ∧ Good w1 tg1 xc v (.slice (some ⟨g, 0, none⟩) (n + m) cap) (n + m) ∧ ∀ y p, Good w tg xc v y p → p ≤ n + m → Good w1 tg1 xc v y p := by
  have hcells : ∀ j u, (rep xc (n + m))[j]? = some u → w1.cell? ⟨g, j, none⟩ = some u := fun j u hj => by
    rw [rep_add] at hj
    have := hown.cells (g := g) rfl j u hj
    rwa [add0] at this
  have hglt : g < w1.heap.size := owns_lt hown g rfl
  have hpre : ∀ p j u, p ≤ n + m → (rep xc p)[j]? = some u → (rep xc (n + m))[j]? = some u := fun p j u hp hj => by
    rw [show n + m = p + (n + m - p) by omega, rep_add]
    rw [List.getElem?_append_left (List.getElem?_eq_some_iff.1 hj).1]; exact hj
  refine ⟨newTag w.heap.size tg (0, 0), ?_⟩
  rcases hc with ⟨rfl, hg⟩ | ⟨hg, hb⟩
  · have htg : tg g = T := hv.2 g rfl
    have hgw : g < w.heap.size := owns_lt hv.1 g rfl
    have hs : Stp (fun U => U = T) w tg w1 (newTag w.heap.size tg (0, 0)) := by
      refine ⟨hg.os, hg.tape, hg.output, Nat.le_trans (by simp) hg.size, fun k hk hA => ⟨?_, newTag_old hk⟩⟩
      rw [hg.block k (by simp; omega) (fun he => hA (by simp at he; subst he; exact htg))]
      exact Below.heap_alloc w o k hk
    refine ⟨⟨owns_prefix hown (by rw [rep_length, hxc]) (by omega), fun x hx => ?_⟩, hs, ⟨g, cap, rfl, hcells, .inr rfl, hglt⟩, fun y p hy hp => ?_⟩
    · simp [Value.ownBlock] at hx; subst hx; rw [newTag_old hgw]; exact htg
    · obtain ⟨g', c', rfl, h1, h2, h3⟩ := hy
      by_cases hgg : g' = g
      · subst hgg
        exact ⟨g', c', rfl, fun j u hj => hcells j u (hpre p j u hp hj), .inr rfl, hglt⟩
      · have htg' : tg g' = (0, 0) := by
          rcases h2 with h2 | h2
          · exact h2
          · simp [Value.ownBlock] at h2; exact absurd h2.symm hgg
        have hk := hs.keep g' h3 (by rw [htg']; exact fun h => hT0 h.symm)
        exact ⟨g', c', rfl, fun j u hj => (World.cell?_of_block (a := ⟨g', j, none⟩) hk.1).trans (h1 j u hj), .inl (hk.2.trans htg'), Nat.lt_of_lt_of_le h3 hs.size⟩
  · have hs' : Stp (fun _ => False) w tg w1 (newTag w.heap.size tg (0, 0)) := by
      refine ⟨hb.os, hb.tape, hb.output, Nat.le_trans (by simp) hb.size, fun k hk _ => ⟨?_, newTag_old hk⟩⟩
      rw [hb.block k (by simp; omega)]
      exact Below.heap_alloc w o k hk
    refine ⟨hv.step hs' (fun h => h), hs'.mono (fun _ h => h.elim), ⟨g, cap, rfl, hcells, .inl (newTag_new (by rw [hg]; simp)), hglt⟩, fun y p hy _ => ?_⟩
    obtain ⟨g', c', rfl, h1, h2, h3⟩ := hy
    have hk := hs'.keep g' h3 (fun h => h)
    exact ⟨g', c', rfl, fun j u hj => (World.cell?_of_block (a := ⟨g', j, none⟩) hk.1).trans (h1 j u hj), by rw [hk.2]; exact h2, Nat.lt_of_lt_of_le h3 hs'.size⟩

theorem Good.step {A : Nat × Nat → Prop} {w w' : World} {tg tg' : Tags} {xc : List Value} {v y : Value} {p : Nat} {T : Nat × Nat} (h : Good w tg xc v y p) (hv : Tag tg v T) (hs : Stp A w tg w' tg') (h0 : ¬ A (0, 0)) (hT : ¬ A T) : Good w' tg' xc v y p := by
  obtain ⟨g, c, rfl, h1, h2, h3⟩ := h
  have hk := hs.keep g h3 (by rcases h2 with h2 | h2; · rw [h2]; exact h0
                              · rw [hv g h2]; exact hT)
  exact ⟨g, c, rfl, fun j u hj => (World.cell?_of_block (a := ⟨g, j, none⟩) hk.1).trans (h1 j u hj), by rw [hk.2]; exact h2, Nat.lt_of_lt_of_le h3 hs.size⟩

/-- v's block is done with. -/
def unTag (v : Value) (tg : Tags) : Tags := fun k => if v.ownBlock = some k then (0, 0) else tg k

theorem Good.seenE {w : World} {tg : Tags} {x : Ent} {v y : Value} {p : Nat} (h : Good w tg [.int .i64 x.1, .string x.2] v y p) : SeenE w (unTag v tg) y (List.replicate p x) := by
  obtain ⟨g, c, rfl, h1, h2, h3⟩ := h
  refine ⟨⟨_, c, by rw [List.length_replicate], fun h => by simp at h, fun k e hk => ⟨g, 0, rfl, ?_⟩⟩, fun _ z hz => ?_⟩
  · have hg := eC_get _ k e hk
    rw [rep_eC] at hg
    exact ⟨by simpa using h1 _ _ hg.1, by simpa using h1 _ _ hg.2⟩
  · simp [Value.ownBlock] at hz
    subst hz
    simp only [unTag]
    split
    · rfl
    · rcases h2 with h2 | h2
      · exact h2
      · contradiction

theorem Good.seenT {w : World} {tg : Tags} {x : ByteArray} {v y : Value} {p : Nat} (h : Good w tg [.string x] v y p) : SeenT w (unTag v tg) y (List.replicate p x) := by
  obtain ⟨g, c, rfl, h1, h2, h3⟩ := h
  refine ⟨⟨_, c, by rw [List.length_replicate], fun h => by simp at h, fun k e hk => ⟨g, 0, rfl, ?_⟩⟩, fun _ z hz => ?_⟩
  · have hg : (tC (List.replicate p x))[k]? = some (.string e) := by rw [tC, List.getElem?_map, hk]; rfl
    rw [rep_tC] at hg
    simpa using h1 _ _ hg
  · simp [Value.ownBlock] at hz
    subst hz
    simp only [unTag]
    split
    · rfl
    · rcases h2 with h2 | h2
      · exact h2
      · contradiction

theorem seenE_self {w : World} {tg : Tags} {T : Nat × Nat} {e n : Nat} {x : Ent} {v : Value} (h : Own w tg T e 2 v n (rep [.int .i64 x.1, .string x.2] n)) : SeenE w (unTag v tg) v (List.replicate n x) := by
  rw [← rep_eC] at h
  have h' : w.ownsRow 0 e 2 v (List.replicate n x).length (eC (List.replicate n x)) := by simpa using h.1
  exact ⟨ents_of_owns h', fun _ z hz => by simp [unTag, hz]⟩

theorem seenT_self {w : World} {tg : Tags} {T : Nat × Nat} {e n : Nat} {x : ByteArray} {v : Value} (h : Own w tg T e 1 v n (rep [.string x] n)) : SeenT w (unTag v tg) v (List.replicate n x) := by
  rw [← rep_tC] at h
  have h' : w.ownsRow 0 e 1 v (List.replicate n x).length (tC (List.replicate n x)) := by simpa using h.1
  exact ⟨texts_of_owns h', fun _ z hz => by simp [unTag, hz]⟩

theorem Stp.unTag {A : Nat × Nat → Prop} {w w' : World} {tg tg' : Tags} {v : Value} {T : Nat × Nat} (h : Stp A w tg w' tg') (hv : Tag tg v T) (hA : A T) : Stp A w tg w' (unTag v tg') :=
  ⟨h.os, h.tape, h.output, h.size, fun k hk hn => ⟨(h.keep k hk hn).1, by
    have hne : ¬ v.ownBlock = some k := fun he => hn (by rw [hv k he]; exact hA)
    simp only [Proofs.Yteiecbkfganhnaa.unTag, hne, if_false]
    exact (h.keep k hk hn).2⟩⟩

theorem Own.unTag {w : World} {tg : Tags} {T U : Nat × Nat} {e size n : Nat} {v r : Value} {xs : List Value} (h : Own w tg U e size r n xs) (hv : Tag tg v T) (hne : U ≠ T) : Own w (unTag v tg) U e size r n xs :=
  ⟨h.1, fun x hx => by
    have hn : ¬ v.ownBlock = some x := fun he => hne ((h.2 x hx).symm.trans (hv x he))
    simp only [Proofs.Yteiecbkfganhnaa.unTag, hn, if_false]
    exact h.2 x hx⟩

theorem cells_new (w : World) (cs : Array Value) (t : TypeId) : ∀ j u, cs.toList[j]? = some u → (w.alloc (.cells cs t)).cell? ((⟨w.heap.size, 0, none⟩ : Addr).add j) = some u := by
  intro j u hj
  rw [add0, cell_of_row _ w.heap.size j _ _ _ (heap_alloc_new w _)]
  simpa using hj

theorem repl_set (es : List Ent) (x : Ent) (j : Nat) (hj : j < es.length) : (List.replicate j x ++ es.drop j).set j x = List.replicate (j + 1) x ++ es.drop (j + 1) := by
  rw [List.set_append_right _ _ (by simp), List.length_replicate, Nat.sub_self, List.drop_eq_getElem_cons hj, List.set_cons_zero, List.replicate_succ', List.append_assoc]
  rfl

theorem replT_set {α : Type} (es : List α) (x : α) (j : Nat) (hj : j < es.length) : (List.replicate j x ++ es.drop j).set j x = List.replicate (j + 1) x ++ es.drop (j + 1) := by
  rw [List.set_append_right _ _ (by simp), List.length_replicate, Nat.sub_self, List.drop_eq_getElem_cons hj, List.set_cons_zero, List.replicate_succ', List.append_assoc]
  rfl

theorem rep_one (xc : List Value) (h : ∀ u ∈ xc, u.oneCell' = true) (p : Nat) : ∀ u ∈ rep xc p, u.oneCell' = true := by
  intro u hu
  simp only [rep, List.mem_flatten, List.mem_replicate] at hu
  obtain ⟨l, ⟨_, rfl⟩, h2⟩ := hu
  exact h u h2

theorem repE_one (M : Int) (s : ByteArray) (p : Nat) : ∀ u ∈ rep [.int .i64 M, .string s] p, u.oneCell' = true :=
  rep_one _ (by intro u hu; simp at hu; rcases hu with rfl | rfl <;> rfl) p

theorem repT_one (s : ByteArray) (p : Nat) : ∀ u ∈ rep [.string s] p, u.oneCell' = true :=
  rep_one _ (by intro u hu; simp at hu; subst hu; rfl) p

theorem own_set1 {w : World} {tg : Tags} {T : Nat × Nat} {e n cap g j : Nat} {es : List ByteArray} (x : ByteArray) (h : Own w tg T e 1 (.slice (some ⟨g, 0, none⟩) n cap) n (tC es)) :
    Own (w.setCell ⟨g, j, none⟩ (.string x)) tg T e 1 (.slice (some ⟨g, 0, none⟩) n cap) n (tC (es.set j x)) := by
  obtain ⟨⟨hl, hr⟩, ht⟩ := h
  refine ⟨⟨by simpa using hl, ?_⟩, ht⟩
  rcases hr with ⟨hv, _⟩ | ⟨g', cap', cur, hv, hg, hh, h1, h2, h3, h4⟩
  · simp at hv
  · simp only [Value.slice.injEq, Option.some.injEq, Addr.mk.injEq, and_true, true_and] at hv
    obtain ⟨rfl, rfl⟩ := hv
    refine .inr ⟨g, cap, cur.setIfInBounds j (.string x), rfl, hg, heap_setCell_same w g _ cur e _ hh, h1, h2, by simpa using h3, ?_⟩
    simp only [Array.toList_setIfInBounds, List.take_set, h4, List.map_set]

theorem own_cells1 {w : World} {tg : Tags} {T : Nat × Nat} {e n cap j : Nat} {vo : Option Addr} {es : List ByteArray} (h : Own w tg T e 1 (.slice vo n cap) n (tC es)) (hj : j < n) :
    ∃ g, vo = some ⟨g, 0, none⟩ ∧ tg g = T ∧ w.frozen? ⟨g, j, none⟩ = false ∧ (∃ a, w.cell? ⟨g, j, none⟩ = some a) := by
  obtain ⟨⟨hl, hr⟩, ht⟩ := h
  rcases hr with ⟨hv, h0⟩ | ⟨g', cap', cur, hv, hg, hh, h1, h2, h3, h4⟩
  · omega
  · simp only [Value.slice.injEq, true_and] at hv
    obtain ⟨rfl, rfl⟩ := hv
    refine ⟨g', rfl, ht g' rfl, frozen_of_row w g' _ cur e hh, ?_⟩
    rw [cell_of_row w g' _ cur e _ hh]; exact ⟨cur[j], by simp⟩

end Go.Proofs.Yteiecbkfganhnaa
