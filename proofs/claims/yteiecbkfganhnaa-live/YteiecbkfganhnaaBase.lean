/- Plain facts on lists of entries and on worlds: no program is named here. -/
import Derived.WalkKit
import Derived.Deep.Draws
import Derived.Laws.AppendOwnNone
import Derived.Maps.AppendAt
namespace Go.Proofs.Yteiecbkfganhnaa
open Go.RowKit

theorem hide {p : Prop} (h : p) : Hid p := h
theorem unhide {p : Prop} (h : Hid p) : p := h

abbrev Ent := Int × ByteArray

/-- The cells of entries. -/
def eC (es : List Ent) : List Value := es.flatMap fun e => [.int .i64 e.1, .string e.2]

theorem eC_nil : eC [] = [] := rfl
theorem eC_cons (e : Ent) (es : List Ent) : eC (e :: es) = .int .i64 e.1 :: .string e.2 :: eC es := rfl
theorem eC_append (es fs : List Ent) : eC (es ++ fs) = eC es ++ eC fs := by simp [eC]
theorem eC_length (es : List Ent) : (eC es).length = es.length * 2 := by
  induction es with
  | nil => rfl
  | cons e es ih => simp only [eC_cons, List.length_cons, ih]; omega
theorem eC_get (es : List Ent) (k : Nat) (e : Ent) (h : es[k]? = some e) : (eC es)[k * 2]? = some (.int .i64 e.1) ∧ (eC es)[k * 2 + 1]? = some (.string e.2) := by
  induction es generalizing k with
  | nil => simp at h
  | cons x es ih =>
    cases k with
    | zero => simp only [List.getElem?_cons_zero, Option.some.injEq] at h; subst h; exact ⟨rfl, rfl⟩
    | succ k =>
      have := ih k (by simpa using h)
      rw [show (k + 1) * 2 = k * 2 + 1 + 1 by omega, eC_cons]
      simpa using this

/-- A slice value that reads as these entries (wherever it lies). -/
def EntsIn (w : World) (v : Value) (es : List Ent) : Prop :=
  ∃ ao cap, v = .slice ao es.length cap ∧ (ao = none → cap = 0) ∧ ∀ k e, es[k]? = some e → ∃ b off, ao = some ⟨b, off, none⟩ ∧ w.cell? ⟨b, off + k * 2, none⟩ = some (.int .i64 e.1) ∧ w.cell? ⟨b, off + k * 2 + 1, none⟩ = some (.string e.2)

/-- A slice value that reads as these texts. -/
def TextsIn (w : World) (v : Value) (ss : List ByteArray) : Prop :=
  ∃ ao cap, v = .slice ao ss.length cap ∧ (ao = none → cap = 0) ∧ ∀ k s, ss[k]? = some s → ∃ b off, ao = some ⟨b, off, none⟩ ∧ w.cell? ⟨b, off + k, none⟩ = some (.string s)

/-- The cells of texts. -/
abbrev tC (ss : List ByteArray) : List Value := ss.map Value.string

theorem add0 (g j : Nat) : (⟨g, 0, none⟩ : Addr).add j = ⟨g, j, none⟩ := by unfold Addr.add; split <;> simp_all

theorem ents_of_owns {w : World} {base e : Nat} {v : Value} {es : List Ent} (h : w.ownsRow base e 2 v es.length (eC es)) : EntsIn w v es := by
  rcases h.2 with ⟨rfl, h0⟩ | ⟨g, cap, cur, rfl, _, hg, _⟩
  · refine ⟨none, 0, by rw [h0], fun _ => rfl, fun k e he => ?_⟩
    have := List.eq_nil_of_length_eq_zero h0
    subst this
    simp at he
  · refine ⟨some ⟨g, 0, none⟩, cap, rfl, fun hx => by simp at hx, fun k e he => ⟨g, 0, rfl, ?_, ?_⟩⟩
    · have := h.cells (g := g) rfl (k * 2) _ (eC_get es k e he).1
      rw [add0] at this; simpa using this
    · have := h.cells (g := g) rfl (k * 2 + 1) _ (eC_get es k e he).2
      rw [add0] at this; simpa using this

theorem texts_of_owns {w : World} {base e : Nat} {v : Value} {ss : List ByteArray} (h : w.ownsRow base e 1 v ss.length (tC ss)) : TextsIn w v ss := by
  rcases h.2 with ⟨rfl, h0⟩ | ⟨g, cap, cur, rfl, _, hg, _⟩
  · refine ⟨none, 0, by rw [h0], fun _ => rfl, fun k e he => ?_⟩
    have := List.eq_nil_of_length_eq_zero h0
    subst this
    simp at he
  · refine ⟨some ⟨g, 0, none⟩, cap, rfl, fun hx => by simp at hx, fun k e he => ⟨g, 0, rfl, ?_⟩⟩
    have := h.cells (g := g) rfl k (.string e) (by simp [he])
    rw [add0] at this; simpa using this

theorem ents_drewN {w : World} {v : Value} {es : List Ent} (h : EntsIn w v es) (n : Nat) : EntsIn (w.drewN n) v es := h
theorem texts_drewN {w : World} {v : Value} {es : List ByteArray} (h : TextsIn w v es) (n : Nat) : TextsIn (w.drewN n) v es := h

theorem owns_base {w : World} {base base' e size n : Nat} {v : Value} {xs : List Value} (h : w.ownsRow base e size v n xs) (hb : base' ≤ base) : w.ownsRow base' e size v n xs := by
  refine ⟨h.1, ?_⟩
  rcases h.2 with h2 | ⟨g, cap, cur, hv, hg, r⟩
  · exact .inl h2
  · exact .inr ⟨g, cap, cur, hv, Nat.le_trans hb hg, r⟩

theorem owns_drewN {w : World} {base e size n : Nat} {v : Value} {xs : List Value} (h : w.ownsRow base e size v n xs) (m : Nat) : (w.drewN m).ownsRow base e size v n xs := h

/-- What an owned row is of is kept where its block is. -/
theorem owns_kept {w w' : World} {base e size n : Nat} {v : Value} {xs : List Value} (h : w.ownsRow base e size v n xs) (hk : ∀ x, v.ownBlock = some x → w'.heap[x]? = w.heap[x]?) : w'.ownsRow base e size v n xs := by
  refine ⟨h.1, ?_⟩
  rcases h.2 with h2 | ⟨g, cap, cur, rfl, hg, hh, r⟩
  · exact .inl h2
  · exact .inr ⟨g, cap, cur, rfl, hg, by rw [hk g rfl]; exact hh, r⟩

theorem owns_lt {w : World} {base e size n : Nat} {v : Value} {xs : List Value} (h : w.ownsRow base e size v n xs) : ∀ x, v.ownBlock = some x → x < w.heap.size := fun x hx => (h.lt x hx).2

/-- Roles of blocks. -/
abbrev Tags := Nat → Nat × Nat

def Tag (tg : Tags) (v : Value) (T : Nat × Nat) : Prop := ∀ x, v.ownBlock = some x → tg x = T

theorem tag_nil (tg : Tags) (T : Nat × Nat) : Tag tg (.slice none 0 0) T := fun x hx => by simp [Value.ownBlock] at hx

/-- Between two worlds: the blocks whose role is in A may have turned, and their role; all other old ones have not. -/
structure Stp (A : Nat × Nat → Prop) (w : World) (tg : Tags) (w' : World) (tg' : Tags) : Prop where
  os : w'.os = w.os
  tape : w'.tape = w.tape
  output : w'.output = w.output
  size : w.heap.size ≤ w'.heap.size
  keep : ∀ k, k < w.heap.size → ¬ A (tg k) → w'.heap[k]? = w.heap[k]? ∧ tg' k = tg k

theorem Stp.refl (A : Nat × Nat → Prop) (w : World) (tg : Tags) : Stp A w tg w tg := ⟨rfl, rfl, rfl, Nat.le_refl _, fun _ _ _ => ⟨rfl, rfl⟩⟩

theorem Stp.trans {A : Nat × Nat → Prop} {a b c : World} {t u v : Tags} (h : Stp A a t b u) (k : Stp A b u c v) : Stp A a t c v :=
  ⟨k.os.trans h.os, k.tape.trans h.tape, k.output.trans h.output, Nat.le_trans h.size k.size, fun i hi hA => by
    have h1 := h.keep i hi hA
    have h2 := k.keep i (Nat.lt_of_lt_of_le hi h.size) (by rw [h1.2]; exact hA)
    exact ⟨h2.1.trans h1.1, h2.2.trans h1.2⟩⟩

theorem Stp.mono {A B : Nat × Nat → Prop} {a b : World} {t u : Tags} (h : Stp A a t b u) (hAB : ∀ x, A x → B x) : Stp B a t b u :=
  ⟨h.os, h.tape, h.output, h.size, fun k hk hB => h.keep k hk (fun hA => hB (hAB _ hA))⟩

theorem Stp.drewN {A : Nat × Nat → Prop} {a b : World} {t u : Tags} (h : Stp A a t b u) (m : Nat) : Stp A a t (b.drewN m) u := ⟨h.os, h.tape, h.output, h.size, h.keep⟩

/-- New blocks get one role; old ones keep theirs. -/
def newTag (n : Nat) (tg : Tags) (T : Nat × Nat) : Tags := fun k => if k < n then tg k else T

theorem newTag_old {n : Nat} {tg : Tags} {T : Nat × Nat} {k : Nat} (h : k < n) : newTag n tg T k = tg k := by simp [newTag, h]
theorem newTag_new {n : Nat} {tg : Tags} {T : Nat × Nat} {k : Nat} (h : n ≤ k) : newTag n tg T k = T := by simp [newTag]; omega

theorem Stp.ofBelow {A : Nat × Nat → Prop} {w w' : World} (h : Below w.heap.size w w') (tg : Tags) (T : Nat × Nat) : Stp A w tg w' (newTag w.heap.size tg T) :=
  ⟨h.os, h.tape, h.output, h.size, fun k hk _ => ⟨h.block k hk, newTag_old hk⟩⟩

/-- An owned row with its role. -/
def Own (w : World) (tg : Tags) (T : Nat × Nat) (e size : Nat) (v : Value) (n : Nat) (xs : List Value) : Prop := w.ownsRow 0 e size v n xs ∧ Tag tg v T

theorem Own.step {A : Nat × Nat → Prop} {w w' : World} {tg tg' : Tags} {T : Nat × Nat} {e size n : Nat} {v : Value} {xs : List Value} (h : Own w tg T e size v n xs) (hs : Stp A w tg w' tg') (hA : ¬ A T) : Own w' tg' T e size v n xs := by
  refine ⟨owns_kept h.1 fun x hx => (hs.keep x (owns_lt h.1 x hx) (by rw [h.2 x hx]; exact hA)).1, fun x hx => ?_⟩
  rw [(hs.keep x (owns_lt h.1 x hx) (by rw [h.2 x hx]; exact hA)).2]
  exact h.2 x hx

theorem Own.fresh {w w' : World} (tg : Tags) (T : Nat × Nat) {e size n : Nat} {v : Value} {xs : List Value} (h : w'.ownsRow w.heap.size e size v n xs) : Own w' (newTag w.heap.size tg T) T e size v n xs :=
  ⟨owns_base h (Nat.zero_le _), fun x hx => newTag_new (h.lt x hx).1⟩

theorem Own.nil (w : World) (tg : Tags) (T : Nat × Nat) (e size : Nat) : Own w tg T e size (.slice none 0 0) 0 [] := ⟨World.ownsRow_nil w 0 e size, tag_nil tg T⟩

/-- Behind an append onto an owned row. -/
theorem Own.appended {w w' : World} {tg : Tags} {T : Nat × Nat} {e size n m cap g : Nat} {v : Value} {xs ys : List Value} (h : Own w tg T e size v n xs) (hg : w.grownBy w' v.ownBlock)
    (ho : w'.ownsRow 0 e size (.slice (some ⟨g, 0, none⟩) m cap) m ys) (hat : v.ownBlock = some g ∨ g = w.heap.size) :
    Own w' (newTag w.heap.size tg T) T e size (.slice (some ⟨g, 0, none⟩) m cap) m ys ∧ Stp (fun U => U = T) w tg w' (newTag w.heap.size tg T) := by
  refine ⟨⟨ho, fun x hx => ?_⟩, ⟨hg.os, hg.tape, hg.output, hg.size, fun k hk hA => ⟨hg.block k hk (fun he => hA (h.2 k he.symm)), newTag_old hk⟩⟩⟩
  simp [Value.ownBlock] at hx
  subst hx
  rcases hat with hv | rfl
  · rw [newTag_old (owns_lt h.1 _ hv)]; exact h.2 _ hv
  · exact newTag_new (Nat.le_refl _)

theorem Stp.alloc {A : Nat × Nat → Prop} (w : World) (tg : Tags) (o : Obj) (T : Nat × Nat) : Stp A w tg (w.alloc o) (newTag w.heap.size tg T) :=
  Stp.ofBelow ((Below.refl _ _).alloc (Nat.le_refl _) o) tg T

theorem Stp.setCell {w : World} {tg : Tags} {T : Nat × Nat} {a : Addr} (h : tg a.block = T) (u : Value) : Stp (fun U => U = T) w tg (w.setCell a u) tg :=
  ⟨rfl, rfl, rfl, by simp [World.setCell], fun k _ hA => ⟨Below.heap_setCell _ _ _ _ (fun e => hA (by rw [e]; exact h)), rfl⟩⟩

theorem Own.oneCell {w : World} {tg : Tags} {T : Nat × Nat} {e size n : Nat} {v : Value} {xs : List Value} (h : Own w tg T e size v n xs) : v.oneCell' = true := by
  rcases h.1.2 with ⟨rfl, _⟩ | ⟨g, cap, cur, rfl, _⟩ <;> rfl

theorem owns_form {w : World} {base e size n : Nat} {v : Value} {xs : List Value} (h : w.ownsRow base e size v n xs) : ∃ ao cap, v = .slice ao n cap := by
  rcases h.2 with ⟨rfl, rfl⟩ | ⟨g, cap, cur, rfl, _⟩
  · exact ⟨_, _, rfl⟩
  · exact ⟨_, _, rfl⟩

theorem Own.form {w : World} {tg : Tags} {T : Nat × Nat} {e size n : Nat} {v : Value} {xs : List Value} (h : Own w tg T e size v n xs) : ∃ ao cap, v = .slice ao n cap := owns_form h.1

/-- An append of what was laid in a new block. -/
theorem Own.pushed {w w1 : World} {tg : Tags} {T : Nat × Nat} {e size n m cap g : Nat} {v : Value} {xs ys : List Value} {o : Obj} (h : Own w tg T e size v n xs) (hg : (w.alloc o).grownBy w1 v.ownBlock)
    (ho : w1.ownsRow 0 e size (.slice (some ⟨g, 0, none⟩) m cap) m ys) (hat : v.ownBlock = some g ∨ g = w.heap.size + 1) :
    ∃ tg1, Own w1 tg1 T e size (.slice (some ⟨g, 0, none⟩) m cap) m ys ∧ Stp (fun U => U = T) w tg w1 tg1 := by
  have ha : Stp (fun U => U = T) w tg (w.alloc o) (newTag w.heap.size tg (0, 1)) := Stp.alloc w tg o (0, 1)
  have ho' : Own (w.alloc o) (newTag w.heap.size tg (0, 1)) T e size v n xs := h.step (A := fun _ => False) (Stp.alloc w tg o (0, 1)) (fun h => h)
  have hr := ho'.appended hg ho (by simpa using hat)
  exact ⟨_, hr.1, ha.trans hr.2⟩

theorem owns_below {w w' : World} {base e size n : Nat} {v : Value} {xs : List Value} (h : w.ownsRow base e size v n xs) (hb : Below w.heap.size w w') : w'.ownsRow base e size v n xs :=
  owns_kept h fun x hx => hb.block x (owns_lt h x hx)
theorem owns_belowD {w w' : World} {base e size n : Nat} {v : Value} {xs : List Value} (h : w.ownsRow base e size v n xs) (hb : Below w.drew.heap.size w.drew w') : w'.ownsRow base e size v n xs :=
  owns_kept h fun x hx => hb.block x (owns_lt h x hx)
theorem Below.undrew {B : Nat} {w w' : World} (hb : Below B w.drew w') : Below B w w' := ⟨hb.os, hb.tape, hb.output, hb.size, hb.block⟩

theorem cell_alloc {w : World} {a : Addr} {v : Value} (h : w.cell? a = some v) (o : Obj) : (w.alloc o).cell? a = some v := by
  exact (World.cell?_of_block (w := w) (Below.heap_alloc w o a.block (block_lt_of_cell h))).trans h

/-- A slice that reads as these cells, nil or not. -/
def Src (w : World) (sv : Value) (m : Nat) (news : List Value) : Prop :=
  (sv = .slice none 0 0 ∧ m = 0 ∧ news = []) ∨ ∃ ad c, sv = .slice (some ad) m c ∧ ∀ j u, news[j]? = some u → w.cell? (ad.add j) = some u

/-- append of all of a slice, nil or not, onto an owned row. -/
theorem wpList_append_src {P : Program} {w : World} {ops : Array Oper} {rest : List Oper} {o : Oper} {a : Act} {Q : Exit → Act → World → Prop} (hgd : o.guard = none) (s x : Operand) (t : TypeId)
    (ho : o.op = .call { callee := .builtin .append, args := #[s, x], argTypes := #[t, t] })
    (base : Nat) (e : TypeId) (i : TypeInfo) (z : Value) (size bytes : Nat) (ht : P.underlying t = some (.slice e)) (hi : P.info? e = some i) (hz : i.zero = some z)
    (hsize : i.size = size) (hby : i.bytes = bytes) (hzs : z.cells.size = size) (hsz : 0 < size)
    (v : Value) (n : Nat) (xs : List Value) (hs : a.eval s = v) (hown : w.ownsRow base e size v n xs)
    (sv : Value) (m : Nat) (news : List Value) (hx : a.eval x = sv) (hl : news.length = m * size) (hsrc : Src w sv m news) (h1 : ∀ u ∈ news, u.oneCell' = true)
    (h63 : n + m ≤ maxLen) (hbytes : (n + m) * bytes ≤ 140737488355328) (hbase : base ≤ w.heap.size)
    (h : ∀ v' w', w'.ownsRow base e size v' (n + m) (xs ++ news) → w.grownBy w' v.ownBlock → (v'.ownBlock = v.ownBlock ∨ v'.ownBlock = some w.heap.size) → wpList P ops Q rest (a.put o.dst v') w') :
    wpList P ops Q (o :: rest) a w := by
  rcases hsrc with ⟨rfl, rfl, rfl⟩ | ⟨ad, c, rfl, hnews⟩
  · refine wpList_append_own_none hgd s x t ho base e i size ht hi v n xs hs hown hx (h v w (by simpa using hown) ⟨rfl, rfl, rfl, Nat.le_refl _, fun _ _ _ => rfl⟩ (.inl rfl))
  · exact wpList_append_own_at w hgd s x t ho base e i z size bytes ht hi hz hsize hby hzs hsz v n xs hs hown ad m c news hx hl hnews h1 h63 hbytes hbase fun v' w' h2 h3 _ h5 => h v' w' h2 h3 h5

theorem src_of_owns {w : World} {base e size n : Nat} {v : Value} {xs : List Value} (h : w.ownsRow base e size v n xs) : Src w v n xs := by
  rcases h.2 with ⟨rfl, rfl⟩ | ⟨g, cap, cur, rfl, _⟩
  · exact .inl ⟨rfl, rfl, List.eq_nil_of_length_eq_zero (by simpa using h.1)⟩
  · exact .inr ⟨_, _, rfl, fun j u hj => h.cells (g := g) rfl j u hj⟩

theorem tC_one (ss : List ByteArray) : ∀ u ∈ tC ss, u.oneCell' = true := by
  intro u hu
  simp only [tC, List.mem_map] at hu
  obtain ⟨s, _, rfl⟩ := hu
  rfl

theorem own_elem {w : World} {base e n cap : Nat} {ao : Option Addr} {xs : List Value} {k : Nat} {v : Value} (h : w.ownsRow base e 1 (.slice ao n cap) n xs) (hk : xs[k]? = some v) :
    ∃ g, ao = some ⟨g, 0, none⟩ ∧ w.cell? ⟨g, k, none⟩ = some v := by
  rcases h.2 with ⟨_, rfl⟩ | ⟨g, cap', cur, hv, _⟩
  · have := h.1
    simp at this
    subst this
    simp at hk
  · obtain ⟨rfl, _⟩ : ao = some ⟨g, 0, none⟩ ∧ True := by simp at hv; exact ⟨hv.1, trivial⟩
    refine ⟨g, rfl, ?_⟩
    have := h.cells (g := g) rfl k v hk
    rwa [add0] at this

/-- A list that is nobody's to write any more. -/
def SeenE (w : World) (tg : Tags) (v : Value) (es : List Ent) : Prop := EntsIn w v es ∧ (es ≠ [] → Tag tg v (0, 0))
def SeenT (w : World) (tg : Tags) (v : Value) (es : List ByteArray) : Prop := TextsIn w v es ∧ (es ≠ [] → Tag tg v (0, 0))

theorem SeenE.step {A : Nat × Nat → Prop} {w w' : World} {tg tg' : Tags} {v : Value} {es : List Ent} (h : SeenE w tg v es) (hs : Stp A w tg w' tg') (hA : ¬ A (0, 0)) : SeenE w' tg' v es := by
  obtain ⟨⟨ao, cap, rfl, hc, he⟩, ht⟩ := h
  refine ⟨⟨ao, cap, rfl, hc, fun k e hk => ?_⟩, fun hne x hx => ?_⟩
  · obtain ⟨b, off, rfl, h1, h2⟩ := he k e hk
    have hb := (hs.keep b (block_lt_of_cell h1) (by rw [ht (by intro h0; subst h0; simp at hk) b rfl]; exact hA)).1
    exact ⟨b, off, rfl, (World.cell?_of_block (a := ⟨b, _, none⟩) hb).trans h1, (World.cell?_of_block (a := ⟨b, _, none⟩) hb).trans h2⟩
  · match es, hne, he with
    | e :: es, _, he =>
      obtain ⟨b, off, rfl, h1, h2⟩ := he 0 e rfl
      simp [Value.ownBlock] at hx
      subst hx
      rw [(hs.keep b (block_lt_of_cell h1) (by rw [ht (by simp) b rfl]; exact hA)).2]
      exact ht (by simp) b rfl

theorem SeenT.step {A : Nat × Nat → Prop} {w w' : World} {tg tg' : Tags} {v : Value} {es : List ByteArray} (h : SeenT w tg v es) (hs : Stp A w tg w' tg') (hA : ¬ A (0, 0)) : SeenT w' tg' v es := by
  obtain ⟨⟨ao, cap, rfl, hc, he⟩, ht⟩ := h
  refine ⟨⟨ao, cap, rfl, hc, fun k e hk => ?_⟩, fun hne x hx => ?_⟩
  · obtain ⟨b, off, rfl, h1⟩ := he k e hk
    have hb := (hs.keep b (block_lt_of_cell h1) (by rw [ht (by intro h0; subst h0; simp at hk) b rfl]; exact hA)).1
    exact ⟨b, off, rfl, (World.cell?_of_block (a := ⟨b, _, none⟩) hb).trans h1⟩
  · match es, hne, he with
    | e :: es, _, he =>
      obtain ⟨b, off, rfl, h1⟩ := he 0 e rfl
      simp [Value.ownBlock] at hx
      subst hx
      rw [(hs.keep b (block_lt_of_cell h1) (by rw [ht (by simp) b rfl]; exact hA)).2]
      exact ht (by simp) b rfl

theorem heap_under {w : World} {i : Nat} {x : Obj} (h : w.heap[i]? = some x) (o : Obj) : (w.alloc o).heap[i]? = some x :=
  (Below.heap_alloc w o i (Array.getElem?_eq_some_iff.1 h).1).trans h

theorem below_alloc (w : World) (o : Obj) : Below w.heap.size w (w.alloc o) := (Below.refl _ _).alloc (Nat.le_refl _) o
theorem below_trans {a b c : World} (h : Below a.heap.size a b) (k : Below b.heap.size b c) : Below a.heap.size a c := h.trans (k.mono h.size)

theorem ents_below {w w' : World} {v : Value} {es : List Ent} (h : EntsIn w v es) (hb : Below w.heap.size w w') : EntsIn w' v es := by
  obtain ⟨ao, cap, hv, hc, he⟩ := h
  refine ⟨ao, cap, hv, hc, fun k e hk => ?_⟩
  obtain ⟨b, off, ha, h1, h2⟩ := he k e hk
  exact ⟨b, off, ha, (hb.cell (p := ⟨b, _, none⟩) (block_lt_of_cell h1)).trans h1, (hb.cell (p := ⟨b, _, none⟩) (block_lt_of_cell h2)).trans h2⟩

theorem owns_set {w : World} {base e size n : Nat} {v : Value} {xs : List Value} (h : w.ownsRow base e size v n xs) {a : Addr} (ha : a.block < base) (u : Value) : (w.setCell a u).ownsRow base e size v n xs :=
  owns_kept h fun x hx => Below.heap_setCell _ _ _ _ (by have := (h.lt x hx).1; omega)

theorem size_alloc1 (w : World) (o : Obj) : (w.alloc o).heap.size = w.heap.size + 1 := by simp

theorem run_append_src {P : Program} (w : World) (base : Nat) (t ty e : TypeId) (i : TypeInfo) (z : Value) (size bytes : Nat) (ht : P.underlying t = some (.slice e)) (hi : P.info? e = some i) (hz : i.zero = some z)
    (hsize : i.size = size) (hby : i.bytes = bytes) (hzs : z.cells.size = size) (hsz : 0 < size)
    (v : Value) (n : Nat) (xs : List Value) (hown : w.ownsRow base e size v n xs)
    (sv : Value) (m : Nat) (news : List Value) (hl : news.length = m * size) (hsrc : Src w sv m news) (h1 : ∀ u ∈ news, u.oneCell' = true)
    (h63 : n + m ≤ maxLen) (hbytes : (n + m) * bytes ≤ 140737488355328) (hbase : base ≤ w.heap.size) :
    ∃ v' w', (Builtin.append_ #[t, t] ty #[v, sv]).run P w = .ok v' w' ∧ w'.ownsRow base e size v' (n + m) (xs ++ news) ∧ w.grownBy w' v.ownBlock := by
  rcases hsrc with ⟨rfl, rfl, rfl⟩ | ⟨ad, c, rfl, hnews⟩
  · exact ⟨v, w, run_append_owned_none (P := P) (w := w) base t ty e i size ht hi v n xs hown, by simpa using hown, ⟨rfl, rfl, rfl, Nat.le_refl _, fun _ _ _ => rfl⟩⟩
  · obtain ⟨v', w', h2, h3, h4, _⟩ := run_append_own_at (P := P) w base t ty e i z size bytes ht hi hz hsize hby hzs hsz v n xs hown ad m c news hl hnews h1 h63 hbytes hbase
    exact ⟨v', w', h2, h3, h4⟩

theorem step_append_src {P : Program} {w : World} {ops : Array Oper} {o : Oper} {a : Act} {K : Act → World → Prop} {Q : Exit → Act → World → Prop} {E : Prop} (hgd : o.guard = none) (s x : Operand) (t : TypeId)
    (ho : o.op = .call { callee := .builtin .append, args := #[s, x], argTypes := #[t, t] })
    (base : Nat) (e : TypeId) (i : TypeInfo) (z : Value) (size bytes : Nat) (ht : P.underlying t = some (.slice e)) (hi : P.info? e = some i) (hz : i.zero = some z)
    (hsize : i.size = size) (hby : i.bytes = bytes) (hzs : z.cells.size = size) (hsz : 0 < size)
    (v : Value) (n : Nat) (xs : List Value) (hs : a.eval s = v) (hown : w.ownsRow base e size v n xs)
    (sv : Value) (m : Nat) (news : List Value) (hx : a.eval x = sv) (hl : news.length = m * size) (hsrc : Src w sv m news) (h1 : ∀ u ∈ news, u.oneCell' = true)
    (h63 : n + m ≤ maxLen) (hbytes : (n + m) * bytes ≤ 140737488355328) (hbase : base ≤ w.heap.size)
    (h : ∀ v' w', w'.ownsRow base e size v' (n + m) (xs ++ news) → w.grownBy w' v.ownBlock → K (a.put o.dst v') w') :
    if Region.wanted o (yielded ops a.tmps) = true then Oper.wp P o a w K Q else E := by
  have hw : Region.wanted o (yielded ops a.tmps) = true := by simp [Region.wanted, hgd]
  rw [if_pos hw]
  obtain ⟨v', w', hr, h2, h3⟩ := run_append_src (P := P) w base t o.type e i z size bytes ht hi hz hsize hby hzs hsz v n xs hown sv m news hl hsrc h1 h63 hbytes hbase
  unfold Oper.wp execOp
  simp only [ho, resolve, invoke, builtin, Sem.run_bind, Sem.run_pure, Result.andThen_ok, List.map_toArray, List.map_cons, List.map_nil, hs, hx, hr]
  exact h v' w' h2 h3

theorem src_of_ents {w : World} {v : Value} {es : List Ent} (h : EntsIn w v es) : Src w v es.length (eC es) := by
  obtain ⟨ao, cap, rfl, hc, ha⟩ := h
  match ao, hc, ha with
  | none, hc, ha =>
    have h0 : es = [] := by
      match es with
      | [] => rfl
      | e :: es => obtain ⟨b, off, hx, _⟩ := ha 0 e rfl; simp at hx
    subst h0
    exact .inl ⟨by rw [hc rfl]; rfl, rfl, rfl⟩
  | some ad, hc, ha =>
    refine .inr ⟨ad, cap, rfl, fun j u hj => ?_⟩
    have hl : j < es.length * 2 := by rw [← eC_length]; exact (List.getElem?_eq_some_iff.1 hj).1
    have hk : es[j / 2]? = some es[j / 2] := by simp
    obtain ⟨b, off, hx, h1, h2⟩ := ha (j / 2) _ hk
    have hx := Option.some.inj hx
    subst hx
    have hg := eC_get es (j / 2) _ hk
    have hadd : (⟨b, off, none⟩ : Addr).add j = ⟨b, off + j, none⟩ := by unfold Addr.add; split <;> simp_all
    rw [hadd]
    rcases Nat.mod_two_eq_zero_or_one j with h0 | h0
    · have e1 : j / 2 * 2 = j := by omega
      rw [e1] at hg h1
      rw [hj] at hg
      rw [h1]; exact hg.1.symm
    · have e1 : j / 2 * 2 + 1 = j := by omega
      rw [Nat.add_assoc, e1] at h2
      rw [e1] at hg
      rw [hj] at hg
      rw [h2]; exact hg.2.symm

def okE : List Ent → Int → Int → Bool
  | [], _, _ => true
  | e :: es, low, high => if e.1 < low ∨ high < e.1 ∨ 20 < (e.2.size : Int) then false else okE es e.1 high

theorem okE_step (es : List Ent) (k : Nat) (hk : k < es.length) (low high : Int) : okE (es.drop k) low high = if es[k].1 < low ∨ high < es[k].1 ∨ 20 < (es[k].2.size : Int) then false else okE (es.drop (k + 1)) es[k].1 high := by
  rw [List.drop_eq_getElem_cons hk]; rfl

theorem okE_bad {es : List Ent} {k : Nat} {hk : k < es.length} {low high : Int} (h : es[k].1 < low ∨ high < es[k].1 ∨ 20 < (es[k].2.size : Int)) : okE (es.drop k) low high = false := by rw [okE_step es k hk, if_pos h]
theorem okE_good {es : List Ent} {k : Nat} {hk : k < es.length} {low high : Int} (h : ¬ (es[k].1 < low ∨ high < es[k].1 ∨ 20 < (es[k].2.size : Int))) : okE (es.drop k) low high = okE (es.drop (k + 1)) es[k].1 high := by rw [okE_step es k hk, if_neg h]

end Go.Proofs.Yteiecbkfganhnaa
