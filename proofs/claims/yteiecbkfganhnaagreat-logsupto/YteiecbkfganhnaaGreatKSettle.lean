/- Plain facts on lists of entries and on worlds: no program is named here; sameEntries answers true at equal lists; Plain facts on entries and on this program's types; Leaves: copies of lists; The book: its cells, its rows, the lists that wait and those that are marked; keepEntries, keepTexts; reads: the lists that are marked read so; append onto an owned row: it grows in its place, or moves to a new block: what was owned stays owned; markEntries, markTexts; settles, looks of a book. -/
import Derived.WalkKit
import Derived.Deep.Draws
import Derived.Laws.AppendOwnNone
import Derived.Maps.AppendAt
import Derived.Test.YteiecbkfganhnaaGreatProg
import Derived.WalkSpells
import Derived.WalkLawsBesides
import Derived.Deep.QuietTactic
import Derived.BigQuiet
import Derived.Laws.StructEq
import Derived.KernelRfl
import Derived.Laws.BytesArg
import Derived.Deep.AppendLies
import Derived.Deep.RegionHeldLaw
import Derived.Deep.RegionLaw
import Derived.Deep.DeepCutAuto
import Derived.Deep.RegionHeld3

namespace Go.Proofs.YteiecbkfganhnaaGreat

open Go.RowKit

theorem hide {p : Prop} (h : p) : Hid p := h

theorem unhide {p : Prop} (h : Hid p) : p := h

abbrev Ent := Int × ByteArray

/-- The cells of entries. -/
def eC (es : List Ent) : List Value := es.flatMap fun e => [.int .i64 e.1, .string e.2]

theorem eC_cons (e : Ent) (es : List Ent) : eC (e :: es) = .int .i64 e.1 :: .string e.2 :: eC es := rfl

theorem eC_append (es fs : List Ent) : eC (es ++ fs) = eC es ++ eC fs := by simp [eC]

theorem eC_length (es : List Ent) : (eC es).length = es.length * 2 := by
  induction es with
  | nil => rfl
  | cons e es ih => simp only [eC_cons, List.length_cons, ih]; omega

theorem eC_get (es : List Ent) (k : Nat) (e : Ent) (h : es[k]? = some e) : (eC es)[k * 2]? = some (.int .i64 e.1) ∧ (eC es)[k * 2 + 1]? = some (.string e.2) := by
  induction es generalizing k with
  | nil => simp at h
  | cons x es ih =>
    cases k with
    | zero => simp only [List.getElem?_cons_zero, Option.some.injEq] at h; subst h; exact ⟨rfl, rfl⟩
    | succ k =>
      have := ih k (by simpa using h)
      rw [show (k + 1) * 2 = k * 2 + 1 + 1 by omega, eC_cons]
      simpa using this

/-- A slice value that reads as these entries (wherever it lies). -/
def EntsIn (w : World) (v : Value) (es : List Ent) : Prop :=
  ∃ ao cap, v = .slice ao es.length cap ∧ (ao = none → cap = 0) ∧ ∀ k e, es[k]? = some e → ∃ b off, ao = some ⟨b, off, none⟩ ∧ w.cell? ⟨b, off + k * 2, none⟩ = some (.int .i64 e.1) ∧ w.cell? ⟨b, off + k * 2 + 1, none⟩ = some (.string e.2)

/-- A slice value that reads as these texts. -/
def TextsIn (w : World) (v : Value) (ss : List ByteArray) : Prop :=
  ∃ ao cap, v = .slice ao ss.length cap ∧ (ao = none → cap = 0) ∧ ∀ k s, ss[k]? = some s → ∃ b off, ao = some ⟨b, off, none⟩ ∧ w.cell? ⟨b, off + k, none⟩ = some (.string s)

/-- The cells of texts. -/
abbrev tC (ss : List ByteArray) : List Value := ss.map Value.string

theorem add0 (g j : Nat) : (⟨g, 0, none⟩ : Addr).add j = ⟨g, j, none⟩ := by unfold Addr.add; split <;> simp_all

theorem ents_of_owns {w : World} {base e : Nat} {v : Value} {es : List Ent} (h : w.ownsRow base e 2 v es.length (eC es)) : EntsIn w v es := by
  rcases h.2 with ⟨rfl, h0⟩ | ⟨g, cap, cur, rfl, _, hg, _⟩
  · refine ⟨none, 0, by rw [h0], fun _ => rfl, fun k e he => ?_⟩
    have := List.eq_nil_of_length_eq_zero h0
    subst this
    simp at he
  · refine ⟨some ⟨g, 0, none⟩, cap, rfl, fun hx => by simp at hx, fun k e he => ⟨g, 0, rfl, ?_, ?_⟩⟩
    · have := h.cells (g := g) rfl (k * 2) _ (eC_get es k e he).1
      rw [add0] at this; simpa using this
    · have := h.cells (g := g) rfl (k * 2 + 1) _ (eC_get es k e he).2
      rw [add0] at this; simpa using this

theorem texts_of_owns {w : World} {base e : Nat} {v : Value} {ss : List ByteArray} (h : w.ownsRow base e 1 v ss.length (tC ss)) : TextsIn w v ss := by
  rcases h.2 with ⟨rfl, h0⟩ | ⟨g, cap, cur, rfl, _, hg, _⟩
  · refine ⟨none, 0, by rw [h0], fun _ => rfl, fun k e he => ?_⟩
    have := List.eq_nil_of_length_eq_zero h0
    subst this
    simp at he
  · refine ⟨some ⟨g, 0, none⟩, cap, rfl, fun hx => by simp at hx, fun k e he => ⟨g, 0, rfl, ?_⟩⟩
    have := h.cells (g := g) rfl k (.string e) (by simp [he])
    rw [add0] at this; simpa using this

theorem texts_drewN {w : World} {v : Value} {es : List ByteArray} (h : TextsIn w v es) (n : Nat) : TextsIn (w.drewN n) v es := h

theorem owns_base {w : World} {base base' e size n : Nat} {v : Value} {xs : List Value} (h : w.ownsRow base e size v n xs) (hb : base' ≤ base) : w.ownsRow base' e size v n xs := by
  refine ⟨h.1, ?_⟩
  rcases h.2 with h2 | ⟨g, cap, cur, hv, hg, r⟩
  · exact .inl h2
  · exact .inr ⟨g, cap, cur, hv, Nat.le_trans hb hg, r⟩

/-- What an owned row is of is kept where its block is. -/
theorem owns_kept {w w' : World} {base e size n : Nat} {v : Value} {xs : List Value} (h : w.ownsRow base e size v n xs) (hk : ∀ x, v.ownBlock = some x → w'.heap[x]? = w.heap[x]?) : w'.ownsRow base e size v n xs := by
  refine ⟨h.1, ?_⟩
  rcases h.2 with h2 | ⟨g, cap, cur, rfl, hg, hh, r⟩
  · exact .inl h2
  · exact .inr ⟨g, cap, cur, rfl, hg, by rw [hk g rfl]; exact hh, r⟩

theorem owns_lt {w : World} {base e size n : Nat} {v : Value} {xs : List Value} (h : w.ownsRow base e size v n xs) : ∀ x, v.ownBlock = some x → x < w.heap.size := fun x hx => (h.lt x hx).2

/-- Roles of blocks. -/
abbrev Tags := Nat → Nat × Nat

def Tag (tg : Tags) (v : Value) (T : Nat × Nat) : Prop := ∀ x, v.ownBlock = some x → tg x = T

theorem tag_nil (tg : Tags) (T : Nat × Nat) : Tag tg (.slice none 0 0) T := fun x hx => by simp [Value.ownBlock] at hx

/-- Between two worlds: the blocks whose role is in A may have turned, and their role; all other old ones have not. -/
structure Stp (A : Nat × Nat → Prop) (w : World) (tg : Tags) (w' : World) (tg' : Tags) : Prop where
  os : w'.os = w.os
  tape : w'.tape = w.tape
  output : w'.output = w.output
  size : w.heap.size ≤ w'.heap.size
  keep : ∀ k, k < w.heap.size → ¬ A (tg k) → w'.heap[k]? = w.heap[k]? ∧ tg' k = tg k

theorem Stp.refl (A : Nat × Nat → Prop) (w : World) (tg : Tags) : Stp A w tg w tg := ⟨rfl, rfl, rfl, Nat.le_refl _, fun _ _ _ => ⟨rfl, rfl⟩⟩

theorem Stp.trans {A : Nat × Nat → Prop} {a b c : World} {t u v : Tags} (h : Stp A a t b u) (k : Stp A b u c v) : Stp A a t c v :=
  ⟨k.os.trans h.os, k.tape.trans h.tape, k.output.trans h.output, Nat.le_trans h.size k.size, fun i hi hA => by
    have h1 := h.keep i hi hA
    have h2 := k.keep i (Nat.lt_of_lt_of_le hi h.size) (by rw [h1.2]; exact hA)
    exact ⟨h2.1.trans h1.1, h2.2.trans h1.2⟩⟩

theorem Stp.mono {A B : Nat × Nat → Prop} {a b : World} {t u : Tags} (h : Stp A a t b u) (hAB : ∀ x, A x → B x) : Stp B a t b u :=
  ⟨h.os, h.tape, h.output, h.size, fun k hk hB => h.keep k hk (fun hA => hB (hAB _ hA))⟩

theorem Stp.drewN {A : Nat × Nat → Prop} {a b : World} {t u : Tags} (h : Stp A a t b u) (m : Nat) : Stp A a t (b.drewN m) u := ⟨h.os, h.tape, h.output, h.size, h.keep⟩

/-- New blocks get one role; old ones keep theirs. -/
def newTag (n : Nat) (tg : Tags) (T : Nat × Nat) : Tags := fun k => if k < n then tg k else T

theorem newTag_old {n : Nat} {tg : Tags} {T : Nat × Nat} {k : Nat} (h : k < n) : newTag n tg T k = tg k := by simp [newTag, h]

theorem newTag_new {n : Nat} {tg : Tags} {T : Nat × Nat} {k : Nat} (h : n ≤ k) : newTag n tg T k = T := by simp [newTag]; omega

theorem Stp.ofBelow {A : Nat × Nat → Prop} {w w' : World} (h : Below w.heap.size w w') (tg : Tags) (T : Nat × Nat) : Stp A w tg w' (newTag w.heap.size tg T) :=
  ⟨h.os, h.tape, h.output, h.size, fun k hk _ => ⟨h.block k hk, newTag_old hk⟩⟩

/-- An owned row with its role. -/
def Own (w : World) (tg : Tags) (T : Nat × Nat) (e size : Nat) (v : Value) (n : Nat) (xs : List Value) : Prop := w.ownsRow 0 e size v n xs ∧ Tag tg v T

theorem Own.step {A : Nat × Nat → Prop} {w w' : World} {tg tg' : Tags} {T : Nat × Nat} {e size n : Nat} {v : Value} {xs : List Value} (h : Own w tg T e size v n xs) (hs : Stp A w tg w' tg') (hA : ¬ A T) : Own w' tg' T e size v n xs := by
  refine ⟨owns_kept h.1 fun x hx => (hs.keep x (owns_lt h.1 x hx) (by rw [h.2 x hx]; exact hA)).1, fun x hx => ?_⟩
  rw [(hs.keep x (owns_lt h.1 x hx) (by rw [h.2 x hx]; exact hA)).2]
  exact h.2 x hx

theorem Own.fresh {w w' : World} (tg : Tags) (T : Nat × Nat) {e size n : Nat} {v : Value} {xs : List Value} (h : w'.ownsRow w.heap.size e size v n xs) : Own w' (newTag w.heap.size tg T) T e size v n xs :=
  ⟨owns_base h (Nat.zero_le _), fun x hx => newTag_new (h.lt x hx).1⟩

theorem Own.nil (w : World) (tg : Tags) (T : Nat × Nat) (e size : Nat) : Own w tg T e size (.slice none 0 0) 0 [] := ⟨World.ownsRow_nil w 0 e size, tag_nil tg T⟩

/-- Behind an append onto an owned row. -/
theorem Own.appended {w w' : World} {tg : Tags} {T : Nat × Nat} {e size n m cap g : Nat} {v : Value} {xs ys : List Value} (h : Own w tg T e size v n xs) (hg : w.grownBy w' v.ownBlock)
    (ho : w'.ownsRow 0 e size (.slice (some ⟨g, 0, none⟩) m cap) m ys) (hat : v.ownBlock = some g ∨ g = w.heap.size) :
    Own w' (newTag w.heap.size tg T) T e size (.slice (some ⟨g, 0, none⟩) m cap) m ys ∧ Stp (fun U => U = T) w tg w' (newTag w.heap.size tg T) := by
  refine ⟨⟨ho, fun x hx => ?_⟩, ⟨hg.os, hg.tape, hg.output, hg.size, fun k hk hA => ⟨hg.block k hk (fun he => hA (h.2 k he.symm)), newTag_old hk⟩⟩⟩
  simp [Value.ownBlock] at hx
  subst hx
  rcases hat with hv | rfl
  · rw [newTag_old (owns_lt h.1 _ hv)]; exact h.2 _ hv
  · exact newTag_new (Nat.le_refl _)

theorem Stp.alloc {A : Nat × Nat → Prop} (w : World) (tg : Tags) (o : Obj) (T : Nat × Nat) : Stp A w tg (w.alloc o) (newTag w.heap.size tg T) :=
  Stp.ofBelow ((Below.refl _ _).alloc (Nat.le_refl _) o) tg T

theorem Stp.setCell {w : World} {tg : Tags} {T : Nat × Nat} {a : Addr} (h : tg a.block = T) (u : Value) : Stp (fun U => U = T) w tg (w.setCell a u) tg :=
  ⟨rfl, rfl, rfl, by simp [World.setCell], fun k _ hA => ⟨Below.heap_setCell _ _ _ _ (fun e => hA (by rw [e]; exact h)), rfl⟩⟩

theorem owns_form {w : World} {base e size n : Nat} {v : Value} {xs : List Value} (h : w.ownsRow base e size v n xs) : ∃ ao cap, v = .slice ao n cap := by
  rcases h.2 with ⟨rfl, rfl⟩ | ⟨g, cap, cur, rfl, _⟩
  · exact ⟨_, _, rfl⟩
  · exact ⟨_, _, rfl⟩

theorem Own.form {w : World} {tg : Tags} {T : Nat × Nat} {e size n : Nat} {v : Value} {xs : List Value} (h : Own w tg T e size v n xs) : ∃ ao cap, v = .slice ao n cap := owns_form h.1

/-- An append of what was laid in a new block. -/
theorem Own.pushed {w w1 : World} {tg : Tags} {T : Nat × Nat} {e size n m cap g : Nat} {v : Value} {xs ys : List Value} {o : Obj} (h : Own w tg T e size v n xs) (hg : (w.alloc o).grownBy w1 v.ownBlock)
    (ho : w1.ownsRow 0 e size (.slice (some ⟨g, 0, none⟩) m cap) m ys) (hat : v.ownBlock = some g ∨ g = w.heap.size + 1) :
    ∃ tg1, Own w1 tg1 T e size (.slice (some ⟨g, 0, none⟩) m cap) m ys ∧ Stp (fun U => U = T) w tg w1 tg1 := by
  have ha : Stp (fun U => U = T) w tg (w.alloc o) (newTag w.heap.size tg (0, 1)) := Stp.alloc w tg o (0, 1)
  have ho' : Own (w.alloc o) (newTag w.heap.size tg (0, 1)) T e size v n xs := h.step (A := fun _ => False) (Stp.alloc w tg o (0, 1)) (fun h => h)
  have hr := ho'.appended hg ho (by simpa using hat)
  exact ⟨_, hr.1, ha.trans hr.2⟩

theorem owns_below {w w' : World} {base e size n : Nat} {v : Value} {xs : List Value} (h : w.ownsRow base e size v n xs) (hb : Below w.heap.size w w') : w'.ownsRow base e size v n xs :=
  owns_kept h fun x hx => hb.block x (owns_lt h x hx)

theorem owns_belowD {w w' : World} {base e size n : Nat} {v : Value} {xs : List Value} (h : w.ownsRow base e size v n xs) (hb : Below w.drew.heap.size w.drew w') : w'.ownsRow base e size v n xs :=
  owns_kept h fun x hx => hb.block x (owns_lt h x hx)

theorem Below.undrew {B : Nat} {w w' : World} (hb : Below B w.drew w') : Below B w w' := ⟨hb.os, hb.tape, hb.output, hb.size, hb.block⟩

theorem cell_alloc {w : World} {a : Addr} {v : Value} (h : w.cell? a = some v) (o : Obj) : (w.alloc o).cell? a = some v := by
  exact (World.cell?_of_block (w := w) (Below.heap_alloc w o a.block (block_lt_of_cell h))).trans h

/-- A slice that reads as these cells, nil or not. -/
def Src (w : World) (sv : Value) (m : Nat) (news : List Value) : Prop :=
  (sv = .slice none 0 0 ∧ m = 0 ∧ news = []) ∨ ∃ ad c, sv = .slice (some ad) m c ∧ ∀ j u, news[j]? = some u → w.cell? (ad.add j) = some u

/-- append of all of a slice, nil or not, onto an owned row. -/
theorem wpList_append_src {P : Program} {w : World} {ops : Array Oper} {rest : List Oper} {o : Oper} {a : Act} {Q : Exit → Act → World → Prop} (hgd : o.guard = none) (s x : Operand) (t : TypeId)
    (ho : o.op = .call { callee := .builtin .append, args := #[s, x], argTypes := #[t, t] })
    (base : Nat) (e : TypeId) (i : TypeInfo) (z : Value) (size bytes : Nat) (ht : P.underlying t = some (.slice e)) (hi : P.info? e = some i) (hz : i.zero = some z)
    (hsize : i.size = size) (hby : i.bytes = bytes) (hzs : z.cells.size = size) (hsz : 0 < size)
    (v : Value) (n : Nat) (xs : List Value) (hs : a.eval s = v) (hown : w.ownsRow base e size v n xs)
    (sv : Value) (m : Nat) (news : List Value) (hx : a.eval x = sv) (hl : news.length = m * size) (hsrc : Src w sv m news) (h1 : ∀ u ∈ news, u.oneCell' = true)
    (h63 : n + m ≤ maxLen) (hbytes : (n + m) * bytes ≤ 140737488355328) (hbase : base ≤ w.heap.size)
    (h : ∀ v' w', w'.ownsRow base e size v' (n + m) (xs ++ news) → w.grownBy w' v.ownBlock → (v'.ownBlock = v.ownBlock ∨ v'.ownBlock = some w.heap.size) → wpList P ops Q rest (a.put o.dst v') w') :
    wpList P ops Q (o :: rest) a w := by
  rcases hsrc with ⟨rfl, rfl, rfl⟩ | ⟨ad, c, rfl, hnews⟩
  · refine wpList_append_own_none hgd s x t ho base e i size ht hi v n xs hs hown hx (h v w (by simpa using hown) ⟨rfl, rfl, rfl, Nat.le_refl _, fun _ _ _ => rfl⟩ (.inl rfl))
  · exact wpList_append_own_at w hgd s x t ho base e i z size bytes ht hi hz hsize hby hzs hsz v n xs hs hown ad m c news hx hl hnews h1 h63 hbytes hbase fun v' w' h2 h3 _ h5 => h v' w' h2 h3 h5

theorem src_of_owns {w : World} {base e size n : Nat} {v : Value} {xs : List Value} (h : w.ownsRow base e size v n xs) : Src w v n xs := by
  rcases h.2 with ⟨rfl, rfl⟩ | ⟨g, cap, cur, rfl, _⟩
  · exact .inl ⟨rfl, rfl, List.eq_nil_of_length_eq_zero (by simpa using h.1)⟩
  · exact .inr ⟨_, _, rfl, fun j u hj => h.cells (g := g) rfl j u hj⟩

theorem tC_one (ss : List ByteArray) : ∀ u ∈ tC ss, u.oneCell' = true := by
  intro u hu
  simp only [tC, List.mem_map] at hu
  obtain ⟨s, _, rfl⟩ := hu
  rfl

theorem own_elem {w : World} {base e n cap : Nat} {ao : Option Addr} {xs : List Value} {k : Nat} {v : Value} (h : w.ownsRow base e 1 (.slice ao n cap) n xs) (hk : xs[k]? = some v) :
    ∃ g, ao = some ⟨g, 0, none⟩ ∧ w.cell? ⟨g, k, none⟩ = some v := by
  rcases h.2 with ⟨_, rfl⟩ | ⟨g, cap', cur, hv, _⟩
  · have := h.1
    simp at this
    subst this
    simp at hk
  · obtain ⟨rfl, _⟩ : ao = some ⟨g, 0, none⟩ ∧ True := by simp at hv; exact ⟨hv.1, trivial⟩
    refine ⟨g, rfl, ?_⟩
    have := h.cells (g := g) rfl k v hk
    rwa [add0] at this

/-- A list that is nobody's to write any more. -/
def SeenE (w : World) (tg : Tags) (v : Value) (es : List Ent) : Prop := EntsIn w v es ∧ (es ≠ [] → Tag tg v (0, 0))

def SeenT (w : World) (tg : Tags) (v : Value) (es : List ByteArray) : Prop := TextsIn w v es ∧ (es ≠ [] → Tag tg v (0, 0))

theorem SeenE.step {A : Nat × Nat → Prop} {w w' : World} {tg tg' : Tags} {v : Value} {es : List Ent} (h : SeenE w tg v es) (hs : Stp A w tg w' tg') (hA : ¬ A (0, 0)) : SeenE w' tg' v es := by
  obtain ⟨⟨ao, cap, rfl, hc, he⟩, ht⟩ := h
  refine ⟨⟨ao, cap, rfl, hc, fun k e hk => ?_⟩, fun hne x hx => ?_⟩
  · obtain ⟨b, off, rfl, h1, h2⟩ := he k e hk
    have hb := (hs.keep b (block_lt_of_cell h1) (by rw [ht (by intro h0; subst h0; simp at hk) b rfl]; exact hA)).1
    exact ⟨b, off, rfl, (World.cell?_of_block (a := ⟨b, _, none⟩) hb).trans h1, (World.cell?_of_block (a := ⟨b, _, none⟩) hb).trans h2⟩
  · match es, hne, he with
    | e :: es, _, he =>
      obtain ⟨b, off, rfl, h1, h2⟩ := he 0 e rfl
      simp [Value.ownBlock] at hx
      subst hx
      rw [(hs.keep b (block_lt_of_cell h1) (by rw [ht (by simp) b rfl]; exact hA)).2]
      exact ht (by simp) b rfl

theorem SeenT.step {A : Nat × Nat → Prop} {w w' : World} {tg tg' : Tags} {v : Value} {es : List ByteArray} (h : SeenT w tg v es) (hs : Stp A w tg w' tg') (hA : ¬ A (0, 0)) : SeenT w' tg' v es := by
  obtain ⟨⟨ao, cap, rfl, hc, he⟩, ht⟩ := h
  refine ⟨⟨ao, cap, rfl, hc, fun k e hk => ?_⟩, fun hne x hx => ?_⟩
  · obtain ⟨b, off, rfl, h1⟩ := he k e hk
    have hb := (hs.keep b (block_lt_of_cell h1) (by rw [ht (by intro h0; subst h0; simp at hk) b rfl]; exact hA)).1
    exact ⟨b, off, rfl, (World.cell?_of_block (a := ⟨b, _, none⟩) hb).trans h1⟩
  · match es, hne, he with
    | e :: es, _, he =>
      obtain ⟨b, off, rfl, h1⟩ := he 0 e rfl
      simp [Value.ownBlock] at hx
      subst hx
      rw [(hs.keep b (block_lt_of_cell h1) (by rw [ht (by simp) b rfl]; exact hA)).2]
      exact ht (by simp) b rfl

theorem heap_under {w : World} {i : Nat} {x : Obj} (h : w.heap[i]? = some x) (o : Obj) : (w.alloc o).heap[i]? = some x :=
  (Below.heap_alloc w o i (Array.getElem?_eq_some_iff.1 h).1).trans h

theorem below_alloc (w : World) (o : Obj) : Below w.heap.size w (w.alloc o) := (Below.refl _ _).alloc (Nat.le_refl _) o

theorem below_trans {a b c : World} (h : Below a.heap.size a b) (k : Below b.heap.size b c) : Below a.heap.size a c := h.trans (k.mono h.size)

theorem ents_below {w w' : World} {v : Value} {es : List Ent} (h : EntsIn w v es) (hb : Below w.heap.size w w') : EntsIn w' v es := by
  obtain ⟨ao, cap, hv, hc, he⟩ := h
  refine ⟨ao, cap, hv, hc, fun k e hk => ?_⟩
  obtain ⟨b, off, ha, h1, h2⟩ := he k e hk
  exact ⟨b, off, ha, (hb.cell (p := ⟨b, _, none⟩) (block_lt_of_cell h1)).trans h1, (hb.cell (p := ⟨b, _, none⟩) (block_lt_of_cell h2)).trans h2⟩

theorem owns_set {w : World} {base e size n : Nat} {v : Value} {xs : List Value} (h : w.ownsRow base e size v n xs) {a : Addr} (ha : a.block < base) (u : Value) : (w.setCell a u).ownsRow base e size v n xs :=
  owns_kept h fun x hx => Below.heap_setCell _ _ _ _ (by have := (h.lt x hx).1; omega)

theorem size_alloc1 (w : World) (o : Obj) : (w.alloc o).heap.size = w.heap.size + 1 := by simp

theorem run_append_src {P : Program} (w : World) (base : Nat) (t ty e : TypeId) (i : TypeInfo) (z : Value) (size bytes : Nat) (ht : P.underlying t = some (.slice e)) (hi : P.info? e = some i) (hz : i.zero = some z)
    (hsize : i.size = size) (hby : i.bytes = bytes) (hzs : z.cells.size = size) (hsz : 0 < size)
    (v : Value) (n : Nat) (xs : List Value) (hown : w.ownsRow base e size v n xs)
    (sv : Value) (m : Nat) (news : List Value) (hl : news.length = m * size) (hsrc : Src w sv m news) (h1 : ∀ u ∈ news, u.oneCell' = true)
    (h63 : n + m ≤ maxLen) (hbytes : (n + m) * bytes ≤ 140737488355328) (hbase : base ≤ w.heap.size) :
    ∃ v' w', (Builtin.append_ #[t, t] ty #[v, sv]).run P w = .ok v' w' ∧ w'.ownsRow base e size v' (n + m) (xs ++ news) ∧ w.grownBy w' v.ownBlock := by
  rcases hsrc with ⟨rfl, rfl, rfl⟩ | ⟨ad, c, rfl, hnews⟩
  · exact ⟨v, w, run_append_owned_none (P := P) (w := w) base t ty e i size ht hi v n xs hown, by simpa using hown, ⟨rfl, rfl, rfl, Nat.le_refl _, fun _ _ _ => rfl⟩⟩
  · obtain ⟨v', w', h2, h3, h4, _⟩ := run_append_own_at (P := P) w base t ty e i z size bytes ht hi hz hsize hby hzs hsz v n xs hown ad m c news hl hnews h1 h63 hbytes hbase
    exact ⟨v', w', h2, h3, h4⟩

theorem step_append_src {P : Program} {w : World} {ops : Array Oper} {o : Oper} {a : Act} {K : Act → World → Prop} {Q : Exit → Act → World → Prop} {E : Prop} (hgd : o.guard = none) (s x : Operand) (t : TypeId)
    (ho : o.op = .call { callee := .builtin .append, args := #[s, x], argTypes := #[t, t] })
    (base : Nat) (e : TypeId) (i : TypeInfo) (z : Value) (size bytes : Nat) (ht : P.underlying t = some (.slice e)) (hi : P.info? e = some i) (hz : i.zero = some z)
    (hsize : i.size = size) (hby : i.bytes = bytes) (hzs : z.cells.size = size) (hsz : 0 < size)
    (v : Value) (n : Nat) (xs : List Value) (hs : a.eval s = v) (hown : w.ownsRow base e size v n xs)
    (sv : Value) (m : Nat) (news : List Value) (hx : a.eval x = sv) (hl : news.length = m * size) (hsrc : Src w sv m news) (h1 : ∀ u ∈ news, u.oneCell' = true)
    (h63 : n + m ≤ maxLen) (hbytes : (n + m) * bytes ≤ 140737488355328) (hbase : base ≤ w.heap.size)
    (h : ∀ v' w', w'.ownsRow base e size v' (n + m) (xs ++ news) → w.grownBy w' v.ownBlock → K (a.put o.dst v') w') :
    if Region.wanted o (yielded ops a.tmps) = true then Oper.wp P o a w K Q else E := by
  have hw : Region.wanted o (yielded ops a.tmps) = true := by simp [Region.wanted, hgd]
  rw [if_pos hw]
  obtain ⟨v', w', hr, h2, h3⟩ := run_append_src (P := P) w base t o.type e i z size bytes ht hi hz hsize hby hzs hsz v n xs hown sv m news hl hsrc h1 h63 hbytes hbase
  unfold Oper.wp execOp
  simp only [ho, resolve, invoke, builtin, Sem.run_bind, Sem.run_pure, Result.andThen_ok, List.map_toArray, List.map_cons, List.map_nil, hs, hx, hr]
  exact h v' w' h2 h3

theorem src_of_ents {w : World} {v : Value} {es : List Ent} (h : EntsIn w v es) : Src w v es.length (eC es) := by
  obtain ⟨ao, cap, rfl, hc, ha⟩ := h
  match ao, hc, ha with
  | none, hc, ha =>
    have h0 : es = [] := by
      match es with
      | [] => rfl
      | e :: es => obtain ⟨b, off, hx, _⟩ := ha 0 e rfl; simp at hx
    subst h0
    exact .inl ⟨by rw [hc rfl]; rfl, rfl, rfl⟩
  | some ad, hc, ha =>
    refine .inr ⟨ad, cap, rfl, fun j u hj => ?_⟩
    have hl : j < es.length * 2 := by rw [← eC_length]; exact (List.getElem?_eq_some_iff.1 hj).1
    have hk : es[j / 2]? = some es[j / 2] := by simp
    obtain ⟨b, off, hx, h1, h2⟩ := ha (j / 2) _ hk
    have hx := Option.some.inj hx
    subst hx
    have hg := eC_get es (j / 2) _ hk
    have hadd : (⟨b, off, none⟩ : Addr).add j = ⟨b, off + j, none⟩ := by unfold Addr.add; split <;> simp_all
    rw [hadd]
    rcases Nat.mod_two_eq_zero_or_one j with h0 | h0
    · have e1 : j / 2 * 2 = j := by omega
      rw [e1] at hg h1
      rw [hj] at hg
      rw [h1]; exact hg.1.symm
    · have e1 : j / 2 * 2 + 1 = j := by omega
      rw [Nat.add_assoc, e1] at h2
      rw [e1] at hg
      rw [hj] at hg
      rw [h2]; exact hg.2.symm

def okE : List Ent → Int → Int → Bool
  | [], _, _ => true
  | e :: es, low, high => if e.1 < low ∨ high < e.1 ∨ 20 < (e.2.size : Int) then false else okE es e.1 high

theorem okE_step (es : List Ent) (k : Nat) (hk : k < es.length) (low high : Int) : okE (es.drop k) low high = if es[k].1 < low ∨ high < es[k].1 ∨ 20 < (es[k].2.size : Int) then false else okE (es.drop (k + 1)) es[k].1 high := by
  rw [List.drop_eq_getElem_cons hk]; rfl

theorem okE_bad {es : List Ent} {k : Nat} {hk : k < es.length} {low high : Int} (h : es[k].1 < low ∨ high < es[k].1 ∨ 20 < (es[k].2.size : Int)) : okE (es.drop k) low high = false := by rw [okE_step es k hk, if_pos h]

theorem okE_good {es : List Ent} {k : Nat} {hk : k < es.length} {low high : Int} (h : ¬ (es[k].1 < low ∨ high < es[k].1 ∨ 20 < (es[k].2.size : Int))) : okE (es.drop k) low high = okE (es.drop (k + 1)) es[k].1 high := by rw [okE_step es k hk, if_neg h]

end Go.Proofs.YteiecbkfganhnaaGreat

namespace Go.Proofs.YteiecbkfganhnaaGreat

open Go.RowKit

theorem neq_entry (a c : Int) (s r : ByteArray) (w : World) : (binOp .neq 66 (.agg #[.int .i64 a, .string s]) (.agg #[.int .i64 c, .string r])).run Tryz.prog w = .ok (.bool (!(a == c && s.toList == r.toList))) w := by
  have u3 := Tryz.underlying3
  have u9 := Tryz.underlying9
  have hS : Tryz.prog.underlying 66 = some (.struct (Tryz.prog.fieldsOf 66)) := by kernel_rfl
  have hp : Tryz.prog.stoodInHeld 66 = false := by kernel_rfl
  rw [run_neq_struct, show (10000 : Nat) = 9999 + 1 from rfl, run_equalIn_agg w 9999 66 _ _ hS hp]
  simp only [Program.fieldsOf, Tryz.underlying66]
  go_simp
  by_cases h1 : a = c <;> by_cases h2 : s.toList = r.toList <;> simp [h1, h2]

theorem eql_entry (a c : Int) (s r : ByteArray) (w : World) : (binOp .eql 66 (.agg #[.int .i64 a, .string s]) (.agg #[.int .i64 c, .string r])).run Tryz.prog w = .ok (.bool (a == c && s.toList == r.toList)) w := by
  have u3 := Tryz.underlying3
  have u9 := Tryz.underlying9
  have hS : Tryz.prog.underlying 66 = some (.struct (Tryz.prog.fieldsOf 66)) := by kernel_rfl
  have hp : Tryz.prog.stoodInHeld 66 = false := by kernel_rfl
  rw [run_eql_struct, show (10000 : Nat) = 9999 + 1 from rfl, run_equalIn_agg w 9999 66 _ _ hS hp]
  simp only [Program.fieldsOf, Tryz.underlying66]
  go_simp
  by_cases h1 : a = c <;> by_cases h2 : s.toList = r.toList <;> simp [h1, h2]

set_option maxHeartbeats 400000 in
theorem sameEntries_eq (va vb : Value) (es : List Ent) (w : World) (hn : es.length < 4611686018427387904) (ha : EntsIn w va es) (hb : EntsIn w vb es) :
    Calls Tryz.prog 87 #[va, vb] w fun e w' => e = .returned (.bool true) ∧ ∃ m, w' = w.drewN m := by
  obtain ⟨ao, cap, rfl, _, ha⟩ := ha
  obtain ⟨bo, cap2, rfl, _, hb⟩ := hb
  have hq := neq_entry
  go_enter Tryz.func87, Tryz.ntmps87
  go_wp2
  go_loopw [5] (fun i wr => ∃ k : Nat, k ≤ es.length ∧ i = .int .i64 k ∧ ∃ m, wr = w.drewN m) (fun i _ => es.length - (intOf i).toNat)
  case atStart => exact ⟨0, Nat.zero_le _, rfl, 0, rfl⟩
  case round =>
    obtain ⟨k, hk, rfl, m, rfl⟩ := hrel
    by_cases hlt : k < es.length
    · have he : es[k]? = some es[k] := by simp [hlt]
      obtain ⟨b, off, rfl, a0, a1⟩ := ha k _ he
      obtain ⟨b2, off2, rfl, a2, a3⟩ := hb k _ he
      have i1 : (0 : Int) ≤ (k : Int) := by omega
      have i2 : (k : Int) < (es.length : Int) := by omega
      clear ha hb he
      generalize es[k].1 = t at *
      generalize es[k].2 = s at *
      go_wp2
      go_quiet (fail)
      go_wp2
      go_roundw
      case rel => exact ⟨k + 1, by omega, by go_num, _, rfl⟩
      case measure => simp [intOf]; omega
    · go_wp2
      go_ret
      exact ⟨rfl, m, rfl⟩

end Go.Proofs.YteiecbkfganhnaaGreat

namespace Go.Proofs.YteiecbkfganhnaaGreat

open Go.RowKit

theorem infoEntry : (Tryz.prog.info? 66).map (fun i => (i.zero, i.size, i.bytes)) = some (some (.agg #[.int .i64 0, .string ⟨#[]⟩]), 2, 24) := by kernel_rfl

theorem eC_one (es : List Ent) : ∀ u ∈ eC es, u.oneCell' = true := by
  intro u hu
  simp only [eC, List.mem_flatMap] at hu
  obtain ⟨e, _, h⟩ := hu
  simp at h
  rcases h with rfl | rfl <;> rfl

end Go.Proofs.YteiecbkfganhnaaGreat

namespace Go.Proofs.YteiecbkfganhnaaGreat

open Go.RowKit

theorem ents_cells {w : World} {b off : Nat} {es : List Ent} (h : ∀ k e, es[k]? = some e → w.cell? ⟨b, off + k * 2, none⟩ = some (.int .i64 e.1) ∧ w.cell? ⟨b, off + k * 2 + 1, none⟩ = some (.string e.2)) :
    ∀ j u, (eC es)[j]? = some u → w.cell? ((⟨b, off, none⟩ : Addr).add j) = some u := by
  intro j u hj
  have hl : j < es.length * 2 := by rw [← eC_length]; exact (List.getElem?_eq_some_iff.1 hj).1
  have hk : es[j / 2]? = some es[j / 2] := by simp
  have hg := eC_get es (j / 2) _ hk
  have hc := h (j / 2) _ hk
  have ha : (⟨b, off, none⟩ : Addr).add j = ⟨b, off + j, none⟩ := by unfold Addr.add; split <;> simp_all
  rw [ha]
  rcases Nat.mod_two_eq_zero_or_one j with h0 | h0
  · have e1 : j / 2 * 2 = j := by omega
    rw [e1] at hg hc
    rw [hj] at hg
    rw [hc.1]; exact hg.1.symm
  · have e1 : j / 2 * 2 + 1 = j := by omega
    rw [Nat.add_assoc, e1] at hc
    rw [e1] at hg
    rw [hj] at hg
    rw [hc.2]; exact hg.2.symm

set_option maxHeartbeats 400000 in
theorem copiedEntries_any (v : Value) (es : List Ent) (w : World) (hn : es.length * 24 ≤ 140737488355328) (h : EntsIn w v es) :
    Calls Tryz.prog 91 #[v] w fun e w' => ∃ v', e = .returned v' ∧ w'.ownsRow w.heap.size 66 2 v' es.length (eC es) ∧ Below w.heap.size w w' := by
  obtain ⟨ao, cap, rfl, hc, ha⟩ := h
  obtain ⟨i0, hi, hz0, hz1, hz2⟩ := info_parts infoEntry
  have HA := hide ha
  clear ha
  have hown := World.ownsRow_nil w w.heap.size 66 2
  match ao, hc, HA with
  | none, hc, HA =>
    have h0 : es = [] := by
      match es with
      | [] => rfl
      | e :: es => obtain ⟨b, off, hx, _⟩ := (unhide HA) 0 e rfl; simp at hx
    subst h0
    have hc := hc rfl
    subst hc
    go_enter Tryz.func91, Tryz.ntmps91
    go_wp2_with (at_builtin; refine wpList_append_own_none rfl _ _ 22 rfl w.heap.size 66 i0 2 Tryz.underlying22 hi (.slice none 0 0) 0 [] rfl hown rfl ?_)
    go_ret
    exact ⟨_, rfl, hown, Below.refl _ _⟩
  | some ad, hc, HA =>
    have hnews : ∀ j u, (eC es)[j]? = some u → w.cell? (ad.add j) = some u := by
      intro j u hj
      have hl : j < es.length * 2 := by rw [← eC_length]; exact (List.getElem?_eq_some_iff.1 hj).1
      obtain ⟨b, off, hx, _⟩ := (unhide HA) 0 es[0] (by simp)
      have hx := Option.some.inj hx
      subst hx
      exact ents_cells (fun k e he => by obtain ⟨b', off', hx', h1, h2⟩ := (unhide HA) k e he; simp at hx'; obtain ⟨rfl, rfl⟩ := hx'; exact ⟨h1, h2⟩) j u hj
    have HN := hide hnews
    clear hnews
    go_enter Tryz.func91, Tryz.ntmps91
    go_wp2_with (at_builtin; refine wpList_append_own _ rfl _ _ 22 rfl w.heap.size 66 i0 _ 2 24 Tryz.underlying22 hi hz0 hz1 hz2 rfl (by decide) (.slice none 0 0) 0 [] rfl hown ad es.length cap (eC es) rfl (eC_length es) (unhide HN) (eC_one es) (by unfold maxLen; omega) (by omega) (Nat.le_refl _) ?_)
    intro v' w1 hown' hgrow _
    have hb : Below w.heap.size w w1 := (Below.refl _ _).grown hgrow (Nat.le_refl _) (by intro k hk; simp [Value.ownBlock] at hk)
    clear hown hgrow
    go_wp2
    go_ret
    exact ⟨_, rfl, hown', hb⟩

set_option maxHeartbeats 400000 in
theorem refEntries_any (v : Value) (es : List Ent) (w : World) (hn : es.length * 24 ≤ 140737488355328) (h : EntsIn w v es) :
    Calls Tryz.prog 90 #[v] w fun e w' => ∃ v', e = .returned v' ∧ w'.ownsRow w.heap.size 66 2 v' es.length (eC es) ∧ Below w.heap.size w w' := by
  obtain ⟨ao, cap, rfl, hc, ha⟩ := h
  obtain ⟨i0, hi, hz0, hz1, hz2⟩ := info_parts infoEntry
  have HA := hide ha
  clear ha
  have hown := World.ownsRow_nil w w.heap.size 66 2
  match ao, hc, HA with
  | none, hc, HA =>
    have h0 : es = [] := by
      match es with
      | [] => rfl
      | e :: es => obtain ⟨b, off, hx, _⟩ := (unhide HA) 0 e rfl; simp at hx
    subst h0
    have hc := hc rfl
    subst hc
    go_enter Tryz.func90, Tryz.ntmps90
    go_wp2_with (at_builtin; refine wpList_append_own_none rfl _ _ 22 rfl w.heap.size 66 i0 2 Tryz.underlying22 hi (.slice none 0 0) 0 [] rfl hown rfl ?_)
    go_ret
    exact ⟨_, rfl, hown, Below.refl _ _⟩
  | some ad, hc, HA =>
    have hnews : ∀ j u, (eC es)[j]? = some u → w.cell? (ad.add j) = some u := by
      intro j u hj
      have hl : j < es.length * 2 := by rw [← eC_length]; exact (List.getElem?_eq_some_iff.1 hj).1
      obtain ⟨b, off, hx, _⟩ := (unhide HA) 0 es[0] (by simp)
      have hx := Option.some.inj hx
      subst hx
      exact ents_cells (fun k e he => by obtain ⟨b', off', hx', h1, h2⟩ := (unhide HA) k e he; simp at hx'; obtain ⟨rfl, rfl⟩ := hx'; exact ⟨h1, h2⟩) j u hj
    have HN := hide hnews
    clear hnews
    go_enter Tryz.func90, Tryz.ntmps90
    go_wp2_with (at_builtin; refine wpList_append_own _ rfl _ _ 22 rfl w.heap.size 66 i0 _ 2 24 Tryz.underlying22 hi hz0 hz1 hz2 rfl (by decide) (.slice none 0 0) 0 [] rfl hown ad es.length cap (eC es) rfl (eC_length es) (unhide HN) (eC_one es) (by unfold maxLen; omega) (by omega) (Nat.le_refl _) ?_)
    intro v' w1 hown' hgrow _
    have hb : Below w.heap.size w w1 := (Below.refl _ _).grown hgrow (Nat.le_refl _) (by intro k hk; simp [Value.ownBlock] at hk)
    clear hown hgrow
    go_wp2
    go_ret
    exact ⟨_, rfl, hown', hb⟩

set_option maxHeartbeats 400000 in
theorem sameTexts_eq (va vb : Value) (es : List ByteArray) (w : World) (hn : es.length < 4611686018427387904) (ha : TextsIn w va es) (hb : TextsIn w vb es) :
    Calls Tryz.prog 49 #[va, vb] w fun e w' => e = .returned (.bool true) ∧ ∃ m, w' = w.drewN m := by
  obtain ⟨ao, cap, rfl, _, ha⟩ := ha
  obtain ⟨bo, cap2, rfl, _, hb⟩ := hb
  go_enter Tryz.func49, Tryz.ntmps49
  go_wp2
  go_loopw [5] (fun i wr => ∃ k : Nat, k ≤ es.length ∧ i = .int .i64 k ∧ ∃ m, wr = w.drewN m) (fun i _ => es.length - (intOf i).toNat)
  case atStart => exact ⟨0, Nat.zero_le _, rfl, 0, rfl⟩
  case round =>
    obtain ⟨k, hk, rfl, m, rfl⟩ := hrel
    by_cases hlt : k < es.length
    · have he : es[k]? = some es[k] := by simp [hlt]
      obtain ⟨b, off, rfl, a0⟩ := ha k _ he
      obtain ⟨b2, off2, rfl, a2⟩ := hb k _ he
      have i1 : (0 : Int) ≤ (k : Int) := by omega
      have i2 : (k : Int) < (es.length : Int) := by omega
      clear ha hb he
      generalize es[k] = t at *
      go_wp2
      go_quiet (fail)
      go_wp2
      go_roundw
      case rel => exact ⟨k + 1, by omega, by go_num, _, rfl⟩
      case measure => simp [intOf]; omega
    · go_wp2
      go_ret
      exact ⟨rfl, m, rfl⟩

/-- The k-th mark of texts. -/
def txt (k : Nat) : ByteArray := Go.strOfNums [63, (k : Int) % 256, (k : Int) / 256 % 256]

theorem conv_text (w : World) (k : Nat) : (convert 123 9 (.slice (some ⟨w.heap.size, 0, none⟩) 3 3)).run Tryz.prog (w.alloc (.cells #[.int .u8 63, .int .u8 ((k : Int) % 256), .int .u8 ((k : Int) / 256 % 256)] 5)) = .ok (.string (txt k)) (w.alloc (.cells #[.int .u8 63, .int .u8 ((k : Int) % 256), .int .u8 ((k : Int) / 256 % 256)] 5)) := by
  refine run_convert_bytes_arg _ 123 5 Tryz.underlying123 Tryz.underlying5 w.heap.size 0 3 3 [63, (k : Int) % 256, (k : Int) / 256 % 256] rfl ?_ 9 Tryz.underlying9
  intro i hi
  rw [cell_of_row _ w.heap.size (0 + i) _ _ _ (heap_alloc_new w _)]
  match i, hi with
  | 0, _ => rfl
  | 1, _ => rfl
  | 2, _ => rfl

set_option maxRecDepth 100000 in
set_option maxHeartbeats 400000 in
theorem text_any (k : Nat) (w : World) (hk : k < 1000000000000) :
    Calls Tryz.prog 88 #[.int .i64 k] w fun e w' => e = .returned (.string (txt k)) ∧ Below w.heap.size w w' := by
  have hc := conv_text w k
  go_enter Tryz.func88, Tryz.ntmps88
  go_wp2
  go_ret
  exact ⟨rfl, (Below.refl _ _).alloc (Nat.le_refl _) _⟩

theorem text_at (q : Int) (k : Nat) (w : World) (hk : k < 1000000000000) (hq : q = (k : Int)) : Calls Tryz.prog 88 #[.int .i64 q] w fun e w' => e = .returned (.string (txt k)) ∧ Below w.heap.size w w' := by
  subst hq
  exact text_any k w hk

end Go.Proofs.YteiecbkfganhnaaGreat

namespace Go.Proofs.YteiecbkfganhnaaGreat

open Go.RowKit

/-- What the nine cells of a book hold. -/
structure BV where
  e : Value
  m : Value
  t : Value
  we : Value
  re : Value
  wm : Value
  rm : Value
  wt : Value
  rt : Value

/-- The block of a game: four cells, and the book's nine. -/
def GameBlk (w : World) (gb : Nat) (c0 c1 c2 c3 : Value) (b : BV) : Prop :=
  w.heap[gb]? = some (.cells #[c0, c1, c2, c3, b.e, b.m, b.t, b.we, b.re, b.wm, b.rm, b.wt, b.rt] 53 (0, 0))

abbrev tG (i : Nat) : Nat × Nat := (20 * i + 1, 0)

abbrev tE (i : Nat) : Nat × Nat := (20 * i + 2, 0)

abbrev tT (i : Nat) : Nat × Nat := (20 * i + 3, 0)

abbrev tWE (i : Nat) : Nat × Nat := (20 * i + 4, 0)

abbrev tRE (i : Nat) : Nat × Nat := (20 * i + 5, 0)

abbrev tWT (i : Nat) : Nat × Nat := (20 * i + 6, 0)

abbrev tRT (i : Nat) : Nat × Nat := (20 * i + 7, 0)

abbrev tLE (i k : Nat) : Nat × Nat := (20 * i + 10, k)

abbrev tLT (i k : Nat) : Nat × Nat := (20 * i + 11, k)

/-- The mark of the entries of a group. -/
abbrev mkE (q : Nat) : Ent := (-1 - (q : Int), ⟨#[]⟩)

/-- Lists that wait: beside each what it was. -/
structure WaitE (i : Nat) (w : World) (tg : Tags) (we re : Value) (l : List (List Ent)) : Prop where
  rows : ∃ xs ys, Own w tg (tWE i) 22 1 we l.length xs ∧ Own w tg (tRE i) 22 1 re l.length ys ∧
    ∀ k es, l[k]? = some es → es.length ≤ 1000000 ∧ ∃ v r, xs[k]? = some v ∧ ys[k]? = some r ∧ Own w tg (tLE i k) 66 2 v es.length (eC es) ∧ Own w tg (0, 0) 66 2 r es.length (eC es)

structure WaitT (i : Nat) (w : World) (tg : Tags) (wt rt : Value) (l : List (List ByteArray)) : Prop where
  rows : ∃ xs ys, Own w tg (tWT i) 99 1 wt l.length xs ∧ Own w tg (tRT i) 99 1 rt l.length ys ∧
    ∀ k es, l[k]? = some es → es.length ≤ 1000000 ∧ ∃ v r, xs[k]? = some v ∧ ys[k]? = some r ∧ Own w tg (tLT i k) 9 1 v es.length (tC es) ∧ Own w tg (0, 0) 9 1 r es.length (tC es)

/-- Lists that are marked: four a group. -/
structure MarkE (i : Nat) (w : World) (tg : Tags) (e : Value) (n : Nat) : Prop where
  rows : ∃ xs, Own w tg (tE i) 22 1 e (4 * n) xs ∧
    ∀ k v, xs[k]? = some v → ∃ m, m ≤ 1000003 ∧ SeenE w tg v (List.replicate m (mkE (k / 4)))

structure MarkT (i : Nat) (w : World) (tg : Tags) (t : Value) (n : Nat) : Prop where
  rows : ∃ xs, Own w tg (tT i) 99 1 t (4 * n) xs ∧
    ∀ k v, xs[k]? = some v → ∃ m, m ≤ 1000003 ∧ SeenT w tg v (List.replicate m (txt (k / 4)))

theorem WaitE.step {i : Nat} {w w' : World} {tg tg' : Tags} {we re : Value} {l : List (List Ent)} {A : Nat × Nat → Prop} (h : WaitE i w tg we re l) (hs : Stp A w tg w' tg')
    (h1 : ¬ A (tWE i)) (h2 : ¬ A (tRE i)) (h3 : ∀ k, ¬ A (tLE i k)) (h4 : ¬ A (0, 0)) : WaitE i w' tg' we re l := by
  obtain ⟨xs, ys, hx, hy, hl⟩ := h.rows
  refine ⟨xs, ys, hx.step hs h1, hy.step hs h2, fun k es he => ?_⟩
  obtain ⟨hb, v, r, hv, hr, ho, hp⟩ := hl k es he
  exact ⟨hb, v, r, hv, hr, ho.step hs (h3 k), hp.step hs h4⟩

theorem WaitT.step {i : Nat} {w w' : World} {tg tg' : Tags} {we re : Value} {l : List (List ByteArray)} {A : Nat × Nat → Prop} (h : WaitT i w tg we re l) (hs : Stp A w tg w' tg')
    (h1 : ¬ A (tWT i)) (h2 : ¬ A (tRT i)) (h3 : ∀ k, ¬ A (tLT i k)) (h4 : ¬ A (0, 0)) : WaitT i w' tg' we re l := by
  obtain ⟨xs, ys, hx, hy, hl⟩ := h.rows
  refine ⟨xs, ys, hx.step hs h1, hy.step hs h2, fun k es he => ?_⟩
  obtain ⟨hb, v, r, hv, hr, ho, hp⟩ := hl k es he
  exact ⟨hb, v, r, hv, hr, ho.step hs (h3 k), hp.step hs h4⟩

theorem MarkE.step {i : Nat} {w w' : World} {tg tg' : Tags} {e : Value} {n : Nat} {A : Nat × Nat → Prop} (h : MarkE i w tg e n) (hs : Stp A w tg w' tg') (h1 : ¬ A (tE i)) (h4 : ¬ A (0, 0)) : MarkE i w' tg' e n := by
  obtain ⟨xs, hx, hl⟩ := h.rows
  refine ⟨xs, hx.step hs h1, fun k v hv => ?_⟩
  obtain ⟨m, hm, ho⟩ := hl k v hv
  exact ⟨m, hm, ho.step hs h4⟩

theorem MarkT.step {i : Nat} {w w' : World} {tg tg' : Tags} {e : Value} {n : Nat} {A : Nat × Nat → Prop} (h : MarkT i w tg e n) (hs : Stp A w tg w' tg') (h1 : ¬ A (tT i)) (h4 : ¬ A (0, 0)) : MarkT i w' tg' e n := by
  obtain ⟨xs, hx, hl⟩ := h.rows
  refine ⟨xs, hx.step hs h1, fun k v hv => ?_⟩
  obtain ⟨m, hm, ho⟩ := hl k v hv
  exact ⟨m, hm, ho.step hs h4⟩

theorem GameBlk.free {w : World} {gb : Nat} {c0 c1 c2 c3 : Value} {b : BV} (h : GameBlk w gb c0 c1 c2 c3 b) (o : Nat) : w.frozen? ⟨gb, o, none⟩ = false := frozen_of_row w gb o _ _ h

theorem GameBlk.lt {w : World} {gb : Nat} {c0 c1 c2 c3 : Value} {b : BV} (h : GameBlk w gb c0 c1 c2 c3 b) : gb < w.heap.size := (Array.getElem?_eq_some_iff.1 h).1

/-- A store into one of the nine. -/
theorem GameBlk.set {w : World} {gb : Nat} {c0 c1 c2 c3 : Value} {b : BV} (h : GameBlk w gb c0 c1 c2 c3 b) (o : Nat) (v : Value) :
    (w.setCell ⟨gb, o, none⟩ v).heap[gb]? = some (.cells (#[c0, c1, c2, c3, b.e, b.m, b.t, b.we, b.re, b.wm, b.rm, b.wt, b.rt].setIfInBounds o v) 53 (0, 0)) := heap_setCell_same w gb o _ _ v h

theorem GameBlk.step {A : Nat × Nat → Prop} {i : Nat} {w w' : World} {tg tg' : Tags} {gb : Nat} {c0 c1 c2 c3 : Value} {b : BV} (h : GameBlk w gb c0 c1 c2 c3 b) (hg : tg gb = tG i) (hs : Stp A w tg w' tg') (hA : ¬ A (tG i)) : GameBlk w' gb c0 c1 c2 c3 b ∧ tg' gb = tG i := by
  have hk := hs.keep gb h.lt (by rw [hg]; exact hA)
  exact ⟨hk.1.trans h, hk.2.trans hg⟩

theorem GameBlk.setWE {w : World} {gb : Nat} {c0 c1 c2 c3 : Value} {b : BV} (h : GameBlk w gb c0 c1 c2 c3 b) (v : Value) : GameBlk (w.setCell ⟨gb, 7, none⟩ v) gb c0 c1 c2 c3 { b with we := v } := h.set 7 v

theorem GameBlk.setRE {w : World} {gb : Nat} {c0 c1 c2 c3 : Value} {b : BV} (h : GameBlk w gb c0 c1 c2 c3 b) (v : Value) : GameBlk (w.setCell ⟨gb, 8, none⟩ v) gb c0 c1 c2 c3 { b with re := v } := h.set 8 v

theorem GameBlk.setWT {w : World} {gb : Nat} {c0 c1 c2 c3 : Value} {b : BV} (h : GameBlk w gb c0 c1 c2 c3 b) (v : Value) : GameBlk (w.setCell ⟨gb, 11, none⟩ v) gb c0 c1 c2 c3 { b with wt := v } := h.set 11 v

theorem GameBlk.setRT {w : World} {gb : Nat} {c0 c1 c2 c3 : Value} {b : BV} (h : GameBlk w gb c0 c1 c2 c3 b) (v : Value) : GameBlk (w.setCell ⟨gb, 12, none⟩ v) gb c0 c1 c2 c3 { b with rt := v } := h.set 12 v

theorem GameBlk.setE {w : World} {gb : Nat} {c0 c1 c2 c3 : Value} {b : BV} (h : GameBlk w gb c0 c1 c2 c3 b) (v : Value) : GameBlk (w.setCell ⟨gb, 4, none⟩ v) gb c0 c1 c2 c3 { b with e := v } := h.set 4 v

theorem GameBlk.setT {w : World} {gb : Nat} {c0 c1 c2 c3 : Value} {b : BV} (h : GameBlk w gb c0 c1 c2 c3 b) (v : Value) : GameBlk (w.setCell ⟨gb, 6, none⟩ v) gb c0 c1 c2 c3 { b with t := v } := h.set 6 v

theorem GameBlk.c0 {w : World} {gb : Nat} {c0 c1 c2 c3 : Value} {b : BV} (h : GameBlk w gb c0 c1 c2 c3 b) : w.cell? ⟨gb, 0, none⟩ = some c0 := by rw [cell_of_row w gb _ _ _ _ h]; rfl

theorem GameBlk.c1 {w : World} {gb : Nat} {c0 c1 c2 c3 : Value} {b : BV} (h : GameBlk w gb c0 c1 c2 c3 b) : w.cell? ⟨gb, 1, none⟩ = some c1 := by rw [cell_of_row w gb _ _ _ _ h]; rfl

theorem GameBlk.c2 {w : World} {gb : Nat} {c0 c1 c2 c3 : Value} {b : BV} (h : GameBlk w gb c0 c1 c2 c3 b) : w.cell? ⟨gb, 2, none⟩ = some c2 := by rw [cell_of_row w gb _ _ _ _ h]; rfl

theorem GameBlk.c3 {w : World} {gb : Nat} {c0 c1 c2 c3 : Value} {b : BV} (h : GameBlk w gb c0 c1 c2 c3 b) : w.cell? ⟨gb, 3, none⟩ = some c3 := by rw [cell_of_row w gb _ _ _ _ h]; rfl

theorem GameBlk.c4 {w : World} {gb : Nat} {c0 c1 c2 c3 : Value} {b : BV} (h : GameBlk w gb c0 c1 c2 c3 b) : w.cell? ⟨gb, 4, none⟩ = some b.e := by rw [cell_of_row w gb _ _ _ _ h]; rfl

theorem GameBlk.c5 {w : World} {gb : Nat} {c0 c1 c2 c3 : Value} {b : BV} (h : GameBlk w gb c0 c1 c2 c3 b) : w.cell? ⟨gb, 5, none⟩ = some b.m := by rw [cell_of_row w gb _ _ _ _ h]; rfl

theorem GameBlk.c6 {w : World} {gb : Nat} {c0 c1 c2 c3 : Value} {b : BV} (h : GameBlk w gb c0 c1 c2 c3 b) : w.cell? ⟨gb, 6, none⟩ = some b.t := by rw [cell_of_row w gb _ _ _ _ h]; rfl

theorem GameBlk.c7 {w : World} {gb : Nat} {c0 c1 c2 c3 : Value} {b : BV} (h : GameBlk w gb c0 c1 c2 c3 b) : w.cell? ⟨gb, 7, none⟩ = some b.we := by rw [cell_of_row w gb _ _ _ _ h]; rfl

theorem GameBlk.c8 {w : World} {gb : Nat} {c0 c1 c2 c3 : Value} {b : BV} (h : GameBlk w gb c0 c1 c2 c3 b) : w.cell? ⟨gb, 8, none⟩ = some b.re := by rw [cell_of_row w gb _ _ _ _ h]; rfl

theorem GameBlk.c9 {w : World} {gb : Nat} {c0 c1 c2 c3 : Value} {b : BV} (h : GameBlk w gb c0 c1 c2 c3 b) : w.cell? ⟨gb, 9, none⟩ = some b.wm := by rw [cell_of_row w gb _ _ _ _ h]; rfl

theorem GameBlk.c10 {w : World} {gb : Nat} {c0 c1 c2 c3 : Value} {b : BV} (h : GameBlk w gb c0 c1 c2 c3 b) : w.cell? ⟨gb, 10, none⟩ = some b.rm := by rw [cell_of_row w gb _ _ _ _ h]; rfl

theorem GameBlk.c11 {w : World} {gb : Nat} {c0 c1 c2 c3 : Value} {b : BV} (h : GameBlk w gb c0 c1 c2 c3 b) : w.cell? ⟨gb, 11, none⟩ = some b.wt := by rw [cell_of_row w gb _ _ _ _ h]; rfl

theorem GameBlk.c12 {w : World} {gb : Nat} {c0 c1 c2 c3 : Value} {b : BV} (h : GameBlk w gb c0 c1 c2 c3 b) : w.cell? ⟨gb, 12, none⟩ = some b.rt := by rw [cell_of_row w gb _ _ _ _ h]; rfl

theorem GameBlk.setWM {w : World} {gb : Nat} {c0 c1 c2 c3 : Value} {b : BV} (h : GameBlk w gb c0 c1 c2 c3 b) (v : Value) : GameBlk (w.setCell ⟨gb, 9, none⟩ v) gb c0 c1 c2 c3 { b with wm := v } := h.set 9 v

theorem GameBlk.setRM {w : World} {gb : Nat} {c0 c1 c2 c3 : Value} {b : BV} (h : GameBlk w gb c0 c1 c2 c3 b) (v : Value) : GameBlk (w.setCell ⟨gb, 10, none⟩ v) gb c0 c1 c2 c3 { b with rm := v } := h.set 10 v

end Go.Proofs.YteiecbkfganhnaaGreat

namespace Go.Proofs.YteiecbkfganhnaaGreat

open Go.RowKit

theorem infoSE : (Tryz.prog.info? 22).map (fun i => (i.zero, i.size, i.bytes)) = some (some (.slice none 0 0), 1, 24) := by kernel_rfl

/-- Behind keepEntries. -/
def KeptE (i gb : Nat) (w : World) (tg : Tags) (c0 c1 c2 c3 : Value) (b : BV) (l : List (List Ent)) (w' : World) : Prop :=
  ∃ we re tg', GameBlk w' gb c0 c1 c2 c3 { b with we := we, re := re } ∧ tg' gb = tG i ∧ WaitE i w' tg' we re l ∧ Stp (fun T => T = tG i ∨ T = tWE i ∨ T = tRE i) w tg w' tg'

/-- Behind keepTexts. -/
def KeptT (i gb : Nat) (w : World) (tg : Tags) (c0 c1 c2 c3 : Value) (b : BV) (l : List (List ByteArray)) (w' : World) : Prop :=
  ∃ wt rt tg', GameBlk w' gb c0 c1 c2 c3 { b with wt := wt, rt := rt } ∧ tg' gb = tG i ∧ WaitT i w' tg' wt rt l ∧ Stp (fun T => T = tG i ∨ T = tWT i ∨ T = tRT i) w tg w' tg'

theorem keep_second {i gb : Nat} {W2 w3 w4 : World} {tg1 : Tags} {c0 c1 c2 c3 : Value} {b : BV} {T : Nat × Nat} {re r : Value} {n m e e' size g cap : Nat} {ys zs rs : List Value} {o : Obj}
    (hG2 : GameBlk W2 gb c0 c1 c2 c3 b) (hg1 : tg1 gb = tG i) (hY : Own W2 tg1 T e' 1 re n ys) (hT : T ≠ tG i) (hT0 : T ≠ (0, 0)) (hb : Below W2.drew.heap.size W2.drew w3)
    (hr : w3.ownsRow W2.drew.heap.size e size r m rs) (hgrow : (w3.alloc o).grownBy w4 re.ownBlock) (hown : w4.ownsRow 0 e' 1 (.slice (some ⟨g, 0, none⟩) (n + 1) cap) (n + 1) zs) (hat : re.ownBlock = some g ∨ g = w3.heap.size + 1) :
    ∃ tg4, GameBlk w4 gb c0 c1 c2 c3 b ∧ tg4 gb = tG i ∧ Own w4 tg4 T e' 1 (.slice (some ⟨g, 0, none⟩) (n + 1) cap) (n + 1) zs ∧ Own w4 tg4 (0, 0) e size r m rs ∧ Stp (fun U => U = T) W2 tg1 w4 tg4 := by
  have hb' : Below W2.heap.size W2 w3 := Below.undrew hb
  have hs3 : Stp (fun U => U = T) W2 tg1 w3 (newTag W2.heap.size tg1 (0, 0)) := Stp.ofBelow hb' tg1 (0, 0)
  have hs3' : Stp (fun _ => False) W2 tg1 w3 (newTag W2.heap.size tg1 (0, 0)) := Stp.ofBelow hb' tg1 (0, 0)
  have hY3 := hY.step hs3' (fun h => h)
  have hr3 : Own w3 (newTag W2.heap.size tg1 (0, 0)) (0, 0) e size r m rs := Own.fresh tg1 (0, 0) hr
  obtain ⟨tg4, h1, h2⟩ := hY3.pushed hgrow hown hat
  obtain ⟨h3, h4⟩ := hG2.step hg1 hs3' (fun h => h)
  obtain ⟨h5, h6⟩ := h3.step h4 h2 (fun h => hT h.symm)
  exact ⟨tg4, h5, h6, h1, hr3.step h2 (fun h => hT0 h.symm), hs3.trans h2⟩

theorem keep_fin {i gb : Nat} {w W2 w4 : World} {tg tg1 tg4 : Tags} {c0 c1 c2 c3 : Value} {b b2 : BV} {l : List (List Ent)} {es : List Ent} {xs ys : List Value} {v we re r : Value}
    (hes : es.length ≤ 1000000)
    (hW : ∀ (k : Nat) (es : List Ent), l[k]? = some es → es.length ≤ 1000000 ∧ ∃ v r, xs[k]? = some v ∧ ys[k]? = some r ∧ Own w tg (tLE i k) 66 2 v es.length (eC es) ∧ Own w tg (0, 0) 66 2 r es.length (eC es))
    (hx : xs.length = l.length) (hy : ys.length = l.length)
    (hS2 : Stp (fun T => T = tG i ∨ T = tWE i ∨ T = tRE i) w tg W2 tg1) (hS4 : Stp (fun T => T = tRE i) W2 tg1 w4 tg4) (hO : Own W2 tg1 (tWE i) 22 1 we (l.length + 1) (xs ++ [v])) (hV : Own W2 tg1 (tLE i l.length) 66 2 v es.length (eC es))
    (hG4 : GameBlk w4 gb c0 c1 c2 c3 b2) (hg4 : tg4 gb = tG i) (hb : { b2 with re := re } = { b with we := we, re := re }) (hR : Own w4 tg4 (tRE i) 22 1 re (l.length + 1) (ys ++ [r])) (hr : Own w4 tg4 (0, 0) 66 2 r es.length (eC es)) :
    KeptE i gb w tg c0 c1 c2 c3 b (l ++ [es]) (w4.setCell ⟨gb, 8, none⟩ re) := by
  have hs : Stp (fun U => U = tG i) w4 tg4 (w4.setCell ⟨gb, 8, none⟩ re) tg4 := Stp.setCell (a := ⟨gb, 8, none⟩) hg4 re
  have hall : Stp (fun T => T = tG i ∨ T = tWE i ∨ T = tRE i) w tg (w4.setCell ⟨gb, 8, none⟩ re) tg4 := (hS2.trans (hS4.mono fun x h => .inr (.inr h))).trans (hs.mono fun x h => .inl h)
  refine ⟨we, re, tg4, by rw [← hb]; exact hG4.setRE re, hg4, ⟨xs ++ [v], ys ++ [r], by simpa using (hO.step hS4 (by simp)).step hs (by simp), by simpa using hR.step hs (by simp), fun k fs hk => ?_⟩, hall⟩
  by_cases hkl : k < l.length
  · rw [List.getElem?_append_left hkl] at hk
    obtain ⟨h1, v', r', h2, h3, h4, h5⟩ := hW k fs hk
    exact ⟨h1, v', r', by rw [List.getElem?_append_left (by omega)]; exact h2, by rw [List.getElem?_append_left (by omega)]; exact h3, h4.step hall (by simp), h5.step hall (by simp)⟩
  · have hkk : k = l.length := by
      have := (List.getElem?_eq_some_iff.1 hk).1
      simp at this; omega
    subst hkk
    simp at hk
    subst hk
    exact ⟨hes, v, r, by simp [← hx], by simp [← hy], (hV.step hS4 (by simp)).step hs (by simp), hr.step hs (by simp)⟩

set_option maxRecDepth 100000 in
set_option maxHeartbeats 400000 in
theorem keepEntries_any (i gb : Nat) (w : World) (tg : Tags) (c0 c1 c2 c3 : Value) (b : BV) (l : List (List Ent)) (v : Value) (es : List Ent)
    (hG : GameBlk w gb c0 c1 c2 c3 b) (hg : tg gb = tG i) (hW : WaitE i w tg b.we b.re l) (hv : Own w tg (tLE i l.length) 66 2 v es.length (eC es)) (hes : es.length ≤ 1000000) (hl : l.length ≤ 1000000000) :
    Calls Tryz.prog 44 #[.pointer (some ⟨gb, 4, none⟩), v] w fun e w' => e = .returned (.tuple #[]) ∧ KeptE i gb w tg c0 c1 c2 c3 b (l ++ [es]) w' := by
  obtain ⟨vo, vc, rfl⟩ := hv.form
  obtain ⟨xs, ys, hx, hy, hwl⟩ := hW.rows
  have g7 := hG.c7
  have g8 := hG.c8
  have HG := hide hG
  have HW := hide hwl
  have HX := hide hx
  have HY := hide hy
  have HV := hide hv
  have f7 := hG.free 7
  have f8 := hG.free 8
  clear hG hwl hx hy hv hW
  obtain ⟨i0, hi, hz0, hz1, hz2⟩ := info_parts infoSE
  go_enter Tryz.func44, Tryz.ntmps44
  go_wp2_with (at_builtin; go_must (refine wpList_append_lies _ rfl _ _ 47 rfl 0 22 i0 _ 1 24 Tryz.underlying47 hi hz0 hz1 hz2 rfl (by decide) b.we l.length xs rfl ((unhide HX).1.alloc _) ⟨w.heap.size, 0, none⟩ 1 1 [.slice vo es.length vc] rfl rfl (cell_one_new _ _ _) (by intro u hu; simp at hu; subst hu; rfl) (by decide) (by unfold maxLen; omega) (by omega) (Nat.zero_le _) (w.heap.size + 1) (by simp) ?_))
  intro ga cap w1 hown1 hgrow1 hat1 hlt1
  obtain ⟨tg1, HO1, HS1⟩ := (unhide HX).pushed hgrow1 hown1 hat1
  clear hown1 hgrow1 hat1 hlt1
  obtain ⟨hG1, hg1⟩ := (unhide HG).step hg HS1 (by simp)
  have hG2 := hG1.setWE (.slice (some ⟨ga, 0, none⟩) (l.length + 1) cap)
  have HS2 := HS1.mono (B := fun T => T = tG i ∨ T = tWE i ∨ T = tRE i) (fun x hx => .inr (.inl hx)) |>.trans ((Stp.setCell (w := w1) (a := ⟨gb, 7, none⟩) hg1 (.slice (some ⟨ga, 0, none⟩) (l.length + 1) cap)).mono fun x hx => .inl hx)
  have HO2 := HO1.step (Stp.setCell (w := w1) (a := ⟨gb, 7, none⟩) hg1 (.slice (some ⟨ga, 0, none⟩) (l.length + 1) cap)) (by simp)
  have HV2 := (unhide HV).step HS2 (by simp)
  have HY2 := ((unhide HY).step HS1 (by simp)).step (Stp.setCell (w := w1) (a := ⟨gb, 7, none⟩) hg1 (.slice (some ⟨ga, 0, none⟩) (l.length + 1) cap)) (by simp)
  have k7 := hG1.c7
  have f7' := hG1.free 7
  have k8 := hG2.c8
  have f9 := hG2.free 8
  replace HS2 := hide HS2
  replace HO2 := hide HO2
  replace HV2 := hide HV2
  replace HY2 := hide HY2
  replace hG2 := hide hG2
  replace hg1 := hide hg1
  clear HS1 HO1 hG1 g7 g8 f7 f8 HV
  go_wp2_with fail
  generalize w1.setCell ⟨gb, 7, none⟩ (.slice (some ⟨ga, 0, none⟩) (l.length + 1) cap) = W2 at *
  clear k7 f7'
  go_region_law (first | (refine step_append_lies _ (by rfl) (.tmp 18) (.tmp 21) 47 (by rfl) 0 22 i0 _ 1 24 Tryz.underlying47 hi hz0 hz1 hz2 rfl (by decide) b.re l.length ys (by rfl) (hy3.alloc _) ⟨w3.heap.size, 0, none⟩ 1 1 [.slice ro es.length rc] (by rfl) rfl (cell_one_new _ _ _) (by intro u hu; simp at hu; subst hu; rfl) (by decide) (by unfold maxLen; omega) (by omega) (Nat.zero_le _) (w3.heap.size + 1) (by simp) ?_; intro gc cap2 w4 hown4 hgrow4 hat4 hlt4; obtain ⟨tg4, HG4, HG5, HR4, HR5, HS4⟩ := keep_second (unhide hG2) (unhide hg1) (unhide HY2) (by simp) (by simp) hb3 hr3 hgrow4 hown4 hat4; have k4 := HG4.c8; have q4 := HG4.free 8; replace HG4 := hide HG4; replace HG5 := hide HG5; replace HR4 := hide HR4; replace HR5 := hide HR5; replace HS4 := hide HS4; clear hown4 hgrow4 hat4) | (go_simp; go_at_call 91; refine (copiedEntries_any _ es W2.drew (by omega) (by exact ents_of_owns (unhide HV2).1)).mono ?_; rintro e w3 ⟨r', rfl, hr3, hb3⟩; obtain ⟨ro, rc, rfl⟩ := owns_form hr3; have hy3 := owns_belowD (unhide HY2).1 hb3; have k3 : w3.cell? ⟨gb, 8, none⟩ = some b.re := (hb3.cell (p := ⟨gb, 8, none⟩) (unhide hG2).lt).trans k8; have k3b := cell_alloc k3 (.cells #[.slice ro es.length rc] 22)))
  all_goals go_end0
  all_goals exact ⟨rfl, keep_fin (b := b) hes (unhide HW) (by simpa using (unhide HX).1.1) (by simpa using (unhide HY).1.1) (unhide HS2) (unhide HS4) (unhide HO2) (unhide HV2) (unhide HG4) (unhide HG5) rfl (unhide HR4) (unhide HR5)⟩

theorem keep_finT {i gb : Nat} {w W2 w4 : World} {tg tg1 tg4 : Tags} {c0 c1 c2 c3 : Value} {b b2 : BV} {l : List (List ByteArray)} {es : List ByteArray} {xs ys : List Value} {v we re r : Value}
    (hes : es.length ≤ 1000000)
    (hW : ∀ (k : Nat) (es : List ByteArray), l[k]? = some es → es.length ≤ 1000000 ∧ ∃ v r, xs[k]? = some v ∧ ys[k]? = some r ∧ Own w tg (tLT i k) 9 1 v es.length (tC es) ∧ Own w tg (0, 0) 9 1 r es.length (tC es))
    (hx : xs.length = l.length) (hy : ys.length = l.length)
    (hS2 : Stp (fun T => T = tG i ∨ T = tWT i ∨ T = tRT i) w tg W2 tg1) (hS4 : Stp (fun T => T = tRT i) W2 tg1 w4 tg4) (hO : Own W2 tg1 (tWT i) 99 1 we (l.length + 1) (xs ++ [v])) (hV : Own W2 tg1 (tLT i l.length) 9 1 v es.length (tC es))
    (hG4 : GameBlk w4 gb c0 c1 c2 c3 b2) (hg4 : tg4 gb = tG i) (hb : { b2 with rt := re } = { b with wt := we, rt := re }) (hR : Own w4 tg4 (tRT i) 99 1 re (l.length + 1) (ys ++ [r])) (hr : Own w4 tg4 (0, 0) 9 1 r es.length (tC es)) :
    KeptT i gb w tg c0 c1 c2 c3 b (l ++ [es]) (w4.setCell ⟨gb, 12, none⟩ re) := by
  have hs : Stp (fun U => U = tG i) w4 tg4 (w4.setCell ⟨gb, 12, none⟩ re) tg4 := Stp.setCell (a := ⟨gb, 12, none⟩) hg4 re
  have hall : Stp (fun T => T = tG i ∨ T = tWT i ∨ T = tRT i) w tg (w4.setCell ⟨gb, 12, none⟩ re) tg4 := (hS2.trans (hS4.mono fun x h => .inr (.inr h))).trans (hs.mono fun x h => .inl h)
  refine ⟨we, re, tg4, by rw [← hb]; exact hG4.setRT re, hg4, ⟨xs ++ [v], ys ++ [r], by simpa using (hO.step hS4 (by simp)).step hs (by simp), by simpa using hR.step hs (by simp), fun k fs hk => ?_⟩, hall⟩
  by_cases hkl : k < l.length
  · rw [List.getElem?_append_left hkl] at hk
    obtain ⟨h1, v', r', h2, h3, h4, h5⟩ := hW k fs hk
    exact ⟨h1, v', r', by rw [List.getElem?_append_left (by omega)]; exact h2, by rw [List.getElem?_append_left (by omega)]; exact h3, h4.step hall (by simp), h5.step hall (by simp)⟩
  · have hkk : k = l.length := by
      have := (List.getElem?_eq_some_iff.1 hk).1
      simp at this; omega
    subst hkk
    simp at hk
    subst hk
    exact ⟨hes, v, r, by simp [← hx], by simp [← hy], (hV.step hS4 (by simp)).step hs (by simp), hr.step hs (by simp)⟩

theorem infoStr : (Tryz.prog.info? 9).map (fun i => (i.zero, i.size, i.bytes)) = some (some (.string ⟨#[]⟩), 1, 16) := by kernel_rfl

theorem infoST : (Tryz.prog.info? 99).map (fun i => (i.zero, i.size, i.bytes)) = some (some (.slice none 0 0), 1, 24) := by kernel_rfl

set_option maxRecDepth 100000 in
set_option maxHeartbeats 400000 in
theorem keepTexts_any (i gb : Nat) (w : World) (tg : Tags) (c0 c1 c2 c3 : Value) (b : BV) (l : List (List ByteArray)) (v : Value) (es : List ByteArray)
    (hG : GameBlk w gb c0 c1 c2 c3 b) (hg : tg gb = tG i) (hW : WaitT i w tg b.wt b.rt l) (hv : Own w tg (tLT i l.length) 9 1 v es.length (tC es)) (hes : es.length ≤ 1000000) (hl : l.length ≤ 1000000000) :
    Calls Tryz.prog 50 #[.pointer (some ⟨gb, 4, none⟩), v] w fun e w' => e = .returned (.tuple #[]) ∧ KeptT i gb w tg c0 c1 c2 c3 b (l ++ [es]) w' := by
  obtain ⟨vo, vc, rfl⟩ := hv.form
  obtain ⟨xs, ys, hx, hy, hwl⟩ := hW.rows
  have HG := hide hG
  have HW := hide hwl
  have HX := hide hx
  have HY := hide hy
  have HV := hide hv
  clear hG hwl hx hy hv hW
  obtain ⟨i0, hi, hz0, hz1, hz2⟩ := info_parts infoST
  obtain ⟨i1, hj, hy0, hy1, hy2⟩ := info_parts infoStr
  have HZ := hide (src_of_owns (unhide HV).1)
  go_enter Tryz.func50, Tryz.ntmps50
  go_wp2_with (at_builtin; go_must (refine wpList_append_src rfl (.tmp 5) (.tmp 6) 99 rfl w.heap.size 9 i1 _ 1 16 Tryz.underlying99 hj hy0 hy1 hy2 rfl (by decide) (.slice none 0 0) 0 [] rfl (World.ownsRow_nil w w.heap.size 9 1) _ es.length (tC es) rfl (by simp) (unhide HZ) (tC_one es) (by unfold maxLen; omega) (by omega) (Nat.le_refl _) ?_))
  intro r w1 hr1 hgr1 _
  have hb1 : Below w.heap.size w w1 := (Below.refl _ _).grown hgr1 (Nat.le_refl _) (by intro k hk; simp [Value.ownBlock] at hk)
  have hs1 : Stp (fun _ => False) w tg w1 (newTag w.heap.size tg (0, 0)) := Stp.ofBelow hb1 tg (0, 0)
  obtain ⟨ro, rc, rfl⟩ := owns_form hr1
  have HR := hide (Own.fresh tg (0, 0) hr1)
  generalize newTag w.heap.size tg (0, 0) = tg1 at hs1 HR
  obtain ⟨hG1, hg1⟩ := (unhide HG).step hg hs1 (fun h => h)
  have HX1 := hide ((unhide HX).step hs1 (fun h => h))
  have HY1 := hide ((unhide HY).step hs1 (fun h => h))
  have HV1 := hide ((unhide HV).step hs1 (fun h => h))
  have HS1 := hide hs1
  have k11 := hG1.c11
  have f11 := hG1.free 11
  replace hG1 := hide hG1
  replace hg1 := hide hg1
  clear hr1 hgr1 hb1 hs1 HV HZ
  go_wp2_with (at_builtin; go_must (refine wpList_append_lies _ rfl (.tmp 12) (.tmp 14) 49 rfl 0 99 i0 _ 1 24 Tryz.underlying49 hi hz0 hz1 hz2 rfl (by decide) b.wt l.length xs rfl ((unhide HX1).1.alloc _) ⟨w1.heap.size, 0, none⟩ 1 1 [.slice vo es.length vc] rfl rfl (cell_one_new _ _ _) (by intro u hu; simp at hu; subst hu; rfl) (by decide) (by unfold maxLen; omega) (by omega) (Nat.zero_le _) (w1.heap.size + 1) (by simp) ?_))
  intro ga cap w2 hown2 hgrow2 hat2 hlt2
  obtain ⟨tg2, HO2, HS2⟩ := (unhide HX1).pushed hgrow2 hown2 hat2
  obtain ⟨hG2, hg2⟩ := (unhide hG1).step (unhide hg1) HS2 (by simp)
  have hG3 := hG2.setWT (.slice (some ⟨ga, 0, none⟩) (l.length + 1) cap)
  have hset := Stp.setCell (w := w2) (a := ⟨gb, 11, none⟩) hg2 (.slice (some ⟨ga, 0, none⟩) (l.length + 1) cap)
  have HS3 := hide (((unhide HS1).mono (B := fun T => T = tG i ∨ T = tWT i ∨ T = tRT i) (fun _ h => h.elim)).trans ((HS2.mono (B := fun T => T = tG i ∨ T = tWT i ∨ T = tRT i) (fun x hx => .inr (.inl hx))).trans (hset.mono fun x hx => .inl hx)))
  have HO3 := hide (HO2.step hset (by simp))
  have HV3 := hide (((unhide HV1).step HS2 (by simp)).step hset (by simp))
  have HY3 := hide (((unhide HY1).step HS2 (by simp)).step hset (by simp))
  have HR3 := hide (((unhide HR).step HS2 (by simp)).step hset (by simp))
  have k11' := hG2.c11
  have f11' := hG2.free 11
  have k12 := hG3.c12
  have f12 := hG3.free 12
  replace hG3 := hide hG3
  replace hg2 := hide hg2
  clear hown2 hgrow2 hat2 hlt2 HO2 HS2 hset hG2 k11 f11 hG1 hg1 HX1 HY1 HV1 HS1 HR
  go_upto_region 3 with fail
  generalize w2.setCell ⟨gb, 11, none⟩ (.slice (some ⟨ga, 0, none⟩) (l.length + 1) cap) = W3 at *
  clear k11' f11'
  go_wp2_with (at_builtin; go_must (refine wpList_append_lies _ rfl (.tmp 22) (.tmp 24) 49 rfl 0 99 i0 _ 1 24 Tryz.underlying49 hi hz0 hz1 hz2 rfl (by decide) b.rt l.length ys rfl ((unhide HY3).1.alloc _) ⟨W3.heap.size, 0, none⟩ 1 1 [.slice ro es.length rc] rfl rfl (cell_one_new _ _ _) (by intro u hu; simp at hu; subst hu; rfl) (by decide) (by unfold maxLen; omega) (by omega) (Nat.zero_le _) (W3.heap.size + 1) (by simp) ?_))
  intro gc cap2 w4 hown4 hgrow4 hat4 hlt4
  obtain ⟨tg4, HO4, HS4⟩ := (unhide HY3).pushed hgrow4 hown4 hat4
  obtain ⟨hG4, hg4⟩ := (unhide hG3).step (unhide hg2) HS4 (by simp)
  have HR4 := hide ((unhide HR3).step HS4 (by simp))
  have k12' := hG4.c12
  have f12' := hG4.free 12
  replace hG4 := hide hG4
  replace HS4 := hide HS4
  replace HO4 := hide HO4
  replace hg4 := hide hg4
  clear hown4 hgrow4 hat4 hlt4 k12 f12
  go_wp2
  go_end0
  exact ⟨rfl, keep_finT (b := b) hes (unhide HW) (by simpa using (unhide HX).1.1) (by simpa using (unhide HY).1.1) (unhide HS3) (unhide HS4) (unhide HO3) (unhide HV3) (unhide hG4) (unhide hg4) rfl (unhide HO4) (unhide HR4)⟩

end Go.Proofs.YteiecbkfganhnaaGreat

namespace Go.Proofs.YteiecbkfganhnaaGreat

open Go.RowKit

theorem mark_cells {w : World} {m q : Nat} {v : Value} (h : EntsIn w v (List.replicate m (mkE q))) : ∃ vo vc, v = .slice vo m vc ∧
    ∀ j, j < m → ∃ b off, vo = some ⟨b, off, none⟩ ∧ w.cell? ⟨b, off + j * 2, none⟩ = some (.int .i64 (-1 - (q : Int))) ∧ w.cell? ⟨b, off + j * 2 + 1, none⟩ = some (.string ⟨#[]⟩) := by
  obtain ⟨vo, vc, hv, _, hc⟩ := h
  refine ⟨vo, vc, by simpa using hv, fun j hj => ?_⟩
  obtain ⟨b, off, h1, h2, h3⟩ := hc j (mkE q) (by simp [hj])
  exact ⟨b, off, h1, h2, h3⟩

theorem markT_cells {w : World} {m : Nat} {q : ByteArray} {v : Value} (h : TextsIn w v (List.replicate m q)) : ∃ vo vc, v = .slice vo m vc ∧
    ∀ j, j < m → ∃ b off, vo = some ⟨b, off, none⟩ ∧ w.cell? ⟨b, off + j, none⟩ = some (.string q) := by
  obtain ⟨vo, vc, hv, _, hc⟩ := h
  refine ⟨vo, vc, by simpa using hv, fun j hj => ?_⟩
  obtain ⟨b, off, h1, h2⟩ := hc j q (by simp [hj])
  exact ⟨b, off, h1, h2⟩

end Go.Proofs.YteiecbkfganhnaaGreat

namespace Go.Proofs.YteiecbkfganhnaaGreat

open Go.RowKit

theorem run_append_cases {P : Program} (w : World) (base : Nat) (t ty e : TypeId) (i : TypeInfo) (z : Value) (size bytes : Nat) (ht : P.underlying t = some (.slice e)) (hi : P.info? e = some i) (hz : i.zero = some z)
    (hsize : i.size = size) (hby : i.bytes = bytes) (hzs : z.cells.size = size) (hsz : 0 < size)
    (v : Value) (n : Nat) (xs : List Value) (hown : w.ownsRow base e size v n xs)
    (a : Addr) (m c : Nat) (news : List Value) (hl : news.length = m * size) (hnews : ∀ j u, news[j]? = some u → w.cell? (a.add j) = some u) (h1 : ∀ u ∈ news, u.oneCell' = true)
    (hm : 0 < m) (h63 : n + m ≤ maxLen) (hbytes : (n + m) * bytes ≤ 140737488355328) (hbase : base ≤ w.heap.size) :
    ∃ g cap w', (Builtin.append_ #[t, t] ty #[v, .slice (some a) m c]).run P w = .ok (.slice (some ⟨g, 0, none⟩) (n + m) cap) w' ∧ w'.ownsRow base e size (.slice (some ⟨g, 0, none⟩) (n + m) cap) (n + m) (xs ++ news) ∧
      ((v = .slice (some ⟨g, 0, none⟩) n cap ∧ w.grownBy w' (some g)) ∨ (g = w.heap.size ∧ Below w.heap.size w w')) := by
  obtain ⟨v', w', hr, h2, h3, _, _⟩ := run_append_own_at (P := P) w base t ty e i z size bytes ht hi hz hsize hby hzs hsz v n xs hown a m c news hl hnews h1 h63 hbytes hbase
  subst hsize
  subst hby
  have hsmall : n + m ≤ 9223372036854775807 := by simp only [maxLen] at h63; omega
  rcases hown.2 with ⟨rfl, rfl⟩ | ⟨g, cap, cur, rfl, hbg, hg, hnc, hcm, hcs, htake⟩
  · have hk := run_append_nil (P := P) w t ty e i z ht hi hz a m c news hl hnews (by omega) (by omega) (by have hb := hbytes; simp only [Nat.zero_add] at hb; omega)
    rw [hk] at hr
    simp only [Result.ok.injEq] at hr
    obtain ⟨rfl, rfl⟩ := hr
    exact ⟨w.heap.size, grownCap w m 0 e, w.drew.alloc (.cells (news.toArray ++ Builtin.zeroCells z.cells (grownCap w m 0 e - m)) e), by rw [hk, Nat.zero_add], by simpa using h2, .inr ⟨rfl, ((Below.refl _ _).drew).alloc (Nat.le_refl _) _⟩⟩
  · by_cases hroom : n + m ≤ cap
    · have hfit : n * i.size + news.length ≤ cur.size := by rw [hl, hcs, ← Nat.add_mul]; exact Nat.mul_le_mul_right _ hroom
      have hk := run_append_room (P := P) w t ty e i ht hi g n cap cur hg a m c news hl hnews h1 hroom hfit
      rw [hk] at hr
      simp only [Result.ok.injEq] at hr
      obtain ⟨rfl, rfl⟩ := hr
      exact ⟨g, cap, _, hk, h2, .inl ⟨rfl, h3⟩⟩
    · have holds : ∀ j u, xs[j]? = some u → w.cell? ((⟨g, 0, none⟩ : Addr).add j) = some u := hown.cells (g := g) rfl
      have hk := run_append_grow (P := P) w t ty e i z ht hi hz ⟨g, 0, none⟩ n cap xs hown.1 holds a m c news hl hnews (by omega) (by omega) (growslice_fits (by omega) hbytes)
      rw [hk] at hr
      simp only [Result.ok.injEq] at hr
      obtain ⟨rfl, rfl⟩ := hr
      exact ⟨w.heap.size, _, _, hk, h2, .inr ⟨rfl, ((Below.refl _ _).drew).alloc (Nat.le_refl _) _⟩⟩

/-- It grew in its place, or moved to a new block. -/
def AppC (w : World) (v : Value) (n g cap : Nat) (w' : World) : Prop := (v = .slice (some ⟨g, 0, none⟩) n cap ∧ w.grownBy w' (some g)) ∨ (g = w.heap.size ∧ Below w.heap.size w w')

theorem wpList_append_cases {P : Program} {w : World} {ops : Array Oper} {rest : List Oper} {o : Oper} {a : Act} {Q : Exit → Act → World → Prop} (hgd : o.guard = none) (s x : Operand) (t : TypeId)
    (ho : o.op = .call { callee := .builtin .append, args := #[s, x], argTypes := #[t, t] })
    (base : Nat) (e : TypeId) (i : TypeInfo) (z : Value) (size bytes : Nat) (ht : P.underlying t = some (.slice e)) (hi : P.info? e = some i) (hz : i.zero = some z)
    (hsize : i.size = size) (hby : i.bytes = bytes) (hzs : z.cells.size = size) (hsz : 0 < size)
    (v : Value) (n : Nat) (xs : List Value) (hs : a.eval s = v) (hown : w.ownsRow base e size v n xs)
    (ad : Addr) (m c : Nat) (news : List Value) (hx : a.eval x = .slice (some ad) m c) (hl : news.length = m * size) (hnews : ∀ j u, news[j]? = some u → w.cell? (ad.add j) = some u) (h1 : ∀ u ∈ news, u.oneCell' = true)
    (hm : 0 < m) (h63 : n + m ≤ maxLen) (hbytes : (n + m) * bytes ≤ 140737488355328) (hbase : base ≤ w.heap.size)
    (h : ∀ g cap w', w'.ownsRow base e size (.slice (some ⟨g, 0, none⟩) (n + m) cap) (n + m) (xs ++ news) → AppC w v n g cap w' →
      wpList P ops Q rest (a.put o.dst (.slice (some ⟨g, 0, none⟩) (n + m) cap)) w') :
    wpList P ops Q (o :: rest) a w := by
  refine wpList_plain hgd fun K hK => ?_
  obtain ⟨g, cap, w', hr, h2, h3⟩ := run_append_cases (P := P) w base t o.type e i z size bytes ht hi hz hsize hby hzs hsz v n xs hown ad m c news hl hnews h1 hm h63 hbytes hbase
  unfold Oper.wp execOp
  simp only [ho, resolve, invoke, builtin, Sem.run_bind, Sem.run_pure, Result.andThen_ok, List.map_toArray, List.map_cons, List.map_nil, hs, hx, hr]
  exact hK _ _ (h g cap w' h2 h3)

theorem eC_set (es : List Ent) (j : Nat) (x : Ent) : ((eC es).set (j * 2) (.int .i64 x.1)).set (j * 2 + 1) (.string x.2) = eC (es.set j x) := by
  induction es generalizing j with
  | nil => rfl
  | cons e es ih =>
    cases j with
    | zero => rfl
    | succ j =>
      rw [show (j + 1) * 2 = j * 2 + 1 + 1 by omega, eC_cons]
      simp only [List.set_cons_succ, eC_cons]
      rw [ih j]

theorem own_set2 {w : World} {tg : Tags} {T : Nat × Nat} {e n cap g j : Nat} {es : List Ent} (x : Ent) (h : Own w tg T e 2 (.slice (some ⟨g, 0, none⟩) n cap) n (eC es)) :
    Own ((w.setCell ⟨g, j * 2, none⟩ (.int .i64 x.1)).setCell ⟨g, j * 2 + 1, none⟩ (.string x.2)) tg T e 2 (.slice (some ⟨g, 0, none⟩) n cap) n (eC (es.set j x)) := by
  obtain ⟨⟨hl, hr⟩, ht⟩ := h
  refine ⟨⟨by rw [eC_length, List.length_set, ← eC_length]; exact hl, ?_⟩, ht⟩
  rcases hr with ⟨hv, _⟩ | ⟨g', cap', cur, hv, hg, hh, h1, h2, h3, h4⟩
  · simp at hv
  · simp only [Value.slice.injEq, Option.some.injEq, Addr.mk.injEq, and_true, true_and] at hv
    obtain ⟨rfl, rfl⟩ := hv
    refine .inr ⟨g, cap, (cur.setIfInBounds (j * 2) (.int .i64 x.1)).setIfInBounds (j * 2 + 1) (.string x.2), rfl, hg, ?_, h1, h2, by simpa using h3, ?_⟩
    · exact heap_setCell_same _ g _ _ e _ (heap_setCell_same w g _ cur e _ hh)
    · simp only [Array.toList_setIfInBounds, List.take_set, h4, eC_set]

theorem own_cells2 {w : World} {tg : Tags} {T : Nat × Nat} {e n cap j : Nat} {vo : Option Addr} {es : List Ent} (h : Own w tg T e 2 (.slice vo n cap) n (eC es)) (hj : j < n) :
    ∃ g, vo = some ⟨g, 0, none⟩ ∧ tg g = T ∧ w.frozen? ⟨g, j * 2, none⟩ = false ∧ w.frozen? ⟨g, j * 2 + 1, none⟩ = false ∧ (∃ a, w.cell? ⟨g, j * 2, none⟩ = some a) ∧ (∃ a, w.cell? ⟨g, j * 2 + 1, none⟩ = some a) := by
  obtain ⟨⟨hl, hr⟩, ht⟩ := h
  rcases hr with ⟨hv, h0⟩ | ⟨g', cap', cur, hv, hg, hh, h1, h2, h3, h4⟩
  · omega
  · simp only [Value.slice.injEq, true_and] at hv
    obtain ⟨rfl, rfl⟩ := hv
    refine ⟨g', rfl, ht g' rfl, frozen_of_row w g' _ cur e hh, frozen_of_row w g' _ cur e hh, ?_, ?_⟩
    · rw [cell_of_row w g' _ cur e _ hh]; exact ⟨cur[j * 2], by simp⟩
    · rw [cell_of_row w g' _ cur e _ hh]; exact ⟨cur[j * 2 + 1], by simp⟩

/-- p copies of one element's cells. -/
def rep (xc : List Value) (p : Nat) : List Value := (List.replicate p xc).flatten

theorem rep_add (xc : List Value) (p q : Nat) : rep xc (p + q) = rep xc p ++ rep xc q := by simp only [rep]; rw [← List.replicate_append_replicate, List.flatten_append]

theorem rep_length (xc : List Value) (p : Nat) : (rep xc p).length = p * xc.length := by simp [rep]

theorem rep_eC (x : Ent) (p : Nat) : eC (List.replicate p x) = rep [.int .i64 x.1, .string x.2] p := by simp [eC, rep, List.flatMap]

theorem rep_tC (x : ByteArray) (p : Nat) : tC (List.replicate p x) = rep [.string x] p := by
  induction p with
  | zero => rfl
  | succ p ih => rw [rep_add, ← ih, ← List.replicate_append_replicate]; simp [tC, rep]

/-- A slice of p copies, in a block that is done with or in v's own. -/
def Good (w : World) (tg : Tags) (xc : List Value) (v y : Value) (p : Nat) : Prop :=
  ∃ g c, y = .slice (some ⟨g, 0, none⟩) p c ∧ (∀ j u, (rep xc p)[j]? = some u → w.cell? ⟨g, j, none⟩ = some u) ∧ (tg g = (0, 0) ∨ v.ownBlock = some g) ∧ g < w.heap.size

theorem owns_prefix {w : World} {base e size n m cap g : Nat} {xs ys : List Value} (h : w.ownsRow base e size (.slice (some ⟨g, 0, none⟩) m cap) m (xs ++ ys)) (hx : xs.length = n * size) (hn : n ≤ m) : w.ownsRow base e size (.slice (some ⟨g, 0, none⟩) n cap) n xs := by
  refine ⟨hx, ?_⟩
  rcases h.2 with ⟨hv, _⟩ | ⟨g', cap', cur, hv, hg, hh, h1, h2, h3, h4⟩
  · simp at hv
  · simp only [Value.slice.injEq, Option.some.injEq, Addr.mk.injEq, and_true, true_and] at hv
    obtain ⟨rfl, rfl⟩ := hv
    refine .inr ⟨g, cap, cur, rfl, hg, hh, by omega, h2, h3, ?_⟩
    have h5 := congrArg (List.take (n * size)) h4
    rw [List.take_take, Nat.min_eq_left (Nat.mul_le_mul_right _ hn), ← hx, List.take_left] at h5
    rw [← hx]; exact h5

/-- An append of m copies more onto v, by way of a new block. -/
theorem mark_push {w w1 : World} {tg : Tags} {T : Nat × Nat} {e size n m cap g : Nat} {xc : List Value} {v : Value} {o : Obj} (hxc : xc.length = size) (hT0 : T ≠ (0, 0)) (hv : Own w tg T e size v n (rep xc n))
    (hown : w1.ownsRow 0 e size (.slice (some ⟨g, 0, none⟩) (n + m) cap) (n + m) (rep xc n ++ rep xc m))
    (hc : AppC (w.alloc o) v n g cap w1) (hm : 0 < m) :
    ∃ tg1, Own w1 tg1 T e size v n (rep xc n) ∧ Stp (fun U => U = T) w tg w1 tg1 ∧ Good w1 tg1 xc v (.slice (some ⟨g, 0, none⟩) (n + m) cap) (n + m) ∧ ∀ y p, Good w tg xc v y p → p ≤ n + m → Good w1 tg1 xc v y p := by
  have hcells : ∀ j u, (rep xc (n + m))[j]? = some u → w1.cell? ⟨g, j, none⟩ = some u := fun j u hj => by
    rw [rep_add] at hj
    have := hown.cells (g := g) rfl j u hj
    rwa [add0] at this
  have hglt : g < w1.heap.size := owns_lt hown g rfl
  have hpre : ∀ p j u, p ≤ n + m → (rep xc p)[j]? = some u → (rep xc (n + m))[j]? = some u := fun p j u hp hj => by
    rw [show n + m = p + (n + m - p) by omega, rep_add]
    rw [List.getElem?_append_left (List.getElem?_eq_some_iff.1 hj).1]; exact hj
  refine ⟨newTag w.heap.size tg (0, 0), ?_⟩
  rcases hc with ⟨rfl, hg⟩ | ⟨hg, hb⟩
  · have htg : tg g = T := hv.2 g rfl
    have hgw : g < w.heap.size := owns_lt hv.1 g rfl
    have hs : Stp (fun U => U = T) w tg w1 (newTag w.heap.size tg (0, 0)) := by
      refine ⟨hg.os, hg.tape, hg.output, Nat.le_trans (by simp) hg.size, fun k hk hA => ⟨?_, newTag_old hk⟩⟩
      rw [hg.block k (by simp; omega) (fun he => hA (by simp at he; subst he; exact htg))]
      exact Below.heap_alloc w o k hk
    refine ⟨⟨owns_prefix hown (by rw [rep_length, hxc]) (by omega), fun x hx => ?_⟩, hs, ⟨g, cap, rfl, hcells, .inr rfl, hglt⟩, fun y p hy hp => ?_⟩
    · simp [Value.ownBlock] at hx; subst hx; rw [newTag_old hgw]; exact htg
    · obtain ⟨g', c', rfl, h1, h2, h3⟩ := hy
      by_cases hgg : g' = g
      · subst hgg
        exact ⟨g', c', rfl, fun j u hj => hcells j u (hpre p j u hp hj), .inr rfl, hglt⟩
      · have htg' : tg g' = (0, 0) := by
          rcases h2 with h2 | h2
          · exact h2
          · simp [Value.ownBlock] at h2; exact absurd h2.symm hgg
        have hk := hs.keep g' h3 (by rw [htg']; exact fun h => hT0 h.symm)
        exact ⟨g', c', rfl, fun j u hj => (World.cell?_of_block (a := ⟨g', j, none⟩) hk.1).trans (h1 j u hj), .inl (hk.2.trans htg'), Nat.lt_of_lt_of_le h3 hs.size⟩
  · have hs' : Stp (fun _ => False) w tg w1 (newTag w.heap.size tg (0, 0)) := by
      refine ⟨hb.os, hb.tape, hb.output, Nat.le_trans (by simp) hb.size, fun k hk _ => ⟨?_, newTag_old hk⟩⟩
      rw [hb.block k (by simp; omega)]
      exact Below.heap_alloc w o k hk
    refine ⟨hv.step hs' (fun h => h), hs'.mono (fun _ h => h.elim), ⟨g, cap, rfl, hcells, .inl (newTag_new (by rw [hg]; simp)), hglt⟩, fun y p hy _ => ?_⟩
    obtain ⟨g', c', rfl, h1, h2, h3⟩ := hy
    have hk := hs'.keep g' h3 (fun h => h)
    exact ⟨g', c', rfl, fun j u hj => (World.cell?_of_block (a := ⟨g', j, none⟩) hk.1).trans (h1 j u hj), by rw [hk.2]; exact h2, Nat.lt_of_lt_of_le h3 hs'.size⟩

theorem Good.step {A : Nat × Nat → Prop} {w w' : World} {tg tg' : Tags} {xc : List Value} {v y : Value} {p : Nat} {T : Nat × Nat} (h : Good w tg xc v y p) (hv : Tag tg v T) (hs : Stp A w tg w' tg') (h0 : ¬ A (0, 0)) (hT : ¬ A T) : Good w' tg' xc v y p := by
  obtain ⟨g, c, rfl, h1, h2, h3⟩ := h
  have hk := hs.keep g h3 (by rcases h2 with h2 | h2; · rw [h2]; exact h0
                              · rw [hv g h2]; exact hT)
  exact ⟨g, c, rfl, fun j u hj => (World.cell?_of_block (a := ⟨g, j, none⟩) hk.1).trans (h1 j u hj), by rw [hk.2]; exact h2, Nat.lt_of_lt_of_le h3 hs.size⟩

/-- v's block is done with. -/
def unTag (v : Value) (tg : Tags) : Tags := fun k => if v.ownBlock = some k then (0, 0) else tg k

theorem Good.seenE {w : World} {tg : Tags} {x : Ent} {v y : Value} {p : Nat} (h : Good w tg [.int .i64 x.1, .string x.2] v y p) : SeenE w (unTag v tg) y (List.replicate p x) := by
  obtain ⟨g, c, rfl, h1, h2, h3⟩ := h
  refine ⟨⟨_, c, by rw [List.length_replicate], fun h => by simp at h, fun k e hk => ⟨g, 0, rfl, ?_⟩⟩, fun _ z hz => ?_⟩
  · have hg := eC_get _ k e hk
    rw [rep_eC] at hg
    exact ⟨by simpa using h1 _ _ hg.1, by simpa using h1 _ _ hg.2⟩
  · simp [Value.ownBlock] at hz
    subst hz
    simp only [unTag]
    split
    · rfl
    · rcases h2 with h2 | h2
      · exact h2
      · contradiction

theorem Good.seenT {w : World} {tg : Tags} {x : ByteArray} {v y : Value} {p : Nat} (h : Good w tg [.string x] v y p) : SeenT w (unTag v tg) y (List.replicate p x) := by
  obtain ⟨g, c, rfl, h1, h2, h3⟩ := h
  refine ⟨⟨_, c, by rw [List.length_replicate], fun h => by simp at h, fun k e hk => ⟨g, 0, rfl, ?_⟩⟩, fun _ z hz => ?_⟩
  · have hg : (tC (List.replicate p x))[k]? = some (.string e) := by rw [tC, List.getElem?_map, hk]; rfl
    rw [rep_tC] at hg
    simpa using h1 _ _ hg
  · simp [Value.ownBlock] at hz
    subst hz
    simp only [unTag]
    split
    · rfl
    · rcases h2 with h2 | h2
      · exact h2
      · contradiction

theorem seenE_self {w : World} {tg : Tags} {T : Nat × Nat} {e n : Nat} {x : Ent} {v : Value} (h : Own w tg T e 2 v n (rep [.int .i64 x.1, .string x.2] n)) : SeenE w (unTag v tg) v (List.replicate n x) := by
  rw [← rep_eC] at h
  have h' : w.ownsRow 0 e 2 v (List.replicate n x).length (eC (List.replicate n x)) := by simpa using h.1
  exact ⟨ents_of_owns h', fun _ z hz => by simp [unTag, hz]⟩

theorem seenT_self {w : World} {tg : Tags} {T : Nat × Nat} {e n : Nat} {x : ByteArray} {v : Value} (h : Own w tg T e 1 v n (rep [.string x] n)) : SeenT w (unTag v tg) v (List.replicate n x) := by
  rw [← rep_tC] at h
  have h' : w.ownsRow 0 e 1 v (List.replicate n x).length (tC (List.replicate n x)) := by simpa using h.1
  exact ⟨texts_of_owns h', fun _ z hz => by simp [unTag, hz]⟩

theorem Stp.unTag {A : Nat × Nat → Prop} {w w' : World} {tg tg' : Tags} {v : Value} {T : Nat × Nat} (h : Stp A w tg w' tg') (hv : Tag tg v T) (hA : A T) : Stp A w tg w' (unTag v tg') :=
  ⟨h.os, h.tape, h.output, h.size, fun k hk hn => ⟨(h.keep k hk hn).1, by
    have hne : ¬ v.ownBlock = some k := fun he => hn (by rw [hv k he]; exact hA)
    simp only [Proofs.YteiecbkfganhnaaGreat.unTag, hne, if_false]
    exact (h.keep k hk hn).2⟩⟩

theorem Own.unTag {w : World} {tg : Tags} {T U : Nat × Nat} {e size n : Nat} {v r : Value} {xs : List Value} (h : Own w tg U e size r n xs) (hv : Tag tg v T) (hne : U ≠ T) : Own w (unTag v tg) U e size r n xs :=
  ⟨h.1, fun x hx => by
    have hn : ¬ v.ownBlock = some x := fun he => hne ((h.2 x hx).symm.trans (hv x he))
    simp only [Proofs.YteiecbkfganhnaaGreat.unTag, hn, if_false]
    exact h.2 x hx⟩

theorem cells_new (w : World) (cs : Array Value) (t : TypeId) : ∀ j u, cs.toList[j]? = some u → (w.alloc (.cells cs t)).cell? ((⟨w.heap.size, 0, none⟩ : Addr).add j) = some u := by
  intro j u hj
  rw [add0, cell_of_row _ w.heap.size j _ _ _ (heap_alloc_new w _)]
  simpa using hj

theorem repl_set (es : List Ent) (x : Ent) (j : Nat) (hj : j < es.length) : (List.replicate j x ++ es.drop j).set j x = List.replicate (j + 1) x ++ es.drop (j + 1) := by
  rw [List.set_append_right _ _ (by simp), List.length_replicate, Nat.sub_self, List.drop_eq_getElem_cons hj, List.set_cons_zero, List.replicate_succ', List.append_assoc]
  rfl

theorem replT_set {α : Type} (es : List α) (x : α) (j : Nat) (hj : j < es.length) : (List.replicate j x ++ es.drop j).set j x = List.replicate (j + 1) x ++ es.drop (j + 1) := by
  rw [List.set_append_right _ _ (by simp), List.length_replicate, Nat.sub_self, List.drop_eq_getElem_cons hj, List.set_cons_zero, List.replicate_succ', List.append_assoc]
  rfl

theorem rep_one (xc : List Value) (h : ∀ u ∈ xc, u.oneCell' = true) (p : Nat) : ∀ u ∈ rep xc p, u.oneCell' = true := by
  intro u hu
  simp only [rep, List.mem_flatten, List.mem_replicate] at hu
  obtain ⟨l, ⟨_, rfl⟩, h2⟩ := hu
  exact h u h2

theorem repE_one (M : Int) (s : ByteArray) (p : Nat) : ∀ u ∈ rep [.int .i64 M, .string s] p, u.oneCell' = true :=
  rep_one _ (by intro u hu; simp at hu; rcases hu with rfl | rfl <;> rfl) p

theorem repT_one (s : ByteArray) (p : Nat) : ∀ u ∈ rep [.string s] p, u.oneCell' = true :=
  rep_one _ (by intro u hu; simp at hu; subst hu; rfl) p

theorem own_set1 {w : World} {tg : Tags} {T : Nat × Nat} {e n cap g j : Nat} {es : List ByteArray} (x : ByteArray) (h : Own w tg T e 1 (.slice (some ⟨g, 0, none⟩) n cap) n (tC es)) :
    Own (w.setCell ⟨g, j, none⟩ (.string x)) tg T e 1 (.slice (some ⟨g, 0, none⟩) n cap) n (tC (es.set j x)) := by
  obtain ⟨⟨hl, hr⟩, ht⟩ := h
  refine ⟨⟨by simpa using hl, ?_⟩, ht⟩
  rcases hr with ⟨hv, _⟩ | ⟨g', cap', cur, hv, hg, hh, h1, h2, h3, h4⟩
  · simp at hv
  · simp only [Value.slice.injEq, Option.some.injEq, Addr.mk.injEq, and_true, true_and] at hv
    obtain ⟨rfl, rfl⟩ := hv
    refine .inr ⟨g, cap, cur.setIfInBounds j (.string x), rfl, hg, heap_setCell_same w g _ cur e _ hh, h1, h2, by simpa using h3, ?_⟩
    simp only [Array.toList_setIfInBounds, List.take_set, h4, List.map_set]

theorem own_cells1 {w : World} {tg : Tags} {T : Nat × Nat} {e n cap j : Nat} {vo : Option Addr} {es : List ByteArray} (h : Own w tg T e 1 (.slice vo n cap) n (tC es)) (hj : j < n) :
    ∃ g, vo = some ⟨g, 0, none⟩ ∧ tg g = T ∧ w.frozen? ⟨g, j, none⟩ = false ∧ (∃ a, w.cell? ⟨g, j, none⟩ = some a) := by
  obtain ⟨⟨hl, hr⟩, ht⟩ := h
  rcases hr with ⟨hv, h0⟩ | ⟨g', cap', cur, hv, hg, hh, h1, h2, h3, h4⟩
  · omega
  · simp only [Value.slice.injEq, true_and] at hv
    obtain ⟨rfl, rfl⟩ := hv
    refine ⟨g', rfl, ht g' rfl, frozen_of_row w g' _ cur e hh, ?_⟩
    rw [cell_of_row w g' _ cur e _ hh]; exact ⟨cur[j], by simp⟩

end Go.Proofs.YteiecbkfganhnaaGreat

namespace Go.Proofs.YteiecbkfganhnaaGreat

open Go.RowKit

/-- Behind markEntries. -/
def MarkedE (i gb : Nat) (w : World) (tg : Tags) (c0 c1 c2 c3 : Value) (b : BV) (ne : Nat) (T : Nat × Nat) (w' : World) : Prop :=
  ∃ e tg', GameBlk w' gb c0 c1 c2 c3 { b with e := e } ∧ tg' gb = tG i ∧ MarkE i w' tg' e (ne + 1) ∧ Stp (fun U => U = tG i ∨ U = tE i ∨ U = T) w tg w' tg'

theorem mark_fin {i gb n ne N1 : Nat} {w W0 w3 w4 : World} {tg tg0 tg3 tg4 : Tags} {c0 c1 c2 c3 : Value} {b : BV} {T : Nat × Nat} {M : Int} {v o1 o2 o3 e' : Value} {xs : List Value} {n0 : Nat} {ys : List Value}
    (hTG : T ≠ tG i) (hTE : T ≠ tE i) (hT0 : T ≠ (0, 0)) (hn : n ≤ 1000000) (hN : N1 = 4 * ne) (hM : M = -1 - (ne : Int)) (hxl : xs.length = N1)
    (hW : ∀ (k : Nat) (v : Value), xs[k]? = some v → ∃ m, m ≤ 1000003 ∧ SeenE w tg v (List.replicate m (mkE (k / 4))))
    (hv : Own w tg T 66 2 v n0 ys) (hs0 : Stp (fun _ => False) w tg W0 tg0) (hs3 : Stp (fun U => U = T) W0 tg0 w3 tg3) (hs4 : Stp (fun U => U = tE i) w3 tg3 w4 tg4)
    (hO3 : Own w3 tg3 T 66 2 v n (rep [.int .i64 M, .string ⟨#[]⟩] n)) (h1 : Good w3 tg3 [.int .i64 M, .string ⟨#[]⟩] v o1 (n + 1)) (h2 : Good w3 tg3 [.int .i64 M, .string ⟨#[]⟩] v o2 (n + 2)) (h3 : Good w3 tg3 [.int .i64 M, .string ⟨#[]⟩] v o3 (n + 3))
    (hO4 : Own w4 tg4 (tE i) 22 1 e' (N1 + 4) (xs ++ [v, o1, o2, o3])) (hG4 : GameBlk w4 gb c0 c1 c2 c3 b) (hg4 : tg4 gb = tG i) :
    MarkedE i gb w tg c0 c1 c2 c3 b ne T (w4.setCell ⟨gb, 4, none⟩ e') := by
  have hs5 : Stp (fun U => U = tG i) w4 tg4 (w4.setCell ⟨gb, 4, none⟩ e') tg4 := Stp.setCell (a := ⟨gb, 4, none⟩) hg4 e'
  have hall : Stp (fun U => U = tG i ∨ U = tE i ∨ U = T) w tg (w4.setCell ⟨gb, 4, none⟩ e') tg4 :=
    (((hs0.mono fun _ h => h.elim).trans (hs3.mono fun _ h => .inr (.inr h))).trans (hs4.mono fun _ h => .inr (.inl h))).trans (hs5.mono fun _ h => .inl h)
  have hO5 := (hO3.step hs4 hTE).step hs5 hTG
  have hstep : ∀ {y : Value} {p : Nat}, Good w3 tg3 [.int .i64 M, .string ⟨#[]⟩] v y p → Good (w4.setCell ⟨gb, 4, none⟩ e') tg4 [.int .i64 M, .string ⟨#[]⟩] v y p := fun h =>
    (h.step hO3.2 hs4 (by simp) hTE).step (hO3.step hs4 hTE).2 hs5 (by simp) hTG
  have hfin := hall.unTag hv.2 (.inr (.inr rfl))
  refine ⟨e', unTag v tg4, hG4.setE e', ?_, ⟨xs ++ [v, o1, o2, o3], ?_, fun k y hk => ?_⟩, hfin⟩
  · have : ¬ v.ownBlock = some gb := fun he => hTG ((hO5.2 gb he).symm.trans hg4)
    simp only [unTag, this, if_false]
    exact hg4
  · rw [show 4 * (ne + 1) = N1 + 4 by omega]
    exact (hO4.step hs5 (by simp)).unTag hO5.2 (fun h => hTE h.symm)
  · by_cases hkl : k < xs.length
    · rw [List.getElem?_append_left hkl] at hk
      obtain ⟨m, hm, hse⟩ := hW k y hk
      refine ⟨m, hm, hse.step hfin ?_⟩
      rintro (h | h | h)
      · simp at h
      · simp at h
      · exact hT0 h.symm
    · have hk4 : k / 4 = ne := by
        have := (List.getElem?_eq_some_iff.1 hk).1
        simp at this
        omega
      rw [hk4]
      rw [List.getElem?_append_right (by omega)] at hk
      have hmk : mkE ne = (M, ⟨#[]⟩) := by rw [hM]
      rw [hmk]
      match k - xs.length, hk with
      | 0, hk => simp at hk; subst hk; exact ⟨n, by omega, seenE_self (x := (M, ⟨#[]⟩)) hO5⟩
      | 1, hk => simp at hk; subst hk; exact ⟨n + 1, by omega, (hstep h1).seenE (x := (M, ⟨#[]⟩))⟩
      | 2, hk => simp at hk; subst hk; exact ⟨n + 2, by omega, (hstep h2).seenE (x := (M, ⟨#[]⟩))⟩
      | 3, hk => simp at hk; subst hk; exact ⟨n + 3, by omega, (hstep h3).seenE (x := (M, ⟨#[]⟩))⟩
      | j + 4, hk => simp at hk

set_option maxRecDepth 100000 in
set_option maxHeartbeats 1000000 in
theorem markEntries_any (i gb : Nat) (w : World) (tg : Tags) (c0 c1 c2 c3 : Value) (b : BV) (ne : Nat) (T : Nat × Nat) (v : Value) (es : List Ent)
    (hG : GameBlk w gb c0 c1 c2 c3 b) (hg : tg gb = tG i) (hE : MarkE i w tg b.e ne) (hv : Own w tg T 66 2 v es.length (eC es)) (hTG : T ≠ tG i) (hTE : T ≠ tE i) (hT0 : T ≠ (0, 0)) (hT1 : T ≠ (0, 1)) (hes : es.length ≤ 1000000) (hl : ne ≤ 1000000000) :
    Calls Tryz.prog 84 #[.pointer (some ⟨gb, 4, none⟩), v] w fun e w' => e = .returned (.tuple #[]) ∧ MarkedE i gb w tg c0 c1 c2 c3 b ne T w' := by
  obtain ⟨xs, hx, hwl⟩ := hE.rows
  obtain ⟨N1, hN1⟩ : ∃ N, N = 4 * ne := ⟨_, rfl⟩
  rw [← hN1] at hx
  have hb1 : N1 ≤ 4000000000 := by omega
  obtain ⟨be, bm, bt, bwe, bre, bwm, brm, bwt, brt⟩ := b
  simp only at hx
  obtain ⟨ea, ec, rfl⟩ := hx.form
  obtain ⟨vo, vc, rfl⟩ := hv.form
  have g4 := hG.c4
  simp only at g4
  have HN1 := hide hN1
  have HG := hide hG
  have HW := hide hwl
  have HX := hide hx
  have HV := hide hv
  clear hG hE hwl hx hN1 hl hv
  go_enter Tryz.func84, Tryz.ntmps84
  go_wp2
  have hs0 : Stp (fun _ => False) w tg (w.alloc (Obj.cells #[.int .i64 (-1 - (N1 : Int) / 4), .string ⟨#[]⟩] 66)) (newTag w.heap.size tg (0, 1)) := Stp.alloc w tg _ (0, 1)
  have HX0 := hide ((unhide HX).step hs0 (fun h => h))
  have HV0 := hide ((unhide HV).step hs0 (fun h => h))
  have HG0 := hide ((unhide HG).step hg hs0 (fun h => h))
  have hmb : newTag w.heap.size tg (0, 1) w.heap.size = (0, 1) := newTag_new (Nat.le_refl _)
  have hmh := heap_alloc_new w (Obj.cells #[.int .i64 (-1 - (N1 : Int) / 4), .string ⟨#[]⟩] 66)
  have hml : w.heap.size < (w.alloc (Obj.cells #[.int .i64 (-1 - (N1 : Int) / 4), .string ⟨#[]⟩] 66)).heap.size := by simp
  have HM : Hid (-1 - (N1 : Int) / 4 = -1 - (ne : Int)) := by have := unhide HN1; show _ = _; omega
  replace hs0 := hide hs0
  replace hmb := hide hmb
  replace hmh := hide hmh
  replace hml := hide hml
  generalize -1 - (N1 : Int) / 4 = M at *
  generalize w.alloc (Obj.cells #[.int .i64 M, .string ⟨#[]⟩] 66) = W0 at *
  generalize newTag w.heap.size tg (0, 1) = tg0 at *
  generalize w.heap.size = mb at *
  go_loopw [5] (fun i wr => ∃ j : Nat, j ≤ es.length ∧ i = .int .i64 j ∧ Own wr tg0 T 66 2 (.slice vo es.length vc) es.length (eC (List.replicate j (M, ⟨#[]⟩) ++ es.drop j)) ∧ Stp (fun U => U = T) W0 tg0 wr tg0) (fun i _ => es.length - (intOf i).toNat)
  case atStart => exact ⟨0, Nat.zero_le _, rfl, by simpa using unhide HV0, Stp.refl _ _ _⟩
  case round =>
    obtain ⟨j, hj, rfl, ho, hs⟩ := hrel
    have hm := (hs.keep mb (unhide hml) (by rw [unhide hmb]; exact fun h => hT1 h.symm)).1.trans (unhide hmh)
    have m0 : wr.cell? ⟨mb, 0, none⟩ = some (.int .i64 M) := cell_of_row wr mb 0 _ _ _ hm
    have m1 : wr.cell? ⟨mb, 1, none⟩ = some (.string ⟨#[]⟩) := cell_of_row wr mb 1 _ _ _ hm
    by_cases hlt : j < es.length
    · obtain ⟨vg, rfl, tv, f0, f1, ⟨a0, k0⟩, ⟨a1, k1⟩⟩ := own_cells2 ho hlt
      have i1 : (0 : Int) ≤ (j : Int) := by omega
      have i2 : (j : Int) < (es.length : Int) := by omega
      replace ho := hide ho
      replace hs := hide hs
      replace tv := hide tv
      clear hm g4
      go_wp2
      go_roundw
      case rel =>
        refine ⟨j + 1, by omega, by go_num, ?_, ?_⟩
        · rw [← repl_set es (M, ⟨#[]⟩) j hlt]
          exact own_set2 (j := j) (M, ⟨#[]⟩) (unhide ho)
        · exact ((unhide hs).trans (Stp.setCell (a := ⟨vg, _, none⟩) (unhide tv) _)).trans (Stp.setCell (a := ⟨vg, _, none⟩) (unhide tv) _)
      case measure => simp [intOf]; omega
    · have hjn : j = es.length := by omega
      subst hjn
      obtain ⟨i0, hi, hz0, hz1, hz2⟩ := info_parts infoEntry
      obtain ⟨i9, hi9, hy0, hy1, hy2⟩ := info_parts infoSE
      have ho' : Own wr tg0 T 66 2 (.slice vo es.length vc) es.length (rep [.int .i64 M, .string ⟨#[]⟩] es.length) := by
        rw [← rep_eC (M, ⟨#[]⟩)]; simpa using ho
      have HO := hide ho'
      have HS := hide hs
      have HMH := hide hm
      clear hm ho ho' hs g4
      go_wp2_with (at_builtin; go_must (refine wpList_append_cases rfl (.tmp 27) (.tmp 29) 22 rfl 0 66 i0 _ 2 24 Tryz.underlying22 hi hz0 hz1 hz2 rfl (by decide) (.slice vo es.length vc) es.length (rep [.int .i64 M, .string ⟨#[]⟩] es.length) rfl ((unhide HO).1.alloc _) ⟨wr.heap.size, 0, none⟩ 1 1 (rep [.int .i64 M, .string ⟨#[]⟩] 1) rfl rfl (by exact cells_new _ _ _) (repE_one M _ _) (by decide) (by unfold maxLen; omega) (by omega) (Nat.zero_le _) ?_))
      intro g1 q1 w1 hown1 hc1
      obtain ⟨tg1, HO1, HS1, GD1, _⟩ := mark_push rfl hT0 (unhide HO) hown1 hc1 (by decide)
      have HM1 := HS1.keep mb (Nat.lt_of_lt_of_le (unhide hml) (unhide HS).size) (by rw [unhide hmb]; exact fun h => hT1 h.symm)
      have hm1 := HM1.1.trans (unhide HMH)
      have tm1 := HM1.2.trans (unhide hmb)
      have hl1 := Nat.lt_of_lt_of_le (Nat.lt_of_lt_of_le (unhide hml) (unhide HS).size) HS1.size
      have m2 : w1.cell? ⟨mb, 0, none⟩ = some (.int .i64 M) := cell_of_row w1 mb 0 _ _ _ hm1
      have m3 : w1.cell? ⟨mb, 1, none⟩ = some (.string ⟨#[]⟩) := cell_of_row w1 mb 1 _ _ _ hm1
      replace HO1 := hide HO1
      replace HS1 := hide ((unhide HS).trans HS1)
      replace GD1 := hide GD1
      replace hm1 := hide hm1
      replace tm1 := hide tm1
      replace hl1 := hide hl1
      clear hown1 hc1 HM1 m0 m1 HO HS HMH
      go_wp2_with (at_builtin; go_must (refine wpList_append_cases rfl (.tmp 31) (.tmp 34) 22 rfl 0 66 i0 _ 2 24 Tryz.underlying22 hi hz0 hz1 hz2 rfl (by decide) (.slice vo es.length vc) es.length (rep [.int .i64 M, .string ⟨#[]⟩] es.length) rfl ((unhide HO1).1.alloc _) ⟨w1.heap.size, 0, none⟩ 2 2 (rep [.int .i64 M, .string ⟨#[]⟩] 2) rfl rfl (by exact cells_new _ _ _) (repE_one M _ _) (by decide) (by unfold maxLen; omega) (by omega) (Nat.zero_le _) ?_))
      intro g2 q2 w2 hown2 hc2
      obtain ⟨tg2, HO2, HS2, GD2, GP2⟩ := mark_push rfl hT0 (unhide HO1) hown2 hc2 (by decide)
      have GD12 := hide (GP2 _ _ (unhide GD1) (by omega))
      have HM2 := HS2.keep mb (unhide hl1) (by rw [unhide tm1]; exact fun h => hT1 h.symm)
      have hm2 := HM2.1.trans (unhide hm1)
      have tm2 := HM2.2.trans (unhide tm1)
      have hl2 := Nat.lt_of_lt_of_le (unhide hl1) HS2.size
      have m4 : w2.cell? ⟨mb, 0, none⟩ = some (.int .i64 M) := cell_of_row w2 mb 0 _ _ _ hm2
      have m5 : w2.cell? ⟨mb, 1, none⟩ = some (.string ⟨#[]⟩) := cell_of_row w2 mb 1 _ _ _ hm2
      replace HO2 := hide HO2
      replace HS2 := hide ((unhide HS1).trans HS2)
      replace GD2 := hide GD2
      clear hown2 hc2 HM2 hm2 tm2 hl2 m2 m3 HO1 HS1 GD1 GP2 hm1 tm1 hl1
      go_wp2_with (at_builtin; go_must (refine wpList_append_cases rfl (.tmp 36) (.tmp 40) 22 rfl 0 66 i0 _ 2 24 Tryz.underlying22 hi hz0 hz1 hz2 rfl (by decide) (.slice vo es.length vc) es.length (rep [.int .i64 M, .string ⟨#[]⟩] es.length) rfl ((unhide HO2).1.alloc _) ⟨w2.heap.size, 0, none⟩ 3 3 (rep [.int .i64 M, .string ⟨#[]⟩] 3) rfl rfl (by exact cells_new _ _ _) (repE_one M _ _) (by decide) (by unfold maxLen; omega) (by omega) (Nat.zero_le _) ?_))
      intro g3 q3 w3 hown3 hc3
      obtain ⟨tg3, HO3, HS3, GD3, GP3⟩ := mark_push rfl hT0 (unhide HO2) hown3 hc3 (by decide)
      have GD13 := hide (GP3 _ _ (unhide GD12) (by omega))
      have GD23 := hide (GP3 _ _ (unhide GD2) (by omega))
      replace HS3 := (unhide HS2).trans HS3
      have HX3 := hide ((unhide HX0).step HS3 (fun h => hTE h.symm))
      obtain ⟨hG3, hg3⟩ := (unhide HG0).1.step (unhide HG0).2 HS3 (fun h => hTG h.symm)
      have k4 := hG3.c4
      simp only at k4
      have f4 := hG3.free 4
      replace HS3 := hide HS3
      replace HO3 := hide HO3
      replace GD3 := hide GD3
      replace hG3 := hide hG3
      replace hg3 := hide hg3
      clear hown3 hc3 GP3 m4 m5 HO2 HS2 GD2 GD12
      go_wp2_with (at_builtin; go_must (refine wpList_append_lies _ rfl (.tmp 46) (.tmp 51) 47 rfl 0 22 i9 _ 1 24 Tryz.underlying47 hi9 hy0 hy1 hy2 rfl (by decide) (.slice ea N1 ec) N1 xs rfl ((unhide HX3).1.alloc _) ⟨w3.heap.size, 0, none⟩ 4 4 [.slice vo es.length vc, .slice (some ⟨g1, 0, none⟩) (es.length + 1) q1, .slice (some ⟨g2, 0, none⟩) (es.length + 2) q2, .slice (some ⟨g3, 0, none⟩) (es.length + 3) q3] rfl rfl (by exact cells_new _ _ _) (by intro u hu; simp at hu; rcases hu with rfl | rfl | rfl | rfl <;> rfl) (by decide) (by unfold maxLen; omega) (by omega) (Nat.zero_le _) (w3.heap.size + 1) (by simp) ?_))
      intro g4 q4 w4 hown4 hgrow4 hat4 hlt4
      obtain ⟨tg4, HO4, HS4⟩ := (unhide HX3).pushed hgrow4 hown4 hat4
      obtain ⟨hG4, hg4⟩ := (unhide hG3).step (unhide hg3) HS4 (by simp)
      have k4' := hG4.c4
      have f4' := hG4.free 4
      replace HO4 := hide HO4
      replace HS4 := hide HS4
      replace hG4 := hide hG4
      replace hg4 := hide hg4
      clear hown4 hgrow4 hat4 hlt4 k4 f4
      go_wp2
      go_end0
      exact ⟨rfl, mark_fin hTG hTE hT0 hes (unhide HN1) (unhide HM) (by simpa using (unhide HX).1.1) (unhide HW) (unhide HV) (unhide hs0) (unhide HS3) (unhide HS4) (unhide HO3) (unhide GD13) (unhide GD23) (unhide GD3) (unhide HO4) (unhide hG4) (unhide hg4)⟩

/-- Behind markTexts. -/
def MarkedT (i gb : Nat) (w : World) (tg : Tags) (c0 c1 c2 c3 : Value) (b : BV) (ne : Nat) (T : Nat × Nat) (w' : World) : Prop :=
  ∃ e tg', GameBlk w' gb c0 c1 c2 c3 { b with t := e } ∧ tg' gb = tG i ∧ MarkT i w' tg' e (ne + 1) ∧ Stp (fun U => U = tG i ∨ U = tT i ∨ U = T) w tg w' tg'

theorem mark_finT {i gb n ne N1 : Nat} {w W0 w3 w4 : World} {tg tg0 tg3 tg4 : Tags} {c0 c1 c2 c3 : Value} {b : BV} {T : Nat × Nat} {M : ByteArray} {v o1 o2 o3 e' : Value} {xs : List Value} {n0 : Nat} {ys : List Value}
    (hTG : T ≠ tG i) (hTE : T ≠ tT i) (hT0 : T ≠ (0, 0)) (hn : n ≤ 1000000) (hN : N1 = 4 * ne) (hM : M = txt ne) (hxl : xs.length = N1)
    (hW : ∀ (k : Nat) (v : Value), xs[k]? = some v → ∃ m, m ≤ 1000003 ∧ SeenT w tg v (List.replicate m (txt (k / 4))))
    (hv : Own w tg T 9 1 v n0 ys) (hs0 : Stp (fun _ => False) w tg W0 tg0) (hs3 : Stp (fun U => U = T) W0 tg0 w3 tg3) (hs4 : Stp (fun U => U = tT i) w3 tg3 w4 tg4)
    (hO3 : Own w3 tg3 T 9 1 v n (rep [.string M] n)) (h1 : Good w3 tg3 [.string M] v o1 (n + 1)) (h2 : Good w3 tg3 [.string M] v o2 (n + 2)) (h3 : Good w3 tg3 [.string M] v o3 (n + 3))
    (hO4 : Own w4 tg4 (tT i) 99 1 e' (N1 + 4) (xs ++ [v, o1, o2, o3])) (hG4 : GameBlk w4 gb c0 c1 c2 c3 b) (hg4 : tg4 gb = tG i) :
    MarkedT i gb w tg c0 c1 c2 c3 b ne T (w4.setCell ⟨gb, 6, none⟩ e') := by
  have hs5 : Stp (fun U => U = tG i) w4 tg4 (w4.setCell ⟨gb, 6, none⟩ e') tg4 := Stp.setCell (a := ⟨gb, 6, none⟩) hg4 e'
  have hall : Stp (fun U => U = tG i ∨ U = tT i ∨ U = T) w tg (w4.setCell ⟨gb, 6, none⟩ e') tg4 :=
    (((hs0.mono fun _ h => h.elim).trans (hs3.mono fun _ h => .inr (.inr h))).trans (hs4.mono fun _ h => .inr (.inl h))).trans (hs5.mono fun _ h => .inl h)
  have hO5 := (hO3.step hs4 hTE).step hs5 hTG
  have hstep : ∀ {y : Value} {p : Nat}, Good w3 tg3 [.string M] v y p → Good (w4.setCell ⟨gb, 6, none⟩ e') tg4 [.string M] v y p := fun h =>
    (h.step hO3.2 hs4 (by simp) hTE).step (hO3.step hs4 hTE).2 hs5 (by simp) hTG
  have hfin := hall.unTag hv.2 (.inr (.inr rfl))
  refine ⟨e', unTag v tg4, hG4.setT e', ?_, ⟨xs ++ [v, o1, o2, o3], ?_, fun k y hk => ?_⟩, hfin⟩
  · have : ¬ v.ownBlock = some gb := fun he => hTG ((hO5.2 gb he).symm.trans hg4)
    simp only [unTag, this, if_false]
    exact hg4
  · rw [show 4 * (ne + 1) = N1 + 4 by omega]
    exact (hO4.step hs5 (by simp)).unTag hO5.2 (fun h => hTE h.symm)
  · by_cases hkl : k < xs.length
    · rw [List.getElem?_append_left hkl] at hk
      obtain ⟨m, hm, hse⟩ := hW k y hk
      refine ⟨m, hm, hse.step hfin ?_⟩
      rintro (h | h | h)
      · simp at h
      · simp at h
      · exact hT0 h.symm
    · have hk4 : k / 4 = ne := by
        have := (List.getElem?_eq_some_iff.1 hk).1
        simp at this
        omega
      rw [hk4]
      rw [List.getElem?_append_right (by omega)] at hk
      rw [← hM]
      match k - xs.length, hk with
      | 0, hk => simp at hk; subst hk; exact ⟨n, by omega, seenT_self hO5⟩
      | 1, hk => simp at hk; subst hk; exact ⟨n + 1, by omega, (hstep h1).seenT⟩
      | 2, hk => simp at hk; subst hk; exact ⟨n + 2, by omega, (hstep h2).seenT⟩
      | 3, hk => simp at hk; subst hk; exact ⟨n + 3, by omega, (hstep h3).seenT⟩
      | j + 4, hk => simp at hk

set_option maxRecDepth 100000 in
set_option maxHeartbeats 1000000 in
theorem markTexts_any (i gb : Nat) (w : World) (tg : Tags) (c0 c1 c2 c3 : Value) (b : BV) (ne : Nat) (T : Nat × Nat) (v : Value) (es : List ByteArray)
    (hG : GameBlk w gb c0 c1 c2 c3 b) (hg : tg gb = tG i) (hE : MarkT i w tg b.t ne) (hv : Own w tg T 9 1 v es.length (tC es)) (hTG : T ≠ tG i) (hTE : T ≠ tT i) (hT0 : T ≠ (0, 0)) (hes : es.length ≤ 1000000) (hl : ne ≤ 1000000000) :
    Calls Tryz.prog 86 #[.pointer (some ⟨gb, 4, none⟩), v] w fun e w' => e = .returned (.tuple #[]) ∧ MarkedT i gb w tg c0 c1 c2 c3 b ne T w' := by
  obtain ⟨xs, hx, hwl⟩ := hE.rows
  obtain ⟨N1, hN1⟩ : ∃ N, N = 4 * ne := ⟨_, rfl⟩
  rw [← hN1] at hx
  have hb1 : N1 ≤ 4000000000 := by omega
  obtain ⟨be, bm, bt, bwe, bre, bwm, brm, bwt, brt⟩ := b
  simp only at hx
  obtain ⟨ea, ec, rfl⟩ := hx.form
  obtain ⟨vo, vc, rfl⟩ := hv.form
  have g4 := hG.c6
  simp only at g4
  have HN1 := hide hN1
  have HNE := hide hl
  have HG := hide hG
  have HW := hide hwl
  have HX := hide hx
  have HV := hide hv
  clear hG hE hwl hx hN1 hl hv
  go_enter Tryz.func86, Tryz.ntmps86
  go_wp2_with (go_at_call 88; refine (text_at _ ne _ (by have := unhide HNE; omega) (by have := unhide HN1; omega)).mono ?_; rintro e W0 ⟨rfl, hb0⟩)
  have hs0 : Stp (fun _ => False) w tg W0 (newTag w.heap.size tg (0, 0)) := Stp.ofBelow hb0 tg (0, 0)
  have HX0 := hide ((unhide HX).step hs0 (fun h => h))
  have HV0 := hide ((unhide HV).step hs0 (fun h => h))
  have HG0 := hide ((unhide HG).step hg hs0 (fun h => h))
  obtain ⟨M, hM⟩ : ∃ M, M = txt ne := ⟨_, rfl⟩
  rw [← hM]
  replace hM := hide hM
  replace hs0 := hide hs0
  clear hb0
  generalize newTag w.heap.size tg (0, 0) = tg0 at *
  go_loopw [5] (fun i wr => ∃ j : Nat, j ≤ es.length ∧ i = .int .i64 j ∧ Own wr tg0 T 9 1 (.slice vo es.length vc) es.length (tC (List.replicate j M ++ es.drop j)) ∧ Stp (fun U => U = T) W0 tg0 wr tg0) (fun i _ => es.length - (intOf i).toNat)
  case atStart => exact ⟨0, Nat.zero_le _, rfl, by simpa using unhide HV0, Stp.refl _ _ _⟩
  case round =>
    obtain ⟨j, hj, rfl, ho, hs⟩ := hrel
    by_cases hlt : j < es.length
    · obtain ⟨vg, rfl, tv, f0, ⟨a0, k0⟩⟩ := own_cells1 ho hlt
      have i1 : (0 : Int) ≤ (j : Int) := by omega
      have i2 : (j : Int) < (es.length : Int) := by omega
      replace ho := hide ho
      replace hs := hide hs
      replace tv := hide tv
      clear g4
      go_wp2
      go_roundw
      case rel =>
        refine ⟨j + 1, by omega, by go_num, ?_, ?_⟩
        · rw [← replT_set es M j hlt]
          exact own_set1 (j := j) M (unhide ho)
        · exact (unhide hs).trans (Stp.setCell (a := ⟨vg, _, none⟩) (unhide tv) _)
      case measure => simp [intOf]; omega
    · have hjn : j = es.length := by omega
      subst hjn
      obtain ⟨i0, hi, hz0, hz1, hz2⟩ := info_parts infoStr
      obtain ⟨i9, hi9, hy0, hy1, hy2⟩ := info_parts infoST
      have ho' : Own wr tg0 T 9 1 (.slice vo es.length vc) es.length (rep [.string M] es.length) := by
        rw [← rep_tC]; simpa using ho
      have HO := hide ho'
      have HS := hide hs
      clear ho ho' hs g4
      go_wp2_with (at_builtin; go_must (refine wpList_append_cases rfl (.tmp 26) (.tmp 28) 99 rfl 0 9 i0 _ 1 16 Tryz.underlying99 hi hz0 hz1 hz2 rfl (by decide) (.slice vo es.length vc) es.length (rep [.string M] es.length) rfl ((unhide HO).1.alloc _) ⟨wr.heap.size, 0, none⟩ 1 1 (rep [.string M] 1) rfl rfl (by exact cells_new _ _ _) (repT_one M _) (by decide) (by unfold maxLen; omega) (by omega) (Nat.zero_le _) ?_))
      intro g1 q1 w1 hown1 hc1
      obtain ⟨tg1, HO1, HS1, GD1, _⟩ := mark_push rfl hT0 (unhide HO) hown1 hc1 (by decide)
      replace HO1 := hide HO1
      replace HS1 := hide ((unhide HS).trans HS1)
      replace GD1 := hide GD1
      clear hown1 hc1 HO HS
      go_wp2_with (at_builtin; go_must (refine wpList_append_cases rfl (.tmp 30) (.tmp 33) 99 rfl 0 9 i0 _ 1 16 Tryz.underlying99 hi hz0 hz1 hz2 rfl (by decide) (.slice vo es.length vc) es.length (rep [.string M] es.length) rfl ((unhide HO1).1.alloc _) ⟨w1.heap.size, 0, none⟩ 2 2 (rep [.string M] 2) rfl rfl (by exact cells_new _ _ _) (repT_one M _) (by decide) (by unfold maxLen; omega) (by omega) (Nat.zero_le _) ?_))
      intro g2 q2 w2 hown2 hc2
      obtain ⟨tg2, HO2, HS2, GD2, GP2⟩ := mark_push rfl hT0 (unhide HO1) hown2 hc2 (by decide)
      have GD12 := hide (GP2 _ _ (unhide GD1) (by omega))
      replace HO2 := hide HO2
      replace HS2 := hide ((unhide HS1).trans HS2)
      replace GD2 := hide GD2
      clear hown2 hc2 HO1 HS1 GD1 GP2
      go_wp2_with (at_builtin; go_must (refine wpList_append_cases rfl (.tmp 35) (.tmp 39) 99 rfl 0 9 i0 _ 1 16 Tryz.underlying99 hi hz0 hz1 hz2 rfl (by decide) (.slice vo es.length vc) es.length (rep [.string M] es.length) rfl ((unhide HO2).1.alloc _) ⟨w2.heap.size, 0, none⟩ 3 3 (rep [.string M] 3) rfl rfl (by exact cells_new _ _ _) (repT_one M _) (by decide) (by unfold maxLen; omega) (by omega) (Nat.zero_le _) ?_))
      intro g3 q3 w3 hown3 hc3
      obtain ⟨tg3, HO3, HS3, GD3, GP3⟩ := mark_push rfl hT0 (unhide HO2) hown3 hc3 (by decide)
      have GD13 := hide (GP3 _ _ (unhide GD12) (by omega))
      have GD23 := hide (GP3 _ _ (unhide GD2) (by omega))
      replace HS3 := (unhide HS2).trans HS3
      have HX3 := hide ((unhide HX0).step HS3 (fun h => hTE h.symm))
      obtain ⟨hG3, hg3⟩ := (unhide HG0).1.step (unhide HG0).2 HS3 (fun h => hTG h.symm)
      have k4 := hG3.c6
      simp only at k4
      have f4 := hG3.free 6
      replace HS3 := hide HS3
      replace HO3 := hide HO3
      replace GD3 := hide GD3
      replace hG3 := hide hG3
      replace hg3 := hide hg3
      clear hown3 hc3 GP3 HO2 HS2 GD2 GD12
      go_wp2_with (at_builtin; go_must (refine wpList_append_lies _ rfl (.tmp 45) (.tmp 50) 49 rfl 0 99 i9 _ 1 24 Tryz.underlying49 hi9 hy0 hy1 hy2 rfl (by decide) (.slice ea N1 ec) N1 xs rfl ((unhide HX3).1.alloc _) ⟨w3.heap.size, 0, none⟩ 4 4 [.slice vo es.length vc, .slice (some ⟨g1, 0, none⟩) (es.length + 1) q1, .slice (some ⟨g2, 0, none⟩) (es.length + 2) q2, .slice (some ⟨g3, 0, none⟩) (es.length + 3) q3] rfl rfl (by exact cells_new _ _ _) (by intro u hu; simp at hu; rcases hu with rfl | rfl | rfl | rfl <;> rfl) (by decide) (by unfold maxLen; omega) (by omega) (Nat.zero_le _) (w3.heap.size + 1) (by simp) ?_))
      intro g4 q4 w4 hown4 hgrow4 hat4 hlt4
      obtain ⟨tg4, HO4, HS4⟩ := (unhide HX3).pushed hgrow4 hown4 hat4
      obtain ⟨hG4, hg4⟩ := (unhide hG3).step (unhide hg3) HS4 (by simp)
      have k4' := hG4.c6
      have f4' := hG4.free 6
      replace HO4 := hide HO4
      replace HS4 := hide HS4
      replace hG4 := hide hG4
      replace hg4 := hide hg4
      clear hown4 hgrow4 hat4 hlt4 k4 f4
      go_wp2
      go_end0
      exact ⟨rfl, mark_finT hTG hTE hT0 hes (unhide HN1) (unhide hM) (by simpa using (unhide HX).1.1) (unhide HW) (unhide HV) (unhide hs0) (unhide HS3) (unhide HS4) (unhide HO3) (unhide GD13) (unhide GD23) (unhide GD3) (unhide HO4) (unhide hG4) (unhide hg4)⟩

end Go.Proofs.YteiecbkfganhnaaGreat

namespace Go.Proofs.YteiecbkfganhnaaGreat

open Go.RowKit

/-- The roles of a game's book. -/
def Abook (i : Nat) (U : Nat × Nat) : Prop := 20 * i < U.1 ∧ U.1 < 20 * i + 20

theorem waitE_nil (i : Nat) (w : World) (tg : Tags) : WaitE i w tg (.slice none 0 0) (.slice none 0 0) [] := ⟨[], [], Own.nil _ _ _ _ _, Own.nil _ _ _ _ _, fun k es h => by simp at h⟩

theorem waitT_nil (i : Nat) (w : World) (tg : Tags) : WaitT i w tg (.slice none 0 0) (.slice none 0 0) [] := ⟨[], [], Own.nil _ _ _ _ _, Own.nil _ _ _ _ _, fun k es h => by simp at h⟩

abbrev A1 (i k : Nat) : Nat × Nat → Prop := fun U => U = tG i ∨ U = tE i ∨ ∃ j, j < k ∧ U = tLE i j

abbrev A2 (i k : Nat) : Nat × Nat → Prop := fun U => U = tG i ∨ U = tT i ∨ ∃ j, j < k ∧ U = tLT i j

/-- The six cells of lists that wait are emptied. -/
abbrev emptied (w : World) (gb : Nat) : World :=
  (((((w.setCell ⟨gb, 7, none⟩ (.slice none 0 0)).setCell ⟨gb, 8, none⟩ (.slice none 0 0)).setCell ⟨gb, 9, none⟩ (.slice none 0 0)).setCell ⟨gb, 10, none⟩ (.slice none 0 0)).setCell ⟨gb, 11, none⟩ (.slice none 0 0)).setCell ⟨gb, 12, none⟩ (.slice none 0 0)

end Go.Proofs.YteiecbkfganhnaaGreat
