/- The program's node: isFull, put, spread. -/
import Derived.Test.YteiecbkfganhnaaCnt
import Derived.Deep.AppendLies
namespace Go.Proofs.Yteiecbkfganhnaa
open Go.RowKit Go.MuLone

/-- All but the node's own block and its log's is as it was; a new log lies in the old one's block, or in a new one. -/
structure Ev (nb : Nat) (lv lv' : Value) (w w' : World) : Prop where
  os : w'.os = w.os
  tape : w'.tape = w.tape
  output : w'.output = w.output
  size : w.heap.size ≤ w'.heap.size
  block : ∀ k, k < w.heap.size → k ≠ nb → lv.ownBlock ≠ some k → w'.heap[k]? = w.heap[k]?
  own : lv'.ownBlock = lv.ownBlock ∨ ∀ x, lv'.ownBlock = some x → w.heap.size ≤ x

theorem Ev.ofEw {nb : Nat} {lv : Value} {w w' : World} (h : Ew nb w w') : Ev nb lv lv w w' := ⟨h.os, h.tape, h.output, h.size, fun k a b _ => h.block k a b, .inl rfl⟩
theorem Ev.refl (nb : Nat) (lv : Value) (w : World) : Ev nb lv lv w w := Ev.ofEw (Ew.refl nb w)
theorem Ev.trans {nb : Nat} {l1 l2 l3 : Value} {a b c : World} (h : Ev nb l1 l2 a b) (k : Ev nb l2 l3 b c) : Ev nb l1 l3 a c := by
  refine ⟨k.os.trans h.os, k.tape.trans h.tape, k.output.trans h.output, Nat.le_trans h.size k.size, fun i hi hn hl => ?_, ?_⟩
  · refine (k.block i (Nat.lt_of_lt_of_le hi h.size) hn (fun e => ?_)).trans (h.block i hi hn hl)
    rcases h.own with h1 | h1
    · exact hl (h1 ▸ e)
    · have := h1 i e; omega
  · rcases k.own with h2 | h2
    · rcases h.own with h1 | h1
      · exact .inl (h2.trans h1)
      · exact .inr fun x hx => h1 x (h2 ▸ hx)
    · exact .inr fun x hx => Nat.le_trans h.size (h2 x hx)
theorem Ev.ew {nb : Nat} {lv lv' : Value} {w w1 w2 : World} (h : Ev nb lv lv' w w1) (k : Ew nb w1 w2) : Ev nb lv lv' w w2 := h.trans (Ev.ofEw k)

theorem others_lt (s : Nd) : ∀ t ∈ s.others, t < s.n := by
  intro t ht
  simp only [Nd.others, List.mem_filter, List.mem_range] at ht
  exact ht.1

theorem NB.drew {mu : Int} {w : World} {nb : Nat} {s : Nd} {lv : Value} (h : NB mu w nb s lv) : NB mu w.drew nb s lv := h
theorem NB.under {mu : Int} {w : World} {nb : Nat} {s : Nd} {lv : Value} (h : NB mu w nb s lv) (o : Obj) : NB mu (w.alloc o) nb s lv := heap_under h o
theorem NL.drew {w : World} {s : Nd} {lv : Value} (h : NL w s lv) : NL w.drew s lv := h

/-- What was sent shares no room with the log. -/
def Apart (lv : Value) (l : List (Msg × Value)) : Prop := ∀ x ∈ l, ∀ y, lv.ownBlock = some y → x.2.ownBlock ≠ some y

theorem apart_of {w1 w' : World} {s : Nd} {lv v : Value} {ms : List Msg} {l : List (Msg × Value)} (hL : NL w1 s lv) (hM : MsgsOut w' w1.heap.size v ms l) : Apart lv l := fun x hx y hy hxy => by
  have h1 := ((hM.ents x hx).lt y hxy).1
  have h2 := owns_lt hL y hy
  omega

/-- What comes of a call that may turn the node, its log and send messages. -/
def Sent (mu : Int) (nb : Nat) (lv : Value) (w : World) (r : Nd × List Msg) (e : Ending) (w' : World) : Prop :=
  ∃ v l lv', e = .returned v ∧ NB mu w' nb r.1 lv' ∧ NL w' r.1 lv' ∧ MsgsOut w' w.heap.size v r.2 l ∧ Ev nb lv lv' w w' ∧ Apart lv' l

/-- Behind a take. -/
def Took (mu : Int) (nb : Nat) (lv : Value) (w : World) (t : Nd) (w' : World) : Prop := ∃ lv', NB mu w' nb t lv' ∧ NL w' t lv' ∧ Ev nb lv lv' w w'

theorem take_log {mu : Int} {nb g cap n : Nat} {w w' : World} {s : Nd} {lv pv : Value} {l : List Ent} (h : NB mu w nb s lv) (hl : NL w s lv) (hp : pv.ownBlock = lv.ownBlock) (hg : w.grownBy w' pv.ownBlock)
    (ho : w'.ownsRow 0 78 2 (.slice (some ⟨g, 0, none⟩) n cap) n (eC l)) (hn : n = l.length) (hat : pv.ownBlock = some g ∨ g = w.heap.size) :
    Took mu nb lv w { s with log := l } (w'.setCell ⟨nb, 6, none⟩ (.slice (some ⟨g, 0, none⟩) n cap)) := by
  subst hn
  have hN : NB mu w' nb s lv := (hg.block nb h.lt (fun e => hl.apart h (hp ▸ e.symm))).trans h
  have hgn : g ≠ nb := by
    rcases hat with e | e
    · intro hx; subst hx; exact hl.apart h (hp ▸ e)
    · have := h.lt; omega
  refine ⟨.slice (some ⟨g, 0, none⟩) l.length cap, hN.setLog _ _, ?_, ?_⟩
  · have h1 : NL w' { s with log := l } (.slice (some ⟨g, 0, none⟩) l.length cap) := ho
    exact owns_kept h1 fun y hy => Below.heap_setCell _ _ _ _ (by simp [Value.ownBlock] at hy; simp only; omega)
  · refine ⟨hg.os, hg.tape, hg.output, ?_, fun k hk hnk hl2 => ?_, ?_⟩
    · have := hg.size
      simp [World.setCell] at this ⊢
      omega
    · rw [Below.heap_setCell _ _ _ _ (by simpa using hnk), hg.block k hk (fun e => hl2 (hp ▸ e.symm))]
    · rcases hat with e | e
      · exact .inl (by rw [← hp, e]; rfl)
      · exact .inr fun y hy => by simp [Value.ownBlock] at hy; omega

theorem Took.ahead {mu : Int} {nb : Nat} {lv : Value} {w w1 w' : World} {t : Nd} (h : Below w.heap.size w w1) (hs : Took mu nb lv w1 t w') : Took mu nb lv w t w' := by
  obtain ⟨lv', hN, hL, hV⟩ := hs
  exact ⟨lv', hN, hL, (Ev.ofEw (Ew.ofBelow h)).trans hV⟩

set_option maxRecDepth 100000 in
set_option maxHeartbeats 400000 in
theorem isFull_any (mu : Int) (nb : Nat) (s : Nd) (lv : Value) (w : World) (h : NB mu w nb s lv) (hl : NL w s lv) :
    Calls Try.prog 31 #[.pointer (some ⟨nb, 0, none⟩)] w fun e w' => e = .returned (.bool (decide (60 ≤ s.last))) ∧ w' = w := by
  have HF := hide hl.form
  have H := hide h
  clear h hl
  have HD : Hid (decide (60 ≤ s.last) = decide ((60 : Int) ≤ (s.last : Int))) := by
    show _ = _
    by_cases h : 60 ≤ s.last
    · rw [decide_eq_true h, decide_eq_true (by omega)]
    · rw [decide_eq_false h, decide_eq_false (by omega)]
  go_enter Try.func31, Try.ntmps31
  go_wp2_with (go_at_call 33; refine (last_any mu nb s _ _ (unhide H) (unhide HF)).mono ?_; rintro e w1 ⟨rfl, h1⟩; cases h1.symm)
  go_ret
  exact ⟨by rw [unhide HD]; rfl, rfl⟩

set_option maxRecDepth 100000 in
set_option maxHeartbeats 1000000 in
theorem spread_any (mu : Int) (nb : Nat) (s : Nd) (lv : Value) (w : World) (h : NB mu w nb s lv) (hl : NL w s lv) (hs : s.last ≤ 60) (hn : s.n ≤ 7) (hid : s.id < s.n) (hol : OwnLast s.leadC) (hld : Leads s.leadC.count) :
    Calls Try.prog 34 #[.pointer (some ⟨nb, 0, none⟩)] w fun e w' => Sent mu nb lv w (s.leadC.count, s.leadC.count.appends) e w' := by
  have m2 := h.c2
  have m26 := h.mt (i := s.id) (by omega)
  have q26 := h.free (26 + s.id)
  have hid7 : ((s.id : Int) < 7) := by omega
  have hid0 : (0 : Int) ≤ (s.id : Int) := by omega
  have HF := hide hl.form
  have HN := hide h
  have HNL := hide hl
  have HN3 := hide (h.setMt (i := s.id) (by omega) s.last)
  have z2 : (w.setCell ⟨nb, 26 + s.id, none⟩ (.int .i64 (s.last : Int))).drew.cell? ⟨nb, 2, none⟩ = some (.int .i64 (s.id : Int)) := (unhide HN3).drew.c2
  have HOL := hide hol
  have HLD := hide hld
  clear h hl hol hld
  go_enter Try.func34, Try.ntmps34
  go_wp2
  go_region_held3 (fun w' => w'.cell? ⟨nb, 2, none⟩ = some (.int .i64 (s.id : Int))) (first | go_keep | exact z2 | (trace_state; fail)) (first | (go_at_call 33; refine (last_any mu nb s lv _ (by exact unhide HN) (unhide HF)).mono ?_; rintro e w1 ⟨rfl, rfl⟩))
  all_goals
    have HN4 : Hid (NB mu (w.setCell ⟨nb, 26 + s.id, none⟩ (.int .i64 (s.last : Int))).drew nb s.leadC lv) := (unhide HN3).drew
    have HE4 : Hid (Ew nb w (w.setCell ⟨nb, 26 + s.id, none⟩ (.int .i64 (s.last : Int))).drew) := ((Ew.refl nb w).set _ _).drew
    have HNL4 : Hid (NL (w.setCell ⟨nb, 26 + s.id, none⟩ (.int .i64 (s.last : Int))).drew s.leadC lv) := (unhide HNL).ew (unhide HN) (unhide HE4)
    have HV4 : Hid (Ev nb lv lv w (w.setCell ⟨nb, 26 + s.id, none⟩ (.int .i64 (s.last : Int))).drew) := Ev.ofEw (unhide HE4)
    have HCN : Hid (s.leadC.count.n ≤ 7) := hn
    clear m2 m26 q26 HN3 HE4 z2
    generalize (w.setCell ⟨nb, 26 + s.id, none⟩ (.int .i64 (s.last : Int))).drew = W4 at *
    go_wp2_with (first | (go_at_call 52; refine (count_any mu nb s.leadC lv W4 (unhide HN4) (unhide HNL4) hs hn (unhide HOL)).mono ?_; rintro e w5 ⟨rfl, hN5, hE5⟩; have hNL5 : NL w5 s.leadC.count lv := ((unhide HNL4).ew (unhide HN4) hE5); have hV5 := hide ((unhide HV4).ew hE5); replace hN5 := hide hN5; replace hNL5 := hide hNL5; clear hE5) | (go_at_call 54; refine (others_any mu nb s.leadC.count lv w5 (unhide hN5) (unhide HCN)).mono ?_; rintro e w6 ⟨ov, rfl, ho6, hb6⟩; replace ho6 := hide ho6; replace hb6 := hide hb6) | (go_at_call 53; refine (sendAppends_any mu nb s.leadC.count lv s.leadC.count.others ov w6 ((unhide hN5).below (unhide hb6)) ((unhide hNL5).below (unhide hb6)) (unhide HLD) (unhide HCN) (ints_of_owns (unhide ho6)) (others_lt s.leadC.count) (others_len (unhide HCN))).mono ?_; rintro e w7 ⟨v, l, rfl, hm7, hb7⟩; replace hm7 := hide hm7; replace hb7 := hide hb7))
    go_ret
    exact ⟨_, l, lv, rfl, ((unhide hN5).below (unhide hb6)).below (unhide hb7), ((unhide hNL5).below (unhide hb6)).below (unhide hb7), (unhide hm7).base (Nat.le_trans (unhide hV5).size (unhide hb6).size), ((unhide hV5).ew (Ew.ofBelow (unhide hb6))).ew (Ew.ofBelow (unhide hb7)), apart_of ((unhide hNL5).below (unhide hb6)) (unhide hm7)⟩

set_option maxRecDepth 100000 in
set_option maxHeartbeats 1000000 in
theorem put_any (mu : Int) (nb : Nat) (s : Nd) (lv : Value) (c : ByteArray) (w : World) (h : NB mu w nb s lv) (hl : NL w s lv) (hs : s.last ≤ 60) (hc : c.size ≤ 20) :
    Calls Try.prog 32 #[.pointer (some ⟨nb, 0, none⟩), .string c] w fun e w' => e = .returned (.tuple #[]) ∧ Took mu nb lv w { s with log := s.log ++ [(s.term, c)] } w' := by
  have c6 := h.c6
  have c4 := h.c4
  have f6 := h.free 6
  have hlt := h.lt
  have hne : ¬ nb = w.heap.size := by omega
  have H := hide h
  have HL := hide hl
  have hs' : s.log.length ≤ 60 := hs
  clear h hl
  obtain ⟨i0, hi, hz0, hz1, hz2⟩ := info_parts infoEntry
  go_enter Try.func32, Try.ntmps32
  go_wp2
  go_region_law (first | (refine step_append_lies _ (by rfl) (.tmp 8) (.tmp 16) 31 (by rfl) 0 78 i0 _ 2 24 Try.underlying31 hi hz0 hz1 hz2 rfl (by decide) lv s.log.length (eC s.log) (by rfl) (by exact World.ownsRow.alloc (unhide hL3) (.cells #[.int .i64 s.term, .string c] 78)) ⟨w3.heap.size, 0, none⟩ 1 1 [.int .i64 s.term, .string c] (by rfl) rfl (by exact cells_new9 _ _ _) (by intro u hu; simp at hu; rcases hu with rfl | rfl <;> rfl) (by decide) (by unfold maxLen; omega) (by omega) (Nat.zero_le _) (w3.heap.size + 1) (by simp) ?_; intro gc cap2 w4 hown4 hgrow4 hat4 hlt4; have hN4 : NB mu w4 nb s lv := ((hgrow4.block nb (NB.under (unhide hN3) (.cells #[.int .i64 s.term, .string c] 78)).lt (fun e => (unhide hL3).apart (unhide hN3) e.symm)).trans (NB.under (unhide hN3) (.cells #[.int .i64 s.term, .string c] 78))); have k6 := hN4.c6; have q6 := hN4.free 6; clear hN4; replace hown4 := hide hown4; replace hgrow4 := hide hgrow4; replace hat4 := hide hat4; clear hlt4) | (go_simp; go_at_call 51; refine (clone_any c w.drew (by omega)).mono ?_; rintro e w3 ⟨rfl, hb3⟩; have hN3 := hide (NB.below (w := w.drew) (unhide H) hb3); have z6 := (unhide hN3).c6; have z4 := (unhide hN3).c4; have hL3 := hide (NL.below (w := w.drew) (unhide HL) hb3); have hlt3 := (unhide hN3).lt; have hne3 : ¬ nb = w3.heap.size := (by omega); have hne4 : ¬ w3.heap.size = nb := (by omega); have y6 := (NB.under (unhide hN3) (.cells #[.int .i64 s.term, .string c] 78)).c6; have hB3 := hide (Below.undrew hb3); clear hb3))
  all_goals
    have hlA : s.log.length + 1 = (s.log ++ [((s.term, c) : Ent)]).length := by simp
    have HTK := hide (take_log (l := s.log ++ [((s.term, c) : Ent)]) (NB.under (unhide hN3) (.cells #[.int .i64 s.term, .string c] 78)) (NL.below (unhide hL3) (below_alloc _ _)) rfl (unhide hgrow4) (by rw [eC_append]; exact unhide hown4) hlA (by have := unhide hat4; simpa using this))
    clear hown4 hgrow4 hat4 k6 q6 hlA
    go_wp2
    go_end0
    exact ⟨rfl, Took.ahead (unhide hB3) (Took.ahead (below_alloc _ _) (unhide HTK))⟩

end Go.Proofs.Yteiecbkfganhnaa
