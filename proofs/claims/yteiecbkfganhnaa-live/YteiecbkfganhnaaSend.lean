/- The program's node: send. -/
import Derived.Test.YteiecbkfganhnaaMail
namespace Go.Proofs.Yteiecbkfganhnaa
open Go.RowKit Go.MuLone

def zMsg : Msg := { kind := 0, src := 0, dst := 0, term := 0, index := 0, logTerm := 0, commit := 0, ents := [], granted := false }

theorem made_mC (n : Nat) : (madeCells #[.int .i64 0, .int .i64 0, .int .i64 0, .int .i64 0, .int .i64 0, .int .i64 0, .int .i64 0, .slice none 0 0, .bool false] (n * 9)).toList = mC (List.replicate n (zMsg, .slice none 0 0)) := by
  apply List.ext_getElem?
  intro i
  by_cases hi : i < n * 9
  · have hk : (List.replicate n (zMsg, Value.slice none 0 0))[i / 9]? = some (zMsg, .slice none 0 0) := by rw [List.getElem?_replicate, if_pos (by omega)]
    have hg := mC_get _ _ _ hk (i % 9) (by omega)
    rw [show i / 9 * 9 + i % 9 = i by omega] at hg
    rw [hg]
    have h9 : i % 9 = 0 ∨ i % 9 = 1 ∨ i % 9 = 2 ∨ i % 9 = 3 ∨ i % 9 = 4 ∨ i % 9 = 5 ∨ i % 9 = 6 ∨ i % 9 = 7 ∨ i % 9 = 8 := by omega
    rcases h9 with h | h | h | h | h | h | h | h | h <;> simp [madeCells, hi, h, mcells, zMsg]
  · rw [List.getElem?_eq_none (by simp [size_madeCells]; omega), List.getElem?_eq_none (by rw [mC_length]; simp; omega)]

def toAll (m : Msg) (id : Int) (ts : List Int) : List (Msg × Value) := ts.map fun t => ({ m with src := id, dst := t }, .slice none 0 0)

theorem toAll_length (m : Msg) (id : Int) (ts : List Int) : (toAll m id ts).length = ts.length := by simp [toAll]
theorem list_put {α : Type} (l : List α) (k : Nat) (hk : k < l.length) (z : α) : (l.take k ++ List.replicate (l.length - k) z).set k l[k] = l.take (k + 1) ++ List.replicate (l.length - (k + 1)) z := by
  have hl : (l.take k).length = k := by simp; omega
  rw [List.set_append_right _ _ (by omega), hl, Nat.sub_self, show l.length - k = (l.length - (k + 1)) + 1 by omega, List.replicate_succ, List.set_cons_zero, List.take_succ_eq_append_getElem hk, List.append_assoc]
  rfl

theorem toAll_out {w : World} {base : Nat} {v : Value} {m : Msg} {id : Int} {ts : List Int} (hm : m.ents = []) (h : w.ownsRow base 50 9 v ts.length (mC (toAll m id ts))) :
    MsgsOut w base v (ts.map fun t => { m with src := id, dst := t }) (toAll m id ts) := by
  refine ⟨by simp [toAll], by simpa using h, fun x hx => ?_, ?_⟩
  · simp only [toAll, List.mem_map] at hx
    obtain ⟨t, _, rfl⟩ := hx
    simp only [hm]
    exact World.ownsRow_nil w _ _ _
  · simp only [toAll, List.pairwise_map]
    exact List.Pairwise.imp (R := fun _ _ => True) (fun _ b hb => by simp [Value.ownBlock] at hb) (List.pairwise_of_forall (fun _ _ => trivial))

set_option maxRecDepth 100000 in
set_option maxHeartbeats 2000000 in
theorem send_any (mu : Int) (nb : Nat) (s : Nd) (lv : Value) (m : Msg) (ts : List Int) (tv : Value) (w : World) (h : NB mu w nb s lv) (hm : m.ents = []) (ht : IntsIn w tv ts) (hn : ts.length ≤ 7) :
    Calls Try.prog 66 #[.pointer (some ⟨nb, 0, none⟩), magg m (.slice none 0 0), tv] w fun e w' => ∃ v, e = .returned v ∧ MsgsOut w' w.heap.size v (ts.map fun t => { m with src := (s.id : Int), dst := t }) (toAll m s.id ts) ∧ Below w.heap.size w w' := by
  have c2 := h.c2
  have hlt := h.lt
  have hne : ¬ nb = w.heap.size := by omega
  obtain ⟨ao, cap, rfl, ha⟩ := ht
  have HA := hide ha
  have HM := hide hm
  clear ha h hm
  obtain ⟨i0, hi, hz0, hz1, hz2⟩ := info_parts infoMsg
  go_enter Try.func66, Try.ntmps66
  go_wp2_with (at_make; go_must (refine wpList_make_full _ rfl (.tmp 16) (.tmp 16) 29 rfl (w.heap.size + 1) 50 i0 _ 9 Try.underlying29 hi hz0 hz1 .i64 .i64 (ts.length : Int) (ts.length : Int) ts.length rfl rfl rfl rfl (by rw [hz2]; omega) (by unfold maxLen; omega) (by simp) ?_))
  intro w1 hown1 hgrow1
  rw [made_mC] at hown1
  have hb1 : Below (w.heap.size + 1) (w.alloc (.cells #[.int .i64 m.kind, .int .i64 (s.id : Int), .int .i64 m.dst, .int .i64 m.term, .int .i64 m.index, .int .i64 m.logTerm, .int .i64 m.commit, .slice none 0 0, .bool m.granted] 50)) w1 := (Below.refl _ _).grown hgrow1 (by simp) (by intro k hk; simp at hk)
  have hbx : w1.heap[w.heap.size]? = some (.cells #[.int .i64 m.kind, .int .i64 (s.id : Int), .int .i64 m.dst, .int .i64 m.term, .int .i64 m.index, .int .i64 m.logTerm, .int .i64 m.commit, .slice none 0 0, .bool m.granted] 50 (0, 0)) := (hb1.block w.heap.size (by omega)).trans (heap_alloc_new w _)
  have hbw : Below w.heap.size w w1 := (below_alloc w _).trans (hb1.mono (Nat.le_succ _))
  have HO := hide hown1
  have HX := hide hbx
  have HB := hide hbw
  clear hown1 hgrow1 hb1 hbx hbw c2
  go_wp2
  go_loopw [20] (fun i wr => ∃ (k : Nat) (x : Int), k ≤ ts.length ∧ i = .int .i64 k ∧ wr.heap[w.heap.size]? = some (.cells #[.int .i64 m.kind, .int .i64 (s.id : Int), .int .i64 x, .int .i64 m.term, .int .i64 m.index, .int .i64 m.logTerm, .int .i64 m.commit, .slice none 0 0, .bool m.granted] 50 (0, 0)) ∧ wr.ownsRow (w.heap.size + 1) 50 9 (.slice (some ⟨w.heap.size + 1, 0, none⟩) ts.length ts.length) ts.length (mC ((toAll m s.id ts).take k ++ List.replicate ((toAll m s.id ts).length - k) (zMsg, .slice none 0 0))) ∧ Below w.heap.size w wr) (fun i _ => ts.length - (intOf i).toNat)
  case atStart => exact ⟨0, m.dst, Nat.zero_le _, rfl, unhide HX, by simpa [toAll_length] using unhide HO, unhide HB⟩
  case round =>
    obtain ⟨k, x, hk, rfl, hx, ho, hb⟩ := hrel
    by_cases hlt : k < ts.length
    · obtain ⟨b, off, rfl, a0'⟩ := (unhide HA) k _ (show ts[k]? = some ts[k] by simp [hlt])
      have a0 := (hb.cell (p := ⟨b, off + k, none⟩) (block_lt_of_cell a0')).trans a0'
      have HK := hide (list_put (toAll m s.id ts) k (by rw [toAll_length]; exact hlt) (zMsg, .slice none 0 0))
      have hel : (toAll m s.id ts)[k]'(by rw [toAll_length]; exact hlt) = ({ m with src := (s.id : Int), dst := ts[k] }, .slice none 0 0) := by simp [toAll]
      rw [hel] at HK
      have hin : ∀ o, o < 9 → k * 9 + o < (mC ((toAll m s.id ts).take k ++ List.replicate ((toAll m s.id ts).length - k) (zMsg, .slice none 0 0))).length := by
        intro o ho9
        rw [mC_length, List.length_append, List.length_take, List.length_replicate, toAll_length]
        omega
      have hat : ∀ o, o < 9 → wr.frozen? ⟨w.heap.size + 1, k * 9 + o, none⟩ = false ∧ ∃ a, wr.cell? ⟨w.heap.size + 1, k * 9 + o, none⟩ = some a := by
        intro o ho9
        obtain ⟨g, hg, h1, h2⟩ := owns_at ho (hin o ho9)
        simp only [Option.some.injEq, Addr.mk.injEq, and_true] at hg
        subst hg
        exact ⟨h1, _, h2⟩
      obtain ⟨g0, y0, d0⟩ : wr.frozen? ⟨w.heap.size + 1, k * 9, none⟩ = false ∧ ∃ a, wr.cell? ⟨w.heap.size + 1, k * 9, none⟩ = some a := hat 0 (by decide)
      obtain ⟨g1, y1, d1⟩ : wr.frozen? ⟨w.heap.size + 1, k * 9 + 1, none⟩ = false ∧ ∃ a, wr.cell? ⟨w.heap.size + 1, k * 9 + 1, none⟩ = some a := hat 1 (by decide)
      obtain ⟨g2, y2, d2⟩ : wr.frozen? ⟨w.heap.size + 1, k * 9 + 2, none⟩ = false ∧ ∃ a, wr.cell? ⟨w.heap.size + 1, k * 9 + 2, none⟩ = some a := hat 2 (by decide)
      obtain ⟨g3, y3, d3⟩ : wr.frozen? ⟨w.heap.size + 1, k * 9 + 3, none⟩ = false ∧ ∃ a, wr.cell? ⟨w.heap.size + 1, k * 9 + 3, none⟩ = some a := hat 3 (by decide)
      obtain ⟨g4, y4, d4⟩ : wr.frozen? ⟨w.heap.size + 1, k * 9 + 4, none⟩ = false ∧ ∃ a, wr.cell? ⟨w.heap.size + 1, k * 9 + 4, none⟩ = some a := hat 4 (by decide)
      obtain ⟨g5, y5, d5⟩ : wr.frozen? ⟨w.heap.size + 1, k * 9 + 5, none⟩ = false ∧ ∃ a, wr.cell? ⟨w.heap.size + 1, k * 9 + 5, none⟩ = some a := hat 5 (by decide)
      obtain ⟨g6, y6, d6⟩ : wr.frozen? ⟨w.heap.size + 1, k * 9 + 6, none⟩ = false ∧ ∃ a, wr.cell? ⟨w.heap.size + 1, k * 9 + 6, none⟩ = some a := hat 6 (by decide)
      obtain ⟨g7, y7, d7⟩ : wr.frozen? ⟨w.heap.size + 1, k * 9 + 7, none⟩ = false ∧ ∃ a, wr.cell? ⟨w.heap.size + 1, k * 9 + 7, none⟩ = some a := hat 7 (by decide)
      obtain ⟨g8, y8, d8⟩ : wr.frozen? ⟨w.heap.size + 1, k * 9 + 8, none⟩ = false ∧ ∃ a, wr.cell? ⟨w.heap.size + 1, k * 9 + 8, none⟩ = some a := hat 8 (by decide)
      have x0 : wr.cell? ⟨w.heap.size, 0, none⟩ = some (.int .i64 m.kind) := cell_of_row wr w.heap.size 0 _ _ _ hx
      have x1 : wr.cell? ⟨w.heap.size, 1, none⟩ = some (.int .i64 (s.id : Int)) := cell_of_row wr w.heap.size 1 _ _ _ hx
      have x2 : wr.cell? ⟨w.heap.size, 2, none⟩ = some (.int .i64 x) := cell_of_row wr w.heap.size 2 _ _ _ hx
      have x3 : wr.cell? ⟨w.heap.size, 3, none⟩ = some (.int .i64 m.term) := cell_of_row wr w.heap.size 3 _ _ _ hx
      have x4 : wr.cell? ⟨w.heap.size, 4, none⟩ = some (.int .i64 m.index) := cell_of_row wr w.heap.size 4 _ _ _ hx
      have x5 : wr.cell? ⟨w.heap.size, 5, none⟩ = some (.int .i64 m.logTerm) := cell_of_row wr w.heap.size 5 _ _ _ hx
      have x6 : wr.cell? ⟨w.heap.size, 6, none⟩ = some (.int .i64 m.commit) := cell_of_row wr w.heap.size 6 _ _ _ hx
      have x7 : wr.cell? ⟨w.heap.size, 7, none⟩ = some (.slice none 0 0) := cell_of_row wr w.heap.size 7 _ _ _ hx
      have x8 : wr.cell? ⟨w.heap.size, 8, none⟩ = some (.bool m.granted) := cell_of_row wr w.heap.size 8 _ _ _ hx
      have z2 := frozen_of_row wr w.heap.size 2 _ _ hx
      have i1 : (0 : Int) ≤ (k : Int) := by omega
      have i2 : (k : Int) < (ts.length : Int) := by omega
      have hne2 : ¬ w.heap.size + 1 = w.heap.size := by omega
      have HX1 := hide hx
      have HO1 := hide ho
      have HB1 := hide hb
      clear a0' hat hin hx ho hb HO HX HB hel
      generalize ts[k] = t at *
      go_wp2
      refine ⟨⟨k + 1, t, by omega, by go_num, ?_, ?_, ?_⟩, by simp [intOf]; omega⟩
      · exact (heap_set9 (w := wr.setCell ⟨w.heap.size, 2, none⟩ (.int .i64 t)) (g := w.heap.size + 1) (j := k) (x := ({ m with src := (s.id : Int), dst := t }, .slice none 0 0)) (by omega)).trans (heap_setCell_same wr w.heap.size 2 _ _ _ (unhide HX1))
      · rw [← unhide HK]
        exact owns_set9 k ({ m with src := (s.id : Int), dst := t }, .slice none 0 0) (owns_set (unhide HO1) (a := ⟨w.heap.size, 2, none⟩) (Nat.lt_succ_self _) (.int .i64 t))
      · exact below_set9 (g := w.heap.size + 1) (j := k) (x := ({ m with src := (s.id : Int), dst := t }, .slice none 0 0)) ((unhide HB1).setCell (p := ⟨w.heap.size, 2, none⟩) (Nat.le_refl _) (.int .i64 t)) (Nat.le_succ _)
    · have hkn : k = ts.length := by omega
      subst hkn
      have HO1 : Hid (wr.ownsRow (w.heap.size + 1) 50 9 (.slice (some ⟨w.heap.size + 1, 0, none⟩) ts.length ts.length) ts.length (mC (toAll m s.id ts))) := by
        show World.ownsRow _ _ _ _ _ _ _
        have h2 := ho
        rw [List.take_of_length_le (by rw [toAll_length]; exact Nat.le_refl _), toAll_length, Nat.sub_self] at h2
        simpa using h2
      have HB1 := hide hb
      clear ho hb hx
      go_wp2
      go_ret
      exact ⟨_, rfl, toAll_out (unhide HM) (owns_base (unhide HO1) (Nat.le_succ _)), unhide HB1⟩


end Go.Proofs.Yteiecbkfganhnaa
