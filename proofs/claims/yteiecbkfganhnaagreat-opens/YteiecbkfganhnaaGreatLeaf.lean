/- Leaves: copies of lists. -/
import Derived.Test.YteiecbkfganhnaaGreatSame
import Derived.Test.YteiecbkfganhnaaGreatPlain
import Derived.Laws.AppendOwnNone
import Derived.Laws.BytesArg
namespace Go.Proofs.YteiecbkfganhnaaGreat
open Go.RowKit

theorem ents_cells {w : World} {b off : Nat} {es : List Ent} (h : ∀ k e, es[k]? = some e → w.cell? ⟨b, off + k * 2, none⟩ = some (.int .i64 e.1) ∧ w.cell? ⟨b, off + k * 2 + 1, none⟩ = some (.string e.2)) :
    ∀ j u, (eC es)[j]? = some u → w.cell? ((⟨b, off, none⟩ : Addr).add j) = some u := by
  intro j u hj
  have hl : j < es.length * 2 := by rw [← eC_length]; exact (List.getElem?_eq_some_iff.1 hj).1
  have hk : es[j / 2]? = some es[j / 2] := by simp
  have hg := eC_get es (j / 2) _ hk
  have hc := h (j / 2) _ hk
  have ha : (⟨b, off, none⟩ : Addr).add j = ⟨b, off + j, none⟩ := by unfold Addr.add; split <;> simp_all
  rw [ha]
  rcases Nat.mod_two_eq_zero_or_one j with h0 | h0
  · have e1 : j / 2 * 2 = j := by omega
    rw [e1] at hg hc
    rw [hj] at hg
    rw [hc.1]; exact hg.1.symm
  · have e1 : j / 2 * 2 + 1 = j := by omega
    rw [Nat.add_assoc, e1] at hc
    rw [e1] at hg
    rw [hj] at hg
    rw [hc.2]; exact hg.2.symm

set_option maxHeartbeats 400000 in
theorem copiedEntries_any (v : Value) (es : List Ent) (w : World) (hn : es.length * 24 ≤ 140737488355328) (h : EntsIn w v es) :
    Calls Tryz.prog 91 #[v] w fun e w' => ∃ v', e = .returned v' ∧ w'.ownsRow w.heap.size 66 2 v' es.length (eC es) ∧ Below w.heap.size w w' := by
  obtain ⟨ao, cap, rfl, hc, ha⟩ := h
  obtain ⟨i0, hi, hz0, hz1, hz2⟩ := info_parts infoEntry
  have HA := hide ha
  clear ha
  have hown := World.ownsRow_nil w w.heap.size 66 2
  match ao, hc, HA with
  | none, hc, HA =>
    have h0 : es = [] := by
      match es with
      | [] => rfl
      | e :: es => obtain ⟨b, off, hx, _⟩ := (unhide HA) 0 e rfl; simp at hx
    subst h0
    have hc := hc rfl
    subst hc
    go_enter Tryz.func91, Tryz.ntmps91
    go_wp2_with (at_builtin; refine wpList_append_own_none rfl _ _ 22 rfl w.heap.size 66 i0 2 Tryz.underlying22 hi (.slice none 0 0) 0 [] rfl hown rfl ?_)
    go_ret
    exact ⟨_, rfl, hown, Below.refl _ _⟩
  | some ad, hc, HA =>
    have hnews : ∀ j u, (eC es)[j]? = some u → w.cell? (ad.add j) = some u := by
      intro j u hj
      have hl : j < es.length * 2 := by rw [← eC_length]; exact (List.getElem?_eq_some_iff.1 hj).1
      obtain ⟨b, off, hx, _⟩ := (unhide HA) 0 es[0] (by simp)
      have hx := Option.some.inj hx
      subst hx
      exact ents_cells (fun k e he => by obtain ⟨b', off', hx', h1, h2⟩ := (unhide HA) k e he; simp at hx'; obtain ⟨rfl, rfl⟩ := hx'; exact ⟨h1, h2⟩) j u hj
    have HN := hide hnews
    clear hnews
    go_enter Tryz.func91, Tryz.ntmps91
    go_wp2_with (at_builtin; refine wpList_append_own _ rfl _ _ 22 rfl w.heap.size 66 i0 _ 2 24 Tryz.underlying22 hi hz0 hz1 hz2 rfl (by decide) (.slice none 0 0) 0 [] rfl hown ad es.length cap (eC es) rfl (eC_length es) (unhide HN) (eC_one es) (by unfold maxLen; omega) (by omega) (Nat.le_refl _) ?_)
    intro v' w1 hown' hgrow _
    have hb : Below w.heap.size w w1 := (Below.refl _ _).grown hgrow (Nat.le_refl _) (by intro k hk; simp [Value.ownBlock] at hk)
    clear hown hgrow
    go_wp2
    go_ret
    exact ⟨_, rfl, hown', hb⟩

set_option maxHeartbeats 400000 in
theorem refEntries_any (v : Value) (es : List Ent) (w : World) (hn : es.length * 24 ≤ 140737488355328) (h : EntsIn w v es) :
    Calls Tryz.prog 90 #[v] w fun e w' => ∃ v', e = .returned v' ∧ w'.ownsRow w.heap.size 66 2 v' es.length (eC es) ∧ Below w.heap.size w w' := by
  obtain ⟨ao, cap, rfl, hc, ha⟩ := h
  obtain ⟨i0, hi, hz0, hz1, hz2⟩ := info_parts infoEntry
  have HA := hide ha
  clear ha
  have hown := World.ownsRow_nil w w.heap.size 66 2
  match ao, hc, HA with
  | none, hc, HA =>
    have h0 : es = [] := by
      match es with
      | [] => rfl
      | e :: es => obtain ⟨b, off, hx, _⟩ := (unhide HA) 0 e rfl; simp at hx
    subst h0
    have hc := hc rfl
    subst hc
    go_enter Tryz.func90, Tryz.ntmps90
    go_wp2_with (at_builtin; refine wpList_append_own_none rfl _ _ 22 rfl w.heap.size 66 i0 2 Tryz.underlying22 hi (.slice none 0 0) 0 [] rfl hown rfl ?_)
    go_ret
    exact ⟨_, rfl, hown, Below.refl _ _⟩
  | some ad, hc, HA =>
    have hnews : ∀ j u, (eC es)[j]? = some u → w.cell? (ad.add j) = some u := by
      intro j u hj
      have hl : j < es.length * 2 := by rw [← eC_length]; exact (List.getElem?_eq_some_iff.1 hj).1
      obtain ⟨b, off, hx, _⟩ := (unhide HA) 0 es[0] (by simp)
      have hx := Option.some.inj hx
      subst hx
      exact ents_cells (fun k e he => by obtain ⟨b', off', hx', h1, h2⟩ := (unhide HA) k e he; simp at hx'; obtain ⟨rfl, rfl⟩ := hx'; exact ⟨h1, h2⟩) j u hj
    have HN := hide hnews
    clear hnews
    go_enter Tryz.func90, Tryz.ntmps90
    go_wp2_with (at_builtin; refine wpList_append_own _ rfl _ _ 22 rfl w.heap.size 66 i0 _ 2 24 Tryz.underlying22 hi hz0 hz1 hz2 rfl (by decide) (.slice none 0 0) 0 [] rfl hown ad es.length cap (eC es) rfl (eC_length es) (unhide HN) (eC_one es) (by unfold maxLen; omega) (by omega) (Nat.le_refl _) ?_)
    intro v' w1 hown' hgrow _
    have hb : Below w.heap.size w w1 := (Below.refl _ _).grown hgrow (Nat.le_refl _) (by intro k hk; simp [Value.ownBlock] at hk)
    clear hown hgrow
    go_wp2
    go_ret
    exact ⟨_, rfl, hown', hb⟩

set_option maxHeartbeats 400000 in
theorem sameTexts_eq (va vb : Value) (es : List ByteArray) (w : World) (hn : es.length < 4611686018427387904) (ha : TextsIn w va es) (hb : TextsIn w vb es) :
    Calls Tryz.prog 49 #[va, vb] w fun e w' => e = .returned (.bool true) ∧ ∃ m, w' = w.drewN m := by
  obtain ⟨ao, cap, rfl, _, ha⟩ := ha
  obtain ⟨bo, cap2, rfl, _, hb⟩ := hb
  go_enter Tryz.func49, Tryz.ntmps49
  go_wp2
  go_loopw [5] (fun i wr => ∃ k : Nat, k ≤ es.length ∧ i = .int .i64 k ∧ ∃ m, wr = w.drewN m) (fun i _ => es.length - (intOf i).toNat)
  case atStart => exact ⟨0, Nat.zero_le _, rfl, 0, rfl⟩
  case round =>
    obtain ⟨k, hk, rfl, m, rfl⟩ := hrel
    by_cases hlt : k < es.length
    · have he : es[k]? = some es[k] := by simp [hlt]
      obtain ⟨b, off, rfl, a0⟩ := ha k _ he
      obtain ⟨b2, off2, rfl, a2⟩ := hb k _ he
      have i1 : (0 : Int) ≤ (k : Int) := by omega
      have i2 : (k : Int) < (es.length : Int) := by omega
      clear ha hb he
      generalize es[k] = t at *
      go_wp2
      go_quiet (fail)
      go_wp2
      go_roundw
      case rel => exact ⟨k + 1, by omega, by go_num, _, rfl⟩
      case measure => simp [intOf]; omega
    · go_wp2
      go_ret
      exact ⟨rfl, m, rfl⟩

/-- The k-th mark of texts. -/
def txt (k : Nat) : ByteArray := Go.strOfNums [63, (k : Int) % 256, (k : Int) / 256 % 256]

theorem conv_text (w : World) (k : Nat) : (convert 123 9 (.slice (some ⟨w.heap.size, 0, none⟩) 3 3)).run Tryz.prog (w.alloc (.cells #[.int .u8 63, .int .u8 ((k : Int) % 256), .int .u8 ((k : Int) / 256 % 256)] 5)) = .ok (.string (txt k)) (w.alloc (.cells #[.int .u8 63, .int .u8 ((k : Int) % 256), .int .u8 ((k : Int) / 256 % 256)] 5)) := by
  refine run_convert_bytes_arg _ 123 5 Tryz.underlying123 Tryz.underlying5 w.heap.size 0 3 3 [63, (k : Int) % 256, (k : Int) / 256 % 256] rfl ?_ 9 Tryz.underlying9
  intro i hi
  rw [cell_of_row _ w.heap.size (0 + i) _ _ _ (heap_alloc_new w _)]
  match i, hi with
  | 0, _ => rfl
  | 1, _ => rfl
  | 2, _ => rfl

set_option maxRecDepth 100000 in
set_option maxHeartbeats 400000 in
theorem text_any (k : Nat) (w : World) (hk : k < 1000000000000) :
    Calls Tryz.prog 88 #[.int .i64 k] w fun e w' => e = .returned (.string (txt k)) ∧ Below w.heap.size w w' := by
  have hc := conv_text w k
  go_enter Tryz.func88, Tryz.ntmps88
  go_wp2
  go_ret
  exact ⟨rfl, (Below.refl _ _).alloc (Nat.le_refl _) _⟩

theorem text_at (q : Int) (k : Nat) (w : World) (hk : k < 1000000000000) (hq : q = (k : Int)) : Calls Tryz.prog 88 #[.int .i64 q] w fun e w' => e = .returned (.string (txt k)) ∧ Below w.heap.size w w' := by
  subst hq
  exact text_any k w hk

end Go.Proofs.YteiecbkfganhnaaGreat
