/- copyEntries: a list of its own. -/
import Derived.Test.YteiecbkfganhnaaCode
import Derived.Test.YteiecbkfganhnaaGrow
namespace Go.Proofs.Yteiecbkfganhnaa
open Go.RowKit

theorem made_eC (n : Nat) : (madeCells #[.int .i64 0, .string ⟨#[]⟩] (n * 2)).toList = eC (List.replicate n (0, ⟨#[]⟩)) := by
  apply List.ext_getElem?
  intro i
  by_cases hi : i < n * 2
  · have hk : (List.replicate n ((0 : Int), (⟨#[]⟩ : ByteArray)))[i / 2]? = some (0, ⟨#[]⟩) := by rw [List.getElem?_replicate, if_pos (by omega)]
    have hg := eC_get _ _ _ hk
    rcases Nat.mod_two_eq_zero_or_one i with h0 | h0
    · have e1 : i / 2 * 2 = i := by omega
      rw [e1] at hg
      rw [hg.1]
      simp [madeCells, hi, h0]
    · have e1 : i / 2 * 2 + 1 = i := by omega
      rw [e1] at hg
      rw [hg.2]
      simp [madeCells, hi, h0]
  · rw [List.getElem?_eq_none (by simp [size_madeCells]; omega), List.getElem?_eq_none (by rw [eC_length]; simp; omega)]

theorem copy_set (es : List Ent) (k : Nat) (hk : k < es.length) (z : Ent) : (es.take k ++ List.replicate (es.length - k) z).set k es[k] = es.take (k + 1) ++ List.replicate (es.length - (k + 1)) z := by
  have hl : (es.take k).length = k := by simp; omega
  rw [List.set_append_right _ _ (by omega), hl, Nat.sub_self, show es.length - k = (es.length - (k + 1)) + 1 by omega, List.replicate_succ, List.set_cons_zero, List.take_succ_eq_append_getElem hk, List.append_assoc]
  rfl

theorem own_fresh {w : World} {base e size n cap B : Nat} {xs : List Value} (h : w.ownsRow base e size (.slice (some ⟨B, 0, none⟩) n cap) n xs) : w.ownsRow B e size (.slice (some ⟨B, 0, none⟩) n cap) n xs := by
  refine ⟨h.1, ?_⟩
  rcases h.2 with ⟨hv, _⟩ | ⟨g', cap', cur, hv, hg, r⟩
  · simp at hv
  · simp only [Value.slice.injEq, Option.some.injEq, Addr.mk.injEq, and_true, true_and] at hv
    obtain ⟨rfl, rfl⟩ := hv
    exact .inr ⟨B, cap, cur, rfl, Nat.le_refl _, r⟩

set_option maxRecDepth 100000 in
set_option maxHeartbeats 2000000 in
theorem copyEntries_any (v : Value) (es : List Ent) (w : World) (hn : es.length ≤ 60) (hs : ∀ e ∈ es, e.2.size ≤ 20) (h : EntsIn w v es) :
    Calls Try.prog 47 #[v] w fun e w' => ∃ v', e = .returned v' ∧ w'.ownsRow w.heap.size 78 2 v' es.length (eC es) ∧ Below w.heap.size w w' := by
  obtain ⟨ao, cap, rfl, hl1, ha⟩ := h
  have HA := hide ha
  have HSZ := hide hs
  clear ha hl1 hs
  obtain ⟨i0, hi, hz0, hz1, hz2⟩ := info_parts infoEntry
  go_enter Try.func47, Try.ntmps47
  go_wp2_with (at_make; go_must (refine wpList_make_full _ rfl (.tmp 7) (.tmp 7) 31 rfl w.heap.size 78 i0 _ 2 Try.underlying31 hi hz0 hz1 .i64 .i64 (es.length : Int) (es.length : Int) es.length rfl rfl rfl rfl (by rw [hz2]; omega) (by unfold maxLen; omega) (Nat.le_refl _) ?_))
  intro w1 hown1 hgrow1
  rw [made_eC] at hown1
  have hb1 : Below w.heap.size w w1 := (Below.refl _ _).grown hgrow1 (Nat.le_refl _) (by intro k hk; simp at hk)
  have HO : Hid (Own w1 (fun _ => (0, 0)) (0, 0) 78 2 (.slice (some ⟨w.heap.size, 0, none⟩) es.length es.length) es.length (eC (List.replicate es.length (0, ⟨#[]⟩)))) := ⟨owns_base hown1 (Nat.zero_le _), fun _ _ => rfl⟩
  have HB := hide hb1
  clear hown1 hgrow1 hb1
  go_wp2
  obtain ⟨ob, hob⟩ : ∃ ob, ob = w.heap.size := ⟨_, rfl⟩
  rw [← hob] at HO HB ⊢
  replace hob := hide hob
  go_loopw [11] (fun i wr => ∃ k : Nat, k ≤ es.length ∧ i = .int .i64 k ∧ Own wr (fun _ => (0, 0)) (0, 0) 78 2 (.slice (some ⟨ob, 0, none⟩) es.length es.length) es.length (eC (es.take k ++ List.replicate (es.length - k) (0, ⟨#[]⟩))) ∧ Below ob w wr) (fun i _ => es.length - (intOf i).toNat)
  case atStart => exact ⟨0, Nat.zero_le _, rfl, by simpa using unhide HO, unhide HB⟩
  case round =>
    obtain ⟨k, hk, rfl, ho, hb⟩ := hrel
    by_cases hlt : k < es.length
    · obtain ⟨b, off, rfl, a0', a1'⟩ := (unhide HA) k _ (show es[k]? = some es[k] by simp [hlt])
      have hsz : es[k].2.size ≤ 20 := (unhide HSZ) _ (List.getElem_mem hlt)
      have hobw := unhide hob
      have a0 := (hb.cell (p := ⟨b, off + k * 2, none⟩) (by rw [hobw]; exact block_lt_of_cell a0')).trans a0'
      have a1 := (hb.cell (p := ⟨b, off + k * 2 + 1, none⟩) (by rw [hobw]; exact block_lt_of_cell a1')).trans a1'
      obtain ⟨g', hg', tv, f0, f1, ⟨x0, k0⟩, ⟨x1, k1⟩⟩ := own_cells2 ho hlt
      have hgo : g' = ob := by simp at hg'; exact hg'.symm
      subst hgo
      have hobl : g' < wr.heap.size := block_lt_of_cell k0
      have i1 : (0 : Int) ≤ (k : Int) := by omega
      have i2 : (k : Int) < (es.length : Int) := by omega
      have HK := hide (copy_set es k hlt (0, ⟨#[]⟩))
      have HO1 := hide ho
      have HB1 := hide hb
      clear a0' a1' ho hb hg' tv hobw HO HB
      generalize es[k] = x at *
      obtain ⟨t, s⟩ := x
      simp only at a0 a1 hsz
      go_wp2_with fail
      have c0 : (wr.alloc (Obj.cells #[.int .i64 t, .string s] 78)).cell? ⟨wr.heap.size, 0, none⟩ = some (.int .i64 t) := cell_of_row _ _ 0 _ _ _ (heap_alloc_new wr _)
      have c1 : (wr.alloc (Obj.cells #[.int .i64 t, .string s] 78)).cell? ⟨wr.heap.size, 1, none⟩ = some (.string s) := cell_of_row _ _ 1 _ _ _ (heap_alloc_new wr _)
      have hoW : Own (wr.alloc (Obj.cells #[.int .i64 t, .string s] 78)) (fun _ => (0, 0)) (0, 0) 78 2 (.slice (some ⟨g', 0, none⟩) es.length es.length) es.length (eC (es.take k ++ List.replicate (es.length - k) (0, ⟨#[]⟩))) := ⟨(unhide HO1).1.alloc _, (unhide HO1).2⟩
      have hbW := (unhide HB1).alloc (Nat.le_of_lt hobl) (Obj.cells #[.int .i64 t, .string s] 78)
      have hEB : g' < wr.heap.size := hobl
      generalize wr.alloc (Obj.cells #[.int .i64 t, .string s] 78) = W at *
      have hne : ¬ g' = wr.heap.size := by omega
      generalize wr.heap.size = EB at *
      have HGW : Hid (g' ≤ W.drew.heap.size) := Nat.le_of_lt (Nat.lt_trans hEB (block_lt_of_cell (a := ⟨EB, 0, none⟩) c0))
      have HOW := hide hoW
      have HBW := hide hbW
      clear a0 a1 f0 f1 k0 k1 HO1 HB1 hoW hbW hobl
      go_region_held3 (fun w' => w'.cell? ⟨EB, 0, none⟩ = some (.int .i64 t) ∧ w'.cell? ⟨EB, 1, none⟩ = some (.string s)) (go_keep) (first | (go_at_call 51; refine (clone_any s W.drew (by omega)).mono ?_; rintro e w2 ⟨rfl, hb2⟩; have z0 : w2.cell? ⟨EB, 0, none⟩ = _ := (hb2.cell (p := ⟨EB, 0, none⟩) (block_lt_of_cell c0)).trans c0; have z1 : w2.cell? ⟨EB, 1, none⟩ = _ := (hb2.cell (p := ⟨EB, 1, none⟩) (block_lt_of_cell c1)).trans c1; have ho2 : Own w2 (fun _ => (0, 0)) (0, 0) 78 2 (.slice (some ⟨g', 0, none⟩) es.length es.length) es.length (eC (es.take k ++ List.replicate (es.length - k) (0, ⟨#[]⟩))) := (And.intro (owns_belowD (unhide HOW).1 hb2) (unhide HOW).2); obtain ⟨g2, hg2, tv2, f0, f1, ⟨x2, k0⟩, ⟨x3, k1⟩⟩ := own_cells2 ho2 hlt; have hgo2 : g2 = g' := (by simp at hg2; exact hg2.symm); subst hgo2; replace ho2 := hide ho2; have hb3 := hide ((unhide HBW).trans ((Below.undrew hb2).mono (unhide HGW))); clear hb2 hg2 tv2))
      all_goals go_wp2
      all_goals go_roundw
      case rel =>
        refine ⟨k + 1, by omega, by go_num, ?_, ?_⟩
        · rw [← unhide HK]
          exact own_set2 (j := k) (t, s) (unhide ho2)
        · exact ((unhide hb3).setCell (p := ⟨g2, _, none⟩) (Nat.le_refl _) _).setCell (p := ⟨g2, _, none⟩) (Nat.le_refl _) _
      case measure => simp [intOf]; omega
    · have hkn : k = es.length := by omega
      subst hkn
      have ho' : Own wr (fun _ => (0, 0)) (0, 0) 78 2 (.slice (some ⟨ob, 0, none⟩) es.length es.length) es.length (eC es) := by simpa using ho
      have HO2 := hide ho'
      have HB2 := hide hb
      clear ho ho' hb
      go_wp2
      go_ret
      have hobw := unhide hob
      subst hobw
      exact ⟨_, rfl, own_fresh (unhide HO2).1, unhide HB2⟩

end Go.Proofs.Yteiecbkfganhnaa
