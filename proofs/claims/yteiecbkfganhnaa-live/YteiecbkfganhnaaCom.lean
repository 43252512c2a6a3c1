/- The program's node: Committed. -/
import Derived.Test.YteiecbkfganhnaaNodeD
import Derived.Test.YteiecbkfganhnaaOthers
import Derived.LoopN
import Derived.Laws.Closers25
namespace Go.Proofs.Yteiecbkfganhnaa
open Go.RowKit Go.MuLone

/-- The commands among the first k entries. -/
def cmdsTo (l : List Ent) (k : Nat) : List ByteArray := ((l.take k).map Prod.snd).filter fun c => decide (c.size ≠ 0)
def Nd.cmds (s : Nd) : List ByteArray := cmdsTo s.log s.commit

theorem cmdsTo_zero (l : List Ent) : cmdsTo l 0 = [] := rfl
theorem cmdsTo_yes {l : List Ent} {k : Nat} (hk : k < l.length) (h : l[k].2.size ≠ 0) : cmdsTo l (k + 1) = cmdsTo l k ++ [l[k].2] := by
  unfold cmdsTo
  rw [List.take_succ_eq_append_getElem hk, List.map_append, List.filter_append]
  congr 1
  show List.filter _ [l[k].2] = [l[k].2]
  rw [List.filter_cons, if_pos (decide_eq_true h), List.filter_nil]
theorem cmdsTo_no {l : List Ent} {k : Nat} (hk : k < l.length) (h : l[k].2.size = 0) : cmdsTo l (k + 1) = cmdsTo l k := by
  unfold cmdsTo
  rw [List.take_succ_eq_append_getElem hk, List.map_append, List.filter_append]
  show _ ++ List.filter _ [l[k].2] = _
  rw [List.filter_cons, if_neg (by simp [h]), List.filter_nil, List.append_nil]
theorem cmdsTo_len (l : List Ent) (k : Nat) : (cmdsTo l k).length ≤ k := by
  refine Nat.le_trans (List.length_filter_le _ _) ?_
  simp; omega

theorem infoStrC : (Try.prog.info? 9).map (fun i => (i.zero, i.size, i.bytes)) = some (some (.string ⟨#[]⟩), 1, 16) := by kernel_rfl

theorem nonempty_isEmpty {c : ByteArray} (h : c.size ≠ 0) : c.toList.isEmpty = false := by
  rw [← decide_eq_emptyBytes c]
  refine decide_eq_false fun hx => h ?_
  rw [hx]; rfl
theorem empty_isEmpty {c : ByteArray} (h : c.size = 0) : c = ⟨#[]⟩ := by
  cases c with
  | mk d =>
    have : d.size = 0 := h
    have : d = #[] := Array.eq_empty_of_size_eq_zero this
    rw [this]

theorem cell_one_at (w : World) (x : Value) (t : TypeId) (b : Nat) (hb : w.heap.size = b) : ∀ j u, [x][j]? = some u → (w.alloc (.cells #[x] t)).cell? ((⟨b, 0, none⟩ : Addr).add j) = some u := by subst hb; exact cell_one_new w x t

set_option maxRecDepth 100000 in
set_option maxHeartbeats 1000000 in
theorem committed_any (nb : Nat) (s : Nd) (lv : Value) (w : World) (h : NB 0 w nb s lv) (hl : NL w s lv) (hc : s.commit ≤ s.last) (h60 : s.last ≤ 60) :
    Calls Try.prog 18 #[.pointer (some ⟨nb, 0, none⟩)] w fun e w' => ∃ v, e = .returned v ∧ w'.ownsRow w.heap.size 9 1 v s.cmds.length (tC s.cmds) ∧ Below w.heap.size w w' := by
  have c0 := h.c0
  have f0 := h.free 0
  have c6 := h.c6
  have c9 := h.c9
  have H := hide h
  have HL := hide hl
  have hc' : s.commit ≤ s.log.length := hc
  by_cases hz : s.commit = 0
  · obtain ⟨lo, lc, rfl⟩ := hl.form
    have HZ : Hid (s.cmds = []) := by show _ = _; unfold Nd.cmds; rw [hz]; rfl
    rw [hz] at c9
    have c9' : (w.cell? ⟨nb, 9, none⟩) = some (.int .i64 0) := c9
    clear h hl hz c9
    go_enter_defers Try.func18, Try.ntmps18
    go_wp2_with (go_at_call 27; refine (lock_free muLib ⟨nb, 0, none⟩ _ c0 f0).mono ?_; rintro e w' ⟨rfl, rfl⟩)
    go_quiet (fail)
    go_wp2
    refine wp_loop_rounds 1 ?_
    rw [rounds_succ]
    go_wp2
    have hlk := lock_below (w1 := (w.setCell ⟨nb, 0, none⟩ (.int .i32 1)).drewN nq) (unhide H) ⟨rfl, rfl, rfl, Nat.le_refl _, fun _ _ => rfl⟩
    refine leaves_cons (f := 28) (args := #[.pointer (some ⟨nb, 0, none⟩)]) (by simp) (by simp [go_sem]) ?_
    refine (unlock_deferred muLib ⟨nb, 0, none⟩ .returning _ hlk.1.c0 (hlk.1.free 0)).mono ?_
    rintro e u' w'' ⟨rfl, rfl, rfl⟩
    refine ⟨_, results_tmp rfl _ _ _, _, rfl, ?_, hlk.2⟩
    rw [unhide HZ]
    exact World.ownsRow_nil _ _ _ _
  · obtain ⟨lb, lc, rfl, hle⟩ : ∃ lb lc, lv = .slice (some ⟨lb, 0, none⟩) s.log.length lc ∧ s.log.length ≤ lc := by
      rcases hl.2 with ⟨rfl, h0⟩ | ⟨g, cap, cur, rfl, _, _, hnc, _⟩
      · omega
      · exact ⟨g, cap, rfl, hnc⟩
    have i1 : (0 : Int) ≤ (s.commit : Int) := by omega
    have i3 : (s.commit : Int) ≤ (lc : Int) := by omega
    clear h hl
    go_enter_defers Try.func18, Try.ntmps18
    go_wp2_with (go_at_call 27; refine (lock_free muLib ⟨nb, 0, none⟩ _ c0 f0).mono ?_; rintro e w' ⟨rfl, rfl⟩)
    go_quiet (fail)
    go_wp2
    have HW : Hid (Below w.heap.size (w.setCell ⟨nb, 0, none⟩ (.int .i32 1)) ((w.setCell ⟨nb, 0, none⟩ (.int .i32 1)).drewN nq)) := ⟨rfl, rfl, rfl, Nat.le_refl _, fun _ _ => rfl⟩
    have HSZ : Hid (((w.setCell ⟨nb, 0, none⟩ (.int .i32 1)).drewN nq).heap.size = w.heap.size) := by show _ = _; simp [World.setCell]
    have HLW : Hid (NL ((w.setCell ⟨nb, 0, none⟩ (.int .i32 1)).drewN nq) s (.slice (some ⟨lb, 0, none⟩) s.log.length lc)) := by
      have h9 := (unhide HL).ew (unhide H) ((Ew.refl nb w).set 0 (.int .i32 1))
      exact h9
    generalize (w.setCell ⟨nb, 0, none⟩ (.int .i32 1)).drewN nq = W at *
    obtain ⟨i0, hi, hz0, hz1, hz2⟩ := info_parts infoStrC
    clear c0 f0 c6 c9
    obtain ⟨B, hB⟩ : ∃ B, w.heap.size = B := ⟨_, rfl⟩
    have HBB := hide hB
    have HSZ2 : Hid (W.heap.size = B) := (unhide HSZ).trans hB
    go_loopw [3, 23] (fun l i wr => ∃ k : Nat, k ≤ s.commit ∧ i = .int .i64 k ∧ wr.ownsRow B 9 1 l (cmdsTo s.log k).length (tC (cmdsTo s.log k)) ∧ Below W.heap.size W wr) (fun _ i _ => s.commit - (intOf i).toNat)
    case atStart => exact ⟨0, Nat.zero_le _, rfl, World.ownsRow_nil W _ _ _, Below.refl _ _⟩
    case round =>
      obtain ⟨k, hk, rfl, ho, hb⟩ := hrel
      obtain ⟨lo, lc2, rfl⟩ := owns_form ho
      have hol := cmdsTo_len s.log k
      by_cases hlt : k < s.commit
      · have hkl : k < s.log.length := by omega
        have i2 : (k : Int) < (s.commit : Int) := by omega
        have i4 : (0 : Int) ≤ (k : Int) := by omega
        obtain ⟨ao, cp, hv, _, he⟩ := ((unhide HLW).below hb).ents
        obtain ⟨b2, off2, rfl, a0, a1⟩ := he k _ (show s.log[k]? = some s.log[k] by simp [hkl])
        simp only [Value.slice.injEq, Option.some.injEq, Addr.mk.injEq, and_true, true_and] at hv
        obtain ⟨⟨rfl, rfl⟩, rfl⟩ := hv
        have hlbr : lb < wr.heap.size := block_lt_of_cell a0
        simp only [Nat.zero_add] at a0 a1
        have hlbn : ¬ lb = wr.heap.size := by omega
        have HB := hide hb
        have HO := hide ho
        by_cases hq : s.log[k].2.size = 0
        · have HC := hide (cmdsTo_no hkl hq)
          have hq2 := empty_isEmpty hq
          rw [hq2] at a1
          generalize s.log[k].1 = t at *
          clear hb ho he hq hq2
          have HB2 := hide ((unhide HB).alloc (unhide HB).size (.cells #[.int .i64 t, .string ⟨#[]⟩] 78))
          have HO2 := hide ((unhide HO).alloc (.cells #[.int .i64 t, .string ⟨#[]⟩] 78))
          go_wp2
          go_roundw
          case rel => exact ⟨k + 1, by omega, by go_num, by rw [unhide HC]; exact unhide HO2, unhide HB2⟩
          case measure => simp [intOf]; omega
        · have HC := hide (cmdsTo_yes hkl hq)
          have hq2 := nonempty_isEmpty hq
          generalize s.log[k].1 = t at *
          generalize s.log[k].2 = q at *
          clear hb ho he hq
          have hnne : (!q.toList.isEmpty) = true := by rw [hq2]; rfl
          have HB2 := hide (((unhide HB).alloc (unhide HB).size (.cells #[.int .i64 t, .string q] 78)))
          have HO2 := hide ((unhide HO).alloc (.cells #[.int .i64 t, .string q] 78))
          go_wp2_with (at_builtin; go_must (refine wpList_append_own_at _ rfl (.tmp 30) (.tmp 33) 45 rfl B 9 i0 _ 1 16 Try.underlying45 hi hz0 hz1 hz2 rfl (by decide) (.slice lo (cmdsTo s.log k).length lc2) (cmdsTo s.log k).length (tC (cmdsTo s.log k)) rfl ((unhide HO2).alloc _) ⟨wr.heap.size + 1, 0, none⟩ 1 1 [.string q] rfl rfl (cell_one_at _ _ _ _ (by simp)) (by intro u hu; simp at hu; subst hu; rfl) (by unfold maxLen; omega) (by omega) (by have h1 := (unhide HB2).size; have h2 := unhide HSZ2; simp at h1 ⊢; omega) ?_))
          intro v' w' h2 h3 _ _
          have HN : Hid (w'.ownsRow B 9 1 v' (cmdsTo s.log (k + 1)).length (tC (cmdsTo s.log (k + 1)))) := by
            show World.ownsRow _ _ _ _ _ _ _
            rw [unhide HC, List.length_append]
            show World.ownsRow _ _ _ _ _ _ (List.map Value.string (_ ++ _))
            rw [List.map_append]
            exact h2
          have HB3 : Hid (Below W.heap.size W w') := by
            refine (((unhide HB2).alloc (unhide HB2).size _).grown h3 ?_ (fun x hx => ?_))
            · have h1 := (unhide HB2).size
              simp at h1 ⊢; omega
            · have h1 := ((unhide HO2).lt x hx).1
              have h2 := unhide HSZ2
              omega
          clear h2 h3
          go_wp2
          go_roundw
          case rel => exact ⟨k + 1, by omega, by go_num, unhide HN, unhide HB3⟩
          case measure => simp [intOf]; omega
      · have hkn : k = s.commit := by omega
        subst hkn
        have HB := hide hb
        have HO := hide ho
        clear hb ho
        go_wp2
        have hW2 : Below w.heap.size (w.setCell ⟨nb, 0, none⟩ (.int .i32 1)) wr := by
          have h1 := unhide HB
          rw [unhide HSZ2, ← unhide HBB] at h1
          exact (unhide HW).trans h1
        have hlk := lock_below (w1 := wr) (unhide H) hW2
        refine leaves_cons (f := 28) (args := #[.pointer (some ⟨nb, 0, none⟩)]) (by simp) (by simp [go_sem]) ?_
        refine (unlock_deferred muLib ⟨nb, 0, none⟩ .returning _ hlk.1.c0 (hlk.1.free 0)).mono ?_
        rintro e u' w'' ⟨rfl, rfl, rfl⟩
        refine ⟨_, results_tmp rfl _ _ _, _, rfl, ?_, hlk.2⟩
        rw [unhide HBB]
        have hlt := (unhide H).lt
        exact owns_kept (unhide HO) fun y hy => Below.heap_setCell _ _ _ _ (by have h1 := ((unhide HO).lt y hy).1; have h2 := unhide HBB; simp only; omega)

end Go.Proofs.Yteiecbkfganhnaa
