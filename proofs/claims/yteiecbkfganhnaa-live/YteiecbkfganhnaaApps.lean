/- The program's node: sendAppends. -/
import Derived.Test.YteiecbkfganhnaaApp
namespace Go.Proofs.Yteiecbkfganhnaa
open Go.RowKit Go.MuLone

theorem owns_other {w : World} {b1 b2 e1 e2 s1 s2 n1 n2 : Nat} {v1 v2 : Value} {x1 x2 : List Value} (h1 : w.ownsRow b1 e1 s1 v1 n1 x1) (h2 : w.ownsRow b2 e2 s2 v2 n2 x2) (hne : e1 ≠ e2) : ∀ x, v1.ownBlock = some x → v2.ownBlock ≠ some x := by
  intro x hx hy
  rcases h1.2 with ⟨rfl, _⟩ | ⟨g, cap, cur, rfl, _, hg, _⟩
  · simp [Value.ownBlock] at hx
  · rcases h2.2 with ⟨rfl, _⟩ | ⟨g', cap', cur', rfl, _, hg', _⟩
    · simp [Value.ownBlock] at hy
    · simp [Value.ownBlock] at hx hy
      subst hx
      subst hy
      rw [hg] at hg'
      simp at hg'
      exact hne hg'.2

theorem cells_new9 (w : World) (l : List Value) (t : TypeId) : ∀ j u, l[j]? = some u → (w.alloc (.cells l.toArray t)).cell? ((⟨w.heap.size, 0, none⟩ : Addr).add j) = some u := by
  intro j u hj
  rw [add0, cell_of_row _ _ _ _ _ _ (heap_alloc_new w _)]
  simpa using hj

theorem MsgsOut.push {w w1 w2 : World} {base : Nat} {v v' ev : Value} {ms : List Msg} {l : List (Msg × Value)} {m : Msg} {o : Obj} (h : MsgsOut w base v ms l) (hw : base ≤ w.heap.size) (hb : Below w.heap.size w w1) (he : w1.ownsRow w.heap.size 78 2 ev m.ents.length (eC m.ents))
    (hg : (w1.alloc o).grownBy w2 v.ownBlock) (hr : w2.ownsRow base 50 9 v' (ms.length + 1) (mC l ++ mcells m ev)) : MsgsOut w2 base v' (ms ++ [m]) (l ++ [(m, ev)]) := by
  have hrow := owns_below h.row hb
  have keep : ∀ {x : Msg × Value} {B : Nat}, w1.ownsRow B 78 2 x.2 x.1.ents.length (eC x.1.ents) → w2.ownsRow B 78 2 x.2 x.1.ents.length (eC x.1.ents) := fun {x B} hx =>
    owns_kept (hx.alloc o) fun k hk => hg.block k (owns_lt (hx.alloc o) k hk) (fun e => owns_other hx hrow (by decide) k hk e.symm)
  refine ⟨by rw [List.map_append, h.fst]; rfl, ?_, fun x hx => ?_, ?_⟩
  · rw [mC_append, List.length_append]
    simpa [mC] using hr
  · rcases List.mem_append.1 hx with hx | hx
    · exact keep (owns_below (h.ents x hx) hb)
    · simp only [List.mem_singleton] at hx
      subst hx
      exact owns_base (keep he) hw
  · refine List.pairwise_append.2 ⟨h.apart, List.pairwise_singleton _ _, fun x hx y hy b hxb hyb => ?_⟩
    simp only [List.mem_singleton] at hy
    subst hy
    have h1 := ((h.ents x hx).lt b hxb).2
    have h2 := (he.lt b hyb).1
    omega

theorem mcells_one (m : Msg) (ao : Option Addr) (n c : Nat) : ∀ u ∈ mcells m (.slice ao n c), u.oneCell' = true := by
  intro u hu
  simp only [mcells, List.mem_cons, List.not_mem_nil, or_false] at hu
  rcases hu with rfl | rfl | rfl | rfl | rfl | rfl | rfl | rfl | rfl <;> rfl

set_option maxRecDepth 100000 in
set_option maxHeartbeats 2000000 in
theorem sendAppends_any (mu : Int) (nb : Nat) (s : Nd) (lv : Value) (ts : List Nat) (tv : Value) (w : World) (h : NB mu w nb s lv) (hl : NL w s lv) (hL : Leads s) (hn : s.n ≤ 7) (ht : IntsIn w tv (ts.map fun (k : Nat) => (k : Int))) (htn : ∀ t ∈ ts, t < s.n) (hlen : ts.length ≤ 7) :
    Calls Try.prog 53 #[.pointer (some ⟨nb, 0, none⟩), tv] w fun e w' => ∃ v l, e = .returned v ∧ MsgsOut w' w.heap.size v (ts.map s.appendTo) l ∧ Below w.heap.size w w' := by
  obtain ⟨ao, cap, rfl, ha⟩ := ht
  simp only [List.length_map]
  have HA := hide ha
  have H := hide h
  have HL := hide hl
  have HLD := hide hL
  have HTN := hide htn
  clear ha h hl hL htn
  obtain ⟨i0, hi, hz0, hz1, hz2⟩ := info_parts infoMsg
  go_enter Try.func53, Try.ntmps53
  go_wp2
  go_loopw [5, 10] (fun v i wr => ∃ (k : Nat) (l : List (Msg × Value)), k ≤ ts.length ∧ i = .int .i64 k ∧ MsgsOut wr w.heap.size v ((ts.take k).map s.appendTo) l ∧ Below w.heap.size w wr) (fun _ i _ => ts.length - (intOf i).toNat)
  case atStart => exact ⟨0, [], Nat.zero_le _, rfl, MsgsOut.nil _ _, Below.refl _ _⟩
  case round =>
    obtain ⟨k, l, hk, rfl, ho, hb⟩ := hrel
    by_cases hlt : k < ts.length
    · obtain ⟨b, off, rfl, a0'⟩ := (unhide HA) k _ (show (ts.map fun (k : Nat) => (k : Int))[k]? = some (ts[k] : Int) by simp [hlt])
      have a0 := (hb.cell (p := ⟨b, off + k, none⟩) (block_lt_of_cell a0')).trans a0'
      have i1 : (0 : Int) ≤ (k : Int) := by omega
      have i2 : (k : Int) < (ts.length : Int) := by omega
      have HTK := hide ((unhide HTN) ts[k] (List.getElem_mem hlt))
      have HM : Hid ((ts.take (k + 1)).map s.appendTo = (ts.take k).map s.appendTo ++ [s.appendTo ts[k]]) := by show _ = _; rw [List.take_succ_eq_append_getElem hlt, List.map_append]; rfl
      obtain ⟨vo, vc, rfl⟩ := owns_form ho.row
      have hkl : ((ts.take k).map s.appendTo).length = k := by simp; omega
      rw [hkl] at ho ⊢
      have HO := hide ho
      have HB := hide hb
      clear a0' ho hb
      generalize ts[k] = t at *
      go_wp2_with (first | (go_at_call 83; refine (appendTo_any mu nb s lv t wr ((unhide H).below (unhide HB)) ((unhide HL).below (unhide HB)) (unhide HLD).last (unhide HLD).sz (Nat.lt_of_lt_of_le (unhide HTK) hn) ((unhide HLD).lo t (unhide HTK)) ((unhide HLD).hi t (unhide HTK)) (unhide HLD).pos).mono ?_; rintro e w1 ⟨ev, rfl, he1, hb1⟩; obtain ⟨eo, ec, rfl⟩ := owns_form he1; generalize s.appendTo t = m at *; replace he1 := hide he1; replace hb1 := hide hb1) | (at_builtin; go_must (refine wpList_append_own_at _ rfl (.tmp 14) (.tmp 18) 29 rfl w.heap.size 50 i0 _ 9 88 Try.underlying29 hi hz0 hz1 hz2 rfl (by decide) (.slice vo k vc) k (mC l) rfl (by have h1 := (owns_below (unhide HO).row (unhide hb1)).alloc (.cells (mcells m (.slice eo m.ents.length ec)).toArray 50); rw [hkl] at h1; exact h1) ⟨w1.heap.size, 0, none⟩ 1 1 (mcells m (.slice eo m.ents.length ec)) rfl rfl (by exact cells_new9 _ _ _) (mcells_one _ _ _ _) (by unfold maxLen; omega) (by omega) (by have h1 := (unhide HB).size; have h2 := (unhide hb1).size; simp; omega) ?_)))
      intro v' w' h2 h3 _ _
      have HP : Hid (MsgsOut w' w.heap.size v' ((ts.take (k + 1)).map s.appendTo) (l ++ [(m, .slice eo m.ents.length ec)])) := by
        have h4 := (unhide HO).push (unhide HB).size (unhide hb1) (unhide he1) h3 (v' := v') (by rw [hkl]; exact h2)
        rw [← unhide HM] at h4
        exact h4
      have HB2 : Hid (Below w.heap.size w w') := (((unhide HB).trans ((unhide hb1).mono (unhide HB).size)).alloc (Nat.le_trans (unhide HB).size (unhide hb1).size) _).grown h3 (by have h1 := (unhide HB).size; have h2 := (unhide hb1).size; simp; omega) (fun x hx => ((unhide HO).row.lt x hx).1)
      clear h2 h3
      go_wp2
      go_roundw
      case rel => exact ⟨k + 1, _, by omega, by go_num, unhide HP, unhide HB2⟩
      case measure => simp [intOf]; omega
    · have hkn : k = ts.length := by omega
      subst hkn
      rw [List.take_length] at ho
      have HO := hide ho
      have HB := hide hb
      clear ho hb
      go_wp2
      go_ret
      exact ⟨_, _, rfl, unhide HO, unhide HB⟩

end Go.Proofs.Yteiecbkfganhnaa
