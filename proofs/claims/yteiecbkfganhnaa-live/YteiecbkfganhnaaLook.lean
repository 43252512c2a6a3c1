/- The group: some nodes, as at first. -/
import Derived.Test.YteiecbkfganhnaaMem
import Derived.Test.YteiecbkfganhnaaKeeps
import Derived.Deep.QuietTactic
import Derived.BigQuiet

namespace Go.Proofs.Yteiecbkfganhnaa
open Go.RowKit Go.MuLone

section
variable {w w' w3 : World} {tg : Tags} {gb : Nat} {G : Gp} {x : GX}

theorem pC_push (pb : Nat → Nat) (n nb : Nat) : pC (upd pb n nb) (n + 1) = pC pb n ++ [ptr nb] := by
  unfold pC
  rw [List.range_succ, List.map_append]
  congr 1
  · apply List.map_congr_left
    intro i hi
    have := List.mem_range.1 hi
    simp [upd, show ¬ i = n by omega]
  · simp [upd]

/-- A node more. -/
theorem GM.addNode {nb : Nat} {s : Nd} {v v' : Value} {o : Obj} (h : GM w tg gb G x) (hb : Below w.heap.size w w') (hnb : w.heap.size ≤ nb) (hN : NB 0 w' nb s v) (hL : w'.ownsRow w.heap.size 78 2 v s.log.length (eC s.log))
    (hg : (w'.alloc o).grownBy w3 x.nv.ownBlock) (hq : w3.ownsRow 0 36 1 v' (G.nodes.length + 1) (pC x.pb G.nodes.length ++ [ptr nb])) (hat : v'.ownBlock = x.nv.ownBlock ∨ v'.ownBlock = some (w'.heap.size + 1)) :
    ∃ tg', GM (w3.setCell ⟨gb, 0, none⟩ v') tg' gb { G with nodes := G.nodes ++ [s] } { x with nv := v', pb := upd x.pb G.nodes.length nb, lv := upd x.lv G.nodes.length v } ∧ Stp Agr w tg (w3.setCell ⟨gb, 0, none⟩ v') tg' := by
  obtain ⟨n, hn⟩ : ∃ n, G.nodes.length = n := ⟨_, rfl⟩
  rw [hn] at hq ⊢
  obtain ⟨tg1, htg⟩ : ∃ tg1 : Tags, tg1 = fun k => if k < w.heap.size then tg k else if k = nb then (2, n) else if v.ownBlock = some k then (3, n) else (0, 1) := ⟨_, rfl⟩
  have told : ∀ k, k < w.heap.size → tg1 k = tg k := fun k hk => by rw [htg]; exact if_pos hk
  have tnew : ∀ k, ¬ k < w.heap.size → tg1 k = if k = nb then (2, n) else if v.ownBlock = some k then (3, n) else (0, 1) := fun k hk => by rw [htg]; exact if_neg hk
  have hs1 : Stp (fun _ => False) w tg w' tg1 := ⟨hb.os, hb.tape, hb.output, hb.size, fun k hk _ => ⟨hb.block k hk, told k hk⟩⟩
  have hvn : v.ownBlock ≠ some nb := by
    intro hx
    rcases hL.2 with ⟨rfl, _⟩ | ⟨g, cap, cur, rfl, _, hg, _⟩
    · cases hx
    · simp [Value.ownBlock] at hx
      subst hx
      have h9 : w'.heap[g]? = some (.cells (ncells 0 s _) 76 (0, 0)) := hN
      rw [hg] at h9
      simp only [Option.some.injEq, Obj.cells.injEq] at h9
      exact absurd h9.2.1 (by decide)
  have hnode : NB 0 w' nb s v ∧ tg1 nb = (2, n) ∧ NL w' s v ∧ Tag tg1 v (3, n) := by
    refine ⟨hN, by rw [tnew nb (by omega), if_pos rfl], owns_base hL (Nat.zero_le _), fun y hy => ?_⟩
    have h2 := (hL.lt y hy).1
    rw [tnew y (by omega), if_neg (fun he => hvn (by rw [← he]; exact hy)), if_pos hy]
  have hs2 : Stp (fun _ => False) w' tg1 (w'.alloc o) (newTag w'.heap.size tg1 (0, 1)) := Stp.alloc w' tg1 o (0, 1)
  have h2 := (h.quiet hs1).quiet hs2
  generalize newTag w'.heap.size tg1 (0, 1) = tg2 at *
  have hs3 : Stp (fun U => U = (1, 1)) (w'.alloc o) tg2 w3 (newTag (w'.alloc o).heap.size tg2 (1, 1)) := ⟨hg.os, hg.tape, hg.output, hg.size, fun k hk hx => ⟨hg.block k hk (fun he => hx (h2.nodes.2 k he.symm)), newTag_old hk⟩⟩
  have htb : newTag (w'.alloc o).heap.size tg2 (1, 1) gb = (1, 0) := (newTag_old h2.lt).trans h2.tb
  have hs4 : Stp (fun U => U = (1, 0)) w3 (newTag (w'.alloc o).heap.size tg2 (1, 1)) (w3.setCell ⟨gb, 0, none⟩ v') (newTag (w'.alloc o).heap.size tg2 (1, 1)) := Stp.setCell (a := ⟨gb, 0, none⟩) htb _
  have htv : Tag (newTag (w'.alloc o).heap.size tg2 (1, 1)) v' (1, 1) := by
    intro y hy
    rcases hat with h1 | h1
    · rw [h1] at hy
      rw [newTag_old (owns_lt h2.nodes.1 y hy)]; exact h2.nodes.2 y hy
    · rw [h1] at hy
      simp at hy; subst hy
      exact newTag_new (by simp)
  have hk3 := hs3.keep gb h2.lt (by rw [h2.tb]; decide)
  generalize newTag (w'.alloc o).heap.size tg2 (1, 1) = tg4 at *
  have hs : Stp (fun U => U = (1, 0) ∨ U = (1, 1)) (w'.alloc o) tg2 (w3.setCell ⟨gb, 0, none⟩ v') tg4 := (hs3.mono fun _ h => .inr h).trans (hs4.mono fun _ h => .inl h)
  have hw := q_step h2.way h2.tw hs (by decide)
  have hlen : ({ G with nodes := G.nodes ++ [s] } : Gp).nodes.length = n + 1 := by show (G.nodes ++ [s]).length = _; rw [List.length_append, hn]; rfl
  refine ⟨tg4, {
    blk := heap_setCell_same w3 gb 0 _ _ v' (hk3.1.trans h2.blk)
    tb := htb
    nodes := by rw [hlen, pC_push]; exact Own.step ⟨hq, htv⟩ hs4 (by decide)
    nd := fun i t hi => by
      have hi' : (G.nodes ++ [s])[i]? = some t := hi
      have hno : ∀ T : Nat × Nat, T.1 = 2 ∨ T.1 = 3 → ¬ (T = (1, 0) ∨ T = (1, 1)) := by
        rintro T (hT | hT) (hx | hx) <;> rw [hx] at hT <;> cases hT
      by_cases hin : i < n
      · rw [List.getElem?_append_left (by rw [hn]; exact hin)] at hi'
        show NB 0 _ (upd x.pb n nb i) t (upd x.lv n v i) ∧ tg4 (upd x.pb n nb i) = (2, i) ∧ NL _ t (upd x.lv n v i) ∧ Tag tg4 (upd x.lv n v i) (3, i)
        rw [show upd x.pb n nb i = x.pb i from if_neg (by omega), show upd x.lv n v i = x.lv i from if_neg (by omega)]
        exact nd_step (h2.nd i t hi') hs (hno _ (.inl rfl)) (hno _ (.inr rfl))
      · rw [List.getElem?_append_right (by omega), hn] at hi'
        by_cases hz : i - n = 0
        · rw [hz] at hi'
          simp at hi'
          subst hi'
          have hie : i = n := by omega
          subst hie
          show NB 0 _ (upd x.pb i nb i) s (upd x.lv i v i) ∧ tg4 (upd x.pb i nb i) = (2, i) ∧ NL _ s (upd x.lv i v i) ∧ Tag tg4 (upd x.lv i v i) (3, i)
          rw [show upd x.pb i nb i = nb from if_pos rfl, show upd x.lv i v i = v from if_pos rfl]
          exact nd_step (nd_step hnode hs2 (fun h => h) (fun h => h)) hs (hno _ (.inl rfl)) (hno _ (.inr rfl))
        · rw [List.getElem?_eq_none (by simp; omega)] at hi'
          cases hi'
    way := hw.1
    tw := hw.2
    wf := h2.wf
    we := fun y hy => owns_step (h2.we y hy).1 (h2.we y hy).2 hs (by decide)
    terms := h2.terms.step hs (by decide)
    heads := h2.heads.step hs (by decide)
    known := h2.known.step hs (by decide) }, ((hs1.mono fun _ h => h.elim).trans (hs2.mono fun _ h => h.elim)).trans (hs.mono fun U hU => by rcases hU with hU | hU <;> rw [hU] <;> exact .inl rfl)⟩

end

theorem infoNode : (Try.prog.info? 36).map (fun i => (i.zero, i.size, i.bytes)) = some (some (.pointer none), 1, 8) := by kernel_rfl

/-- The first k of n nodes. -/
def Gp.firstTo (n k : Nat) : Gp := ⟨(List.range k).map fun i => Nd.made i n 0 (-1) [], [], [], [], [], true⟩

theorem firstTo_succ (n k : Nat) : Gp.firstTo n (k + 1) = { Gp.firstTo n k with nodes := (Gp.firstTo n k).nodes ++ [Nd.made k n 0 (-1) []] } := by
  simp [Gp.firstTo, List.range_succ]

set_option maxRecDepth 100000 in
set_option maxHeartbeats 1000000 in
theorem begun_any (n : Nat) (w : World) (tg : Tags) (h1 : 1 ≤ n) (h2 : n ≤ 7) :
    Calls Try.prog 19 #[.int .i64 (n : Int)] w fun e w' => ∃ gb tg' x', e = .returned (ptr gb) ∧ GM w' tg' gb (Gp.first n) x' ∧ Stp Agr w tg w' tg' := by
  obtain ⟨i0, hi, hz0, hz1, hz2⟩ := info_parts infoNode
  have HG0 : Hid (GM (w.alloc (.cells #[.slice none 0 0, .slice none 0 0, .slice none 0 0, .slice none 0 0, .slice none 0 0, .bool true] 33)) (newTag w.heap.size tg (1, 0)) w.heap.size (Gp.firstTo n 0) ⟨.slice none 0 0, .slice none 0 0, .slice none 0 0, .slice none 0 0, .slice none 0 0, fun _ => 0, fun _ => .slice none 0 0, []⟩) := {
    blk := heap_alloc_new w _
    tb := newTag_new (Nat.le_refl _)
    nodes := Own.nil _ _ _ _ _
    nd := fun i s hi => by simp [Gp.firstTo] at hi
    way := QRow.nil _ _ _
    tw := tag_nil _ _
    wf := rfl
    we := fun y hy => by cases hy
    terms := Own.nil _ _ _ _ _
    heads := Own.nil _ _ _ _ _
    known := Own.nil _ _ _ _ _ }
  have HS0 : Hid (Stp Agr w tg (w.alloc (.cells #[.slice none 0 0, .slice none 0 0, .slice none 0 0, .slice none 0 0, .slice none 0 0, .bool true] 33)) (newTag w.heap.size tg (1, 0))) := Stp.alloc w tg _ _
  go_enter Try.func19, Try.ntmps19
  go_wp2
  generalize w.alloc (.cells #[.slice none 0 0, .slice none 0 0, .slice none 0 0, .slice none 0 0, .slice none 0 0, .bool true] 33) = W at *
  generalize newTag w.heap.size tg (1, 0) = tgW at *
  generalize w.heap.size = B at *
  go_loopw [4] (fun u wr => ∃ (k : Nat) (tg' : Tags) (x' : GX), k ≤ n ∧ u = .int .i64 k ∧ GM wr tg' B (Gp.firstTo n k) x' ∧ Stp Agr W tgW wr tg') (fun u _ => n - (intOf u).toNat)
  case atStart => exact ⟨0, tgW, _, Nat.zero_le _, rfl, unhide HG0, Stp.refl _ _ _⟩
  case round =>
    obtain ⟨k, tg1, x1, hk, rfl, hG1, hS1⟩ := hrel
    by_cases hlt : k < n
    · have hki : (k : Int) < (n : Int) := by omega
      have hlen : (Gp.firstTo n k).nodes.length = k := by simp [Gp.firstTo]
      obtain ⟨no, nc, hnv⟩ := hG1.nodes.form
      rw [hlen] at hnv
      have HNV := hide hnv
      have HG1 := hide hG1
      have HS1 := hide hS1
      have HLN := hide hlen
      clear hG1 hS1 hnv hlen
      go_wp2_with (first | (go_at_call 22; go_must (refine (open_ok k n _ h1 h2 hlt).mono ?_); rintro e w3 ⟨nb, v3, rfl, hnb, hN3, hr3, hb3⟩; have d0 := (GM.below (unhide HG1) hb3).c0v (unhide HNV); have e0 := (GM.below (unhide HG1) hb3).free 0; have hgb := (GM.below (unhide HG1) hb3).lt; have HRA : Hid ((w3.alloc (.cells #[ptr nb] 36)).ownsRow 0 36 1 (.slice no k nc) k (pC x1.pb k)) := (by have h9 := ((GM.below (unhide HG1) hb3).quiet (Stp.alloc (A := fun _ => False) w3 _ (.cells #[ptr nb] 36) (0, 1))).nodes.1; rw [unhide HNV, unhide HLN] at h9; exact h9); replace hN3 := hide hN3; replace hr3 := hide hr3; replace hb3 := hide hb3) | (at_builtin; go_must (refine wpList_append_own_at _ rfl (.tmp 30) (.tmp 32) 28 rfl 0 36 i0 _ 1 8 Try.underlying28 hi hz0 hz1 hz2 rfl (by decide) (.slice no k nc) k (pC x1.pb k) rfl (unhide HRA) ⟨w3.heap.size, 0, none⟩ 1 1 [ptr nb] rfl rfl (cell_one_new _ _ _) (by intro u hu; simp at hu; subst hu; rfl) (by unfold maxLen; omega) (by omega) (Nat.zero_le _) ?_)))
      intro v4 w4 hr4 hg4 _ hat4
      obtain ⟨ao4, cp4, rfl⟩ := owns_form hr4
      have hGA := (GM.below (unhide HG1) (unhide hb3)).quiet (Stp.alloc (A := fun _ => False) w3 _ (.cells #[ptr nb] 36) (0, 1))
      have hbl : w4.heap[B]? = (w3.alloc (.cells #[ptr nb] 36)).heap[B]? := hg4.block B hGA.lt (fun e => by
        have h9 := hGA.nodes.2 B (by rw [unhide HNV]; exact e.symm)
        rw [hGA.tb] at h9; cases h9)
      have k0 : w4.cell? ⟨B, 0, none⟩ = some (.slice no k nc) := (World.cell?_of_block (a := ⟨B, 0, none⟩) hbl).trans (hGA.c0v (unhide HNV))
      have q0 : w4.frozen? ⟨B, 0, none⟩ = false := (World.frozen?_of_block (a := ⟨B, 0, none⟩) hbl).trans (hGA.free 0)
      have hg5 := hg4
      rw [← unhide HNV] at hg5
      have hat5 := hat4
      rw [← unhide HNV] at hat5
      have hr5 : w4.ownsRow 0 36 1 (.slice ao4 (k + 1) cp4) ((Gp.firstTo n k).nodes.length + 1) (pC x1.pb (Gp.firstTo n k).nodes.length ++ [ptr nb]) := by rw [unhide HLN]; exact hr4
      obtain ⟨tg5, hG5, hS5⟩ := (unhide HG1).addNode (s := Nd.made k n 0 (-1) []) (unhide hb3) hnb (unhide hN3) (unhide hr3) hg5 hr5 hat5
      rw [unhide HLN] at hG5
      have HG5 := hide hG5
      have HS5 := hide ((unhide HS1).trans hS5)
      clear hG5 hS5 hg4 hg5 hat4 hat5 hr4 hr5 hbl hGA hnb
      go_wp2
      go_roundw
      case rel =>
        refine ⟨k + 1, tg5, { x1 with nv := .slice ao4 (k + 1) cp4, pb := upd x1.pb k nb, lv := upd x1.lv k v3 }, by omega, by go_num, ?_, unhide HS5⟩
        rw [firstTo_succ]
        exact unhide HG5
      case measure => simp [intOf]; omega
    · have hkn : k = n := by omega
      subst hkn
      have HG1 := hide hG1
      have HS1 := hide hS1
      clear hG1 hS1
      go_wp2
      go_ret
      exact ⟨B, tg1, x1, rfl, unhide HG1, (unhide HS0).trans (unhide HS1)⟩

end Go.Proofs.Yteiecbkfganhnaa

namespace Go.Proofs.Yteiecbkfganhnaa
open Go.RowKit Go.MuLone

theorem neqE_same (a : Int) (s : ByteArray) (w : World) : (binOp .neq 78 (.agg #[.int .i64 a, .string s]) (.agg #[.int .i64 a, .string s])).run Try.prog w = .ok (.bool false) w := by
  rw [neqE]; simp

set_option maxRecDepth 100000 in
theorem field_log (a b : Int) (o : Option Addr) (n c : Nat) (w : World) : (Instr.field 58 (.agg #[.int .i64 a, .int .i64 b, .slice o n c]) 2).run Try.prog w = .ok (.slice o n c) w := by
  have hu := Try.underlying58
  have hl := Try.underlying31
  simp only [Instr.field, Sem.run_bind, run_underlying hu, Result.andThen_ok, asAgg]
  go_simp

theorem knows_zero (K l : List Ent) : Gp.knows K l 0 = K := by unfold Gp.knows; rw [if_neg (by omega)]

theorem knows_len {K l : List Ent} {j : Nat} (hj : j ≤ l.length) : j ≤ (Gp.knows K l j).length := by
  unfold Gp.knows
  split
  · rw [List.length_take]; omega
  · omega

/-- One entry more is known. -/
theorem knows_push {K l : List Ent} {j : Nat} (hj : j < l.length) (ha : ∀ k, k < K.length → k ≤ j → K[k]? = l[k]?) (he : (Gp.knows K l j).length = j) : Gp.knows K l (j + 1) = Gp.knows K l j ++ [l[j]] := by
  by_cases h : K.length < j
  · unfold Gp.knows
    rw [if_pos h, if_pos (by omega), List.take_succ_eq_append_getElem hj]
  · have hk : Gp.knows K l j = K := by unfold Gp.knows; rw [if_neg h]
    rw [hk] at he ⊢
    have hK : K = l.take j := by
      apply List.ext_getElem?
      intro k
      by_cases hk2 : k < j
      · rw [ha k (by omega) (by omega), List.getElem?_take_of_lt hk2]
      · rw [List.getElem?_eq_none (by omega), List.getElem?_eq_none (by rw [List.length_take]; omega)]
    unfold Gp.knows
    rw [if_pos (by omega), List.take_succ_eq_append_getElem hj, ← hK]

theorem knows_same {K l : List Ent} {j : Nat} (hj : j ≤ l.length) (he : (Gp.knows K l j).length ≠ j) : Gp.knows K l (j + 1) = Gp.knows K l j := by
  by_cases h : K.length < j
  · exfalso; apply he
    unfold Gp.knows
    rw [if_pos h, List.length_take]; omega
  · have hk : Gp.knows K l j = K := by unfold Gp.knows; rw [if_neg h]
    rw [hk] at he
    unfold Gp.knows
    rw [if_neg h, if_neg (by omega)]

theorem knows_at {K l : List Ent} {j : Nat} (hj : j < l.length) (ha : ∀ k, k < K.length → k ≤ j → K[k]? = l[k]?) : (Gp.knows K l (j + 1))[j]? = some l[j] := by
  unfold Gp.knows
  split
  · rw [List.getElem?_take_of_lt (by omega), List.getElem?_eq_getElem hj]
  · rename_i h
    rw [ha j (by omega) (Nat.le_refl _), List.getElem?_eq_getElem hj]

set_option maxRecDepth 100000 in
set_option maxHeartbeats 2000000 in
theorem safe_any (gb n : Nat) (G : Gp) (x : GX) (gh : Gh) (w : World) (tg : Tags) (h : GM w tg gb G x) (hj : JG n gh G) (ht : TB G) :
    Calls Try.prog 14 #[ptr gb] w fun e w' => e = .returned (.bool true) ∧ ∃ tg' x', GM w' tg' gb (G.seenTo n) x' ∧ Stp Agr w tg w' tg' := by
  have H := hide h
  have HJ := hide hj
  have HT := hide ht
  have hn7 := hj.n7
  have HLEN := hide hj.len
  obtain ⟨i0, hi, hz0, hz1, hz2⟩ := info_parts infoEntry
  have hfl := field_log
  clear h hj ht
  go_enter Try.func14, Try.ntmps14
  go_wp2
  go_loopw [3] (fun u wr => ∃ (k : Nat) (tg' : Tags) (x' : GX), k ≤ n ∧ u = .int .i64 k ∧ GM wr tg' gb (G.seenTo k) x' ∧ Stp Agr w tg wr tg') (fun u _ => n - (intOf u).toNat)
  case atStart => exact ⟨0, tg, x, Nat.zero_le _, rfl, unhide H, Stp.refl _ _ _⟩
  case round =>
    obtain ⟨k, tg1, x1, hk, rfl, h1, hs1⟩ := hrel
    obtain ⟨hJ1, hT1⟩ := (unhide HJ).seenTo (unhide HT) k hk
    have hnl : (G.seenTo k).nodes.length = n := by rw [(seenTo_nodes k).1]; exact unhide HLEN
    obtain ⟨no, nc, hnv⟩ := h1.nodes.form
    rw [hnl] at hnv
    have c0 : wr.cell? ⟨gb, 0, none⟩ = some (.slice no n nc) := by rw [h1.c0, hnv]
    have hgb := h1.lt
    by_cases hlt : k < n
    · have hki : (k : Int) < (n : Int) := by omega
      obtain ⟨g1, rfl, hat, _⟩ := h1.at_ (i := k) (by rw [hnl]; exact hlt) (by rw [hnl]; exact hnv)
      have hnode : (G.seenTo k).nodes[k]? = some (G.node k) := by rw [(seenTo_nodes k).1]; exact ((unhide HJ).node hlt).1
      have HNK := hide ((unhide HJ).node hlt).2
      have HNO := hide hnode
      have HST := hide (gm_status h1 hnode)
      have HNV := hide hnv
      have H1 := hide h1
      have HS1 := hide hs1
      have HJ1 := hide hJ1
      have HT1 := hide hT1
      obtain ⟨s, hs⟩ : ∃ s, G.node k = s := ⟨_, rfl⟩
      rw [hs] at HNK HNO HST
      have hcom := (unhide HNK).ok.com
      have hlen := (unhide HNK).ok.len
      have hlast : s.last = s.log.length := rfl
      rw [hlast] at hcom hlen HST
      have HSK := hide hs
      have i1 : ¬ (s.commit : Int) < 0 := by omega
      have i2 : (s.commit : Int) ≤ (s.log.length : Int) := by omega
      have i3 : ((s.log.length : Int) != (s.log.length : Int)) = false := by simp
      have i4 : ¬ ((s.log.length : Int) < (s.commit : Int)) := by omega
      have i5 : ¬ (s.log.length < s.commit) := by omega
      clear h1 hs1 hJ1 hT1 hnode hnv hs
      go_wp2_with (first | (go_at_call 10; go_must (refine (unhide HST).mono ?_); rintro e w2 ⟨rfl, hb2⟩; have hG2 := hide ((unhide H1).below hb2); have hS2 := hide ((unhide HS1).trans (stp_below tg1 hb2)); have d0 := (unhide hG2).c0v (unhide HNV); have d1 := (hb2.cell (block_lt_of_cell hat)).trans hat; have hg2 := (unhide hG2).lt; have hg12 : g1 < w2.heap.size := block_lt_of_cell d1; clear hb2) | (go_at_call 24; fail))
      have hGA := (unhide hG2).quiet (Stp.alloc (A := fun _ => False) w2 _ (.cells #[.int .i64 s.role, .int .i64 s.term, .int .i64 s.leads, .int .i64 (s.commit : Int), .int .i64 (s.log.length : Int)] 35) (0, 1))
      have hSA := (unhide hS2).trans (Stp.alloc (A := Agr) w2 _ (.cells #[.int .i64 s.role, .int .i64 s.term, .int .i64 s.leads, .int .i64 (s.commit : Int), .int .i64 (s.log.length : Int)] 35) (0, 1))
      have hBA := heap_alloc_new w2 (.cells #[.int .i64 s.role, .int .i64 s.term, .int .i64 s.leads, .int .i64 (s.commit : Int), .int .i64 (s.log.length : Int)] 35)
      have hTA : newTag w2.heap.size (newTag wr.heap.size tg1 (0, 1)) (0, 1) w2.heap.size = (0, 1) := newTag_new (Nat.le_refl _)
      generalize newTag w2.heap.size (newTag wr.heap.size tg1 (0, 1)) (0, 1) = tgA at *
      generalize w2.alloc (.cells #[.int .i64 s.role, .int .i64 s.term, .int .i64 s.leads, .int .i64 (s.commit : Int), .int .i64 (s.log.length : Int)] 35) = WA at *
      refine (gm_saved hGA (unhide HNO) (unhide HNK).ok).mono ?_
      rintro e w3 ⟨v3, rfl, ho3, hb3⟩
      have HGW := hide (hGA.below hb3)
      have HSW := hide (hSA.trans (stp_below tgA hb3))
      have HBW := hide ((hb3.block _ (Array.getElem?_eq_some_iff.1 hBA).1).trans hBA)
      have HTB : Hid (newTag WA.heap.size tgA (0, 1) w2.heap.size = (0, 1)) := (newTag_old (Array.getElem?_eq_some_iff.1 hBA).1).trans hTA
      have HLW : Hid (w3.ownsRow 0 78 2 v3 s.log.length (eC s.log) ∧ Tag (newTag WA.heap.size tgA (0, 1)) v3 (0, 1)) := ⟨owns_base ho3 (Nat.zero_le _), fun y hy => newTag_new (ho3.lt y hy).1⟩
      generalize newTag WA.heap.size tgA (0, 1) = tgW at *
      generalize w2.heap.size = B at *
      obtain ⟨o3, n3, rfl⟩ := owns_form ho3
      clear ho3 hb3 hGA hSA hBA hTA hG2 hS2 d0 d1 hg2 hg12 H1 HS1 HST c0 hat hgb
      have b0 : w3.cell? ⟨B, 0, none⟩ = some (.int .i64 s.role) := cell_of_row w3 _ 0 _ _ _ (unhide HBW)
      have b1 : w3.cell? ⟨B, 1, none⟩ = some (.int .i64 s.term) := cell_of_row w3 _ 1 _ _ _ (unhide HBW)
      have b3 : w3.cell? ⟨B, 3, none⟩ = some (.int .i64 (s.commit : Int)) := cell_of_row w3 _ 3 _ _ _ (unhide HBW)
      have b4 : w3.cell? ⟨B, 4, none⟩ = some (.int .i64 (s.log.length : Int)) := cell_of_row w3 _ 4 _ _ _ (unhide HBW)
      have HAG : Hid (∀ j : Nat, j < (G.seenTo k).known.length → j < s.commit → (G.seenTo k).known[j]? = s.log[j]?) := fun j h1 h2 => (unhide HJ1).agree (unhide HNO) j h1 h2
      have HK60 : Hid ((G.seenTo k).known.length ≤ 60) := (unhide HT1).kn
      by_cases hr : s.role = 3
      · rw [hr] at b0
        have HL := hide (led_any gb k s.term (G.seenTo k) x1 w3 tgW (unhide HGW) (unhide HJ1).th (unhide HT1).few ((unhide HJ1).one (unhide HNO) hr))
        go_wp2_with (first | (go_at_call 29; go_must (refine (unhide HL).mono ?_); rintro e w5 ⟨rfl, tg5, x5, hG5, hS5, hpb5⟩; replace hG5 := hide hG5; replace hS5 := hide hS5; clear hpb5))
        have HGW5 := hide (unhide hG5)
        have hk5 := (unhide hS5).keep B (Array.getElem?_eq_some_iff.1 (unhide HBW)).1 (by rw [unhide HTB]; decide)
        have HBW5 := hide (hk5.1.trans (unhide HBW))
        have HTB5 := hide (hk5.2.trans (unhide HTB))
        have HLW5 := hide (owns_step (unhide HLW).1 (unhide HLW).2 (unhide hS5) (by decide))
        have HSW5 := hide ((unhide HSW).trans ((unhide hS5).mono fun U hU => .inl hU))
        have HAG5 : Hid (∀ j : Nat, j < ((G.seenTo k).leds s.term k).known.length → j < s.commit → ((G.seenTo k).leds s.term k).known[j]? = s.log[j]?) := by rw [(leds_nodes s.term k).2.2.2]; exact HAG
        have HK605 : Hid (((G.seenTo k).leds s.term k).known.length ≤ 60) := by rw [(leds_nodes s.term k).2.2.2]; exact HK60
        have HSEEN : Hid (G.seenTo (k + 1) = { ((G.seenTo k).leds s.term k) with known := Gp.knows ((G.seenTo k).leds s.term k).known s.log s.commit }) := by
          show (G.seenTo k).seen k (G.node k) = _
          rw [unhide HSK, (leds_nodes s.term k).2.2.2]; unfold Gp.seen; rw [if_pos hr]
        clear HGW HBW HTB HLW HSW HAG HK60 hG5 hS5 hk5 b0 b1 b3 b4 HL hr
        have HGW := HGW5
        have HBW := HBW5
        have HTB := HTB5
        have HLW := HLW5
        have HSW := HSW5
        have HAG := HAG5
        have HK60 := HK605
        clear HGW5 HBW5 HTB5 HLW5 HSW5 HAG5 HK605
        generalize (G.seenTo k).leds s.term k = GL at *
        generalize w5 = W at *
        generalize tg5 = tgW at *
        generalize x5 = xW at *
        have HKN : Hid (∀ j : Nat, j < (GL).known.length → j < s.commit → (GL).known[j]? = s.log[j]?) := unhide HAG
        obtain ⟨K, hK⟩ : ∃ K, (GL).known = K := ⟨_, rfl⟩
        have HKL : Hid (K.length ≤ 60) := by show _ ≤ _; rw [← hK]; exact unhide HK60
        rw [hK] at HKN
        have HKK := hide hK
        clear hK
        have hk60 := unhide HKL
        have HGK : Hid (GM W tgW gb { (GL) with known := Gp.knows K s.log 0 } xW) := by
          show GM _ _ _ _ _
          rw [knows_zero, ← unhide HKK]; exact unhide HGW
        go_loopw [7] (fun u wr2 => ∃ (j : Nat) (tg' : Tags) (x' : GX), j ≤ s.commit ∧ u = .int .i64 j ∧ GM wr2 tg' gb { (GL) with known := Gp.knows K s.log j } x' ∧ Stp Agr W tgW wr2 tg') (fun u _ => s.commit - (intOf u).toNat)
        case atStart => exact ⟨0, tgW, xW, Nat.zero_le _, rfl, unhide HGK, Stp.refl _ _ _⟩
        case round =>
          obtain ⟨j, tg8, x8, hj, rfl, hG8, hS8⟩ := hrel
          have hb8 := hS8.keep B (Array.getElem?_eq_some_iff.1 (unhide HBW)).1 (by rw [unhide HTB]; exact agr01)
          have s3 : wr.cell? ⟨B, 3, none⟩ = some (.int .i64 (s.commit : Int)) := cell_of_row wr B 3 _ _ _ (hb8.1.trans (unhide HBW))
          have hL8 := owns_step (unhide HLW).1 (unhide HLW).2 hS8 agr01
          obtain ⟨ko, kc, hkv⟩ := hG8.known.form
          have c4 := hG8.c4v hkv
          have hkl0 : ({ (GL) with known := Gp.knows K s.log j } : Gp).known.length = (Gp.knows K s.log j).length := rfl
          rw [hkl0] at c4 hkv
          have hgb8 := hG8.lt
          by_cases hjl : j < s.commit
          · have hji : (j : Int) < (s.commit : Int) := by omega
            have hjlog : j < s.log.length := by omega
            have HAJ : Hid (∀ k, k < K.length → k ≤ j → K[k]? = s.log[k]?) := fun k h1 h2 => unhide HKN k h1 (by omega)
            obtain ⟨ao, cp, hv9, _, he9⟩ := ents_of_owns hL8.1
            obtain ⟨g9, off9, rfl, y1, y2⟩ := he9 j _ (List.getElem?_eq_getElem hjlog)
            simp only [Value.slice.injEq, true_and] at hv9
            obtain ⟨rfl, rfl⟩ := hv9
            have HAT := hide (knows_at hjlog (unhide HAJ))
            have hkn := knows_len (K := K) (l := s.log) (j := j) (by omega)
            have hkb : (Gp.knows K s.log j).length ≤ 60 := by unfold Gp.knows; split; (rw [List.length_take]; omega); exact hk60
            have hg9 : g9 < wr.heap.size := block_lt_of_cell y1
            have HG8 := hide hG8
            have HS8 := hide hS8
            have HKV := hide hkv
            have hne := neqE_same s.log[j].1 s.log[j].2
            clear hG8 hS8 hL8 hkv he9 hb8 hkl0
            by_cases hjn : (Gp.knows K s.log j).length = j
            · have hjb : ((j : Int) == ((Gp.knows K s.log j).length : Int)) = true := by simp [hjn]
              have HPU := hide (knows_push hjlog (unhide HAJ) hjn)
              have HJN := hide hjn
              clear hjn
              generalize s.log[j] = q at *
              obtain ⟨q1, q2⟩ := q
              simp only at y1 y2 hne
              have hneB : ¬ gb = wr.heap.size := by omega
              have hneB2 : ¬ wr.heap.size = gb := by omega
              have HGA : Hid (GM (wr.alloc (.cells #[.int .i64 q1, .string q2] 78)).drew (newTag wr.heap.size tg8 (0, 1)) gb _ x8) := ((unhide HG8).quiet (Stp.alloc (A := fun _ => False) wr tg8 (.cells #[.int .i64 q1, .string q2] 78) (0, 1))).quiet (Stp.drew1 _ _ _)
              have HSA : Hid (Stp Agr wr tg8 (wr.alloc (.cells #[.int .i64 q1, .string q2] 78)).drew (newTag wr.heap.size tg8 (0, 1))) := (Stp.alloc wr tg8 _ _).trans (Stp.drew1 _ _ _)
              have HRA : Hid ((wr.alloc (.cells #[.int .i64 q1, .string q2] 78)).drew.ownsRow 0 78 2 (.slice ko (Gp.knows K s.log j).length kc) (Gp.knows K s.log j).length (eC (Gp.knows K s.log j))) := by
                have h9 := (unhide HGA).known.1
                rw [unhide HKV] at h9; exact h9
              have HY : Hid (∀ w4 : World, (wr.alloc (.cells #[.int .i64 q1, .string q2] 78)).drew.grownBy w4 (Value.slice ko (Gp.knows K s.log j).length kc).ownBlock → w4.cell? ⟨g9, off9 + j * 2, none⟩ = some (.int .i64 q1) ∧ w4.cell? ⟨g9, off9 + j * 2 + 1, none⟩ = some (.string q2)) := fun w4 hg4 => by
                have hgb4 : w4.heap[g9]? = wr.heap[g9]? := by
                  refine (hg4.block g9 (by show g9 < (wr.alloc _).heap.size; simp; omega) (fun e => ?_)).trans (Below.heap_alloc wr _ g9 hg9)
                  have h9 := (unhide HGA).known.2 g9 (by rw [unhide HKV]; exact e.symm)
                  rw [newTag_old hg9] at h9
                  have h8 := ((unhide HS8).keep g9 (owns_lt (unhide HLW).1 g9 rfl) (by rw [(unhide HLW).2 g9 rfl]; exact agr01)).2
                  rw [h8, (unhide HLW).2 g9 rfl] at h9
                  cases h9
                exact ⟨(World.cell?_of_block (a := ⟨g9, off9 + j * 2, none⟩) hgb4).trans y1, (World.cell?_of_block (a := ⟨g9, off9 + j * 2 + 1, none⟩) hgb4).trans y2⟩
              have f4 := (unhide HG8).free 4
              have HGN : Hid (gb ≠ g9) := by
                intro he
                have h8 := ((unhide HS8).keep g9 (owns_lt (unhide HLW).1 g9 rfl) (by rw [(unhide HLW).2 g9 rfl]; exact agr01)).2
                rw [← he, (unhide HG8).tb, he, (unhide HLW).2 g9 rfl] at h8
                cases h8
              go_wp2
              go_region_law (first | (refine step_append_lies _ (by rfl) (.tmp 78) (.tmp 83) 31 (by rfl) 0 78 i0 _ 2 24 Try.underlying31 hi hz0 hz1 hz2 rfl (by decide) (.slice ko (Gp.knows K s.log j).length kc) (Gp.knows K s.log j).length (eC (Gp.knows K s.log j)) (by rfl) (by exact unhide HRA) ⟨wr.heap.size, 0, none⟩ 1 1 [.int .i64 q1, .string q2] (by rfl) rfl (by exact cells_new9 _ _ _) (by intro u hu; simp at hu; rcases hu with rfl | rfl <;> rfl) (by decide) (by unfold maxLen; omega) (by omega) (Nat.zero_le _) (wr.heap.size + 1) (by simp) ?_; intro gc cap2 w4 hown4 hgrow4 hat4 hlt4; have hbl4 := (unhide HGA).known_block (unhide HKV) hgrow4; have k4 : w4.cell? ⟨gb, 4, none⟩ = some (.slice ko (Gp.knows K s.log j).length kc) := (World.cell?_of_block (a := ⟨gb, 4, none⟩) hbl4).trans ((unhide HGA).c4v (unhide HKV)); have q4 : w4.frozen? ⟨gb, 4, none⟩ = false := (World.frozen?_of_block (a := ⟨gb, 4, none⟩) hbl4).trans ((unhide HGA).free 4); have hy4 := hide (unhide HY w4 hgrow4); replace hown4 := hide hown4; replace hgrow4 := hide hgrow4; replace hat4 := hide hat4; clear hlt4 hbl4))
              all_goals
                have hke : (Gp.knows K s.log (j + 1)).length = (Gp.knows K s.log j).length + 1 := by rw [unhide HPU, List.length_append]; rfl
                obtain ⟨tg9, hG9, hS9⟩ := (unhide HGA).setKnown (v' := .slice (some ⟨gc, 0, none⟩) ((Gp.knows K s.log j).length + 1) cap2) (l := Gp.knows K s.log (j + 1)) (by rw [unhide HKV]; exact unhide hgrow4) (by rw [hke, unhide HPU, eC_append]; exact unhide hown4) (by rw [unhide HKV]; have h9 := unhide hat4; rcases h9 with h9 | h9; (exact .inl h9.symm); (exact .inr (by show some gc = some _; rw [h9]; simp)))
                have HG9 := hide hG9
                have HS9 := hide (((unhide HS8).trans (unhide HSA)).trans (hS9.mono fun U hU => .inl hU))
                have hke2 := hke
                have kk4 := hG9.c4
                obtain ⟨yy1, yy2⟩ := unhide hy4
                have hrow := hG9.known.1
                have hkel : ({ ({ (GL) with known := Gp.knows K s.log j } : Gp) with known := Gp.knows K s.log (j + 1) } : Gp).known.length = (Gp.knows K s.log j).length + 1 := hke
                rw [hkel] at hrow
                have hjat := unhide HAT
                obtain ⟨ao9, cp9, hv9, _, he9⟩ := ents_of_owns (es := Gp.knows K s.log (j + 1)) (by rw [hke]; exact hrow)
                obtain ⟨g8, off8, ha8, z1, z2⟩ := he9 j _ hjat
                simp only [hke, Value.slice.injEq, true_and] at hv9
                obtain ⟨rfl, rfl⟩ := hv9
                simp only [Option.some.injEq, Addr.mk.injEq, and_true] at ha8
                obtain ⟨rfl, rfl⟩ := ha8
                have hw9g : (w4.setCell ⟨gb, 4, none⟩ (.slice (some ⟨gc, 0, none⟩) ((Gp.knows K s.log j).length + 1) cap2)).cell? ⟨g9, off9 + j * 2, none⟩ = some (.int .i64 q1) := (cell_ne (unhide HGN) _ _ _ _).trans yy1
                have hw9h : (w4.setCell ⟨gb, 4, none⟩ (.slice (some ⟨gc, 0, none⟩) ((Gp.knows K s.log j).length + 1) cap2)).cell? ⟨g9, off9 + j * 2 + 1, none⟩ = some (.string q2) := (cell_ne (unhide HGN) _ _ _ _).trans yy2
                have hji2 : (j : Int) < (((Gp.knows K s.log j).length : Int) + 1) := by omega
                clear hrow he9 hjat hG9 hS9 hown4 hgrow4 hat4 hy4 yy1 yy2 k4 q4 y1 y2 hkel
                simp only [Nat.zero_add] at z1 z2
                have hgb9 := (unhide HG9).lt
                go_wp2
                generalize w4.setCell ⟨gb, 4, none⟩ (.slice (some ⟨gc, 0, none⟩) ((Gp.knows K s.log j).length + 1) cap2) = W9 at *
                go_quiet (fail)
                go_wp2
                go_roundw
                case rel => exact ⟨j + 1, tg9, _, by omega, by go_num, (unhide HG9).quiet ((Stp.refl _ _ _).drewN _), (unhide HS9).drewN _⟩
                case measure => simp [intOf]; omega
            · have hjb : ((j : Int) == ((Gp.knows K s.log j).length : Int)) = false := by simp; omega
              have HSM := hide (knows_same (K := K) (l := s.log) (j := j) (by omega) hjn)
              have hjat := unhide HAT
              rw [unhide HSM] at hjat
              have hrow := (unhide HG8).known.1
              rw [unhide HKV] at hrow
              obtain ⟨ao9, cp9, hv9, _, he9⟩ := ents_of_owns (es := Gp.knows K s.log j) hrow
              obtain ⟨g8, off8, ha8, z1, z2⟩ := he9 j _ hjat
              simp only [Value.slice.injEq, true_and] at hv9
              obtain ⟨rfl, rfl⟩ := hv9
              subst ha8
              have hji2 : (j : Int) < ((Gp.knows K s.log j).length : Int) := by omega
              generalize s.log[j] = q at *
              obtain ⟨q1, q2⟩ := q
              simp only at y1 y2 z1 z2 hne
              clear hjn hrow he9 hjat
              go_wp2
              go_quiet (fail)
              go_wp2
              go_roundw
              case rel => exact ⟨j + 1, tg8, x8, by omega, by go_num, by rw [unhide HSM]; exact (unhide HG8).quiet ((Stp.refl _ _ _).drewN _), (unhide HS8).drewN _⟩
              case measure => simp [intOf]; omega
          · have hjc : j = s.commit := by omega
            subst hjc
            have HG8 := hide hG8
            have HS8 := hide hS8
            clear hG8 hS8 hL8 hkv hb8 hkl0
            go_wp2
            go_roundw
            case rel =>
              refine ⟨k + 1, tg8, x8, by omega, by go_num, ?_, (unhide HSW).trans (unhide HS8)⟩
              rw [unhide HSEEN, unhide HKK]
              exact unhide HG8
            case measure => simp [intOf]; omega
      · have hrb : (s.role == 3) = false := by simpa using hr
        go_wp2
        have HSEEN : Hid (G.seenTo (k + 1) = { (G.seenTo k) with known := Gp.knows (G.seenTo k).known s.log s.commit }) := by
          show (G.seenTo k).seen k (G.node k) = _
          rw [unhide HSK]; unfold Gp.seen; rw [if_neg hr]
        clear b0 b1 b3 b4 hr hrb
        generalize G.seenTo k = GL at *
        generalize w3 = W at *
        generalize x1 = xW at *
        have HKN : Hid (∀ j : Nat, j < (GL).known.length → j < s.commit → (GL).known[j]? = s.log[j]?) := unhide HAG
        obtain ⟨K, hK⟩ : ∃ K, (GL).known = K := ⟨_, rfl⟩
        have HKL : Hid (K.length ≤ 60) := by show _ ≤ _; rw [← hK]; exact unhide HK60
        rw [hK] at HKN
        have HKK := hide hK
        clear hK
        have hk60 := unhide HKL
        have HGK : Hid (GM W tgW gb { (GL) with known := Gp.knows K s.log 0 } xW) := by
          show GM _ _ _ _ _
          rw [knows_zero, ← unhide HKK]; exact unhide HGW
        go_loopw [7] (fun u wr2 => ∃ (j : Nat) (tg' : Tags) (x' : GX), j ≤ s.commit ∧ u = .int .i64 j ∧ GM wr2 tg' gb { (GL) with known := Gp.knows K s.log j } x' ∧ Stp Agr W tgW wr2 tg') (fun u _ => s.commit - (intOf u).toNat)
        case atStart => exact ⟨0, tgW, xW, Nat.zero_le _, rfl, unhide HGK, Stp.refl _ _ _⟩
        case round =>
          obtain ⟨j, tg8, x8, hj, rfl, hG8, hS8⟩ := hrel
          have hb8 := hS8.keep B (Array.getElem?_eq_some_iff.1 (unhide HBW)).1 (by rw [unhide HTB]; exact agr01)
          have s3 : wr.cell? ⟨B, 3, none⟩ = some (.int .i64 (s.commit : Int)) := cell_of_row wr B 3 _ _ _ (hb8.1.trans (unhide HBW))
          have hL8 := owns_step (unhide HLW).1 (unhide HLW).2 hS8 agr01
          obtain ⟨ko, kc, hkv⟩ := hG8.known.form
          have c4 := hG8.c4v hkv
          have hkl0 : ({ (GL) with known := Gp.knows K s.log j } : Gp).known.length = (Gp.knows K s.log j).length := rfl
          rw [hkl0] at c4 hkv
          have hgb8 := hG8.lt
          by_cases hjl : j < s.commit
          · have hji : (j : Int) < (s.commit : Int) := by omega
            have hjlog : j < s.log.length := by omega
            have HAJ : Hid (∀ k, k < K.length → k ≤ j → K[k]? = s.log[k]?) := fun k h1 h2 => unhide HKN k h1 (by omega)
            obtain ⟨ao, cp, hv9, _, he9⟩ := ents_of_owns hL8.1
            obtain ⟨g9, off9, rfl, y1, y2⟩ := he9 j _ (List.getElem?_eq_getElem hjlog)
            simp only [Value.slice.injEq, true_and] at hv9
            obtain ⟨rfl, rfl⟩ := hv9
            have HAT := hide (knows_at hjlog (unhide HAJ))
            have hkn := knows_len (K := K) (l := s.log) (j := j) (by omega)
            have hkb : (Gp.knows K s.log j).length ≤ 60 := by unfold Gp.knows; split; (rw [List.length_take]; omega); exact hk60
            have hg9 : g9 < wr.heap.size := block_lt_of_cell y1
            have HG8 := hide hG8
            have HS8 := hide hS8
            have HKV := hide hkv
            have hne := neqE_same s.log[j].1 s.log[j].2
            clear hG8 hS8 hL8 hkv he9 hb8 hkl0
            by_cases hjn : (Gp.knows K s.log j).length = j
            · have hjb : ((j : Int) == ((Gp.knows K s.log j).length : Int)) = true := by simp [hjn]
              have HPU := hide (knows_push hjlog (unhide HAJ) hjn)
              have HJN := hide hjn
              clear hjn
              generalize s.log[j] = q at *
              obtain ⟨q1, q2⟩ := q
              simp only at y1 y2 hne
              have hneB : ¬ gb = wr.heap.size := by omega
              have hneB2 : ¬ wr.heap.size = gb := by omega
              have HGA : Hid (GM (wr.alloc (.cells #[.int .i64 q1, .string q2] 78)).drew (newTag wr.heap.size tg8 (0, 1)) gb _ x8) := ((unhide HG8).quiet (Stp.alloc (A := fun _ => False) wr tg8 (.cells #[.int .i64 q1, .string q2] 78) (0, 1))).quiet (Stp.drew1 _ _ _)
              have HSA : Hid (Stp Agr wr tg8 (wr.alloc (.cells #[.int .i64 q1, .string q2] 78)).drew (newTag wr.heap.size tg8 (0, 1))) := (Stp.alloc wr tg8 _ _).trans (Stp.drew1 _ _ _)
              have HRA : Hid ((wr.alloc (.cells #[.int .i64 q1, .string q2] 78)).drew.ownsRow 0 78 2 (.slice ko (Gp.knows K s.log j).length kc) (Gp.knows K s.log j).length (eC (Gp.knows K s.log j))) := by
                have h9 := (unhide HGA).known.1
                rw [unhide HKV] at h9; exact h9
              have HY : Hid (∀ w4 : World, (wr.alloc (.cells #[.int .i64 q1, .string q2] 78)).drew.grownBy w4 (Value.slice ko (Gp.knows K s.log j).length kc).ownBlock → w4.cell? ⟨g9, off9 + j * 2, none⟩ = some (.int .i64 q1) ∧ w4.cell? ⟨g9, off9 + j * 2 + 1, none⟩ = some (.string q2)) := fun w4 hg4 => by
                have hgb4 : w4.heap[g9]? = wr.heap[g9]? := by
                  refine (hg4.block g9 (by show g9 < (wr.alloc _).heap.size; simp; omega) (fun e => ?_)).trans (Below.heap_alloc wr _ g9 hg9)
                  have h9 := (unhide HGA).known.2 g9 (by rw [unhide HKV]; exact e.symm)
                  rw [newTag_old hg9] at h9
                  have h8 := ((unhide HS8).keep g9 (owns_lt (unhide HLW).1 g9 rfl) (by rw [(unhide HLW).2 g9 rfl]; exact agr01)).2
                  rw [h8, (unhide HLW).2 g9 rfl] at h9
                  cases h9
                exact ⟨(World.cell?_of_block (a := ⟨g9, off9 + j * 2, none⟩) hgb4).trans y1, (World.cell?_of_block (a := ⟨g9, off9 + j * 2 + 1, none⟩) hgb4).trans y2⟩
              have f4 := (unhide HG8).free 4
              have HGN : Hid (gb ≠ g9) := by
                intro he
                have h8 := ((unhide HS8).keep g9 (owns_lt (unhide HLW).1 g9 rfl) (by rw [(unhide HLW).2 g9 rfl]; exact agr01)).2
                rw [← he, (unhide HG8).tb, he, (unhide HLW).2 g9 rfl] at h8
                cases h8
              go_wp2
              go_region_law (first | (refine step_append_lies _ (by rfl) (.tmp 78) (.tmp 83) 31 (by rfl) 0 78 i0 _ 2 24 Try.underlying31 hi hz0 hz1 hz2 rfl (by decide) (.slice ko (Gp.knows K s.log j).length kc) (Gp.knows K s.log j).length (eC (Gp.knows K s.log j)) (by rfl) (by exact unhide HRA) ⟨wr.heap.size, 0, none⟩ 1 1 [.int .i64 q1, .string q2] (by rfl) rfl (by exact cells_new9 _ _ _) (by intro u hu; simp at hu; rcases hu with rfl | rfl <;> rfl) (by decide) (by unfold maxLen; omega) (by omega) (Nat.zero_le _) (wr.heap.size + 1) (by simp) ?_; intro gc cap2 w4 hown4 hgrow4 hat4 hlt4; have hbl4 := (unhide HGA).known_block (unhide HKV) hgrow4; have k4 : w4.cell? ⟨gb, 4, none⟩ = some (.slice ko (Gp.knows K s.log j).length kc) := (World.cell?_of_block (a := ⟨gb, 4, none⟩) hbl4).trans ((unhide HGA).c4v (unhide HKV)); have q4 : w4.frozen? ⟨gb, 4, none⟩ = false := (World.frozen?_of_block (a := ⟨gb, 4, none⟩) hbl4).trans ((unhide HGA).free 4); have hy4 := hide (unhide HY w4 hgrow4); replace hown4 := hide hown4; replace hgrow4 := hide hgrow4; replace hat4 := hide hat4; clear hlt4 hbl4))
              all_goals
                have hke : (Gp.knows K s.log (j + 1)).length = (Gp.knows K s.log j).length + 1 := by rw [unhide HPU, List.length_append]; rfl
                obtain ⟨tg9, hG9, hS9⟩ := (unhide HGA).setKnown (v' := .slice (some ⟨gc, 0, none⟩) ((Gp.knows K s.log j).length + 1) cap2) (l := Gp.knows K s.log (j + 1)) (by rw [unhide HKV]; exact unhide hgrow4) (by rw [hke, unhide HPU, eC_append]; exact unhide hown4) (by rw [unhide HKV]; have h9 := unhide hat4; rcases h9 with h9 | h9; (exact .inl h9.symm); (exact .inr (by show some gc = some _; rw [h9]; simp)))
                have HG9 := hide hG9
                have HS9 := hide (((unhide HS8).trans (unhide HSA)).trans (hS9.mono fun U hU => .inl hU))
                have hke2 := hke
                have kk4 := hG9.c4
                obtain ⟨yy1, yy2⟩ := unhide hy4
                have hrow := hG9.known.1
                have hkel : ({ ({ (GL) with known := Gp.knows K s.log j } : Gp) with known := Gp.knows K s.log (j + 1) } : Gp).known.length = (Gp.knows K s.log j).length + 1 := hke
                rw [hkel] at hrow
                have hjat := unhide HAT
                obtain ⟨ao9, cp9, hv9, _, he9⟩ := ents_of_owns (es := Gp.knows K s.log (j + 1)) (by rw [hke]; exact hrow)
                obtain ⟨g8, off8, ha8, z1, z2⟩ := he9 j _ hjat
                simp only [hke, Value.slice.injEq, true_and] at hv9
                obtain ⟨rfl, rfl⟩ := hv9
                simp only [Option.some.injEq, Addr.mk.injEq, and_true] at ha8
                obtain ⟨rfl, rfl⟩ := ha8
                have hw9g : (w4.setCell ⟨gb, 4, none⟩ (.slice (some ⟨gc, 0, none⟩) ((Gp.knows K s.log j).length + 1) cap2)).cell? ⟨g9, off9 + j * 2, none⟩ = some (.int .i64 q1) := (cell_ne (unhide HGN) _ _ _ _).trans yy1
                have hw9h : (w4.setCell ⟨gb, 4, none⟩ (.slice (some ⟨gc, 0, none⟩) ((Gp.knows K s.log j).length + 1) cap2)).cell? ⟨g9, off9 + j * 2 + 1, none⟩ = some (.string q2) := (cell_ne (unhide HGN) _ _ _ _).trans yy2
                have hji2 : (j : Int) < (((Gp.knows K s.log j).length : Int) + 1) := by omega
                clear hrow he9 hjat hG9 hS9 hown4 hgrow4 hat4 hy4 yy1 yy2 k4 q4 y1 y2 hkel
                simp only [Nat.zero_add] at z1 z2
                have hgb9 := (unhide HG9).lt
                go_wp2
                generalize w4.setCell ⟨gb, 4, none⟩ (.slice (some ⟨gc, 0, none⟩) ((Gp.knows K s.log j).length + 1) cap2) = W9 at *
                go_quiet (fail)
                go_wp2
                go_roundw
                case rel => exact ⟨j + 1, tg9, _, by omega, by go_num, (unhide HG9).quiet ((Stp.refl _ _ _).drewN _), (unhide HS9).drewN _⟩
                case measure => simp [intOf]; omega
            · have hjb : ((j : Int) == ((Gp.knows K s.log j).length : Int)) = false := by simp; omega
              have HSM := hide (knows_same (K := K) (l := s.log) (j := j) (by omega) hjn)
              have hjat := unhide HAT
              rw [unhide HSM] at hjat
              have hrow := (unhide HG8).known.1
              rw [unhide HKV] at hrow
              obtain ⟨ao9, cp9, hv9, _, he9⟩ := ents_of_owns (es := Gp.knows K s.log j) hrow
              obtain ⟨g8, off8, ha8, z1, z2⟩ := he9 j _ hjat
              simp only [Value.slice.injEq, true_and] at hv9
              obtain ⟨rfl, rfl⟩ := hv9
              subst ha8
              have hji2 : (j : Int) < ((Gp.knows K s.log j).length : Int) := by omega
              generalize s.log[j] = q at *
              obtain ⟨q1, q2⟩ := q
              simp only at y1 y2 z1 z2 hne
              clear hjn hrow he9 hjat
              go_wp2
              go_quiet (fail)
              go_wp2
              go_roundw
              case rel => exact ⟨j + 1, tg8, x8, by omega, by go_num, by rw [unhide HSM]; exact (unhide HG8).quiet ((Stp.refl _ _ _).drewN _), (unhide HS8).drewN _⟩
              case measure => simp [intOf]; omega
          · have hjc : j = s.commit := by omega
            subst hjc
            have HG8 := hide hG8
            have HS8 := hide hS8
            clear hG8 hS8 hL8 hkv hb8 hkl0
            go_wp2
            go_roundw
            case rel =>
              refine ⟨k + 1, tg8, x8, by omega, by go_num, ?_, (unhide HSW).trans (unhide HS8)⟩
              rw [unhide HSEEN, unhide HKK]
              exact unhide HG8
            case measure => simp [intOf]; omega
    · have hkn : k = n := by omega
      subst hkn
      have c5 := h1.c5
      rw [show (G.seenTo k).ok = true from by rw [(seenTo_nodes k).2.2]; exact (unhide HJ).ok] at c5
      have H1 := hide h1
      have HS1 := hide hs1
      clear h1 hs1 hJ1 hT1 hnv
      go_wp2
      go_ret
      exact ⟨rfl, tg1, x1, unhide H1, unhide HS1⟩

end Go.Proofs.Yteiecbkfganhnaa

namespace Go.Proofs.Yteiecbkfganhnaa
open Go.RowKit Go.MuLone

theorem take_get {a b : List Ent} {c k : Nat} (h : a.take c = b.take c) (hk : k < c) : a[k]? = b[k]? := by
  have h1 : (a.take c)[k]? = (b.take c)[k]? := by rw [h]
  rwa [List.getElem?_take_of_lt hk, List.getElem?_take_of_lt hk] at h1
theorem take_less {a b : List Ent} {c k : Nat} (h : a.take c = b.take c) (hk : k ≤ c) : a.take k = b.take k := by
  rw [← take_take_le a hk, h, take_take_le b hk]

theorem below_drewN' {w w' : World} {B : Nat} (h : Below B w w') (m : Nat) : Below B w (w'.drewN m) := ⟨h.os, h.tape, h.output, h.size, h.block⟩

set_option maxRecDepth 100000 in
set_option maxHeartbeats 2000000 in
theorem match_any (gb n : Nat) (G : Gp) (x : GX) (w : World) (tg : Tags) (h : GM w tg gb G x) (hl : G.nodes.length = n) (hn7 : n ≤ 7) (hok : ∀ (i : Nat) (s : Nd), G.nodes[i]? = some s → Ok s)
    (hm : ∀ (i j : Nat) (s t : Nd), G.nodes[i]? = some s → G.nodes[j]? = some t → ∀ (k : Nat) (h1 : k < s.log.length) (h2 : k < t.log.length), s.log[k].1 = t.log[k].1 → s.log.take (k + 1) = t.log.take (k + 1)) :
    Calls Try.prog 17 #[ptr gb] w fun e w' => e = .returned (.bool true) ∧ Below w.heap.size w w' := by
  have H := hide h
  have HOK := hide hok
  have HM := hide hm
  have HL := hide hl
  have hfl := field_log
  obtain ⟨no, nc, hnv⟩ := h.nodes.form
  rw [hl] at hnv
  have HNV := hide hnv
  have HG : Hid (∀ wr, Below w.heap.size w wr → GM wr (newTag w.heap.size tg (0, 1)) gb G x) := fun wr hb => (unhide H).below hb
  clear h hok hm hl hnv
  go_enter Try.func17, Try.ntmps17
  go_wp2
  go_loopw [3] (fun u wr => ∃ i : Nat, i ≤ n ∧ u = .int .i64 i ∧ Below w.heap.size w wr) (fun u _ => n - (intOf u).toNat)
  case atStart => exact ⟨0, Nat.zero_le _, rfl, Below.refl _ _⟩
  case round =>
    obtain ⟨i, hi, rfl, hb⟩ := hrel
    have h1 := unhide HG _ hb
    have c0 := h1.c0v (unhide HNV)
    have hgb := h1.lt
    by_cases hlt : i < n
    · have hii : (i : Int) < (n : Int) := by omega
      have hil : i < G.nodes.length := by rw [unhide HL]; exact hlt
      obtain ⟨g1, hg1, hat, _⟩ := h1.at_ (i := i) hil (by rw [unhide HL]; exact unhide HNV)
      subst hg1
      obtain ⟨s, hs⟩ : ∃ s, G.nodes[i]? = some s := ⟨G.nodes[i], List.getElem?_eq_getElem hil⟩
      have HSV := hide (gm_saved h1 hs (unhide HOK i s hs))
      have hlen := (unhide HOK i s hs).len
      have hla : s.last = s.log.length := rfl
      rw [hla] at hlen
      have HSI := hide hs
      have HB := hide hb
      clear h1 hs hla hb
      go_wp2_with (first | (go_at_call 24; go_must (refine (unhide HSV).mono ?_); rintro e w2 ⟨v2, rfl, ho2, hb2⟩; obtain ⟨o2, n2, rfl⟩ := owns_form ho2; replace ho2 := hide ho2; replace hb2 := hide hb2))
      have HB2 : Hid (Below w.heap.size w w2) := (unhide HB).trans ((unhide hb2).mono (unhide HB).size)
      have HA2 := hide (ents_of_owns (unhide ho2))
      clear HSV HB hb2 ho2 c0 hgb hat
      go_loopw [5] (fun u wr => ∃ j : Nat, j ≤ i ∧ u = .int .i64 j ∧ Below w2.heap.size w2 wr) (fun u _ => i - (intOf u).toNat)
      case atStart => exact ⟨0, Nat.zero_le _, rfl, Below.refl _ _⟩
      case round =>
        obtain ⟨j, hj, rfl, hb⟩ := hrel
        by_cases hjl : j < i
        · have hji : (j : Int) < (i : Int) := by omega
          have hjn : (j : Int) < (n : Int) := by omega
          have hbw : Below w.heap.size w wr := (unhide HB2).trans (hb.mono (unhide HB2).size)
          have h1 := unhide HG _ hbw
          have c0 := h1.c0v (unhide HNV)
          have hgb := h1.lt
          have hjL : j < G.nodes.length := by rw [unhide HL]; omega
          obtain ⟨g2, hg2, hat, _⟩ := h1.at_ (i := j) hjL (by rw [unhide HL]; exact unhide HNV)
          simp only [Option.some.injEq, Addr.mk.injEq, and_true] at hg2
          subst hg2
          obtain ⟨t, ht⟩ : ∃ t, G.nodes[j]? = some t := ⟨G.nodes[j], List.getElem?_eq_getElem hjL⟩
          have HSV := hide (gm_saved h1 ht (unhide HOK j t ht))
          have hlenT := (unhide HOK j t ht).len
          have hla : t.last = t.log.length := rfl
          rw [hla] at hlenT
          have HMT := hide (unhide HM i j s t (unhide HSI) ht)
          have HB := hide hb
          clear h1 ht hla hb hbw
          go_wp2_with (first | (go_at_call 24; go_must (refine (unhide HSV).mono ?_); rintro e w4 ⟨v4, rfl, ho4, hb4⟩; obtain ⟨o4, n4, rfl⟩ := owns_form ho4; replace ho4 := hide ho4; replace hb4 := hide hb4))
          have HB4 : Hid (Below w2.heap.size w2 w4) := (unhide HB).trans ((unhide hb4).mono (unhide HB).size)
          have HA4 := hide (ents_of_owns (unhide ho4))
          have HA3 := hide (ents_below (unhide HA2) (unhide HB4))
          clear HSV HB hb4 ho4 c0 hgb hat
          go_loopw [7, 8] (fun u v wr => ∃ (c : Nat) (b : Bool) (m : Nat), c ≤ s.log.length ∧ u = .bool b ∧ v = .int .i64 ((c : Int) - 1) ∧ wr = w4.drewN m ∧ (b = true → c ≤ t.log.length ∧ s.log.take c = t.log.take c)) (fun _ v _ => (intOf v + 1).toNat)
          case atStart => exact ⟨s.log.length, false, 0, Nat.le_refl _, rfl, rfl, rfl, fun hx => by cases hx⟩
          case round =>
            obtain ⟨c, b, m, hc, rfl, rfl, rfl, hab⟩ := hrel
            cases c with
            | zero =>
              have HB5 := hide (below_drewN' (unhide HB4) m)
              clear hab
              rw [show (((0 : Nat) : Int) - 1) = -1 from rfl]
              go_wp2
              go_roundw
              case rel => exact ⟨j + 1, by omega, by go_num, unhide HB5⟩
              case measure => simp [intOf]; omega
            | succ k =>
              rw [show (((k + 1 : Nat) : Int) - 1) = (k : Int) from by omega]
              have hks : k < s.log.length := by omega
              have hki : (k : Int) < (s.log.length : Int) := by omega
              have hk0 : (0 : Int) ≤ (k : Int) := by omega
              have hk9 : ((k : Int) - 1) = ((k : Int) - 1) := rfl
              clear hk9
              obtain ⟨ao, cp, hva, _, hea⟩ := unhide HA3
              obtain ⟨ga, oa, ha0, a1, a2⟩ := hea k _ (List.getElem?_eq_getElem hks)
              subst ha0
              simp only [Value.slice.injEq, true_and] at hva
              obtain ⟨hva1, hva2⟩ := hva
              subst hva1 hva2
              by_cases hkt : k < t.log.length
              · have hkti : (k : Int) < (t.log.length : Int) := by omega
                obtain ⟨bo, bp, hvb, _, heb⟩ := unhide HA4
                obtain ⟨gt, ot, hb0, b1, b2⟩ := heb k _ (List.getElem?_eq_getElem hkt)
                subst hb0
                simp only [Value.slice.injEq, true_and] at hvb
                obtain ⟨hvb1, hvb2⟩ := hvb
                subst hvb1 hvb2
                cases b with
                | true =>
                  have hst : s.log[k] = t.log[k] := by
                    have h9 := take_get (hab rfl).2 (Nat.lt_succ_self k)
                    rw [List.getElem?_eq_getElem hks, List.getElem?_eq_getElem hkt] at h9
                    exact Option.some.inj h9
                  have HR : Hid (k ≤ t.log.length ∧ s.log.take k = t.log.take k) := ⟨by omega, take_less (hab rfl).2 (by omega)⟩
                  rw [← hst] at b1 b2
                  have hne := neqE_same s.log[k].1 s.log[k].2
                  clear hab hst hea heb
                  generalize s.log[k] = q at *
                  obtain ⟨q1, q2⟩ := q
                  simp only at a1 a2 b1 b2 hne
                  go_wp2
                  go_quiet (fail)
                  go_wp2
                  go_quiet (fail)
                  go_wp2
                  go_roundw
                  case rel => exact ⟨k, true, _, by omega, rfl, rfl, rfl, fun _ => unhide HR⟩
                  case measure => simp [intOf]
                | false =>
                  by_cases heq : s.log[k].1 = t.log[k].1
                  · have h8 := unhide HMT k hks hkt heq
                    have hst : s.log[k] = t.log[k] := by
                      have h9 := take_get h8 (Nat.lt_succ_self k)
                      rw [List.getElem?_eq_getElem hks, List.getElem?_eq_getElem hkt] at h9
                      exact Option.some.inj h9
                    have HR : Hid (k ≤ t.log.length ∧ s.log.take k = t.log.take k) := ⟨by omega, take_less h8 (by omega)⟩
                    rw [← hst] at b1 b2
                    have hne := neqE_same s.log[k].1 s.log[k].2
                    clear hab hst hea heb heq h8
                    generalize s.log[k] = q at *
                    obtain ⟨q1, q2⟩ := q
                    simp only at a1 a2 b1 b2 hne
                    have hqq : (q1 == q1) = true := by simp
                    go_wp2
                    go_quiet (fail)
                    go_wp2
                    go_quiet (fail)
                    go_wp2
                    go_roundw
                    case rel => exact ⟨k, true, _, by omega, rfl, rfl, rfl, fun _ => unhide HR⟩
                    case measure => simp [intOf]
                  · have hqq : (s.log[k].1 == t.log[k].1) = false := by simpa using heq
                    clear hab hea heb heq
                    generalize s.log[k] = q at *
                    generalize t.log[k] = r at *
                    obtain ⟨q1, q2⟩ := q
                    obtain ⟨r1, r2⟩ := r
                    simp only at a1 a2 b1 b2 hqq
                    go_wp2
                    go_quiet (fail)
                    go_wp2
                    go_quiet (fail)
                    go_wp2
                    go_roundw
                    case rel => exact ⟨k, false, _, by omega, rfl, rfl, rfl, fun hx => by cases hx⟩
                    case measure => simp [intOf]
              · have hkti : (t.log.length : Int) ≤ (k : Int) := by omega
                have hbf : b = false := by
                  cases b with
                  | false => rfl
                  | true => have := (hab rfl).1; omega
                subst hbf
                clear hab hea
                go_wp2
                go_roundw
                case rel => exact ⟨k, false, _, by omega, rfl, rfl, rfl, fun hx => by cases hx⟩
                case measure => simp [intOf]
        · have hji : j = i := by omega
          subst hji
          have HB5 : Hid (Below w.heap.size w wr) := (unhide HB2).trans (hb.mono (unhide HB2).size)
          clear hb
          go_wp2
          go_roundw
          case rel => exact ⟨j + 1, by omega, by go_num, unhide HB5⟩
          case measure => simp [intOf]; omega
    · have hin : i = n := by omega
      subst hin
      have HB := hide hb
      clear hb h1
      go_wp2
      go_ret
      exact ⟨rfl, unhide HB⟩

end Go.Proofs.Yteiecbkfganhnaa
