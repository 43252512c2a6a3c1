/- Lists that are handed in, with their spare room; A game is made; The law's restart; A game is made, over the nodes as plain data; The program's node: Committed; The document's node: Committed; The program's node: Propose; What a game shows, at a look and at the end. -/
import Derived.Test.YteiecbkfganhnaaGreatKSettle
import Derived.Deep.RegionHeld3
import Derived.Test.YteiecbkfganhnaaGreatKSend
import Derived.Test.YteiecbkfganhnaaGreatKGStep
import Derived.Deep.DeepCutAuto
import Derived.Test.YteiecbkfganhnaaGreatKInvC
import Derived.LoopN
import Derived.Laws.Closers25
import Derived.Test.YteiecbkfganhnaaGreatKBmB

namespace Go.Proofs.YteiecbkfganhnaaGreat

open Go.RowKit

theorem run_copy_wide {P : Program} (w : World) (dT sT ty elem : TypeId) (i : TypeInfo) (size g dLen dCap : Nat) (sv : Value) (m : Nat) (cur : Array Value) (t : TypeId) (cs : List Value)
    (hu : P.underlying dT = some (.slice elem)) (hi : P.info? elem = some i) (hsize : i.size = size) (hg : w.heap[g]? = some (.cells cur t (0, 0))) (hl : cs.length = m * size) (hsrc : Src w sv m cs) (hm : m ≤ dLen)
    (hfit : cs.length ≤ cur.size) (h1 : ∀ v ∈ cs, v.oneCell' = true) :
    ∃ w', (Builtin.copy_ #[dT, sT] ty #[.slice (some ⟨g, 0, none⟩) dLen dCap, sv]).run P w = .ok (goInt m) w' ∧ w'.heap[g]? = some (.cells (cs ++ cur.toList.drop cs.length).toArray t (0, 0)) ∧ w.grownBy w' (some g) := by
  subst hsize
  rcases hsrc with ⟨rfl, rfl, rfl⟩ | ⟨ad, c, rfl, hnews⟩
  · refine ⟨w, ?_, by simpa using hg, ⟨rfl, rfl, rfl, Nat.le_refl _, fun _ _ _ => rfl⟩⟩
    simp [Builtin.copy_, run_underlying hu, Builtin.lenOf, Builtin.firstCells, sizeOf, typeInfo, hi, storeCells]
  · have hf := run_firstCells_some (P := P) w i.size m ad m c cs hl hnews
    have hst := run_storeCells_at P g 0 t cs 0 cur w hg (by simpa using hfit) h1
    refine ⟨_, ?_, setRow_heap w g cur _ t _ hg, ⟨rfl, rfl, rfl, by simp, fun k _ hk => setRow_other w g k _ (fun e => hk (by rw [e]))⟩⟩
    simp at hst
    simp [Builtin.copy_, run_underlying hu, Builtin.lenOf, sizeOf, typeInfo, hi, Nat.min_eq_left hm, hf, hst]

theorem wpList_copy_wide {P : Program} {w : World} {ops : Array Oper} {rest : List Oper} {o : Oper} {a : Act} {Q : Exit → Act → World → Prop} (hgd : o.guard = none) (d s : Operand) (dT sT : TypeId)
    (ho : o.op = .call { callee := .builtin .copy, args := #[d, s], argTypes := #[dT, sT] }) (elem : TypeId) (i : TypeInfo) (size g dLen dCap : Nat) (sv : Value) (m : Nat) (cur : Array Value) (t : TypeId) (cs : List Value)
    (hd : a.eval d = .slice (some ⟨g, 0, none⟩) dLen dCap) (hs : a.eval s = sv)
    (hu : P.underlying dT = some (.slice elem)) (hi : P.info? elem = some i) (hsize : i.size = size) (hg : w.heap[g]? = some (.cells cur t (0, 0))) (hl : cs.length = m * size) (hsrc : Src w sv m cs) (hm : m ≤ dLen)
    (hfit : cs.length ≤ cur.size) (h1 : ∀ v ∈ cs, v.oneCell' = true)
    (h : ∀ w', w'.heap[g]? = some (.cells (cs ++ cur.toList.drop cs.length).toArray t (0, 0)) → w.grownBy w' (some g) → wpList P ops Q rest (a.put o.dst (goInt m)) w') : wpList P ops Q (o :: rest) a w := by
  refine wpList_plain hgd fun K hK => ?_
  obtain ⟨w', hr, h2, h3⟩ := run_copy_wide (P := P) w dT sT o.type elem i size g dLen dCap sv m cur t cs hu hi hsize hg hl hsrc hm hfit h1
  unfold Oper.wp
  simp [execOp, ho, resolve, invoke, builtin, hd, hs, hr, Result.andThen]
  exact hK _ _ (h w' h2 h3)

/-- The mark of a spare place. -/
abbrev spareE : Ent := (-5, ⟨#[33]⟩)

abbrev blotE : Ent := (1, ⟨#[98, 108, 111, 116]⟩)

theorem eC_drop (es : List Ent) (k : Nat) : (eC es).drop (k * 2) = eC (es.drop k) := by
  induction k generalizing es with
  | zero => simp
  | succ k ih =>
    match es with
    | [] => simp [eC]
    | e :: es => rw [show (k + 1) * 2 = k * 2 + 1 + 1 by omega, eC_cons]; simpa using ih es

/-- A row that is known whole. -/
def RowE (w : World) (g n : Nat) (es : List Ent) : Prop := Own w (fun _ => (0, 0)) (0, 0) 66 2 (.slice (some ⟨g, 0, none⟩) n n) n (eC es)

theorem rowE_of {w : World} {g n : Nat} {cur : Array Value} {es : List Ent} (h : w.heap[g]? = some (.cells cur 66 (0, 0))) (hc : cur.toList = eC es) (hn : es.length = n) (hm : n ≤ maxLen) : RowE w g n es :=
  ⟨⟨by rw [eC_length, hn], .inr ⟨g, n, cur, rfl, Nat.zero_le _, h, Nat.le_refl _, hm, by rw [← Array.length_toList, hc, eC_length, hn], by rw [hc, List.take_of_length_le (by rw [eC_length, hn]; exact Nat.le_refl _)]⟩⟩, fun _ _ => rfl⟩

theorem own_whole {w : World} {base e size n g : Nat} {xs : List Value} (h : w.ownsRow base e size (.slice (some ⟨g, 0, none⟩) n n) n xs) : ∃ cur, w.heap[g]? = some (.cells cur e (0, 0)) ∧ cur.toList = xs := by
  rcases h.2 with ⟨hv, _⟩ | ⟨g', cap', cur, hv, hg, hh, h1, h2, h3, h4⟩
  · simp at hv
  · simp only [Value.slice.injEq, Option.some.injEq, Addr.mk.injEq, and_true, true_and] at hv
    obtain ⟨rfl, rfl⟩ := hv
    refine ⟨cur, hh, ?_⟩
    rw [← h4, List.take_of_length_le (by rw [Array.length_toList, h3]; exact Nat.le_refl _)]

theorem src_below {w w' : World} {sv : Value} {m : Nat} {xs : List Value} (h : Src w sv m xs) (hb : Below w.heap.size w w') : Src w' sv m xs := by
  rcases h with h | ⟨ad, c, rfl, hn⟩
  · exact .inl h
  · exact .inr ⟨ad, c, rfl, fun j u hj => (hb.cell (block_lt_of_cell (hn j u hj))).trans (hn j u hj)⟩

theorem hand_set (es : List Ent) (n k : Nat) (hn : n = es.length) (h1 : n ≤ k) (h2 : k < n + 8) :
    (es ++ List.replicate (k - n) spareE ++ List.replicate (n + 8 - k) ((0, ⟨#[]⟩) : Ent)).set k spareE = es ++ List.replicate (k + 1 - n) spareE ++ List.replicate (n + 8 - (k + 1)) ((0, ⟨#[]⟩) : Ent) := by
  have hl : (es ++ List.replicate (k - n) spareE).length = k := by simp; omega
  rw [List.set_append_right _ _ (by omega), hl, Nat.sub_self, show n + 8 - k = (n + 8 - (k + 1)) + 1 by omega, List.replicate_succ, List.set_cons_zero, show k + 1 - n = (k - n) + 1 by omega, List.replicate_succ']
  simp

set_option maxRecDepth 100000 in
set_option maxHeartbeats 2000000 in
theorem handed_any (v : Value) (es : List Ent) (w : World) (hn : es.length * 24 ≤ 140737488351232) (h : EntsIn w v es) :
    Calls Tryz.prog 14 #[v] w fun e w' => e = .returned (.slice (some ⟨w.heap.size, 0, none⟩) es.length (es.length + 8)) ∧ RowE w' w.heap.size (es.length + 8) (es ++ List.replicate 8 spareE) ∧ Below w.heap.size w w' := by
  have HSRC := hide (src_of_ents h)
  obtain ⟨ao, cap, rfl, hl1, ha⟩ := h
  clear hl1 ha
  obtain ⟨i0, hi, hz0, hz1, hz2⟩ := info_parts infoEntry
  obtain ⟨n, hnn⟩ : ∃ n, n = es.length := ⟨_, rfl⟩
  rw [← hnn] at hn ⊢
  have HN := hide hnn
  have HSRC' : Hid (Src w (.slice ao n cap) n (eC es)) := by rw [hnn]; exact HSRC
  clear HSRC hnn
  go_enter Tryz.func14, Tryz.ntmps14
  go_wp2_with (at_make; go_must (refine wpList_make_full _ rfl (.tmp 9) (.tmp 9) 22 rfl w.heap.size 66 i0 _ 2 Tryz.underlying22 hi hz0 hz1 .i64 .i64 ((n : Int) + 8) ((n : Int) + 8) (n + 8) rfl rfl (by omega) (by omega) (by rw [hz2]; omega) (by unfold maxLen; omega) (Nat.le_refl _) ?_))
  intro w1 hown1 hgrow1
  rw [made_eC] at hown1
  have hb1 : Below w.heap.size w w1 := (Below.refl _ _).grown hgrow1 (Nat.le_refl _) (by intro k hk; simp at hk)
  obtain ⟨cur, hcur, hcl⟩ := own_whole hown1
  have HB1 := hide hb1
  have HS1 := hide (src_below (unhide HSRC') hb1)
  have hcs : cur.size = (n + 8) * 2 := by rw [← Array.length_toList, hcl, eC_length, List.length_replicate]
  have hesl : (eC es).length = n * 2 := by rw [eC_length, ← unhide HN]
  have HESL := hide hesl
  have HCS := hide hcs
  have HCL := hide hcl
  have HCUR := hide hcur
  clear hown1 hgrow1 hb1 hcur hcl hcs hesl
  go_wp2_with (refine wpList_copy_wide rfl (.tmp 11) (.tmp 12) 22 22 rfl 66 i0 2 w.heap.size (n + 8) (n + 8) _ n cur 66 (eC es) rfl rfl Tryz.underlying22 hi hz1 (unhide HCUR) (unhide HESL) (unhide HS1) (by omega) (by rw [unhide HESL, unhide HCS]; omega) (eC_one es) ?_)
  intro w2 hcur2 hgrow2
  have hR2 : RowE w2 w.heap.size (n + 8) (es ++ List.replicate 8 (0, ⟨#[]⟩)) := by
    refine rowE_of hcur2 ?_ (by simp [← unhide HN]) (by unfold maxLen; omega)
    rw [List.toList_toArray, unhide HCL, unhide HESL, eC_drop, eC_append, List.drop_replicate]
    simp
  have hb2 : Below w.heap.size w w2 := (unhide HB1).grown hgrow2 (unhide HB1).size (by intro k hk; simp at hk; omega)
  have HR2 := hide hR2
  have HB2 := hide hb2
  clear hcur2 hgrow2 hR2 hb2 HCUR HCL HCS HESL HS1 HB1
  go_wp2
  obtain ⟨ob, hob⟩ : ∃ ob, ob = w.heap.size := ⟨_, rfl⟩
  rw [← hob] at HR2 HB2 ⊢
  have HOB := hide hob
  clear hob
  go_loopw [5] (fun ix wr => ∃ k : Nat, n ≤ k ∧ k ≤ n + 8 ∧ ix = .int .i64 k ∧ RowE wr ob (n + 8) (es ++ List.replicate (k - n) spareE ++ List.replicate (n + 8 - k) (0, ⟨#[]⟩)) ∧ Below ob w wr) (fun ix _ => n + 8 - (intOf ix).toNat)
  case atStart => exact ⟨n, Nat.le_refl _, by omega, rfl, by simpa using unhide HR2, unhide HB2⟩
  case round =>
    obtain ⟨k, hk1, hk2, rfl, hR, hb⟩ := hrel
    by_cases hlt : k < n + 8
    · obtain ⟨g', hg', tv, f0, f1, ⟨x0, k0⟩, ⟨x1, k1⟩⟩ := own_cells2 hR hlt
      have hgo : g' = ob := by simp at hg'; exact hg'.symm
      subst hgo
      have i1 : (0 : Int) ≤ (k : Int) := by omega
      have i2 : (k : Int) < (n : Int) + 8 := by omega
      have HR := hide hR
      have HB := hide hb
      clear hR hb hg' tv HR2 HB2
      go_wp2
      go_roundw
      case rel =>
        refine ⟨k + 1, by omega, by omega, by go_num, ?_, ((unhide HB).setCell (p := ⟨g', _, none⟩) (Nat.le_refl _) _).setCell (p := ⟨g', _, none⟩) (Nat.le_refl _) _⟩
        have hset := own_set2 (j := k) spareE (unhide HR)
        rw [hand_set es n k (unhide HN) hk1 hlt] at hset
        exact hset
      case measure => simp [intOf]; omega
    · have hkn : k = n + 8 := by omega
      subst hkn
      have hR' : RowE wr ob (n + 8) (es ++ List.replicate 8 spareE) := by simpa using hR
      have HR := hide hR'
      have HB := hide hb
      clear hR hb hR'
      go_wp2
      go_ret
      have hobw := unhide HOB
      subst hobw
      exact ⟨rfl, unhide HR, unhide HB⟩

/-- What an owner finds, place by place. -/
def wantE (es : List Ent) (k : Nat) : Ent := (es[k]?).getD spareE

theorem want_get (es : List Ent) (k : Nat) (hk : k < es.length + 8) : (es ++ List.replicate 8 spareE)[k]? = some (wantE es k) := by
  unfold wantE
  by_cases h : k < es.length
  · rw [List.getElem?_append_left h]; simp [h]
  · rw [List.getElem?_append_right (by omega), List.getElem?_replicate, if_pos (by omega), List.getElem?_eq_none (by omega)]; rfl

theorem blot_set (L : List Ent) (x : Ent) (k : Nat) (hk : k < L.length) : (List.replicate k x ++ L.drop k).set k x = List.replicate (k + 1) x ++ L.drop (k + 1) := replT_set L x k hk

theorem grown_drewN {w w' : World} {r : Option Nat} (h : w.grownBy w' r) (n : Nat) : w.grownBy (w'.drewN n) r := ⟨h.os, h.tape, h.output, h.size, h.block⟩

theorem grown_set {w w' : World} {g : Nat} (h : w.grownBy w' (some g)) (o : Nat) (u : Value) : w.grownBy (w'.setCell ⟨g, o, none⟩ u) (some g) :=
  ⟨h.os, h.tape, h.output, by simpa [World.setCell] using h.size, fun k hk hne => (Below.heap_setCell _ _ _ _ (fun e => hne (by rw [e]))).trans (h.block k hk hne)⟩

set_option maxRecDepth 100000 in
set_option maxHeartbeats 4000000 in
theorem untouched_any (g : Nat) (lv : Value) (es : List Ent) (w0 w : World) (hn : es.length * 24 ≤ 140737488351232) (hl : EntsIn w0 lv es) (hb : Below w0.heap.size w0 w) (hg : w0.heap.size ≤ g) (hR : RowE w g (es.length + 8) (es ++ List.replicate 8 spareE)) :
    Calls Tryz.prog 16 #[.slice (some ⟨g, 0, none⟩) es.length (es.length + 8), lv] w fun e w' => e = .returned (.bool true) ∧ w.grownBy w' (some g) := by
  obtain ⟨ao, cap, rfl, hl1, ha⟩ := hl
  have HA := hide ha
  have HB := hide hb
  have HR0 := hide hR
  clear hl1 ha hb hR
  obtain ⟨n, hnn⟩ : ∃ n, n = es.length := ⟨_, rfl⟩
  have HN := hide hnn
  rw [← hnn] at hn HR0 ⊢
  clear hnn
  have hq := eql_entry
  go_enter Tryz.func16, Tryz.ntmps16
  go_wp2
  go_loopw [7, 8] (fun ok ix wr => ∃ k : Nat, k ≤ n + 8 ∧ ix = .int .i64 k ∧ ok = .bool true ∧ RowE wr g (n + 8) (List.replicate k blotE ++ (es ++ List.replicate 8 spareE).drop k) ∧ w.grownBy wr (some g)) (fun _ ix _ => n + 8 - (intOf ix).toNat)
  case atStart => exact ⟨0, Nat.zero_le _, rfl, rfl, by simpa using unhide HR0, ⟨rfl, rfl, rfl, Nat.le_refl _, fun _ _ _ => rfl⟩⟩
  case round =>
    obtain ⟨k, hk, rfl, rfl, hR, hG⟩ := hrel
    by_cases hlt : k < n + 8
    · have hL : (es ++ List.replicate 8 spareE).length = n + 8 := by simp [← unhide HN]
      have hget : (List.replicate k blotE ++ (es ++ List.replicate 8 spareE).drop k)[k]? = some (wantE es k) := by
        rw [List.getElem?_append_right (by simp), List.length_replicate, Nat.sub_self, List.getElem?_drop, Nat.add_zero]
        exact want_get es k (by rw [← unhide HN]; exact hlt)
      obtain ⟨g', hg', tv, f0, f1, _⟩ := own_cells2 hR hlt
      have hgo : g' = g := by simp at hg'; exact hg'.symm
      subst hgo
      have hcs := eC_get _ k _ hget
      have k0 : wr.cell? ⟨g', k * 2, none⟩ = some (.int .i64 (wantE es k).1) := by have := hR.1.cells (g := g') rfl _ _ hcs.1; rwa [add0] at this
      have k1 : wr.cell? ⟨g', k * 2 + 1, none⟩ = some (.string (wantE es k).2) := by have := hR.1.cells (g := g') rfl _ _ hcs.2; rwa [add0] at this
      have hgl : g' < wr.heap.size := block_lt_of_cell k0
      have i1 : (0 : Int) ≤ (k : Int) := by omega
      have i2 : (k : Int) < (n : Int) + 8 := by omega
      have HBS := hide (blot_set (es ++ List.replicate 8 spareE) blotE k (by rw [hL]; exact hlt))
      have HRR := hide hR
      have HGG := hide hG
      by_cases hkn : k < n
      · have hke : k < es.length := by rw [← unhide HN]; exact hkn
        have hget2 : es[k]? = some (es[k]'hke) := List.getElem?_eq_getElem hke
        obtain ⟨b, off, rfl, a0', a1'⟩ := (unhide HA) k _ hget2
        have hw : wantE es k = es[k]'hke := by unfold wantE; rw [hget2]; rfl
        rw [hw] at k0 k1
        have hbl : b < w0.heap.size := block_lt_of_cell a0'
        have hbn : some b ≠ some g' := by simp; omega
        have hbw : b < w.heap.size := Nat.lt_of_lt_of_le hbl (unhide HB).size
        have hblk := (hG.block b hbw hbn).trans ((unhide HB).block b hbl)
        have a0 : wr.cell? ⟨b, off + k * 2, none⟩ = some (.int .i64 es[k].1) := (World.cell?_of_block (a := ⟨b, _, none⟩) hblk).trans a0'
        have a1 : wr.cell? ⟨b, off + k * 2 + 1, none⟩ = some (.string es[k].2) := (World.cell?_of_block (a := ⟨b, _, none⟩) hblk).trans a1'
        have a2 := cell_alloc a0 (.cells #[.int .i64 (-5), .string ⟨#[33]⟩] 66)
        have a3 := cell_alloc a1 (.cells #[.int .i64 (-5), .string ⟨#[33]⟩] 66)
        have z0 := cell_alloc k0 (.cells #[.int .i64 es[k].1, .string es[k].2] 66)
        have z1 := cell_alloc k1 (.cells #[.int .i64 es[k].1, .string es[k].2] 66)
        have fz0 : (wr.alloc (.cells #[.int .i64 es[k].1, .string es[k].2] 66)).frozen? ⟨g', k * 2, none⟩ = false := (World.frozen?_of_block (a := ⟨g', _, none⟩) (Below.heap_alloc wr _ g' hgl)).trans f0
        have fz1 : (wr.alloc (.cells #[.int .i64 es[k].1, .string es[k].2] 66)).frozen? ⟨g', k * 2 + 1, none⟩ = false := (World.frozen?_of_block (a := ⟨g', _, none⟩) (Below.heap_alloc wr _ g' hgl)).trans f1
        have i3 : (k : Int) < (n : Int) := by omega
        clear a0' a1' hw hbl hbn hbw hblk hR hG hget hcs hL hg' tv hlt
        generalize es[k].1 = t at *
        generalize es[k].2 = s at *
        clear f0 f1 k0 k1 a0 a1
        go_wp2
        have c0 : (wr.alloc (.cells #[.int .i64 t, .string s] 66)).cell? ⟨wr.heap.size, 0, none⟩ = some (.int .i64 t) := cell_of_row _ _ 0 _ _ _ (heap_alloc_new wr _)
        have c1 : (wr.alloc (.cells #[.int .i64 t, .string s] 66)).cell? ⟨wr.heap.size, 1, none⟩ = some (.string s) := cell_of_row _ _ 1 _ _ _ (heap_alloc_new wr _)
        have HRW : Hid (RowE (wr.alloc (.cells #[.int .i64 t, .string s] 66)) g' (n + 8) (List.replicate k blotE ++ (es ++ List.replicate 8 spareE).drop k)) := ⟨(unhide HRR).1.alloc _, (unhide HRR).2⟩
        have HGW := hide ((unhide HGG).trans (World.grownBy_alloc wr (.cells #[.int .i64 t, .string s] 66) (some g')))
        have hge : (t == t && s.toList == s.toList) = true := by simp
        generalize wr.alloc (.cells #[.int .i64 t, .string s] 66) = W at *
        go_quiet (fail)
        go_wp2
        go_roundw
        case rel =>
          refine ⟨k + 1, by omega, by go_num, by simp, ?_, ?_⟩
          · have hset := own_set2 (j := k) blotE (w := W.drewN nq) (unhide HRW)
            rw [unhide HBS] at hset
            exact hset
          · exact grown_set (grown_set (grown_drewN (unhide HGW) nq) _ _) _ _
        case measure => simp [intOf]; omega
      · have hw : wantE es k = spareE := by unfold wantE; rw [List.getElem?_eq_none (by rw [← unhide HN]; omega)]; rfl
        rw [hw] at k0 k1
        have z0 := cell_alloc k0 (.cells #[.int .i64 (-5), .string ⟨#[33]⟩] 66)
        have z1 := cell_alloc k1 (.cells #[.int .i64 (-5), .string ⟨#[33]⟩] 66)
        have fz0 : (wr.alloc (.cells #[.int .i64 (-5), .string ⟨#[33]⟩] 66)).frozen? ⟨g', k * 2, none⟩ = false := (World.frozen?_of_block (a := ⟨g', _, none⟩) (Below.heap_alloc wr _ g' hgl)).trans f0
        have fz1 : (wr.alloc (.cells #[.int .i64 (-5), .string ⟨#[33]⟩] 66)).frozen? ⟨g', k * 2 + 1, none⟩ = false := (World.frozen?_of_block (a := ⟨g', _, none⟩) (Below.heap_alloc wr _ g' hgl)).trans f1
        have i3 : (n : Int) ≤ (k : Int) := by omega
        clear hw hR hG hget hcs hL hg' tv hlt f0 f1 k0 k1
        go_wp2
        have c0 : (wr.alloc (.cells #[.int .i64 (-5), .string ⟨#[33]⟩] 66)).cell? ⟨wr.heap.size, 0, none⟩ = some (.int .i64 (-5)) := cell_of_row _ _ 0 _ _ _ (heap_alloc_new wr _)
        have c1 : (wr.alloc (.cells #[.int .i64 (-5), .string ⟨#[33]⟩] 66)).cell? ⟨wr.heap.size, 1, none⟩ = some (.string ⟨#[33]⟩) := cell_of_row _ _ 1 _ _ _ (heap_alloc_new wr _)
        have HRW : Hid (RowE (wr.alloc (.cells #[.int .i64 (-5), .string ⟨#[33]⟩] 66)) g' (n + 8) (List.replicate k blotE ++ (es ++ List.replicate 8 spareE).drop k)) := ⟨(unhide HRR).1.alloc _, (unhide HRR).2⟩
        have HGW := hide ((unhide HGG).trans (World.grownBy_alloc wr (.cells #[.int .i64 (-5), .string ⟨#[33]⟩] 66) (some g')))
        generalize wr.alloc (.cells #[.int .i64 (-5), .string ⟨#[33]⟩] 66) = W at *
        go_quiet (fail)
        go_wp2
        go_roundw
        case rel =>
          refine ⟨k + 1, by omega, by go_num, by simp, ?_, ?_⟩
          · have hset := own_set2 (j := k) blotE (w := W.drewN nq) (unhide HRW)
            rw [unhide HBS] at hset
            exact hset
          · exact grown_set (grown_set (grown_drewN (unhide HGW) nq) _ _) _ _
        case measure => simp [intOf]; omega
    · replace hG := hide hG
      clear hR
      go_wp2
      go_ret
      exact ⟨rfl, unhide hG⟩

end Go.Proofs.YteiecbkfganhnaaGreat

namespace Go.Proofs.YteiecbkfganhnaaGreat

open Go.RowKit

set_option maxRecDepth 100000 in
set_option maxHeartbeats 2000000 in
theorem opened_no (id n : Int) (w : World) (h : n < 1 ∨ 7 < n ∨ id < 0 ∨ n ≤ id) :
    Calls Tryz.prog 7 #[.int .i64 id, .int .i64 n] w fun e w' => e = .returned (.tuple #[.pointer none, .bool true]) ∧ Below w.heap.size w w' := by
  have H := hide h
  clear h
  go_enter Tryz.func7, Tryz.ntmps7
  go_wp2_with (first | (go_at_call 11; refine (open_no id n w (unhide H)).mono ?_; rintro e w1 ⟨rfl, hb1⟩; replace hb1 := hide hb1) | (go_at_call 12; refine (refOpen_no id n w1 (unhide H)).mono ?_; rintro e w2 ⟨rfl, rfl⟩) | (go_at_call 13; refine (num_any _ _).mono ?_; rintro e w3 ⟨rfl, rfl⟩))
  go_ret2
  exact ⟨rfl, unhide hb1⟩

end Go.Proofs.YteiecbkfganhnaaGreat

namespace Go.Proofs.YteiecbkfganhnaaGreat

open Go.RowKit

abbrev savedB (term vote : Int) (lv : Value) : Obj := .cells #[.int .i64 term, .int .i64 vote, lv] 24

theorem rowE_ents {w : World} {g : Nat} {es : List Ent} {xs : List Ent} (h : RowE w g (es.length + 8) (es ++ xs)) : EntsIn w (.slice (some ⟨g, 0, none⟩) es.length (es.length + 8)) es := by
  refine ⟨some ⟨g, 0, none⟩, es.length + 8, rfl, fun h => by simp at h, fun k e hk => ⟨g, 0, rfl, ?_⟩⟩
  have hk2 : (es ++ xs)[k]? = some e := by rw [List.getElem?_append_left (List.getElem?_eq_some_iff.1 hk).1]; exact hk
  have hc := eC_get _ k e hk2
  have h1 := h.1.cells (g := g) rfl _ _ hc.1
  have h2 := h.1.cells (g := g) rfl _ _ hc.2
  rw [add0] at h1 h2
  exact ⟨by simpa using h1, by simpa using h2⟩

theorem rowE_below {w w' : World} {g n : Nat} {es : List Ent} (h : RowE w g n es) (hb : Below w.heap.size w w') : RowE w' g n es := ⟨owns_below h.1 hb, fun _ _ => rfl⟩

theorem eql_slice_nil (a : Addr) (n c : Nat) (w : World) : (binOp .eql 22 (.slice (some a) n c) (.slice none 0 0)).run Tryz.prog w = .ok (.bool false) w := by kernel_rfl

theorem eql_nil_nil (w : World) : (binOp .eql 22 (.slice none 0 0) (.slice none 0 0)).run Tryz.prog w = .ok (.bool true) w := by kernel_rfl

/-- What was handed in lies ready. -/
def RstA (w : World) (term vote : Int) (lv : Value) (es : List Ent) (hb g : Nat) (w' : World) : Prop :=
  w'.heap[w.heap.size]? = some (savedB term vote lv) ∧ w'.heap[hb]? = some (savedB term vote (.slice (some ⟨g, 0, none⟩) es.length (es.length + 8))) ∧ RowE w' g (es.length + 8) (es ++ List.replicate 8 spareE) ∧ Below w.heap.size w w' ∧ w.heap.size < hb ∧ w.heap.size < g

theorem rst_cell {W w1 : World} {k : Nat} {cs : Array Value} {t : TypeId} (h : W.heap[k]? = some (.cells cs t (0, 0))) (o : Nat) {x : Value} (hb : Below W.heap.size W w1) (hx : cs[o]? = some x) : w1.cell? ⟨k, o, none⟩ = some x := by
  rw [cell_of_row w1 k o cs t (0, 0) ((hb.block k (Array.getElem?_eq_some_iff.1 h).1).trans h)]; exact hx

theorem rst_bel {W w1 : World} {o : Obj} (h : Below (W.alloc o).drew.heap.size (W.alloc o).drew w1) : Below W.heap.size W w1 := below_trans (below_alloc W o) (Below.undrew h)

theorem rstA_1 {w wA w1 : World} {term vote : Int} {lv : Value} {es : List Ent} (hsb : wA.heap[w.heap.size]? = some (savedB term vote lv)) (hA : Below w.heap.size w wA) (hR : RowE w1 wA.drew.heap.size (es.length + 8) (es ++ List.replicate 8 spareE)) (hb : Below wA.drew.heap.size wA w1) :
    RstA w term vote lv es w1.heap.size wA.heap.size (w1.alloc (savedB term vote (.slice (some ⟨wA.heap.size, 0, none⟩) es.length (es.length + 8)))) := by
  have hb' : Below wA.heap.size wA w1 := hb
  have hl := (Array.getElem?_eq_some_iff.1 hsb).1
  exact ⟨heap_under ((hb'.block _ hl).trans hsb) _, heap_alloc_new w1 _, ⟨hR.1.alloc _, fun _ _ => rfl⟩, (below_trans hA hb').alloc (Nat.le_trans hA.size hb'.size) _, Nat.lt_of_lt_of_le hl hb'.size, hl⟩

theorem rstA_2 {w wA w1 : World} {term vote : Int} {lv : Value} {es : List Ent} (hsb : wA.heap[w.heap.size]? = some (savedB term vote lv)) (hA : Below w.heap.size w wA)
    (hR : RowE w1 (wA.alloc (savedB 0 0 (.slice none 0 0))).drew.heap.size (es.length + 8) (es ++ List.replicate 8 spareE)) (hb : Below (wA.alloc (savedB 0 0 (.slice none 0 0))).drew.heap.size (wA.alloc (savedB 0 0 (.slice none 0 0))) w1) :
    RstA w term vote lv es wA.heap.size (wA.heap.size + 1) (((w1.setCell ⟨wA.heap.size, 0, none⟩ (.int .i64 term)).setCell ⟨wA.heap.size, 1, none⟩ (.int .i64 vote)).setCell ⟨wA.heap.size, 2, none⟩ (.slice (some ⟨wA.heap.size + 1, 0, none⟩) es.length (es.length + 8))) := by
  have hz : (wA.alloc (savedB 0 0 (.slice none 0 0))).heap.size = wA.heap.size + 1 := size_alloc1 wA _
  have hb' : Below (wA.alloc (savedB 0 0 (.slice none 0 0))).heap.size (wA.alloc (savedB 0 0 (.slice none 0 0))) w1 := hb
  have hR' : RowE w1 (wA.heap.size + 1) (es.length + 8) (es ++ List.replicate 8 spareE) := by rw [← hz]; exact hR
  have hl := (Array.getElem?_eq_some_iff.1 hsb).1
  have hbw := below_trans (below_alloc wA _) hb'
  have h0 := (hb'.block wA.heap.size (by rw [hz]; omega)).trans (heap_alloc_new wA _)
  have h1 := heap_setCell_same _ wA.heap.size 0 _ _ (.int .i64 term) h0
  have h2 := heap_setCell_same _ wA.heap.size 1 _ _ (.int .i64 vote) h1
  have h3 := heap_setCell_same _ wA.heap.size 2 _ _ (.slice (some ⟨wA.heap.size + 1, 0, none⟩) es.length (es.length + 8)) h2
  refine ⟨?_, h3, ⟨?_, fun _ _ => rfl⟩, ?_, hl, by omega⟩
  · rw [Below.heap_setCell _ _ _ _ (by simp; omega), Below.heap_setCell _ _ _ _ (by simp; omega), Below.heap_setCell _ _ _ _ (by simp; omega)]
    exact (hbw.block _ hl).trans hsb
  · refine owns_kept hR'.1 fun x hx => ?_
    simp [Value.ownBlock] at hx
    subst hx
    rw [Below.heap_setCell _ _ _ _ (by simp), Below.heap_setCell _ _ _ _ (by simp), Below.heap_setCell _ _ _ _ (by simp)]
  · exact (((below_trans hA hbw).setCell (p := ⟨wA.heap.size, 0, none⟩) hA.size _).setCell (p := ⟨wA.heap.size, 1, none⟩) hA.size _).setCell (p := ⟨wA.heap.size, 2, none⟩) hA.size _

theorem grown_below {w0 w w' : World} {g : Nat} (hb : Below w0.heap.size w0 w) (hg : w0.heap.size ≤ g) (h : w.grownBy w' (some g)) : Below w0.heap.size w0 w' :=
  ⟨h.os.trans hb.os, h.tape.trans hb.tape, h.output.trans hb.output, Nat.le_trans hb.size h.size, fun k hk => (h.block k (Nat.lt_of_lt_of_le hk hb.size) (fun he => by simp at he; omega)).trans (hb.block k hk)⟩

theorem rst_own {W w1 : World} {k g : Nat} {o : Obj} (h : W.heap[k]? = some o) (hb : W.grownBy w1 (some g)) (hk : k ≠ g) : w1.heap[k]? = some o := (hb.block k (Array.getElem?_eq_some_iff.1 h).1 (fun he => hk (by simpa using he))).trans h

theorem rst_cellG {W w1 : World} {k g : Nat} {cs : Array Value} {t : TypeId} (h : W.heap[k]? = some (.cells cs t (0, 0))) (o : Nat) {x : Value} (hb : W.grownBy w1 (some g)) (hk : k ≠ g) (hx : cs[o]? = some x) : w1.cell? ⟨k, o, none⟩ = some x := by
  rw [cell_of_row w1 k o cs t (0, 0) (rst_own h hb hk)]; exact hx

/-- Neither gives a node. -/
def BothNo (id n term vote : Int) (es : List Ent) (c : Int) : Prop :=
  (∀ W lv, EntsIn W lv es → Calls Tryz.prog 15 #[.int .i64 id, .int .i64 n, .agg #[.int .i64 term, .int .i64 vote, lv]] W fun e w' => e = .returned (.tuple #[.pointer none, .int .i64 c]) ∧ Below W.heap.size W w') ∧
  (∀ W lv, EntsIn W lv es → Calls Tryz.prog 17 #[.int .i64 id, .int .i64 n, .agg #[.int .i64 term, .int .i64 vote, lv]] W fun e w' => e = .returned (.tuple #[.pointer none, .int .i64 c]) ∧ Below W.heap.size W w')

set_option maxRecDepth 100000 in
set_option maxHeartbeats 800000 in
theorem rst_bad (id n term vote c : Int) (lv : Value) (es : List Ent) (w : World) (hn : es.length * 24 ≤ 140737488351232) (hl : EntsIn w lv es) (hNR : BothNo id n term vote es c) :
    Calls Tryz.prog 8 #[.int .i64 id, .int .i64 n, .agg #[.int .i64 term, .int .i64 vote, lv]] w fun e w' => e = .returned (.tuple #[.pointer none, .bool true]) ∧ Below w.heap.size w w' := by
  have HL := hide hl
  obtain ⟨ao, cap, rfl, hl1, hl2⟩ := hl
  clear hl1 hl2
  have HNR := hide hNR
  clear hNR
  have HA := hide (below_alloc w (savedB term vote (.slice ao es.length cap)))
  have s0 : (w.alloc (savedB term vote (.slice ao es.length cap))).cell? ⟨w.heap.size, 0, none⟩ = some (.int .i64 term) := cell_of_row _ _ 0 _ _ _ (heap_alloc_new w _)
  have s1 : (w.alloc (savedB term vote (.slice ao es.length cap))).cell? ⟨w.heap.size, 1, none⟩ = some (.int .i64 vote) := cell_of_row _ _ 1 _ _ _ (heap_alloc_new w _)
  have s2 : (w.alloc (savedB term vote (.slice ao es.length cap))).cell? ⟨w.heap.size, 2, none⟩ = some (.slice ao es.length cap) := cell_of_row _ _ 2 _ _ _ (heap_alloc_new w _)
  have hsb := heap_alloc_new w (savedB term vote (.slice ao es.length cap))
  have hsz := size_alloc1 w (savedB term vote (.slice ao es.length cap))
  have hq1 := eql_slice_nil
  have hq2 := eql_nil_nil
  go_enter Tryz.func8, Tryz.ntmps8
  go_wp2_with fail
  generalize w.alloc (savedB term vote (.slice ao es.length cap)) = wA at *
  have hEA : EntsIn wA.drew (.slice ao es.length cap) es := ents_below (unhide HL) (unhide HA).drew
  have HEA := hide hEA
  have HEB : Hid (EntsIn (wA.alloc (.cells #[.int .i64 0, .int .i64 0, .slice none 0 0] 24)).drew (.slice ao es.length cap) es) := ents_below (w := wA) (show EntsIn wA (.slice ao es.length cap) es from hEA) (below_alloc wA _).drew
  have hneA : wA.heap.size ≠ w.heap.size := by omega
  have hgs : wA.drew.heap.size = w.heap.size + 1 := hsz
  have HGS := hide hgs
  have HSB := hide hsb
  clear hEA hsz hgs hsb
  go_cut [8] (fun p wr => ∃ hb g, p = .pointer (some ⟨hb, 0, none⟩) ∧ RstA w term vote (.slice ao es.length cap) es hb g wr)
  case first =>
    go_region_held3 (fun w' => w'.cell? ⟨w.heap.size, 0, none⟩ = some (.int .i64 term) ∧ w'.cell? ⟨w.heap.size, 1, none⟩ = some (.int .i64 vote) ∧ w'.cell? ⟨w.heap.size, 2, none⟩ = some (.slice ao es.length cap)) (first | go_keep | exact ⟨z0, z1, z2⟩ | (simp only [cell_ne hneA]; exact ⟨z0, z1, z2⟩)) (first | (go_at_call 14; refine (handed_any _ es wA.drew hn (unhide HEA)).mono ?_; rintro e w1 ⟨rfl, hR1, hb1⟩; have z0 : w1.cell? ⟨w.heap.size, 0, none⟩ = some (.int .i64 term) := rst_cell (unhide HSB) 0 (Below.undrew hb1) rfl; have z1 : w1.cell? ⟨w.heap.size, 1, none⟩ = some (.int .i64 vote) := rst_cell (unhide HSB) 1 (Below.undrew hb1) rfl; have z2 : w1.cell? ⟨w.heap.size, 2, none⟩ = some (.slice ao es.length cap) := rst_cell (unhide HSB) 2 (Below.undrew hb1) rfl; replace hR1 := hide hR1; replace hb1 := hide (Below.undrew hb1)) | (go_at_call 14; refine (handed_any _ es (wA.alloc (.cells #[.int .i64 0, .int .i64 0, .slice none 0 0] 24)).drew hn (unhide HEB)).mono ?_; rintro e w1 ⟨rfl, hR1, hb1⟩; have z0 : w1.cell? ⟨w.heap.size, 0, none⟩ = some (.int .i64 term) := rst_cell (unhide HSB) 0 (rst_bel hb1) rfl; have z1 : w1.cell? ⟨w.heap.size, 1, none⟩ = some (.int .i64 vote) := rst_cell (unhide HSB) 1 (rst_bel hb1) rfl; have z2 : w1.cell? ⟨w.heap.size, 2, none⟩ = some (.slice ao es.length cap) := rst_cell (unhide HSB) 2 (rst_bel hb1) rfl; have hh1 := ((Below.undrew hb1).block wA.heap.size (by simp)).trans (heap_alloc_new wA _); have y0 := cell_of_row w1 wA.heap.size 0 _ _ _ hh1; have y1 := cell_of_row w1 wA.heap.size 1 _ _ _ hh1; have y2 := cell_of_row w1 wA.heap.size 2 _ _ _ hh1; have x0 := frozen_of_row w1 wA.heap.size 0 _ _ hh1; have x1 := frozen_of_row w1 wA.heap.size 1 _ _ hh1; have x2 := frozen_of_row w1 wA.heap.size 2 _ _ hh1; replace hh1 := hide hh1; replace hR1 := hide hR1; replace hb1 := hide (Below.undrew hb1)))
    · go_wp2_with fail
      go_meet
      exact ⟨w1.heap.size, wA.heap.size, rfl, rstA_1 (unhide HSB) (unhide HA) (unhide hR1) (unhide hb1)⟩
    · go_wp2_with fail
      go_meet
      exact ⟨wA.heap.size, wA.heap.size + 1, rfl, rstA_2 (unhide HSB) (unhide HA) (unhide hR1) (unhide hb1)⟩
  case rest =>
    obtain ⟨hb, g, rfl, hA⟩ := hcut
    have HA2 := hide hA
    clear s0 s1 s2 hneA HEA HEB HGS HSB HA hA
    have s0 : wc.cell? ⟨w.heap.size, 0, none⟩ = some (.int .i64 term) := rst_cell (unhide HA2).1 0 (Below.refl _ _) rfl
    have s2 : wc.cell? ⟨w.heap.size, 2, none⟩ = some (.slice ao es.length cap) := rst_cell (unhide HA2).1 2 (Below.refl _ _) rfl
    have y0 : wc.cell? ⟨hb, 0, none⟩ = some (.int .i64 term) := rst_cell (unhide HA2).2.1 0 (Below.refl _ _) rfl
    have y1 : wc.cell? ⟨hb, 1, none⟩ = some (.int .i64 vote) := rst_cell (unhide HA2).2.1 1 (Below.refl _ _) rfl
    have y2 : wc.cell? ⟨hb, 2, none⟩ = some (.slice (some ⟨g, 0, none⟩) es.length (es.length + 8)) := rst_cell (unhide HA2).2.1 2 (Below.refl _ _) rfl
    have x2 : wc.frozen? ⟨hb, 2, none⟩ = false := frozen_of_row wc hb 2 _ _ (unhide HA2).2.1
    have hcase : (((es.length : Int) == 0) = true ∧ (term.tmod 2 == 0) = true) ∨ (((es.length : Int) == 0) = true ∧ (term.tmod 2 == 0) = false) ∨ ((es.length : Int) == 0) = false := by
      cases ((es.length : Int) == 0) <;> cases (term.tmod 2 == 0) <;> simp
    rcases hcase with ⟨he', ht'⟩ | ⟨he', ht'⟩ | he'
    · have hes : es = [] := List.length_eq_zero_iff.1 (by have := eq_of_beq he'; omega)
      have HES := hide hes
      clear hes
      have hB2 := hide (show Below w.heap.size w (wc.setCell ⟨hb, 2, none⟩ (.slice none 0 0)) from (unhide HA2).2.2.2.1.setCell (p := ⟨hb, 2, none⟩) (Nat.le_of_lt (unhide HA2).2.2.2.2.1) _)
      have hH2 := hide (show (wc.setCell ⟨hb, 2, none⟩ (.slice none 0 0)).heap[hb]? = some (savedB term vote (.slice none 0 0)) from heap_setCell_same _ hb 2 _ _ _ (unhide HA2).2.1)
      have hS2 := hide (show (wc.setCell ⟨hb, 2, none⟩ (.slice none 0 0)).heap[w.heap.size]? = some (savedB term vote (.slice ao es.length cap)) from (Below.heap_setCell _ _ _ _ (by have := (unhide HA2).2.2.2.2.1; simp only; omega)).trans (unhide HA2).1)
      have hE2 := hide (show EntsIn (wc.setCell ⟨hb, 2, none⟩ (.slice none 0 0)) (.slice none 0 0) es from by rw [unhide HES]; exact ⟨none, 0, rfl, fun _ => rfl, fun k e hk => by simp at hk⟩)
      go_wp2_with (first | (go_at_call 15; refine ((unhide HNR).1 _ _ (unhide hE2)).mono ?_; rintro e w2 ⟨rfl, hb2⟩; have z0 : w2.cell? ⟨w.heap.size, 0, none⟩ = some (.int .i64 term) := rst_cell (unhide hS2) 0 hb2 rfl; have z1 : w2.cell? ⟨w.heap.size, 1, none⟩ = some (.int .i64 vote) := rst_cell (unhide hS2) 1 hb2 rfl; have z2 : w2.cell? ⟨w.heap.size, 2, none⟩ = some (.slice ao es.length cap) := rst_cell (unhide hS2) 2 hb2 rfl; have q2 : w2.cell? ⟨hb, 2, none⟩ = some (.slice none 0 0) := rst_cell (unhide hH2) 2 hb2 rfl; have hB3 := hide (below_trans (unhide hB2) hb2); clear hb2) | (go_at_call 17; refine ((unhide HNR).2 w2 _ (ents_below (unhide HL) (unhide hB3))).mono ?_; rintro e w4 ⟨rfl, hb4⟩; replace hb4 := hide hb4) | (go_at_call 13; refine (num_any _ _).mono ?_; rintro e w5 ⟨rfl, rfl⟩) | fail)
      go_ret2
      exact ⟨rfl, below_trans (unhide hB3) (unhide hb4)⟩
    all_goals
      go_wp2_with (first | (go_at_call 15; refine ((unhide HNR).1 wc _ (rowE_ents (unhide HA2).2.2.1)).mono ?_; rintro e w2 ⟨rfl, hb2⟩; have z2 : w2.cell? ⟨w.heap.size, 2, none⟩ = some (.slice ao es.length cap) := rst_cell (unhide HA2).1 2 hb2 rfl; have q2 : w2.cell? ⟨hb, 2, none⟩ = some (.slice (some ⟨g, 0, none⟩) es.length (es.length + 8)) := rst_cell (unhide HA2).2.1 2 hb2 rfl; replace hb2 := hide hb2) | (go_at_call 16; refine (untouched_any g _ es w w2 hn (unhide HL) (below_trans (unhide HA2).2.2.2.1 (Below.mono (unhide hb2) (Nat.le_refl _))) (Nat.le_of_lt (unhide HA2).2.2.2.2.2) (rowE_below (unhide HA2).2.2.1 (unhide hb2))).mono ?_; rintro e w3 ⟨rfl, hG⟩; have hB3 := grown_below (below_trans (unhide HA2).2.2.2.1 (unhide hb2)) (Nat.le_of_lt (unhide HA2).2.2.2.2.2) hG; have z0 : w3.cell? ⟨w.heap.size, 0, none⟩ = some (.int .i64 term) := rst_cellG (((unhide hb2).block _ (Array.getElem?_eq_some_iff.1 (unhide HA2).1).1).trans (unhide HA2).1) 0 hG (Nat.ne_of_lt (unhide HA2).2.2.2.2.2) rfl; have z1 : w3.cell? ⟨w.heap.size, 1, none⟩ = some (.int .i64 vote) := rst_cellG (((unhide hb2).block _ (Array.getElem?_eq_some_iff.1 (unhide HA2).1).1).trans (unhide HA2).1) 1 hG (Nat.ne_of_lt (unhide HA2).2.2.2.2.2) rfl; have z3 : w3.cell? ⟨w.heap.size, 2, none⟩ = some (.slice ao es.length cap) := rst_cellG (((unhide hb2).block _ (Array.getElem?_eq_some_iff.1 (unhide HA2).1).1).trans (unhide HA2).1) 2 hG (Nat.ne_of_lt (unhide HA2).2.2.2.2.2) rfl; replace hG := hide hG; replace hB3 := hide hB3) | (go_at_call 17; refine ((unhide HNR).2 w3 _ (ents_below (unhide HL) (unhide hB3))).mono ?_; rintro e w4 ⟨rfl, hb4⟩; replace hb4 := hide hb4) | (go_at_call 13; refine (num_any _ _).mono ?_; rintro e w5 ⟨rfl, rfl⟩) | fail)
      go_ret2
      exact ⟨rfl, below_trans (unhide hB3) (unhide hb4)⟩

theorem rowE_lt {w : World} {g n : Nat} {es : List Ent} (h : RowE w g n es) : g < w.heap.size := owns_lt h.1 g rfl

end Go.Proofs.YteiecbkfganhnaaGreat

namespace Go.Proofs.YteiecbkfganhnaaGreat

open Go.RowKit Go.MuLone

abbrev nilBV : BV := ⟨.slice none 0 0, .slice none 0 0, .slice none 0 0, .slice none 0 0, .slice none 0 0, .slice none 0 0, .slice none 0 0, .slice none 0 0, .slice none 0 0⟩

abbrev gameB (id n : Nat) (nb rb : Nat) : Obj := .cells #[.int .i64 (id : Int), .int .i64 (n : Int), .pointer (some ⟨nb, 0, none⟩), .pointer (some ⟨rb, 0, none⟩), .slice none 0 0, .slice none 0 0, .slice none 0 0, .slice none 0 0, .slice none 0 0, .slice none 0 0, .slice none 0 0, .slice none 0 0, .slice none 0 0] 53

/-- A new game's blocks. -/
structure Md (id n : Nat) (s : Nd) (w w' : World) (hb nb rb M : Nat) (lv : Value) (v : RV) : Prop where
  G : GameBlk w' hb (.int .i64 (id : Int)) (.int .i64 (n : Int)) (.pointer (some ⟨nb, 0, none⟩)) (.pointer (some ⟨rb, 0, none⟩)) nilBV
  N : NB 0 w' nb s lv
  L : NL w' s lv
  R : RB w' rb s v []
  n0 : w.heap.size ≤ nb
  n1 : nb < M
  l0 : ∀ k, lv.ownBlock = some k → w.heap.size ≤ k ∧ k < M
  r0 : ∀ k, v.has rb k → M ≤ k ∧ k < hb
  m0 : w.heap.size ≤ M
  h0 : M ≤ hb
  B : Below w.heap.size w w'

theorem md_alloc {id n : Nat} {s : Nd} {w w3 : World} {nb rb M : Nat} {lv : Value} {v : RV} (hN : NB 0 w3 nb s lv) (hL : w3.ownsRow w.heap.size 66 2 lv s.log.length (eC s.log)) (hnb : w.heap.size ≤ nb) (hnM : nb < M) (hlM : ∀ k, lv.ownBlock = some k → k < M) (hR : RB w3 rb s v []) (hrM : ∀ k, v.has rb k → M ≤ k) (hM : w.heap.size ≤ M) (hM3 : M ≤ w3.heap.size) (hB : Below w.heap.size w w3) :
    Md id n s w (w3.alloc (gameB id n nb rb)) w3.heap.size nb rb M lv v :=
  ⟨heap_alloc_new w3 _, heap_under hN _, owns_base (hL.alloc _) (Nat.zero_le _), hR.below (below_alloc w3 _), hnb, hnM, fun k hk => ⟨(hL.lt k hk).1, hlM k hk⟩, fun k hk => ⟨hrM k hk, hR.hasLt hk⟩, hM, hM3, hB.alloc hB.size _⟩

/-- The roles of a new game's blocks. -/
def madeT (i B M hb nb : Nat) (lv : Value) (T : Nat × Nat) (tg : Tags) : Tags := fun k =>
  if k < B then tg k else if k = nb then tN i else if lv.ownBlock = some k then tNL i else if k < M then (0, 1) else if k < hb then tR i else if k = hb then T else (0, 1)

section

variable {i id n : Nat} {s : Nd} {w w' : World} {hb nb rb M : Nat} {lv : Value} {v : RV} {tg : Tags} {T : Nat × Nat}

theorem Md.tn (h : Md id n s w w' hb nb rb M lv v) : madeT i w.heap.size M hb nb lv T tg nb = tN i := by
  have h1 : ¬ nb < w.heap.size := by have := h.n0; omega
  simp [madeT, h1]

theorem Md.tl (h : Md id n s w w' hb nb rb M lv v) (k : Nat) (hk : lv.ownBlock = some k) : madeT i w.heap.size M hb nb lv T tg k = tNL i := by
  have h1 : ¬ k < w.heap.size := by have := (h.l0 k hk).1; omega
  have h2 : ¬ k = nb := fun e => h.L.apart h.N (by rw [← e]; exact hk)
  simp [madeT, h1, h2, hk]

theorem Md.tr (h : Md id n s w w' hb nb rb M lv v) (k : Nat) (hk : v.has rb k) : madeT i w.heap.size M hb nb lv T tg k = tR i := by
  have h0 := h.r0 k hk
  have h1 : ¬ k < w.heap.size := by have := h.m0; omega
  have h2 : ¬ k = nb := by have := h.n1; omega
  have h3 : ¬ lv.ownBlock = some k := fun e => by have := (h.l0 k e).2; omega
  have h4 : ¬ k < M := by omega
  simp [madeT, h1, h2, h3, h4, h0.2]

theorem Md.th (h : Md id n s w w' hb nb rb M lv v) : madeT i w.heap.size M hb nb lv T tg hb = T := by
  have h0 := h.h0
  have h1 : ¬ hb < w.heap.size := by have := h.m0; omega
  have h2 : ¬ hb = nb := by have := h.n1; omega
  have h3 : ¬ lv.ownBlock = some hb := fun e => by have := (h.l0 hb e).2; omega
  have h4 : ¬ hb < M := by omega
  simp [madeT, h1, h2, h3, h4]

theorem Md.stp (A : Nat × Nat → Prop) (h : Md id n s w w' hb nb rb M lv v) : Stp A w tg w' (madeT i w.heap.size M hb nb lv T tg) :=
  ⟨h.B.os, h.B.tape, h.B.output, h.B.size, fun k hk _ => ⟨h.B.block k hk, by simp [madeT, hk]⟩⟩

theorem Md.game (h : Md id n s w w' hb nb rb M lv v) : Gx i hb nb rb w' (madeT i w.heap.size M hb nb lv (tG i) tg) id n s s lv v nilBV [] [] [] 0 0 0 :=
  { B := ⟨h.G, h.th, waitE_nil _ _ _, waitM_nil _ _ _, waitT_nil _ _ _, ⟨[], Own.nil _ _ _ _ _, fun k v h => by simp at h⟩, ⟨[], Own.nil _ _ _ _ _, fun k v h => by simp at h⟩, ⟨[], Own.nil _ _ _ _ _, fun k v h => by simp at h⟩⟩
    N := h.N, tn := h.tn, L := h.L, tl := h.tl, R := h.R, tr := h.tr }

end

/-- Behind what makes a game. -/
def GMd (id n : Nat) (s : Nd) (w : World) (e : Ending) (w' : World) : Prop :=
  ∃ hb nb rb M lv v, e = .returned (.tuple #[.pointer (some ⟨hb, 0, none⟩), .bool true]) ∧ Md id n s w w' hb nb rb M lv v

theorem opened_md {id n : Nat} {w w1 w2 : World} {nb : Nat} {lv : Value} {v : RV} (hnb : w.heap.size ≤ nb) (hN : NB 0 w1 nb (Nd.made id n 0 (-1) []) lv) (hv : w1.ownsRow w.heap.size 66 2 lv 0 (eC [])) (hb1 : Below w.heap.size w w1)
    (hR : RB w2 w1.heap.size (Nd.made id n 0 (-1) []) v []) (hk : ∀ k, v.has w1.heap.size k → w1.heap.size ≤ k) (hb2 : Below w1.heap.size w1 w2) :
    GMd id n (Nd.made id n 0 (-1) []) w (.returned (.tuple #[.pointer (some ⟨w2.heap.size, 0, none⟩), .bool true])) (w2.alloc (gameB id n nb w1.heap.size)) :=
  ⟨_, _, _, w1.heap.size, lv, v, rfl, md_alloc ((hb2.block nb hN.lt).trans hN) (owns_below hv hb2) hnb hN.lt (fun k hk => (hv.lt k hk).2) hR hk hb1.size hb2.size (below_trans hb1 hb2)⟩

set_option maxRecDepth 100000 in
set_option maxHeartbeats 2000000 in
theorem opened_gm (id n : Nat) (w : World) (hn1 : 1 ≤ n) (hn2 : n ≤ 7) (h1 : id < n) :
    Calls Tryz.prog 7 #[.int .i64 (id : Int), .int .i64 (n : Int)] w fun e w' => GMd id n (Nd.made id n 0 (-1) []) w e w' := by
  have H0 := hide (And.intro hn1 (And.intro hn2 h1))
  clear hn1 hn2 h1
  go_enter Tryz.func7, Tryz.ntmps7
  go_wp2_with (first | (go_at_call 11; refine (open_ok id n w (unhide H0).1 (unhide H0).2.1 (unhide H0).2.2).mono ?_; rintro e w1 ⟨nb, lv, rfl, hm⟩; replace hm := hide hm) | (go_at_call 12; refine (refOpen_rb id n w1 (unhide H0).1 (unhide H0).2.1 (unhide H0).2.2).mono ?_; rintro e w2 ⟨rfl, ⟨v, hR, hlv, hk⟩, hb2⟩; replace hR := hide hR; replace hb2 := hide hb2; replace hk := hide hk; clear hlv) | (go_at_call 13; refine (num_any _ _).mono ?_; rintro e w3 ⟨rfl, rfl⟩))
  go_ret2
  exact opened_md (unhide hm).1 (unhide hm).2.1 (unhide hm).2.2.1 (unhide hm).2.2.2 (unhide hR) (unhide hk) (unhide hb2)

/-- Both give a node. -/
def BothNd (id n : Nat) (term vote : Int) (es : List Ent) : Prop :=
  (∀ W lv, EntsIn W lv es → Calls Tryz.prog 15 #[.int .i64 (id : Int), .int .i64 (n : Int), .agg #[.int .i64 term, .int .i64 vote, lv]] W fun e w' => NodeMade id n term vote es W e w') ∧
  (∀ W lv, EntsIn W lv es → Calls Tryz.prog 17 #[.int .i64 (id : Int), .int .i64 (n : Int), .agg #[.int .i64 term, .int .i64 vote, lv]] W fun e w' => RMade (Nd.made id n term vote es) W e w')

theorem both_nd {id n : Nat} {term vote : Int} {es : List Ent} (hn1 : 1 ≤ n) (hn2 : n ≤ 7) (h1 : id < n) (h : ¬ BadSaved term vote n es) : BothNd id n term vote es :=
  ⟨fun W lv hl => restart_ok id n term vote lv es W hn1 hn2 h1 hl h, fun W lv hl => refRestart_rb id n term vote lv es W hn1 hn2 h1 hl h⟩

theorem rst_md {id n : Nat} {term vote : Int} {es : List Ent} {w W w2 w3 w4 : World} {nb rb : Nat} {lv : Value} {v : RV} (hB : Below w.heap.size w W) (hnb : W.heap.size ≤ nb)
    (hN : NB 0 w2 nb (Nd.made id n term vote es) lv) (hv : w2.ownsRow W.heap.size 66 2 lv es.length (eC es))
    (hk : ∀ k, W.heap.size ≤ k → k < w2.heap.size → w3.heap[k]? = w2.heap[k]?) (hs3 : w2.heap.size ≤ w3.heap.size) (hB3 : Below w.heap.size w w3)
    (hR : RB w4 rb (Nd.made id n term vote es) v []) (hrb : ∀ k, v.has rb k → w3.heap.size ≤ k) (hb4 : Below w3.heap.size w3 w4) :
    GMd id n (Nd.made id n term vote es) w (.returned (.tuple #[.pointer (some ⟨w4.heap.size, 0, none⟩), .bool true])) (w4.alloc (gameB id n nb rb)) := by
  have h1 := hB.size
  have h2 := hB3.size
  have hnl := hN.lt
  refine ⟨_, _, _, w3.heap.size, lv, v, rfl, md_alloc ?_ ?_ (Nat.le_trans h1 hnb) (Nat.lt_of_lt_of_le hnl hs3) (fun k hk => Nat.lt_of_lt_of_le (hv.lt k hk).2 hs3) hR hrb h2 hb4.size (below_trans hB3 hb4)⟩
  · exact (hb4.block nb (Nat.lt_of_lt_of_le hnl hs3)).trans ((hk nb hnb hnl).trans hN)
  · exact owns_below (owns_base (owns_kept hv fun x hx => hk x (hv.lt _ hx).1 (hv.lt _ hx).2) h1) hb4

set_option maxRecDepth 100000 in
set_option maxHeartbeats 800000 in
theorem rst_gm (id n : Nat) (term vote : Int) (lv : Value) (es : List Ent) (w : World) (hn : es.length * 24 ≤ 140737488351232) (hl : EntsIn w lv es) (hNR : BothNd id n term vote es) :
    Calls Tryz.prog 8 #[.int .i64 (id : Int), .int .i64 (n : Int), .agg #[.int .i64 term, .int .i64 vote, lv]] w fun e w' => GMd id n (Nd.made id n term vote es) w e w' := by
  have HL := hide hl
  obtain ⟨ao, cap, rfl, hl1, hl2⟩ := hl
  clear hl1 hl2
  have HNR := hide hNR
  clear hNR
  have HA := hide (below_alloc w (savedB term vote (.slice ao es.length cap)))
  have s0 : (w.alloc (savedB term vote (.slice ao es.length cap))).cell? ⟨w.heap.size, 0, none⟩ = some (.int .i64 term) := cell_of_row _ _ 0 _ _ _ (heap_alloc_new w _)
  have s1 : (w.alloc (savedB term vote (.slice ao es.length cap))).cell? ⟨w.heap.size, 1, none⟩ = some (.int .i64 vote) := cell_of_row _ _ 1 _ _ _ (heap_alloc_new w _)
  have s2 : (w.alloc (savedB term vote (.slice ao es.length cap))).cell? ⟨w.heap.size, 2, none⟩ = some (.slice ao es.length cap) := cell_of_row _ _ 2 _ _ _ (heap_alloc_new w _)
  have hsb := heap_alloc_new w (savedB term vote (.slice ao es.length cap))
  have hsz := size_alloc1 w (savedB term vote (.slice ao es.length cap))
  have hq1 := eql_slice_nil
  have hq2 := eql_nil_nil
  go_enter Tryz.func8, Tryz.ntmps8
  go_wp2_with fail
  generalize w.alloc (savedB term vote (.slice ao es.length cap)) = wA at *
  have hEA : EntsIn wA.drew (.slice ao es.length cap) es := ents_below (unhide HL) (unhide HA).drew
  have HEA := hide hEA
  have HEB : Hid (EntsIn (wA.alloc (.cells #[.int .i64 0, .int .i64 0, .slice none 0 0] 24)).drew (.slice ao es.length cap) es) := ents_below (w := wA) (show EntsIn wA (.slice ao es.length cap) es from hEA) (below_alloc wA _).drew
  have hneA : wA.heap.size ≠ w.heap.size := by omega
  have hgs : wA.drew.heap.size = w.heap.size + 1 := hsz
  have HGS := hide hgs
  have HSB := hide hsb
  clear hEA hsz hgs hsb
  go_cut [8] (fun p wr => ∃ hb g, p = .pointer (some ⟨hb, 0, none⟩) ∧ RstA w term vote (.slice ao es.length cap) es hb g wr)
  case first =>
    go_region_held3 (fun w' => w'.cell? ⟨w.heap.size, 0, none⟩ = some (.int .i64 term) ∧ w'.cell? ⟨w.heap.size, 1, none⟩ = some (.int .i64 vote) ∧ w'.cell? ⟨w.heap.size, 2, none⟩ = some (.slice ao es.length cap)) (first | go_keep | exact ⟨z0, z1, z2⟩ | (simp only [cell_ne hneA]; exact ⟨z0, z1, z2⟩)) (first | (go_at_call 14; refine (handed_any _ es wA.drew hn (unhide HEA)).mono ?_; rintro e w1 ⟨rfl, hR1, hb1⟩; have z0 : w1.cell? ⟨w.heap.size, 0, none⟩ = some (.int .i64 term) := rst_cell (unhide HSB) 0 (Below.undrew hb1) rfl; have z1 : w1.cell? ⟨w.heap.size, 1, none⟩ = some (.int .i64 vote) := rst_cell (unhide HSB) 1 (Below.undrew hb1) rfl; have z2 : w1.cell? ⟨w.heap.size, 2, none⟩ = some (.slice ao es.length cap) := rst_cell (unhide HSB) 2 (Below.undrew hb1) rfl; replace hR1 := hide hR1; replace hb1 := hide (Below.undrew hb1)) | (go_at_call 14; refine (handed_any _ es (wA.alloc (.cells #[.int .i64 0, .int .i64 0, .slice none 0 0] 24)).drew hn (unhide HEB)).mono ?_; rintro e w1 ⟨rfl, hR1, hb1⟩; have z0 : w1.cell? ⟨w.heap.size, 0, none⟩ = some (.int .i64 term) := rst_cell (unhide HSB) 0 (rst_bel hb1) rfl; have z1 : w1.cell? ⟨w.heap.size, 1, none⟩ = some (.int .i64 vote) := rst_cell (unhide HSB) 1 (rst_bel hb1) rfl; have z2 : w1.cell? ⟨w.heap.size, 2, none⟩ = some (.slice ao es.length cap) := rst_cell (unhide HSB) 2 (rst_bel hb1) rfl; have hh1 := ((Below.undrew hb1).block wA.heap.size (by simp)).trans (heap_alloc_new wA _); have y0 := cell_of_row w1 wA.heap.size 0 _ _ _ hh1; have y1 := cell_of_row w1 wA.heap.size 1 _ _ _ hh1; have y2 := cell_of_row w1 wA.heap.size 2 _ _ _ hh1; have x0 := frozen_of_row w1 wA.heap.size 0 _ _ hh1; have x1 := frozen_of_row w1 wA.heap.size 1 _ _ hh1; have x2 := frozen_of_row w1 wA.heap.size 2 _ _ hh1; replace hh1 := hide hh1; replace hR1 := hide hR1; replace hb1 := hide (Below.undrew hb1)))
    · go_wp2_with fail
      go_meet
      exact ⟨w1.heap.size, wA.heap.size, rfl, rstA_1 (unhide HSB) (unhide HA) (unhide hR1) (unhide hb1)⟩
    · go_wp2_with fail
      go_meet
      exact ⟨wA.heap.size, wA.heap.size + 1, rfl, rstA_2 (unhide HSB) (unhide HA) (unhide hR1) (unhide hb1)⟩
  case rest =>
    obtain ⟨hb, g, rfl, hA⟩ := hcut
    have HA2 := hide hA
    clear s0 s1 s2 hneA HEA HEB HGS HSB HA hA
    have s0 : wc.cell? ⟨w.heap.size, 0, none⟩ = some (.int .i64 term) := rst_cell (unhide HA2).1 0 (Below.refl _ _) rfl
    have s2 : wc.cell? ⟨w.heap.size, 2, none⟩ = some (.slice ao es.length cap) := rst_cell (unhide HA2).1 2 (Below.refl _ _) rfl
    have y0 : wc.cell? ⟨hb, 0, none⟩ = some (.int .i64 term) := rst_cell (unhide HA2).2.1 0 (Below.refl _ _) rfl
    have y1 : wc.cell? ⟨hb, 1, none⟩ = some (.int .i64 vote) := rst_cell (unhide HA2).2.1 1 (Below.refl _ _) rfl
    have y2 : wc.cell? ⟨hb, 2, none⟩ = some (.slice (some ⟨g, 0, none⟩) es.length (es.length + 8)) := rst_cell (unhide HA2).2.1 2 (Below.refl _ _) rfl
    have x2 : wc.frozen? ⟨hb, 2, none⟩ = false := frozen_of_row wc hb 2 _ _ (unhide HA2).2.1
    have hcase : (((es.length : Int) == 0) = true ∧ (term.tmod 2 == 0) = true) ∨ (((es.length : Int) == 0) = true ∧ (term.tmod 2 == 0) = false) ∨ ((es.length : Int) == 0) = false := by
      cases ((es.length : Int) == 0) <;> cases (term.tmod 2 == 0) <;> simp
    rcases hcase with ⟨he', ht'⟩ | ⟨he', ht'⟩ | he'
    · have hes : es = [] := List.length_eq_zero_iff.1 (by have := eq_of_beq he'; omega)
      have HES := hide hes
      clear hes
      have hB2 := hide (show Below w.heap.size w (wc.setCell ⟨hb, 2, none⟩ (.slice none 0 0)) from (unhide HA2).2.2.2.1.setCell (p := ⟨hb, 2, none⟩) (Nat.le_of_lt (unhide HA2).2.2.2.2.1) _)
      have hH2 := hide (show (wc.setCell ⟨hb, 2, none⟩ (.slice none 0 0)).heap[hb]? = some (savedB term vote (.slice none 0 0)) from heap_setCell_same _ hb 2 _ _ _ (unhide HA2).2.1)
      have hS2 := hide (show (wc.setCell ⟨hb, 2, none⟩ (.slice none 0 0)).heap[w.heap.size]? = some (savedB term vote (.slice ao es.length cap)) from (Below.heap_setCell _ _ _ _ (by have := (unhide HA2).2.2.2.2.1; simp only; omega)).trans (unhide HA2).1)
      have hE2 := hide (show EntsIn (wc.setCell ⟨hb, 2, none⟩ (.slice none 0 0)) (.slice none 0 0) es from by rw [unhide HES]; exact ⟨none, 0, rfl, fun _ => rfl, fun k e hk => by simp at hk⟩)
      go_wp2_with (first | (go_at_call 15; refine ((unhide HNR).1 _ _ (unhide hE2)).mono ?_; rintro e w2 ⟨nb, v, rfl, hm⟩; have hb2 := hm.2.2.2; replace hm := hide hm; have z0 : w2.cell? ⟨w.heap.size, 0, none⟩ = some (.int .i64 term) := rst_cell (unhide hS2) 0 hb2 rfl; have z1 : w2.cell? ⟨w.heap.size, 1, none⟩ = some (.int .i64 vote) := rst_cell (unhide hS2) 1 hb2 rfl; have z2 : w2.cell? ⟨w.heap.size, 2, none⟩ = some (.slice ao es.length cap) := rst_cell (unhide hS2) 2 hb2 rfl; have q2 : w2.cell? ⟨hb, 2, none⟩ = some (.slice none 0 0) := rst_cell (unhide hH2) 2 hb2 rfl; have hB3 := hide (below_trans (unhide hB2) hb2); replace hb2 := hide hb2) | (go_at_call 17; refine ((unhide HNR).2 w2 _ (ents_below (unhide HL) (unhide hB3))).mono ?_; rintro e w4 ⟨rb, vv, rfl, hu⟩; replace hu := hide hu) | (go_at_call 13; refine (num_any _ _).mono ?_; rintro e w5 ⟨rfl, rfl⟩) | fail)
      go_ret2
      exact rst_md (unhide hB2) (unhide hm).1 (unhide hm).2.1 (unhide hm).2.2.1 (fun _ _ _ => rfl) (Nat.le_refl _) (unhide hB3) (unhide hu).1 (unhide hu).2.1 (unhide hu).2.2
    all_goals
      go_wp2_with (first | (go_at_call 15; refine ((unhide HNR).1 wc _ (rowE_ents (unhide HA2).2.2.1)).mono ?_; rintro e w2 ⟨nb, v, rfl, hm⟩; have hb2 := hm.2.2.2; replace hm := hide hm; have z2 : w2.cell? ⟨w.heap.size, 2, none⟩ = some (.slice ao es.length cap) := rst_cell (unhide HA2).1 2 hb2 rfl; have q2 : w2.cell? ⟨hb, 2, none⟩ = some (.slice (some ⟨g, 0, none⟩) es.length (es.length + 8)) := rst_cell (unhide HA2).2.1 2 hb2 rfl; replace hb2 := hide hb2) | (go_at_call 16; refine (untouched_any g _ es w w2 hn (unhide HL) (below_trans (unhide HA2).2.2.2.1 (Below.mono (unhide hb2) (Nat.le_refl _))) (Nat.le_of_lt (unhide HA2).2.2.2.2.2) (rowE_below (unhide HA2).2.2.1 (unhide hb2))).mono ?_; rintro e w3 ⟨rfl, hG⟩; have hB3 := grown_below (below_trans (unhide HA2).2.2.2.1 (unhide hb2)) (Nat.le_of_lt (unhide HA2).2.2.2.2.2) hG; have z0 : w3.cell? ⟨w.heap.size, 0, none⟩ = some (.int .i64 term) := rst_cellG (((unhide hb2).block _ (Array.getElem?_eq_some_iff.1 (unhide HA2).1).1).trans (unhide HA2).1) 0 hG (Nat.ne_of_lt (unhide HA2).2.2.2.2.2) rfl; have z1 : w3.cell? ⟨w.heap.size, 1, none⟩ = some (.int .i64 vote) := rst_cellG (((unhide hb2).block _ (Array.getElem?_eq_some_iff.1 (unhide HA2).1).1).trans (unhide HA2).1) 1 hG (Nat.ne_of_lt (unhide HA2).2.2.2.2.2) rfl; have z3 : w3.cell? ⟨w.heap.size, 2, none⟩ = some (.slice ao es.length cap) := rst_cellG (((unhide hb2).block _ (Array.getElem?_eq_some_iff.1 (unhide HA2).1).1).trans (unhide HA2).1) 2 hG (Nat.ne_of_lt (unhide HA2).2.2.2.2.2) rfl; replace hG := hide hG; replace hB3 := hide hB3) | (go_at_call 17; refine ((unhide HNR).2 w3 _ (ents_below (unhide HL) (unhide hB3))).mono ?_; rintro e w4 ⟨rb, vv, rfl, hu⟩; replace hu := hide hu) | (go_at_call 13; refine (num_any _ _).mono ?_; rintro e w5 ⟨rfl, rfl⟩) | fail)
      go_ret2
      exact rst_md (unhide HA2).2.2.2.1 (unhide hm).1 (unhide hm).2.1 (unhide hm).2.2.1 (fun k h1 h2 => (unhide hG).block k h2 (fun he => by have h3 := rowE_lt (unhide HA2).2.2.1; simp at he; omega)) (unhide hG).size (unhide hB3) (unhide hu).1 (unhide hu).2.1 (unhide hu).2.2

theorem GameBlk.setC2 {w : World} {gb : Nat} {c0 c1 c2 c3 : Value} {b : BV} (h : GameBlk w gb c0 c1 c2 c3 b) (v : Value) : GameBlk (w.setCell ⟨gb, 2, none⟩ v) gb c0 c1 v c3 b := h.set 2 v

theorem GameBlk.setC3 {w : World} {gb : Nat} {c0 c1 c2 c3 : Value} {b : BV} (h : GameBlk w gb c0 c1 c2 c3 b) (v : Value) : GameBlk (w.setCell ⟨gb, 3, none⟩ v) gb c0 c1 c2 v b := h.set 3 v

theorem tn_tg (i : Nat) (hi : i ≤ 1) (k : Nat) : ¬ ((1000 + 10 * i, k) : Nat × Nat) = tG i := fun h => by have h2 : 1000 + 10 * i = 20 * i + 1 := congrArg Prod.fst h; omega

/-- The game goes on with other nodes. -/
theorem Gx.renew {i gb nb rb : Nat} {w w' : World} {tg : Tags} {id n : Nat} {s t s' : Nd} {lv lv' : Value} {v v' : RV} {b : BV} {l : List (List Ent)} {lm : List (List Msg)} {l2 : List (List ByteArray)} {ne nm nt hb nb' rb' M : Nat} (h : Gx i gb nb rb w tg id n s t lv v b l lm l2 ne nm nt) (hi : i ≤ 1) (hm : Md id n s' w w' hb nb' rb' M lv' v') :
    Gx i gb nb' rb' ((w'.setCell ⟨gb, 2, none⟩ (.pointer (some ⟨nb', 0, none⟩))).setCell ⟨gb, 3, none⟩ (.pointer (some ⟨rb', 0, none⟩))) (madeT i w.heap.size M hb nb' lv' (0, 1) tg) id n s' s' lv' v' b l lm l2 ne nm nt ∧
      Stp (Abook i) w tg ((w'.setCell ⟨gb, 2, none⟩ (.pointer (some ⟨nb', 0, none⟩))).setCell ⟨gb, 3, none⟩ (.pointer (some ⟨rb', 0, none⟩))) (madeT i w.heap.size M hb nb' lv' (0, 1) tg) := by
  have S1 : Stp (fun _ => False) w tg w' (madeT i w.heap.size M hb nb' lv' (0, 1) tg) := hm.stp _
  have tn := hm.tn (i := i) (T := (0, 1)) (tg := tg)
  have tl := hm.tl (i := i) (T := (0, 1)) (tg := tg)
  have tr := hm.tr (i := i) (T := (0, 1)) (tg := tg)
  have B1 := h.B.step S1 (fun _ _ h => h) (fun h => h)
  generalize madeT i w.heap.size M hb nb' lv' (0, 1) tg = tg' at *
  have hs : Stp (fun U => U = tG i) w' tg' ((w'.setCell ⟨gb, 2, none⟩ (.pointer (some ⟨nb', 0, none⟩))).setCell ⟨gb, 3, none⟩ (.pointer (some ⟨rb', 0, none⟩))) tg' := (Stp.setCell (a := ⟨gb, 2, none⟩) B1.g _).trans (Stp.setCell (a := ⟨gb, 3, none⟩) B1.g _)
  have hG := (B1.G.setC2 (.pointer (some ⟨nb', 0, none⟩))).setC3 (.pointer (some ⟨rb', 0, none⟩))
  generalize (w'.setCell ⟨gb, 2, none⟩ (.pointer (some ⟨nb', 0, none⟩))).setCell ⟨gb, 3, none⟩ (.pointer (some ⟨rb', 0, none⟩)) = w2 at *
  have kN := hs.keep nb' hm.N.lt (by rw [tn]; exact tn_tg i hi 0)
  have kR : ∀ k, v'.has rb' k → w2.heap[k]? = w'.heap[k]? ∧ tg' k = tg' k := fun k hk => hs.keep k (hm.R.hasLt hk) (by rw [tr k hk]; exact tn_tg i hi 2)
  have kL : ∀ k, lv'.ownBlock = some k → w2.heap[k]? = w'.heap[k]? ∧ tg' k = tg' k := fun k hk => hs.keep k (owns_lt hm.L k hk) (by rw [tl k hk]; exact tn_tg i hi 1)
  refine ⟨⟨⟨hG, B1.g, B1.E.step hs (by simp) (by simp) (by simp) (by simp), B1.M.step hs (by simp) (by simp) (by simp) (by simp) (by simp), B1.T.step hs (by simp) (by simp) (by simp) (by simp), B1.ME.step hs (by simp) (by simp), B1.MM.step hs (by simp) (by simp), B1.MT.step hs (by simp) (by simp)⟩, kN.1.trans hm.N, tn, owns_kept hm.L fun x hx => (kL x hx).1, tl, hm.R.kept fun k hk => (kR k hk).1, tr⟩, (S1.mono fun _ h => h.elim).trans (hs.mono ?_)⟩
  rintro U h; subst h; exact ⟨by simp, by simp⟩

theorem Pair.made {id n : Nat} {s t : Nd} (h : Pair id n s t) : Pair id n (Nd.made id n s.term s.vote s.log) (Nd.made id n s.term s.vote s.log) := by
  have hok := h.ok
  have h1 := hok.n1
  have h2 := hok.n7
  have h3 := hok.id
  rw [h.en] at h1 h2 h3
  rw [h.eid] at h3
  have h4 := hok.saved
  rw [h.en] at h4
  exact ⟨Twin.refl _, Ok.made h1 h2 h3 h4, Ok.made h1 h2 h3 h4, rfl, rfl⟩

theorem both_nodes' {id n : Int} (term vote : Int) (es : List Ent) (h : n < 1 ∨ 7 < n ∨ id < 0 ∨ n ≤ id) : BothNo id n term vote es 1 :=
  ⟨fun W lv _ => restart_nodes id n term vote lv W h, fun W lv _ => refRestart_nodes id n term vote lv W h⟩

theorem both_saved' {id : Int} {n : Nat} {term vote : Int} {es : List Ent} (hn : es.length * 24 ≤ 140737488351232) (hn1 : 1 ≤ n) (hn2 : n ≤ 7) (h0 : 0 ≤ id) (h1 : id < n) (h : BadSaved term vote n es) : BothNo id n term vote es 2 :=
  ⟨fun W lv hl => restart_saved id n term vote lv es W hn1 hn2 h0 h1 hl (by omega) h, fun W lv hl => refRestart_saved id n term vote lv es W hn1 hn2 h0 h1 hl (by omega) h⟩

end Go.Proofs.YteiecbkfganhnaaGreat

namespace Go.Proofs.YteiecbkfganhnaaGreat

open Go.RowKit Go.MuLone

/-- The commands among the first k entries. -/
def cmdsTo (l : List Ent) (k : Nat) : List ByteArray := ((l.take k).map Prod.snd).filter fun c => decide (c.size ≠ 0)

def Nd.cmds (s : Nd) : List ByteArray := cmdsTo s.log s.commit

theorem cmdsTo_yes {l : List Ent} {k : Nat} (hk : k < l.length) (h : l[k].2.size ≠ 0) : cmdsTo l (k + 1) = cmdsTo l k ++ [l[k].2] := by
  unfold cmdsTo
  rw [List.take_succ_eq_append_getElem hk, List.map_append, List.filter_append]
  congr 1
  show List.filter _ [l[k].2] = [l[k].2]
  rw [List.filter_cons, if_pos (decide_eq_true h), List.filter_nil]

theorem cmdsTo_no {l : List Ent} {k : Nat} (hk : k < l.length) (h : l[k].2.size = 0) : cmdsTo l (k + 1) = cmdsTo l k := by
  unfold cmdsTo
  rw [List.take_succ_eq_append_getElem hk, List.map_append, List.filter_append]
  show _ ++ List.filter _ [l[k].2] = _
  rw [List.filter_cons, if_neg (by simp [h]), List.filter_nil, List.append_nil]

theorem cmdsTo_len (l : List Ent) (k : Nat) : (cmdsTo l k).length ≤ k := by
  refine Nat.le_trans (List.length_filter_le _ _) ?_
  simp; omega

theorem infoStrC : (Tryz.prog.info? 9).map (fun i => (i.zero, i.size, i.bytes)) = some (some (.string ⟨#[]⟩), 1, 16) := by kernel_rfl

theorem nonempty_isEmpty {c : ByteArray} (h : c.size ≠ 0) : c.toList.isEmpty = false := by
  rw [← decide_eq_emptyBytes c]
  refine decide_eq_false fun hx => h ?_
  rw [hx]; rfl

theorem empty_isEmpty {c : ByteArray} (h : c.size = 0) : c = ⟨#[]⟩ := by
  cases c with
  | mk d =>
    have : d.size = 0 := h
    have : d = #[] := Array.eq_empty_of_size_eq_zero this
    rw [this]

theorem cell_one_at (w : World) (x : Value) (t : TypeId) (b : Nat) (hb : w.heap.size = b) : ∀ j u, [x][j]? = some u → (w.alloc (.cells #[x] t)).cell? ((⟨b, 0, none⟩ : Addr).add j) = some u := by subst hb; exact cell_one_new w x t

set_option maxRecDepth 100000 in
set_option maxHeartbeats 1000000 in
theorem committed_any (nb : Nat) (s : Nd) (lv : Value) (w : World) (h : NB 0 w nb s lv) (hl : NL w s lv) (hc : s.commit ≤ s.last) (h60 : s.last ≤ 60) :
    Calls Tryz.prog 47 #[.pointer (some ⟨nb, 0, none⟩)] w fun e w' => ∃ v, e = .returned v ∧ w'.ownsRow w.heap.size 9 1 v s.cmds.length (tC s.cmds) ∧ Below w.heap.size w w' := by
  have c0 := h.c0
  have f0 := h.free 0
  have c6 := h.c6
  have c9 := h.c9
  have H := hide h
  have HL := hide hl
  have hc' : s.commit ≤ s.log.length := hc
  by_cases hz : s.commit = 0
  · obtain ⟨lo, lc, rfl⟩ := hl.form
    have HZ : Hid (s.cmds = []) := by show _ = _; unfold Nd.cmds; rw [hz]; rfl
    rw [hz] at c9
    have c9' : (w.cell? ⟨nb, 9, none⟩) = some (.int .i64 0) := c9
    clear h hl hz c9
    go_enter_defers Tryz.func47, Tryz.ntmps47
    go_wp2_with (go_at_call 51; refine (lock_free muLib ⟨nb, 0, none⟩ _ c0 f0).mono ?_; rintro e w' ⟨rfl, rfl⟩)
    go_quiet (fail)
    go_wp2
    refine wp_loop_rounds 1 ?_
    rw [rounds_succ]
    go_wp2
    have hlk := lock_below (w1 := (w.setCell ⟨nb, 0, none⟩ (.int .i32 1)).drewN nq) (unhide H) ⟨rfl, rfl, rfl, Nat.le_refl _, fun _ _ => rfl⟩
    refine leaves_cons (f := 52) (args := #[.pointer (some ⟨nb, 0, none⟩)]) (by simp) (by simp [go_sem]) ?_
    refine (unlock_deferred muLib ⟨nb, 0, none⟩ .returning _ hlk.1.c0 (hlk.1.free 0)).mono ?_
    rintro e u' w'' ⟨rfl, rfl, rfl⟩
    refine ⟨_, results_tmp rfl _ _ _, _, rfl, ?_, hlk.2⟩
    rw [unhide HZ]
    exact World.ownsRow_nil _ _ _ _
  · obtain ⟨lb, lc, rfl, hle⟩ : ∃ lb lc, lv = .slice (some ⟨lb, 0, none⟩) s.log.length lc ∧ s.log.length ≤ lc := by
      rcases hl.2 with ⟨rfl, h0⟩ | ⟨g, cap, cur, rfl, _, _, hnc, _⟩
      · omega
      · exact ⟨g, cap, rfl, hnc⟩
    have i1 : (0 : Int) ≤ (s.commit : Int) := by omega
    have i3 : (s.commit : Int) ≤ (lc : Int) := by omega
    clear h hl
    go_enter_defers Tryz.func47, Tryz.ntmps47
    go_wp2_with (go_at_call 51; refine (lock_free muLib ⟨nb, 0, none⟩ _ c0 f0).mono ?_; rintro e w' ⟨rfl, rfl⟩)
    go_quiet (fail)
    go_wp2
    have HW : Hid (Below w.heap.size (w.setCell ⟨nb, 0, none⟩ (.int .i32 1)) ((w.setCell ⟨nb, 0, none⟩ (.int .i32 1)).drewN nq)) := ⟨rfl, rfl, rfl, Nat.le_refl _, fun _ _ => rfl⟩
    have HSZ : Hid (((w.setCell ⟨nb, 0, none⟩ (.int .i32 1)).drewN nq).heap.size = w.heap.size) := by show _ = _; simp [World.setCell]
    have HLW : Hid (NL ((w.setCell ⟨nb, 0, none⟩ (.int .i32 1)).drewN nq) s (.slice (some ⟨lb, 0, none⟩) s.log.length lc)) := by
      have h9 := (unhide HL).ew (unhide H) ((Ew.refl nb w).set 0 (.int .i32 1))
      exact h9
    generalize (w.setCell ⟨nb, 0, none⟩ (.int .i32 1)).drewN nq = W at *
    obtain ⟨i0, hi, hz0, hz1, hz2⟩ := info_parts infoStrC
    clear c0 f0 c6 c9
    obtain ⟨B, hB⟩ : ∃ B, w.heap.size = B := ⟨_, rfl⟩
    have HBB := hide hB
    have HSZ2 : Hid (W.heap.size = B) := (unhide HSZ).trans hB
    go_loopw [3, 23] (fun l i wr => ∃ k : Nat, k ≤ s.commit ∧ i = .int .i64 k ∧ wr.ownsRow B 9 1 l (cmdsTo s.log k).length (tC (cmdsTo s.log k)) ∧ Below W.heap.size W wr) (fun _ i _ => s.commit - (intOf i).toNat)
    case atStart => exact ⟨0, Nat.zero_le _, rfl, World.ownsRow_nil W _ _ _, Below.refl _ _⟩
    case round =>
      obtain ⟨k, hk, rfl, ho, hb⟩ := hrel
      obtain ⟨lo, lc2, rfl⟩ := owns_form ho
      have hol := cmdsTo_len s.log k
      by_cases hlt : k < s.commit
      · have hkl : k < s.log.length := by omega
        have i2 : (k : Int) < (s.commit : Int) := by omega
        have i4 : (0 : Int) ≤ (k : Int) := by omega
        obtain ⟨ao, cp, hv, _, he⟩ := ((unhide HLW).below hb).ents
        obtain ⟨b2, off2, rfl, a0, a1⟩ := he k _ (show s.log[k]? = some s.log[k] by simp [hkl])
        simp only [Value.slice.injEq, Option.some.injEq, Addr.mk.injEq, and_true, true_and] at hv
        obtain ⟨⟨rfl, rfl⟩, rfl⟩ := hv
        have hlbr : lb < wr.heap.size := block_lt_of_cell a0
        simp only [Nat.zero_add] at a0 a1
        have hlbn : ¬ lb = wr.heap.size := by omega
        have HB := hide hb
        have HO := hide ho
        by_cases hq : s.log[k].2.size = 0
        · have HC := hide (cmdsTo_no hkl hq)
          have hq2 := empty_isEmpty hq
          rw [hq2] at a1
          generalize s.log[k].1 = t at *
          clear hb ho he hq hq2
          have HB2 := hide ((unhide HB).alloc (unhide HB).size (.cells #[.int .i64 t, .string ⟨#[]⟩] 66))
          have HO2 := hide ((unhide HO).alloc (.cells #[.int .i64 t, .string ⟨#[]⟩] 66))
          go_wp2
          go_roundw
          case rel => exact ⟨k + 1, by omega, by go_num, by rw [unhide HC]; exact unhide HO2, unhide HB2⟩
          case measure => simp [intOf]; omega
        · have HC := hide (cmdsTo_yes hkl hq)
          have hq2 := nonempty_isEmpty hq
          generalize s.log[k].1 = t at *
          generalize s.log[k].2 = q at *
          clear hb ho he hq
          have hnne : (!q.toList.isEmpty) = true := by rw [hq2]; rfl
          have HB2 := hide (((unhide HB).alloc (unhide HB).size (.cells #[.int .i64 t, .string q] 66)))
          have HO2 := hide ((unhide HO).alloc (.cells #[.int .i64 t, .string q] 66))
          go_wp2_with (at_builtin; go_must (refine wpList_append_own_at _ rfl (.tmp 30) (.tmp 33) 99 rfl B 9 i0 _ 1 16 Tryz.underlying99 hi hz0 hz1 hz2 rfl (by decide) (.slice lo (cmdsTo s.log k).length lc2) (cmdsTo s.log k).length (tC (cmdsTo s.log k)) rfl ((unhide HO2).alloc _) ⟨wr.heap.size + 1, 0, none⟩ 1 1 [.string q] rfl rfl (cell_one_at _ _ _ _ (by simp)) (by intro u hu; simp at hu; subst hu; rfl) (by unfold maxLen; omega) (by omega) (by have h1 := (unhide HB2).size; have h2 := unhide HSZ2; simp at h1 ⊢; omega) ?_))
          intro v' w' h2 h3 _ _
          have HN : Hid (w'.ownsRow B 9 1 v' (cmdsTo s.log (k + 1)).length (tC (cmdsTo s.log (k + 1)))) := by
            show World.ownsRow _ _ _ _ _ _ _
            rw [unhide HC, List.length_append]
            show World.ownsRow _ _ _ _ _ _ (List.map Value.string (_ ++ _))
            rw [List.map_append]
            exact h2
          have HB3 : Hid (Below W.heap.size W w') := by
            refine (((unhide HB2).alloc (unhide HB2).size _).grown h3 ?_ (fun x hx => ?_))
            · have h1 := (unhide HB2).size
              simp at h1 ⊢; omega
            · have h1 := ((unhide HO2).lt x hx).1
              have h2 := unhide HSZ2
              omega
          clear h2 h3
          go_wp2
          go_roundw
          case rel => exact ⟨k + 1, by omega, by go_num, unhide HN, unhide HB3⟩
          case measure => simp [intOf]; omega
      · have hkn : k = s.commit := by omega
        subst hkn
        have HB := hide hb
        have HO := hide ho
        clear hb ho
        go_wp2
        have hW2 : Below w.heap.size (w.setCell ⟨nb, 0, none⟩ (.int .i32 1)) wr := by
          have h1 := unhide HB
          rw [unhide HSZ2, ← unhide HBB] at h1
          exact (unhide HW).trans h1
        have hlk := lock_below (w1 := wr) (unhide H) hW2
        refine leaves_cons (f := 52) (args := #[.pointer (some ⟨nb, 0, none⟩)]) (by simp) (by simp [go_sem]) ?_
        refine (unlock_deferred muLib ⟨nb, 0, none⟩ .returning _ hlk.1.c0 (hlk.1.free 0)).mono ?_
        rintro e u' w'' ⟨rfl, rfl, rfl⟩
        refine ⟨_, results_tmp rfl _ _ _, _, rfl, ?_, hlk.2⟩
        rw [unhide HBB]
        have hlt := (unhide H).lt
        exact owns_kept (unhide HO) fun y hy => Below.heap_setCell _ _ _ _ (by have h1 := ((unhide HO).lt y hy).1; have h2 := unhide HBB; simp only; omega)

end Go.Proofs.YteiecbkfganhnaaGreat

namespace Go.Proofs.YteiecbkfganhnaaGreat

open Go.RowKit Go.MuLone

set_option maxRecDepth 100000 in
set_option maxHeartbeats 1000000 in
theorem refCommitted_any (rb : Nat) (s : Nd) (v : RV) (out : List (Msg × Value)) (w : World) (h : RB w rb s v out) (hc : s.commit ≤ s.last) (h60 : s.last ≤ 60) :
    Calls Tryz.prog 48 #[.pointer (some ⟨rb, 0, none⟩)] w fun e w' => ∃ u, e = .returned u ∧ w'.ownsRow w.heap.size 9 1 u s.cmds.length (tC s.cmds) ∧ Below w.heap.size w w' := by
  have H := hide h
  have hc' : s.commit ≤ s.log.length := hc
  obtain ⟨i0, hi, hz0, hz1, hz2⟩ := info_parts infoStrC
  obtain ⟨B, hB⟩ : ∃ B, w.heap.size = B := ⟨_, rfl⟩
  rw [hB]
  have HB0 := hide hB
  clear h hB
  go_enter Tryz.func48, Tryz.ntmps48
  go_wp2
  go_loopw [3, 4] (fun l i wr => ∃ k : Nat, k ≤ s.commit ∧ i = .int .i64 k ∧ wr.ownsRow B 9 1 l (cmdsTo s.log k).length (tC (cmdsTo s.log k)) ∧ Below B w wr) (fun _ i _ => s.commit - (intOf i).toNat)
  case atStart => exact ⟨0, Nat.zero_le _, rfl, World.ownsRow_nil w _ _ _, Below.refl _ _⟩
  case round =>
    obtain ⟨k, hk, rfl, ho, hb⟩ := hrel
    obtain ⟨lo, lc2, rfl⟩ := owns_form ho
    have hol := cmdsTo_len s.log k
    have hbw : Below w.heap.size w wr := by rw [unhide HB0]; exact hb
    have hR := (unhide H).below hbw
    have c5 := hR.c5
    have hlt0 := hR.lt
    have hne : ¬ rb = wr.heap.size := by omega
    by_cases hlt : k < s.commit
    · have hkl : k < s.log.length := by omega
      have i2 : (k : Int) < (s.commit : Int) := by omega
      have i4 : (0 : Int) ≤ (k : Int) := by omega
      have i5 : (k : Int) < (s.log.length : Int) := by omega
      obtain ⟨ao, cp, hv, _, he⟩ := ents_of_owns hR.log
      have c4 := hR.c4
      rw [hv] at c4
      obtain ⟨b2, off2, rfl, a0, a1⟩ := he k _ (show s.log[k]? = some s.log[k] by simp [hkl])
      have hlbr : b2 < wr.heap.size := block_lt_of_cell a0
      have hlbn : ¬ b2 = wr.heap.size := by omega
      have HB := hide hb
      have HO := hide ho
      by_cases hq : s.log[k].2.size = 0
      · have HC := hide (cmdsTo_no hkl hq)
        have hq2 := empty_isEmpty hq
        rw [hq2] at a1
        clear hb ho he hq hq2 hbw hR a0
        go_wp2
        go_roundw
        case rel => exact ⟨k + 1, by omega, by go_num, by rw [unhide HC]; exact unhide HO, unhide HB⟩
        case measure => simp [intOf]; omega
      · have HC := hide (cmdsTo_yes hkl hq)
        have hq2 := nonempty_isEmpty hq
        generalize s.log[k].2 = q at *
        clear hb ho he hq hbw hR a0
        have hnne : (!q.toList.isEmpty) = true := by rw [hq2]; rfl
        go_wp2_with (at_builtin; go_must (refine wpList_append_own_at _ rfl (.tmp 22) (.tmp 31) 99 rfl B 9 i0 _ 1 16 Tryz.underlying99 hi hz0 hz1 hz2 rfl (by decide) (.slice lo (cmdsTo s.log k).length lc2) (cmdsTo s.log k).length (tC (cmdsTo s.log k)) rfl ((unhide HO).alloc _) ⟨wr.heap.size, 0, none⟩ 1 1 [.string q] rfl rfl (cell_one_at _ _ _ _ rfl) (by intro u hu; simp at hu; subst hu; rfl) (by unfold maxLen; omega) (by omega) (by have h1 := (unhide HB).size; have h2 := unhide HB0; simp; omega) ?_))
        intro v' w' h2 h3 _ _
        have HN : Hid (w'.ownsRow B 9 1 v' (cmdsTo s.log (k + 1)).length (tC (cmdsTo s.log (k + 1)))) := by
          show World.ownsRow _ _ _ _ _ _ _
          rw [unhide HC, List.length_append]
          have e1 : tC (cmdsTo s.log k ++ [q]) = tC (cmdsTo s.log k) ++ [.string q] := by simp [tC]
          rw [e1]
          exact h2
        have HBN : Hid (Below B w w') := ((unhide HB).alloc (by have h1 := (unhide HB).size; have h2 := unhide HB0; omega) _).grown h3 (by have h1 := (unhide HB).size; have h2 := unhide HB0; simp; omega) (fun x hx => ((unhide HO).lt x hx).1)
        clear h2 h3
        go_wp2
        go_roundw
        case rel => exact ⟨k + 1, by omega, by go_num, unhide HN, unhide HBN⟩
        case measure => simp [intOf]; omega
    · have hkn : k = s.commit := by omega
      subst hkn
      have HO := hide ho
      have HB := hide hb
      clear ho hb hbw hR
      go_wp2
      go_ret
      exact ⟨_, rfl, unhide HO, unhide HB⟩

end Go.Proofs.YteiecbkfganhnaaGreat

namespace Go.Proofs.YteiecbkfganhnaaGreat

open Go.RowKit Go.MuLone

/-- What comes of a Propose. -/
def Proposed (nb : Nat) (lv : Value) (w : World) (r : Int × Nd × List Msg × Int) (e : Ending) (w' : World) : Prop :=
  ∃ v l lv', e = .returned (.tuple #[.int .i64 r.1, v, .int .i64 r.2.2.2]) ∧ NB 0 w' nb r.2.1 lv' ∧ NL w' r.2.1 lv' ∧ MsgsOut w' w.heap.size v r.2.2.1 l ∧ Ev nb lv lv' w w' ∧ Apart lv' l

set_option maxRecDepth 100000 in
set_option maxHeartbeats 400000 in
theorem soundCommand_any (c : ByteArray) (w : World) (b : Bool) (hb : decide ((c.size : Int) ≤ 20) = b) :
    Calls Tryz.prog 78 #[.string c] w fun e w' => e = .returned (.bool b) ∧ w' = w := by
  have HB := hide hb
  clear hb
  go_enter Tryz.func78, Tryz.ntmps78
  go_wp2
  go_ret
  refine ⟨?_, rfl⟩
  rw [← unhide HB]
  rfl

theorem quiet_prop {nb : Nat} {lv : Value} {w w1 : World} {s : Nd} {k : Int} (h : NB 0 w nb s lv) (hl : NL w s lv) (h1 : Ew nb w w1) (hN : NB 0 w1 nb s lv) : Proposed nb lv w (0, s, [], k) (.returned (.tuple #[.int .i64 0, .slice none 0 0, .int .i64 k])) w1 :=
  ⟨_, [], lv, rfl, hN, hl.ew h h1, MsgsOut.nil _ _, Ev.ofEw h1, fun x hx => by cases hx⟩

set_option maxRecDepth 100000 in
set_option maxHeartbeats 1000000 in
theorem propose_any (nb : Nat) (s : Nd) (lv : Value) (c : ByteArray) (w : World) (h : NB 0 w nb s lv) (hl : NL w s lv) (hok : Ok s) :
    Calls Tryz.prog 33 #[.pointer (some ⟨nb, 0, none⟩), .string c] w fun e w' => Proposed nb lv w (s.propose c) e w' := by
  have c0 := h.c0
  have f0 := h.free 0
  have c7 := (h.setMu 1).c7
  have HLT := hide h.lt
  have H := hide h
  have HL := hide hl
  have HOK := hide hok
  have HN1 := hide (h.setMu 1)
  have HE1 := hide ((Ew.refl nb w).set 0 (.int .i32 1))
  have HL1 := hide (hl.ew h (unhide HE1))
  clear h hl hok
  by_cases h1 : c.size = 0
  · have HR : Hid (s.propose c = (0, s, [], 3)) := by
      have : s.propErr c = 3 := if_pos (.inl h1)
      show _ = _
      unfold Nd.propose
      rw [this]; rfl
    have hc : c = ⟨#[]⟩ := by
      cases c with
      | mk d =>
        have : d.size = 0 := h1
        have : d = #[] := Array.eq_empty_of_size_eq_zero this
        rw [this]
    subst hc
    clear h1
    go_enter_defers Tryz.func33, Tryz.ntmps33
    go_wp2
    refine ⟨.tuple #[.int .i64 0, .slice none 0 0, .int .i64 3], (by simp [results, Tryz.results33, go_sem]), ?_⟩
    rw [unhide HR]
    exact quiet_prop (unhide H) (unhide HL) (Ew.refl nb w) (unhide H)
  · have hce : ¬ c = ⟨#[]⟩ := fun hx => h1 (by rw [hx]; rfl)
    have hceb : c.toList.isEmpty = false := by
      rw [← decide_eq_emptyBytes c]
      exact decide_eq_false hce
    clear hce
    by_cases h2 : 20 < c.size
    · have HR : Hid (s.propose c = (0, s, [], 3)) := by
        have : s.propErr c = 3 := if_pos (.inr h2)
        show _ = _
        unfold Nd.propose
        rw [this]; rfl
      have h2' : ¬ (c.size : Int) ≤ 20 := by omega
      clear h1 h2
      go_enter_defers Tryz.func33, Tryz.ntmps33
      go_wp2
      refine ⟨.tuple #[.int .i64 0, .slice none 0 0, .int .i64 3], (by simp [results, Tryz.results33, go_sem]), ?_⟩
      rw [unhide HR]
      exact quiet_prop (unhide H) (unhide HL) (Ew.refl nb w) (unhide H)
    have HC2 : Hid (decide ((c.size : Int) ≤ 20) = true) := decide_eq_true (by omega)
    by_cases h3 : s.role = 3
    · rw [h3] at c7
      by_cases h4 : 60 ≤ s.last
      · have HR : Hid (s.propose c = (0, s, [], 5)) := by
          have : s.propErr c = 5 := by unfold Nd.propErr; rw [if_neg (by omega), if_neg (fun hx => hx h3), if_pos h4]
          show _ = _
          unfold Nd.propose
          rw [this]; rfl
        have HFU : Hid (decide (60 ≤ s.last) = true) := decide_eq_true h4
        clear h1 h2 h3 h4
        go_enter_defers Tryz.func33, Tryz.ntmps33
        go_wp2_with (first | (go_at_call 78; refine (soundCommand_any c _ _ (unhide HC2)).mono ?_; rintro e w1 ⟨rfl, q1⟩; cases q1.symm) | (go_at_call 51; refine (lock_free muLib ⟨nb, 0, none⟩ _ c0 f0).mono ?_; rintro e w' ⟨rfl, rfl⟩) | (go_at_call 79; refine (isFull_any 1 nb s lv _ (unhide HN1) (unhide HL1)).mono ?_; rw [unhide HFU]; rintro e w1 ⟨rfl, q1⟩; cases q1.symm))
        refine leaves_cons (f := 52) (args := #[.pointer (some ⟨nb, 0, none⟩)]) (by simp) (by simp [go_sem]) ?_
        refine (unlock_deferred muLib ⟨nb, 0, none⟩ .returning _ (unhide HN1).c0 ((unhide HN1).free 0)).mono ?_
        rintro e u' w'' ⟨rfl, rfl, rfl⟩
        refine ⟨.tuple #[.int .i64 0, .slice none 0 0, .int .i64 5], (by simp [results, Tryz.results33, go_sem]), ?_⟩
        rw [unhide HR]
        exact quiet_prop (unhide H) (unhide HL) ((unhide HE1).set 0 _) ((unhide HN1).setMu 0)
      · have HR : Hid (s.propose c = (((s.proposeS c).last : Int), s.proposeS c, (s.proposeS c).appends, 0)) := by
          have : s.propErr c = 0 := by unfold Nd.propErr; rw [if_neg (by omega), if_neg (fun hx => hx h3), if_neg h4]
          show _ = _
          unfold Nd.propose
          rw [this]; rfl
        have HFU : Hid (decide (60 ≤ s.last) = false) := decide_eq_false h4
        have HPO : Hid (Ok (s.puts c)) := (unhide HOK).puts c (by omega) (by omega) (lead_term (unhide HOK) h3)
        have HPL : Hid (Leads (s.puts c).leadC.count) := (unhide HPO).leadC.count.lead h3
        have HOL : Hid (OwnLast (s.puts c).leadC) := ownLast_of (unhide HPO).leadC.log
        have HSL : Hid (s.last ≤ 60) := (unhide HOK).len
        have HC : Hid (c.size ≤ 20) := by show _ ≤ _; omega
        have HPS := hide (proposeS_eq s c)
        clear h1 h2 h3 h4
        go_enter_defers Tryz.func33, Tryz.ntmps33
        go_wp2_with (first | (go_at_call 78; refine (soundCommand_any c _ _ (unhide HC2)).mono ?_; rintro e w1 ⟨rfl, q1⟩; cases q1.symm) | (go_at_call 51; refine (lock_free muLib ⟨nb, 0, none⟩ _ c0 f0).mono ?_; rintro e w' ⟨rfl, rfl⟩) | (go_at_call 79; refine (isFull_any 1 nb s lv _ (unhide HN1) (unhide HL1)).mono ?_; rw [unhide HFU]; rintro e w1 ⟨rfl, q1⟩; cases q1.symm) | (go_at_call 80; refine (put_any 1 nb s lv c _ (unhide HN1) (unhide HL1) (unhide HSL) (unhide HC)).mono ?_; rintro e w5 ⟨rfl, lv5, hN5, hL5, hV5⟩; have hN6 : NB 1 w5 nb (s.puts c) lv5 := hN5; have hL6 : NL w5 (s.puts c) lv5 := hL5; have hF6 := hide hL6.form; replace hN6 := hide hN6; replace hL6 := hide hL6; replace hV5 := hide hV5; clear hN5 hL5) | (go_at_call 81; refine (last_any 1 nb (s.puts c) lv5 _ (unhide hN6) (unhide hF6)).mono ?_; rintro e w1 ⟨rfl, q1⟩; cases q1.symm) | (go_at_call 82; refine (spread_any 1 nb (s.puts c) lv5 _ (unhide hN6) (unhide hL6) (unhide HPO).len (unhide HPO).n7 (unhide HPO).id (unhide HOL) (unhide HPL)).mono ?_; intro e w6 hx6; obtain ⟨v6, l6, lv6, rfl, hx6⟩ := hx6; replace hx6 := hide hx6))
        have hx := unhide hx6
        refine leaves_cons (f := 52) (args := #[.pointer (some ⟨nb, 0, none⟩)]) (by simp) (by simp [go_sem]) ?_
        refine (unlock_deferred muLib ⟨nb, 0, none⟩ .returning _ hx.1.c0 (hx.1.free 0)).mono ?_
        rintro e u' w'' ⟨rfl, rfl, rfl⟩
        refine ⟨.tuple #[.int .i64 ((s.puts c).last : Int), v6, .int .i64 0], (by simp [results, Tryz.results33, go_sem]), ?_⟩
        rw [unhide HR, unhide HPS]
        have hE : Ew nb w6 (w6.setCell ⟨nb, 0, none⟩ (.int .i32 0)) := (Ew.refl nb w6).set 0 _
        have hV := (Ev.ofEw (unhide HE1)).trans (unhide hV5)
        exact ⟨v6, l6, lv6, rfl, hx.1.setMu 0, hx.2.1.ew hx.1 hE, (hx.2.2.1.base hV.size).ew hE (unhide HLT), (hV.trans hx.2.2.2.1).ew hE, hx.2.2.2.2⟩
    · have HR : Hid (s.propose c = (0, s, [], 4)) := by
        have : s.propErr c = 4 := by unfold Nd.propErr; rw [if_neg (by omega), if_pos h3]
        show _ = _
        unfold Nd.propose
        rw [this]; rfl
      have hrb : (s.role != 3) = true := by simpa using h3
      clear h1 h2
      go_enter_defers Tryz.func33, Tryz.ntmps33
      go_wp2_with (first | (go_at_call 78; refine (soundCommand_any c _ _ (unhide HC2)).mono ?_; rintro e w1 ⟨rfl, q1⟩; cases q1.symm) | (go_at_call 51; refine (lock_free muLib ⟨nb, 0, none⟩ _ c0 f0).mono ?_; rintro e w' ⟨rfl, rfl⟩))
      refine leaves_cons (f := 52) (args := #[.pointer (some ⟨nb, 0, none⟩)]) (by simp) (by simp [go_sem]) ?_
      refine (unlock_deferred muLib ⟨nb, 0, none⟩ .returning _ (unhide HN1).c0 ((unhide HN1).free 0)).mono ?_
      rintro e u' w'' ⟨rfl, rfl, rfl⟩
      refine ⟨.tuple #[.int .i64 0, .slice none 0 0, .int .i64 4], (by simp [results, Tryz.results33, go_sem]), ?_⟩
      rw [unhide HR]
      exact quiet_prop (unhide H) (unhide HL) ((unhide HE1).set 0 _) ((unhide HN1).setMu 0)

end Go.Proofs.YteiecbkfganhnaaGreat

namespace Go.Proofs.YteiecbkfganhnaaGreat

open Go.RowKit Go.MuLone

theorem cmds_60 {s : Nd} (h : Ok s) : s.cmds.length ≤ 60 := Nat.le_trans (Nat.le_trans (cmdsTo_len s.log s.commit) h.com) h.len

theorem refSaved_tw (rb : Nat) (s t : Nd) (v : RV) (w : World) (h : RB w rb t v []) (ht : Twin s t) (h60 : s.log.length ≤ 60) :
    Calls Tryz.prog 42 #[.pointer (some ⟨rb, 0, none⟩)] w fun e w' => ∃ u, e = .returned (.agg #[.int .i64 s.term, .int .i64 s.vote, u]) ∧ w'.ownsRow w.heap.size 66 2 u s.log.length (eC s.log) ∧ Below w.heap.size w w' := by
  obtain ⟨g, rfl, _⟩ := ht
  exact refSaved_any rb (rnOf (s.wh g) v) s.log w h.rn (ents_of_owns h.log) (by omega)

theorem refStatus_tw (rb : Nat) (s t : Nd) (v : RV) (w : World) (h : RB w rb t v []) (ht : Twin s t) :
    Calls Tryz.prog 46 #[.pointer (some ⟨rb, 0, none⟩)] w fun e w' => e = .returned (.agg #[.int .i64 s.role, .int .i64 s.term, .int .i64 s.leads, .int .i64 (s.commit : Int), .int .i64 (s.log.length : Int)]) ∧ Below w.heap.size w w' := by
  obtain ⟨g, rfl, _⟩ := ht
  obtain ⟨ao, cap, hv⟩ := owns_form h.log
  exact refStatus_any rb (rnOf (s.wh g) v) ao _ cap w h.rn hv

theorem refCommitted_tw (rb : Nat) (s t : Nd) (v : RV) (w : World) (h : RB w rb t v []) (ht : Twin s t) (hs : Ok s) :
    Calls Tryz.prog 48 #[.pointer (some ⟨rb, 0, none⟩)] w fun e w' => ∃ u, e = .returned u ∧ w'.ownsRow w.heap.size 9 1 u s.cmds.length (tC s.cmds) ∧ Below w.heap.size w w' := by
  obtain ⟨g, rfl, _⟩ := ht
  exact refCommitted_any rb (s.wh g) v [] w h hs.com hs.len

theorem bm_keptT2 {i gb : Nat} {w w' : World} {tg : Tags} {c0 c1 c2 c3 : Value} {b : BV} {l : List (List Ent)} {lm : List (List Msg)} {l2 l2' : List (List ByteArray)} {ne nm nt : Nat} (h : Bm i gb w tg c0 c1 c2 c3 b l lm l2 ne nm nt) (hk : KeptT i gb w tg c0 c1 c2 c3 b l2' w') :
    ∃ b' tg', Bm i gb w' tg' c0 c1 c2 c3 b' l lm l2' ne nm nt ∧ Stp (Abook i) w tg w' tg' ∧ Stp (fun T => T = tG i ∨ T = tWT i ∨ T = tRT i) w tg w' tg' := by
  obtain ⟨we, re, tg', hG, hg, hW, hs⟩ := hk
  have hs' : Stp (Abook i) w tg w' tg' := hs.mono (by rintro U (h | h | h) <;> subst h <;> exact ⟨by simp, by simp⟩)
  exact ⟨_, tg', ⟨hG, hg, h.E.step hs (by simp) (by simp) (by simp) (by simp), h.M.step hs (by simp) (by simp) (by simp) (by simp) (by simp), hW, h.ME.step hs (by simp) (by simp), h.MM.step hs (by simp) (by simp), h.MT.step hs (by simp) (by simp)⟩, hs', hs⟩

/-- Behind a look: two lists more of each wait. -/
def GLookX (i gb nb rb : Nat) (w : World) (tg : Tags) (id n : Nat) (s t : Nd) (lv : Value) (v : RV) (l : List (List Ent)) (lm : List (List Msg)) (l2 : List (List ByteArray)) (ne nm nt : Nat) (w' : World) : Prop :=
  ∃ b' tg', Gx i gb nb rb w' tg' id n s t lv v b' (l ++ [s.log] ++ [s.log]) lm (l2 ++ [s.cmds] ++ [s.cmds]) ne nm nt ∧ Stp (Abook i) w tg w' tg'

set_option maxRecDepth 100000 in
set_option maxHeartbeats 4000000 in
theorem glooksX (i gb nb rb : Nat) (w : World) (tg : Tags) (id n : Nat) (s t : Nd) (lv : Value) (v : RV) (b : BV) (l : List (List Ent)) (lm : List (List Msg)) (l2 : List (List ByteArray)) (ne nm nt : Nat)
    (h : Gx i gb nb rb w tg id n s t lv v b l lm l2 ne nm nt) (hi : i ≤ 1) (hp : Pair id n s t) (hl : l.length ≤ 1000) (hl2 : l2.length ≤ 1000) :
    Calls Tryz.prog 25 #[.pointer (some ⟨gb, 0, none⟩)] w fun e w' => e = .returned (.bool true) ∧ GLookX i gb nb rb w tg id n s t lv v l lm l2 ne nm nt w' := by
  have c2 := h.c2
  have c3 := h.c3
  have hes : s.log.length ≤ 60 := hp.ok.len
  have hcm : s.cmds.length ≤ 60 := cmds_60 hp.ok
  have HSZ : Hid (∀ e ∈ s.log, e.2.size ≤ 20) := okE_sizes hp.ok.log
  have HP := hide hp
  have G0 := hide h
  obtain ⟨lo, lc, hlog⟩ := h.L.form
  have HLOG := hide hlog
  obtain ⟨es, hesd⟩ : ∃ es, s.log = es := ⟨_, rfl⟩
  obtain ⟨cs, hcsd⟩ : ∃ cs, s.cmds = cs := ⟨_, rfl⟩
  have HES := hide hesd
  have HCS := hide hcsd
  rw [hesd] at hes HSZ HLOG
  rw [hcsd] at hcm
  clear h hp hlog hesd hcsd
  go_enter Tryz.func25, Tryz.ntmps25
  go_wp2_with fail
  refine (saved_any nb s lv es w (unhide G0).N (by rw [← unhide HES]; exact (unhide G0).L.ents) hes (unhide HSZ)).mono ?_
  rintro e w1 ⟨v1, rfl, ho1, hb1⟩
  obtain ⟨x1, y1, rfl⟩ := owns_form ho1
  have S1 : Stp (fun _ => False) w tg w1 (newTag w.heap.size tg (tLE i l.length)) := Stp.ofBelow hb1 tg _
  have V1 := Own.fresh tg (tLE i l.length) ho1
  have G1 := (unhide G0).quiet S1
  generalize newTag w.heap.size tg (tLE i l.length) = tg1 at *
  have A2 : Loc (w1.alloc (.cells #[.int .i64 s.term, .int .i64 s.vote, .slice x1 es.length y1] 24)) (newTag w1.heap.size tg1 (0, 1)) w1.heap.size #[.int .i64 s.term, .int .i64 s.vote, .slice x1 es.length y1] 24 := Loc.new _ _ _ _
  have S2 : Stp (fun _ => False) w1 tg1 (w1.alloc (.cells #[.int .i64 s.term, .int .i64 s.vote, .slice x1 es.length y1] 24)) (newTag w1.heap.size tg1 (0, 1)) := Stp.alloc w1 tg1 _ _
  have G2 := G1.quiet S2
  have V2 := hide (V1.step S2 (fun h => h))
  have c3 := G2.c3
  replace S2 := hide (S1.trans S2)
  replace A2 := hide A2
  replace G2 := hide G2
  clear ho1 hb1 c2 S1 V1 G1
  generalize newTag w1.heap.size tg1 (0, 1) = tg2 at *
  go_wp2_with fail
  generalize w1.alloc (.cells #[.int .i64 s.term, .int .i64 s.vote, .slice x1 es.length y1] 24) = W2 at *
  generalize w1.heap.size = A at *
  refine (refSaved_tw rb s t v W2 (unhide G2).R (unhide HP).tw (by rw [unhide HES]; exact hes)).mono ?_
  rw [unhide HES]
  rintro e w3 ⟨v3, rfl, ho3, hb3⟩
  obtain ⟨x3, y3, rfl⟩ := owns_form ho3
  have S3 : Stp (fun _ => False) W2 tg2 w3 (newTag W2.heap.size tg2 (0, 1)) := Stp.ofBelow hb3 tg2 _
  have U3 := Own.fresh tg2 (0, 1) ho3
  have G3 := (unhide G2).quiet S3
  have A3 := (unhide A2).step S3 (fun h => h)
  have V3 := (unhide V2).step S3 (fun h => h)
  generalize newTag W2.heap.size tg2 (0, 1) = tg3 at *
  have B4 : Loc (w3.alloc (.cells #[.int .i64 s.term, .int .i64 s.vote, .slice x3 es.length y3] 24)) (newTag w3.heap.size tg3 (0, 1)) w3.heap.size #[.int .i64 s.term, .int .i64 s.vote, .slice x3 es.length y3] 24 := Loc.new _ _ _ _
  have S4 : Stp (fun _ => False) w3 tg3 (w3.alloc (.cells #[.int .i64 s.term, .int .i64 s.vote, .slice x3 es.length y3] 24)) (newTag w3.heap.size tg3 (0, 1)) := Stp.alloc w3 tg3 _ _
  have G4 := hide (G3.quiet S4)
  have A4 := A3.step S4 (fun h => h)
  have V4 := hide (V3.step S4 (fun h => h))
  have U4 := hide (U3.step S4 (fun h => h))
  have a0 := A4.cell 0
  have a1 := A4.cell 1
  have a2 := A4.cell 2
  have b0 := B4.cell 0
  have b1 := B4.cell 1
  have b2 := B4.cell 2
  simp only [List.getElem?_toArray, List.getElem?_cons_zero, List.getElem?_cons_succ] at a0 a1 a2 b0 b1 b2
  replace S4 := hide (((unhide S2).trans S3).trans S4)
  replace A4 := hide A4
  replace B4 := hide B4
  clear ho3 hb3 S2 S3 G2 A2 V2 U3 G3 A3 V3 c3
  generalize newTag w3.heap.size tg3 (0, 1) = tg4 at *
  go_wp2_with fail
  generalize w3.alloc (.cells #[.int .i64 s.term, .int .i64 s.vote, .slice x3 es.length y3] 24) = W4 at *
  generalize w3.heap.size = Bb at *
  refine (sameSaved_eq s.term s.vote _ _ es W4 hes (ents_of_owns (unhide V4).1) (ents_of_owns (unhide U4).1)).mono ?_
  rintro e w5 ⟨rfl, hb5⟩
  have S5 : Stp (fun _ => False) W4 tg4 w5 (newTag W4.heap.size tg4 (0, 1)) := Stp.ofBelow hb5 tg4 _
  have S5d := S5.trans (Stp.drew1 _ w5 (newTag W4.heap.size tg4 (0, 1)))
  have G5 := hide ((unhide G4).quiet S5d)
  have A5' := (unhide A4).step S5 (fun h => h)
  have A5 := hide ((unhide A4).step S5d (fun h => h))
  have B5 := hide ((unhide B4).step S5d (fun h => h))
  have V5 := hide ((unhide V4).step S5d (fun h => h))
  have U5 := hide ((unhide U4).step S5d (fun h => h))
  have a2' : w5.cell? ⟨A, 2, none⟩ = some (.slice x1 es.length y1) := A5'.cell 2
  replace S5 := hide ((unhide S4).trans S5d)
  clear hb5 S4 S5d G4 A4 B4 V4 U4 A5' a0 a1 a2 b0 b1 b2
  generalize newTag W4.heap.size tg4 (0, 1) = tg5 at *
  go_wp2_with fail
  go_region_held3 (fun w' => w'.cell? ⟨A, 2, none⟩ = some (.slice x1 es.length y1)) (first | go_keep | exact a6) (first | (go_at_call 44; refine (keepEntries_any i gb w5.drew tg5 _ _ _ _ b l _ es (unhide G5).B.G (unhide G5).B.g (unhide G5).B.E (unhide V5) (by omega) (by omega)).mono ?_; rintro e w6 ⟨rfl, hk6⟩; obtain ⟨b6, tg6, hB6, hS6⟩ := bm_keptE (unhide G5).B hk6; have a6 : w6.cell? ⟨A, 2, none⟩ = some (.slice x1 es.length y1) := ((unhide A5).step hS6 (by simp [Abook])).cell 2; replace hB6 := hide hB6; replace hS6 := hide hS6; clear hk6))
  have G6 := hide ((unhide G5).book (unhide hS6) (fun k => not_book i k hi) (unhide hB6))
  have B6 := hide ((unhide B5).step (unhide hS6) (book0 i 1))
  have U6 := hide ((unhide U5).step (unhide hS6) (book0 i 1))
  have S6 := hide (((unhide S5).mono (B := Abook i) (fun _ h => h.elim)).trans (unhide hS6))
  have c2 := (unhide G6).c2
  have hlen1 : (l ++ [es]).length ≤ 1001 := by simp; omega
  clear hB6 hS6 a6 a2' G5 A5 B5 V5 U5 S5 c3
  go_wp2_with fail
  refine (saved_any nb s lv es w6 (unhide G6).N (by rw [← unhide HES]; exact (unhide G6).L.ents) hes (unhide HSZ)).mono ?_
  rintro e w7 ⟨v7, rfl, ho7, hb7⟩
  obtain ⟨x7, y7, rfl⟩ := owns_form ho7
  have S7 : Stp (fun _ => False) w6 tg6 w7 (newTag w6.heap.size tg6 (tLE i (l ++ [es]).length)) := Stp.ofBelow hb7 tg6 _
  have V7 := Own.fresh tg6 (tLE i (l ++ [es]).length) ho7
  have G7 := (unhide G6).quiet S7
  have B7 := (unhide B6).step S7 (fun h => h)
  have U7 := (unhide U6).step S7 (fun h => h)
  generalize newTag w6.heap.size tg6 (tLE i (l ++ [es]).length) = tg7 at *
  have A8 : Loc (w7.alloc (.cells #[.int .i64 s.term, .int .i64 s.vote, .slice x7 es.length y7] 24)) (newTag w7.heap.size tg7 (0, 1)) w7.heap.size #[.int .i64 s.term, .int .i64 s.vote, .slice x7 es.length y7] 24 := Loc.new _ _ _ _
  have S8 : Stp (fun _ => False) w7 tg7 (w7.alloc (.cells #[.int .i64 s.term, .int .i64 s.vote, .slice x7 es.length y7] 24)) (newTag w7.heap.size tg7 (0, 1)) := Stp.alloc w7 tg7 _ _
  have G8 := hide (G7.quiet S8)
  have V8 := hide (V7.step S8 (fun h => h))
  have U8 := hide (U7.step S8 (fun h => h))
  have B8 := B7.step S8 (fun h => h)
  have a0 := A8.cell 0
  have a1 := A8.cell 1
  have a2 := A8.cell 2
  have b0 := B8.cell 0
  have b1 := B8.cell 1
  have b2 := B8.cell 2
  simp only [List.getElem?_toArray, List.getElem?_cons_zero, List.getElem?_cons_succ] at a0 a1 a2 b0 b1 b2
  replace S8 := hide ((unhide S6).trans ((S7.trans S8).mono (B := Abook i) (fun _ h => h.elim)))
  replace A8 := hide A8
  replace B8 := hide B8
  clear ho7 hb7 S6 S7 V7 G7 B7 U7 G6 B6 U6 c2
  generalize newTag w7.heap.size tg7 (0, 1) = tg8 at *
  go_wp2_with fail
  generalize w7.alloc (.cells #[.int .i64 s.term, .int .i64 s.vote, .slice x7 es.length y7] 24) = W8 at *
  generalize w7.heap.size = Cc at *
  refine (sameSaved_eq s.term s.vote _ _ es W8 hes (ents_of_owns (unhide V8).1) (ents_of_owns (unhide U8).1)).mono ?_
  rintro e w9 ⟨rfl, hb9⟩
  have S9 : Stp (fun _ => False) W8 tg8 w9 (newTag W8.heap.size tg8 (0, 1)) := Stp.ofBelow hb9 tg8 _
  have S9d := S9.trans (Stp.drew1 _ w9 (newTag W8.heap.size tg8 (0, 1)))
  have G9 := hide ((unhide G8).quiet S9d)
  have A9' := (unhide A8).step S9 (fun h => h)
  have A9 := hide ((unhide A8).step S9d (fun h => h))
  have V9 := hide ((unhide V8).step S9d (fun h => h))
  have a2' : w9.cell? ⟨Cc, 2, none⟩ = some (.slice x7 es.length y7) := A9'.cell 2
  replace S9 := hide ((unhide S8).trans (S9d.mono (B := Abook i) (fun _ h => h.elim)))
  clear hb9 S8 S9d G8 A8 B8 V8 U8 A9' a0 a1 a2 b0 b1 b2
  generalize newTag W8.heap.size tg8 (0, 1) = tg9 at *
  go_wp2_with fail
  go_region_held3 (fun w' => w'.cell? ⟨Cc, 2, none⟩ = some (.slice x7 es.length y7)) (first | go_keep | exact a10) (first | (go_at_call 44; refine (keepEntries_any i gb w9.drew tg9 _ _ _ _ b6 (l ++ [es]) _ es (unhide G9).B.G (unhide G9).B.g (unhide G9).B.E (unhide V9) (by omega) (by omega)).mono ?_; rintro e w10 ⟨rfl, hk10⟩; obtain ⟨b10, tg10, hB10, hS10⟩ := bm_keptE (unhide G9).B hk10; have a10 : w10.cell? ⟨Cc, 2, none⟩ = some (.slice x7 es.length y7) := ((unhide A9).step hS10 (book0 i 1)).cell 2; replace hB10 := hide hB10; replace hS10 := hide hS10; clear hk10))
  have G10 := hide ((unhide G9).book (unhide hS10) (fun k => not_book i k hi) (unhide hB10))
  have S10 := hide ((unhide S9).trans (unhide hS10))
  have c2 := (unhide G10).c2
  clear hB10 hS10 a10 a2' G9 A9 V9 S9
  go_wp2_with fail
  refine (status_any nb s lv lo es.length lc w10 (unhide G10).N (unhide HLOG)).mono ?_
  rintro e w11 ⟨rfl, hb11⟩
  have S11 : Stp (fun _ => False) w10 tg10 w11 (newTag w10.heap.size tg10 (0, 1)) := Stp.ofBelow hb11 tg10 _
  have S12 : Stp (fun _ => False) w11 (newTag w10.heap.size tg10 (0, 1)) (w11.alloc (.cells #[.int .i64 s.role, .int .i64 s.term, .int .i64 s.leads, .int .i64 (s.commit : Int), .int .i64 (es.length : Int)] 97)) (newTag w11.heap.size (newTag w10.heap.size tg10 (0, 1)) (0, 1)) := Stp.alloc _ _ _ _
  have D12 : Loc (w11.alloc (.cells #[.int .i64 s.role, .int .i64 s.term, .int .i64 s.leads, .int .i64 (s.commit : Int), .int .i64 (es.length : Int)] 97)) (newTag w11.heap.size (newTag w10.heap.size tg10 (0, 1)) (0, 1)) w11.heap.size #[.int .i64 s.role, .int .i64 s.term, .int .i64 s.leads, .int .i64 (s.commit : Int), .int .i64 (es.length : Int)] 97 := Loc.new _ _ _ _
  have G12 := ((unhide G10).quiet S11).quiet S12
  have c3 := G12.c3
  replace S12 := hide ((unhide S10).trans ((S11.trans S12).mono (B := Abook i) (fun _ h => h.elim)))
  replace D12 := hide D12
  replace G12 := hide G12
  clear hb11 S11 S10 G10 c2
  generalize newTag w11.heap.size (newTag w10.heap.size tg10 (0, 1)) (0, 1) = tg12 at *
  go_wp2_with fail
  generalize w11.alloc (.cells #[.int .i64 s.role, .int .i64 s.term, .int .i64 s.leads, .int .i64 (s.commit : Int), .int .i64 (es.length : Int)] 97) = W12 at *
  generalize w11.heap.size = Dd at *
  refine (refStatus_tw rb s t v W12 (unhide G12).R (unhide HP).tw).mono ?_
  rw [unhide HES]
  rintro e w13 ⟨rfl, hb13⟩
  have S13 : Stp (fun _ => False) W12 tg12 w13 (newTag W12.heap.size tg12 (0, 1)) := Stp.ofBelow hb13 tg12 _
  have S14 : Stp (fun _ => False) w13 (newTag W12.heap.size tg12 (0, 1)) (w13.alloc (.cells #[.int .i64 s.role, .int .i64 s.term, .int .i64 s.leads, .int .i64 (s.commit : Int), .int .i64 (es.length : Int)] 97)) (newTag w13.heap.size (newTag W12.heap.size tg12 (0, 1)) (0, 1)) := Stp.alloc _ _ _ _
  have E14 : Loc (w13.alloc (.cells #[.int .i64 s.role, .int .i64 s.term, .int .i64 s.leads, .int .i64 (s.commit : Int), .int .i64 (es.length : Int)] 97)) (newTag w13.heap.size (newTag W12.heap.size tg12 (0, 1)) (0, 1)) w13.heap.size #[.int .i64 s.role, .int .i64 s.term, .int .i64 s.leads, .int .i64 (s.commit : Int), .int .i64 (es.length : Int)] 97 := Loc.new _ _ _ _
  have G14 := ((unhide G12).quiet S13).quiet S14
  have D14 := hide (((unhide D12).step S13 (fun h => h)).step S14 (fun h => h))
  have c2 := G14.c2
  replace S14 := hide ((unhide S12).trans ((S13.trans S14).mono (B := Abook i) (fun _ h => h.elim)))
  replace E14 := hide E14
  replace G14 := hide G14
  clear hb13 S13 S12 G12 D12 c3
  generalize newTag w13.heap.size (newTag W12.heap.size tg12 (0, 1)) (0, 1) = tg14 at *
  go_wp2_with fail
  generalize w13.alloc (.cells #[.int .i64 s.role, .int .i64 s.term, .int .i64 s.leads, .int .i64 (s.commit : Int), .int .i64 (es.length : Int)] 97) = W14 at *
  generalize w13.heap.size = Ee at *
  refine (committed_any nb s lv W14 (unhide G14).N (unhide G14).L (unhide HP).ok.com (unhide HP).ok.len).mono ?_
  rw [unhide HCS]
  rintro e w15 ⟨v15, rfl, ho15, hb15⟩
  obtain ⟨x15, y15, rfl⟩ := owns_form ho15
  have S15 : Stp (fun _ => False) W14 tg14 w15 (newTag W14.heap.size tg14 (tLT i l2.length)) := Stp.ofBelow hb15 tg14 _
  have T15 := hide (Own.fresh tg14 (tLT i l2.length) ho15)
  have G15 := (unhide G14).quiet S15
  have c2' := G15.c2
  replace G15 := hide G15
  have D15 := hide ((unhide D14).step S15 (fun h => h))
  have E15 := hide ((unhide E14).step S15 (fun h => h))
  replace S15 := hide ((unhide S14).trans (S15.mono (B := Abook i) (fun _ h => h.elim)))
  clear hb15 ho15 S14 G14 D14 E14 c2
  generalize newTag W14.heap.size tg14 (tLT i l2.length) = tg15 at *
  go_wp2_with fail
  refine (committed_any nb s lv w15 (unhide G15).N (unhide G15).L (unhide HP).ok.com (unhide HP).ok.len).mono ?_
  rw [unhide HCS]
  rintro e w16 ⟨v16, rfl, ho16, hb16⟩
  obtain ⟨x16, y16, rfl⟩ := owns_form ho16
  have S16 : Stp (fun _ => False) w15 tg15 w16 (newTag w15.heap.size tg15 (tLT i (l2.length + 1))) := Stp.ofBelow hb16 tg15 _
  have G16 := (unhide G15).quiet S16
  have c3 := G16.c3
  replace G16 := hide G16
  have K16 := hide (Own.fresh tg15 (tLT i (l2.length + 1)) ho16)
  have T16 := hide ((unhide T15).step S16 (fun h => h))
  have D16 := hide ((unhide D15).step S16 (fun h => h))
  have E16 := hide ((unhide E15).step S16 (fun h => h))
  replace S16 := hide ((unhide S15).trans (S16.mono (B := Abook i) (fun _ h => h.elim)))
  clear hb16 ho16 S15 G15 D15 E15 T15 c2'
  generalize newTag w15.heap.size tg15 (tLT i (l2.length + 1)) = tg16 at *
  go_wp2_with fail
  refine (refCommitted_tw rb s t v w16 (unhide G16).R (unhide HP).tw (unhide HP).ok).mono ?_
  rw [unhide HCS]
  rintro e w17 ⟨v17, rfl, ho17, hb17⟩
  obtain ⟨x17, y17, rfl⟩ := owns_form ho17
  have S17 : Stp (fun _ => False) w16 tg16 w17 (newTag w16.heap.size tg16 (0, 1)) := Stp.ofBelow hb17 tg16 _
  have M17 := hide (texts_of_owns ho17)
  have G17 := hide ((unhide G16).quiet S17)
  have K17 := hide ((unhide K16).step S17 (fun h => h))
  have T17 := hide ((unhide T16).step S17 (fun h => h))
  have D17 := hide ((unhide D16).step S17 (fun h => h))
  have E17 := hide ((unhide E16).step S17 (fun h => h))
  replace S17 := hide ((unhide S16).trans (S17.mono (B := Abook i) (fun _ h => h.elim)))
  clear hb17 ho17 S16 G16 D16 E16 T16 K16 c3
  generalize newTag w16.heap.size tg16 (0, 1) = tg17 at *
  go_wp2_with fail
  refine (sameTexts_eq _ _ cs w17 (by omega) (texts_of_owns (unhide T17).1) (unhide M17)).mono ?_
  rintro e w18 ⟨rfl, m18, hw18⟩
  have S18 : Stp (fun _ => False) w17 tg17 w18 tg17 := by rw [hw18]; exact (Stp.refl _ _ _).drewN m18
  have K18 := hide ((unhide K17).step S18 (fun h => h))
  have M18 : Hid (TextsIn w18 (.slice x17 cs.length y17) cs) := by show TextsIn _ _ _; rw [hw18]; exact texts_drewN (unhide M17) m18
  clear hw18
  go_wp2_with fail
  refine (sameTexts_eq _ _ cs w18 (by omega) (texts_of_owns (unhide K18).1) (unhide M18)).mono ?_
  rintro e w19 ⟨rfl, m19, hw19⟩
  have S19 : Stp (fun _ => False) w18 tg17 w19 tg17 := by rw [hw19]; exact (Stp.refl _ _ _).drewN m19
  clear hw19
  have G19 := hide (((unhide G17).quiet S18).quiet S19)
  have K19 := hide ((unhide K18).step S19 (fun h => h))
  have T19 := hide (((unhide T17).step S18 (fun h => h)).step S19 (fun h => h))
  have D19 := hide (((unhide D17).step S18 (fun h => h)).step S19 (fun h => h))
  have E19 := hide (((unhide E17).step S18 (fun h => h)).step S19 (fun h => h))
  replace S19 := hide ((unhide S17).trans ((S18.trans S19).mono (B := Abook i) (fun _ h => h.elim)))
  clear S18 S17 G17 D17 E17 K17 K18 T17 M17 M18
  go_wp2_with fail
  refine (keepTexts_any i gb w19 tg17 _ _ _ _ b10 l2 _ cs (unhide G19).B.G (unhide G19).B.g (unhide G19).B.T (unhide T19) (by omega) (by omega)).mono ?_
  rintro e w20 ⟨rfl, hk20⟩
  obtain ⟨b20, tg20, hB20, hS20, hS20'⟩ := bm_keptT2 (unhide G19).B hk20
  have hlen2 : (l2 ++ [cs]).length = l2.length + 1 := by simp
  have G20 := hide ((unhide G19).book hS20 (fun k => not_book i k hi) hB20)
  have D20 := hide ((unhide D19).step hS20 (book0 i 1))
  have E20 := hide ((unhide E19).step hS20 (book0 i 1))
  have K20 : Hid (Own w20 tg20 (tLT i (l2 ++ [cs]).length) 9 1 (.slice x16 cs.length y16) cs.length (tC cs)) := by show Own _ _ _ _ _ _ _ _; rw [hlen2]; exact (unhide K19).step hS20' (by simp)
  have S20 := hide ((unhide S19).trans hS20)
  clear hk20 hB20 hS20 hS20' S19 G19 D19 E19 T19 K19
  go_wp2_with fail
  refine (keepTexts_any i gb w20 tg20 _ _ _ _ b20 (l2 ++ [cs]) _ cs (unhide G20).B.G (unhide G20).B.g (unhide G20).B.T (unhide K20) (by omega) (by omega)).mono ?_
  rintro e w21 ⟨rfl, hk21⟩
  obtain ⟨b21, tg21, hB21, hS21⟩ := bm_keptT (unhide G20).B hk21
  have G21 := hide ((unhide G20).book hS21 (fun k => not_book i k hi) hB21)
  have D21 := (unhide D20).step hS21 (book0 i 1)
  have E21 := (unhide E20).step hS21 (book0 i 1)
  have S21 := hide ((unhide S20).trans hS21)
  have d0 := D21.cell 0
  have d1 := D21.cell 1
  have d2 := D21.cell 2
  have d3 := D21.cell 3
  have d4 := D21.cell 4
  have e0 := E21.cell 0
  have e1 := E21.cell 1
  have e2 := E21.cell 2
  have e3 := E21.cell 3
  have e4 := E21.cell 4
  simp only [List.getElem?_toArray, List.getElem?_cons_zero, List.getElem?_cons_succ] at d0 d1 d2 d3 d4 e0 e1 e2 e3 e4
  have hq := eql_status
  clear hk21 hB21 hS21 S20 G20 D20 E20 D21 E21
  go_wp2
  go_ret
  exact ⟨rfl, b21, tg21, by rw [unhide HES, unhide HCS]; exact unhide G21, unhide S21⟩

section

variable (i gb nb rb : Nat) (w : World) (tg : Tags) (id n : Nat) (s t : Nd) (lv : Value) (v : RV) (b : BV) (l : List (List Ent)) (lm : List (List Msg)) (l2 : List (List ByteArray)) (ne nm nt K : Nat)

set_option maxRecDepth 100000 in
set_option maxHeartbeats 1000000 in
theorem gstep_look (a q x : Int) (m : Msg) (ev : Value) (c : ByteArray) (E : Int) (h : Gx i gb nb rb w tg id n s t lv v b l lm l2 ne nm nt) (hi : i ≤ 1) (hp : Pair id n s t) (hb : (l.length ≤ 7 ∧ lm.length ≤ 7 ∧ l2.length ≤ 7) ∧ ne ≤ K ∧ nm ≤ K ∧ nt ≤ K) (hE : s.elapsed ≤ E) (hev : ∃ ao n c, ev = .slice ao n c) :
    Calls Tryz.prog 18 #[.pointer (some ⟨gb, 0, none⟩), stepA 1 a q m ev c x] w fun e w' => e = .returned (.bool true) ∧ GDone i gb w tg id n K E w' := by
  obtain ⟨eo, en, ec, rfl⟩ := hev
  have S1 : Stp (fun _ => False) w tg (w.alloc (stepB 1 a q m (.slice eo en ec) c x)) (newTag w.heap.size tg (0, 1)) := Stp.alloc w tg _ _
  have G1 := hide (h.quiet S1)
  replace S1 := hide S1
  have HP := hide hp
  have HB := hide hb
  clear h hp hb
  generalize newTag w.heap.size tg (0, 1) = tg1 at *
  go_enter Tryz.func18, Tryz.ntmps18
  go_wp2_with (go_at_call 25; fail)
  generalize w.alloc (stepB 1 a q m (.slice eo en ec) c x) = W1 at *
  refine (glooksX i gb nb rb W1 tg1 id n s t lv v b l lm l2 ne nm nt (unhide G1) hi (unhide HP) (by have := (unhide HB).1.1; omega) (by have := (unhide HB).1.2.2; omega)).mono ?_
  rintro e w2 ⟨rfl, b2, tg2, hG2, hS2⟩
  have G2 := hide hG2
  have S2 := hide (((unhide S1).mono (B := Agame i) (fun _ h => h.elim)).trans (hS2.mono agame_b))
  clear hG2 hS2 G1 S1
  go_wp2
  go_ret
  have hB := unhide HB
  exact ⟨rfl, tg2, s, t, ⟨nb, rb, lv, v, b2, _, lm, _, ne, nm, nt, unhide G2, ⟨by simp; omega, by omega, by simp; omega⟩, hB.2⟩, unhide HP, by omega, unhide S2⟩

set_option maxRecDepth 100000 in
set_option maxHeartbeats 1000000 in
theorem gends_any (h : Gx i gb nb rb w tg id n s t lv v b l lm l2 ne nm nt) (hi : i ≤ 1) (hp : Pair id n s t) (hb : (l.length ≤ 7 ∧ lm.length ≤ 7 ∧ l2.length ≤ 7) ∧ ne ≤ K ∧ nm ≤ K ∧ nt ≤ K) (hK : K ≤ 800000000) :
    Calls Tryz.prog 20 #[.pointer (some ⟨gb, 0, none⟩)] w fun e w' => e = .returned (.bool true) ∧ ∃ b' tg' ne' nm' nt', Gx i gb nb rb w' tg' id n s t lv v b' [] [] [] ne' nm' nt' ∧ (ne' ≤ K + 100 ∧ nm' ≤ K + 100 ∧ nt' ≤ K + 100) ∧ Stp (Agame i) w tg w' tg' := by
  have G1 := hide h
  have HP := hide hp
  have HB := hide hb
  clear h hp hb
  go_enter Tryz.func20, Tryz.ntmps20
  go_wp2_with (go_at_call 25; fail)
  refine (glooksX i gb nb rb w tg id n s t lv v b l lm l2 ne nm nt (unhide G1) hi (unhide HP) (by have := (unhide HB).1.1; omega) (by have := (unhide HB).1.2.2; omega)).mono ?_
  rintro e w2 ⟨rfl, b2, tg2, hG2, hS2⟩
  have G2 := hide hG2
  have S2 := hide (hS2.mono agame_b)
  clear hG2 hS2 G1
  have hB := unhide HB
  have hl1 : (l ++ [s.log] ++ [s.log]).length ≤ 9 := by simp; omega
  have hl3 : (l2 ++ [s.cmds] ++ [s.cmds]).length ≤ 9 := by simp; omega
  clear hB
  go_wp2_with (go_at_call 36; fail)
  refine (settles_all i gb w2 tg2 _ _ _ _ b2 _ lm _ ne nm nt (unhide G2).B (by omega) (by have := (unhide HB).1.2.1; omega) (by omega) (by have := (unhide HB).2; omega) (by have := (unhide HB).2; omega) (by have := (unhide HB).2; omega)).mono ?_
  rintro e w3 ⟨rfl, b3, tg3, ne3, hne3, hB3, hS3⟩
  have G3 := hide ((unhide G2).book hS3 (fun k => not_book i k hi) hB3)
  have S3 := hide ((unhide S2).trans (hS3.mono agame_b))
  clear hB3 hS3 G2 S2
  go_wp2
  go_ret
  have hB := unhide HB
  exact ⟨rfl, b3, tg3, ne3, _, _, unhide G3, ⟨by omega, by omega, by omega⟩, unhide S3⟩

end

end Go.Proofs.YteiecbkfganhnaaGreat
