/- Lists that are handed in, with their spare room. -/
import Derived.Test.YteiecbkfganhnaaGreatGrow
import Derived.Test.YteiecbkfganhnaaGreatLeaf
import Derived.Deep.RegionHeld3
import Derived.Test.YteiecbkfganhnaaGreatCopy
namespace Go.Proofs.YteiecbkfganhnaaGreat
open Go.RowKit

theorem run_copy_wide {P : Program} (w : World) (dT sT ty elem : TypeId) (i : TypeInfo) (size g dLen dCap : Nat) (sv : Value) (m : Nat) (cur : Array Value) (t : TypeId) (cs : List Value)
    (hu : P.underlying dT = some (.slice elem)) (hi : P.info? elem = some i) (hsize : i.size = size) (hg : w.heap[g]? = some (.cells cur t (0, 0))) (hl : cs.length = m * size) (hsrc : Src w sv m cs) (hm : m ≤ dLen)
    (hfit : cs.length ≤ cur.size) (h1 : ∀ v ∈ cs, v.oneCell' = true) :
    ∃ w', (Builtin.copy_ #[dT, sT] ty #[.slice (some ⟨g, 0, none⟩) dLen dCap, sv]).run P w = .ok (goInt m) w' ∧ w'.heap[g]? = some (.cells (cs ++ cur.toList.drop cs.length).toArray t (0, 0)) ∧ w.grownBy w' (some g) := by
  subst hsize
  rcases hsrc with ⟨rfl, rfl, rfl⟩ | ⟨ad, c, rfl, hnews⟩
  · refine ⟨w, ?_, by simpa using hg, ⟨rfl, rfl, rfl, Nat.le_refl _, fun _ _ _ => rfl⟩⟩
    simp [Builtin.copy_, run_underlying hu, Builtin.lenOf, Builtin.firstCells, sizeOf, typeInfo, hi, storeCells]
  · have hf := run_firstCells_some (P := P) w i.size m ad m c cs hl hnews
    have hst := run_storeCells_at P g 0 t cs 0 cur w hg (by simpa using hfit) h1
    refine ⟨_, ?_, setRow_heap w g cur _ t _ hg, ⟨rfl, rfl, rfl, by simp, fun k _ hk => setRow_other w g k _ (fun e => hk (by rw [e]))⟩⟩
    simp at hst
    simp [Builtin.copy_, run_underlying hu, Builtin.lenOf, sizeOf, typeInfo, hi, Nat.min_eq_left hm, hf, hst]

theorem wpList_copy_wide {P : Program} {w : World} {ops : Array Oper} {rest : List Oper} {o : Oper} {a : Act} {Q : Exit → Act → World → Prop} (hgd : o.guard = none) (d s : Operand) (dT sT : TypeId)
    (ho : o.op = .call { callee := .builtin .copy, args := #[d, s], argTypes := #[dT, sT] }) (elem : TypeId) (i : TypeInfo) (size g dLen dCap : Nat) (sv : Value) (m : Nat) (cur : Array Value) (t : TypeId) (cs : List Value)
    (hd : a.eval d = .slice (some ⟨g, 0, none⟩) dLen dCap) (hs : a.eval s = sv)
    (hu : P.underlying dT = some (.slice elem)) (hi : P.info? elem = some i) (hsize : i.size = size) (hg : w.heap[g]? = some (.cells cur t (0, 0))) (hl : cs.length = m * size) (hsrc : Src w sv m cs) (hm : m ≤ dLen)
    (hfit : cs.length ≤ cur.size) (h1 : ∀ v ∈ cs, v.oneCell' = true)
    (h : ∀ w', w'.heap[g]? = some (.cells (cs ++ cur.toList.drop cs.length).toArray t (0, 0)) → w.grownBy w' (some g) → wpList P ops Q rest (a.put o.dst (goInt m)) w') : wpList P ops Q (o :: rest) a w := by
  refine wpList_plain hgd fun K hK => ?_
  obtain ⟨w', hr, h2, h3⟩ := run_copy_wide (P := P) w dT sT o.type elem i size g dLen dCap sv m cur t cs hu hi hsize hg hl hsrc hm hfit h1
  unfold Oper.wp
  simp [execOp, ho, resolve, invoke, builtin, hd, hs, hr, Result.andThen]
  exact hK _ _ (h w' h2 h3)

/-- The mark of a spare place. -/
abbrev spareE : Ent := (-5, ⟨#[33]⟩)
abbrev blotE : Ent := (1, ⟨#[98, 108, 111, 116]⟩)

theorem eC_drop (es : List Ent) (k : Nat) : (eC es).drop (k * 2) = eC (es.drop k) := by
  induction k generalizing es with
  | zero => simp
  | succ k ih =>
    match es with
    | [] => simp [eC]
    | e :: es => rw [show (k + 1) * 2 = k * 2 + 1 + 1 by omega, eC_cons]; simpa using ih es

/-- A row that is known whole. -/
def RowE (w : World) (g n : Nat) (es : List Ent) : Prop := Own w (fun _ => (0, 0)) (0, 0) 66 2 (.slice (some ⟨g, 0, none⟩) n n) n (eC es)

theorem rowE_of {w : World} {g n : Nat} {cur : Array Value} {es : List Ent} (h : w.heap[g]? = some (.cells cur 66 (0, 0))) (hc : cur.toList = eC es) (hn : es.length = n) (hm : n ≤ maxLen) : RowE w g n es :=
  ⟨⟨by rw [eC_length, hn], .inr ⟨g, n, cur, rfl, Nat.zero_le _, h, Nat.le_refl _, hm, by rw [← Array.length_toList, hc, eC_length, hn], by rw [hc, List.take_of_length_le (by rw [eC_length, hn]; exact Nat.le_refl _)]⟩⟩, fun _ _ => rfl⟩

theorem own_whole {w : World} {base e size n g : Nat} {xs : List Value} (h : w.ownsRow base e size (.slice (some ⟨g, 0, none⟩) n n) n xs) : ∃ cur, w.heap[g]? = some (.cells cur e (0, 0)) ∧ cur.toList = xs := by
  rcases h.2 with ⟨hv, _⟩ | ⟨g', cap', cur, hv, hg, hh, h1, h2, h3, h4⟩
  · simp at hv
  · simp only [Value.slice.injEq, Option.some.injEq, Addr.mk.injEq, and_true, true_and] at hv
    obtain ⟨rfl, rfl⟩ := hv
    refine ⟨cur, hh, ?_⟩
    rw [← h4, List.take_of_length_le (by rw [Array.length_toList, h3]; exact Nat.le_refl _)]

theorem src_below {w w' : World} {sv : Value} {m : Nat} {xs : List Value} (h : Src w sv m xs) (hb : Below w.heap.size w w') : Src w' sv m xs := by
  rcases h with h | ⟨ad, c, rfl, hn⟩
  · exact .inl h
  · exact .inr ⟨ad, c, rfl, fun j u hj => (hb.cell (block_lt_of_cell (hn j u hj))).trans (hn j u hj)⟩

theorem hand_set (es : List Ent) (n k : Nat) (hn : n = es.length) (h1 : n ≤ k) (h2 : k < n + 8) :
    (es ++ List.replicate (k - n) spareE ++ List.replicate (n + 8 - k) ((0, ⟨#[]⟩) : Ent)).set k spareE = es ++ List.replicate (k + 1 - n) spareE ++ List.replicate (n + 8 - (k + 1)) ((0, ⟨#[]⟩) : Ent) := by
  have hl : (es ++ List.replicate (k - n) spareE).length = k := by simp; omega
  rw [List.set_append_right _ _ (by omega), hl, Nat.sub_self, show n + 8 - k = (n + 8 - (k + 1)) + 1 by omega, List.replicate_succ, List.set_cons_zero, show k + 1 - n = (k - n) + 1 by omega, List.replicate_succ']
  simp

set_option maxRecDepth 100000 in
set_option maxHeartbeats 2000000 in
theorem handed_any (v : Value) (es : List Ent) (w : World) (hn : es.length * 24 ≤ 140737488351232) (h : EntsIn w v es) :
    Calls Tryz.prog 14 #[v] w fun e w' => e = .returned (.slice (some ⟨w.heap.size, 0, none⟩) es.length (es.length + 8)) ∧ RowE w' w.heap.size (es.length + 8) (es ++ List.replicate 8 spareE) ∧ Below w.heap.size w w' := by
  have HSRC := hide (src_of_ents h)
  obtain ⟨ao, cap, rfl, hl1, ha⟩ := h
  clear hl1 ha
  obtain ⟨i0, hi, hz0, hz1, hz2⟩ := info_parts infoEntry
  obtain ⟨n, hnn⟩ : ∃ n, n = es.length := ⟨_, rfl⟩
  rw [← hnn] at hn ⊢
  have HN := hide hnn
  have HSRC' : Hid (Src w (.slice ao n cap) n (eC es)) := by rw [hnn]; exact HSRC
  clear HSRC hnn
  go_enter Tryz.func14, Tryz.ntmps14
  go_wp2_with (at_make; go_must (refine wpList_make_full _ rfl (.tmp 9) (.tmp 9) 22 rfl w.heap.size 66 i0 _ 2 Tryz.underlying22 hi hz0 hz1 .i64 .i64 ((n : Int) + 8) ((n : Int) + 8) (n + 8) rfl rfl (by omega) (by omega) (by rw [hz2]; omega) (by unfold maxLen; omega) (Nat.le_refl _) ?_))
  intro w1 hown1 hgrow1
  rw [made_eC] at hown1
  have hb1 : Below w.heap.size w w1 := (Below.refl _ _).grown hgrow1 (Nat.le_refl _) (by intro k hk; simp at hk)
  obtain ⟨cur, hcur, hcl⟩ := own_whole hown1
  have HB1 := hide hb1
  have HS1 := hide (src_below (unhide HSRC') hb1)
  have hcs : cur.size = (n + 8) * 2 := by rw [← Array.length_toList, hcl, eC_length, List.length_replicate]
  have hesl : (eC es).length = n * 2 := by rw [eC_length, ← unhide HN]
  have HESL := hide hesl
  have HCS := hide hcs
  have HCL := hide hcl
  have HCUR := hide hcur
  clear hown1 hgrow1 hb1 hcur hcl hcs hesl
  go_wp2_with (refine wpList_copy_wide rfl (.tmp 11) (.tmp 12) 22 22 rfl 66 i0 2 w.heap.size (n + 8) (n + 8) _ n cur 66 (eC es) rfl rfl Tryz.underlying22 hi hz1 (unhide HCUR) (unhide HESL) (unhide HS1) (by omega) (by rw [unhide HESL, unhide HCS]; omega) (eC_one es) ?_)
  intro w2 hcur2 hgrow2
  have hR2 : RowE w2 w.heap.size (n + 8) (es ++ List.replicate 8 (0, ⟨#[]⟩)) := by
    refine rowE_of hcur2 ?_ (by simp [← unhide HN]) (by unfold maxLen; omega)
    rw [List.toList_toArray, unhide HCL, unhide HESL, eC_drop, eC_append, List.drop_replicate]
    simp
  have hb2 : Below w.heap.size w w2 := (unhide HB1).grown hgrow2 (unhide HB1).size (by intro k hk; simp at hk; omega)
  have HR2 := hide hR2
  have HB2 := hide hb2
  clear hcur2 hgrow2 hR2 hb2 HCUR HCL HCS HESL HS1 HB1
  go_wp2
  obtain ⟨ob, hob⟩ : ∃ ob, ob = w.heap.size := ⟨_, rfl⟩
  rw [← hob] at HR2 HB2 ⊢
  have HOB := hide hob
  clear hob
  go_loopw [5] (fun ix wr => ∃ k : Nat, n ≤ k ∧ k ≤ n + 8 ∧ ix = .int .i64 k ∧ RowE wr ob (n + 8) (es ++ List.replicate (k - n) spareE ++ List.replicate (n + 8 - k) (0, ⟨#[]⟩)) ∧ Below ob w wr) (fun ix _ => n + 8 - (intOf ix).toNat)
  case atStart => exact ⟨n, Nat.le_refl _, by omega, rfl, by simpa using unhide HR2, unhide HB2⟩
  case round =>
    obtain ⟨k, hk1, hk2, rfl, hR, hb⟩ := hrel
    by_cases hlt : k < n + 8
    · obtain ⟨g', hg', tv, f0, f1, ⟨x0, k0⟩, ⟨x1, k1⟩⟩ := own_cells2 hR hlt
      have hgo : g' = ob := by simp at hg'; exact hg'.symm
      subst hgo
      have i1 : (0 : Int) ≤ (k : Int) := by omega
      have i2 : (k : Int) < (n : Int) + 8 := by omega
      have HR := hide hR
      have HB := hide hb
      clear hR hb hg' tv HR2 HB2
      go_wp2
      go_roundw
      case rel =>
        refine ⟨k + 1, by omega, by omega, by go_num, ?_, ((unhide HB).setCell (p := ⟨g', _, none⟩) (Nat.le_refl _) _).setCell (p := ⟨g', _, none⟩) (Nat.le_refl _) _⟩
        have hset := own_set2 (j := k) spareE (unhide HR)
        rw [hand_set es n k (unhide HN) hk1 hlt] at hset
        exact hset
      case measure => simp [intOf]; omega
    · have hkn : k = n + 8 := by omega
      subst hkn
      have hR' : RowE wr ob (n + 8) (es ++ List.replicate 8 spareE) := by simpa using hR
      have HR := hide hR'
      have HB := hide hb
      clear hR hb hR'
      go_wp2
      go_ret
      have hobw := unhide HOB
      subst hobw
      exact ⟨rfl, unhide HR, unhide HB⟩

/-- What an owner finds, place by place. -/
def wantE (es : List Ent) (k : Nat) : Ent := (es[k]?).getD spareE

theorem want_get (es : List Ent) (k : Nat) (hk : k < es.length + 8) : (es ++ List.replicate 8 spareE)[k]? = some (wantE es k) := by
  unfold wantE
  by_cases h : k < es.length
  · rw [List.getElem?_append_left h]; simp [h]
  · rw [List.getElem?_append_right (by omega), List.getElem?_replicate, if_pos (by omega), List.getElem?_eq_none (by omega)]; rfl

theorem blot_set (L : List Ent) (x : Ent) (k : Nat) (hk : k < L.length) : (List.replicate k x ++ L.drop k).set k x = List.replicate (k + 1) x ++ L.drop (k + 1) := replT_set L x k hk

theorem grown_drewN {w w' : World} {r : Option Nat} (h : w.grownBy w' r) (n : Nat) : w.grownBy (w'.drewN n) r := ⟨h.os, h.tape, h.output, h.size, h.block⟩
theorem grown_set {w w' : World} {g : Nat} (h : w.grownBy w' (some g)) (o : Nat) (u : Value) : w.grownBy (w'.setCell ⟨g, o, none⟩ u) (some g) :=
  ⟨h.os, h.tape, h.output, by simpa [World.setCell] using h.size, fun k hk hne => (Below.heap_setCell _ _ _ _ (fun e => hne (by rw [e]))).trans (h.block k hk hne)⟩

set_option maxRecDepth 100000 in
set_option maxHeartbeats 4000000 in
theorem untouched_any (g : Nat) (lv : Value) (es : List Ent) (w0 w : World) (hn : es.length * 24 ≤ 140737488351232) (hl : EntsIn w0 lv es) (hb : Below w0.heap.size w0 w) (hg : w0.heap.size ≤ g) (hR : RowE w g (es.length + 8) (es ++ List.replicate 8 spareE)) :
    Calls Tryz.prog 16 #[.slice (some ⟨g, 0, none⟩) es.length (es.length + 8), lv] w fun e w' => e = .returned (.bool true) ∧ w.grownBy w' (some g) := by
  obtain ⟨ao, cap, rfl, hl1, ha⟩ := hl
  have HA := hide ha
  have HB := hide hb
  have HR0 := hide hR
  clear hl1 ha hb hR
  obtain ⟨n, hnn⟩ : ∃ n, n = es.length := ⟨_, rfl⟩
  have HN := hide hnn
  rw [← hnn] at hn HR0 ⊢
  clear hnn
  have hq := eql_entry
  go_enter Tryz.func16, Tryz.ntmps16
  go_wp2
  go_loopw [7, 8] (fun ok ix wr => ∃ k : Nat, k ≤ n + 8 ∧ ix = .int .i64 k ∧ ok = .bool true ∧ RowE wr g (n + 8) (List.replicate k blotE ++ (es ++ List.replicate 8 spareE).drop k) ∧ w.grownBy wr (some g)) (fun _ ix _ => n + 8 - (intOf ix).toNat)
  case atStart => exact ⟨0, Nat.zero_le _, rfl, rfl, by simpa using unhide HR0, ⟨rfl, rfl, rfl, Nat.le_refl _, fun _ _ _ => rfl⟩⟩
  case round =>
    obtain ⟨k, hk, rfl, rfl, hR, hG⟩ := hrel
    by_cases hlt : k < n + 8
    · have hL : (es ++ List.replicate 8 spareE).length = n + 8 := by simp [← unhide HN]
      have hget : (List.replicate k blotE ++ (es ++ List.replicate 8 spareE).drop k)[k]? = some (wantE es k) := by
        rw [List.getElem?_append_right (by simp), List.length_replicate, Nat.sub_self, List.getElem?_drop, Nat.add_zero]
        exact want_get es k (by rw [← unhide HN]; exact hlt)
      obtain ⟨g', hg', tv, f0, f1, _⟩ := own_cells2 hR hlt
      have hgo : g' = g := by simp at hg'; exact hg'.symm
      subst hgo
      have hcs := eC_get _ k _ hget
      have k0 : wr.cell? ⟨g', k * 2, none⟩ = some (.int .i64 (wantE es k).1) := by have := hR.1.cells (g := g') rfl _ _ hcs.1; rwa [add0] at this
      have k1 : wr.cell? ⟨g', k * 2 + 1, none⟩ = some (.string (wantE es k).2) := by have := hR.1.cells (g := g') rfl _ _ hcs.2; rwa [add0] at this
      have hgl : g' < wr.heap.size := block_lt_of_cell k0
      have i1 : (0 : Int) ≤ (k : Int) := by omega
      have i2 : (k : Int) < (n : Int) + 8 := by omega
      have HBS := hide (blot_set (es ++ List.replicate 8 spareE) blotE k (by rw [hL]; exact hlt))
      have HRR := hide hR
      have HGG := hide hG
      by_cases hkn : k < n
      · have hke : k < es.length := by rw [← unhide HN]; exact hkn
        have hget2 : es[k]? = some (es[k]'hke) := List.getElem?_eq_getElem hke
        obtain ⟨b, off, rfl, a0', a1'⟩ := (unhide HA) k _ hget2
        have hw : wantE es k = es[k]'hke := by unfold wantE; rw [hget2]; rfl
        rw [hw] at k0 k1
        have hbl : b < w0.heap.size := block_lt_of_cell a0'
        have hbn : some b ≠ some g' := by simp; omega
        have hbw : b < w.heap.size := Nat.lt_of_lt_of_le hbl (unhide HB).size
        have hblk := (hG.block b hbw hbn).trans ((unhide HB).block b hbl)
        have a0 : wr.cell? ⟨b, off + k * 2, none⟩ = some (.int .i64 es[k].1) := (World.cell?_of_block (a := ⟨b, _, none⟩) hblk).trans a0'
        have a1 : wr.cell? ⟨b, off + k * 2 + 1, none⟩ = some (.string es[k].2) := (World.cell?_of_block (a := ⟨b, _, none⟩) hblk).trans a1'
        have a2 := cell_alloc a0 (.cells #[.int .i64 (-5), .string ⟨#[33]⟩] 66)
        have a3 := cell_alloc a1 (.cells #[.int .i64 (-5), .string ⟨#[33]⟩] 66)
        have z0 := cell_alloc k0 (.cells #[.int .i64 es[k].1, .string es[k].2] 66)
        have z1 := cell_alloc k1 (.cells #[.int .i64 es[k].1, .string es[k].2] 66)
        have fz0 : (wr.alloc (.cells #[.int .i64 es[k].1, .string es[k].2] 66)).frozen? ⟨g', k * 2, none⟩ = false := (World.frozen?_of_block (a := ⟨g', _, none⟩) (Below.heap_alloc wr _ g' hgl)).trans f0
        have fz1 : (wr.alloc (.cells #[.int .i64 es[k].1, .string es[k].2] 66)).frozen? ⟨g', k * 2 + 1, none⟩ = false := (World.frozen?_of_block (a := ⟨g', _, none⟩) (Below.heap_alloc wr _ g' hgl)).trans f1
        have i3 : (k : Int) < (n : Int) := by omega
        clear a0' a1' hw hbl hbn hbw hblk hR hG hget hcs hL hg' tv hlt
        generalize es[k].1 = t at *
        generalize es[k].2 = s at *
        clear f0 f1 k0 k1 a0 a1
        go_wp2
        have c0 : (wr.alloc (.cells #[.int .i64 t, .string s] 66)).cell? ⟨wr.heap.size, 0, none⟩ = some (.int .i64 t) := cell_of_row _ _ 0 _ _ _ (heap_alloc_new wr _)
        have c1 : (wr.alloc (.cells #[.int .i64 t, .string s] 66)).cell? ⟨wr.heap.size, 1, none⟩ = some (.string s) := cell_of_row _ _ 1 _ _ _ (heap_alloc_new wr _)
        have HRW : Hid (RowE (wr.alloc (.cells #[.int .i64 t, .string s] 66)) g' (n + 8) (List.replicate k blotE ++ (es ++ List.replicate 8 spareE).drop k)) := ⟨(unhide HRR).1.alloc _, (unhide HRR).2⟩
        have HGW := hide ((unhide HGG).trans (World.grownBy_alloc wr (.cells #[.int .i64 t, .string s] 66) (some g')))
        have hge : (t == t && s.toList == s.toList) = true := by simp
        generalize wr.alloc (.cells #[.int .i64 t, .string s] 66) = W at *
        go_quiet (fail)
        go_wp2
        go_roundw
        case rel =>
          refine ⟨k + 1, by omega, by go_num, by simp, ?_, ?_⟩
          · have hset := own_set2 (j := k) blotE (w := W.drewN nq) (unhide HRW)
            rw [unhide HBS] at hset
            exact hset
          · exact grown_set (grown_set (grown_drewN (unhide HGW) nq) _ _) _ _
        case measure => simp [intOf]; omega
      · have hw : wantE es k = spareE := by unfold wantE; rw [List.getElem?_eq_none (by rw [← unhide HN]; omega)]; rfl
        rw [hw] at k0 k1
        have z0 := cell_alloc k0 (.cells #[.int .i64 (-5), .string ⟨#[33]⟩] 66)
        have z1 := cell_alloc k1 (.cells #[.int .i64 (-5), .string ⟨#[33]⟩] 66)
        have fz0 : (wr.alloc (.cells #[.int .i64 (-5), .string ⟨#[33]⟩] 66)).frozen? ⟨g', k * 2, none⟩ = false := (World.frozen?_of_block (a := ⟨g', _, none⟩) (Below.heap_alloc wr _ g' hgl)).trans f0
        have fz1 : (wr.alloc (.cells #[.int .i64 (-5), .string ⟨#[33]⟩] 66)).frozen? ⟨g', k * 2 + 1, none⟩ = false := (World.frozen?_of_block (a := ⟨g', _, none⟩) (Below.heap_alloc wr _ g' hgl)).trans f1
        have i3 : (n : Int) ≤ (k : Int) := by omega
        clear hw hR hG hget hcs hL hg' tv hlt f0 f1 k0 k1
        go_wp2
        have c0 : (wr.alloc (.cells #[.int .i64 (-5), .string ⟨#[33]⟩] 66)).cell? ⟨wr.heap.size, 0, none⟩ = some (.int .i64 (-5)) := cell_of_row _ _ 0 _ _ _ (heap_alloc_new wr _)
        have c1 : (wr.alloc (.cells #[.int .i64 (-5), .string ⟨#[33]⟩] 66)).cell? ⟨wr.heap.size, 1, none⟩ = some (.string ⟨#[33]⟩) := cell_of_row _ _ 1 _ _ _ (heap_alloc_new wr _)
        have HRW : Hid (RowE (wr.alloc (.cells #[.int .i64 (-5), .string ⟨#[33]⟩] 66)) g' (n + 8) (List.replicate k blotE ++ (es ++ List.replicate 8 spareE).drop k)) := ⟨(unhide HRR).1.alloc _, (unhide HRR).2⟩
        have HGW := hide ((unhide HGG).trans (World.grownBy_alloc wr (.cells #[.int .i64 (-5), .string ⟨#[33]⟩] 66) (some g')))
        generalize wr.alloc (.cells #[.int .i64 (-5), .string ⟨#[33]⟩] 66) = W at *
        go_quiet (fail)
        go_wp2
        go_roundw
        case rel =>
          refine ⟨k + 1, by omega, by go_num, by simp, ?_, ?_⟩
          · have hset := own_set2 (j := k) blotE (w := W.drewN nq) (unhide HRW)
            rw [unhide HBS] at hset
            exact hset
          · exact grown_set (grown_set (grown_drewN (unhide HGW) nq) _ _) _ _
        case measure => simp [intOf]; omega
    · replace hG := hide hG
      clear hR
      go_wp2
      go_ret
      exact ⟨rfl, unhide hG⟩

end Go.Proofs.YteiecbkfganhnaaGreat
