/- keepMessages; markMessages; waits of a book with messages; reads of a book with messages; A book with messages: settles, looks; Are entries right? The document's walk and the program's; The document's node; The document's node: what it saves, what it tells of itself; The document's Restart; A node by the document: what is told it, what it is asked: plain data. -/
import Derived.Test.YteiecbkfganhnaaGreatKBmB
import Derived.Deep.RegionHeld3
import Derived.Test.YteiecbkfganhnaaGreatKSettle
import Derived.RegionTactic
import Derived.BigRegion
import Derived.Deep.AppendLies
import Derived.Deep.RegionLaw
import Derived.Test.YteiecbkfganhnaaGreatKSend

namespace Go.Proofs.YteiecbkfganhnaaGreat

open Go.RowKit Go.MuLone

/-- Behind keepMessages. -/
def KeptM (i gb : Nat) (w : World) (tg : Tags) (c0 c1 c2 c3 : Value) (b : BV) (l : List (List Msg)) (w' : World) : Prop :=
  ∃ wm rm tg', GameBlk w' gb c0 c1 c2 c3 { b with wm := wm, rm := rm } ∧ tg' gb = tG i ∧ WaitM i w' tg' wm rm l ∧ Stp (fun T => T = tG i ∨ T = tWM i ∨ T = tRM i) w tg w' tg'

theorem cells9_at (w : World) (l : List Value) (t : TypeId) (b : Nat) (hb : w.heap.size = b) : ∀ j u, l[j]? = some u → (w.alloc (.cells l.toArray t)).cell? ((⟨b, 0, none⟩ : Addr).add j) = some u := by subst hb; exact cells_new9 w l t

theorem infoSM : (Tryz.prog.info? 62).map (fun i => (i.zero, i.size, i.bytes)) = some (some (.slice none 0 0), 1, 24) := by kernel_rfl

theorem keep_finM {i gb : Nat} {w W2 w4 : World} {tg tg1 tg4 : Tags} {c0 c1 c2 c3 : Value} {b b2 : BV} {l : List (List Msg)} {vl rl : List (Msg × Value)} {xs ys : List Value} {v wm rm r : Value}
    (hms : vl.length ≤ 7 ∧ ∀ y ∈ vl, y.1.ents.length ≤ 3) (hrl : rl.map Prod.fst = vl.map Prod.fst)
    (hW : ∀ (k : Nat) (ms : List Msg), l[k]? = some ms → (ms.length ≤ 7 ∧ ∀ m ∈ ms, m.ents.length ≤ 3) ∧ ∃ v r vl rl, xs[k]? = some v ∧ ys[k]? = some r ∧ vl.map Prod.fst = ms ∧ rl.map Prod.fst = ms ∧ MRow w tg (tLM i k) (tLX i k) v vl ∧ MRow w tg (0, 0) (fun _ => (0, 0)) r rl)
    (hx : xs.length = l.length) (hy : ys.length = l.length)
    (hS2 : Stp (fun T => T = tG i ∨ T = tWM i ∨ T = tRM i) w tg W2 tg1) (hS4 : Stp (fun T => T = tRM i) W2 tg1 w4 tg4) (hO : Own W2 tg1 (tWM i) 62 1 wm (l.length + 1) (xs ++ [v])) (hV : MRow W2 tg1 (tLM i l.length) (tLX i l.length) v vl)
    (hG4 : GameBlk w4 gb c0 c1 c2 c3 b2) (hg4 : tg4 gb = tG i) (hb : { b2 with rm := rm } = { b with wm := wm, rm := rm }) (hR : Own w4 tg4 (tRM i) 62 1 rm (l.length + 1) (ys ++ [r])) (hr : MRow w4 tg4 (0, 0) (fun _ => (0, 0)) r rl) :
    KeptM i gb w tg c0 c1 c2 c3 b (l ++ [vl.map Prod.fst]) (w4.setCell ⟨gb, 10, none⟩ rm) := by
  have hs : Stp (fun U => U = tG i) w4 tg4 (w4.setCell ⟨gb, 10, none⟩ rm) tg4 := Stp.setCell (a := ⟨gb, 10, none⟩) hg4 rm
  have hall : Stp (fun T => T = tG i ∨ T = tWM i ∨ T = tRM i) w tg (w4.setCell ⟨gb, 10, none⟩ rm) tg4 := (hS2.trans (hS4.mono fun x h => .inr (.inr h))).trans (hs.mono fun x h => .inl h)
  refine ⟨wm, rm, tg4, by rw [← hb]; exact hG4.setRM rm, hg4, ⟨xs ++ [v], ys ++ [r], by simpa using (hO.step hS4 (by simp)).step hs (by simp), by simpa using hR.step hs (by simp), fun k ms hk => ?_⟩, hall⟩
  by_cases hkl : k < l.length
  · rw [List.getElem?_append_left hkl] at hk
    obtain ⟨h1, v', r', vl', rl', h2, h3, h4, h5, h6, h7⟩ := hW k ms hk
    exact ⟨h1, v', r', vl', rl', by rw [List.getElem?_append_left (by omega)]; exact h2, by rw [List.getElem?_append_left (by omega)]; exact h3, h4, h5, h6.step hall (by simp) (fun j _ => by simp), h7.step hall (by simp) (fun j _ => by simp)⟩
  · have hkk : k = l.length := by
      have := (List.getElem?_eq_some_iff.1 hk).1
      simp at this; omega
    subst hkk
    simp at hk
    subst hk
    refine ⟨⟨by simpa using hms.1, fun m hm => ?_⟩, v, r, vl, rl, by simp [← hx], by simp [← hy], rfl, hrl, (hV.step hS4 (by simp) (fun j _ => by simp)).step hs (by simp) (fun j _ => by simp), hr.step hs (by simp) (fun j _ => by simp)⟩
    obtain ⟨y, hy, rfl⟩ := List.mem_map.1 hm
    exact hms.2 y hy

set_option maxRecDepth 100000 in
set_option maxHeartbeats 1000000 in
theorem keepMessages_any (i gb : Nat) (w : World) (tg : Tags) (c0 c1 c2 c3 : Value) (b : BV) (l : List (List Msg)) (v : Value) (vl : List (Msg × Value))
    (hG : GameBlk w gb c0 c1 c2 c3 b) (hg : tg gb = tG i) (hW : WaitM i w tg b.wm b.rm l) (hv : MRow w tg (tLM i l.length) (tLX i l.length) v vl) (hms : vl.length ≤ 7 ∧ ∀ y ∈ vl, y.1.ents.length ≤ 3) (hl : l.length ≤ 1000000000) :
    Calls Tryz.prog 63 #[.pointer (some ⟨gb, 4, none⟩), v] w fun e w' => e = .returned (.tuple #[]) ∧ KeptM i gb w tg c0 c1 c2 c3 b (l ++ [vl.map Prod.fst]) w' := by
  have hrd := hv.reads
  obtain ⟨vo, vc, rfl, hrd⟩ := hrd
  obtain ⟨xs, ys, hx, hy, hwl⟩ := hW.rows
  have HG := hide hG
  have HW := hide hwl
  have HX := hide hx
  have HY := hide hy
  have HV := hide hv
  have HRD := hide hrd
  have HMS := hide hms
  have hvl : vl.length ≤ 7 := hms.1
  clear hG hwl hx hy hv hW hrd hms
  obtain ⟨i0, hi, hz0, hz1, hz2⟩ := info_parts infoSM
  obtain ⟨i1, hj, hy0, hy1, hy2⟩ := info_parts infoMsg
  go_enter Tryz.func63, Tryz.ntmps63
  go_wp2
  go_loopw [4, 5] (fun u ix wr => ∃ (k : Nat) (rl : List (Msg × Value)), k ≤ vl.length ∧ ix = .int .i64 k ∧ MsgsOut wr w.heap.size u ((vl.take k).map Prod.fst) rl ∧ Below w.heap.size w wr) (fun _ ix _ => vl.length - (intOf ix).toNat)
  case atStart => exact ⟨0, [], Nat.zero_le _, rfl, by simpa using MsgsOut.nil w w.heap.size, Below.refl _ _⟩
  case round =>
    obtain ⟨k, rl, hk, rfl, ho, hb⟩ := hrel
    have hrow := ho.row
    have hrlen : ((vl.take k).map Prod.fst).length = k := by simp; omega
    rw [hrlen] at hrow
    obtain ⟨uo, uc, rfl⟩ := owns_form hrow
    by_cases hlt : k < vl.length
    · have hkk : vl[k]? = some vl[k] := List.getElem?_eq_getElem hlt
      obtain ⟨⟨gv, off, rfl, a0, a1, a2, a3, a4, a5, a6, a7, a8⟩, hE⟩ := unhide HRD k _ hkk
      have htk := List.take_succ_eq_append_getElem hlt
      have hm3 := (unhide HMS).2 _ (List.getElem_mem hlt)
      have i1' : (0 : Int) ≤ (k : Int) := by omega
      have i2' : (k : Int) < (vl.length : Int) := by omega
      generalize vl[k] = y at *
      obtain ⟨m, ev⟩ := y
      simp only at a0 a1 a2 a3 a4 a5 a6 a7 a8 hE hm3
      have hcw : ∀ {b o u}, w.cell? ⟨b, o, none⟩ = some u → wr.cell? ⟨b, o, none⟩ = some u := fun {b o u} hx => (hb.cell (p := ⟨b, o, none⟩) (block_lt_of_cell hx)).trans hx
      replace a0 := hcw a0
      replace a1 := hcw a1
      replace a2 := hcw a2
      replace a3 := hcw a3
      replace a4 := hcw a4
      replace a5 := hcw a5
      replace a6 := hcw a6
      replace a7 := hcw a7
      replace a8 := hcw a8
      have hgl : gv < wr.heap.size := block_lt_of_cell a0
      have n1 : ¬ gv = wr.heap.size := by omega
      have n2 : ¬ wr.heap.size = gv := by omega
      obtain ⟨mk, mf, mt, mT, mi, ml, mc, me, mg⟩ := m
      obtain ⟨eo, ec, rfl, _⟩ := id hE
      have HEW := hide (ents_below hE hb)
      have HO := hide ho
      have HROW := hide hrow
      have HB := hide hb
      have HTK := hide htk
      have HLEN := hide hrlen
      simp only at a0 a1 a2 a3 a4 a5 a6 a7 a8 hm3
      clear ho hb htk hkk hE hcw hrow hrlen
      go_wp2_with (first | (go_at_call 91; fail))
      refine (copiedEntries_any _ me _ (by omega) (ents_below (unhide HEW) (below_alloc _ _))).mono ?_
      rintro e w2 ⟨r2, rfl, ho2, hb2⟩
      have hBA := below_alloc wr (.cells #[.int .i64 mk, .int .i64 mf, .int .i64 mt, .int .i64 mT, .int .i64 mi, .int .i64 ml, .int .i64 mc, .slice eo me.length ec, .bool mg] 30)
      have hLN := heap_alloc_new wr (.cells #[.int .i64 mk, .int .i64 mf, .int .i64 mt, .int .i64 mT, .int .i64 mi, .int .i64 ml, .int .i64 mc, .slice eo me.length ec, .bool mg] 30)
      have hL2 := (hb2.block wr.heap.size (Array.getElem?_eq_some_iff.1 hLN).1).trans hLN
      have hsz : (wr.alloc (.cells #[.int .i64 mk, .int .i64 mf, .int .i64 mt, .int .i64 mT, .int .i64 mi, .int .i64 ml, .int .i64 mc, .slice eo me.length ec, .bool mg] 30)).heap.size = wr.heap.size + 1 := by simp
      rw [hsz] at ho2
      have hb3 : Below wr.heap.size wr (w2.setCell ⟨wr.heap.size, 7, none⟩ r2) := (hBA.trans (hb2.mono hBA.size)).setCell (p := ⟨wr.heap.size, 7, none⟩) (Nat.le_refl _) r2
      have ho3 : (w2.setCell ⟨wr.heap.size, 7, none⟩ r2).ownsRow wr.heap.size 66 2 r2 me.length (eC me) := owns_base (owns_kept ho2 fun x hx => Below.heap_setCell _ _ _ _ (fun e => by have := (ho2.lt x hx).1; simp only at e; omega)) (Nat.le_succ _)
      obtain ⟨ro, rc, rfl⟩ := owns_form ho2
      have l0 : w2.cell? ⟨wr.heap.size, 0, none⟩ = some (.int .i64 mk) := cell_of_row w2 _ 0 _ _ _ hL2
      have l1 : w2.cell? ⟨wr.heap.size, 1, none⟩ = some (.int .i64 mf) := cell_of_row w2 _ 1 _ _ _ hL2
      have l2 : w2.cell? ⟨wr.heap.size, 2, none⟩ = some (.int .i64 mt) := cell_of_row w2 _ 2 _ _ _ hL2
      have l3 : w2.cell? ⟨wr.heap.size, 3, none⟩ = some (.int .i64 mT) := cell_of_row w2 _ 3 _ _ _ hL2
      have l4 : w2.cell? ⟨wr.heap.size, 4, none⟩ = some (.int .i64 mi) := cell_of_row w2 _ 4 _ _ _ hL2
      have l5 : w2.cell? ⟨wr.heap.size, 5, none⟩ = some (.int .i64 ml) := cell_of_row w2 _ 5 _ _ _ hL2
      have l6 : w2.cell? ⟨wr.heap.size, 6, none⟩ = some (.int .i64 mc) := cell_of_row w2 _ 6 _ _ _ hL2
      have l7 : w2.cell? ⟨wr.heap.size, 7, none⟩ = some (.slice eo me.length ec) := cell_of_row w2 _ 7 _ _ _ hL2
      have l8 : w2.cell? ⟨wr.heap.size, 8, none⟩ = some (.bool mg) := cell_of_row w2 _ 8 _ _ _ hL2
      have lf : w2.frozen? ⟨wr.heap.size, 7, none⟩ = false := frozen_of_row w2 _ 7 _ _ hL2
      have HB3 := hide hb3
      have HO3 := hide ho3
      clear hb2 hBA hLN hL2 hsz ho2 hb3 ho3 a0 a1 a2 a3 a4 a5 a6 a7 a8 n1 n2
      have HOR := hide (owns_below (unhide HROW) (unhide HB3))
      have HSZ := hide (Nat.le_trans (unhide HB).size (unhide HB3).size)
      go_wp2_with (at_builtin; go_must (refine wpList_append_own_at _ rfl (.tmp 24) (.tmp 26) 62 rfl w.heap.size 30 i1 _ 9 88 Tryz.underlying62 hj hy0 hy1 hy2 rfl (by decide) (.slice uo k uc) k (mC rl) rfl ((unhide HOR).alloc _) ⟨w2.heap.size, 0, none⟩ 1 1 [.int .i64 mk, .int .i64 mf, .int .i64 mt, .int .i64 mT, .int .i64 mi, .int .i64 ml, .int .i64 mc, .slice ro me.length rc, .bool mg] rfl rfl (cells9_at _ _ _ _ (by simp [World.setCell])) (by intro u hu; simp at hu; rcases hu with rfl | rfl | rfl | rfl | rfl | rfl | rfl | rfl | rfl <;> rfl) (by unfold maxLen; omega) (by omega) (Nat.le_trans (unhide HSZ) (by simp)) ?_))
      intro v' w' h2 h3 _ _
      have HP : Hid (MsgsOut w' w.heap.size v' ((vl.take (k + 1)).map Prod.fst) (rl ++ [(⟨mk, mf, mt, mT, mi, ml, mc, me, mg⟩, .slice ro me.length rc)])) := by
        show MsgsOut _ _ _ _ _
        rw [unhide HTK, List.map_append]
        refine MsgsOut.push (unhide HO) (unhide HB).size (unhide HB3) (unhide HO3) h3 ?_
        rw [unhide HLEN]
        exact h2
      have HB2 : Hid (Below w.heap.size w w') := by
        have hbx := (unhide HB).trans ((unhide HB3).mono (unhide HB).size)
        exact (hbx.alloc hbx.size _).grown h3 (Nat.le_trans hbx.size (by simp)) (fun z hz => ((unhide HROW).lt z hz).1)
      clear h2 h3
      go_wp2
      go_roundw
      case rel => exact ⟨k + 1, _, by omega, by go_num, unhide HP, unhide HB2⟩
      case measure => simp [intOf]; omega
    · have hkn : k = vl.length := by omega
      subst hkn
      rw [List.take_length] at ho
      have hs1 : Stp (fun _ => False) w tg wr (newTag w.heap.size tg (0, 0)) := Stp.ofBelow hb tg (0, 0)
      have hrl : rl.map Prod.fst = vl.map Prod.fst := ho.fst
      have hrl2 : rl.length = vl.length := by have := congrArg List.length hrl; simpa using this
      have HR : Hid (MRow wr (newTag w.heap.size tg (0, 0)) (0, 0) (fun _ => (0, 0)) (.slice uo vl.length uc) rl) := by
        refine ⟨?_, fun j y hj => Own.fresh tg (0, 0) (ho.ents y (List.mem_of_getElem? hj))⟩
        rw [hrl2]
        exact Own.fresh tg (0, 0) hrow
      have HRL := hide hrl
      generalize newTag w.heap.size tg (0, 0) = tg1 at hs1 HR
      obtain ⟨hG1, hg1⟩ := (unhide HG).step hg hs1 (fun h => h)
      have HX1 := hide ((unhide HX).step hs1 (fun h => h))
      have HY1 := hide ((unhide HY).step hs1 (fun h => h))
      have HV1 := hide ((unhide HV).step hs1 (fun h => h) (fun _ _ h => h))
      have HS1 := hide hs1
      have k9 := hG1.c9
      have f9 := hG1.free 9
      replace hG1 := hide hG1
      replace hg1 := hide hg1
      clear ho hrow hb hs1 HV HRD hrl hrl2 hrlen hlt
      go_wp2_with (at_builtin; go_must (refine wpList_append_lies _ rfl (.tmp 32) (.tmp 34) 48 rfl 0 62 i0 _ 1 24 Tryz.underlying48 hi hz0 hz1 hz2 rfl (by decide) b.wm l.length xs rfl ((unhide HX1).1.alloc _) ⟨wr.heap.size, 0, none⟩ 1 1 [.slice vo vl.length vc] rfl rfl (cell_one_new _ _ _) (by intro u hu; simp at hu; subst hu; rfl) (by decide) (by unfold maxLen; omega) (by omega) (Nat.zero_le _) (wr.heap.size + 1) (by simp) ?_))
      intro ga cap w2 hown2 hgrow2 hat2 hlt2
      obtain ⟨tg2, HO2, HS2⟩ := (unhide HX1).pushed hgrow2 hown2 hat2
      obtain ⟨hG2, hg2⟩ := (unhide hG1).step (unhide hg1) HS2 (by simp)
      have hG3 := hG2.setWM (.slice (some ⟨ga, 0, none⟩) (l.length + 1) cap)
      have hset := Stp.setCell (w := w2) (a := ⟨gb, 9, none⟩) hg2 (.slice (some ⟨ga, 0, none⟩) (l.length + 1) cap)
      have HS3 := hide (((unhide HS1).mono (B := fun T => T = tG i ∨ T = tWM i ∨ T = tRM i) (fun _ h => h.elim)).trans ((HS2.mono (B := fun T => T = tG i ∨ T = tWM i ∨ T = tRM i) (fun x hx => .inr (.inl hx))).trans (hset.mono fun x hx => .inl hx)))
      have HO3 := hide (HO2.step hset (by simp))
      have HV3 := hide (((unhide HV1).step HS2 (by simp) (fun j _ => by simp)).step hset (by simp) (fun j _ => by simp))
      have HY3 := hide (((unhide HY1).step HS2 (by simp)).step hset (by simp))
      have HR3 := hide (((unhide HR).step HS2 (by simp) (fun j _ => by simp)).step hset (by simp) (fun j _ => by simp))
      have k9' := hG2.c9
      have f9' := hG2.free 9
      have k10 := hG3.c10
      have f10 := hG3.free 10
      replace hG3 := hide hG3
      replace hg2 := hide hg2
      clear hown2 hgrow2 hat2 hlt2 HO2 HS2 hset hG2 k9 f9 hG1 hg1 HX1 HY1 HV1 HS1 HR
      go_upto_region 8 with fail
      generalize w2.setCell ⟨gb, 9, none⟩ (.slice (some ⟨ga, 0, none⟩) (l.length + 1) cap) = W3 at *
      clear k9' f9'
      go_wp2_with (at_builtin; go_must (refine wpList_append_lies _ rfl (.tmp 42) (.tmp 44) 48 rfl 0 62 i0 _ 1 24 Tryz.underlying48 hi hz0 hz1 hz2 rfl (by decide) b.rm l.length ys rfl ((unhide HY3).1.alloc _) ⟨W3.heap.size, 0, none⟩ 1 1 [.slice uo vl.length uc] rfl rfl (cell_one_new _ _ _) (by intro u hu; simp at hu; subst hu; rfl) (by decide) (by unfold maxLen; omega) (by omega) (Nat.zero_le _) (W3.heap.size + 1) (by simp) ?_))
      intro gc cap2 w4 hown4 hgrow4 hat4 hlt4
      obtain ⟨tg4, HO4, HS4⟩ := (unhide HY3).pushed hgrow4 hown4 hat4
      obtain ⟨hG4, hg4⟩ := (unhide hG3).step (unhide hg2) HS4 (by simp)
      have HR4 := hide ((unhide HR3).step HS4 (by simp) (fun j _ => by simp))
      have k10' := hG4.c10
      have f10' := hG4.free 10
      replace hG4 := hide hG4
      replace HS4 := hide HS4
      replace HO4 := hide HO4
      replace hg4 := hide hg4
      clear hown4 hgrow4 hat4 hlt4 k10 f10
      go_wp2
      go_end0
      exact ⟨rfl, keep_finM (b := b) (unhide HMS) (unhide HRL) (unhide HW) (by simpa using (unhide HX).1.1) (by simpa using (unhide HY).1.1) (unhide HS3) (unhide HS4) (unhide HO3) (unhide HV3) (unhide hG4) (unhide hg4) rfl (unhide HO4) (unhide HR4)⟩

end Go.Proofs.YteiecbkfganhnaaGreat

namespace Go.Proofs.YteiecbkfganhnaaGreat

open Go.RowKit Go.MuLone

/-- The cells of a mark. -/
abbrev mk9 (K : Int) : List Value := [.int .i64 K, .int .i64 0, .int .i64 0, .int .i64 0, .int .i64 0, .int .i64 0, .int .i64 0, .slice none 0 0, .bool false]

/-- The mark as a message. -/
abbrev mkY (K : Int) : Msg × Value := (⟨K, 0, 0, 0, 0, 0, 0, [], false⟩, .slice none 0 0)

theorem rep_mC (K : Int) (p : Nat) : mC (List.replicate p (mkY K)) = rep (mk9 K) p := by simp [mC, rep, List.flatMap, mcells]

theorem rep9_one (K : Int) (p : Nat) : ∀ u ∈ rep (mk9 K) p, u.oneCell' = true := rep_one _ (by intro u hu; simp at hu; rcases hu with rfl | rfl | rfl | rfl <;> rfl) p

theorem Good.seenM {w : World} {tg : Tags} {q : Nat} {v y : Value} {p : Nat} (h : Good w tg (mkM q) v y p) : SeenM w (unTag v tg) y q p := by
  obtain ⟨g, c, rfl, h1, h2, h3⟩ := h
  refine ⟨some ⟨g, 0, none⟩, c, rfl, fun _ => ⟨g, rfl, ?_, h3, h1⟩⟩
  unfold unTag
  split
  · rfl
  · rcases h2 with h2 | h2
    · exact h2
    · rename_i hx; exact absurd h2 hx

theorem seenM_self {w : World} {tg : Tags} {T : Nat × Nat} {n q : Nat} {v : Value} (h : Own w tg T 30 9 v n (rep (mkM q) n)) : SeenM w (unTag v tg) v q n := by
  obtain ⟨ao, cap, rfl⟩ := h.form
  refine ⟨ao, cap, rfl, fun hn => ?_⟩
  rcases h.1.2 with ⟨hv, h0⟩ | ⟨g, cap', cur, hv, hg, hh, h1, h2, h3, h4⟩
  · exact absurd h0 hn
  · simp only [Value.slice.injEq, true_and] at hv
    obtain ⟨rfl, rfl⟩ := hv
    refine ⟨g, rfl, by simp [unTag, Value.ownBlock], owns_lt h.1 g rfl, fun j u hj => ?_⟩
    have := h.1.cells (g := g) rfl j u hj
    rwa [add0] at this

/-- Behind markMessages. -/
def MarkedM (i gb : Nat) (w : World) (tg : Tags) (c0 c1 c2 c3 : Value) (b : BV) (ne nm : Nat) (kk n : Nat) (w' : World) : Prop :=
  ∃ e m tg', GameBlk w' gb c0 c1 c2 c3 { b with e := e, m := m } ∧ tg' gb = tG i ∧ MarkE i w' tg' e (ne + n) ∧ MarkM i w' tg' m (nm + 1) ∧ Stp (fun U => U = tG i ∨ U = tE i ∨ U = tM i ∨ U = tLM i kk ∨ ∃ j, j < n ∧ U = tLX i kk j) w tg w' tg'

theorem mark_finM {i gb n ne nm kk N1 : Nat} {w W1 W0 w3 w4 : World} {tg tg1 tg0 tg3 tg4 : Tags} {c0 c1 c2 c3 : Value} {b : BV} {M : Int} {v o1 o2 o3 m' e : Value} {xs : List Value} {n0 : Nat} {ys : List Value}
    (hn : n ≤ 7) (hN : N1 = 4 * nm) (hM : M = -1 - (nm : Int)) (hxl : xs.length = N1)
    (hW : ∀ (k : Nat) (v : Value), xs[k]? = some v → ∃ p, p ≤ 20 ∧ SeenM w tg v (k / 4) p)
    (hv : Own w tg (tLM i kk) 30 9 v n0 ys)
    (hs1 : Stp (fun U => U = tG i ∨ U = tE i ∨ ∃ j, j < n ∧ U = tLX i kk j) w tg W1 tg1) (hs0 : Stp (fun _ => False) W1 tg1 W0 tg0) (hs3 : Stp (fun U => U = tLM i kk) W0 tg0 w3 tg3) (hs4 : Stp (fun U => U = tM i) w3 tg3 w4 tg4)
    (hE : MarkE i W1 tg1 e (ne + n))
    (hO3 : Own w3 tg3 (tLM i kk) 30 9 v n (rep (mk9 M) n)) (h1 : Good w3 tg3 (mk9 M) v o1 (n + 1)) (h2 : Good w3 tg3 (mk9 M) v o2 (n + 2)) (h3 : Good w3 tg3 (mk9 M) v o3 (n + 3))
    (hO4 : Own w4 tg4 (tM i) 62 1 m' (N1 + 4) (xs ++ [v, o1, o2, o3])) (hG4 : GameBlk w4 gb c0 c1 c2 c3 { b with e := e }) (hg4 : tg4 gb = tG i) :
    MarkedM i gb w tg c0 c1 c2 c3 b ne nm kk n (w4.setCell ⟨gb, 5, none⟩ m') := by
  have hs5 : Stp (fun U => U = tG i) w4 tg4 (w4.setCell ⟨gb, 5, none⟩ m') tg4 := Stp.setCell (a := ⟨gb, 5, none⟩) hg4 m'
  have hrest : Stp (fun U => U = tG i ∨ U = tM i ∨ U = tLM i kk) W1 tg1 (w4.setCell ⟨gb, 5, none⟩ m') tg4 :=
    (((hs0.mono fun _ h => h.elim).trans (hs3.mono fun _ h => .inr (.inr h))).trans (hs4.mono fun _ h => .inr (.inl h))).trans (hs5.mono fun _ h => .inl h)
  have hall : Stp (fun U => U = tG i ∨ U = tE i ∨ U = tM i ∨ U = tLM i kk ∨ ∃ j, j < n ∧ U = tLX i kk j) w tg (w4.setCell ⟨gb, 5, none⟩ m') tg4 := by
    refine (hs1.mono ?_).trans (hrest.mono ?_)
    · rintro U (h | h | h)
      · exact .inl h
      · exact .inr (.inl h)
      · exact .inr (.inr (.inr (.inr h)))
    · rintro U (h | h | h)
      · exact .inl h
      · exact .inr (.inr (.inl h))
      · exact .inr (.inr (.inr (.inl h)))
  have hO5 := (hO3.step hs4 (by simp)).step hs5 (by simp)
  have hstep : ∀ {y : Value} {p : Nat}, Good w3 tg3 (mk9 M) v y p → Good (w4.setCell ⟨gb, 5, none⟩ m') tg4 (mk9 M) v y p := fun h =>
    (h.step hO3.2 hs4 (by simp) (by simp)).step (hO3.step hs4 (by simp)).2 hs5 (by simp) (by simp)
  have hfin := hall.unTag hv.2 (.inr (.inr (.inr (.inl rfl))))
  have hmk : mk9 M = mkM nm := by rw [hM]
  refine ⟨e, m', unTag v tg4, ?_, ?_, ?_, ⟨xs ++ [v, o1, o2, o3], ?_, fun k y hk => ?_⟩, hfin⟩
  · exact hG4.set 5 m'
  · have : ¬ v.ownBlock = some gb := fun he => by have := (hO5.2 gb he).symm.trans hg4; simp at this
    simp only [unTag, this, if_false]
    exact hg4
  · have hv1 := hv.step hs1 (by simp)
    have := hrest.unTag hv1.2 (.inr (.inr rfl))
    exact hE.step this (by simp) (by simp)
  · rw [show 4 * (nm + 1) = N1 + 4 by omega]
    exact (hO4.step hs5 (by simp)).unTag hO5.2 (by simp)
  · by_cases hkl : k < xs.length
    · rw [List.getElem?_append_left hkl] at hk
      obtain ⟨p, hp, hse⟩ := hW k y hk
      exact ⟨p, hp, hse.step hfin (by simp)⟩
    · have hk4 : k / 4 = nm := by
        have := (List.getElem?_eq_some_iff.1 hk).1
        simp at this
        omega
      rw [hk4]
      rw [List.getElem?_append_right (by omega)] at hk
      rw [hmk] at hO5 hstep h1 h2 h3
      match k - xs.length, hk with
      | 0, hk => simp at hk; subst hk; exact ⟨n, by omega, seenM_self hO5⟩
      | 1, hk => simp at hk; subst hk; exact ⟨n + 1, by omega, (hstep h1).seenM⟩
      | 2, hk => simp at hk; subst hk; exact ⟨n + 2, by omega, (hstep h2).seenM⟩
      | 3, hk => simp at hk; subst hk; exact ⟨n + 3, by omega, (hstep h3).seenM⟩
      | j + 4, hk => simp at hk

set_option maxRecDepth 100000 in
set_option maxHeartbeats 1000000 in
theorem markMessages_any (i gb : Nat) (w : World) (tg : Tags) (c0 c1 c2 c3 : Value) (b : BV) (ne nm kk : Nat) (v : Value) (vl : List (Msg × Value))
    (hG : GameBlk w gb c0 c1 c2 c3 b) (hg : tg gb = tG i) (hE : MarkE i w tg b.e ne) (hM : MarkM i w tg b.m nm) (hv : MRow w tg (tLM i kk) (tLX i kk) v vl) (hms : vl.length ≤ 7 ∧ ∀ y ∈ vl, y.1.ents.length ≤ 3) (hne : ne ≤ 900000000) (hnm : nm ≤ 900000000) :
    Calls Tryz.prog 85 #[.pointer (some ⟨gb, 4, none⟩), v] w fun e w' => e = .returned (.tuple #[]) ∧ MarkedM i gb w tg c0 c1 c2 c3 b ne nm kk vl.length w' := by
  obtain ⟨xs, hx, hwl⟩ := hM.rows
  obtain ⟨N1, hN1⟩ : ∃ N, N = 4 * nm := ⟨_, rfl⟩
  rw [← hN1] at hx
  have hb1 : N1 ≤ 3600000000 := by omega
  obtain ⟨ma, mcp, hme⟩ := hx.form
  have hrd := hv.reads
  obtain ⟨vo, vc, rfl, hrd⟩ := hrd
  have HN1 := hide hN1
  have HG := hide hG
  have HE := hide hE
  have HW := hide hwl
  have HX := hide hx
  have HME := hide hme
  have HV := hide hv
  have HRD := hide hrd
  have HMS := hide hms
  have hvl : vl.length ≤ 7 := hms.1
  clear hG hE hwl hx hN1 hv hrd hms hM hme
  obtain ⟨i0, hi, hz0, hz1, hz2⟩ := info_parts infoMsg
  obtain ⟨i9, hi9, hy0, hy1, hy2⟩ := info_parts infoSM
  go_enter Tryz.func85, Tryz.ntmps85
  go_wp2
  go_loopw [4] (fun ix wr => ∃ (k : Nat) (e : Value) (tg' : Tags), k ≤ vl.length ∧ ix = .int .i64 k ∧ GameBlk wr gb c0 c1 c2 c3 { b with e := e } ∧ tg' gb = tG i ∧ MarkE i wr tg' e (ne + k) ∧ Stp (fun U => U = tG i ∨ U = tE i ∨ ∃ j, j < k ∧ U = tLX i kk j) w tg wr tg') (fun ix _ => vl.length - (intOf ix).toNat)
  case atStart => exact ⟨0, b.e, tg, Nat.zero_le _, rfl, unhide HG, hg, unhide HE, Stp.refl _ _ _⟩
  case round =>
    obtain ⟨k, e, tg1, hk, rfl, hG1, hg1, hE1, hS1⟩ := hrel
    by_cases hlt : k < vl.length
    · have hkk : vl[k]? = some vl[k] := List.getElem?_eq_getElem hlt
      have hV1 := (unhide HV).row.step hS1 (by simp)
      have hX1 := ((unhide HV).ents k _ hkk).step hS1 (by
        rintro (h | h | ⟨j, hj, h⟩)
        · simp at h
        · simp at h
        · simp at h; omega)
      have hm3 := (unhide HMS).2 _ (List.getElem_mem hlt)
      have hat : ∃ g, vo = some ⟨g, 0, none⟩ ∧ wr.cell? ⟨g, k * 9 + 7, none⟩ = some vl[k].2 := by
        have h1 := mC_get vl k _ hkk 7 (by decide)
        have h2 : (mC vl)[k * 9 + 7]? = some vl[k].2 := h1.trans rfl
        obtain ⟨hl2, hx2⟩ := List.getElem?_eq_some_iff.1 h2
        obtain ⟨g, h3, _, h4⟩ := owns_at hV1.1 hl2
        exact ⟨g, h3, by rw [h4, hx2]⟩
      obtain ⟨gv, rfl, a7⟩ := hat
      have i1 : (0 : Int) ≤ (k : Int) := by omega
      have i2 : (k : Int) < (vl.length : Int) := by omega
      have HC := hide (markEntries_any i gb wr tg1 c0 c1 c2 c3 { b with e := e } (ne + k) (tLX i kk k) _ vl[k].1.ents hG1 hg1 hE1 hX1 (by simp) (by simp) (by simp) (by simp) (by omega) (by omega))
      have HS1 := hide hS1
      generalize vl[k].2 = ev at *
      generalize vl[k].1 = m at *
      clear hG1 hg1 hE1 hS1 hV1 hX1 hkk
      go_wp2_with (go_at_call 84; refine (unhide HC).mono ?_; rintro e w2 ⟨rfl, hM2⟩)
      go_wp2
      go_roundw
      case rel =>
        obtain ⟨e3, tg3, h1, h2, h3, h4⟩ := hM2
        refine ⟨k + 1, e3, tg3, by omega, by go_num, h1, h2, h3, ((unhide HS1).mono ?_).trans (h4.mono ?_)⟩
        · rintro U (h | h | ⟨j, hj, h⟩)
          · exact .inl h
          · exact .inr (.inl h)
          · exact .inr (.inr ⟨j, by omega, h⟩)
        · rintro U (h | h | h)
          · exact .inl h
          · exact .inr (.inl h)
          · exact .inr (.inr ⟨k, by omega, h⟩)
      case measure => simp [intOf]; omega
    · have hkn : k = vl.length := by omega
      subst hkn
      have c5 := hG1.c5
      simp only [unhide HME] at c5
      have HG1 := hide hG1
      have Hg1 := hide hg1
      have HE1 := hide hE1
      have HS1 := hide hS1
      clear hG1 hg1 hE1 hS1 hlt
      go_wp2
      have hs0 : Stp (fun _ => False) wr tg1 (wr.alloc (Obj.cells #[.int .i64 (-1 - (N1 : Int) / 4), .int .i64 0, .int .i64 0, .int .i64 0, .int .i64 0, .int .i64 0, .int .i64 0, .slice none 0 0, .bool false] 30)) (newTag wr.heap.size tg1 (0, 1)) := Stp.alloc wr tg1 _ (0, 1)
      have HX0 := hide (((unhide HX).step (unhide HS1) (by simp)).step hs0 (fun h => h))
      have HV0 := hide (((unhide HV).row.step (unhide HS1) (by simp)).step hs0 (fun h => h))
      have HG0 := hide ((unhide HG1).step (unhide Hg1) hs0 (fun h => h))
      have hmb : newTag wr.heap.size tg1 (0, 1) wr.heap.size = (0, 1) := newTag_new (Nat.le_refl _)
      have hmh := heap_alloc_new wr (Obj.cells #[.int .i64 (-1 - (N1 : Int) / 4), .int .i64 0, .int .i64 0, .int .i64 0, .int .i64 0, .int .i64 0, .int .i64 0, .slice none 0 0, .bool false] 30)
      have hml : wr.heap.size < (wr.alloc (Obj.cells #[.int .i64 (-1 - (N1 : Int) / 4), .int .i64 0, .int .i64 0, .int .i64 0, .int .i64 0, .int .i64 0, .int .i64 0, .slice none 0 0, .bool false] 30)).heap.size := by simp
      have HM : Hid (-1 - (N1 : Int) / 4 = -1 - (nm : Int)) := by have := unhide HN1; show _ = _; omega
      replace hs0 := hide hs0
      replace hmb := hide hmb
      replace hmh := hide hmh
      replace hml := hide hml
      generalize -1 - (N1 : Int) / 4 = M at *
      generalize wr.alloc (Obj.cells #[.int .i64 M, .int .i64 0, .int .i64 0, .int .i64 0, .int .i64 0, .int .i64 0, .int .i64 0, .slice none 0 0, .bool false] 30) = W0 at *
      generalize newTag wr.heap.size tg1 (0, 1) = tg0 at *
      generalize wr.heap.size = mb at *
      go_loopw [6] (fun ix w5 => ∃ j : Nat, j ≤ vl.length ∧ ix = .int .i64 j ∧ Own w5 tg0 (tLM i kk) 30 9 (.slice vo vl.length vc) vl.length (mC (List.replicate j (mkY M) ++ vl.drop j)) ∧ Stp (fun U => U = tLM i kk) W0 tg0 w5 tg0) (fun ix _ => vl.length - (intOf ix).toNat)
      case atStart => exact ⟨0, Nat.zero_le _, rfl, by simpa using unhide HV0, Stp.refl _ _ _⟩
      case round =>
        clear c5
        obtain ⟨j, hj, rfl, ho, hs⟩ := hrel
        have hm_wr := (hs.keep mb (unhide hml) (by rw [unhide hmb]; simp)).1.trans (unhide hmh)
        have mwr0 : wr.cell? ⟨mb, 0, none⟩ = some (.int .i64 M) := cell_of_row wr mb 0 _ _ _ hm_wr
        have mwr1 : wr.cell? ⟨mb, 1, none⟩ = some (.int .i64 0) := cell_of_row wr mb 1 _ _ _ hm_wr
        have mwr2 : wr.cell? ⟨mb, 2, none⟩ = some (.int .i64 0) := cell_of_row wr mb 2 _ _ _ hm_wr
        have mwr3 : wr.cell? ⟨mb, 3, none⟩ = some (.int .i64 0) := cell_of_row wr mb 3 _ _ _ hm_wr
        have mwr4 : wr.cell? ⟨mb, 4, none⟩ = some (.int .i64 0) := cell_of_row wr mb 4 _ _ _ hm_wr
        have mwr5 : wr.cell? ⟨mb, 5, none⟩ = some (.int .i64 0) := cell_of_row wr mb 5 _ _ _ hm_wr
        have mwr6 : wr.cell? ⟨mb, 6, none⟩ = some (.int .i64 0) := cell_of_row wr mb 6 _ _ _ hm_wr
        have mwr7 : wr.cell? ⟨mb, 7, none⟩ = some (.slice none 0 0) := cell_of_row wr mb 7 _ _ _ hm_wr
        have mwr8 : wr.cell? ⟨mb, 8, none⟩ = some (.bool false) := cell_of_row wr mb 8 _ _ _ hm_wr
        by_cases hlt : j < vl.length
        · have hin : ∀ o, o < 9 → j * 9 + o < (mC (List.replicate j (mkY M) ++ vl.drop j)).length := by
            intro o ho9
            rw [mC_length, List.length_append, List.length_drop, List.length_replicate]
            omega
          have hat : ∃ g, vo = some ⟨g, 0, none⟩ ∧ ∀ o, o < 9 → wr.frozen? ⟨g, j * 9 + o, none⟩ = false ∧ ∃ a, wr.cell? ⟨g, j * 9 + o, none⟩ = some a := by
            obtain ⟨g, hg, _, _⟩ := owns_at ho.1 (hin 0 (by decide))
            refine ⟨g, hg, fun o ho9 => ?_⟩
            obtain ⟨g2, hg2, h1, h2⟩ := owns_at ho.1 (hin o ho9)
            rw [hg] at hg2
            simp only [Option.some.injEq, Addr.mk.injEq, and_true] at hg2
            subst hg2
            exact ⟨h1, _, h2⟩
          obtain ⟨vg, rfl, hat⟩ := hat
          have tv := ho.2 vg rfl
          obtain ⟨g0, y0, d0⟩ : wr.frozen? ⟨vg, j * 9, none⟩ = false ∧ ∃ a, wr.cell? ⟨vg, j * 9, none⟩ = some a := hat 0 (by decide)
          obtain ⟨g1, y1, d1⟩ : wr.frozen? ⟨vg, j * 9 + 1, none⟩ = false ∧ ∃ a, wr.cell? ⟨vg, j * 9 + 1, none⟩ = some a := hat 1 (by decide)
          obtain ⟨g2, y2, d2⟩ : wr.frozen? ⟨vg, j * 9 + 2, none⟩ = false ∧ ∃ a, wr.cell? ⟨vg, j * 9 + 2, none⟩ = some a := hat 2 (by decide)
          obtain ⟨g3, y3, d3⟩ : wr.frozen? ⟨vg, j * 9 + 3, none⟩ = false ∧ ∃ a, wr.cell? ⟨vg, j * 9 + 3, none⟩ = some a := hat 3 (by decide)
          obtain ⟨g4, y4, d4⟩ : wr.frozen? ⟨vg, j * 9 + 4, none⟩ = false ∧ ∃ a, wr.cell? ⟨vg, j * 9 + 4, none⟩ = some a := hat 4 (by decide)
          obtain ⟨g5, y5, d5⟩ : wr.frozen? ⟨vg, j * 9 + 5, none⟩ = false ∧ ∃ a, wr.cell? ⟨vg, j * 9 + 5, none⟩ = some a := hat 5 (by decide)
          obtain ⟨g6, y6, d6⟩ : wr.frozen? ⟨vg, j * 9 + 6, none⟩ = false ∧ ∃ a, wr.cell? ⟨vg, j * 9 + 6, none⟩ = some a := hat 6 (by decide)
          obtain ⟨g7, y7, d7⟩ : wr.frozen? ⟨vg, j * 9 + 7, none⟩ = false ∧ ∃ a, wr.cell? ⟨vg, j * 9 + 7, none⟩ = some a := hat 7 (by decide)
          obtain ⟨g8, y8, d8⟩ : wr.frozen? ⟨vg, j * 9 + 8, none⟩ = false ∧ ∃ a, wr.cell? ⟨vg, j * 9 + 8, none⟩ = some a := hat 8 (by decide)
          have i1 : (0 : Int) ≤ (j : Int) := by omega
          have i2 : (j : Int) < (vl.length : Int) := by omega
          have nv : ¬ vg = mb := fun hx => by rw [hx, unhide hmb] at tv; simp at tv
          have nv2 : ¬ mb = vg := fun hx => nv hx.symm
          have HOj := hide ho
          have HSj := hide hs
          have HTV := hide tv
          clear hm_wr ho hs hat hin tv
          go_wp2
          go_roundw
          case rel =>
            refine ⟨j + 1, by omega, by go_num, ?_, ?_⟩
            · rw [← replT_set vl (mkY M) j hlt]
              exact ⟨owns_set9 j (mkY M) (unhide HOj).1, (unhide HOj).2⟩
            · have hst : ∀ (W : World) (o : Nat) (u : Value), Stp (fun U => U = tLM i kk) W tg0 (W.setCell ⟨vg, o, none⟩ u) tg0 := fun W o u => Stp.setCell (a := ⟨vg, o, none⟩) (unhide HTV) u
              exact ((((((((((unhide HSj).trans (hst _ _ _)).trans (hst _ _ _)).trans (hst _ _ _)).trans (hst _ _ _)).trans (hst _ _ _)).trans (hst _ _ _)).trans (hst _ _ _)).trans (hst _ _ _)).trans (hst _ _ _))
          case measure => simp [intOf]; omega
        · have hjn : j = vl.length := by omega
          subst hjn
          have ho' : Own wr tg0 (tLM i kk) 30 9 (.slice vo vl.length vc) vl.length (rep (mk9 M) vl.length) := by
            rw [← rep_mC M]; simpa using ho
          have HO := hide ho'
          have HS := hide hs
          have HMH := hide hm_wr
          clear hm_wr ho ho' hs hlt
          go_wp2_with (at_builtin; go_must (refine wpList_append_cases rfl (.tmp 41) (.tmp 43) 62 rfl 0 30 i0 _ 9 88 Tryz.underlying62 hi hz0 hz1 hz2 rfl (by decide) (.slice vo vl.length vc) vl.length (rep (mk9 M) vl.length) rfl ((unhide HO).1.alloc _) ⟨wr.heap.size, 0, none⟩ 1 1 (rep (mk9 M) 1) rfl rfl (by exact cells_new _ _ _) (rep9_one M _) (by decide) (by unfold maxLen; omega) (by omega) (Nat.zero_le _) ?_))
          intro g1 q1 w1 hown1 hc1
          obtain ⟨tg1', HO1, HS1', GD1, _⟩ := mark_push rfl (by simp) (unhide HO) hown1 hc1 (by decide)
          have HM1 := HS1'.keep mb (Nat.lt_of_lt_of_le (unhide hml) (unhide HS).size) (by rw [unhide hmb]; simp)
          have hm_w1 := HM1.1.trans (unhide HMH)
          have tm1 := HM1.2.trans (unhide hmb)
          have hl1 := Nat.lt_of_lt_of_le (Nat.lt_of_lt_of_le (unhide hml) (unhide HS).size) HS1'.size
          have mw10 : w1.cell? ⟨mb, 0, none⟩ = some (.int .i64 M) := cell_of_row w1 mb 0 _ _ _ hm_w1
          have mw11 : w1.cell? ⟨mb, 1, none⟩ = some (.int .i64 0) := cell_of_row w1 mb 1 _ _ _ hm_w1
          have mw12 : w1.cell? ⟨mb, 2, none⟩ = some (.int .i64 0) := cell_of_row w1 mb 2 _ _ _ hm_w1
          have mw13 : w1.cell? ⟨mb, 3, none⟩ = some (.int .i64 0) := cell_of_row w1 mb 3 _ _ _ hm_w1
          have mw14 : w1.cell? ⟨mb, 4, none⟩ = some (.int .i64 0) := cell_of_row w1 mb 4 _ _ _ hm_w1
          have mw15 : w1.cell? ⟨mb, 5, none⟩ = some (.int .i64 0) := cell_of_row w1 mb 5 _ _ _ hm_w1
          have mw16 : w1.cell? ⟨mb, 6, none⟩ = some (.int .i64 0) := cell_of_row w1 mb 6 _ _ _ hm_w1
          have mw17 : w1.cell? ⟨mb, 7, none⟩ = some (.slice none 0 0) := cell_of_row w1 mb 7 _ _ _ hm_w1
          have mw18 : w1.cell? ⟨mb, 8, none⟩ = some (.bool false) := cell_of_row w1 mb 8 _ _ _ hm_w1
          replace HO1 := hide HO1
          replace HS1' := hide ((unhide HS).trans HS1')
          replace GD1 := hide GD1
          replace hm_w1 := hide hm_w1
          replace tm1 := hide tm1
          replace hl1 := hide hl1
          clear hown1 hc1 HM1 mwr0 mwr1 mwr2 mwr3 mwr4 mwr5 mwr6 mwr7 mwr8 HO HS HMH
          go_wp2_with (at_builtin; go_must (refine wpList_append_cases rfl (.tmp 45) (.tmp 48) 62 rfl 0 30 i0 _ 9 88 Tryz.underlying62 hi hz0 hz1 hz2 rfl (by decide) (.slice vo vl.length vc) vl.length (rep (mk9 M) vl.length) rfl ((unhide HO1).1.alloc _) ⟨w1.heap.size, 0, none⟩ 2 2 (rep (mk9 M) 2) rfl rfl (by exact cells_new _ _ _) (rep9_one M _) (by decide) (by unfold maxLen; omega) (by omega) (Nat.zero_le _) ?_))
          intro g2 q2 w2 hown2 hc2
          obtain ⟨tg2, HO2, HS2, GD2, GP2⟩ := mark_push rfl (by simp) (unhide HO1) hown2 hc2 (by decide)
          have GD12 := hide (GP2 _ _ (unhide GD1) (by omega))
          have HM2 := HS2.keep mb (unhide hl1) (by rw [unhide tm1]; simp)
          have hm_w2 := HM2.1.trans (unhide hm_w1)
          have mw20 : w2.cell? ⟨mb, 0, none⟩ = some (.int .i64 M) := cell_of_row w2 mb 0 _ _ _ hm_w2
          have mw21 : w2.cell? ⟨mb, 1, none⟩ = some (.int .i64 0) := cell_of_row w2 mb 1 _ _ _ hm_w2
          have mw22 : w2.cell? ⟨mb, 2, none⟩ = some (.int .i64 0) := cell_of_row w2 mb 2 _ _ _ hm_w2
          have mw23 : w2.cell? ⟨mb, 3, none⟩ = some (.int .i64 0) := cell_of_row w2 mb 3 _ _ _ hm_w2
          have mw24 : w2.cell? ⟨mb, 4, none⟩ = some (.int .i64 0) := cell_of_row w2 mb 4 _ _ _ hm_w2
          have mw25 : w2.cell? ⟨mb, 5, none⟩ = some (.int .i64 0) := cell_of_row w2 mb 5 _ _ _ hm_w2
          have mw26 : w2.cell? ⟨mb, 6, none⟩ = some (.int .i64 0) := cell_of_row w2 mb 6 _ _ _ hm_w2
          have mw27 : w2.cell? ⟨mb, 7, none⟩ = some (.slice none 0 0) := cell_of_row w2 mb 7 _ _ _ hm_w2
          have mw28 : w2.cell? ⟨mb, 8, none⟩ = some (.bool false) := cell_of_row w2 mb 8 _ _ _ hm_w2
          replace HO2 := hide HO2
          replace HS2 := hide ((unhide HS1').trans HS2)
          replace GD2 := hide GD2
          clear hown2 hc2 HM2 hm_w2 mw10 mw11 mw12 mw13 mw14 mw15 mw16 mw17 mw18 HO1 HS1' GD1 GP2 hm_w1 tm1 hl1
          go_wp2_with (at_builtin; go_must (refine wpList_append_cases rfl (.tmp 50) (.tmp 54) 62 rfl 0 30 i0 _ 9 88 Tryz.underlying62 hi hz0 hz1 hz2 rfl (by decide) (.slice vo vl.length vc) vl.length (rep (mk9 M) vl.length) rfl ((unhide HO2).1.alloc _) ⟨w2.heap.size, 0, none⟩ 3 3 (rep (mk9 M) 3) rfl rfl (by exact cells_new _ _ _) (rep9_one M _) (by decide) (by unfold maxLen; omega) (by omega) (Nat.zero_le _) ?_))
          intro g3 q3 w3 hown3 hc3
          obtain ⟨tg3, HO3, HS3, GD3, GP3⟩ := mark_push rfl (by simp) (unhide HO2) hown3 hc3 (by decide)
          have GD13 := hide (GP3 _ _ (unhide GD12) (by omega))
          have GD23 := hide (GP3 _ _ (unhide GD2) (by omega))
          replace HS3 := (unhide HS2).trans HS3
          have HX3 := hide ((unhide HX0).step HS3 (by simp))
          obtain ⟨hG3, hg3⟩ := (unhide HG0).1.step (unhide HG0).2 HS3 (by simp)
          have k5 := hG3.c5
          simp only at k5
          have f5 := hG3.free 5
          replace HS3 := hide HS3
          replace HO3 := hide HO3
          replace GD3 := hide GD3
          replace hG3 := hide hG3
          replace hg3 := hide hg3
          clear hown3 hc3 GP3 mw20 mw21 mw22 mw23 mw24 mw25 mw26 mw27 mw28 HO2 HS2 GD2 GD12
          go_wp2_with (at_builtin; go_must (refine wpList_append_lies _ rfl (.tmp 60) (.tmp 65) 48 rfl 0 62 i9 _ 1 24 Tryz.underlying48 hi9 hy0 hy1 hy2 rfl (by decide) b.m N1 xs rfl ((unhide HX3).1.alloc _) ⟨w3.heap.size, 0, none⟩ 4 4 [.slice vo vl.length vc, .slice (some ⟨g1, 0, none⟩) (vl.length + 1) q1, .slice (some ⟨g2, 0, none⟩) (vl.length + 2) q2, .slice (some ⟨g3, 0, none⟩) (vl.length + 3) q3] rfl rfl (by exact cells_new _ _ _) (by intro u hu; simp at hu; rcases hu with rfl | rfl | rfl | rfl <;> rfl) (by decide) (by unfold maxLen; omega) (by omega) (Nat.zero_le _) (w3.heap.size + 1) (by simp) ?_))
          intro g4 q4 w4 hown4 hgrow4 hat4 hlt4
          obtain ⟨tg4, HO4, HS4⟩ := (unhide HX3).pushed hgrow4 hown4 hat4
          obtain ⟨hG4, hg4⟩ := (unhide hG3).step (unhide hg3) HS4 (by simp)
          have k5' := hG4.c5
          have f5' := hG4.free 5
          replace HO4 := hide HO4
          replace HS4 := hide HS4
          replace hG4 := hide hG4
          replace hg4 := hide hg4
          clear hown4 hgrow4 hat4 hlt4 k5 f5
          go_wp2
          go_end0
          exact ⟨rfl, mark_finM (b := b) (unhide HMS).1 (unhide HN1) (unhide HM) (by simpa using (unhide HX).1.1) (unhide HW) (unhide HV).row (unhide HS1) (unhide hs0) (unhide HS3) (unhide HS4) (unhide HE1) (unhide HO3) (unhide GD13) (unhide GD23) (unhide GD3) (unhide HO4) (unhide hG4) (unhide hg4)⟩

end Go.Proofs.YteiecbkfganhnaaGreat

namespace Go.Proofs.YteiecbkfganhnaaGreat

open Go.RowKit Go.MuLone

theorem texts_below {w w' : World} {v : Value} {es : List ByteArray} (h : TextsIn w v es) (hb : Below w.heap.size w w') : TextsIn w' v es := by
  obtain ⟨ao, cap, hv, hc, he⟩ := h
  refine ⟨ao, cap, hv, hc, fun k e hk => ?_⟩
  obtain ⟨b, off, ha, h1⟩ := he k e hk
  exact ⟨b, off, ha, (hb.cell (p := ⟨b, _, none⟩) (block_lt_of_cell h1)).trans h1⟩

set_option maxRecDepth 100000 in
set_option maxHeartbeats 2000000 in
theorem waits_all (i gb : Nat) (w : World) (tg : Tags) (c0 c1 c2 c3 : Value) (b : BV) (l : List (List Ent)) (lm : List (List Msg)) (l2 : List (List ByteArray))
    (hG : GameBlk w gb c0 c1 c2 c3 b) (hE : WaitE i w tg b.we b.re l) (hM : WaitM i w tg b.wm b.rm lm) (hT : WaitT i w tg b.wt b.rt l2) (hl : l.length ≤ 1000000000) (hlm : lm.length ≤ 1000000000) (hl2 : l2.length ≤ 1000000000) :
    Calls Tryz.prog 37 #[.pointer (some ⟨gb, 4, none⟩)] w fun e w' => e = .returned (.bool true) ∧ Below w.heap.size w w' := by
  obtain ⟨xs, ys, hx, hy, hwl⟩ := hE.rows
  obtain ⟨xsm, ysm, hxm, hym, hwlm⟩ := hM.rows
  obtain ⟨xs2, ys2, hx2, hy2, hwl2⟩ := hT.rows
  obtain ⟨be, bm, bt, bwe, bre, bwm, brm, bwt, brt⟩ := b
  simp only at hx hy hx2 hy2 hxm hym
  obtain ⟨a1, cap1, rfl⟩ := hx.form
  obtain ⟨a2, cap2, rfl⟩ := hy.form
  obtain ⟨a3, cap3, rfl⟩ := hx2.form
  obtain ⟨a4, cap4, rfl⟩ := hy2.form
  obtain ⟨a5, cap5, rfl⟩ := hxm.form
  obtain ⟨a6, cap6, rfl⟩ := hym.form
  have g7 := hG.c7
  have g8 := hG.c8
  have g9 := hG.c9
  have g10 := hG.c10
  have g11 := hG.c11
  have g12 := hG.c12
  simp only at g7 g8 g9 g10 g11 g12
  have HCW : Hid (∀ (wr : World) (b o : Nat) (u : Value), Below w.heap.size w wr → w.cell? ⟨b, o, none⟩ = some u → wr.cell? ⟨b, o, none⟩ = some u) := fun wr b o u hb hx => (hb.cell (p := ⟨b, o, none⟩) (block_lt_of_cell hx)).trans hx
  have HW := hide hwl
  have HWM := hide hwlm
  have HW2 := hide hwl2
  have HX := hide hx.1
  have HY := hide hy.1
  have HXM := hide hxm.1
  have HYM := hide hym.1
  have HX2 := hide hx2.1
  have HY2 := hide hy2.1
  have G7 := hide g7
  have G8 := hide g8
  have G9 := hide g9
  have G10 := hide g10
  have G11 := hide g11
  have G12 := hide g12
  clear hG hE hT hM hwl hwl2 hwlm hx hy hx2 hy2 hxm hym g7 g8 g9 g10 g11 g12
  go_enter Tryz.func37, Tryz.ntmps37
  go_wp2
  go_loopw [3, 4] (fun ok ix wr => ∃ k : Nat, k ≤ l.length ∧ ix = .int .i64 k ∧ ok = .bool true ∧ Below w.heap.size w wr) (fun _ ix _ => l.length - (intOf ix).toNat)
  case atStart => exact ⟨0, Nat.zero_le _, rfl, rfl, Below.refl _ _⟩
  case round =>
    obtain ⟨k, hk, rfl, rfl, hbw⟩ := hrel
    have j7 := unhide HCW wr _ _ _ hbw (unhide G7)
    have j8 := unhide HCW wr _ _ _ hbw (unhide G8)
    by_cases hlt : k < l.length
    · obtain ⟨hb, v, r, hv, hr, ho, hp⟩ := (unhide HW) k l[k] (by simp [hlt])
      obtain ⟨ga, rfl, e1⟩ := own_elem (unhide HX) hv
      obtain ⟨gc, rfl, e2⟩ := own_elem (unhide HY) hr
      have hcell7 := BW.cell j7
      have hcell8 := BW.cell j8
      have e3 := BW.cell (unhide HCW wr _ _ _ hbw e1)
      have e4 := BW.cell (unhide HCW wr _ _ _ hbw e2)
      have HC : Hid (∀ x : BW wr, Calls Tryz.prog 87 #[v, r] x.wd fun e w' => e = .returned (.bool true) ∧ ∃ m, w' = x.wd.drewN m) := fun x => sameEntries_eq v r l[k] x.wd (by omega) (ents_below (ents_below (ents_of_owns ho.1) hbw) x.below) (ents_below (ents_below (ents_of_owns hp.1) hbw) x.below)
      have HBW := hide hbw
      have i1 : (0 : Int) ≤ (k : Int) := by omega
      have i2 : (k : Int) < (l.length : Int) := by omega
      clear hv hr ho hp hb e1 e2 hbw hcell7 hcell8
      have HNE : Nonempty (BW wr) := ⟨⟨wr, Below.refl _ _⟩⟩
      go_upto_region 5 with fail
      replace j7 := BW.cell j7
      replace j8 := BW.cell j8
      refine wp_region_below (by kernel_rfl) (by kernel_rfl) ?_
      repeat (quiet_step ((go_at_call 87; exact BW.calls_drew (unhide HC _))))
      refine wpQuiet_nil ?_
      intro _ hw'
      obtain ⟨x, hw''⟩ := hw'
      subst hw''
      have HBX := hide ((unhide HBW).trans (x.below.mono (unhide HBW).size))
      clear j7 j8 e3 e4
      go_wp2
      go_roundw
      case rel => exact ⟨k + 1, by omega, by go_num, rfl, unhide HBX⟩
      case measure => simp [intOf]; omega
    · have HBW := hide hbw
      clear hbw j8
      go_wp2
      go_loopw [3, 6] (fun ok ix w5 => ∃ k : Nat, k ≤ lm.length ∧ ix = .int .i64 k ∧ ok = .bool true ∧ Below w.heap.size w w5) (fun _ ix _ => lm.length - (intOf ix).toNat)
      case atStart => exact ⟨0, Nat.zero_le _, rfl, rfl, unhide HBW⟩
      case round =>
        clear hlt hk j7 HBW
        obtain ⟨k, hk, rfl, rfl, hbw⟩ := hrel
        have j7 := unhide HCW wr _ _ _ hbw (unhide G9)
        have j8 := unhide HCW wr _ _ _ hbw (unhide G10)
        by_cases hlt : k < lm.length
        · obtain ⟨hb, v, r, vl, rl, hv, hr, hv2, hr2, ho, hp⟩ := (unhide HWM) k lm[k] (by simp [hlt])
          obtain ⟨ga, rfl, e1⟩ := own_elem (unhide HXM) hv
          obtain ⟨gc, rfl, e2⟩ := own_elem (unhide HYM) hr
          have e3 := BW.cell (unhide HCW wr _ _ _ hbw e1)
          have e4 := BW.cell (unhide HCW wr _ _ _ hbw e2)
          have hvl : vl.length ≤ 1000 := by
            have h9 := congrArg List.length hv2
            rw [List.length_map] at h9
            omega
          have HC : Hid (∀ x : BW wr, Calls Tryz.prog 62 #[v, r] x.wd fun e w' => e = .returned (.bool true) ∧ Below x.wd.heap.size x.wd w') := fun x => sameMessages_eq v r vl rl x.wd hvl (by rw [hv2, hr2]) (fun y hy => by have := hb.2 y.1 (by rw [← hv2]; exact List.mem_map_of_mem hy); omega) (msgs_below (msgs_below ho.reads hbw) x.below) (msgs_below (msgs_below hp.reads hbw) x.below)
          have HBW := hide hbw
          have i1 : (0 : Int) ≤ (k : Int) := by omega
          have i2 : (k : Int) < (lm.length : Int) := by omega
          clear hv hr ho hp hb e1 e2 hbw hv2 hr2 hvl
          have HNE : Nonempty (BW wr) := ⟨⟨wr, Below.refl _ _⟩⟩
          go_upto_region 10 with fail
          replace j7 := BW.cell j7
          replace j8 := BW.cell j8
          refine wp_region_below (by kernel_rfl) (by kernel_rfl) ?_
          repeat (quiet_step ((go_at_call 62; exact BW.calls (unhide HC _))))
          refine wpQuiet_nil ?_
          intro _ hw'
          obtain ⟨x, hw''⟩ := hw'
          subst hw''
          have HBX := hide ((unhide HBW).trans (x.below.mono (unhide HBW).size))
          clear j7 j8 e3 e4
          go_wp2
          go_roundw
          case rel => exact ⟨k + 1, by omega, by go_num, rfl, unhide HBX⟩
          case measure => simp [intOf]; omega
        · have HBW := hide hbw
          clear hbw j8
          go_wp2
          go_loopw [3, 8] (fun ok ix w5 => ∃ k : Nat, k ≤ l2.length ∧ ix = .int .i64 k ∧ ok = .bool true ∧ Below w.heap.size w w5) (fun _ ix _ => l2.length - (intOf ix).toNat)
          case atStart => exact ⟨0, Nat.zero_le _, rfl, rfl, unhide HBW⟩
          case round =>
            clear hlt hk j7 HBW
            obtain ⟨k, hk, rfl, rfl, hbw⟩ := hrel
            have j7 := unhide HCW wr _ _ _ hbw (unhide G11)
            have j8 := unhide HCW wr _ _ _ hbw (unhide G12)
            by_cases hlt : k < l2.length
            · obtain ⟨hb, v, r, hv, hr, ho, hp⟩ := (unhide HW2) k l2[k] (by simp [hlt])
              obtain ⟨ga, rfl, e1⟩ := own_elem (unhide HX2) hv
              obtain ⟨gc, rfl, e2⟩ := own_elem (unhide HY2) hr
              have e3 := BW.cell (unhide HCW wr _ _ _ hbw e1)
              have e4 := BW.cell (unhide HCW wr _ _ _ hbw e2)
              have HC : Hid (∀ x : BW wr, Calls Tryz.prog 49 #[v, r] x.wd fun e w' => e = .returned (.bool true) ∧ ∃ m, w' = x.wd.drewN m) := fun x => sameTexts_eq v r l2[k] x.wd (by omega) (texts_below (texts_below (texts_of_owns ho.1) hbw) x.below) (texts_below (texts_below (texts_of_owns hp.1) hbw) x.below)
              have HBW := hide hbw
              have i1 : (0 : Int) ≤ (k : Int) := by omega
              have i2 : (k : Int) < (l2.length : Int) := by omega
              clear hv hr ho hp hb e1 e2 hbw
              have HNE : Nonempty (BW wr) := ⟨⟨wr, Below.refl _ _⟩⟩
              go_upto_region 15 with fail
              replace j7 := BW.cell j7
              replace j8 := BW.cell j8
              refine wp_region_below (by kernel_rfl) (by kernel_rfl) ?_
              repeat (quiet_step ((go_at_call 49; exact BW.calls_drew (unhide HC _))))
              refine wpQuiet_nil ?_
              intro _ hw'
              obtain ⟨x, hw''⟩ := hw'
              subst hw''
              have HBX := hide ((unhide HBW).trans (x.below.mono (unhide HBW).size))
              clear j7 j8 e3 e4
              go_wp2
              go_roundw
              case rel => exact ⟨k + 1, by omega, by go_num, rfl, unhide HBX⟩
              case measure => simp [intOf]; omega
            · have HBW := hide hbw
              clear hbw j8
              go_wp2
              go_ret
              exact ⟨rfl, unhide HBW⟩

end Go.Proofs.YteiecbkfganhnaaGreat

namespace Go.Proofs.YteiecbkfganhnaaGreat

open Go.RowKit Go.MuLone

set_option maxRecDepth 100000 in
set_option maxHeartbeats 2000000 in
theorem reads_all (i gb : Nat) (w : World) (tg : Tags) (c0 c1 c2 c3 : Value) (b : BV) (ne nm nt : Nat)
    (hG : GameBlk w gb c0 c1 c2 c3 b) (hE : MarkE i w tg b.e ne) (hM : MarkM i w tg b.m nm) (hT : MarkT i w tg b.t nt) (hl : ne ≤ 1000000000) (hlm : nm ≤ 1000000000) (hl2 : nt ≤ 1000000000) :
    Calls Tryz.prog 38 #[.pointer (some ⟨gb, 4, none⟩)] w fun e w' => e = .returned (.bool true) ∧ Below w.heap.size w w' := by
  obtain ⟨xs, hx, hwl⟩ := hE.rows
  obtain ⟨xs2, hx2, hwl2⟩ := hT.rows
  obtain ⟨xsm, hxm, hwlm⟩ := hM.rows
  obtain ⟨N3, hN3⟩ : ∃ N, N = 4 * nm := ⟨_, rfl⟩
  rw [← hN3] at hxm
  have hb3 : N3 ≤ 4000000000 := by omega
  obtain ⟨N1, hN1⟩ : ∃ N, N = 4 * ne := ⟨_, rfl⟩
  obtain ⟨N2, hN2⟩ : ∃ N, N = 4 * nt := ⟨_, rfl⟩
  rw [← hN1] at hx
  rw [← hN2] at hx2
  have hb1 : N1 ≤ 4000000000 := by omega
  have hb2 : N2 ≤ 4000000000 := by omega
  clear hN1 hN2 hN3 hl hl2 hlm
  obtain ⟨be, bm, bt, bwe, bre, bwm, brm, bwt, brt⟩ := b
  simp only at hx hx2 hxm
  obtain ⟨a1, cap1, rfl⟩ := hx.form
  obtain ⟨a3, cap3, rfl⟩ := hx2.form
  obtain ⟨a5, cap5, rfl⟩ := hxm.form
  have g4 := hG.c4
  have g5 := hG.c5
  have g6 := hG.c6
  simp only at g4 g5 g6
  have hlt := hG.lt
  have HL := hide hlt
  have HW := hide hwl
  have HW2 := hide hwl2
  have HX := hide hx.1
  have HX2 := hide hx2.1
  have HWM := hide hwlm
  have HXM := hide hxm.1
  clear hG hE hT hM hwl hwl2 hwlm hx hx2 hxm hlt
  have hq := eql_entry
  go_enter Tryz.func38, Tryz.ntmps38
  go_wp2
  go_loop [3, 4] (fun ok i => ∃ k : Nat, k ≤ N1 ∧ i = .int .i64 k ∧ ok = .bool true) (fun _ i => N1 - (intOf i).toNat)
  case atStart => exact ⟨0, Nat.zero_le _, rfl, rfl⟩
  case round =>
    obtain ⟨k, hk, rfl, rfl⟩ := hrel
    by_cases hlt : k < N1
    · have hxl : xs.length = N1 := by simpa using (unhide HX).1
      obtain ⟨m, hm, ho⟩ := (unhide HW) k xs[k] (by simp)
      obtain ⟨ga, rfl, e1⟩ := own_elem (unhide HX) (k := k) (v := xs[k]) (by simp)
      obtain ⟨vo, vc, hv, hc⟩ := mark_cells ho.1
      rw [hv] at e1
      have HC := hide hc
      have i1 : (0 : Int) ≤ (k : Int) := by omega
      have i2 : (k : Int) < (N1 : Int) := by omega
      clear ho hv hc hxl
      go_wp2
      go_loop [3, 5] (fun ok i => ∃ j : Nat, j ≤ m ∧ i = .int .i64 j ∧ ok = .bool true) (fun _ i => m - (intOf i).toNat)
      case atStart => exact ⟨0, Nat.zero_le _, rfl, rfl⟩
      case round =>
        obtain ⟨j, hj, rfl, rfl⟩ := hrel
        by_cases hjt : j < m
        · obtain ⟨vb, voff, rfl, e2, e3⟩ := (unhide HC) j hjt
          have hdiv : (-1 - ((k / 4 : Nat) : Int)) = -1 - (k : Int) / 4 := by omega
          rw [hdiv] at e2
          have i3 : (0 : Int) ≤ (j : Int) := by omega
          have i4 : (j : Int) < (m : Int) := by omega
          clear hdiv
          go_wp2
          go_round
          case rel => exact ⟨j + 1, by omega, by go_num, rfl⟩
          case measure => simp [intOf]; omega
        · go_wp2
          go_round
          case rel => exact ⟨k + 1, by omega, by go_num, rfl⟩
          case measure => simp [intOf]; omega
    · go_wp2
      go_loopw [3, 6] (fun ok i wr => ∃ k : Nat, k ≤ N3 ∧ i = .int .i64 k ∧ ok = .bool true ∧ Below w.heap.size w wr) (fun _ i _ => N3 - (intOf i).toNat)
      case atStart => exact ⟨0, Nat.zero_le _, rfl, rfl, Below.refl _ _⟩
      case round =>
        clear hlt hk
        obtain ⟨k, hk, rfl, rfl, hbw⟩ := hrel
        have j5 : wr.cell? ⟨gb, 5, none⟩ = some (.slice a5 N3 cap5) := (hbw.cell (p := ⟨gb, 5, none⟩) (unhide HL)).trans g5
        replace hbw := hide hbw
        by_cases hlt : k < N3
        · have hxl : xsm.length = N3 := by simpa using (unhide HXM).1
          obtain ⟨m, hm, ho⟩ := (unhide HWM) k xsm[k] (by simp)
          obtain ⟨ga, rfl, e1⟩ := own_elem (unhide HXM) (k := k) (v := xsm[k]) (by simp)
          obtain ⟨vo, vc, hv, hc⟩ := ho
          rw [hv] at e1
          have HC := hide hc
          have HE := hide e1
          have e1' : wr.cell? ⟨ga, k, none⟩ = some (.slice vo m vc) := ((unhide hbw).cell (p := ⟨ga, k, none⟩) (block_lt_of_cell e1)).trans e1
          have i1 : (0 : Int) ≤ (k : Int) := by omega
          have i2 : (k : Int) < (N3 : Int) := by omega
          clear hv hc hxl e1
          go_wp2
          go_loopw [3, 7] (fun ok i wr => ∃ j : Nat, j ≤ m ∧ i = .int .i64 j ∧ ok = .bool true ∧ Below w.heap.size w wr) (fun _ i _ => m - (intOf i).toNat)
          case atStart => exact ⟨0, Nat.zero_le _, rfl, rfl, unhide hbw⟩
          case round =>
            obtain ⟨j, hj, rfl, rfl, hbw⟩ := hrel
            clear j5 e1'
            have j5 : wr.cell? ⟨gb, 5, none⟩ = some (.slice (some ⟨ga, 0, none⟩) N3 cap5) := (hbw.cell (p := ⟨gb, 5, none⟩) (unhide HL)).trans g5
            have e1' : wr.cell? ⟨ga, k, none⟩ = some (.slice vo m vc) := (hbw.cell (p := ⟨ga, k, none⟩) (block_lt_of_cell (unhide HE))).trans (unhide HE)
            by_cases hjt : j < m
            · obtain ⟨vb, rfl, _, _, hcell⟩ := (unhide HC) (by omega)
              have hq : ∀ q u, q < 9 → (mkM (k / 4))[q]? = some u → wr.cell? ⟨vb, j * 9 + q, none⟩ = some u := by
                intro q u hq9 hu
                have h1 : (rep (mkM (k / 4)) m)[j * 9 + q]? = some u := by
                  rw [show m = j + (1 + (m - j - 1)) by omega, rep_add, rep_add, List.getElem?_append_right (by rw [rep_length]; simp), List.getElem?_append_left (by rw [rep_length, rep_length]; simp; omega)]
                  rw [rep_length]
                  have h2 : j * 9 + q - j * (mkM (k / 4)).length = q := by simp
                  rw [h2]
                  simpa [rep] using hu
                have h3 := hcell _ _ h1
                exact (hbw.cell (p := ⟨vb, _, none⟩) (block_lt_of_cell h3)).trans h3
              have hdiv : (-1 - ((k / 4 : Nat) : Int)) = -1 - (k : Int) / 4 := by omega
              have q0 : wr.cell? ⟨vb, j * 9, none⟩ = some (.int .i64 (-1 - (k : Int) / 4)) := by rw [← hdiv]; exact hq 0 _ (by decide) rfl
              have q1 : wr.cell? ⟨vb, j * 9 + 1, none⟩ = some (.int .i64 0) := hq 1 _ (by decide) rfl
              have q2 : wr.cell? ⟨vb, j * 9 + 2, none⟩ = some (.int .i64 0) := hq 2 _ (by decide) rfl
              have q3 : wr.cell? ⟨vb, j * 9 + 3, none⟩ = some (.int .i64 0) := hq 3 _ (by decide) rfl
              have q4 : wr.cell? ⟨vb, j * 9 + 4, none⟩ = some (.int .i64 0) := hq 4 _ (by decide) rfl
              have q5 : wr.cell? ⟨vb, j * 9 + 5, none⟩ = some (.int .i64 0) := hq 5 _ (by decide) rfl
              have q6 : wr.cell? ⟨vb, j * 9 + 6, none⟩ = some (.int .i64 0) := hq 6 _ (by decide) rfl
              have q7 : wr.cell? ⟨vb, j * 9 + 7, none⟩ = some (.slice none 0 0) := hq 7 _ (by decide) rfl
              have q8 : wr.cell? ⟨vb, j * 9 + 8, none⟩ = some (.bool false) := hq 8 _ (by decide) rfl
              have i3 : (0 : Int) ≤ (j : Int) := by omega
              have i4 : (j : Int) < (m : Int) := by omega
              replace hbw := hide hbw
              clear hq hcell hdiv
              go_wp2
              go_roundw
              case rel => exact ⟨j + 1, by omega, by go_num, rfl, (unhide hbw).alloc (unhide hbw).size _⟩
              case measure => simp [intOf]; omega
            · replace hbw := hide hbw
              go_wp2
              go_roundw
              case rel => exact ⟨k + 1, by omega, by go_num, rfl, unhide hbw⟩
              case measure => simp [intOf]; omega
        · go_wp2
          go_loopw [3, 9] (fun ok i wr => ∃ k : Nat, k ≤ N2 ∧ i = .int .i64 k ∧ ok = .bool true ∧ Below w.heap.size w wr) (fun _ i _ => N2 - (intOf i).toNat)
          case atStart => exact ⟨0, Nat.zero_le _, rfl, rfl, unhide hbw⟩
          case round =>
            clear hlt hk
            obtain ⟨k, hk, rfl, rfl, hbw⟩ := hrel
            have j6 : wr.cell? ⟨gb, 6, none⟩ = some (.slice a3 N2 cap3) := (hbw.cell (p := ⟨gb, 6, none⟩) (unhide HL)).trans g6
            replace hbw := hide hbw
            by_cases hlt : k < N2
            · have hxl : xs2.length = N2 := by simpa using (unhide HX2).1
              obtain ⟨m, hm, ho⟩ := (unhide HW2) k xs2[k] (by simp)
              obtain ⟨ga, rfl, e1⟩ := own_elem (unhide HX2) (k := k) (v := xs2[k]) (by simp)
              obtain ⟨vo, vc, hv, hc⟩ := markT_cells ho.1
              rw [hv] at e1
              have HC := hide hc
              have HE := hide e1
              have e1' : wr.cell? ⟨ga, k, none⟩ = some (.slice vo m vc) := ((unhide hbw).cell (p := ⟨ga, k, none⟩) (block_lt_of_cell e1)).trans e1
              have i1 : (0 : Int) ≤ (k : Int) := by omega
              have i2 : (k : Int) < (N2 : Int) := by omega
              have i5 : decide ((k : Int) < (N2 : Int)) = true := decide_eq_true (by omega)
              clear ho hv hc hxl g4 g5 e1
              go_wp2
              go_loopw [3, 10] (fun ok i wr => ∃ j : Nat, j ≤ m ∧ i = .int .i64 j ∧ ok = .bool true ∧ Below w.heap.size w wr) (fun _ i _ => m - (intOf i).toNat)
              case atStart => exact ⟨0, Nat.zero_le _, rfl, rfl, unhide hbw⟩
              case round =>
                obtain ⟨j, hj, rfl, rfl, hbw⟩ := hrel
                clear j6 e1'
                have j6 : wr.cell? ⟨gb, 6, none⟩ = some (.slice (some ⟨ga, 0, none⟩) N2 cap3) := (hbw.cell (p := ⟨gb, 6, none⟩) (unhide HL)).trans g6
                have e1' : wr.cell? ⟨ga, k, none⟩ = some (.slice vo m vc) := (hbw.cell (p := ⟨ga, k, none⟩) (block_lt_of_cell (unhide HE))).trans (unhide HE)
                by_cases hjt : j < m
                · obtain ⟨vb, voff, rfl, e2⟩ := (unhide HC) j hjt
                  have e2' : wr.cell? ⟨vb, voff + j, none⟩ = some (.string (txt (k / 4))) := (hbw.cell (p := ⟨vb, voff + j, none⟩) (block_lt_of_cell e2)).trans e2
                  have i3 : (0 : Int) ≤ (j : Int) := by omega
                  have i4 : (j : Int) < (m : Int) := by omega
                  have hw4 : IntKind.i64.wrap ((k : Int) / 4) = (k : Int) / 4 := wrap_small _ (by omega) (by omega)
                  replace hbw := hide hbw
                  clear e2 g6
                  go_wp2_with fail
                  go_region_held3 (fun w' => w'.cell? ⟨gb, 6, none⟩ = some (.slice (some ⟨ga, 0, none⟩) N2 cap3) ∧ w'.cell? ⟨ga, k, none⟩ = some (.slice (some ⟨vb, voff, none⟩) m vc) ∧ w'.cell? ⟨vb, voff + j, none⟩ = some (.string (txt (k / 4)))) (go_keep) (first | (go_at_call 88; refine (text_at _ (k / 4) wr.drew (by omega) (by omega)).mono ?_; rintro e w2 ⟨rfl, hb2⟩; have z1 : w2.cell? ⟨gb, 6, none⟩ = _ := (hb2.cell (p := ⟨gb, 6, none⟩) (block_lt_of_cell j6)).trans j6; have z2 : w2.cell? ⟨ga, k, none⟩ = _ := (hb2.cell (p := ⟨ga, k, none⟩) (block_lt_of_cell e1')).trans e1'; have z3 : w2.cell? ⟨vb, voff + j, none⟩ = _ := (hb2.cell (p := ⟨vb, voff + j, none⟩) (block_lt_of_cell e2')).trans e2'; replace hb2 := hide hb2))
                  all_goals go_wp2
                  all_goals go_roundw
                  case rel => first | exact ⟨j + 1, by omega, by go_num, rfl, (unhide hbw).trans ((Below.undrew (unhide hb2)).mono (unhide hbw).size)⟩ | ((repeat apply Exists.intro); refine ⟨?_, rfl⟩; exact ⟨j + 1, by omega, by go_num, rfl, (unhide hbw).trans ((Below.undrew (unhide hb2)).mono (unhide hbw).size)⟩)
                  case measure => simp [intOf]; omega
                · replace hbw := hide hbw
                  go_wp2
                  go_roundw
                  case rel => exact ⟨k + 1, by omega, by go_num, rfl, unhide hbw⟩
                  case measure => simp [intOf]; omega
            · go_wp2
              go_ret
              exact ⟨rfl, unhide hbw⟩

end Go.Proofs.YteiecbkfganhnaaGreat

namespace Go.Proofs.YteiecbkfganhnaaGreat

open Go.RowKit Go.MuLone

/-- A game's block with its book: lists that wait, lists that are marked. -/
structure Bm (i gb : Nat) (w : World) (tg : Tags) (c0 c1 c2 c3 : Value) (b : BV) (l : List (List Ent)) (lm : List (List Msg)) (l2 : List (List ByteArray)) (ne nm nt : Nat) : Prop where
  G : GameBlk w gb c0 c1 c2 c3 b
  g : tg gb = tG i
  E : WaitE i w tg b.we b.re l
  M : WaitM i w tg b.wm b.rm lm
  T : WaitT i w tg b.wt b.rt l2
  ME : MarkE i w tg b.e ne
  MM : MarkM i w tg b.m nm
  MT : MarkT i w tg b.t nt

section

variable {i gb : Nat} {w w' : World} {tg tg' : Tags} {c0 c1 c2 c3 : Value} {b : BV} {l : List (List Ent)} {lm : List (List Msg)} {l2 : List (List ByteArray)} {ne nm nt : Nat}

theorem Bm.step {A : Nat × Nat → Prop} (h : Bm i gb w tg c0 c1 c2 c3 b l lm l2 ne nm nt) (hs : Stp A w tg w' tg') (hA : ∀ U, Abook i U → ¬ A U) (h0 : ¬ A (0, 0)) : Bm i gb w' tg' c0 c1 c2 c3 b l lm l2 ne nm nt := by
  have hG := h.G.step h.g hs (hA _ ⟨by simp, by simp⟩)
  exact ⟨hG.1, hG.2, h.E.step hs (hA _ ⟨by simp, by simp⟩) (hA _ ⟨by simp, by simp⟩) (fun k => hA _ ⟨by simp, by simp⟩) h0,
    h.M.step hs (hA _ ⟨by simp, by simp⟩) (hA _ ⟨by simp, by simp⟩) (fun k => hA _ ⟨by simp, by simp⟩) (fun k j => hA _ ⟨by simp, by simp⟩) h0,
    h.T.step hs (hA _ ⟨by simp, by simp⟩) (hA _ ⟨by simp, by simp⟩) (fun k => hA _ ⟨by simp, by simp⟩) h0,
    h.ME.step hs (hA _ ⟨by simp, by simp⟩) h0, h.MM.step hs (hA _ ⟨by simp, by simp⟩) h0, h.MT.step hs (hA _ ⟨by simp, by simp⟩) h0⟩

theorem waitM_nil (i : Nat) (w : World) (tg : Tags) : WaitM i w tg (.slice none 0 0) (.slice none 0 0) [] := ⟨[], [], Own.nil _ _ _ _ _, Own.nil _ _ _ _ _, fun k es h => by simp at h⟩

/-- A book with nothing that waits. -/
def SettledM (i gb : Nat) (w : World) (tg : Tags) (c0 c1 c2 c3 : Value) (ne nm nt : Nat) (w' : World) : Prop :=
  ∃ b tg' ne', ne' ≤ ne ∧ Bm i gb w' tg' c0 c1 c2 c3 b [] [] [] ne' nm nt ∧ Stp (Abook i) w tg w' tg'

abbrev A3 (i k : Nat) : Nat × Nat → Prop := fun U => U = tG i ∨ U = tE i ∨ U = tM i ∨ (∃ j, j < k ∧ U = tLM i j) ∨ ∃ j q, j < k ∧ q < 8 ∧ U = tLX i j q

theorem emptied_bm (hG : GameBlk w gb c0 c1 c2 c3 b) (hg : tg gb = tG i) (hE : MarkE i w tg b.e ne) (hM : MarkM i w tg b.m nm) (hT : MarkT i w tg b.t nt) :
    Bm i gb (emptied w gb) tg c0 c1 c2 c3 { b with we := .slice none 0 0, re := .slice none 0 0, wm := .slice none 0 0, rm := .slice none 0 0, wt := .slice none 0 0, rt := .slice none 0 0 } [] [] [] ne nm nt ∧ Stp (fun U => U = tG i) w tg (emptied w gb) tg := by
  have hs : Stp (fun U => U = tG i) w tg (emptied w gb) tg :=
    (((((Stp.setCell (a := ⟨gb, 7, none⟩) hg _).trans (Stp.setCell (a := ⟨gb, 8, none⟩) hg _)).trans (Stp.setCell (a := ⟨gb, 9, none⟩) hg _)).trans (Stp.setCell (a := ⟨gb, 10, none⟩) hg _)).trans (Stp.setCell (a := ⟨gb, 11, none⟩) hg _)).trans (Stp.setCell (a := ⟨gb, 12, none⟩) hg _)
  exact ⟨⟨(((((hG.setWE _).setRE _).setWM _).setRM _).setWT _).setRT _, hg, waitE_nil _ _ _, waitM_nil _ _ _, waitT_nil _ _ _, hE.step hs (by simp) (by simp), hM.step hs (by simp) (by simp), hT.step hs (by simp) (by simp)⟩, hs⟩

theorem settled_finM {W wr w4 w5 w7 : World} {tg1 tg3 tg2 tg0 : Tags} {ne2 ne3 k1 k2 k3 : Nat} (hle : ne2 ≤ ne3) (hS : Stp (fun _ => False) w tg W tg0) (hS1 : Stp (A1 i k1) W tg0 wr tg1) (hS3 : Stp (A3 i k3) wr tg1 w4 tg3) (hS2 : Stp (A2 i k2) w4 tg3 w5 tg2)
    (hS4 : Stp (fun U => U = tG i) w5 tg2 (emptied w5 gb) tg2) (hB : Bm i gb (emptied w5 gb) tg2 c0 c1 c2 c3 b [] [] [] ne2 nm nt) (hb : Below (emptied w5 gb).heap.size (emptied w5 gb) w7) : SettledM i gb w tg c0 c1 c2 c3 ne3 nm nt w7 := by
  have h7 : Stp (fun _ => False) (emptied w5 gb) tg2 w7 (newTag (emptied w5 gb).heap.size tg2 (0, 1)) := Stp.ofBelow hb tg2 (0, 1)
  refine ⟨b, _, ne2, hle, hB.step h7 (fun _ _ h => h) (fun h => h), (((((hS.mono fun _ h => h.elim).trans (hS1.mono ?_)).trans (hS3.mono ?_)).trans (hS2.mono ?_)).trans (hS4.mono ?_)).trans (h7.mono fun _ h => h.elim)⟩
  · rintro U (h | h | ⟨j, _, h⟩) <;> subst h <;> exact ⟨by simp, by simp⟩
  · rintro U (h | h | h | ⟨j, _, h⟩ | ⟨j, q, _, _, h⟩) <;> subst h <;> exact ⟨by simp, by simp⟩
  · rintro U (h | h | ⟨j, _, h⟩) <;> subst h <;> exact ⟨by simp, by simp⟩
  · rintro U h; subst h; exact ⟨by simp, by simp⟩

end

set_option maxRecDepth 100000 in
set_option maxHeartbeats 2000000 in
theorem settles_all (i gb : Nat) (w : World) (tg : Tags) (c0 c1 c2 c3 : Value) (b : BV) (l : List (List Ent)) (lm : List (List Msg)) (l2 : List (List ByteArray)) (ne nm nt : Nat)
    (h : Bm i gb w tg c0 c1 c2 c3 b l lm l2 ne nm nt) (hl : l.length ≤ 1000) (hlm : lm.length ≤ 1000) (hl2 : l2.length ≤ 1000) (hne : ne ≤ 800000000) (hnm : nm ≤ 800000000) (hnt : nt ≤ 800000000) :
    Calls Tryz.prog 36 #[.pointer (some ⟨gb, 4, none⟩)] w fun e w' => e = .returned (.bool true) ∧ SettledM i gb w tg c0 c1 c2 c3 (ne + l.length + 7 * lm.length) (nm + lm.length) (nt + l2.length) w' := by
  have H := hide h
  clear h
  go_enter Tryz.func36, Tryz.ntmps36
  go_wp2_with (go_at_call 37; refine (waits_all i gb w tg c0 c1 c2 c3 b l lm l2 (unhide H).G (unhide H).E (unhide H).M (unhide H).T (by omega) (by omega) (by omega)).mono ?_; rintro e W ⟨rfl, hW⟩; replace hW := hide hW)
  have HS : Hid (Stp (fun _ => False) w tg W (newTag w.heap.size tg (0, 1))) := Stp.ofBelow (unhide hW) tg (0, 1)
  have HB : Hid (Bm i gb W (newTag w.heap.size tg (0, 1)) c0 c1 c2 c3 b l lm l2 ne nm nt) := (unhide H).step (unhide HS) (fun _ _ h => h) (fun h => h)
  generalize newTag w.heap.size tg (0, 1) = tg0 at *
  clear hW H
  go_loopw [4] (fun ix wr => ∃ k : Nat, k ≤ l.length ∧ ix = .int .i64 k ∧ ∃ e tg', GameBlk wr gb c0 c1 c2 c3 { b with e := e } ∧ tg' gb = tG i ∧ MarkE i wr tg' e (ne + k) ∧ Stp (A1 i k) W tg0 wr tg') (fun ix _ => l.length - (intOf ix).toNat)
  case atStart => exact ⟨0, Nat.zero_le _, rfl, b.e, tg0, (unhide HB).G, (unhide HB).g, (unhide HB).ME, Stp.refl _ _ _⟩
  case round =>
    obtain ⟨k, hk, rfl, e, tg1, hG, hg, hM, hS⟩ := hrel
    obtain ⟨xs, ys, hx, hy, hwl⟩ := (unhide HB).E.rows
    obtain ⟨ao, cap, hwe⟩ := hx.form
    have g7 : wr.cell? ⟨gb, 7, none⟩ = some (.slice ao l.length cap) := by rw [← hwe]; exact hG.c7
    by_cases hlt : k < l.length
    · obtain ⟨hb, v, r, hv, hr, ho, hp⟩ := hwl k l[k] (by simp [hlt])
      have hx1 := hx.step hS (by simp)
      rw [hwe] at hx1
      obtain ⟨ga, rfl, e1⟩ := own_elem hx1.1 hv
      have ho1 := ho.step hS (by simp)
      have i1 : (0 : Int) ≤ (k : Int) := by omega
      have i2 : (k : Int) < (l.length : Int) := by omega
      have HC := hide (markEntries_any i gb wr tg1 c0 c1 c2 c3 { b with e := e } (ne + k) (tLE i k) v l[k] hG hg hM ho1 (by simp) (by simp) (by simp) (by simp) hb (by omega))
      replace hS := hide hS
      clear hG hg hM hx hy hwl hwe hv hr ho hp hx1 ho1 hb
      go_wp2_with (go_at_call 84; refine (unhide HC).mono ?_; rintro e w2 ⟨rfl, hM2⟩)
      go_wp2
      go_roundw
      case rel =>
        obtain ⟨e3, tg3, h1, h2, h3, h4⟩ := hM2
        refine ⟨k + 1, by omega, by go_num, e3, tg3, h1, h2, h3, ?_⟩
        refine ((unhide hS).mono ?_).trans (h4.mono ?_)
        · rintro U (h | h | ⟨j, hj, h⟩)
          · exact .inl h
          · exact .inr (.inl h)
          · exact .inr (.inr ⟨j, by omega, h⟩)
        · rintro U (h | h | h)
          · exact .inl h
          · exact .inr (.inl h)
          · exact .inr (.inr ⟨k, by omega, h⟩)
      case measure => simp [intOf]; omega
    · have hkl : k = l.length := by omega
      subst hkl
      have HG1 := hide hG
      have Hg1 := hide hg
      have HM1 := hide hM
      have HS1 := hide hS
      clear hG hg hM hS hx hy hwl hwe hlt
      go_wp2
      go_loopw [5] (fun ix w5 => ∃ (k : Nat) (e m : Value) (tg' : Tags) (ne2 : Nat), k ≤ lm.length ∧ ix = .int .i64 k ∧ ne2 ≤ ne + l.length + 7 * k ∧ GameBlk w5 gb c0 c1 c2 c3 { b with e := e, m := m } ∧ tg' gb = tG i ∧ MarkE i w5 tg' e ne2 ∧ MarkM i w5 tg' m (nm + k) ∧ Stp (A3 i k) wr tg1 w5 tg') (fun ix _ => lm.length - (intOf ix).toNat)
      case atStart => exact ⟨0, e, b.m, tg1, ne + l.length, Nat.zero_le _, rfl, by omega, unhide HG1, unhide Hg1, unhide HM1, (unhide HB).MM.step (unhide HS1) (by simp) (by simp), Stp.refl _ _ _⟩
      case round =>
        clear g7
        obtain ⟨k, e2, m2, tg2, ne2, hk, rfl, hne2, hG, hg, hE2, hM2, hS⟩ := hrel
        obtain ⟨xs, ys, hx, hy, hwl⟩ := (unhide HB).M.rows
        obtain ⟨ao2, cap2, hwe⟩ := hx.form
        have g9 := hG.c9
        simp only [hwe] at g9
        by_cases hlt : k < lm.length
        · obtain ⟨hb, v, r, vl, rl, hv, hr, hv2, hr2, ho, hp⟩ := hwl k lm[k] (by simp [hlt])
          have hx1 := (hx.step (unhide HS1) (by simp)).step hS (by simp)
          rw [hwe] at hx1
          obtain ⟨ga, rfl, e1⟩ := own_elem hx1.1 hv
          have hvl : vl.length ≤ 7 := by
            have h9 := congrArg List.length hv2
            rw [List.length_map] at h9
            omega
          have hvs : ∀ y ∈ vl, y.1.ents.length ≤ 3 := fun y hy => hb.2 y.1 (by rw [← hv2]; exact List.mem_map_of_mem hy)
          have ho1 := (ho.step (unhide HS1) (by simp) (fun j _ => by simp)).step hS (by simp) (fun j hj => by
            rintro (h | h | h | ⟨j2, _, h⟩ | ⟨j2, q, hj2, hq, h⟩)
            · simp at h
            · simp at h
            · simp at h
            · simp at h
            · simp at h; omega)
          have i1 : (0 : Int) ≤ (k : Int) := by omega
          have i2 : (k : Int) < (lm.length : Int) := by omega
          have HC := hide (markMessages_any i gb _ tg2 c0 c1 c2 c3 { b with e := e2, m := m2 } ne2 (nm + k) k v vl hG hg hE2 hM2 ho1 ⟨hvl, hvs⟩ (by omega) (by omega))
          replace hS := hide hS
          have HVL := hide hvl
          clear hG hg hE2 hM2 hx hy hwl hwe hv hr hv2 hr2 ho hp hx1 ho1 hb hvs hvl
          go_wp2_with (go_at_call 85; refine (unhide HC).mono ?_; rintro e w2 ⟨rfl, hM2⟩)
          go_wp2
          go_roundw
          case rel =>
            obtain ⟨e3, m3, tg3, h1, h2, h3, h4, h5⟩ := hM2
            have hvl := unhide HVL
            refine ⟨k + 1, e3, m3, tg3, ne2 + vl.length, by omega, by go_num, by omega, h1, h2, h3, h4, ?_⟩
            refine ((unhide hS).mono ?_).trans (h5.mono ?_)
            · rintro U (h | h | h | ⟨j, hj, h⟩ | ⟨j, q, hj, hq, h⟩)
              · exact .inl h
              · exact .inr (.inl h)
              · exact .inr (.inr (.inl h))
              · exact .inr (.inr (.inr (.inl ⟨j, by omega, h⟩)))
              · exact .inr (.inr (.inr (.inr ⟨j, q, by omega, hq, h⟩)))
            · rintro U (h | h | h | h | ⟨j, hj, h⟩)
              · exact .inl h
              · exact .inr (.inl h)
              · exact .inr (.inr (.inl h))
              · exact .inr (.inr (.inr (.inl ⟨k, by omega, h⟩)))
              · exact .inr (.inr (.inr (.inr ⟨k, j, by omega, by omega, h⟩)))
          case measure => simp [intOf]; omega
        · have hkl : k = lm.length := by omega
          subst hkl
          have HG3 := hide hG
          have Hg3 := hide hg
          have HE3 := hide hE2
          have HM3 := hide hM2
          have HS3 := hide hS
          have HNE2 := hide hne2
          have hbig : ne2 ≤ 900000000 := by omega
          clear hG hg hE2 hM2 hS hx hy hwl hwe hlt hne2 HG1 Hg1 HM1
          go_wp2
          go_loopw [6] (fun ix w5 => ∃ k : Nat, k ≤ l2.length ∧ ix = .int .i64 k ∧ ∃ t tg', GameBlk w5 gb c0 c1 c2 c3 { b with e := e2, m := m2, t := t } ∧ tg' gb = tG i ∧ MarkT i w5 tg' t (nt + k) ∧ Stp (A2 i k) wr tg2 w5 tg') (fun ix _ => l2.length - (intOf ix).toNat)
          case atStart => exact ⟨0, Nat.zero_le _, rfl, b.t, tg2, unhide HG3, unhide Hg3, ((unhide HB).MT.step (unhide HS1) (by simp) (by simp)).step (unhide HS3) (by simp) (by simp), Stp.refl _ _ _⟩
          case round =>
            clear g9
            obtain ⟨k, hk, rfl, t, tg3, hG, hg, hM, hS⟩ := hrel
            obtain ⟨xs, ys, hx, hy, hwl⟩ := (unhide HB).T.rows
            obtain ⟨ao2, cap2, hwe⟩ := hx.form
            have g11 := hG.c11
            simp only [hwe] at g11
            by_cases hlt : k < l2.length
            · obtain ⟨hb, v, r, hv, hr, ho, hp⟩ := hwl k l2[k] (by simp [hlt])
              have hx1 := ((hx.step (unhide HS1) (by simp)).step (unhide HS3) (by simp)).step hS (by simp)
              rw [hwe] at hx1
              obtain ⟨ga, rfl, e1⟩ := own_elem hx1.1 hv
              have ho1 := ((ho.step (unhide HS1) (by simp)).step (unhide HS3) (by simp)).step hS (by simp)
              have i1 : (0 : Int) ≤ (k : Int) := by omega
              have i2 : (k : Int) < (l2.length : Int) := by omega
              have HC := hide (markTexts_any i gb wr tg3 c0 c1 c2 c3 { b with e := e2, m := m2, t := t } (nt + k) (tLT i k) v l2[k] hG hg hM ho1 (by simp) (by simp) (by simp) hb (by omega))
              replace hS := hide hS
              clear hG hg hM hx hy hwl hwe hv hr ho hp hx1 ho1 hb
              go_wp2_with (go_at_call 86; refine (unhide HC).mono ?_; rintro e w2 ⟨rfl, hM2⟩)
              go_wp2
              go_roundw
              case rel =>
                obtain ⟨e3, tg4, h1, h2, h3, h4⟩ := hM2
                refine ⟨k + 1, by omega, by go_num, e3, tg4, h1, h2, h3, ?_⟩
                refine ((unhide hS).mono ?_).trans (h4.mono ?_)
                · rintro U (h | h | ⟨j, hj, h⟩)
                  · exact .inl h
                  · exact .inr (.inl h)
                  · exact .inr (.inr ⟨j, by omega, h⟩)
                · rintro U (h | h | h)
                  · exact .inl h
                  · exact .inr (.inl h)
                  · exact .inr (.inr ⟨k, by omega, h⟩)
              case measure => simp [intOf]; omega
            · have hkl : k = l2.length := by omega
              subst hkl
              have HG2 := hide hG
              have Hg2 := hide hg
              have HM2 := hide hM
              have HS2 := hide hS
              have k7 := hG.c7
              have k8 := hG.c8
              have k9 := hG.c9
              have k10 := hG.c10
              have k12 := hG.c12
              have f7 := hG.free 7
              have f8 := hG.free 8
              have f9 := hG.free 9
              have f10 := hG.free 10
              have f11 := hG.free 11
              have f12 := hG.free 12
              clear hG hg hM hS hx hy hwl hwe
              have HE2 := hide ((unhide HE3).step (unhide HS2) (by simp) (by simp))
              have HMM2 := hide ((unhide HM3).step (unhide HS2) (by simp) (by simp))
              have HZ := hide (emptied_bm (unhide HG2) (unhide Hg2) (unhide HE2) (unhide HMM2) (unhide HM2))
              go_wp2_with (go_at_call 38; refine (reads_all i gb _ tg3 c0 c1 c2 c3 _ _ _ _ (by exact (unhide HZ).1.G) (by exact (unhide HZ).1.ME) (by exact (unhide HZ).1.MM) (by exact (unhide HZ).1.MT) (by omega) (by omega) (by omega)).mono ?_; rintro e w7 ⟨rfl, hb7⟩; replace hb7 := hide hb7)
              go_ret
              exact ⟨rfl, settled_finM (unhide HNE2) (unhide HS) (unhide HS1) (unhide HS3) (unhide HS2) (unhide HZ).2 (unhide HZ).1 (unhide hb7)⟩

/-- Behind looks: the book as it was, or settled. -/
def LookedM (i gb : Nat) (w : World) (tg : Tags) (c0 c1 c2 c3 : Value) (l : List (List Ent)) (lm : List (List Msg)) (l2 : List (List ByteArray)) (ne nm nt : Nat) (w' : World) : Prop :=
  ∃ b' l' lm' l2' tg' ne' nm' nt', Bm i gb w' tg' c0 c1 c2 c3 b' l' lm' l2' ne' nm' nt' ∧ Stp (Abook i) w tg w' tg' ∧ l'.length ≤ 7 ∧ lm'.length ≤ 7 ∧ l2'.length ≤ 7 ∧ ne' ≤ ne + l.length + 7 * lm.length ∧ nm' ≤ nm + lm.length ∧ nt' ≤ nt + l2.length

set_option maxRecDepth 100000 in
set_option maxHeartbeats 2000000 in
theorem looks_all (i gb : Nat) (w : World) (tg : Tags) (c0 c1 c2 c3 : Value) (b : BV) (l : List (List Ent)) (lm : List (List Msg)) (l2 : List (List ByteArray)) (ne nm nt : Nat)
    (h : Bm i gb w tg c0 c1 c2 c3 b l lm l2 ne nm nt) (hl : l.length ≤ 1000) (hlm : lm.length ≤ 1000) (hl2 : l2.length ≤ 1000) (hne : ne ≤ 800000000) (hnm : nm ≤ 800000000) (hnt : nt ≤ 800000000) :
    Calls Tryz.prog 19 #[.pointer (some ⟨gb, 4, none⟩)] w fun e w' => e = .returned (.bool true) ∧ LookedM i gb w tg c0 c1 c2 c3 l lm l2 ne nm nt w' := by
  obtain ⟨xs, ys, hx, hy, hwl⟩ := h.E.rows
  obtain ⟨xsm, ysm, hxm, hym, hwlm⟩ := h.M.rows
  obtain ⟨xs2, ys2, hx2, hy2, hwl2⟩ := h.T.rows
  obtain ⟨a1, cap1, e1⟩ := hx.form
  obtain ⟨a5, cap5, e5⟩ := hxm.form
  obtain ⟨a2, cap2, e2⟩ := hx2.form
  have k7 : w.cell? ⟨gb, 7, none⟩ = some (.slice a1 l.length cap1) := by rw [← e1]; exact h.G.c7
  have k9 : w.cell? ⟨gb, 9, none⟩ = some (.slice a5 lm.length cap5) := by rw [← e5]; exact h.G.c9
  have k11 : w.cell? ⟨gb, 11, none⟩ = some (.slice a2 l2.length cap2) := by rw [← e2]; exact h.G.c11
  have H := hide h
  clear h hx hy hwl hx2 hy2 hwl2 hxm hym hwlm e1 e2 e5
  by_cases hfew : l.length + lm.length + l2.length ≤ 7
  · have hd : decide (7 < (l.length : Int) + (lm.length : Int) + (l2.length : Int)) = false := decide_eq_false (by omega)
    go_enter Tryz.func19, Tryz.ntmps19
    go_wp2_with fail
    go_quiet (fail)
    go_wp2_with fail
    have HB0 := hide ((unhide H).step ((Stp.refl (fun _ => False) w tg).drewN nq) (fun _ _ h => h) (fun h => h))
    refine (waits_all i gb _ tg c0 c1 c2 c3 b l lm l2 (by exact (unhide HB0).G) (by exact (unhide HB0).E) (by exact (unhide HB0).M) (by exact (unhide HB0).T) (by omega) (by omega) (by omega)).mono ?_
    rintro e W ⟨rfl, hW⟩
    have HS1 : Hid (Stp (fun _ => False) w tg W (newTag (w.drewN nq).heap.size tg (0, 1))) := ((Stp.refl (fun _ => False) w tg).drewN nq).trans (Stp.ofBelow hW tg (0, 1))
    have HB := hide ((unhide H).step (unhide HS1) (fun _ _ h => h) (fun h => h))
    generalize newTag (w.drewN nq).heap.size tg (0, 1) = tg1 at *
    clear hW
    go_wp2_with (go_at_call 38; refine (reads_all i gb _ tg1 c0 c1 c2 c3 b ne nm nt (by exact (unhide HB).G) (by exact (unhide HB).ME) (by exact (unhide HB).MM) (by exact (unhide HB).MT) (by omega) (by omega) (by omega)).mono ?_; rintro e w7 ⟨rfl, hb7⟩; replace hb7 := hide hb7)
    go_ret
    have hS7 : Stp (fun _ => False) W tg1 w7 (newTag W.heap.size tg1 (0, 1)) := Stp.ofBelow (unhide hb7) tg1 (0, 1)
    exact ⟨rfl, b, l, lm, l2, _, ne, nm, nt, (unhide HB).step hS7 (fun _ _ h => h) (fun h => h), ((unhide HS1).trans hS7).mono (fun _ h => h.elim), by omega, by omega, by omega, by omega, by omega, by omega⟩
  · have hd : decide (7 < (l.length : Int) + (lm.length : Int) + (l2.length : Int)) = true := decide_eq_true (by omega)
    go_enter Tryz.func19, Tryz.ntmps19
    go_wp2_with fail
    go_quiet (fail)
    go_wp2_with fail
    have HB0 := hide ((unhide H).step ((Stp.refl (fun _ => False) w tg).drewN nq) (fun _ _ h => h) (fun h => h))
    refine (settles_all i gb _ tg c0 c1 c2 c3 b l lm l2 ne nm nt (by exact unhide HB0) hl hlm hl2 hne hnm hnt).mono ?_
    rintro e W ⟨rfl, b', tg', ne', hle, hB, hS⟩
    have HS1 : Hid (Stp (Abook i) w tg W tg') := ((Stp.refl (Abook i) w tg).drewN nq).trans hS
    replace hB := hide hB
    clear hS
    go_wp2
    go_ret
    exact ⟨rfl, b', [], [], [], tg', ne', _, _, unhide hB, unhide HS1, by simp, by simp, by simp, hle, Nat.le_refl _, Nat.le_refl _⟩

end Go.Proofs.YteiecbkfganhnaaGreat

namespace Go.Proofs.YteiecbkfganhnaaGreat

open Go.RowKit

set_option maxRecDepth 100000 in
set_option maxHeartbeats 1000000 in
theorem rightEntries_any (v : Value) (es : List Ent) (low high : Int) (w : World) (hn : es.length < 4611686018427387904) (hlow : 1 ≤ low) (h : EntsIn w v es) :
    Calls Tryz.prog 24 #[v, .int .i64 low, .int .i64 high] w fun e w' => e = .returned (.bool (okE es low high)) ∧ w' = w := by
  obtain ⟨ao, cap, rfl, _, ha⟩ := h
  have HA := hide ha
  clear ha
  go_enter Tryz.func24, Tryz.ntmps24
  go_wp2
  go_loop [1, 7] (fun lo i => ∃ (k : Nat) (l : Int), k ≤ es.length ∧ i = .int .i64 k ∧ lo = .int .i64 l ∧ 1 ≤ l ∧ okE es low high = okE (es.drop k) l high) (fun _ i => es.length - (intOf i).toNat)
  case atStart => exact ⟨0, low, Nat.zero_le _, rfl, rfl, hlow, rfl⟩
  case round =>
    obtain ⟨k, l, hk, rfl, rfl, hl, hok⟩ := hrel
    by_cases hlt : k < es.length
    · obtain ⟨b, off, rfl, a0, a1⟩ := (unhide HA) k _ (show es[k]? = some es[k] by simp [hlt])
      have i1 : (0 : Int) ≤ (k : Int) := by omega
      have i2 : (k : Int) < (es.length : Int) := by omega
      by_cases hbad : es[k].1 < l ∨ high < es[k].1 ∨ 20 < (es[k].2.size : Int)
      · have HK : Hid (okE es low high = false) := hok.trans (okE_bad hbad)
        clear hok
        generalize es[k].1 = t at *
        generalize es[k].2 = s at *
        by_cases h1 : t < l
        · clear hbad
          go_wp2
          go_ret
          exact ⟨by rw [unhide HK]; rfl, rfl⟩
        · by_cases h2 : high < t
          · clear hbad
            go_wp2
            go_ret
            exact ⟨by rw [unhide HK]; rfl, rfl⟩
          · have h3 : 20 < (s.size : Int) := by omega
            clear hbad
            go_wp2
            go_ret
            exact ⟨by rw [unhide HK]; rfl, rfl⟩
      · have HK : Hid (okE es low high = okE (es.drop (k + 1)) es[k].1 high) := hok.trans (okE_good hbad)
        have h1 : ¬ es[k].1 < l := fun h => hbad (.inl h)
        have h2 : ¬ high < es[k].1 := fun h => hbad (.inr (.inl h))
        have h3 : ¬ 20 < (es[k].2.size : Int) := fun h => hbad (.inr (.inr h))
        clear hok hbad
        generalize es[k].1 = t at *
        generalize es[k].2 = s at *
        go_wp2
        go_round
        case rel => exact ⟨k + 1, t, by omega, by go_num, rfl, by omega, unhide HK⟩
        case measure => simp [intOf]; omega
    · have hkn : k = es.length := by omega
      subst hkn
      have HK : Hid (okE es low high = true) := by show _ = _; rw [hok, List.drop_length]; rfl
      clear hok
      go_wp2
      go_ret
      exact ⟨by rw [unhide HK]; rfl, rfl⟩

end Go.Proofs.YteiecbkfganhnaaGreat

namespace Go.Proofs.YteiecbkfganhnaaGreat

open Go.RowKit

structure RN where
  id : Int
  n : Int
  term : Int
  vote : Int
  log : Value
  commit : Int
  role : Int
  leads : Int
  elapsed : Int
  pat : Int
  grants : Value
  next : Value
  mtch : Value
  heard : Value
  out : Value

def RefBlk (w : World) (rb : Nat) (r : RN) : Prop :=
  w.heap[rb]? = some (.cells #[.int .i64 r.id, .int .i64 r.n, .int .i64 r.term, .int .i64 r.vote, r.log, .int .i64 r.commit, .int .i64 r.role, .int .i64 r.leads, .int .i64 r.elapsed, .int .i64 r.pat, r.grants, r.next, r.mtch, r.heard, r.out] 64 (0, 0))

theorem make_ints (P : Program) (t e : TypeId) (z : Value) (size bytes n : Nat) (ht : P.underlying t = some (.slice e)) (hi : (P.info? e).map (fun i => (i.zero, i.size, i.bytes)) = some (some z, size, bytes)) (hb : bytes ≤ 8) (hn : n ≤ 7) :
    ∃ M, ∀ W : World, (Instr.makeSlice t (.int .i64 (n : Int)) (.int .i64 (n : Int))).run P W = .ok (.slice (some ⟨W.heap.size, 0, none⟩) n n) (W.alloc (.cells M e)) := by
  obtain ⟨i0, hi, hz0, hz1, hz2⟩ := info_parts hi
  refine ⟨madeCells z.cells (n * i0.size), fun W => ?_⟩
  have hbn : (bytes : Int) * (n : Int) ≤ 281474976710656 := by
    have h1 := Nat.mul_le_mul hb hn
    have h2 : ((bytes * n : Nat) : Int) ≤ 56 := by omega
    rw [Int.natCast_mul] at h2
    omega
  have h := run_make (P := P) W t e i0 z ht hi hz0 .i64 .i64 (n : Int) (n : Int) (by omega) (by omega) (by rw [hz2]; exact hbn) (by omega)
  simpa using h

theorem infoBool : (Tryz.prog.info? 4).map (fun i => (i.zero, i.size, i.bytes)) = some (some (.bool false), 1, 1) := by kernel_rfl


def rnOpen (id n : Int) (g nx mt hd : Value) : RN := { id := id, n := n, term := 0, vote := -1, log := .slice none 0 0, commit := 0, role := 0, leads := -1, elapsed := 0, pat := 10, grants := g, next := nx, mtch := mt, heard := hd, out := .slice none 0 0 }

set_option maxRecDepth 100000 in
set_option maxHeartbeats 1000000 in
theorem refOpen_ok (id : Int) (n : Nat) (w : World) (hn1 : 1 ≤ n) (hn2 : n ≤ 7) (h0 : 0 ≤ id) (h1 : id < n) :
    Calls Tryz.prog 12 #[.int .i64 id, .int .i64 n] w fun e w' => e = .returned (.tuple #[.pointer (some ⟨w.heap.size, 0, none⟩), .int .i64 0]) ∧ (∃ g nx mt hd, RefBlk w' w.heap.size (rnOpen id n g nx mt hd)) ∧ Below w.heap.size w w' := by
  obtain ⟨M1, hm1⟩ := make_ints Tryz.prog 60 4 _ _ _ n Tryz.underlying60 infoBool (by decide) hn2
  obtain ⟨M2, hm2⟩ := make_ints Tryz.prog 61 3 _ _ _ n Tryz.underlying61 infoInt (by decide) hn2
  go_enter Tryz.func12, Tryz.ntmps12
  go_wp2
  go_ret2
  exact ⟨rfl, ⟨_, _, _, _, heap_under (heap_under (heap_under (heap_under (heap_alloc_new w _) _) _) _) _⟩,
    below_trans (below_trans (below_trans (below_trans (below_alloc w _) (below_alloc _ _)) (below_alloc _ _)) (below_alloc _ _)) (below_alloc _ _)⟩

set_option maxRecDepth 100000 in
set_option maxHeartbeats 1000000 in
theorem refOpen_no (id n : Int) (w : World) (h : n < 1 ∨ 7 < n ∨ id < 0 ∨ n ≤ id) :
    Calls Tryz.prog 12 #[.int .i64 id, .int .i64 n] w fun e w' => e = .returned (.tuple #[.pointer none, .int .i64 1]) ∧ w' = w := by
  by_cases h1 : n < 1
  · clear h
    go_enter Tryz.func12, Tryz.ntmps12
    go_wp2
    go_ret2
    exact ⟨rfl, rfl⟩
  by_cases h2 : 7 < n
  · clear h
    go_enter Tryz.func12, Tryz.ntmps12
    go_wp2
    go_ret2
    exact ⟨rfl, rfl⟩
  by_cases h3 : id < 0
  · clear h
    go_enter Tryz.func12, Tryz.ntmps12
    go_wp2
    go_ret2
    exact ⟨rfl, rfl⟩
  have h4 : n ≤ id := by omega
  clear h
  go_enter Tryz.func12, Tryz.ntmps12
  go_wp2
  go_ret2
  exact ⟨rfl, rfl⟩

theorem RefBlk.lt {w : World} {rb : Nat} {r : RN} (h : RefBlk w rb r) : rb < w.heap.size := (Array.getElem?_eq_some_iff.1 h).1

theorem RefBlk.free {w : World} {rb : Nat} {r : RN} (h : RefBlk w rb r) (o : Nat) : w.frozen? ⟨rb, o, none⟩ = false := frozen_of_row w rb o _ _ h

theorem RefBlk.c2 {w : World} {rb : Nat} {r : RN} (h : RefBlk w rb r) : w.cell? ⟨rb, 2, none⟩ = some (.int .i64 r.term) := by rw [cell_of_row w rb _ _ _ _ h]; rfl

theorem RefBlk.c3 {w : World} {rb : Nat} {r : RN} (h : RefBlk w rb r) : w.cell? ⟨rb, 3, none⟩ = some (.int .i64 r.vote) := by rw [cell_of_row w rb _ _ _ _ h]; rfl

theorem RefBlk.c4 {w : World} {rb : Nat} {r : RN} (h : RefBlk w rb r) : w.cell? ⟨rb, 4, none⟩ = some r.log := by rw [cell_of_row w rb _ _ _ _ h]; rfl

theorem RefBlk.c5 {w : World} {rb : Nat} {r : RN} (h : RefBlk w rb r) : w.cell? ⟨rb, 5, none⟩ = some (.int .i64 r.commit) := by rw [cell_of_row w rb _ _ _ _ h]; rfl

theorem RefBlk.c6 {w : World} {rb : Nat} {r : RN} (h : RefBlk w rb r) : w.cell? ⟨rb, 6, none⟩ = some (.int .i64 r.role) := by rw [cell_of_row w rb _ _ _ _ h]; rfl

theorem RefBlk.c7 {w : World} {rb : Nat} {r : RN} (h : RefBlk w rb r) : w.cell? ⟨rb, 7, none⟩ = some (.int .i64 r.leads) := by rw [cell_of_row w rb _ _ _ _ h]; rfl

theorem RefBlk.c9 {w : World} {rb : Nat} {r : RN} (h : RefBlk w rb r) : w.cell? ⟨rb, 9, none⟩ = some (.int .i64 r.pat) := by rw [cell_of_row w rb _ _ _ _ h]; rfl

set_option maxRecDepth 100000 in
set_option maxHeartbeats 1000000 in
theorem refPatience_ok (rb : Nat) (r : RN) (t : Int) (w : World) (h : RefBlk w rb r) (h1 : 1 ≤ t) (h2 : t ≤ 40) :
    Calls Tryz.prog 27 #[.pointer (some ⟨rb, 0, none⟩), .int .i64 t] w fun e w' => e = .returned (.int .i64 0) ∧ w' = w.setCell ⟨rb, 9, none⟩ (.int .i64 t) := by
  have c := h.c9
  have f := h.free 9
  clear h
  go_enter Tryz.func27, Tryz.ntmps27
  go_wp2
  go_ret
  exact ⟨rfl, rfl⟩

set_option maxRecDepth 100000 in
set_option maxHeartbeats 1000000 in
theorem refPatience_no (rb : Nat) (t : Int) (w : World) (h1 : t < 1 ∨ 40 < t) :
    Calls Tryz.prog 27 #[.pointer (some ⟨rb, 0, none⟩), .int .i64 t] w fun e w' => e = .returned (.int .i64 6) ∧ w' = w := by
  by_cases h : t < 1
  · clear h1
    go_enter Tryz.func27, Tryz.ntmps27
    go_wp2
    go_ret
    exact ⟨rfl, rfl⟩
  · have h2 : 40 < t := by omega
    clear h1
    go_enter Tryz.func27, Tryz.ntmps27
    go_wp2
    go_ret
    exact ⟨rfl, rfl⟩

end Go.Proofs.YteiecbkfganhnaaGreat

namespace Go.Proofs.YteiecbkfganhnaaGreat

open Go.RowKit

set_option maxRecDepth 100000 in
set_option maxHeartbeats 1000000 in
theorem refSaved_any (rb : Nat) (r : RN) (es : List Ent) (w : World) (h : RefBlk w rb r) (hl : EntsIn w r.log es) (hn : es.length * 24 ≤ 140737488355328) :
    Calls Tryz.prog 42 #[.pointer (some ⟨rb, 0, none⟩)] w fun e w' => ∃ v, e = .returned (.agg #[.int .i64 r.term, .int .i64 r.vote, v]) ∧ w'.ownsRow w.heap.size 66 2 v es.length (eC es) ∧ Below w.heap.size w w' := by
  have c2 := h.c2
  have c3 := h.c3
  have c4 := h.c4
  have hlt := h.lt
  have HL := hide hl
  clear h hl
  go_enter Tryz.func42, Tryz.ntmps42
  go_wp2_with fail
  refine (refEntries_any _ es _ hn (by exact ents_below (unhide HL) (below_alloc w _))).mono ?_
  rintro e w1 ⟨v', rfl, hr, hb⟩
  obtain ⟨vo, vc, rfl⟩ := owns_form hr
  have hwb := (hb.block w.heap.size (by simp)).trans (heap_alloc_new w _)
  have d0 := cell_of_row w1 w.heap.size 0 _ _ _ hwb
  have d1 := cell_of_row w1 w.heap.size 1 _ _ _ hwb
  have d2 := cell_of_row w1 w.heap.size 2 _ _ _ hwb
  simp at d0 d1 d2
  have f0 := frozen_of_row w1 w.heap.size 0 _ _ hwb
  have f1 := frozen_of_row w1 w.heap.size 1 _ _ hwb
  have f2 := frozen_of_row w1 w.heap.size 2 _ _ hwb
  have hb2 := below_trans (below_alloc w _) hb
  have e2 : w1.cell? ⟨rb, 2, none⟩ = some (.int .i64 r.term) := (hb2.cell (p := ⟨rb, 2, none⟩) hlt).trans c2
  have e3 : w1.cell? ⟨rb, 3, none⟩ = some (.int .i64 r.vote) := (hb2.cell (p := ⟨rb, 3, none⟩) hlt).trans c3
  have hlt1 : w.heap.size < w1.heap.size := (Array.getElem?_eq_some_iff.1 hwb).1
  have HR := hide hr
  have HB := hide hb2
  have HWB := hide hwb
  have hne : ¬ rb = w.heap.size := by omega
  clear hr hb hb2 hwb c2 c3 c4 HL
  go_wp2_with fail
  go_region
  go_wp2
  have h1 := heap_setCell_same _ w.heap.size 0 _ _ (.int .i64 r.term) (unhide HWB)
  have h2 := heap_setCell_same _ w.heap.size 1 _ _ (.int .i64 r.vote) h1
  have h3 := heap_setCell_same _ w.heap.size 2 _ _ (.slice vo es.length vc) h2
  refine bodyPost_ret (v := .agg #[.int .i64 r.term, .int .i64 r.vote, .slice vo es.length vc]) (results_cell_row Tryz.results42 _ _ w.heap.size _ _ _ _ rfl h3 Tryz.underlying24 rfl (by kernel_rfl)) rfl ⟨_, rfl, ?_, ?_⟩
  · have hr1 : w1.ownsRow (w.heap.size + 1) 66 2 (.slice vo es.length vc) es.length (eC es) := by simpa using unhide HR
    exact owns_base (owns_set (owns_set (owns_set hr1 (by simp) _) (by simp) _) (by simp) _) (by omega)
  · exact ((((unhide HB).setCell (p := ⟨w.heap.size, 0, none⟩) (Nat.le_refl _) _).setCell (p := ⟨w.heap.size, 1, none⟩) (Nat.le_refl _) _).setCell (p := ⟨w.heap.size, 2, none⟩) (Nat.le_refl _) _).drew

set_option maxRecDepth 100000 in
set_option maxHeartbeats 1000000 in
theorem refStatus_any (rb : Nat) (r : RN) (vo : Option Addr) (n vc : Nat) (w : World) (h : RefBlk w rb r) (hl : r.log = .slice vo n vc) :
    Calls Tryz.prog 46 #[.pointer (some ⟨rb, 0, none⟩)] w fun e w' => e = .returned (.agg #[.int .i64 r.role, .int .i64 r.term, .int .i64 r.leads, .int .i64 r.commit, .int .i64 n]) ∧ Below w.heap.size w w' := by
  have c2 := h.c2
  have c4 := h.c4
  rw [hl] at c4
  have c5 := h.c5
  have c6 := h.c6
  have c7 := h.c7
  have hlt := h.lt
  have hne : ¬ rb = w.heap.size := by omega
  clear h hl
  go_enter Tryz.func46, Tryz.ntmps46
  go_wp2_with fail
  have hwb := heap_alloc_new w (Obj.cells #[.int .i64 0, .int .i64 0, .int .i64 0, .int .i64 0, .int .i64 0] 97)
  have hb := below_alloc w (Obj.cells #[.int .i64 0, .int .i64 0, .int .i64 0, .int .i64 0, .int .i64 0] 97)
  have q2 := (hb.cell (p := ⟨rb, 2, none⟩) hlt).trans c2
  have q4 := (hb.cell (p := ⟨rb, 4, none⟩) hlt).trans c4
  have q5 := (hb.cell (p := ⟨rb, 5, none⟩) hlt).trans c5
  have q6 := (hb.cell (p := ⟨rb, 6, none⟩) hlt).trans c6
  have q7 := (hb.cell (p := ⟨rb, 7, none⟩) hlt).trans c7
  generalize w.alloc (Obj.cells #[.int .i64 0, .int .i64 0, .int .i64 0, .int .i64 0, .int .i64 0] 97) = W at *
  have d0 := cell_of_row W w.heap.size 0 _ _ _ hwb
  have d1 := cell_of_row W w.heap.size 1 _ _ _ hwb
  have d2 := cell_of_row W w.heap.size 2 _ _ _ hwb
  have d3 := cell_of_row W w.heap.size 3 _ _ _ hwb
  have d4 := cell_of_row W w.heap.size 4 _ _ _ hwb
  simp at d0 d1 d2 d3 d4
  have f0 := frozen_of_row W w.heap.size 0 _ _ hwb
  have f1 := frozen_of_row W w.heap.size 1 _ _ hwb
  have f2 := frozen_of_row W w.heap.size 2 _ _ hwb
  have f3 := frozen_of_row W w.heap.size 3 _ _ hwb
  have f4 := frozen_of_row W w.heap.size 4 _ _ hwb
  have HWB := hide hwb
  have HB := hide hb
  clear hwb hb c2 c4 c5 c6 c7
  go_region
  go_wp2
  have h1 := heap_setCell_same _ w.heap.size 0 _ _ (.int .i64 r.role) (unhide HWB)
  have h2 := heap_setCell_same _ w.heap.size 1 _ _ (.int .i64 r.term) h1
  have h3 := heap_setCell_same _ w.heap.size 2 _ _ (.int .i64 r.leads) h2
  have h4 := heap_setCell_same _ w.heap.size 3 _ _ (.int .i64 r.commit) h3
  have h5 := heap_setCell_same _ w.heap.size 4 _ _ (.int .i64 (n : Int)) h4
  refine bodyPost_ret (v := .agg #[.int .i64 r.role, .int .i64 r.term, .int .i64 r.leads, .int .i64 r.commit, .int .i64 n]) (results_cell_row Tryz.results46 _ _ w.heap.size _ _ _ _ rfl h5 Tryz.underlying97 rfl (by kernel_rfl)) rfl ⟨rfl, ?_⟩
  exact ((((((unhide HB).setCell (p := ⟨w.heap.size, 0, none⟩) (Nat.le_refl _) _).setCell (p := ⟨w.heap.size, 1, none⟩) (Nat.le_refl _) _).setCell (p := ⟨w.heap.size, 2, none⟩) (Nat.le_refl _) _).setCell (p := ⟨w.heap.size, 3, none⟩) (Nat.le_refl _) _).setCell (p := ⟨w.heap.size, 4, none⟩) (Nat.le_refl _) _).drew

end Go.Proofs.YteiecbkfganhnaaGreat

namespace Go.Proofs.YteiecbkfganhnaaGreat

open Go.RowKit

def BadSaved (term vote n : Int) (es : List Ent) : Prop := term < 0 ∨ 1000000 < term ∨ vote < -1 ∨ n ≤ vote ∨ 60 < (es.length : Int) ∨ okE es 1 term = false

set_option maxRecDepth 100000 in
set_option maxHeartbeats 1000000 in
theorem refRestart_nodes (id n term vote : Int) (lv : Value) (w : World) (h : n < 1 ∨ 7 < n ∨ id < 0 ∨ n ≤ id) :
    Calls Tryz.prog 17 #[.int .i64 id, .int .i64 n, .agg #[.int .i64 term, .int .i64 vote, lv]] w fun e w' => e = .returned (.tuple #[.pointer none, .int .i64 1]) ∧ Below w.heap.size w w' := by
  have H := hide h
  clear h
  go_enter Tryz.func17, Tryz.ntmps17
  go_wp2_with (go_at_call 12; refine (refOpen_no id n _ (unhide H)).mono ?_; rintro e w1 ⟨rfl, rfl⟩)
  go_ret2
  exact ⟨rfl, below_alloc w _⟩

set_option maxRecDepth 100000 in
set_option maxHeartbeats 2000000 in
theorem refRestart_saved (id : Int) (n : Nat) (term vote : Int) (lv : Value) (es : List Ent) (w : World) (hn1 : 1 ≤ n) (hn2 : n ≤ 7) (h0 : 0 ≤ id) (h1 : id < n) (hl : EntsIn w lv es) (hlen : es.length < 4611686018427387904) (h : BadSaved term vote n es) :
    Calls Tryz.prog 17 #[.int .i64 id, .int .i64 n, .agg #[.int .i64 term, .int .i64 vote, lv]] w fun e w' => e = .returned (.tuple #[.pointer none, .int .i64 2]) ∧ Below w.heap.size w w' := by
  unfold BadSaved at h
  have HL := hide hl
  obtain ⟨ao, cap, rfl, hl1, hl2⟩ := hl
  clear hl1 hl2
  obtain ⟨bb, hbb⟩ : ∃ bb, bb = okE es 1 term := ⟨_, rfl⟩
  rw [← hbb] at h
  have HBB := hide hbb
  clear hbb
  have H0 := hide (And.intro hn1 (And.intro hn2 (And.intro h0 h1)))
  clear hn1 hn2 h0 h1
  by_cases q0 : term < 0
  · clear h
    go_enter Tryz.func17, Tryz.ntmps17
    go_wp2_with (first | (go_at_call 12; refine (refOpen_ok id n _ (unhide H0).1 (unhide H0).2.1 (unhide H0).2.2.1 (unhide H0).2.2.2).mono ?_; rintro e w1 ⟨rfl, hR, hb1⟩; have HB := hide (below_trans (below_alloc w _) hb1); have hwb := (hb1.block w.heap.size (by simp)).trans (heap_alloc_new w _); have d0 : w1.cell? ⟨w.heap.size, 0, none⟩ = some (.int .i64 term) := cell_of_row w1 w.heap.size 0 _ _ _ hwb; have d1 : w1.cell? ⟨w.heap.size, 1, none⟩ = some (.int .i64 vote) := cell_of_row w1 w.heap.size 1 _ _ _ hwb; have d2 : w1.cell? ⟨w.heap.size, 2, none⟩ = some (.slice ao es.length cap) := cell_of_row w1 w.heap.size 2 _ _ _ hwb; clear hR hb1 hwb) | (go_at_call 24; refine (rightEntries_any _ es 1 term _ hlen (by decide) (by exact ents_below (unhide HL) (unhide HB))).mono ?_; rw [← unhide HBB]; rintro e w2 ⟨rfl, rfl⟩))
    go_ret2
    exact ⟨rfl, unhide HB⟩
  by_cases q1 : 1000000 < term
  · clear h
    go_enter Tryz.func17, Tryz.ntmps17
    go_wp2_with (first | (go_at_call 12; refine (refOpen_ok id n _ (unhide H0).1 (unhide H0).2.1 (unhide H0).2.2.1 (unhide H0).2.2.2).mono ?_; rintro e w1 ⟨rfl, hR, hb1⟩; have HB := hide (below_trans (below_alloc w _) hb1); have hwb := (hb1.block w.heap.size (by simp)).trans (heap_alloc_new w _); have d0 : w1.cell? ⟨w.heap.size, 0, none⟩ = some (.int .i64 term) := cell_of_row w1 w.heap.size 0 _ _ _ hwb; have d1 : w1.cell? ⟨w.heap.size, 1, none⟩ = some (.int .i64 vote) := cell_of_row w1 w.heap.size 1 _ _ _ hwb; have d2 : w1.cell? ⟨w.heap.size, 2, none⟩ = some (.slice ao es.length cap) := cell_of_row w1 w.heap.size 2 _ _ _ hwb; clear hR hb1 hwb) | (go_at_call 24; refine (rightEntries_any _ es 1 term _ hlen (by decide) (by exact ents_below (unhide HL) (unhide HB))).mono ?_; rw [← unhide HBB]; rintro e w2 ⟨rfl, rfl⟩))
    go_ret2
    exact ⟨rfl, unhide HB⟩
  by_cases q2 : vote < -1
  · clear h
    go_enter Tryz.func17, Tryz.ntmps17
    go_wp2_with (first | (go_at_call 12; refine (refOpen_ok id n _ (unhide H0).1 (unhide H0).2.1 (unhide H0).2.2.1 (unhide H0).2.2.2).mono ?_; rintro e w1 ⟨rfl, hR, hb1⟩; have HB := hide (below_trans (below_alloc w _) hb1); have hwb := (hb1.block w.heap.size (by simp)).trans (heap_alloc_new w _); have d0 : w1.cell? ⟨w.heap.size, 0, none⟩ = some (.int .i64 term) := cell_of_row w1 w.heap.size 0 _ _ _ hwb; have d1 : w1.cell? ⟨w.heap.size, 1, none⟩ = some (.int .i64 vote) := cell_of_row w1 w.heap.size 1 _ _ _ hwb; have d2 : w1.cell? ⟨w.heap.size, 2, none⟩ = some (.slice ao es.length cap) := cell_of_row w1 w.heap.size 2 _ _ _ hwb; clear hR hb1 hwb) | (go_at_call 24; refine (rightEntries_any _ es 1 term _ hlen (by decide) (by exact ents_below (unhide HL) (unhide HB))).mono ?_; rw [← unhide HBB]; rintro e w2 ⟨rfl, rfl⟩))
    go_ret2
    exact ⟨rfl, unhide HB⟩
  by_cases q3 : (n : Int) ≤ vote
  · clear h
    go_enter Tryz.func17, Tryz.ntmps17
    go_wp2_with (first | (go_at_call 12; refine (refOpen_ok id n _ (unhide H0).1 (unhide H0).2.1 (unhide H0).2.2.1 (unhide H0).2.2.2).mono ?_; rintro e w1 ⟨rfl, hR, hb1⟩; have HB := hide (below_trans (below_alloc w _) hb1); have hwb := (hb1.block w.heap.size (by simp)).trans (heap_alloc_new w _); have d0 : w1.cell? ⟨w.heap.size, 0, none⟩ = some (.int .i64 term) := cell_of_row w1 w.heap.size 0 _ _ _ hwb; have d1 : w1.cell? ⟨w.heap.size, 1, none⟩ = some (.int .i64 vote) := cell_of_row w1 w.heap.size 1 _ _ _ hwb; have d2 : w1.cell? ⟨w.heap.size, 2, none⟩ = some (.slice ao es.length cap) := cell_of_row w1 w.heap.size 2 _ _ _ hwb; clear hR hb1 hwb) | (go_at_call 24; refine (rightEntries_any _ es 1 term _ hlen (by decide) (by exact ents_below (unhide HL) (unhide HB))).mono ?_; rw [← unhide HBB]; rintro e w2 ⟨rfl, rfl⟩))
    go_ret2
    exact ⟨rfl, unhide HB⟩
  by_cases q4 : 60 < (es.length : Int)
  · clear h
    go_enter Tryz.func17, Tryz.ntmps17
    go_wp2_with (first | (go_at_call 12; refine (refOpen_ok id n _ (unhide H0).1 (unhide H0).2.1 (unhide H0).2.2.1 (unhide H0).2.2.2).mono ?_; rintro e w1 ⟨rfl, hR, hb1⟩; have HB := hide (below_trans (below_alloc w _) hb1); have hwb := (hb1.block w.heap.size (by simp)).trans (heap_alloc_new w _); have d0 : w1.cell? ⟨w.heap.size, 0, none⟩ = some (.int .i64 term) := cell_of_row w1 w.heap.size 0 _ _ _ hwb; have d1 : w1.cell? ⟨w.heap.size, 1, none⟩ = some (.int .i64 vote) := cell_of_row w1 w.heap.size 1 _ _ _ hwb; have d2 : w1.cell? ⟨w.heap.size, 2, none⟩ = some (.slice ao es.length cap) := cell_of_row w1 w.heap.size 2 _ _ _ hwb; clear hR hb1 hwb) | (go_at_call 24; refine (rightEntries_any _ es 1 term _ hlen (by decide) (by exact ents_below (unhide HL) (unhide HB))).mono ?_; rw [← unhide HBB]; rintro e w2 ⟨rfl, rfl⟩))
    go_ret2
    exact ⟨rfl, unhide HB⟩
  have q5 : bb = false := by
    rcases h with h | h | h | h | h | h
    · exact absurd h q0
    · exact absurd h q1
    · exact absurd h q2
    · exact absurd h q3
    · exact absurd h q4
    · exact h
  subst q5
  clear h
  go_enter Tryz.func17, Tryz.ntmps17
  go_wp2_with (first | (go_at_call 12; refine (refOpen_ok id n _ (unhide H0).1 (unhide H0).2.1 (unhide H0).2.2.1 (unhide H0).2.2.2).mono ?_; rintro e w1 ⟨rfl, hR, hb1⟩; have HB := hide (below_trans (below_alloc w _) hb1); have hwb := (hb1.block w.heap.size (by simp)).trans (heap_alloc_new w _); have d0 : w1.cell? ⟨w.heap.size, 0, none⟩ = some (.int .i64 term) := cell_of_row w1 w.heap.size 0 _ _ _ hwb; have d1 : w1.cell? ⟨w.heap.size, 1, none⟩ = some (.int .i64 vote) := cell_of_row w1 w.heap.size 1 _ _ _ hwb; have d2 : w1.cell? ⟨w.heap.size, 2, none⟩ = some (.slice ao es.length cap) := cell_of_row w1 w.heap.size 2 _ _ _ hwb; clear hR hb1 hwb) | (go_at_call 24; refine (rightEntries_any _ es 1 term _ hlen (by decide) (by exact ents_below (unhide HL) (unhide HB))).mono ?_; rw [← unhide HBB]; rintro e w2 ⟨rfl, rfl⟩))
  go_ret2
  exact ⟨rfl, unhide HB⟩

end Go.Proofs.YteiecbkfganhnaaGreat

namespace Go.Proofs.YteiecbkfganhnaaGreat

def numOk (x : Int) : Bool := decide (0 ≤ x) && decide (x ≤ 1000000)

def srcOk (x n : Int) : Bool := decide (0 ≤ x) && decide (x < n)

def soundM (m : Msg) (id n : Int) : Bool := decide (0 ≤ m.kind) && decide (m.kind ≤ 5) && decide (m.dst = id) && decide (m.src ≠ id) && srcOk m.src n && decide (1 ≤ m.term) && decide (m.term ≤ 1000000) && (numOk m.index && (numOk m.logTerm && numOk m.commit)) && decide ((m.ents.length : Int) ≤ 3) && okE m.ents (max 1 m.logTerm) m.term

/-- What is known of a message that is sound. -/
structure SoundM (m : Msg) (id n : Nat) : Prop where
  k0 : 0 ≤ m.kind
  k1 : m.kind ≤ 5
  dst : m.dst = id
  src : m.src ≠ id
  s0 : 0 ≤ m.src
  s1 : m.src < n
  t0 : 1 ≤ m.term
  t1 : m.term ≤ 1000000
  i0 : 0 ≤ m.index
  i1 : m.index ≤ 1000000
  l0 : 0 ≤ m.logTerm
  l1 : m.logTerm ≤ 1000000
  c0 : 0 ≤ m.commit
  c1 : m.commit ≤ 1000000
  len : m.ents.length ≤ 3
  ok : okE m.ents (max 1 m.logTerm) m.term = true

theorem soundM_of {m : Msg} {id n : Nat} (h : soundM m id n = true) : SoundM m id n := by
  simp only [soundM, numOk, srcOk, Bool.and_eq_true, decide_eq_true_eq] at h
  exact ⟨h.1.1.1.1.1.1.1.1.1, h.1.1.1.1.1.1.1.1.2, h.1.1.1.1.1.1.1.2, h.1.1.1.1.1.1.2, h.1.1.1.1.1.2.1, h.1.1.1.1.1.2.2, h.1.1.1.1.2, h.1.1.1.2, h.1.1.2.1.1, h.1.1.2.1.2, h.1.1.2.2.1.1, h.1.1.2.2.1.2, h.1.1.2.2.2.1, h.1.1.2.2.2.2, by have := h.1.2; omega, h.2⟩

namespace Nd

def hears (s : Nd) (f : Nat) : Nd := { s with hd := upd s.hd f true }

def matched (s : Nd) (f k : Nat) : Nd := count { s with mt := upd s.mt f k, nx := upd s.nx f (k + 1) }

def backs (s : Nd) (f k : Nat) : Nd := { s with nx := upd s.nx f (max (s.mt f + 1) (min (s.nx f - 1) (k + 1))) }

def stepAppendReply (s : Nd) (m : Msg) : Nd × List Msg :=
  if s.term < m.term then (s.follow m.term (-1), [])
  else if s.role = 3 ∧ m.term = s.term then
    if m.granted = true then
      if m.index.toNat ≤ s.last ∧ s.mt m.src.toNat < m.index.toNat then
        (((s.hears m.src.toNat).matched m.src.toNat m.index.toNat),
          if m.index.toNat + 1 ≤ s.last then [((s.hears m.src.toNat).matched m.src.toNat m.index.toNat).appendTo m.src.toNat] else [])
      else (s.hears m.src.toNat, [])
    else ((s.hears m.src.toNat).backs m.src.toNat m.index.toNat, [((s.hears m.src.toNat).backs m.src.toNat m.index.toNat).appendTo m.src.toNat])
  else (s, [])

def step (s : Nd) (m : Msg) : Nd × List Msg :=
  if soundM m s.id s.n = true then
    if m.kind = 0 then s.stepAsk m else if m.kind = 1 then s.stepAskReply m else if m.kind = 2 then s.stepVote m else if m.kind = 3 then s.stepVoteReply m else if m.kind = 4 then s.stepAppend m else s.stepAppendReply m
  else (s, [])

def proposeS (s : Nd) (c : ByteArray) : Nd := count { s with log := s.log ++ [(s.term, c)], mt := upd s.mt s.id (s.last + 1) }

def propErr (s : Nd) (c : ByteArray) : Int := if c.size = 0 ∨ 20 < c.size then 3 else if s.role ≠ 3 then 4 else if 60 ≤ s.last then 5 else 0

end Nd

theorem Ok.reply0 {s : Nd} (h : Ok s) (m : Msg) (hm : SoundM m s.id s.n) : Ok (s.stepAsk m).1 ∧ Ok (s.stepAskReply m).1 ∧ Ok (s.stepVoteReply m).1 := by
  have hgr : Ok (s.addGrant m.src.toNat) := { h with g7 := fun _ hi => upd_over h.g7 (by have := hm.s0; have := hm.s1; omega) hi, lead := fun h3 => (by have := h.lead h3; exact ⟨this.last, this.pos, this.sz, this.lo, this.hi, this.mm⟩) }
  refine ⟨?_, ?_, ?_⟩
  · unfold Nd.stepAsk
    split
    · exact h
    · split <;> exact h
  · unfold Nd.stepAskReply
    split
    · split
      · exact h.follow _ _ hm.t1 (by decide)
      · exact h
    · split
      · rename_i h2
        split
        · exact hgr.stand (by show s.term < 1000000; have := hm.t1; omega)
        · exact hgr
      · exact h
  · unfold Nd.stepVoteReply
    split
    · exact h.follow _ _ hm.t1 (by decide)
    · split
      · rename_i h2
        split
        · exact hgr.leadS (by show 1 ≤ s.term; have := hm.t0; omega)
        · exact hgr
      · exact h

theorem Ok.stepVote {s : Nd} (h : Ok s) (m : Msg) (hm : SoundM m s.id s.n) : Ok (s.stepVote m).1 := by
  have hvn : (s.voteS m).n = s.n := by unfold Nd.voteS Nd.follow; split <;> (try split) <;> rfl
  have hv : Ok (s.voteS m) := by
    unfold Nd.voteS
    split
    · exact h.follow _ _ hm.t1 (by decide)
    · exact h
  unfold Nd.stepVote
  split
  · exact h
  · show Ok (if (s.voteS m).votes m = true then { s.voteS m with vote := m.src, elapsed := 0 } else s.voteS m)
    split
    · exact { hv with lead := fun h3 => (by have := hv.lead h3; exact ⟨this.last, this.pos, this.sz, this.lo, this.hi, this.mm⟩), e0 := Int.le_refl _, v0 := (by show -1 ≤ m.src; have := hm.s0; omega), v1 := (by show m.src < ((s.voteS m).n : Int); rw [hvn]; exact hm.s1) }
    · exact hv

end Go.Proofs.YteiecbkfganhnaaGreat
