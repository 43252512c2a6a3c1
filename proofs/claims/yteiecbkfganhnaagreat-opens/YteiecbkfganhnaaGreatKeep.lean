/- keepEntries, keepTexts. -/
import Derived.Test.YteiecbkfganhnaaGreatBk
import Derived.Deep.AppendLies
import Derived.Deep.RegionHeldLaw
import Derived.Deep.RegionLaw
import Derived.Deep.DeepCutAuto
namespace Go.Proofs.YteiecbkfganhnaaGreat
open Go.RowKit

theorem infoSE : (Tryz.prog.info? 22).map (fun i => (i.zero, i.size, i.bytes)) = some (some (.slice none 0 0), 1, 24) := by kernel_rfl

/-- Behind keepEntries. -/
def KeptE (i gb : Nat) (w : World) (tg : Tags) (c0 c1 c2 c3 : Value) (b : BV) (l : List (List Ent)) (w' : World) : Prop :=
  ∃ we re tg', GameBlk w' gb c0 c1 c2 c3 { b with we := we, re := re } ∧ tg' gb = tG i ∧ WaitE i w' tg' we re l ∧ Stp (fun T => T = tG i ∨ T = tWE i ∨ T = tRE i) w tg w' tg'

/-- Behind keepTexts. -/
def KeptT (i gb : Nat) (w : World) (tg : Tags) (c0 c1 c2 c3 : Value) (b : BV) (l : List (List ByteArray)) (w' : World) : Prop :=
  ∃ wt rt tg', GameBlk w' gb c0 c1 c2 c3 { b with wt := wt, rt := rt } ∧ tg' gb = tG i ∧ WaitT i w' tg' wt rt l ∧ Stp (fun T => T = tG i ∨ T = tWT i ∨ T = tRT i) w tg w' tg'

theorem keep_second {i gb : Nat} {W2 w3 w4 : World} {tg1 : Tags} {c0 c1 c2 c3 : Value} {b : BV} {T : Nat × Nat} {re r : Value} {n m e e' size g cap : Nat} {ys zs rs : List Value} {o : Obj}
    (hG2 : GameBlk W2 gb c0 c1 c2 c3 b) (hg1 : tg1 gb = tG i) (hY : Own W2 tg1 T e' 1 re n ys) (hT : T ≠ tG i) (hT0 : T ≠ (0, 0)) (hb : Below W2.drew.heap.size W2.drew w3)
    (hr : w3.ownsRow W2.drew.heap.size e size r m rs) (hgrow : (w3.alloc o).grownBy w4 re.ownBlock) (hown : w4.ownsRow 0 e' 1 (.slice (some ⟨g, 0, none⟩) (n + 1) cap) (n + 1) zs) (hat : re.ownBlock = some g ∨ g = w3.heap.size + 1) :
    ∃ tg4, GameBlk w4 gb c0 c1 c2 c3 b ∧ tg4 gb = tG i ∧ Own w4 tg4 T e' 1 (.slice (some ⟨g, 0, none⟩) (n + 1) cap) (n + 1) zs ∧ Own w4 tg4 (0, 0) e size r m rs ∧ Stp (fun U => U = T) W2 tg1 w4 tg4 := by
  have hb' : Below W2.heap.size W2 w3 := Below.undrew hb
  have hs3 : Stp (fun U => U = T) W2 tg1 w3 (newTag W2.heap.size tg1 (0, 0)) := Stp.ofBelow hb' tg1 (0, 0)
  have hs3' : Stp (fun _ => False) W2 tg1 w3 (newTag W2.heap.size tg1 (0, 0)) := Stp.ofBelow hb' tg1 (0, 0)
  have hY3 := hY.step hs3' (fun h => h)
  have hr3 : Own w3 (newTag W2.heap.size tg1 (0, 0)) (0, 0) e size r m rs := Own.fresh tg1 (0, 0) hr
  obtain ⟨tg4, h1, h2⟩ := hY3.pushed hgrow hown hat
  obtain ⟨h3, h4⟩ := hG2.step hg1 hs3' (fun h => h)
  obtain ⟨h5, h6⟩ := h3.step h4 h2 (fun h => hT h.symm)
  exact ⟨tg4, h5, h6, h1, hr3.step h2 (fun h => hT0 h.symm), hs3.trans h2⟩

theorem keep_fin {i gb : Nat} {w W2 w4 : World} {tg tg1 tg4 : Tags} {c0 c1 c2 c3 : Value} {b b2 : BV} {l : List (List Ent)} {es : List Ent} {xs ys : List Value} {v we re r : Value}
    (hes : es.length ≤ 1000000)
    (hW : ∀ (k : Nat) (es : List Ent), l[k]? = some es → es.length ≤ 1000000 ∧ ∃ v r, xs[k]? = some v ∧ ys[k]? = some r ∧ Own w tg (tLE i k) 66 2 v es.length (eC es) ∧ Own w tg (0, 0) 66 2 r es.length (eC es))
    (hx : xs.length = l.length) (hy : ys.length = l.length)
    (hS2 : Stp (fun T => T = tG i ∨ T = tWE i ∨ T = tRE i) w tg W2 tg1) (hS4 : Stp (fun T => T = tRE i) W2 tg1 w4 tg4) (hO : Own W2 tg1 (tWE i) 22 1 we (l.length + 1) (xs ++ [v])) (hV : Own W2 tg1 (tLE i l.length) 66 2 v es.length (eC es))
    (hG4 : GameBlk w4 gb c0 c1 c2 c3 b2) (hg4 : tg4 gb = tG i) (hb : { b2 with re := re } = { b with we := we, re := re }) (hR : Own w4 tg4 (tRE i) 22 1 re (l.length + 1) (ys ++ [r])) (hr : Own w4 tg4 (0, 0) 66 2 r es.length (eC es)) :
    KeptE i gb w tg c0 c1 c2 c3 b (l ++ [es]) (w4.setCell ⟨gb, 8, none⟩ re) := by
  have hs : Stp (fun U => U = tG i) w4 tg4 (w4.setCell ⟨gb, 8, none⟩ re) tg4 := Stp.setCell (a := ⟨gb, 8, none⟩) hg4 re
  have hall : Stp (fun T => T = tG i ∨ T = tWE i ∨ T = tRE i) w tg (w4.setCell ⟨gb, 8, none⟩ re) tg4 := (hS2.trans (hS4.mono fun x h => .inr (.inr h))).trans (hs.mono fun x h => .inl h)
  refine ⟨we, re, tg4, by rw [← hb]; exact hG4.setRE re, hg4, ⟨xs ++ [v], ys ++ [r], by simpa using (hO.step hS4 (by simp)).step hs (by simp), by simpa using hR.step hs (by simp), fun k fs hk => ?_⟩, hall⟩
  by_cases hkl : k < l.length
  · rw [List.getElem?_append_left hkl] at hk
    obtain ⟨h1, v', r', h2, h3, h4, h5⟩ := hW k fs hk
    exact ⟨h1, v', r', by rw [List.getElem?_append_left (by omega)]; exact h2, by rw [List.getElem?_append_left (by omega)]; exact h3, h4.step hall (by simp), h5.step hall (by simp)⟩
  · have hkk : k = l.length := by
      have := (List.getElem?_eq_some_iff.1 hk).1
      simp at this; omega
    subst hkk
    simp at hk
    subst hk
    exact ⟨hes, v, r, by simp [← hx], by simp [← hy], (hV.step hS4 (by simp)).step hs (by simp), hr.step hs (by simp)⟩

set_option maxRecDepth 100000 in
set_option maxHeartbeats 400000 in
theorem keepEntries_any (i gb : Nat) (w : World) (tg : Tags) (c0 c1 c2 c3 : Value) (b : BV) (l : List (List Ent)) (v : Value) (es : List Ent)
    (hG : GameBlk w gb c0 c1 c2 c3 b) (hg : tg gb = tG i) (hW : WaitE i w tg b.we b.re l) (hv : Own w tg (tLE i l.length) 66 2 v es.length (eC es)) (hes : es.length ≤ 1000000) (hl : l.length ≤ 1000000000) :
    Calls Tryz.prog 44 #[.pointer (some ⟨gb, 4, none⟩), v] w fun e w' => e = .returned (.tuple #[]) ∧ KeptE i gb w tg c0 c1 c2 c3 b (l ++ [es]) w' := by
  obtain ⟨vo, vc, rfl⟩ := hv.form
  obtain ⟨xs, ys, hx, hy, hwl⟩ := hW.rows
  have g7 := hG.c7
  have g8 := hG.c8
  have HG := hide hG
  have HW := hide hwl
  have HX := hide hx
  have HY := hide hy
  have HV := hide hv
  have f7 := hG.free 7
  have f8 := hG.free 8
  clear hG hwl hx hy hv hW
  obtain ⟨i0, hi, hz0, hz1, hz2⟩ := info_parts infoSE
  go_enter Tryz.func44, Tryz.ntmps44
  go_wp2_with (at_builtin; go_must (refine wpList_append_lies _ rfl _ _ 47 rfl 0 22 i0 _ 1 24 Tryz.underlying47 hi hz0 hz1 hz2 rfl (by decide) b.we l.length xs rfl ((unhide HX).1.alloc _) ⟨w.heap.size, 0, none⟩ 1 1 [.slice vo es.length vc] rfl rfl (cell_one_new _ _ _) (by intro u hu; simp at hu; subst hu; rfl) (by decide) (by unfold maxLen; omega) (by omega) (Nat.zero_le _) (w.heap.size + 1) (by simp) ?_))
  intro ga cap w1 hown1 hgrow1 hat1 hlt1
  obtain ⟨tg1, HO1, HS1⟩ := (unhide HX).pushed hgrow1 hown1 hat1
  clear hown1 hgrow1 hat1 hlt1
  obtain ⟨hG1, hg1⟩ := (unhide HG).step hg HS1 (by simp)
  have hG2 := hG1.setWE (.slice (some ⟨ga, 0, none⟩) (l.length + 1) cap)
  have HS2 := HS1.mono (B := fun T => T = tG i ∨ T = tWE i ∨ T = tRE i) (fun x hx => .inr (.inl hx)) |>.trans ((Stp.setCell (w := w1) (a := ⟨gb, 7, none⟩) hg1 (.slice (some ⟨ga, 0, none⟩) (l.length + 1) cap)).mono fun x hx => .inl hx)
  have HO2 := HO1.step (Stp.setCell (w := w1) (a := ⟨gb, 7, none⟩) hg1 (.slice (some ⟨ga, 0, none⟩) (l.length + 1) cap)) (by simp)
  have HV2 := (unhide HV).step HS2 (by simp)
  have HY2 := ((unhide HY).step HS1 (by simp)).step (Stp.setCell (w := w1) (a := ⟨gb, 7, none⟩) hg1 (.slice (some ⟨ga, 0, none⟩) (l.length + 1) cap)) (by simp)
  have k7 := hG1.c7
  have f7' := hG1.free 7
  have k8 := hG2.c8
  have f9 := hG2.free 8
  replace HS2 := hide HS2
  replace HO2 := hide HO2
  replace HV2 := hide HV2
  replace HY2 := hide HY2
  replace hG2 := hide hG2
  replace hg1 := hide hg1
  clear HS1 HO1 hG1 g7 g8 f7 f8 HV
  go_wp2_with fail
  generalize w1.setCell ⟨gb, 7, none⟩ (.slice (some ⟨ga, 0, none⟩) (l.length + 1) cap) = W2 at *
  clear k7 f7'
  go_region_law (first | (refine step_append_lies _ (by rfl) (.tmp 18) (.tmp 21) 47 (by rfl) 0 22 i0 _ 1 24 Tryz.underlying47 hi hz0 hz1 hz2 rfl (by decide) b.re l.length ys (by rfl) (hy3.alloc _) ⟨w3.heap.size, 0, none⟩ 1 1 [.slice ro es.length rc] (by rfl) rfl (cell_one_new _ _ _) (by intro u hu; simp at hu; subst hu; rfl) (by decide) (by unfold maxLen; omega) (by omega) (Nat.zero_le _) (w3.heap.size + 1) (by simp) ?_; intro gc cap2 w4 hown4 hgrow4 hat4 hlt4; obtain ⟨tg4, HG4, HG5, HR4, HR5, HS4⟩ := keep_second (unhide hG2) (unhide hg1) (unhide HY2) (by simp) (by simp) hb3 hr3 hgrow4 hown4 hat4; have k4 := HG4.c8; have q4 := HG4.free 8; replace HG4 := hide HG4; replace HG5 := hide HG5; replace HR4 := hide HR4; replace HR5 := hide HR5; replace HS4 := hide HS4; clear hown4 hgrow4 hat4) | (go_simp; go_at_call 91; refine (copiedEntries_any _ es W2.drew (by omega) (by exact ents_of_owns (unhide HV2).1)).mono ?_; rintro e w3 ⟨r', rfl, hr3, hb3⟩; obtain ⟨ro, rc, rfl⟩ := owns_form hr3; have hy3 := owns_belowD (unhide HY2).1 hb3; have k3 : w3.cell? ⟨gb, 8, none⟩ = some b.re := (hb3.cell (p := ⟨gb, 8, none⟩) (unhide hG2).lt).trans k8; have k3b := cell_alloc k3 (.cells #[.slice ro es.length rc] 22)))
  all_goals go_end0
  all_goals exact ⟨rfl, keep_fin (b := b) hes (unhide HW) (by simpa using (unhide HX).1.1) (by simpa using (unhide HY).1.1) (unhide HS2) (unhide HS4) (unhide HO2) (unhide HV2) (unhide HG4) (unhide HG5) rfl (unhide HR4) (unhide HR5)⟩

theorem keep_finT {i gb : Nat} {w W2 w4 : World} {tg tg1 tg4 : Tags} {c0 c1 c2 c3 : Value} {b b2 : BV} {l : List (List ByteArray)} {es : List ByteArray} {xs ys : List Value} {v we re r : Value}
    (hes : es.length ≤ 1000000)
    (hW : ∀ (k : Nat) (es : List ByteArray), l[k]? = some es → es.length ≤ 1000000 ∧ ∃ v r, xs[k]? = some v ∧ ys[k]? = some r ∧ Own w tg (tLT i k) 9 1 v es.length (tC es) ∧ Own w tg (0, 0) 9 1 r es.length (tC es))
    (hx : xs.length = l.length) (hy : ys.length = l.length)
    (hS2 : Stp (fun T => T = tG i ∨ T = tWT i ∨ T = tRT i) w tg W2 tg1) (hS4 : Stp (fun T => T = tRT i) W2 tg1 w4 tg4) (hO : Own W2 tg1 (tWT i) 99 1 we (l.length + 1) (xs ++ [v])) (hV : Own W2 tg1 (tLT i l.length) 9 1 v es.length (tC es))
    (hG4 : GameBlk w4 gb c0 c1 c2 c3 b2) (hg4 : tg4 gb = tG i) (hb : { b2 with rt := re } = { b with wt := we, rt := re }) (hR : Own w4 tg4 (tRT i) 99 1 re (l.length + 1) (ys ++ [r])) (hr : Own w4 tg4 (0, 0) 9 1 r es.length (tC es)) :
    KeptT i gb w tg c0 c1 c2 c3 b (l ++ [es]) (w4.setCell ⟨gb, 12, none⟩ re) := by
  have hs : Stp (fun U => U = tG i) w4 tg4 (w4.setCell ⟨gb, 12, none⟩ re) tg4 := Stp.setCell (a := ⟨gb, 12, none⟩) hg4 re
  have hall : Stp (fun T => T = tG i ∨ T = tWT i ∨ T = tRT i) w tg (w4.setCell ⟨gb, 12, none⟩ re) tg4 := (hS2.trans (hS4.mono fun x h => .inr (.inr h))).trans (hs.mono fun x h => .inl h)
  refine ⟨we, re, tg4, by rw [← hb]; exact hG4.setRT re, hg4, ⟨xs ++ [v], ys ++ [r], by simpa using (hO.step hS4 (by simp)).step hs (by simp), by simpa using hR.step hs (by simp), fun k fs hk => ?_⟩, hall⟩
  by_cases hkl : k < l.length
  · rw [List.getElem?_append_left hkl] at hk
    obtain ⟨h1, v', r', h2, h3, h4, h5⟩ := hW k fs hk
    exact ⟨h1, v', r', by rw [List.getElem?_append_left (by omega)]; exact h2, by rw [List.getElem?_append_left (by omega)]; exact h3, h4.step hall (by simp), h5.step hall (by simp)⟩
  · have hkk : k = l.length := by
      have := (List.getElem?_eq_some_iff.1 hk).1
      simp at this; omega
    subst hkk
    simp at hk
    subst hk
    exact ⟨hes, v, r, by simp [← hx], by simp [← hy], (hV.step hS4 (by simp)).step hs (by simp), hr.step hs (by simp)⟩

theorem infoStr : (Tryz.prog.info? 9).map (fun i => (i.zero, i.size, i.bytes)) = some (some (.string ⟨#[]⟩), 1, 16) := by kernel_rfl
theorem infoST : (Tryz.prog.info? 99).map (fun i => (i.zero, i.size, i.bytes)) = some (some (.slice none 0 0), 1, 24) := by kernel_rfl

set_option maxRecDepth 100000 in
set_option maxHeartbeats 400000 in
theorem keepTexts_any (i gb : Nat) (w : World) (tg : Tags) (c0 c1 c2 c3 : Value) (b : BV) (l : List (List ByteArray)) (v : Value) (es : List ByteArray)
    (hG : GameBlk w gb c0 c1 c2 c3 b) (hg : tg gb = tG i) (hW : WaitT i w tg b.wt b.rt l) (hv : Own w tg (tLT i l.length) 9 1 v es.length (tC es)) (hes : es.length ≤ 1000000) (hl : l.length ≤ 1000000000) :
    Calls Tryz.prog 50 #[.pointer (some ⟨gb, 4, none⟩), v] w fun e w' => e = .returned (.tuple #[]) ∧ KeptT i gb w tg c0 c1 c2 c3 b (l ++ [es]) w' := by
  obtain ⟨vo, vc, rfl⟩ := hv.form
  obtain ⟨xs, ys, hx, hy, hwl⟩ := hW.rows
  have HG := hide hG
  have HW := hide hwl
  have HX := hide hx
  have HY := hide hy
  have HV := hide hv
  clear hG hwl hx hy hv hW
  obtain ⟨i0, hi, hz0, hz1, hz2⟩ := info_parts infoST
  obtain ⟨i1, hj, hy0, hy1, hy2⟩ := info_parts infoStr
  have HZ := hide (src_of_owns (unhide HV).1)
  go_enter Tryz.func50, Tryz.ntmps50
  go_wp2_with (at_builtin; go_must (refine wpList_append_src rfl (.tmp 5) (.tmp 6) 99 rfl w.heap.size 9 i1 _ 1 16 Tryz.underlying99 hj hy0 hy1 hy2 rfl (by decide) (.slice none 0 0) 0 [] rfl (World.ownsRow_nil w w.heap.size 9 1) _ es.length (tC es) rfl (by simp) (unhide HZ) (tC_one es) (by unfold maxLen; omega) (by omega) (Nat.le_refl _) ?_))
  intro r w1 hr1 hgr1 _
  have hb1 : Below w.heap.size w w1 := (Below.refl _ _).grown hgr1 (Nat.le_refl _) (by intro k hk; simp [Value.ownBlock] at hk)
  have hs1 : Stp (fun _ => False) w tg w1 (newTag w.heap.size tg (0, 0)) := Stp.ofBelow hb1 tg (0, 0)
  obtain ⟨ro, rc, rfl⟩ := owns_form hr1
  have HR := hide (Own.fresh tg (0, 0) hr1)
  generalize newTag w.heap.size tg (0, 0) = tg1 at hs1 HR
  obtain ⟨hG1, hg1⟩ := (unhide HG).step hg hs1 (fun h => h)
  have HX1 := hide ((unhide HX).step hs1 (fun h => h))
  have HY1 := hide ((unhide HY).step hs1 (fun h => h))
  have HV1 := hide ((unhide HV).step hs1 (fun h => h))
  have HS1 := hide hs1
  have k11 := hG1.c11
  have f11 := hG1.free 11
  replace hG1 := hide hG1
  replace hg1 := hide hg1
  clear hr1 hgr1 hb1 hs1 HV HZ
  go_wp2_with (at_builtin; go_must (refine wpList_append_lies _ rfl (.tmp 12) (.tmp 14) 49 rfl 0 99 i0 _ 1 24 Tryz.underlying49 hi hz0 hz1 hz2 rfl (by decide) b.wt l.length xs rfl ((unhide HX1).1.alloc _) ⟨w1.heap.size, 0, none⟩ 1 1 [.slice vo es.length vc] rfl rfl (cell_one_new _ _ _) (by intro u hu; simp at hu; subst hu; rfl) (by decide) (by unfold maxLen; omega) (by omega) (Nat.zero_le _) (w1.heap.size + 1) (by simp) ?_))
  intro ga cap w2 hown2 hgrow2 hat2 hlt2
  obtain ⟨tg2, HO2, HS2⟩ := (unhide HX1).pushed hgrow2 hown2 hat2
  obtain ⟨hG2, hg2⟩ := (unhide hG1).step (unhide hg1) HS2 (by simp)
  have hG3 := hG2.setWT (.slice (some ⟨ga, 0, none⟩) (l.length + 1) cap)
  have hset := Stp.setCell (w := w2) (a := ⟨gb, 11, none⟩) hg2 (.slice (some ⟨ga, 0, none⟩) (l.length + 1) cap)
  have HS3 := hide (((unhide HS1).mono (B := fun T => T = tG i ∨ T = tWT i ∨ T = tRT i) (fun _ h => h.elim)).trans ((HS2.mono (B := fun T => T = tG i ∨ T = tWT i ∨ T = tRT i) (fun x hx => .inr (.inl hx))).trans (hset.mono fun x hx => .inl hx)))
  have HO3 := hide (HO2.step hset (by simp))
  have HV3 := hide (((unhide HV1).step HS2 (by simp)).step hset (by simp))
  have HY3 := hide (((unhide HY1).step HS2 (by simp)).step hset (by simp))
  have HR3 := hide (((unhide HR).step HS2 (by simp)).step hset (by simp))
  have k11' := hG2.c11
  have f11' := hG2.free 11
  have k12 := hG3.c12
  have f12 := hG3.free 12
  replace hG3 := hide hG3
  replace hg2 := hide hg2
  clear hown2 hgrow2 hat2 hlt2 HO2 HS2 hset hG2 k11 f11 hG1 hg1 HX1 HY1 HV1 HS1 HR
  go_upto_region 3 with fail
  generalize w2.setCell ⟨gb, 11, none⟩ (.slice (some ⟨ga, 0, none⟩) (l.length + 1) cap) = W3 at *
  clear k11' f11'
  go_wp2_with (at_builtin; go_must (refine wpList_append_lies _ rfl (.tmp 22) (.tmp 24) 49 rfl 0 99 i0 _ 1 24 Tryz.underlying49 hi hz0 hz1 hz2 rfl (by decide) b.rt l.length ys rfl ((unhide HY3).1.alloc _) ⟨W3.heap.size, 0, none⟩ 1 1 [.slice ro es.length rc] rfl rfl (cell_one_new _ _ _) (by intro u hu; simp at hu; subst hu; rfl) (by decide) (by unfold maxLen; omega) (by omega) (Nat.zero_le _) (W3.heap.size + 1) (by simp) ?_))
  intro gc cap2 w4 hown4 hgrow4 hat4 hlt4
  obtain ⟨tg4, HO4, HS4⟩ := (unhide HY3).pushed hgrow4 hown4 hat4
  obtain ⟨hG4, hg4⟩ := (unhide hG3).step (unhide hg2) HS4 (by simp)
  have HR4 := hide ((unhide HR3).step HS4 (by simp))
  have k12' := hG4.c12
  have f12' := hG4.free 12
  replace hG4 := hide hG4
  replace HS4 := hide HS4
  replace HO4 := hide HO4
  replace hg4 := hide hg4
  clear hown4 hgrow4 hat4 hlt4 k12 f12
  go_wp2
  go_end0
  exact ⟨rfl, keep_finT (b := b) hes (unhide HW) (by simpa using (unhide HX).1.1) (by simpa using (unhide HY).1.1) (unhide HS3) (unhide HS4) (unhide HO3) (unhide HV3) (unhide hG4) (unhide hg4) rfl (unhide HO4) (unhide HR4)⟩

end Go.Proofs.YteiecbkfganhnaaGreat
