/- settles, looks of a book. -/
import Derived.Test.YteiecbkfganhnaaGreatMark
namespace Go.Proofs.YteiecbkfganhnaaGreat
open Go.RowKit

/-- The roles of a game's book. -/
def Abook (i : Nat) (U : Nat × Nat) : Prop := 20 * i < U.1 ∧ U.1 < 20 * i + 20

/-- A game's block with its book: lists that wait, lists that are marked. -/
structure Bk (i gb : Nat) (w : World) (tg : Tags) (c0 c1 c2 c3 : Value) (b : BV) (l : List (List Ent)) (ne : Nat) (l2 : List (List ByteArray)) (nt : Nat) : Prop where
  G : GameBlk w gb c0 c1 c2 c3 b
  g : tg gb = tG i
  E : WaitE i w tg b.we b.re l
  T : WaitT i w tg b.wt b.rt l2
  ME : MarkE i w tg b.e ne
  MT : MarkT i w tg b.t nt
  m : b.m = .slice none 0 0
  wm : b.wm = .slice none 0 0

theorem Bk.step {A : Nat × Nat → Prop} {i gb : Nat} {w w' : World} {tg tg' : Tags} {c0 c1 c2 c3 : Value} {b : BV} {l : List (List Ent)} {ne : Nat} {l2 : List (List ByteArray)} {nt : Nat} (h : Bk i gb w tg c0 c1 c2 c3 b l ne l2 nt)
    (hs : Stp A w tg w' tg') (hA : ∀ U, Abook i U → ¬ A U) (h0 : ¬ A (0, 0)) : Bk i gb w' tg' c0 c1 c2 c3 b l ne l2 nt := by
  have hG := h.G.step h.g hs (hA _ ⟨by simp, by simp⟩)
  exact ⟨hG.1, hG.2, h.E.step hs (hA _ ⟨by simp, by simp⟩) (hA _ ⟨by simp, by simp⟩) (fun k => hA _ ⟨by simp, by simp⟩) h0, h.T.step hs (hA _ ⟨by simp, by simp⟩) (hA _ ⟨by simp, by simp⟩) (fun k => hA _ ⟨by simp, by simp⟩) h0,
    h.ME.step hs (hA _ ⟨by simp, by simp⟩) h0, h.MT.step hs (hA _ ⟨by simp, by simp⟩) h0, h.m, h.wm⟩

theorem waitE_nil (i : Nat) (w : World) (tg : Tags) : WaitE i w tg (.slice none 0 0) (.slice none 0 0) [] := ⟨[], [], Own.nil _ _ _ _ _, Own.nil _ _ _ _ _, fun k es h => by simp at h⟩
theorem waitT_nil (i : Nat) (w : World) (tg : Tags) : WaitT i w tg (.slice none 0 0) (.slice none 0 0) [] := ⟨[], [], Own.nil _ _ _ _ _, Own.nil _ _ _ _ _, fun k es h => by simp at h⟩

/-- A book with nothing that waits. -/
def Settled (i gb : Nat) (w : World) (tg : Tags) (c0 c1 c2 c3 : Value) (ne nt : Nat) (w' : World) : Prop :=
  ∃ b tg', Bk i gb w' tg' c0 c1 c2 c3 b [] ne [] nt ∧ Stp (Abook i) w tg w' tg'

abbrev A1 (i k : Nat) : Nat × Nat → Prop := fun U => U = tG i ∨ U = tE i ∨ ∃ j, j < k ∧ U = tLE i j
abbrev A2 (i k : Nat) : Nat × Nat → Prop := fun U => U = tG i ∨ U = tT i ∨ ∃ j, j < k ∧ U = tLT i j

/-- The six cells of lists that wait are emptied. -/
abbrev emptied (w : World) (gb : Nat) : World :=
  (((((w.setCell ⟨gb, 7, none⟩ (.slice none 0 0)).setCell ⟨gb, 8, none⟩ (.slice none 0 0)).setCell ⟨gb, 9, none⟩ (.slice none 0 0)).setCell ⟨gb, 10, none⟩ (.slice none 0 0)).setCell ⟨gb, 11, none⟩ (.slice none 0 0)).setCell ⟨gb, 12, none⟩ (.slice none 0 0)

theorem emptied_bk {i gb : Nat} {w : World} {tg : Tags} {c0 c1 c2 c3 : Value} {b : BV} {ne nt : Nat} (hG : GameBlk w gb c0 c1 c2 c3 b) (hg : tg gb = tG i) (hE : MarkE i w tg b.e ne) (hT : MarkT i w tg b.t nt) (hm : b.m = .slice none 0 0) :
    Bk i gb (emptied w gb) tg c0 c1 c2 c3 { b with we := .slice none 0 0, re := .slice none 0 0, wm := .slice none 0 0, rm := .slice none 0 0, wt := .slice none 0 0, rt := .slice none 0 0 } [] ne [] nt ∧ Stp (fun U => U = tG i) w tg (emptied w gb) tg := by
  have hs : Stp (fun U => U = tG i) w tg (emptied w gb) tg :=
    (((((Stp.setCell (a := ⟨gb, 7, none⟩) hg _).trans (Stp.setCell (a := ⟨gb, 8, none⟩) hg _)).trans (Stp.setCell (a := ⟨gb, 9, none⟩) hg _)).trans (Stp.setCell (a := ⟨gb, 10, none⟩) hg _)).trans (Stp.setCell (a := ⟨gb, 11, none⟩) hg _)).trans (Stp.setCell (a := ⟨gb, 12, none⟩) hg _)
  exact ⟨⟨(((((hG.setWE _).setRE _).setWM _).setRM _).setWT _).setRT _, hg, waitE_nil _ _ _, waitT_nil _ _ _, hE.step hs (by simp) (by simp), hT.step hs (by simp) (by simp), hm, rfl⟩, hs⟩

theorem settled_fin {i gb : Nat} {w W wr w5 w7 : World} {tg tg1 tg2 : Tags} {c0 c1 c2 c3 : Value} {b : BV} {ne nt k1 k2 : Nat} (hS : Stp (fun _ => False) w tg W tg) (hS1 : Stp (A1 i k1) W tg wr tg1) (hS2 : Stp (A2 i k2) wr tg1 w5 tg2)
    (hS3 : Stp (fun U => U = tG i) w5 tg2 (emptied w5 gb) tg2) (hB : Bk i gb (emptied w5 gb) tg2 c0 c1 c2 c3 b [] ne [] nt) (hb : Below (emptied w5 gb).heap.size (emptied w5 gb) w7) : Settled i gb w tg c0 c1 c2 c3 ne nt w7 := by
  have h7 : Stp (fun _ => False) (emptied w5 gb) tg2 w7 (newTag (emptied w5 gb).heap.size tg2 (0, 1)) := Stp.ofBelow hb tg2 (0, 1)
  refine ⟨b, _, hB.step h7 (fun _ _ h => h) (fun h => h), ((((hS.mono fun _ h => h.elim).trans (hS1.mono ?_)).trans (hS2.mono ?_)).trans (hS3.mono ?_)).trans (h7.mono fun _ h => h.elim)⟩
  · rintro U (h | h | ⟨j, _, h⟩) <;> subst h <;> exact ⟨by simp, by simp⟩
  · rintro U (h | h | ⟨j, _, h⟩) <;> subst h <;> exact ⟨by simp, by simp⟩
  · rintro U h; subst h; exact ⟨by simp, by simp⟩

set_option maxRecDepth 100000 in
set_option maxHeartbeats 1000000 in
theorem settles_any (i gb : Nat) (w : World) (tg : Tags) (c0 c1 c2 c3 : Value) (b : BV) (l : List (List Ent)) (ne : Nat) (l2 : List (List ByteArray)) (nt : Nat)
    (h : Bk i gb w tg c0 c1 c2 c3 b l ne l2 nt) (hl : l.length ≤ 100000000) (hl2 : l2.length ≤ 100000000) (hne : ne ≤ 100000000) (hnt : nt ≤ 100000000) :
    Calls Tryz.prog 36 #[.pointer (some ⟨gb, 4, none⟩)] w fun e w' => e = .returned (.bool true) ∧ Settled i gb w tg c0 c1 c2 c3 (ne + l.length) (nt + l2.length) w' := by
  have H := hide h
  clear h
  go_enter Tryz.func36, Tryz.ntmps36
  go_wp2_with (go_at_call 37; refine (waits_any i gb w tg c0 c1 c2 c3 b l l2 (unhide H).G (unhide H).E (unhide H).T (unhide H).wm (by omega) (by omega)).mono ?_; rintro e W ⟨rfl, m, hW⟩; replace hW := hide hW)
  have HB : Hid (Bk i gb W tg c0 c1 c2 c3 b l ne l2 nt) := by show Bk _ _ _ _ _ _ _ _ _ _ _ _ _; rw [unhide hW]; exact (unhide H).step ((Stp.refl (fun _ => False) w tg).drewN m) (fun _ _ h => h) (fun h => h)
  have HS : Hid (Stp (fun _ => False) w tg W tg) := by show Stp _ _ _ _ _; rw [unhide hW]; exact (Stp.refl _ _ _).drewN m
  clear hW H
  go_loopw [4] (fun ix wr => ∃ k : Nat, k ≤ l.length ∧ ix = .int .i64 k ∧ ∃ e tg', GameBlk wr gb c0 c1 c2 c3 { b with e := e } ∧ tg' gb = tG i ∧ MarkE i wr tg' e (ne + k) ∧ Stp (A1 i k) W tg wr tg') (fun ix _ => l.length - (intOf ix).toNat)
  case atStart => exact ⟨0, Nat.zero_le _, rfl, b.e, tg, (unhide HB).G, (unhide HB).g, (unhide HB).ME, Stp.refl _ _ _⟩
  case round =>
    obtain ⟨k, hk, rfl, e, tg1, hG, hg, hM, hS⟩ := hrel
    obtain ⟨xs, ys, hx, hy, hwl⟩ := (unhide HB).E.rows
    obtain ⟨ao, cap, hwe⟩ := hx.form
    have g7 : wr.cell? ⟨gb, 7, none⟩ = some (.slice ao l.length cap) := by rw [← hwe]; exact hG.c7
    by_cases hlt : k < l.length
    · obtain ⟨hb, v, r, hv, hr, ho, hp⟩ := hwl k l[k] (by simp [hlt])
      have hx1 := hx.step hS (by simp)
      rw [hwe] at hx1
      obtain ⟨ga, rfl, e1⟩ := own_elem hx1.1 hv
      have ho1 := ho.step hS (by simp)
      have i1 : (0 : Int) ≤ (k : Int) := by omega
      have i2 : (k : Int) < (l.length : Int) := by omega
      have HC := hide (markEntries_any i gb wr tg1 c0 c1 c2 c3 { b with e := e } (ne + k) (tLE i k) v l[k] hG hg hM ho1 (by simp) (by simp) (by simp) (by simp) hb (by omega))
      replace hS := hide hS
      clear hG hg hM hx hy hwl hwe hv hr ho hp hx1 ho1 hb
      go_wp2_with (go_at_call 84; refine (unhide HC).mono ?_; rintro e w2 ⟨rfl, hM2⟩)
      go_wp2
      go_roundw
      case rel =>
        obtain ⟨e3, tg3, h1, h2, h3, h4⟩ := hM2
        refine ⟨k + 1, by omega, by go_num, e3, tg3, h1, h2, h3, ?_⟩
        refine ((unhide hS).mono ?_).trans (h4.mono ?_)
        · rintro U (h | h | ⟨j, hj, h⟩)
          · exact .inl h
          · exact .inr (.inl h)
          · exact .inr (.inr ⟨j, by omega, h⟩)
        · rintro U (h | h | h)
          · exact .inl h
          · exact .inr (.inl h)
          · exact .inr (.inr ⟨k, by omega, h⟩)
      case measure => simp [intOf]; omega
    · have hkl : k = l.length := by omega
      subst hkl
      have g9 : wr.cell? ⟨gb, 9, none⟩ = some (.slice none 0 0) := by rw [← (unhide HB).wm]; exact hG.c9
      have HG1 := hide hG
      have Hg1 := hide hg
      have HM1 := hide hM
      have HS1 := hide hS
      clear hG hg hM hS hx hy hwl hwe
      go_wp2
      refine wp_loop_rounds 1 ?_
      rw [rounds_succ]
      go_wp2
      go_loopw [6] (fun ix w5 => ∃ k : Nat, k ≤ l2.length ∧ ix = .int .i64 k ∧ ∃ t tg', GameBlk w5 gb c0 c1 c2 c3 { b with e := e, t := t } ∧ tg' gb = tG i ∧ MarkT i w5 tg' t (nt + k) ∧ Stp (A2 i k) wr tg1 w5 tg') (fun ix _ => l2.length - (intOf ix).toNat)
      case atStart => exact ⟨0, Nat.zero_le _, rfl, b.t, tg1, unhide HG1, unhide Hg1, (unhide HB).MT.step (unhide HS1) (by simp) (by simp), Stp.refl _ _ _⟩
      case round =>
        clear g7 g9
        obtain ⟨k, hk, rfl, t, tg2, hG, hg, hM, hS⟩ := hrel
        obtain ⟨xs, ys, hx, hy, hwl⟩ := (unhide HB).T.rows
        obtain ⟨ao2, cap2, hwe⟩ := hx.form
        have g11 := hG.c11
        simp only [hwe] at g11
        by_cases hlt : k < l2.length
        · obtain ⟨hb, v, r, hv, hr, ho, hp⟩ := hwl k l2[k] (by simp [hlt])
          have hx1 := (hx.step (unhide HS1) (by simp)).step hS (by simp)
          rw [hwe] at hx1
          obtain ⟨ga, rfl, e1⟩ := own_elem hx1.1 hv
          have ho1 := (ho.step (unhide HS1) (by simp)).step hS (by simp)
          have i1 : (0 : Int) ≤ (k : Int) := by omega
          have i2 : (k : Int) < (l2.length : Int) := by omega
          have HC := hide (markTexts_any i gb wr tg2 c0 c1 c2 c3 { b with e := e, t := t } (nt + k) (tLT i k) v l2[k] hG hg hM ho1 (by simp) (by simp) (by simp) hb (by omega))
          replace hS := hide hS
          clear hG hg hM hx hy hwl hwe hv hr ho hp hx1 ho1 hb
          go_wp2_with (go_at_call 86; refine (unhide HC).mono ?_; rintro e w2 ⟨rfl, hM2⟩)
          go_wp2
          go_roundw
          case rel =>
            obtain ⟨e3, tg3, h1, h2, h3, h4⟩ := hM2
            refine ⟨k + 1, by omega, by go_num, e3, tg3, h1, h2, h3, ?_⟩
            refine ((unhide hS).mono ?_).trans (h4.mono ?_)
            · rintro U (h | h | ⟨j, hj, h⟩)
              · exact .inl h
              · exact .inr (.inl h)
              · exact .inr (.inr ⟨j, by omega, h⟩)
            · rintro U (h | h | h)
              · exact .inl h
              · exact .inr (.inl h)
              · exact .inr (.inr ⟨k, by omega, h⟩)
          case measure => simp [intOf]; omega
        · have hkl : k = l2.length := by omega
          subst hkl
          have HG2 := hide hG
          have Hg2 := hide hg
          have HM2 := hide hM
          have HS2 := hide hS
          have k7 := hG.c7
          have k8 := hG.c8
          have k9 := hG.c9
          have k10 := hG.c10
          have k12 := hG.c12
          have f7 := hG.free 7
          have f8 := hG.free 8
          have f9 := hG.free 9
          have f10 := hG.free 10
          have f11 := hG.free 11
          have f12 := hG.free 12
          clear hG hg hM hS hx hy hwl hwe
          have HE2 := hide ((unhide HM1).step (unhide HS2) (by simp) (by simp))
          have HZ := hide (emptied_bk (unhide HG2) (unhide Hg2) (unhide HE2) (unhide HM2) (unhide HB).m)
          go_wp2_with (go_at_call 38; refine (reads_any i gb _ tg2 c0 c1 c2 c3 _ _ _ (by exact (unhide HZ).1.G) (by exact (unhide HZ).1.ME) (by exact (unhide HZ).1.MT) (by exact (unhide HZ).1.m) (by omega) (by omega)).mono ?_; rintro e w7 ⟨rfl, hb7⟩; replace hb7 := hide hb7)
          go_ret
          exact ⟨rfl, settled_fin (unhide HS) (unhide HS1) (unhide HS2) (unhide HZ).2 (unhide HZ).1 (unhide hb7)⟩

end Go.Proofs.YteiecbkfganhnaaGreat
