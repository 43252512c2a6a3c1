/- The document's node: lead. -/
import Derived.Test.YteiecbkfganhnaaGreatRefY
import Derived.Test.YteiecbkfganhnaaGreatRefZ

namespace Go.Proofs.YteiecbkfganhnaaGreat

open Go.RowKit Go.MuLone

theorem RB.hdEq {w : World} {rb : Nat} {s : Nd} {v : RV} {out : List (Msg × Value)} (h : RB w rb s v out) (f : Nat → Bool) (hf : ∀ i, i < s.n → f i = s.hd i) : RB w rb { s with hd := f } v out := by
  have hb : bC f s.n = bC s.hd s.n := by
    apply List.ext_getElem?
    intro i
    by_cases hi : i < s.n
    · rw [bC_get _ hi, bC_get _ hi, hf i hi]
    · rw [List.getElem?_eq_none (by rw [bC_length]; omega), List.getElem?_eq_none (by rw [bC_length]; omega)]
  refine ⟨h.blk, h.log, h.gr, h.nx, h.mt, ?_, h.row, h.outs, h.gh, h.nm, h.lo⟩
  show w.ownsRow 0 4 1 v.hv s.n (bC f s.n)
  rw [hb]
  exact h.hd

def lpR (s : Nd) (k : Nat) : Nd := { s with role := 3, leads := s.id, elapsed := 0, nx := fun i => if i < k then s.last + 1 else s.nx i, mt := fun i => if i < k then 0 else s.mt i, hd := fun i => if i < k then false else s.hd i }

theorem lpR_zero (s : Nd) : lpR s 0 = { s with role := 3, leads := s.id, elapsed := 0 } := by simp [lpR]

theorem updLess {α : Type} (a : α) (f : Nat → α) (k : Nat) : upd (fun i => if i < k then a else f i) k a = fun i => if i < k + 1 then a else f i := by
  funext i
  unfold upd
  by_cases h : i = k
  · subst h; simp
  · by_cases h2 : i < k
    · simp only [if_neg h, if_pos h2, if_pos (show i < k + 1 by omega)]
    · simp only [if_neg h, if_neg h2, if_neg (show ¬ i < k + 1 by omega)]

/-- One node's numbers at a leader's start. -/
theorem lpR_step {w : World} {rb ng nc mg mc hg hc k : Nat} {s : Nd} {v : RV} {out : List (Msg × Value)} (h : RB w rb (lpR s k) v out) (h1 : v.nv = .slice (some ⟨ng, 0, none⟩) s.n nc) (h2 : v.mv = .slice (some ⟨mg, 0, none⟩) s.n mc) (h3 : v.hv = .slice (some ⟨hg, 0, none⟩) s.n hc) :
    RB (((w.setCell ⟨ng, k, none⟩ (.int .i64 ((s.last : Int) + 1))).setCell ⟨mg, k, none⟩ (.int .i64 0)).setCell ⟨hg, k, none⟩ (.bool false)) rb (lpR s (k + 1)) v out := by
  have q1 := h.putNx (i := k) (x := s.last + 1) h1
  have q2 := q1.putMt (i := k) (x := 0) h2
  have q3 := q2.putHd (i := k) (b := false) h3
  have e1 : ((s.last + 1 : Nat) : Int) = (s.last : Int) + 1 := by omega
  have e2 : ((0 : Nat) : Int) = 0 := rfl
  rw [e1, e2] at q3
  have e3 : ({ ({ ({ lpR s k with nx := upd (lpR s k).nx k (s.last + 1) } : Nd) with mt := upd (lpR s k).mt k 0 } : Nd) with hd := upd (lpR s k).hd k false } : Nd) = lpR s (k + 1) := by
    simp only [lpR]
    rw [updLess, updLess, updLess]
  rw [← e3]
  exact q3

/-- An entry is put behind the log. -/
theorem RB.pushLog {w w' : World} {rb g cap : Nat} {s : Nd} {v : RV} {out : List (Msg × Value)} {x : Ent} {o : Obj} (h : RB w rb s v out) (hg : (w.alloc o).drew.grownBy w' v.lv.ownBlock)
    (ho : w'.ownsRow 0 66 2 (.slice (some ⟨g, 0, none⟩) (s.log.length + 1) cap) (s.log.length + 1) (eC s.log ++ [.int .i64 x.1, .string x.2])) (hat : v.lv.ownBlock = some g ∨ g = w.heap.size + 1) :
    RB (w'.setCell ⟨rb, 4, none⟩ (.slice (some ⟨g, 0, none⟩) (s.log.length + 1) cap)) rb { s with log := s.log ++ [x] } { v with lv := .slice (some ⟨g, 0, none⟩) (s.log.length + 1) cap } out ∧
    Er rb v { v with lv := .slice (some ⟨g, 0, none⟩) (s.log.length + 1) cap } w (w'.setCell ⟨rb, 4, none⟩ (.slice (some ⟨g, 0, none⟩) (s.log.length + 1) cap)) := by
  have hgb : ∀ k, k < (w.alloc o).heap.size → some k ≠ v.lv.ownBlock → w'.heap[k]? = (w.alloc o).heap[k]? := hg.block
  have hgs : (w.alloc o).heap.size ≤ w'.heap.size := hg.size
  have key : ∀ {e size n : Nat} {u : Value} {xs : List Value}, w.ownsRow 0 e size u n xs → (∀ k, u.ownBlock = some k → v.lv.ownBlock ≠ some k) → w'.ownsRow 0 e size u n xs := fun {e size n u xs} hu hne =>
    owns_kept (hu.alloc o) fun k hk => hgb k (owns_lt (hu.alloc o) k hk) (fun e => hne k hk e.symm)
  have hblk : w'.heap[rb]? = some (.cells (rcells s v) 64 (0, 0)) := ((hgb rb (by simp; have := h.lt; omega) (fun e => owns_apart h.log h.blk (by decide) e.symm)).trans (Below.heap_alloc w o rb h.lt)).trans h.blk
  have hout : ∀ y ∈ out, ∀ k, y.2.ownBlock = some k → v.lv.ownBlock ≠ some k := fun y hy k hk hx => h.lo y hy k hx hk
  refine ⟨⟨heap_setCell_same w' rb 4 _ _ _ hblk, ?_, owns_cell (key h.gr (owns_other h.gr h.log (by decide))) hblk (by decide), owns_cell (key h.nx (owns_other h.nx h.log (by decide))) hblk (by decide), owns_cell (key h.mt (owns_other h.mt h.log (by decide))) hblk (by decide), owns_cell (key h.hd (owns_other h.hd h.log (by decide))) hblk (by decide), owns_cell (key h.row (owns_other h.row h.log (by decide))) hblk (by decide), fun y hy => owns_cell (key (h.outs y hy) (hout y hy)) hblk (by decide), h.gh, h.nm, fun y hy k hk hx => ?_⟩, ?_⟩
  · refine owns_cell ?_ hblk (by decide)
    show w'.ownsRow 0 66 2 (.slice (some ⟨g, 0, none⟩) (s.log.length + 1) cap) (s.log ++ [x]).length (eC (s.log ++ [x]))
    rw [List.length_append, eC_append]
    exact ho
  · simp [Value.ownBlock] at hk
    subst hk
    rcases hat with e | e
    · exact h.lo y hy _ e hx
    · have := owns_lt (h.outs y hy) _ hx
      omega
  · refine ⟨hg.os, hg.tape, hg.output, ?_, fun k hk hn => ?_, fun k hk => ?_⟩
    · simp [World.setCell] at hgs ⊢
      omega
    · rw [Below.heap_setCell _ _ _ _ (fun e => hn (.inl e)), hgb k (by simp; omega) (fun e => hn (.inr (.inl e.symm)))]
      exact Below.heap_alloc w o k hk
    · rcases hk with hk | hk | hk | hk | hk | hk | hk
      · exact .inl (.inl hk)
      · simp [Value.ownBlock] at hk
        subst hk
        rcases hat with e | e
        · exact .inl (.inr (.inl e))
        · exact .inr (by omega)
      · exact .inl (.inr (.inr (.inl hk)))
      · exact .inl (.inr (.inr (.inr (.inl hk))))
      · exact .inl (.inr (.inr (.inr (.inr (.inl hk)))))
      · exact .inl (.inr (.inr (.inr (.inr (.inr (.inl hk))))))
      · exact .inl (.inr (.inr (.inr (.inr (.inr (.inr hk))))))

theorem RB.grownLog {w w' : World} {rb : Nat} {s : Nd} {v : RV} {out : List (Msg × Value)} {o : Obj} (h : RB w rb s v out) (hg : (w.alloc o).drew.grownBy w' v.lv.ownBlock) : w'.heap[rb]? = some (.cells (rcells s v) 64 (0, 0)) := by
  have hgb : ∀ k, k < (w.alloc o).heap.size → some k ≠ v.lv.ownBlock → w'.heap[k]? = (w.alloc o).heap[k]? := hg.block
  exact ((hgb rb (by simp; have := h.lt; omega) (fun e => owns_apart h.log h.blk (by decide) e.symm)).trans (Below.heap_alloc w o rb h.lt)).trans h.blk

theorem lpR_end (s : Nd) : ({ lpR s s.n with hd := none7 } : Nd) = s.leadA := rfl

set_option maxRecDepth 100000 in
set_option maxHeartbeats 1000000 in
theorem refLead_start (rb : Nat) (s : Nd) (v : RV) (out : List (Msg × Value)) (w : World) (h : RB w rb s v out) (hn1 : 1 ≤ s.n) (hn : s.n ≤ 7) (hid : s.id < s.n) (hs : s.last ≤ 60) (ht : 1 ≤ s.term) (hok : okE s.log 1 s.term = true) (ho : out.length ≤ 80) :
    Calls Tryz.prog 103 #[.pointer (some ⟨rb, 0, none⟩)] w fun e w' => e = .returned (.tuple #[]) ∧ ∃ l, l.map Prod.fst = s.lead.2 ∧ ∃ v', RB w' rb s.lead.1 v' (out ++ l) ∧ Er rb v v' w w' := by
  have c0 := h.c0
  have c1 := h.c1
  have c6 := h.c6
  have c7 := h.c7
  have c8 := h.c8
  have f6 := h.free 6
  have f7 := h.free 7
  have f8 := h.free 8
  obtain ⟨ng, nc, hnv⟩ : ∃ g c, v.nv = .slice (some ⟨g, 0, none⟩) s.n c := by
    rcases h.nx.2 with ⟨_, h0⟩ | ⟨g, cap, cur, hv, _⟩
    · omega
    · exact ⟨g, cap, hv⟩
  obtain ⟨mg, mc, hmv⟩ : ∃ g c, v.mv = .slice (some ⟨g, 0, none⟩) s.n c := by
    rcases h.mt.2 with ⟨_, h0⟩ | ⟨g, cap, cur, hv, _⟩
    · omega
    · exact ⟨g, cap, hv⟩
  obtain ⟨hg, hc, hhv⟩ : ∃ g c, v.hv = .slice (some ⟨g, 0, none⟩) s.n c := by
    rcases h.hd.2 with ⟨_, h0⟩ | ⟨g, cap, cur, hv, _⟩
    · omega
    · exact ⟨g, cap, hv⟩
  have HN0 : Hid (RB (((w.setCell ⟨rb, 6, none⟩ (.int .i64 3)).setCell ⟨rb, 7, none⟩ (.int .i64 (s.id : Int))).setCell ⟨rb, 8, none⟩ (.int .i64 0)) rb (lpR s 0) v out) := by
    show RB _ _ _ _ _
    rw [lpR_zero]
    exact ((h.putRole 3).putLeads (s.id : Int)).putElapsed 0
  have HE0 := hide ((((Er.refl rb v w).set (.inl (v.self rb)) 6 (.int .i64 3)).set (.inl (v.self rb)) 7 (.int .i64 (s.id : Int))).set (.inl (v.self rb)) 8 (.int .i64 0))
  have H := hide h
  have HNV := hide hnv
  have HMV := hide hmv
  have HHV := hide hhv
  have HOK := hide hok
  clear h hnv hmv hhv hok
  go_enter Tryz.func103, Tryz.ntmps103
  go_wp2
  generalize ((w.setCell ⟨rb, 6, none⟩ (.int .i64 3)).setCell ⟨rb, 7, none⟩ (.int .i64 (s.id : Int))).setCell ⟨rb, 8, none⟩ (.int .i64 0) = W at *
  clear c0 c1 c6 c7 c8 f6 f7 f8
  go_loopw [2] (fun i wr => ∃ k : Nat, k ≤ s.n ∧ i = .int .i64 k ∧ RB wr rb (lpR s k) v out ∧ Er rb v v w wr) (fun i _ => s.n - (intOf i).toNat)
  case atStart => exact ⟨0, Nat.zero_le _, rfl, unhide HN0, unhide HE0⟩
  case round =>
    obtain ⟨k, hk, rfl, hR, hE⟩ := hrel
    have e1 : wr.cell? ⟨rb, 1, none⟩ = some (.int .i64 (s.n : Int)) := hR.c1
    obtain ⟨lo, lc, hlv⟩ := owns_form hR.log
    have hll : (lpR s k).log.length = s.last := rfl
    rw [hll] at hlv
    have e4 := hR.c4
    rw [hlv] at e4
    have e11 := hR.c11
    rw [unhide HNV] at e11
    have e12 := hR.c12
    rw [unhide HMV] at e12
    have e13 := hR.c13
    rw [unhide HHV] at e13
    by_cases hlt : k < s.n
    · have i1 : (0 : Int) ≤ (k : Int) := by omega
      have i2 : (k : Int) < (s.n : Int) := by omega
      have hS := lpR_step hR (unhide HNV) (unhide HMV) (unhide HHV)
      have HS := hide hS
      have hrn := hR.nx
      rw [unhide HNV] at hrn
      obtain ⟨g1, hg1, z1, y1⟩ := owns_at hrn (j := k) (by rw [nC_length]; exact hlt)
      have hrm := hR.mt
      rw [unhide HMV] at hrm
      obtain ⟨g2, hg2, z2, y2⟩ := owns_at hrm (j := k) (by rw [nC_length]; exact hlt)
      have hrh := hR.hd
      rw [unhide HHV] at hrh
      obtain ⟨g3, hg3, z3, y3⟩ := owns_at hrh (j := k) (by rw [bC_length]; exact hlt)
      simp only [Option.some.injEq, Addr.mk.injEq, and_true] at hg1 hg2 hg3
      subst hg1
      subst hg2
      subst hg3
      have a1 : ¬ ng = rb := fun e => owns_apart hR.nx hR.blk (by decide) (by rw [unhide HNV, e]; rfl)
      have a2 : ¬ mg = rb := fun e => owns_apart hR.mt hR.blk (by decide) (by rw [unhide HMV, e]; rfl)
      have a3 : ¬ hg = rb := fun e => owns_apart hR.hd hR.blk (by decide) (by rw [unhide HHV, e]; rfl)
      have a4 : ¬ ng = mg := fun e => hR.nm ng (by rw [unhide HNV]; rfl) (by rw [unhide HMV, e]; rfl)
      have a1' : ¬ rb = ng := fun e => a1 e.symm
      have a2' : ¬ rb = mg := fun e => a2 e.symm
      have a3' : ¬ rb = hg := fun e => a3 e.symm
      have a4' : ¬ mg = ng := fun e => a4 e.symm
      have HE := hide hE
      have b1 : ¬ ng = hg := fun e => owns_other hR.nx hR.hd (by decide) ng (by rw [unhide HNV]; rfl) (by rw [unhide HHV, e]; rfl)
      have b2 : ¬ mg = hg := fun e => owns_other hR.mt hR.hd (by decide) mg (by rw [unhide HMV]; rfl) (by rw [unhide HHV, e]; rfl)
      have b1' : ¬ hg = ng := fun e => b1 e.symm
      have b2' : ¬ hg = mg := fun e => b2 e.symm
      have HH1 : Hid (v.has rb ng ∧ v.has rb mg ∧ v.has rb hg) := ⟨.inr (.inr (.inr (.inl (by rw [unhide HNV]; rfl)))), .inr (.inr (.inr (.inr (.inl (by rw [unhide HMV]; rfl))))), .inr (.inr (.inr (.inr (.inr (.inl (by rw [unhide HHV]; rfl))))))⟩
      clear hR hE hS hrn hrm hrh hlv hll
      go_wp2
      go_region
      all_goals go_wp2
      all_goals go_roundw
      case rel => exact ⟨k + 1, by omega, by go_num, (unhide HS).drew, ((((unhide HE).set (.inl (unhide HH1).1) _ _).set (.inl (unhide HH1).2.1) _ _).set (.inl (unhide HH1).2.2) _ _).drew⟩
      case measure => simp [intOf]; omega
    · have hkn : k = s.n := by omega
      subst hkn
      have hRA := hR.hdEq none7 (fun i hi => by have hi' : i < s.n := hi; simp [lpR, none7, hi'])
      rw [lpR_end] at hRA
      obtain ⟨sA, hsA⟩ : ∃ sA, s.leadA = sA := ⟨_, rfl⟩
      rw [hsA] at hRA
      have hlA : sA.last = s.last := by rw [← hsA]; rfl
      have hiA : sA.id = s.id := by rw [← hsA]; rfl
      have hnA : sA.n = s.n := by rw [← hsA]; rfl
      have HSA := hide hsA
      have HRA := hide hRA
      have HE := hide hE
      have hMA : v.mv = .slice (some ⟨mg, 0, none⟩) sA.n mc := by rw [hnA]; exact unhide HMV
      by_cases h60 : s.last < 60
      · have h60' : (s.last : Int) < 60 := by omega
        have f4 := hRA.free 4
        have e2 := hRA.c2
        have hltA := hRA.lt
        have hneA : ¬ rb = wr.heap.size := by omega
        have q4 := hRA.c4
        have HLE : Hid (sA.log.length ≤ 60) := by show sA.last ≤ 60; omega
        obtain ⟨i0, hi0, hz0, hz1, hz2⟩ := info_parts infoEntry
        have HIA := hide (And.intro hlA (And.intro hiA hnA))
        have HMA := hide hMA
        clear hR hE hRA hsA hlA hiA hnA hMA hll e11 e12 e13
        go_wp2
        rw [← hlv] at e4
        clear hlv q4
        go_region_law (first | (refine step_append_lies _ (by rfl) (.tmp 58) (.tmp 64) 22 (by rfl) 0 66 i0 _ 2 24 Tryz.underlying22 hi0 hz0 hz1 hz2 rfl (by decide) v.lv sA.log.length (eC sA.log) (by rfl) (by exact World.ownsRow.alloc (unhide HRA).log (.cells #[.int .i64 sA.term, .string ⟨#[]⟩] 66)) ⟨wr.heap.size, 0, none⟩ 1 1 [.int .i64 sA.term, .string ⟨#[]⟩] (by rfl) rfl (by exact cells_new9 _ _ _) (by intro u hu; simp at hu; rcases hu with rfl | rfl <;> rfl) (by decide) (by unfold maxLen; have := unhide HLE; omega) (by have := unhide HLE; omega) (Nat.zero_le _) (wr.heap.size + 1) (by simp) ?_; intro gc cap2 w4 hown4 hgrow4 hat4 hlt4; have hb4 := (unhide HRA).grownLog hgrow4; have k4 : w4.cell? ⟨rb, 4, none⟩ = some v.lv := cell_of_row w4 rb 4 _ _ _ hb4; have q4 := frozen_of_row w4 rb 4 _ _ hb4; clear hb4; replace hown4 := hide hown4; replace hgrow4 := hide hgrow4; replace hat4 := hide hat4; clear hlt4))
        all_goals
          obtain ⟨g1, g2⟩ := (unhide HRA).pushLog (x := ((sA.term, ⟨#[]⟩) : Ent)) (unhide hgrow4) (unhide hown4) (unhide hat4)
          obtain ⟨s2, hs2⟩ : ∃ s2, ({ sA with log := sA.log ++ [((sA.term, ⟨#[]⟩) : Ent)] } : Nd) = s2 := ⟨_, rfl⟩
          rw [hs2] at g1
          have HS2 : Hid (s.leadA.leadB = s2) := by
            show _ = _
            rw [unhide HSA, ← hs2]
            exact if_pos (show sA.last < 60 by have := (unhide HIA).1; omega)
          have HID : Hid (s2.id < s2.n ∧ s2.n = s.n ∧ s2.last ≤ 60) := by
            have hx := unhide HIA
            refine ⟨by rw [← hs2]; show sA.id < sA.n; omega, by rw [← hs2]; exact hx.2.2, ?_⟩
            rw [← hs2]
            show (sA.log ++ [((sA.term, ⟨#[]⟩) : Ent)]).length ≤ 60
            rw [List.length_append]
            have q1 : sA.log.length = s.last := hx.1
            simp; omega
          obtain ⟨v2, hv2⟩ : ∃ v2, ({ v with lv := .slice (some ⟨gc, 0, none⟩) (sA.log.length + 1) cap2 } : RV) = v2 := ⟨_, rfl⟩
          rw [hv2] at g1 g2
          have HM2 : Hid (v2.mv = .slice (some ⟨mg, 0, none⟩) s2.n mc) := by rw [← hv2, ← hs2]; exact unhide HMA
          have HR2 := hide g1
          have HE2 := hide ((unhide HE).trans g2)
          clear g1 g2 hs2 hv2 hown4 hgrow4 hat4 k4 q4 HRA HE e4 e2 f4 HMA
          generalize w4.setCell ⟨rb, 4, none⟩ (.slice (some ⟨gc, 0, none⟩) (sA.log.length + 1) cap2) = W2 at *
          go_wp2
          have m0 := (unhide HR2).c0
          have m4 := (unhide HR2).c4
          obtain ⟨lo2, lc2, hlv2⟩ := owns_form (unhide HR2).log
          have hl2 : s2.log.length = s2.last := rfl
          rw [hlv2, hl2] at m4
          have m12 := (unhide HR2).c12
          rw [unhide HM2] at m12
          have hrm := (unhide HR2).mt
          rw [unhide HM2] at hrm
          obtain ⟨g2, hg2, z2, y2⟩ := owns_at hrm (j := s2.id) (by rw [nC_length]; exact (unhide HID).1)
          simp only [Option.some.injEq, Addr.mk.injEq, and_true] at hg2
          subst hg2
          have a2 : ¬ mg = rb := fun e => owns_apart (unhide HR2).mt (unhide HR2).blk (by decide) (by rw [unhide HM2, e]; rfl)
          have a2' : ¬ rb = mg := fun e => a2 e.symm
          have j0 : (0 : Int) ≤ (s2.id : Int) := by omega
          have j1 : (s2.id : Int) < (s2.n : Int) := by have := (unhide HID).1; omega
          have HR3 := hide ((unhide HR2).putMt (i := s2.id) (x := s2.last) (unhide HM2))
          have HE3 := hide ((unhide HE2).set (b := mg) (.inl (.inr (.inr (.inr (.inr (.inl (by rw [unhide HMV]; rfl))))))) s2.id (.int .i64 (s2.last : Int)))
          clear hrm
          go_region
          all_goals
            have HR4 : Hid (RB (W2.setCell ⟨mg, s2.id, none⟩ (.int .i64 (s2.last : Int))).drew rb s2.leadC v2 out) := (unhide HR3).drew
            have HE4 : Hid (Er rb v v2 w (W2.setCell ⟨mg, s2.id, none⟩ (.int .i64 (s2.last : Int))).drew) := (unhide HE3).drew
            generalize (W2.setCell ⟨mg, s2.id, none⟩ (.int .i64 (s2.last : Int))).drew = W4 at *
            have HLS : Hid (s.lead = (s2.leadC.count, s2.leadC.count.appends)) := by show (s.leadA.leadB.leadC.count, s.leadA.leadB.leadC.count.appends) = _; rw [unhide HS2]
            have HLD : Hid (Leads s2.leadC.count) := by have q := lead_leads (unhide HOK) hs ht; show Leads _; rw [← unhide HS2]; exact q
            clear m0 m4 m12 z2 y2
            go_wp2_with (first | (go_at_call 83; refine (refCounts_any rb s2.leadC v2 out W4 (unhide HR4) (by show s2.n ≤ 7; have := (unhide HID).2.1; omega) (unhide HID).2.2).mono ?_; rintro e w5 ⟨rfl, hR5, hE5⟩; replace hR5 := hide hR5; replace hE5 := hide hE5) | (go_at_call 61; refine (refAppendAll_any rb s2.leadC.count v2 out w5 (unhide hR5) (unhide HLD) (by show s2.n ≤ 7; have := (unhide HID).2.1; omega) (by omega)).mono ?_; rintro e w6 ⟨rfl, l, hl6, v6, hR6, hE6, hv6⟩; replace hl6 := hide hl6; replace hR6 := hide hR6; replace hE6 := hide hE6; clear hv6))
            go_end0
            rw [unhide HLS]
            exact ⟨rfl, l, unhide hl6, v6, unhide hR6, ((unhide HE4).trans (unhide hE5)).trans (unhide hE6)⟩
      · have h60' : ¬ (s.last : Int) < 60 := by omega
        have HS2 : Hid (s.leadA.leadB = sA) := by
          show _ = _
          rw [hsA]
          exact if_neg (show ¬ sA.last < 60 by omega)
        have HID : Hid (sA.id < sA.n ∧ sA.n = s.n ∧ sA.last ≤ 60) := ⟨by omega, hnA, by omega⟩
        have HM2 := hide hMA
        have HR2 := HRA
        have HE2 := HE
        clear hR hE hRA hsA hlA hiA hnA hMA hll e11 e12 e13 hlv
        go_wp2
        clear e4 e1
        have m0 := (unhide HR2).c0
        have m4 := (unhide HR2).c4
        obtain ⟨lo2, lc2, hlv⟩ := owns_form (unhide HR2).log
        have hl2 : sA.log.length = sA.last := rfl
        rw [hlv, hl2] at m4
        have m12 := (unhide HR2).c12
        rw [unhide HM2] at m12
        have hrm := (unhide HR2).mt
        rw [unhide HM2] at hrm
        obtain ⟨g2, hg2, z2, y2⟩ := owns_at hrm (j := sA.id) (by rw [nC_length]; exact (unhide HID).1)
        simp only [Option.some.injEq, Addr.mk.injEq, and_true] at hg2
        subst hg2
        have a2 : ¬ mg = rb := fun e => owns_apart (unhide HR2).mt (unhide HR2).blk (by decide) (by rw [unhide HM2, e]; rfl)
        have a2' : ¬ rb = mg := fun e => a2 e.symm
        have j0 : (0 : Int) ≤ (sA.id : Int) := by omega
        have j1 : (sA.id : Int) < (sA.n : Int) := by have := (unhide HID).1; omega
        have HR3 := hide ((unhide HR2).putMt (i := sA.id) (x := sA.last) (unhide HM2))
        have HE3 := hide ((unhide HE2).set (b := mg) (.inl (.inr (.inr (.inr (.inr (.inl (by rw [unhide HMV]; rfl))))))) sA.id (.int .i64 (sA.last : Int)))
        clear hrm
        go_region
        all_goals
          have HR4 : Hid (RB (wr.setCell ⟨mg, sA.id, none⟩ (.int .i64 (sA.last : Int))).drew rb sA.leadC v out) := (unhide HR3).drew
          have HE4 : Hid (Er rb v v w (wr.setCell ⟨mg, sA.id, none⟩ (.int .i64 (sA.last : Int))).drew) := (unhide HE3).drew
          generalize (wr.setCell ⟨mg, sA.id, none⟩ (.int .i64 (sA.last : Int))).drew = W4 at *
          have HLS : Hid (s.lead = (sA.leadC.count, sA.leadC.count.appends)) := by show (s.leadA.leadB.leadC.count, s.leadA.leadB.leadC.count.appends) = _; rw [unhide HS2]
          have HLD : Hid (Leads sA.leadC.count) := by have q := lead_leads (unhide HOK) hs ht; show Leads _; rw [← unhide HS2]; exact q
          clear m0 m4 m12 z2 y2
          go_wp2_with (first | (go_at_call 83; refine (refCounts_any rb sA.leadC v out W4 (unhide HR4) (by show sA.n ≤ 7; have := (unhide HID).2.1; omega) (unhide HID).2.2).mono ?_; rintro e w5 ⟨rfl, hR5, hE5⟩; replace hR5 := hide hR5; replace hE5 := hide hE5) | (go_at_call 61; refine (refAppendAll_any rb sA.leadC.count v out w5 (unhide hR5) (unhide HLD) (by show sA.n ≤ 7; have := (unhide HID).2.1; omega) (by omega)).mono ?_; rintro e w6 ⟨rfl, l, hl6, v6, hR6, hE6, hv6⟩; replace hl6 := hide hl6; replace hR6 := hide hR6; replace hE6 := hide hE6; clear hv6))
          go_end0
          rw [unhide HLS]
          exact ⟨rfl, l, unhide hl6, v6, unhide hR6, ((unhide HE4).trans (unhide hE5)).trans (unhide hE6)⟩

end Go.Proofs.YteiecbkfganhnaaGreat
