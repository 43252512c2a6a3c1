/- The document's node: stepAppendReply at a leader: refused. -/
import Derived.Test.YteiecbkfganhnaaGreatKRefI
import Derived.Test.YteiecbkfganhnaaGreatKGStep
import Derived.Test.YteiecbkfganhnaaGreatKInvC

namespace Go.Proofs.YteiecbkfganhnaaGreat

open Go.RowKit Go.MuLone

set_option maxRecDepth 100000 in
set_option maxHeartbeats 2000000 in
theorem refStepAppendReply_back (rb f k : Nat) (s : Nd) (v : RV) (m : Msg) (ev : Value) (w : World) (h : RB w rb s v []) (hok : Ok s) (hev : ∃ ao n c, ev = .slice ao n c) (hg : m.granted = false) (hf : m.src = (f : Int)) (hfn : f < s.n) (hk : m.index = (k : Int)) (hk1 : k ≤ 1000000) (hr : s.role = 3) (hx : m.term = s.term) :
    Calls Tryz.prog 77 #[.pointer (some ⟨rb, 0, none⟩), magg m ev] w fun e w' => e = .returned (.tuple #[]) ∧ RDid rb v [] w (s.stepAppendReply m) w' := by
  obtain ⟨eo, en, ec, rfl⟩ := hev
  obtain ⟨mk, mf, mt, mT, mi, ml, mc, me, mg⟩ := m
  simp only at hg hx hf hk
  subst hg hf hx hk
  have HB := hide (below_alloc w (mbox mk (f : Int) mt s.term (k : Int) ml mc (.slice eo en ec) false))
  have HM := hide (heap_alloc_new w (mbox mk (f : Int) mt s.term (k : Int) ml mc (.slice eo en ec) false))
  have H := hide (h.below (unhide HB))
  have hlt := h.lt
  have hne : ¬ rb = w.heap.size := by omega
  have c2 := h.c2
  have c6 := h.c6
  rw [hr] at c6
  have HL := hide (hok.lead hr)
  have l60 := hok.len
  have hn7 := hok.n7
  have HOK := hide hok
  have HR0 := hide hr
  have HA : Hid (s.stepAppendReply ⟨mk, (f : Int), mt, s.term, (k : Int), ml, mc, me, false⟩ = ((s.hears f).backs f k, [((s.hears f).backs f k).appendTo f])) := by
    show _ = _
    simp only [Nd.stepAppendReply]
    rw [if_neg (by omega), if_pos ⟨hr, trivial⟩, if_neg (by simp)]
    rfl
  have i1 : (0 : Int) ≤ (f : Int) := by omega
  have i2 : (f : Int) < (s.n : Int) := by omega
  clear h hok hr
  go_enter Tryz.func77, Tryz.ntmps77
  go_wp2
  go_quiet (fail)
  go_wp2
  revert nq
  intro n1
  go_quiet (fail)
  go_upto_region 4 with fail
  have hR1 := RB.drewN (RB.drewN (unhide H) n1) nq
  have hE1 := hide ((Er.ofBelow (rb := rb) (v := v) (unhide HB)).drewN n1 |>.drewN nq)
  have hM1 : (((w.alloc (mbox mk (f : Int) mt s.term (k : Int) ml mc (.slice eo en ec) false)).drewN n1).drewN nq).heap[w.heap.size]? = _ := unhide HM
  generalize ((w.alloc (mbox mk (f : Int) mt s.term (k : Int) ml mc (.slice eo en ec) false)).drewN n1).drewN nq = W at *
  have x1 : W.cell? ⟨w.heap.size, 1, none⟩ = some (.int .i64 (f : Int)) := cell_of_row W _ 1 _ _ _ hM1
  have x4 : W.cell? ⟨w.heap.size, 4, none⟩ = some (.int .i64 (k : Int)) := cell_of_row W _ 4 _ _ _ hM1
  have x8 : W.cell? ⟨w.heap.size, 8, none⟩ = some (.bool false) := cell_of_row W _ 8 _ _ _ hM1
  have k13 := hR1.c13
  obtain ⟨hg, hc, hhv, hfz, hcl, hglt, hgrb⟩ := hR1.hdAt hfn
  rw [hhv] at k13
  have hgm : ¬ hg = w.heap.size := fun e => by
    have h3 : (Value.slice (some ⟨hg, 0, none⟩) s.n hc).ownBlock = some hg := rfl
    exact owns_apart hR1.hd (by rw [hM1]) (by decide) (by rw [hhv, h3, e])
  have hgm2 : ¬ w.heap.size = hg := fun e => hgm e.symm
  have hgr2 : ¬ rb = hg := fun e => hgrb e.symm
  have HR2 : Hid (RB (W.setCell ⟨hg, f, none⟩ (.bool true)) rb (s.hears f) v []) := hR1.putHd (i := f) hhv true
  have HE2 := hide ((unhide hE1).set (.inl (show v.has rb hg from .inr (.inr (.inr (.inr (.inr (.inl (by rw [hhv]; rfl)))))))) f (.bool true))
  have HM2 : Hid ((W.setCell ⟨hg, f, none⟩ (.bool true)).heap[w.heap.size]? = some (mbox mk (f : Int) mt s.term (k : Int) ml mc (.slice eo en ec) false)) := (Below.heap_setCell _ _ _ _ (fun e => hgm2 (by simpa using e))).trans hM1
  have HHV := hide hhv
  clear hR1 hM1 hhv c2 c6
  go_upto_region 6 with fail
  generalize W.setCell ⟨hg, f, none⟩ (.bool true) = W2 at *
  clear x1 x4 x8 k13 hfz hcl hglt hgrb hgm hgm2 hgr2
  have x4 : W2.cell? ⟨w.heap.size, 4, none⟩ = some (.int .i64 (k : Int)) := cell_of_row W2 _ 4 _ _ _ (unhide HM2)
  have x8 : W2.cell? ⟨w.heap.size, 8, none⟩ = some (.bool false) := cell_of_row W2 _ 8 _ _ _ (unhide HM2)
  obtain ⟨ng, nc, hnv, nz, ncl, nlt, nrb⟩ := (unhide HR2).nxAt hfn
  obtain ⟨mg, mc2, hmv, mz, mcl, mlt, mrb⟩ := (unhide HR2).mtAt hfn
  have k11 := (unhide HR2).c11
  rw [hnv] at k11
  have k12 := (unhide HR2).c12
  rw [hmv] at k12
  have eN : (s.hears f).nx f = s.nx f := rfl
  have eM : (s.hears f).mt f = s.mt f := rfl
  have en : (s.hears f).n = s.n := rfl
  rw [eN] at ncl
  rw [eM] at mcl
  rw [en] at k11 k12
  have HNV := hide hnv
  have HMV := hide hmv
  clear eN eM en hnv hmv
  have hlo := (unhide HL).lo f hfn
  have hhi := (unhide HL).hi f hfn
  have hmm := (unhide HL).mm f hfn
  have hnm : ¬ ng = mg := fun e => (unhide HR2).nm ng (by rw [unhide HNV]; rfl) (by rw [unhide HMV, e]; rfl)
  have hnw : ¬ ng = w.heap.size := fun e => owns_apart (unhide HR2).nx (by rw [unhide HM2]) (by decide) (by rw [unhide HNV, e]; rfl)
  have hl61 : s.nx f ≤ 61 := by omega
  have hm60 : s.mt f ≤ 60 := by omega
  obtain ⟨X, hX⟩ : ∃ X, max (s.mt f + 1) (min (s.nx f - 1) (k + 1)) = X := ⟨_, rfl⟩
  have HLB : Hid (Leads ((s.hears f).backs f k)) := (Ok.backs ((unhide HOK).hears hfn) (unhide HR0) hfn k).lead (unhide HR0)
  have HBK : Hid ((s.hears f).backs f k = { s.hears f with nx := upd (s.hears f).nx f X }) := by
    show _ = _
    rw [← hX]
    rfl
  have HRX : ∀ x : Int, x = (X : Int) → Hid (RB (W2.setCell ⟨ng, f, none⟩ (.int .i64 x)) rb ((s.hears f).backs f k) v []) := fun x hx => by
    show RB _ _ _ _ _
    rw [hx, unhide HBK]
    exact (unhide HR2).putNx (i := f) (unhide HNV) X
  have HEX : ∀ x : Int, Hid (Er rb v v w (W2.setCell ⟨ng, f, none⟩ (.int .i64 x))) := fun x => (unhide HE2).set (.inl (show v.has rb ng from .inr (.inr (.inr (.inl (by rw [unhide HNV]; rfl)))))) f (.int .i64 x)
  replace HRX := hide HRX
  replace HEX := hide HEX
  have HX := hide hX
  clear hX hmm
  by_cases g1 : (k : Int) + 1 < (s.nx f : Int) - 1
  · by_cases g2 : (k : Int) + 1 < (s.mt f : Int) + 1
    · have hxe : (s.mt f : Int) + 1 = (X : Int) := by have := unhide HX; omega
      have HRx := unhide HRX ((s.mt f : Int) + 1) hxe
      have HEx := unhide HEX ((s.mt f : Int) + 1)
      clear hxe
      go_wp2_with (go_at_call 106; refine (refAppendTo_any rb ((s.hears f).backs f k) v [] f _ (unhide HRx) (unhide HLB) hfn (by simp)).mono ?_; rintro e w3 ⟨rfl, ev3, v3, hR3, hE3, _⟩; replace hR3 := hide hR3; replace hE3 := hide hE3)
      refine bodyPost_ret (v := .tuple #[]) (results_none rfl _ _ _) rfl ⟨rfl, ?_⟩
      rw [unhide HA]
      exact ⟨[(((s.hears f).backs f k).appendTo f, ev3)], rfl, v3, unhide hR3, (unhide HEx).trans (unhide hE3)⟩
    · have hxe : (k : Int) + 1 = (X : Int) := by have := unhide HX; omega
      have HRx := unhide HRX ((k : Int) + 1) hxe
      have HEx := unhide HEX ((k : Int) + 1)
      clear hxe
      go_wp2_with (go_at_call 106; refine (refAppendTo_any rb ((s.hears f).backs f k) v [] f _ (unhide HRx) (unhide HLB) hfn (by simp)).mono ?_; rintro e w3 ⟨rfl, ev3, v3, hR3, hE3, _⟩; replace hR3 := hide hR3; replace hE3 := hide hE3)
      refine bodyPost_ret (v := .tuple #[]) (results_none rfl _ _ _) rfl ⟨rfl, ?_⟩
      rw [unhide HA]
      exact ⟨[(((s.hears f).backs f k).appendTo f, ev3)], rfl, v3, unhide hR3, (unhide HEx).trans (unhide hE3)⟩
  · by_cases g2 : (s.nx f : Int) - 1 < (s.mt f : Int) + 1
    · have hxe : (s.mt f : Int) + 1 = (X : Int) := by have := unhide HX; omega
      have HRx := unhide HRX ((s.mt f : Int) + 1) hxe
      have HEx := unhide HEX ((s.mt f : Int) + 1)
      clear hxe
      go_wp2_with (go_at_call 106; refine (refAppendTo_any rb ((s.hears f).backs f k) v [] f _ (unhide HRx) (unhide HLB) hfn (by simp)).mono ?_; rintro e w3 ⟨rfl, ev3, v3, hR3, hE3, _⟩; replace hR3 := hide hR3; replace hE3 := hide hE3)
      refine bodyPost_ret (v := .tuple #[]) (results_none rfl _ _ _) rfl ⟨rfl, ?_⟩
      rw [unhide HA]
      exact ⟨[(((s.hears f).backs f k).appendTo f, ev3)], rfl, v3, unhide hR3, (unhide HEx).trans (unhide hE3)⟩
    · have hxe : (s.nx f : Int) - 1 = (X : Int) := by have := unhide HX; omega
      have HRx := unhide HRX ((s.nx f : Int) - 1) hxe
      have HEx := unhide HEX ((s.nx f : Int) - 1)
      clear hxe
      go_wp2_with (go_at_call 106; refine (refAppendTo_any rb ((s.hears f).backs f k) v [] f _ (unhide HRx) (unhide HLB) hfn (by simp)).mono ?_; rintro e w3 ⟨rfl, ev3, v3, hR3, hE3, _⟩; replace hR3 := hide hR3; replace hE3 := hide hE3)
      refine bodyPost_ret (v := .tuple #[]) (results_none rfl _ _ _) rfl ⟨rfl, ?_⟩
      rw [unhide HA]
      exact ⟨[(((s.hears f).backs f k).appendTo f, ev3)], rfl, v3, unhide hR3, (unhide HEx).trans (unhide hE3)⟩

end Go.Proofs.YteiecbkfganhnaaGreat
