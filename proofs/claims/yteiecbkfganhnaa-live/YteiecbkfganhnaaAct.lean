/- The group: a step of the kind 0. -/
import Derived.Test.YteiecbkfganhnaaMem
import Derived.Test.YteiecbkfganhnaaRaft
import Derived.Deep.QuietTactic
import Derived.BigQuiet
import Derived.Deep.RegionWith

namespace Go.Proofs.Yteiecbkfganhnaa
open Go.RowKit Go.MuLone

set_option maxRecDepth 100000 in
set_option maxHeartbeats 2000000 in
theorem gstep_0 (gb n : Nat) (G : Gp) (x : GX) (kind a b E : Int) (w : World) (tg : Tags) (h : GM w tg gb G x) (hj : J n G) (he : El G E) (hE : E + 12 < 4611686018427387904)
    (k0 : -9223372036854775808 ≤ kind) (k1 : kind ≤ 9223372036854775807) (a0 : -9223372036854775808 ≤ a) (a1 : a ≤ 9223372036854775807) (b0 : -9223372036854775808 ≤ b) (b1 : b ≤ 9223372036854775807) (hk : pickZ kind 8 = 0) :
    Calls Try.prog 26 #[ptr gb, .agg #[.int .i64 kind, .int .i64 a, .int .i64 b]] w fun e w' => e = .returned (.tuple #[]) ∧ ∃ tg' x', GM w' tg' gb (G.step kind a b) x' ∧ Stp Agr w tg w' tg' := by
  have HJ := hide hj
  have HE := hide he
  obtain ⟨gh, hjg⟩ := hj
  have hn1 := hjg.n1
  have hn7 := hjg.n7
  have hlen := hjg.len
  have hp0 := pickZ_lo a G.nodes.length (by omega)
  have hp1 := pickZ_hi a G.nodes.length (by omega)
  obtain ⟨i, hi⟩ : ∃ i : Nat, pickZ a G.nodes.length = (i : Int) := ⟨(pickZ a G.nodes.length).toNat, by omega⟩
  have hil : i < G.nodes.length := by omega
  have hiN : (pickZ a G.nodes.length).toNat = i := by omega
  have HIN := hide hiN
  have HPI : Hid (∀ W : World, Calls Try.prog 9 #[.int .i64 a, .int .i64 (G.nodes.length : Int)] W fun e w' => e = .returned (.int .i64 (i : Int)) ∧ w' = W) := fun W => by rw [← hi]; exact pick_any a _ W a0 a1 (by omega) (by omega)
  have HPK : Hid (∀ W : World, Calls Try.prog 9 #[.int .i64 kind, .int .i64 8] W fun e w' => e = .returned (.int .i64 0) ∧ w' = W) := fun W => by rw [← hk]; exact pick_any kind _ W k0 k1 (by decide) (by decide)
  have HNI := hide (hjg.node (i := i) (by omega))
  have HOKG := hide hjg.ok
  have HWAY := hide hjg.way
  have HLEN := hide hlen
  obtain ⟨no, nc, hnv⟩ := h.nodes.form
  obtain ⟨g1, rfl, hat, htg1⟩ := h.at_ hil hnv
  have hg1 : g1 < w.heap.size := block_lt_of_cell hat
  have hgb := h.lt
  have c0 := h.c0
  rw [hnv] at c0
  have hi0 : (0 : Int) ≤ (i : Int) := by omega
  have hi1 : (i : Int) < (G.nodes.length : Int) := by omega
  have HNV := hide hnv
  have HK := hide hk
  have HG0 := hide (h.quiet (Stp.alloc (A := fun _ => False) w tg (.cells #[.int .i64 kind, .int .i64 a, .int .i64 b] 64) (0, 1)))
  have HS0 : Hid (Stp Agr w tg (w.alloc (.cells #[.int .i64 kind, .int .i64 a, .int .i64 b] 64)) (newTag w.heap.size tg (0, 1))) := Stp.alloc w tg _ _
  have z0 : (w.alloc (.cells #[.int .i64 kind, .int .i64 a, .int .i64 b] 64)).heap[w.heap.size]? = some (.cells #[.int .i64 kind, .int .i64 a, .int .i64 b] 64 (0, 0)) := heap_alloc_new w _
  have ZT : Hid (newTag w.heap.size tg (0, 1) w.heap.size = (0, 1)) := newTag_new (Nat.le_refl _)
  have HZ0 := hide z0
  clear h he hjg hp0 hp1 hi hiN hnv hk z0 hlen
  go_enter Try.func26, Try.ntmps26
  go_wp2
  go_quiet (first | (go_at_call_of 9 a; exact Calls.quiet_of_same (unhide HPI _)))
  go_wp2_with (first | (go_at_call_of 9 kind; refine (unhide HPK _).mono ?_; rintro e wp ⟨rfl, qp⟩; cases qp.symm))
  have HG1 : Hid (GM ((w.alloc (.cells #[.int .i64 kind, .int .i64 a, .int .i64 b] 64)).drewN nq) (newTag w.heap.size tg (0, 1)) gb G x) := (unhide HG0).quiet ((Stp.refl _ _ _).drewN nq)
  have HS1 : Hid (Stp Agr w tg ((w.alloc (.cells #[.int .i64 kind, .int .i64 a, .int .i64 b] 64)).drewN nq) (newTag w.heap.size tg (0, 1))) := (unhide HS0).drewN nq
  have HZ1 : Hid (((w.alloc (.cells #[.int .i64 kind, .int .i64 a, .int .i64 b] 64)).drewN nq).heap[w.heap.size]? = some (.cells #[.int .i64 kind, .int .i64 a, .int .i64 b] 64 (0, 0))) := unhide HZ0
  clear HG0 HS0 HZ0 c0 hat hg1 hgb HPI HPK
  generalize (w.alloc (.cells #[.int .i64 kind, .int .i64 a, .int .i64 b] 64)).drewN nq = W at *
  generalize newTag w.heap.size tg (0, 1) = tgW at *
  obtain ⟨B, hB⟩ : ∃ B, w.heap.size = B := ⟨_, rfl⟩
  rw [hB] at HZ1 ZT
  rw [hB]
  clear hB
  have q0 := pickZ_lo b 12 (by decide)
  have q1 := pickZ_hi b 12 (by decide)
  obtain ⟨p, hp⟩ : ∃ p : Nat, pickZ b 12 = (p : Int) := ⟨(pickZ b 12).toNat, by omega⟩
  have HPB : Hid (∀ V : World, Calls Try.prog 9 #[.int .i64 b, .int .i64 12] V fun e w' => e = .returned (.int .i64 (p : Int)) ∧ w' = V) := fun V => by rw [← hp]; exact pick_any b _ V b0 b1 (by decide) (by decide)
  have HPN : Hid ((pickZ b 12).toNat = p) := by show _ = _; omega
  have hp12 : p < 12 := by omega
  clear q0 q1 hp
  go_loopw [7] (fun t wr => ∃ (k : Nat) (tg' : Tags) (x' : GX), k ≤ p + 1 ∧ t = .int .i64 k ∧ GM wr tg' gb (G.ticks i k) x' ∧ Stp Agr W tgW wr tg' ∧ x'.pb = x.pb) (fun t _ => p + 1 - (intOf t).toNat)
  case atStart => exact ⟨0, tgW, x, Nat.zero_le _, rfl, unhide HG1, Stp.refl _ _ _, rfl⟩
  case round =>
    obtain ⟨k, tg2, x2, hk, rfl, hG2, hS2, hpb2⟩ := hrel
    have hz2 : wr.heap[B]? = some (.cells #[.int .i64 kind, .int .i64 a, .int .i64 b] 64 (0, 0)) := (hS2.keep B (Array.getElem?_eq_some_iff.1 (unhide HZ1)).1 (by rw [unhide ZT]; exact agr01)).1.trans (unhide HZ1)
    have z2 : wr.cell? ⟨B, 2, none⟩ = some (.int .i64 b) := cell_of_row wr B 2 _ _ _ hz2
    by_cases hlt : k ≤ p
    · have hki : (k : Int) ≤ (p : Int) := by omega
      obtain ⟨gh2, hJ2⟩ := J.ticks (unhide HJ) (i := i) (by rw [← unhide HLEN]; exact hil) k
      obtain ⟨hn2, hN2⟩ := hJ2.node (i := i) (by rw [← unhide HLEN]; exact hil)
      have hE2 := El.ticks (unhide HE) (unhide HJ) (i := i) (by rw [← unhide HLEN]; exact hil) k i _ hn2
      have HT := hide (gm_tick hG2 hn2 hN2.ok (by omega))
      rw [hpb2] at HT
      have HSD := hide (sendable_tick hN2.fid hN2.fn)
      have HFW := hide (tick_few ((G.ticks i k).node i))
      have HNN := hide hN2.fn
      have HOK2 := hide hJ2.ok
      have HWY2 := hide hJ2.way
      have HLN2 := hide hJ2.len
      have HS2 := hide hS2
      clear hG2 hS2 hz2 hJ2 hn2 hN2 hE2 hpb2
      go_wp2_with (first | (go_at_call_of 9 b; refine (unhide HPB _).mono ?_; rintro e wp ⟨rfl, qp⟩; cases qp.symm) | (go_at_call 20; go_must (refine (unhide HT).mono ?_); rintro e w3 ⟨v3, rfl, l3, tg3, x3, hl3, hM3, hG3, hS3, hpb3⟩; have HSD3 := hide (show ∀ y ∈ l3, Sendable n i y.1 from fun y hy => unhide HSD _ (by rw [← hl3]; exact List.mem_map_of_mem hy)); have HFW3 := hide (show l3.length ≤ 1000 from by have h9 := unhide HFW; rw [← hl3, List.length_map, unhide HNN] at h9; omega); replace hl3 := hide hl3; replace hM3 := hide hM3; replace hG3 := hide hG3; replace hS3 := hide hS3; replace hpb3 := hide hpb3) | (go_at_call 35; go_must (refine (sends_any gb i _ x3 v3 l3 _ tg3 (unhide hG3) (unhide hM3) (unhide HOK2) (by have h9 := unhide HLN2; show ∀ y ∈ l3, Sendable (List.set _ _ _).length i y.1; rw [List.length_set, h9]; exact unhide HSD3) (unhide HFW3) (unhide HWY2)).mono ?_); rintro e w4 ⟨rfl, tg4, x4, hG4, hS4, hpb4⟩; replace hG4 := hide hG4; replace hS4 := hide hS4; replace hpb4 := hide hpb4))
      go_roundw
      case rel =>
        refine ⟨k + 1, tg4, x4, by omega, by go_num, ?_, ((unhide HS2).trans (unhide hS3)).trans ((unhide hS4).mono fun U hU => .inl hU), (unhide hpb4).trans (unhide hpb3)⟩
        have h9 := unhide hG4
        rw [unhide hl3] at h9
        exact h9
      case measure => simp [intOf]; omega
    · have hkp : k = p + 1 := by omega
      subst hkp
      have hki : ¬ ((p : Int) + 1) ≤ (p : Int) := by omega
      have HG2 := hide hG2
      have HS2 := hide hS2
      clear hG2 hS2 hz2
      go_wp2_with (first | (go_at_call_of 9 b; refine (unhide HPB _).mono ?_; rintro e wp ⟨rfl, qp⟩; cases qp.symm))
      go_end0
      refine ⟨rfl, tg2, x2, ?_, (unhide HS1).trans (unhide HS2)⟩
      rw [gstep_eq0 (unhide HK), unhide HIN, unhide HPN]
      exact unhide HG2

end Go.Proofs.Yteiecbkfganhnaa

namespace Go.Proofs.Yteiecbkfganhnaa
open Go.RowKit Go.MuLone

set_option maxRecDepth 100000 in
set_option maxHeartbeats 2000000 in
theorem gstep_1 (gb n : Nat) (G : Gp) (x : GX) (kind a b : Int) (w : World) (tg : Tags) (h : GM w tg gb G x) (hj : J n G)
    (k0 : -9223372036854775808 ≤ kind) (k1 : kind ≤ 9223372036854775807) (a0 : -9223372036854775808 ≤ a) (a1 : a ≤ 9223372036854775807) (hk : pickZ kind 8 = 1) :
    Calls Try.prog 26 #[ptr gb, .agg #[.int .i64 kind, .int .i64 a, .int .i64 b]] w fun e w' => e = .returned (.tuple #[]) ∧ ∃ tg' x', GM w' tg' gb (G.step kind a b) x' ∧ Stp Agr w tg w' tg' := by
  have HJ := hide hj
  obtain ⟨gh, hjg⟩ := hj
  have hn1 := hjg.n1
  have hn7 := hjg.n7
  have hlen := hjg.len
  have hp0 := pickZ_lo a G.nodes.length (by omega)
  have hp1 := pickZ_hi a G.nodes.length (by omega)
  obtain ⟨i, hi⟩ : ∃ i : Nat, pickZ a G.nodes.length = (i : Int) := ⟨(pickZ a G.nodes.length).toNat, by omega⟩
  have hil : i < G.nodes.length := by omega
  have hiN : (pickZ a G.nodes.length).toNat = i := by omega
  have HIN := hide hiN
  have HPI : Hid (∀ W : World, Calls Try.prog 9 #[.int .i64 a, .int .i64 (G.nodes.length : Int)] W fun e w' => e = .returned (.int .i64 (i : Int)) ∧ w' = W) := fun W => by rw [← hi]; exact pick_any a _ W a0 a1 (by omega) (by omega)
  have HPK : Hid (∀ W : World, Calls Try.prog 9 #[.int .i64 kind, .int .i64 8] W fun e w' => e = .returned (.int .i64 1) ∧ w' = W) := fun W => by rw [← hk]; exact pick_any kind _ W k0 k1 (by decide) (by decide)
  have HNI := hide (hjg.node (i := i) (by omega))
  have HOKG := hide hjg.ok
  have HWAY := hide hjg.way
  have HLEN := hide hlen
  obtain ⟨no, nc, hnv⟩ := h.nodes.form
  obtain ⟨g1, rfl, hat, htg1⟩ := h.at_ hil hnv
  have hg1 : g1 < w.heap.size := block_lt_of_cell hat
  have hgb := h.lt
  have c0 := h.c0
  rw [hnv] at c0
  obtain ⟨wo, wc, hwv⟩ := h.way.form
  obtain ⟨wn, hwn⟩ : ∃ wn, G.way.length = wn := ⟨_, rfl⟩
  rw [hwn] at hwv
  have c1 := h.c1
  rw [hwv] at c1
  have HWV := hide hwv
  have HWN := hide hwn
  have hw200 := unhide HWAY
  rw [hwn] at hw200
  clear hwv hwn
  have hi0 : (0 : Int) ≤ (i : Int) := by omega
  have hi1 : (i : Int) < (G.nodes.length : Int) := by omega
  have HNV := hide hnv
  have HK := hide hk
  have HG0 := hide (h.quiet (Stp.alloc (A := fun _ => False) w tg (.cells #[.int .i64 kind, .int .i64 a, .int .i64 b] 64) (0, 1)))
  have HS0 : Hid (Stp Agr w tg (w.alloc (.cells #[.int .i64 kind, .int .i64 a, .int .i64 b] 64)) (newTag w.heap.size tg (0, 1))) := Stp.alloc w tg _ _
  have z0 : (w.alloc (.cells #[.int .i64 kind, .int .i64 a, .int .i64 b] 64)).heap[w.heap.size]? = some (.cells #[.int .i64 kind, .int .i64 a, .int .i64 b] 64 (0, 0)) := heap_alloc_new w _
  have ZT : Hid (newTag w.heap.size tg (0, 1) w.heap.size = (0, 1)) := newTag_new (Nat.le_refl _)
  have HZ0 := hide z0
  clear h hjg hp0 hp1 hi hiN hnv hk z0 hlen
  have HKK : Hid (pickZ kind 8 = 1 ∨ pickZ kind 8 = 2 ∨ pickZ kind 8 = 3) := by show _ ∨ _; rw [unhide HK]; decide
  by_cases hz : wn = 0
  · subst hz
    go_enter Try.func26, Try.ntmps26
    go_wp2
    go_quiet (first | (go_at_call_of 9 a; exact Calls.quiet_of_same (unhide HPI _)))
    go_wp2_with (first | (go_at_call_of 9 kind; refine (unhide HPK _).mono ?_; rintro e wp ⟨rfl, qp⟩; cases qp.symm))
    have HG1 : Hid (GM ((w.alloc (.cells #[.int .i64 kind, .int .i64 a, .int .i64 b] 64)).drewN nq) (newTag w.heap.size tg (0, 1)) gb G x) := (unhide HG0).quiet ((Stp.refl _ _ _).drewN nq)
    have HS1 : Hid (Stp Agr w tg ((w.alloc (.cells #[.int .i64 kind, .int .i64 a, .int .i64 b] 64)).drewN nq) (newTag w.heap.size tg (0, 1))) := (unhide HS0).drewN nq
    have HZ1 : Hid (((w.alloc (.cells #[.int .i64 kind, .int .i64 a, .int .i64 b] 64)).drewN nq).heap[w.heap.size]? = some (.cells #[.int .i64 kind, .int .i64 a, .int .i64 b] 64 (0, 0))) := unhide HZ0
    clear HG0 HS0 HZ0 c0 c1 hat hg1 hgb HPI HPK
    generalize (w.alloc (.cells #[.int .i64 kind, .int .i64 a, .int .i64 b] 64)).drewN nq = W at *
    generalize newTag w.heap.size tg (0, 1) = tgW at *
    obtain ⟨B, hB⟩ : ∃ B, w.heap.size = B := ⟨_, rfl⟩
    rw [hB] at HZ1 ZT
    rw [hB]
    clear hB
    exact bodyPost_ret (v := .tuple #[]) (results_none rfl _ _ _) rfl ⟨rfl, told0 (unhide HKK) (unhide HWN) (unhide HG1) (unhide HS1)⟩
  · have hzb : ((wn : Int) == 0) = false := by simp; omega
    go_enter Try.func26, Try.ntmps26
    go_wp2
    go_quiet (first | (go_at_call_of 9 a; exact Calls.quiet_of_same (unhide HPI _)))
    go_wp2_with (first | (go_at_call_of 9 kind; refine (unhide HPK _).mono ?_; rintro e wp ⟨rfl, qp⟩; cases qp.symm))
    have HG1 : Hid (GM ((w.alloc (.cells #[.int .i64 kind, .int .i64 a, .int .i64 b] 64)).drewN nq) (newTag w.heap.size tg (0, 1)) gb G x) := (unhide HG0).quiet ((Stp.refl _ _ _).drewN nq)
    have HS1 : Hid (Stp Agr w tg ((w.alloc (.cells #[.int .i64 kind, .int .i64 a, .int .i64 b] 64)).drewN nq) (newTag w.heap.size tg (0, 1))) := (unhide HS0).drewN nq
    have HZ1 : Hid (((w.alloc (.cells #[.int .i64 kind, .int .i64 a, .int .i64 b] 64)).drewN nq).heap[w.heap.size]? = some (.cells #[.int .i64 kind, .int .i64 a, .int .i64 b] 64 (0, 0))) := unhide HZ0
    clear HG0 HS0 HZ0 c0 c1 hat hg1 hgb HPI HPK
    generalize (w.alloc (.cells #[.int .i64 kind, .int .i64 a, .int .i64 b] 64)).drewN nq = W at *
    generalize newTag w.heap.size tg (0, 1) = tgW at *
    obtain ⟨B, hB⟩ : ∃ B, w.heap.size = B := ⟨_, rfl⟩
    rw [hB] at HZ1 ZT
    rw [hB]
    clear hB
    have d1 := (unhide HG1).c1v (unhide HWV)
    have hwn := unhide HWN
    have r0 := pickZ_lo a wn (by omega)
    have r1 := pickZ_hi a wn (by omega)
    obtain ⟨t, ht⟩ : ∃ t : Nat, pickZ a wn = (t : Int) := ⟨(pickZ a wn).toNat, by omega⟩
    have htl : t < wn := by omega
    have HTN : Hid ((pickZ a G.way.length).toNat = t) := by show _ = _; rw [hwn]; omega
    have HPT : Hid (∀ V : World, Calls Try.prog 9 #[.int .i64 a, .int .i64 (wn : Int)] V fun e w' => e = .returned (.int .i64 (t : Int)) ∧ w' = V) := fun V => by rw [← ht]; exact pick_any a _ V a0 a1 (by omega) (by omega)
    have hwl : x.wl.length = wn := by rw [← hwn, ← (unhide HG1).wf, List.length_map]
    have htx : t < x.wl.length := by omega
    have z1 : W.cell? ⟨B, 1, none⟩ = some (.int .i64 a) := cell_of_row W B 1 _ _ _ (unhide HZ1)
    have z2 : W.cell? ⟨B, 2, none⟩ = some (.int .i64 b) := cell_of_row W B 2 _ _ _ (unhide HZ1)
    have hti0 : (0 : Int) ≤ (t : Int) := by omega
    have hti1 : (t : Int) < (wn : Int) := by omega
    have hq1 := (unhide HG1).way
    rw [unhide HWV, hwn] at hq1
    obtain ⟨g, off, rfl, m0, m1, m2, m3, m4, m5, m6, m7, m8⟩ := row_msg hq1 (List.getElem?_eq_getElem htx)
    have HEN := hide ((unhide HG1).we _ (List.getElem_mem htx))
    have HGM : Hid (G.way[(pickZ a G.way.length).toNat]? = some x.wl[t].1) := by
      show _ = _
      rw [unhide HTN, ← (unhide HG1).wf, List.getElem?_map, List.getElem?_eq_getElem htx]; rfl
    have HQ1 : Hid (QRow W 50 9 (.slice (some ⟨g, off, none⟩) wn wc) x.wl.length (mC x.wl)) := by show QRow _ _ _ _ _ _; rw [hwl]; exact hq1
    have hgl : g < W.heap.size := block_lt_of_cell m0
    have hgbl := (unhide HG1).lt
    have hBl : B < W.heap.size := (Array.getElem?_eq_some_iff.1 (unhide HZ1)).1
    have HONE : Hid (∀ y ∈ x.wl, y.2.oneCell' = true) := fun y hy => Own.oneCell ⟨((unhide HG1).we y hy).1, ((unhide HG1).we y hy).2⟩
    clear r0 r1 ht hq1
    generalize x.wl[t] = y at *
    obtain ⟨m, ev⟩ := y
    obtain ⟨eo, ec, hev⟩ := owns_form (unhide HEN).1
    simp only at m0 m1 m2 m3 m4 m5 m6 m7 m8 hev
    subst hev
    have HEN1 : Hid (W.ownsRow 0 78 2 (.slice eo m.ents.length ec) m.ents.length (eC m.ents) ∧ Tag tgW (.slice eo m.ents.length ec) (4, 0)) := HEN
    have HGM1 : Hid (G.way[(pickZ a G.way.length).toNat]? = some m) := HGM
    clear HEN HGM hwn
    go_wp2
    go_quiet (first | (go_at_call_of 9 a; exact Calls.quiet_of_same (unhide HPT _)))
    have HG2 : Hid (GM (W.drewN nq) tgW gb G x) := (unhide HG1).quiet ((Stp.refl _ _ _).drewN nq)
    have HS2 : Hid (Stp Agr w tg (W.drewN nq) tgW) := (unhide HS1).drewN nq
    have HZ2 : Hid ((W.drewN nq).heap[B]? = some (.cells #[.int .i64 kind, .int .i64 a, .int .i64 b] 64 (0, 0))) := unhide HZ1
    have HQ2 : Hid (QRow (W.drewN nq) 50 9 (.slice (some ⟨g, off, none⟩) wn wc) x.wl.length (mC x.wl)) := unhide HQ1
    have HEN2 : Hid ((W.drewN nq).ownsRow 0 78 2 (.slice eo m.ents.length ec) m.ents.length (eC m.ents) ∧ Tag tgW (.slice eo m.ents.length ec) (4, 0)) := unhide HEN1
    have v0 : (W.drewN nq).cell? ⟨g, off + t * 9, none⟩ = some (.int .i64 m.kind) := m0
    have v1 : (W.drewN nq).cell? ⟨g, off + t * 9 + 1, none⟩ = some (.int .i64 m.src) := m1
    have v2 : (W.drewN nq).cell? ⟨g, off + t * 9 + 2, none⟩ = some (.int .i64 m.dst) := m2
    have v3 : (W.drewN nq).cell? ⟨g, off + t * 9 + 3, none⟩ = some (.int .i64 m.term) := m3
    have v4 : (W.drewN nq).cell? ⟨g, off + t * 9 + 4, none⟩ = some (.int .i64 m.index) := m4
    have v5 : (W.drewN nq).cell? ⟨g, off + t * 9 + 5, none⟩ = some (.int .i64 m.logTerm) := m5
    have v6 : (W.drewN nq).cell? ⟨g, off + t * 9 + 6, none⟩ = some (.int .i64 m.commit) := m6
    have v7 : (W.drewN nq).cell? ⟨g, off + t * 9 + 7, none⟩ = some (.slice eo m.ents.length ec) := m7
    have v8 : (W.drewN nq).cell? ⟨g, off + t * 9 + 8, none⟩ = some (.bool m.granted) := m8
    have y1 : (W.drewN nq).cell? ⟨gb, 1, none⟩ = some (.slice (some ⟨g, off, none⟩) wn wc) := d1
    have hgl2 : g < (W.drewN nq).heap.size := hgl
    have hgb2 : gb < (W.drewN nq).heap.size := hgbl
    have hB2 : B < (W.drewN nq).heap.size := hBl
    clear HG1 HS1 HZ1 HQ1 HEN1 m0 m1 m2 m3 m4 m5 m6 m7 m8 d1 z1 z2 hgl hgbl hBl
    generalize W.drewN nq = V at *
    have z2 : V.cell? ⟨B, 2, none⟩ = some (.int .i64 b) := cell_of_row V B 2 _ _ _ (unhide HZ2)
    have d5 := (unhide HG2).c5
    rw [unhide HOKG] at d5
    have d0 := (unhide HG2).c0v (unhide HNV)
    have HGA : Hid (GM (V.alloc (.cells #[.int .i64 m.kind, .int .i64 m.src, .int .i64 m.dst, .int .i64 m.term, .int .i64 m.index, .int .i64 m.logTerm, .int .i64 m.commit, .slice eo m.ents.length ec, .bool m.granted] 50)) (newTag V.heap.size tgW (0, 1)) gb G x) := (unhide HG2).quiet (Stp.alloc (A := fun _ => False) V tgW (.cells #[.int .i64 m.kind, .int .i64 m.src, .int .i64 m.dst, .int .i64 m.term, .int .i64 m.index, .int .i64 m.logTerm, .int .i64 m.commit, .slice eo m.ents.length ec, .bool m.granted] 50) (0, 1))
    have HSA : Hid (Stp Agr w tg (V.alloc (.cells #[.int .i64 m.kind, .int .i64 m.src, .int .i64 m.dst, .int .i64 m.term, .int .i64 m.index, .int .i64 m.logTerm, .int .i64 m.commit, .slice eo m.ents.length ec, .bool m.granted] 50)) (newTag V.heap.size tgW (0, 1))) := (unhide HS2).trans (Stp.alloc V tgW _ _)
    have HQA : Hid (QRow (V.alloc (.cells #[.int .i64 m.kind, .int .i64 m.src, .int .i64 m.dst, .int .i64 m.term, .int .i64 m.index, .int .i64 m.logTerm, .int .i64 m.commit, .slice eo m.ents.length ec, .bool m.granted] 50)) 50 9 (.slice (some ⟨g, off, none⟩) wn wc) x.wl.length (mC x.wl)) := (unhide HQ2).kept fun z hz => Below.heap_alloc _ _ z ((unhide HQ2).lt z hz)
    have HMA : Hid ((V.alloc (.cells #[.int .i64 m.kind, .int .i64 m.src, .int .i64 m.dst, .int .i64 m.term, .int .i64 m.index, .int .i64 m.logTerm, .int .i64 m.commit, .slice eo m.ents.length ec, .bool m.granted] 50)).heap[V.heap.size]? = some (.cells #[.int .i64 m.kind, .int .i64 m.src, .int .i64 m.dst, .int .i64 m.term, .int .i64 m.index, .int .i64 m.logTerm, .int .i64 m.commit, .slice eo m.ents.length ec, .bool m.granted] 50 (0, 0))) := heap_alloc_new V _
    have HZA : Hid ((V.alloc (.cells #[.int .i64 m.kind, .int .i64 m.src, .int .i64 m.dst, .int .i64 m.term, .int .i64 m.index, .int .i64 m.logTerm, .int .i64 m.commit, .slice eo m.ents.length ec, .bool m.granted] 50)).heap[B]? = some (.cells #[.int .i64 kind, .int .i64 a, .int .i64 b] 64 (0, 0))) := (Below.heap_alloc V _ B hB2).trans (unhide HZ2)
    have HEA : Hid ((V.alloc (.cells #[.int .i64 m.kind, .int .i64 m.src, .int .i64 m.dst, .int .i64 m.term, .int .i64 m.index, .int .i64 m.logTerm, .int .i64 m.commit, .slice eo m.ents.length ec, .bool m.granted] 50)).ownsRow 0 78 2 (.slice eo m.ents.length ec) m.ents.length (eC m.ents) ∧ Tag (newTag V.heap.size tgW (0, 1)) (.slice eo m.ents.length ec) (4, 0)) := owns_step (A := fun _ => False) (unhide HEN2).1 (unhide HEN2).2 (Stp.alloc V tgW _ _) (fun h => h)
    have HTA : Hid (newTag V.heap.size tgW (0, 1) V.heap.size = (0, 1)) := newTag_new (Nat.le_refl _)
    obtain ⟨gh9, hj9⟩ := unhide HJ
    have hml := hj9.mi m (List.mem_of_getElem? (unhide HGM1))
    have hd0 := hml.2.1
    have hd1 := hml.2.2.1
    have hdn : m.dst.toNat < n := by omega
    have HND := hide (hj9.node hdn)
    have HSD := hide (sendable_step (unhide HND).2.fid (unhide HND).2.fn m)
    have HFW := hide (step_few (s := G.node m.dst.toNat) (unhide HND).2.ok.n1 m)
    have HNN := hide (unhide HND).2.fn
    have hcast : ((m.dst.toNat : Nat) : Int) = m.dst := by omega
    have HCA := hide hcast
    have hd2 : m.dst < (G.nodes.length : Int) := by have h9 := unhide HLEN; omega
    have HE3 : Hid (m.ents.length < 4611686018427387904) := by show _ < _; have := hml.2.2.2; omega
    clear hj9 hml hcast hd1
    by_cases hb2 : b.tmod 2 = 0
    · have hbb : (b.tmod 2 == 0) = true := by simp [hb2]
      have HEQ0 := hide (gstep_eqM (b := b) (unhide HKK) (unhide HGM1))
      rw [unhide HK, if_neg (by decide), if_pos (.inr hb2), unhide HTN] at HEQ0
      clear hb2
      go_wp2_with fail
      generalize V.alloc (.cells #[.int .i64 m.kind, .int .i64 m.src, .int .i64 m.dst, .int .i64 m.term, .int .i64 m.index, .int .i64 m.logTerm, .int .i64 m.commit, .slice eo m.ents.length ec, .bool m.granted] 50) = WA at *
      generalize newTag V.heap.size tgW (0, 1) = tgA at *
      clear v0 v1 v2 v3 v4 v5 v6 v7 v8 z2 d0 y1 d5 HG2 HS2 HQ2 HEN2
      have z2 : WA.cell? ⟨B, 2, none⟩ = some (.int .i64 b) := cell_of_row WA B 2 _ _ _ (unhide HZA)
      have hgA := (unhide HGA).lt
      have d1 := (unhide HGA).c1v (unhide HWV)
      have d5 := (unhide HGA).c5
      rw [unhide HOKG] at d5
      have e1 := (unhide HGA).free 1
      have HWI := hide (without_any _ x.wl t WA (unhide HQA) (by omega) (by omega) (unhide HONE))
      go_wp2_with (first | (go_at_call 48; go_must (refine (unhide HWI).mono ?_); rintro e wB ⟨vB, rfl, hrB, hbB⟩; obtain ⟨lo9, lc9, rfl⟩ := owns_form hrB; have k1 := (GM.below (unhide HGA) hbB).c1v (unhide HWV); have q1 := (GM.below (unhide HGA) hbB).free 1; have k5 := (GM.below (unhide HGA) hbB).c5t (unhide HOKG); have hW9 := hide ((unhide HGA).newWay hbB hrB (fun y hy => List.mem_of_mem_eraseIdx hy)); have HMB : Hid (wB.heap[V.heap.size]? = some (.cells #[.int .i64 m.kind, .int .i64 m.src, .int .i64 m.dst, .int .i64 m.term, .int .i64 m.index, .int .i64 m.logTerm, .int .i64 m.commit, .slice eo m.ents.length ec, .bool m.granted] 50 (0, 0))) := (hbB.block _ (Array.getElem?_eq_some_iff.1 (unhide HMA)).1).trans (unhide HMA); have HEB := hide (owns_below (unhide HEA).1 hbB); have hlB := hide hbB.size; clear hrB hbB))
      obtain ⟨tgX, hGX, hSX⟩ := unhide hW9
      have HGX := hide hGX
      have HEX := hide (owns_step (unhide HEA).1 (unhide HEA).2 hSX agr40)
      have hkX := hSX.keep V.heap.size (Array.getElem?_eq_some_iff.1 (unhide HMA)).1 (by rw [unhide HTA]; exact agr01)
      have HMX := hide (hkX.1.trans (unhide HMA))
      have HTX := hide (hkX.2.trans (unhide HTA))
      have HSX := hide ((unhide HSA).trans hSX)
      have HERM : Hid ((x.wl.eraseIdx t).map Prod.fst = G.way.eraseIdx t) := by show _ = _; rw [← (unhide HGA).wf, map_erase]
      have HWAYX : Hid (({ G with way := (x.wl.eraseIdx t).map Prod.fst } : Gp).way.length ≤ 200) := by show ((x.wl.eraseIdx t).map Prod.fst).length ≤ 200; rw [unhide HERM]; exact Nat.le_trans (List.length_eraseIdx_le _ _) (unhide HWAY)
      clear hW9 hGX hSX hkX k1 q1 k5 HMB HEB hlB
      have HEQ : Hid (G.step kind a b = Gp.told { G with way := (x.wl.eraseIdx t).map Prod.fst } m) := by show _ = _; rw [unhide HEQ0, unhide HERM]
      generalize wB.setCell ⟨gb, 1, none⟩ (.slice lo9 (x.wl.eraseIdx t).length lc9) = WX at *
      have hnj : ({ G with way := (x.wl.eraseIdx t).map Prod.fst } : Gp).nodes[m.dst.toNat]? = some (G.node m.dst.toNat) := (unhide HND).1
      have HGX9 := unhide HGX
      have r0 := HGX9.c0v (show ({ x with wv := .slice lo9 (x.wl.eraseIdx t).length lc9, wl := x.wl.eraseIdx t } : GX).nv = _ from unhide HNV)
      have r5 := HGX9.c5t (unhide HOKG)
      obtain ⟨g9, hg9, r1, _⟩ := HGX9.at_ (i := m.dst.toNat) (show m.dst.toNat < ({ G with way := (x.wl.eraseIdx t).map Prod.fst } : Gp).nodes.length from by show m.dst.toNat < G.nodes.length; have h9 := unhide HLEN; omega) (show ({ x with wv := .slice lo9 (x.wl.eraseIdx t).length lc9, wl := x.wl.eraseIdx t } : GX).nv = _ from unhide HNV)
      simp only [Option.some.injEq, Addr.mk.injEq, and_true] at hg9
      subst hg9
      have HTD := hide (gm_told (HGX9.quiet (Stp.drew1 _ _ _)) hnj (unhide HND).2.ok m eo ec (unhide HEX).1 (unhide HE3))
      have n0 : WX.cell? ⟨V.heap.size, 0, none⟩ = some (.int .i64 m.kind) := cell_of_row WX _ 0 _ _ _ (unhide HMX)
      have n1 : WX.cell? ⟨V.heap.size, 1, none⟩ = some (.int .i64 m.src) := cell_of_row WX _ 1 _ _ _ (unhide HMX)
      have n2 : WX.cell? ⟨V.heap.size, 2, none⟩ = some (.int .i64 m.dst) := cell_of_row WX _ 2 _ _ _ (unhide HMX)
      have n3 : WX.cell? ⟨V.heap.size, 3, none⟩ = some (.int .i64 m.term) := cell_of_row WX _ 3 _ _ _ (unhide HMX)
      have n4 : WX.cell? ⟨V.heap.size, 4, none⟩ = some (.int .i64 m.index) := cell_of_row WX _ 4 _ _ _ (unhide HMX)
      have n5 : WX.cell? ⟨V.heap.size, 5, none⟩ = some (.int .i64 m.logTerm) := cell_of_row WX _ 5 _ _ _ (unhide HMX)
      have n6 : WX.cell? ⟨V.heap.size, 6, none⟩ = some (.int .i64 m.commit) := cell_of_row WX _ 6 _ _ _ (unhide HMX)
      have n7 : WX.cell? ⟨V.heap.size, 7, none⟩ = some (.slice eo m.ents.length ec) := cell_of_row WX _ 7 _ _ _ (unhide HMX)
      have n8 : WX.cell? ⟨V.heap.size, 8, none⟩ = some (.bool m.granted) := cell_of_row WX _ 8 _ _ _ (unhide HMX)
      clear HGX9 hnj
      go_wp2
      go_region_law (first | (go_simp; go_at_call 21; go_must (refine (unhide HTD).mono ?_); rintro e w6 ⟨v6, rfl, l6, tg6, x6, hl6, hM6, hG6, hS6, hpb6⟩; replace hl6 := hide hl6; replace hM6 := hide hM6; replace hG6 := hide hG6; replace hS6 := hide hS6; clear hpb6))
      all_goals
        have hk6 := (unhide hS6).keep V.heap.size (Array.getElem?_eq_some_iff.1 (unhide HMX)).1 (by rw [unhide HTX]; exact agr01)
        have q2 : w6.cell? ⟨V.heap.size, 2, none⟩ = some (.int .i64 m.dst) := cell_of_row w6 _ 2 _ _ _ (hk6.1.trans (unhide HMX))
        have HSD6 : Hid (∀ y ∈ l6, Sendable n m.dst.toNat y.1) := fun y hy => unhide HSD _ (by rw [← unhide hl6]; exact List.mem_map_of_mem hy)
        have HFW6 : Hid (l6.length ≤ 1000) := by show _ ≤ _; have h9 := unhide HFW; rw [← unhide hl6, List.length_map, unhide HNN] at h9; omega
        have HSE := hide (sends_any gb m.dst.toNat _ x6 v6 l6 w6 tg6 (unhide hG6) (unhide hM6) (unhide HOKG) (by have h9 := unhide HLEN; show ∀ y ∈ l6, Sendable (List.set G.nodes _ _).length m.dst.toNat y.1; rw [List.length_set, h9]; exact unhide HSD6) (unhide HFW6) (unhide HWAYX))
        rw [unhide HCA] at HSE
        clear hk6
        go_wp2_with (first | (go_at_call 35; go_must (refine (unhide HSE).mono ?_); rintro e w7 ⟨rfl, tg7, x7, hG7, hS7, hpb7⟩; replace hG7 := hide hG7; replace hS7 := hide hS7; clear hpb7))
        go_end0
        refine ⟨rfl, tg7, x7, ?_, ((unhide HSX).trans ((Stp.drew1 Agr _ _).trans (unhide hS6))).trans ((unhide hS7).mono fun U hU => .inl hU)⟩
        rw [unhide HEQ]
        have h9 := unhide hG7
        rw [unhide hl6] at h9
        exact h9
    · have hbb : (b.tmod 2 == 0) = false := by simp [hb2]
      have HEQ := hide (gstep_eqM (b := b) (unhide HKK) (unhide HGM1))
      rw [unhide HK, if_neg (by decide), if_neg (by omega)] at HEQ
      clear hb2
      go_wp2_with fail
      generalize V.alloc (.cells #[.int .i64 m.kind, .int .i64 m.src, .int .i64 m.dst, .int .i64 m.term, .int .i64 m.index, .int .i64 m.logTerm, .int .i64 m.commit, .slice eo m.ents.length ec, .bool m.granted] 50) = WA at *
      generalize newTag V.heap.size tgW (0, 1) = tgA at *
      clear v0 v1 v2 v3 v4 v5 v6 v7 v8 z2 d0 y1 d5 HG2 HS2 HQ2 HEN2
      have z2 : WA.cell? ⟨B, 2, none⟩ = some (.int .i64 b) := cell_of_row WA B 2 _ _ _ (unhide HZA)
      have hgA := (unhide HGA).lt
      have d1 := (unhide HGA).c1v (unhide HWV)
      have d5 := (unhide HGA).c5
      rw [unhide HOKG] at d5
      have HGX := HGA
      have HEX := HEA
      have HMX := HMA
      have HTX := HTA
      have HSX := HSA
      have HWAYX := HWAY
      have hnj : (G : Gp).nodes[m.dst.toNat]? = some (G.node m.dst.toNat) := (unhide HND).1
      have HGX9 := unhide HGX
      have r0 := HGX9.c0v (show (x : GX).nv = _ from unhide HNV)
      have r5 := HGX9.c5t (unhide HOKG)
      obtain ⟨g9, hg9, r1, _⟩ := HGX9.at_ (i := m.dst.toNat) (show m.dst.toNat < (G : Gp).nodes.length from by show m.dst.toNat < G.nodes.length; have h9 := unhide HLEN; omega) (show (x : GX).nv = _ from unhide HNV)
      simp only [Option.some.injEq, Addr.mk.injEq, and_true] at hg9
      subst hg9
      have HTD := hide (gm_told (HGX9.quiet (Stp.drew1 _ _ _)) hnj (unhide HND).2.ok m eo ec (unhide HEX).1 (unhide HE3))
      have n0 : WA.cell? ⟨V.heap.size, 0, none⟩ = some (.int .i64 m.kind) := cell_of_row WA _ 0 _ _ _ (unhide HMX)
      have n1 : WA.cell? ⟨V.heap.size, 1, none⟩ = some (.int .i64 m.src) := cell_of_row WA _ 1 _ _ _ (unhide HMX)
      have n2 : WA.cell? ⟨V.heap.size, 2, none⟩ = some (.int .i64 m.dst) := cell_of_row WA _ 2 _ _ _ (unhide HMX)
      have n3 : WA.cell? ⟨V.heap.size, 3, none⟩ = some (.int .i64 m.term) := cell_of_row WA _ 3 _ _ _ (unhide HMX)
      have n4 : WA.cell? ⟨V.heap.size, 4, none⟩ = some (.int .i64 m.index) := cell_of_row WA _ 4 _ _ _ (unhide HMX)
      have n5 : WA.cell? ⟨V.heap.size, 5, none⟩ = some (.int .i64 m.logTerm) := cell_of_row WA _ 5 _ _ _ (unhide HMX)
      have n6 : WA.cell? ⟨V.heap.size, 6, none⟩ = some (.int .i64 m.commit) := cell_of_row WA _ 6 _ _ _ (unhide HMX)
      have n7 : WA.cell? ⟨V.heap.size, 7, none⟩ = some (.slice eo m.ents.length ec) := cell_of_row WA _ 7 _ _ _ (unhide HMX)
      have n8 : WA.cell? ⟨V.heap.size, 8, none⟩ = some (.bool m.granted) := cell_of_row WA _ 8 _ _ _ (unhide HMX)
      clear HGX9 hnj
      go_wp2
      go_region_law (first | (go_simp; go_at_call 21; go_must (refine (unhide HTD).mono ?_); rintro e w6 ⟨v6, rfl, l6, tg6, x6, hl6, hM6, hG6, hS6, hpb6⟩; replace hl6 := hide hl6; replace hM6 := hide hM6; replace hG6 := hide hG6; replace hS6 := hide hS6; clear hpb6))
      all_goals
        have hk6 := (unhide hS6).keep V.heap.size (Array.getElem?_eq_some_iff.1 (unhide HMX)).1 (by rw [unhide HTX]; exact agr01)
        have q2 : w6.cell? ⟨V.heap.size, 2, none⟩ = some (.int .i64 m.dst) := cell_of_row w6 _ 2 _ _ _ (hk6.1.trans (unhide HMX))
        have HSD6 : Hid (∀ y ∈ l6, Sendable n m.dst.toNat y.1) := fun y hy => unhide HSD _ (by rw [← unhide hl6]; exact List.mem_map_of_mem hy)
        have HFW6 : Hid (l6.length ≤ 1000) := by show _ ≤ _; have h9 := unhide HFW; rw [← unhide hl6, List.length_map, unhide HNN] at h9; omega
        have HSE := hide (sends_any gb m.dst.toNat _ x6 v6 l6 w6 tg6 (unhide hG6) (unhide hM6) (unhide HOKG) (by have h9 := unhide HLEN; show ∀ y ∈ l6, Sendable (List.set G.nodes _ _).length m.dst.toNat y.1; rw [List.length_set, h9]; exact unhide HSD6) (unhide HFW6) (unhide HWAYX))
        rw [unhide HCA] at HSE
        clear hk6
        go_wp2_with (first | (go_at_call 35; go_must (refine (unhide HSE).mono ?_); rintro e w7 ⟨rfl, tg7, x7, hG7, hS7, hpb7⟩; replace hG7 := hide hG7; replace hS7 := hide hS7; clear hpb7))
        go_end0
        refine ⟨rfl, tg7, x7, ?_, ((unhide HSX).trans ((Stp.drew1 Agr _ _).trans (unhide hS6))).trans ((unhide hS7).mono fun U hU => .inl hU)⟩
        rw [unhide HEQ]
        have h9 := unhide hG7
        rw [unhide hl6] at h9
        exact h9

end Go.Proofs.Yteiecbkfganhnaa

namespace Go.Proofs.Yteiecbkfganhnaa
open Go.RowKit Go.MuLone

set_option maxRecDepth 100000 in
set_option maxHeartbeats 2000000 in
theorem gstep_2 (gb n : Nat) (G : Gp) (x : GX) (kind a b : Int) (w : World) (tg : Tags) (h : GM w tg gb G x) (hj : J n G)
    (k0 : -9223372036854775808 ≤ kind) (k1 : kind ≤ 9223372036854775807) (a0 : -9223372036854775808 ≤ a) (a1 : a ≤ 9223372036854775807) (hk : pickZ kind 8 = 2) :
    Calls Try.prog 26 #[ptr gb, .agg #[.int .i64 kind, .int .i64 a, .int .i64 b]] w fun e w' => e = .returned (.tuple #[]) ∧ ∃ tg' x', GM w' tg' gb (G.step kind a b) x' ∧ Stp Agr w tg w' tg' := by
  have HJ := hide hj
  obtain ⟨gh, hjg⟩ := hj
  have hn1 := hjg.n1
  have hn7 := hjg.n7
  have hlen := hjg.len
  have hp0 := pickZ_lo a G.nodes.length (by omega)
  have hp1 := pickZ_hi a G.nodes.length (by omega)
  obtain ⟨i, hi⟩ : ∃ i : Nat, pickZ a G.nodes.length = (i : Int) := ⟨(pickZ a G.nodes.length).toNat, by omega⟩
  have hil : i < G.nodes.length := by omega
  have hiN : (pickZ a G.nodes.length).toNat = i := by omega
  have HIN := hide hiN
  have HPI : Hid (∀ W : World, Calls Try.prog 9 #[.int .i64 a, .int .i64 (G.nodes.length : Int)] W fun e w' => e = .returned (.int .i64 (i : Int)) ∧ w' = W) := fun W => by rw [← hi]; exact pick_any a _ W a0 a1 (by omega) (by omega)
  have HPK : Hid (∀ W : World, Calls Try.prog 9 #[.int .i64 kind, .int .i64 8] W fun e w' => e = .returned (.int .i64 2) ∧ w' = W) := fun W => by rw [← hk]; exact pick_any kind _ W k0 k1 (by decide) (by decide)
  have HNI := hide (hjg.node (i := i) (by omega))
  have HOKG := hide hjg.ok
  have HWAY := hide hjg.way
  have HLEN := hide hlen
  obtain ⟨no, nc, hnv⟩ := h.nodes.form
  obtain ⟨g1, rfl, hat, htg1⟩ := h.at_ hil hnv
  have hg1 : g1 < w.heap.size := block_lt_of_cell hat
  have hgb := h.lt
  have c0 := h.c0
  rw [hnv] at c0
  obtain ⟨wo, wc, hwv⟩ := h.way.form
  obtain ⟨wn, hwn⟩ : ∃ wn, G.way.length = wn := ⟨_, rfl⟩
  rw [hwn] at hwv
  have c1 := h.c1
  rw [hwv] at c1
  have HWV := hide hwv
  have HWN := hide hwn
  have hw200 := unhide HWAY
  rw [hwn] at hw200
  clear hwv hwn
  have hi0 : (0 : Int) ≤ (i : Int) := by omega
  have hi1 : (i : Int) < (G.nodes.length : Int) := by omega
  have HNV := hide hnv
  have HK := hide hk
  have HG0 := hide (h.quiet (Stp.alloc (A := fun _ => False) w tg (.cells #[.int .i64 kind, .int .i64 a, .int .i64 b] 64) (0, 1)))
  have HS0 : Hid (Stp Agr w tg (w.alloc (.cells #[.int .i64 kind, .int .i64 a, .int .i64 b] 64)) (newTag w.heap.size tg (0, 1))) := Stp.alloc w tg _ _
  have z0 : (w.alloc (.cells #[.int .i64 kind, .int .i64 a, .int .i64 b] 64)).heap[w.heap.size]? = some (.cells #[.int .i64 kind, .int .i64 a, .int .i64 b] 64 (0, 0)) := heap_alloc_new w _
  have ZT : Hid (newTag w.heap.size tg (0, 1) w.heap.size = (0, 1)) := newTag_new (Nat.le_refl _)
  have HZ0 := hide z0
  clear h hjg hp0 hp1 hi hiN hnv hk z0 hlen
  have HKK : Hid (pickZ kind 8 = 1 ∨ pickZ kind 8 = 2 ∨ pickZ kind 8 = 3) := by show _ ∨ _; rw [unhide HK]; decide
  by_cases hz : wn = 0
  · subst hz
    go_enter Try.func26, Try.ntmps26
    go_wp2
    go_quiet (first | (go_at_call_of 9 a; exact Calls.quiet_of_same (unhide HPI _)))
    go_wp2_with (first | (go_at_call_of 9 kind; refine (unhide HPK _).mono ?_; rintro e wp ⟨rfl, qp⟩; cases qp.symm))
    have HG1 : Hid (GM ((w.alloc (.cells #[.int .i64 kind, .int .i64 a, .int .i64 b] 64)).drewN nq) (newTag w.heap.size tg (0, 1)) gb G x) := (unhide HG0).quiet ((Stp.refl _ _ _).drewN nq)
    have HS1 : Hid (Stp Agr w tg ((w.alloc (.cells #[.int .i64 kind, .int .i64 a, .int .i64 b] 64)).drewN nq) (newTag w.heap.size tg (0, 1))) := (unhide HS0).drewN nq
    have HZ1 : Hid (((w.alloc (.cells #[.int .i64 kind, .int .i64 a, .int .i64 b] 64)).drewN nq).heap[w.heap.size]? = some (.cells #[.int .i64 kind, .int .i64 a, .int .i64 b] 64 (0, 0))) := unhide HZ0
    clear HG0 HS0 HZ0 c0 c1 hat hg1 hgb HPI HPK
    generalize (w.alloc (.cells #[.int .i64 kind, .int .i64 a, .int .i64 b] 64)).drewN nq = W at *
    generalize newTag w.heap.size tg (0, 1) = tgW at *
    obtain ⟨B, hB⟩ : ∃ B, w.heap.size = B := ⟨_, rfl⟩
    rw [hB] at HZ1 ZT
    rw [hB]
    clear hB
    exact bodyPost_ret (v := .tuple #[]) (results_none rfl _ _ _) rfl ⟨rfl, told0 (unhide HKK) (unhide HWN) (unhide HG1) (unhide HS1)⟩
  · have hzb : ((wn : Int) == 0) = false := by simp; omega
    go_enter Try.func26, Try.ntmps26
    go_wp2
    go_quiet (first | (go_at_call_of 9 a; exact Calls.quiet_of_same (unhide HPI _)))
    go_wp2_with (first | (go_at_call_of 9 kind; refine (unhide HPK _).mono ?_; rintro e wp ⟨rfl, qp⟩; cases qp.symm))
    have HG1 : Hid (GM ((w.alloc (.cells #[.int .i64 kind, .int .i64 a, .int .i64 b] 64)).drewN nq) (newTag w.heap.size tg (0, 1)) gb G x) := (unhide HG0).quiet ((Stp.refl _ _ _).drewN nq)
    have HS1 : Hid (Stp Agr w tg ((w.alloc (.cells #[.int .i64 kind, .int .i64 a, .int .i64 b] 64)).drewN nq) (newTag w.heap.size tg (0, 1))) := (unhide HS0).drewN nq
    have HZ1 : Hid (((w.alloc (.cells #[.int .i64 kind, .int .i64 a, .int .i64 b] 64)).drewN nq).heap[w.heap.size]? = some (.cells #[.int .i64 kind, .int .i64 a, .int .i64 b] 64 (0, 0))) := unhide HZ0
    clear HG0 HS0 HZ0 c0 c1 hat hg1 hgb HPI HPK
    generalize (w.alloc (.cells #[.int .i64 kind, .int .i64 a, .int .i64 b] 64)).drewN nq = W at *
    generalize newTag w.heap.size tg (0, 1) = tgW at *
    obtain ⟨B, hB⟩ : ∃ B, w.heap.size = B := ⟨_, rfl⟩
    rw [hB] at HZ1 ZT
    rw [hB]
    clear hB
    have d1 := (unhide HG1).c1v (unhide HWV)
    have hwn := unhide HWN
    have r0 := pickZ_lo a wn (by omega)
    have r1 := pickZ_hi a wn (by omega)
    obtain ⟨t, ht⟩ : ∃ t : Nat, pickZ a wn = (t : Int) := ⟨(pickZ a wn).toNat, by omega⟩
    have htl : t < wn := by omega
    have HTN : Hid ((pickZ a G.way.length).toNat = t) := by show _ = _; rw [hwn]; omega
    have HPT : Hid (∀ V : World, Calls Try.prog 9 #[.int .i64 a, .int .i64 (wn : Int)] V fun e w' => e = .returned (.int .i64 (t : Int)) ∧ w' = V) := fun V => by rw [← ht]; exact pick_any a _ V a0 a1 (by omega) (by omega)
    have hwl : x.wl.length = wn := by rw [← hwn, ← (unhide HG1).wf, List.length_map]
    have htx : t < x.wl.length := by omega
    have z1 : W.cell? ⟨B, 1, none⟩ = some (.int .i64 a) := cell_of_row W B 1 _ _ _ (unhide HZ1)
    have z2 : W.cell? ⟨B, 2, none⟩ = some (.int .i64 b) := cell_of_row W B 2 _ _ _ (unhide HZ1)
    have hti0 : (0 : Int) ≤ (t : Int) := by omega
    have hti1 : (t : Int) < (wn : Int) := by omega
    have hq1 := (unhide HG1).way
    rw [unhide HWV, hwn] at hq1
    obtain ⟨g, off, rfl, m0, m1, m2, m3, m4, m5, m6, m7, m8⟩ := row_msg hq1 (List.getElem?_eq_getElem htx)
    have HEN := hide ((unhide HG1).we _ (List.getElem_mem htx))
    have HGM : Hid (G.way[(pickZ a G.way.length).toNat]? = some x.wl[t].1) := by
      show _ = _
      rw [unhide HTN, ← (unhide HG1).wf, List.getElem?_map, List.getElem?_eq_getElem htx]; rfl
    have HQ1 : Hid (QRow W 50 9 (.slice (some ⟨g, off, none⟩) wn wc) x.wl.length (mC x.wl)) := by show QRow _ _ _ _ _ _; rw [hwl]; exact hq1
    have hgl : g < W.heap.size := block_lt_of_cell m0
    have hgbl := (unhide HG1).lt
    have hBl : B < W.heap.size := (Array.getElem?_eq_some_iff.1 (unhide HZ1)).1
    have HONE : Hid (∀ y ∈ x.wl, y.2.oneCell' = true) := fun y hy => Own.oneCell ⟨((unhide HG1).we y hy).1, ((unhide HG1).we y hy).2⟩
    clear r0 r1 ht hq1
    generalize x.wl[t] = y at *
    obtain ⟨m, ev⟩ := y
    obtain ⟨eo, ec, hev⟩ := owns_form (unhide HEN).1
    simp only at m0 m1 m2 m3 m4 m5 m6 m7 m8 hev
    subst hev
    have HEN1 : Hid (W.ownsRow 0 78 2 (.slice eo m.ents.length ec) m.ents.length (eC m.ents) ∧ Tag tgW (.slice eo m.ents.length ec) (4, 0)) := HEN
    have HGM1 : Hid (G.way[(pickZ a G.way.length).toNat]? = some m) := HGM
    clear HEN HGM hwn
    go_wp2
    go_quiet (first | (go_at_call_of 9 a; exact Calls.quiet_of_same (unhide HPT _)))
    have HG2 : Hid (GM (W.drewN nq) tgW gb G x) := (unhide HG1).quiet ((Stp.refl _ _ _).drewN nq)
    have HS2 : Hid (Stp Agr w tg (W.drewN nq) tgW) := (unhide HS1).drewN nq
    have HZ2 : Hid ((W.drewN nq).heap[B]? = some (.cells #[.int .i64 kind, .int .i64 a, .int .i64 b] 64 (0, 0))) := unhide HZ1
    have HQ2 : Hid (QRow (W.drewN nq) 50 9 (.slice (some ⟨g, off, none⟩) wn wc) x.wl.length (mC x.wl)) := unhide HQ1
    have HEN2 : Hid ((W.drewN nq).ownsRow 0 78 2 (.slice eo m.ents.length ec) m.ents.length (eC m.ents) ∧ Tag tgW (.slice eo m.ents.length ec) (4, 0)) := unhide HEN1
    have v0 : (W.drewN nq).cell? ⟨g, off + t * 9, none⟩ = some (.int .i64 m.kind) := m0
    have v1 : (W.drewN nq).cell? ⟨g, off + t * 9 + 1, none⟩ = some (.int .i64 m.src) := m1
    have v2 : (W.drewN nq).cell? ⟨g, off + t * 9 + 2, none⟩ = some (.int .i64 m.dst) := m2
    have v3 : (W.drewN nq).cell? ⟨g, off + t * 9 + 3, none⟩ = some (.int .i64 m.term) := m3
    have v4 : (W.drewN nq).cell? ⟨g, off + t * 9 + 4, none⟩ = some (.int .i64 m.index) := m4
    have v5 : (W.drewN nq).cell? ⟨g, off + t * 9 + 5, none⟩ = some (.int .i64 m.logTerm) := m5
    have v6 : (W.drewN nq).cell? ⟨g, off + t * 9 + 6, none⟩ = some (.int .i64 m.commit) := m6
    have v7 : (W.drewN nq).cell? ⟨g, off + t * 9 + 7, none⟩ = some (.slice eo m.ents.length ec) := m7
    have v8 : (W.drewN nq).cell? ⟨g, off + t * 9 + 8, none⟩ = some (.bool m.granted) := m8
    have y1 : (W.drewN nq).cell? ⟨gb, 1, none⟩ = some (.slice (some ⟨g, off, none⟩) wn wc) := d1
    have hgl2 : g < (W.drewN nq).heap.size := hgl
    have hgb2 : gb < (W.drewN nq).heap.size := hgbl
    have hB2 : B < (W.drewN nq).heap.size := hBl
    clear HG1 HS1 HZ1 HQ1 HEN1 m0 m1 m2 m3 m4 m5 m6 m7 m8 d1 z1 z2 hgl hgbl hBl
    generalize W.drewN nq = V at *
    have z2 : V.cell? ⟨B, 2, none⟩ = some (.int .i64 b) := cell_of_row V B 2 _ _ _ (unhide HZ2)
    have d5 := (unhide HG2).c5
    rw [unhide HOKG] at d5
    have d0 := (unhide HG2).c0v (unhide HNV)
    have HGA : Hid (GM (V.alloc (.cells #[.int .i64 m.kind, .int .i64 m.src, .int .i64 m.dst, .int .i64 m.term, .int .i64 m.index, .int .i64 m.logTerm, .int .i64 m.commit, .slice eo m.ents.length ec, .bool m.granted] 50)) (newTag V.heap.size tgW (0, 1)) gb G x) := (unhide HG2).quiet (Stp.alloc (A := fun _ => False) V tgW (.cells #[.int .i64 m.kind, .int .i64 m.src, .int .i64 m.dst, .int .i64 m.term, .int .i64 m.index, .int .i64 m.logTerm, .int .i64 m.commit, .slice eo m.ents.length ec, .bool m.granted] 50) (0, 1))
    have HSA : Hid (Stp Agr w tg (V.alloc (.cells #[.int .i64 m.kind, .int .i64 m.src, .int .i64 m.dst, .int .i64 m.term, .int .i64 m.index, .int .i64 m.logTerm, .int .i64 m.commit, .slice eo m.ents.length ec, .bool m.granted] 50)) (newTag V.heap.size tgW (0, 1))) := (unhide HS2).trans (Stp.alloc V tgW _ _)
    have HQA : Hid (QRow (V.alloc (.cells #[.int .i64 m.kind, .int .i64 m.src, .int .i64 m.dst, .int .i64 m.term, .int .i64 m.index, .int .i64 m.logTerm, .int .i64 m.commit, .slice eo m.ents.length ec, .bool m.granted] 50)) 50 9 (.slice (some ⟨g, off, none⟩) wn wc) x.wl.length (mC x.wl)) := (unhide HQ2).kept fun z hz => Below.heap_alloc _ _ z ((unhide HQ2).lt z hz)
    have HMA : Hid ((V.alloc (.cells #[.int .i64 m.kind, .int .i64 m.src, .int .i64 m.dst, .int .i64 m.term, .int .i64 m.index, .int .i64 m.logTerm, .int .i64 m.commit, .slice eo m.ents.length ec, .bool m.granted] 50)).heap[V.heap.size]? = some (.cells #[.int .i64 m.kind, .int .i64 m.src, .int .i64 m.dst, .int .i64 m.term, .int .i64 m.index, .int .i64 m.logTerm, .int .i64 m.commit, .slice eo m.ents.length ec, .bool m.granted] 50 (0, 0))) := heap_alloc_new V _
    have HZA : Hid ((V.alloc (.cells #[.int .i64 m.kind, .int .i64 m.src, .int .i64 m.dst, .int .i64 m.term, .int .i64 m.index, .int .i64 m.logTerm, .int .i64 m.commit, .slice eo m.ents.length ec, .bool m.granted] 50)).heap[B]? = some (.cells #[.int .i64 kind, .int .i64 a, .int .i64 b] 64 (0, 0))) := (Below.heap_alloc V _ B hB2).trans (unhide HZ2)
    have HEA : Hid ((V.alloc (.cells #[.int .i64 m.kind, .int .i64 m.src, .int .i64 m.dst, .int .i64 m.term, .int .i64 m.index, .int .i64 m.logTerm, .int .i64 m.commit, .slice eo m.ents.length ec, .bool m.granted] 50)).ownsRow 0 78 2 (.slice eo m.ents.length ec) m.ents.length (eC m.ents) ∧ Tag (newTag V.heap.size tgW (0, 1)) (.slice eo m.ents.length ec) (4, 0)) := owns_step (A := fun _ => False) (unhide HEN2).1 (unhide HEN2).2 (Stp.alloc V tgW _ _) (fun h => h)
    have HTA : Hid (newTag V.heap.size tgW (0, 1) V.heap.size = (0, 1)) := newTag_new (Nat.le_refl _)
    obtain ⟨gh9, hj9⟩ := unhide HJ
    have hml := hj9.mi m (List.mem_of_getElem? (unhide HGM1))
    have hd0 := hml.2.1
    have hd1 := hml.2.2.1
    have hdn : m.dst.toNat < n := by omega
    have HND := hide (hj9.node hdn)
    have HSD := hide (sendable_step (unhide HND).2.fid (unhide HND).2.fn m)
    have HFW := hide (step_few (s := G.node m.dst.toNat) (unhide HND).2.ok.n1 m)
    have HNN := hide (unhide HND).2.fn
    have hcast : ((m.dst.toNat : Nat) : Int) = m.dst := by omega
    have HCA := hide hcast
    have hd2 : m.dst < (G.nodes.length : Int) := by have h9 := unhide HLEN; omega
    have HE3 : Hid (m.ents.length < 4611686018427387904) := by show _ < _; have := hml.2.2.2; omega
    clear hj9 hml hcast hd1
    by_cases hb2 : b.tmod 2 = 0
    · have hbb : (b.tmod 2 == 0) = true := by simp [hb2]
      have HEQ0 := hide (gstep_eqM (b := b) (unhide HKK) (unhide HGM1))
      rw [unhide HK, if_neg (by decide), if_pos (.inr hb2), unhide HTN] at HEQ0
      clear hb2
      go_wp2_with fail
      generalize V.alloc (.cells #[.int .i64 m.kind, .int .i64 m.src, .int .i64 m.dst, .int .i64 m.term, .int .i64 m.index, .int .i64 m.logTerm, .int .i64 m.commit, .slice eo m.ents.length ec, .bool m.granted] 50) = WA at *
      generalize newTag V.heap.size tgW (0, 1) = tgA at *
      clear v0 v1 v2 v3 v4 v5 v6 v7 v8 z2 d0 y1 d5 HG2 HS2 HQ2 HEN2
      have z2 : WA.cell? ⟨B, 2, none⟩ = some (.int .i64 b) := cell_of_row WA B 2 _ _ _ (unhide HZA)
      have hgA := (unhide HGA).lt
      have d1 := (unhide HGA).c1v (unhide HWV)
      have d5 := (unhide HGA).c5
      rw [unhide HOKG] at d5
      have e1 := (unhide HGA).free 1
      have HWI := hide (without_any _ x.wl t WA (unhide HQA) (by omega) (by omega) (unhide HONE))
      go_wp2_with (first | (go_at_call 48; go_must (refine (unhide HWI).mono ?_); rintro e wB ⟨vB, rfl, hrB, hbB⟩; obtain ⟨lo9, lc9, rfl⟩ := owns_form hrB; have k1 := (GM.below (unhide HGA) hbB).c1v (unhide HWV); have q1 := (GM.below (unhide HGA) hbB).free 1; have k5 := (GM.below (unhide HGA) hbB).c5t (unhide HOKG); have hW9 := hide ((unhide HGA).newWay hbB hrB (fun y hy => List.mem_of_mem_eraseIdx hy)); have HMB : Hid (wB.heap[V.heap.size]? = some (.cells #[.int .i64 m.kind, .int .i64 m.src, .int .i64 m.dst, .int .i64 m.term, .int .i64 m.index, .int .i64 m.logTerm, .int .i64 m.commit, .slice eo m.ents.length ec, .bool m.granted] 50 (0, 0))) := (hbB.block _ (Array.getElem?_eq_some_iff.1 (unhide HMA)).1).trans (unhide HMA); have HEB := hide (owns_below (unhide HEA).1 hbB); have hlB := hide hbB.size; clear hrB hbB))
      obtain ⟨tgX, hGX, hSX⟩ := unhide hW9
      have HGX := hide hGX
      have HEX := hide (owns_step (unhide HEA).1 (unhide HEA).2 hSX agr40)
      have hkX := hSX.keep V.heap.size (Array.getElem?_eq_some_iff.1 (unhide HMA)).1 (by rw [unhide HTA]; exact agr01)
      have HMX := hide (hkX.1.trans (unhide HMA))
      have HTX := hide (hkX.2.trans (unhide HTA))
      have HSX := hide ((unhide HSA).trans hSX)
      have HERM : Hid ((x.wl.eraseIdx t).map Prod.fst = G.way.eraseIdx t) := by show _ = _; rw [← (unhide HGA).wf, map_erase]
      have HWAYX : Hid (({ G with way := (x.wl.eraseIdx t).map Prod.fst } : Gp).way.length ≤ 200) := by show ((x.wl.eraseIdx t).map Prod.fst).length ≤ 200; rw [unhide HERM]; exact Nat.le_trans (List.length_eraseIdx_le _ _) (unhide HWAY)
      clear hW9 hGX hSX hkX k1 q1 k5 HMB HEB hlB
      have HEQ : Hid (G.step kind a b = Gp.told { G with way := (x.wl.eraseIdx t).map Prod.fst } m) := by show _ = _; rw [unhide HEQ0, unhide HERM]
      generalize wB.setCell ⟨gb, 1, none⟩ (.slice lo9 (x.wl.eraseIdx t).length lc9) = WX at *
      have hnj : ({ G with way := (x.wl.eraseIdx t).map Prod.fst } : Gp).nodes[m.dst.toNat]? = some (G.node m.dst.toNat) := (unhide HND).1
      have HGX9 := unhide HGX
      have r0 := HGX9.c0v (show ({ x with wv := .slice lo9 (x.wl.eraseIdx t).length lc9, wl := x.wl.eraseIdx t } : GX).nv = _ from unhide HNV)
      have r5 := HGX9.c5t (unhide HOKG)
      obtain ⟨g9, hg9, r1, _⟩ := HGX9.at_ (i := m.dst.toNat) (show m.dst.toNat < ({ G with way := (x.wl.eraseIdx t).map Prod.fst } : Gp).nodes.length from by show m.dst.toNat < G.nodes.length; have h9 := unhide HLEN; omega) (show ({ x with wv := .slice lo9 (x.wl.eraseIdx t).length lc9, wl := x.wl.eraseIdx t } : GX).nv = _ from unhide HNV)
      simp only [Option.some.injEq, Addr.mk.injEq, and_true] at hg9
      subst hg9
      have HTD := hide (gm_told (HGX9.quiet (Stp.drew1 _ _ _)) hnj (unhide HND).2.ok m eo ec (unhide HEX).1 (unhide HE3))
      have n0 : WX.cell? ⟨V.heap.size, 0, none⟩ = some (.int .i64 m.kind) := cell_of_row WX _ 0 _ _ _ (unhide HMX)
      have n1 : WX.cell? ⟨V.heap.size, 1, none⟩ = some (.int .i64 m.src) := cell_of_row WX _ 1 _ _ _ (unhide HMX)
      have n2 : WX.cell? ⟨V.heap.size, 2, none⟩ = some (.int .i64 m.dst) := cell_of_row WX _ 2 _ _ _ (unhide HMX)
      have n3 : WX.cell? ⟨V.heap.size, 3, none⟩ = some (.int .i64 m.term) := cell_of_row WX _ 3 _ _ _ (unhide HMX)
      have n4 : WX.cell? ⟨V.heap.size, 4, none⟩ = some (.int .i64 m.index) := cell_of_row WX _ 4 _ _ _ (unhide HMX)
      have n5 : WX.cell? ⟨V.heap.size, 5, none⟩ = some (.int .i64 m.logTerm) := cell_of_row WX _ 5 _ _ _ (unhide HMX)
      have n6 : WX.cell? ⟨V.heap.size, 6, none⟩ = some (.int .i64 m.commit) := cell_of_row WX _ 6 _ _ _ (unhide HMX)
      have n7 : WX.cell? ⟨V.heap.size, 7, none⟩ = some (.slice eo m.ents.length ec) := cell_of_row WX _ 7 _ _ _ (unhide HMX)
      have n8 : WX.cell? ⟨V.heap.size, 8, none⟩ = some (.bool m.granted) := cell_of_row WX _ 8 _ _ _ (unhide HMX)
      clear HGX9 hnj
      go_wp2
      go_region_law (first | (go_simp; go_at_call 21; go_must (refine (unhide HTD).mono ?_); rintro e w6 ⟨v6, rfl, l6, tg6, x6, hl6, hM6, hG6, hS6, hpb6⟩; replace hl6 := hide hl6; replace hM6 := hide hM6; replace hG6 := hide hG6; replace hS6 := hide hS6; clear hpb6))
      all_goals
        have hk6 := (unhide hS6).keep V.heap.size (Array.getElem?_eq_some_iff.1 (unhide HMX)).1 (by rw [unhide HTX]; exact agr01)
        have q2 : w6.cell? ⟨V.heap.size, 2, none⟩ = some (.int .i64 m.dst) := cell_of_row w6 _ 2 _ _ _ (hk6.1.trans (unhide HMX))
        have HSD6 : Hid (∀ y ∈ l6, Sendable n m.dst.toNat y.1) := fun y hy => unhide HSD _ (by rw [← unhide hl6]; exact List.mem_map_of_mem hy)
        have HFW6 : Hid (l6.length ≤ 1000) := by show _ ≤ _; have h9 := unhide HFW; rw [← unhide hl6, List.length_map, unhide HNN] at h9; omega
        have HSE := hide (sends_any gb m.dst.toNat _ x6 v6 l6 w6 tg6 (unhide hG6) (unhide hM6) (unhide HOKG) (by have h9 := unhide HLEN; show ∀ y ∈ l6, Sendable (List.set G.nodes _ _).length m.dst.toNat y.1; rw [List.length_set, h9]; exact unhide HSD6) (unhide HFW6) (unhide HWAYX))
        rw [unhide HCA] at HSE
        clear hk6
        go_wp2_with (first | (go_at_call 35; go_must (refine (unhide HSE).mono ?_); rintro e w7 ⟨rfl, tg7, x7, hG7, hS7, hpb7⟩; replace hG7 := hide hG7; replace hS7 := hide hS7; clear hpb7))
        go_end0
        refine ⟨rfl, tg7, x7, ?_, ((unhide HSX).trans ((Stp.drew1 Agr _ _).trans (unhide hS6))).trans ((unhide hS7).mono fun U hU => .inl hU)⟩
        rw [unhide HEQ]
        have h9 := unhide hG7
        rw [unhide hl6] at h9
        exact h9
    · have hbb : (b.tmod 2 == 0) = false := by simp [hb2]
      have HEQ := hide (gstep_eqM (b := b) (unhide HKK) (unhide HGM1))
      rw [unhide HK, if_neg (by decide), if_neg (by omega)] at HEQ
      clear hb2
      go_wp2_with fail
      generalize V.alloc (.cells #[.int .i64 m.kind, .int .i64 m.src, .int .i64 m.dst, .int .i64 m.term, .int .i64 m.index, .int .i64 m.logTerm, .int .i64 m.commit, .slice eo m.ents.length ec, .bool m.granted] 50) = WA at *
      generalize newTag V.heap.size tgW (0, 1) = tgA at *
      clear v0 v1 v2 v3 v4 v5 v6 v7 v8 z2 d0 y1 d5 HG2 HS2 HQ2 HEN2
      have z2 : WA.cell? ⟨B, 2, none⟩ = some (.int .i64 b) := cell_of_row WA B 2 _ _ _ (unhide HZA)
      have hgA := (unhide HGA).lt
      have d1 := (unhide HGA).c1v (unhide HWV)
      have d5 := (unhide HGA).c5
      rw [unhide HOKG] at d5
      have HGX := HGA
      have HEX := HEA
      have HMX := HMA
      have HTX := HTA
      have HSX := HSA
      have HWAYX := HWAY
      have hnj : (G : Gp).nodes[m.dst.toNat]? = some (G.node m.dst.toNat) := (unhide HND).1
      have HGX9 := unhide HGX
      have r0 := HGX9.c0v (show (x : GX).nv = _ from unhide HNV)
      have r5 := HGX9.c5t (unhide HOKG)
      obtain ⟨g9, hg9, r1, _⟩ := HGX9.at_ (i := m.dst.toNat) (show m.dst.toNat < (G : Gp).nodes.length from by show m.dst.toNat < G.nodes.length; have h9 := unhide HLEN; omega) (show (x : GX).nv = _ from unhide HNV)
      simp only [Option.some.injEq, Addr.mk.injEq, and_true] at hg9
      subst hg9
      have HTD := hide (gm_told (HGX9.quiet (Stp.drew1 _ _ _)) hnj (unhide HND).2.ok m eo ec (unhide HEX).1 (unhide HE3))
      have n0 : WA.cell? ⟨V.heap.size, 0, none⟩ = some (.int .i64 m.kind) := cell_of_row WA _ 0 _ _ _ (unhide HMX)
      have n1 : WA.cell? ⟨V.heap.size, 1, none⟩ = some (.int .i64 m.src) := cell_of_row WA _ 1 _ _ _ (unhide HMX)
      have n2 : WA.cell? ⟨V.heap.size, 2, none⟩ = some (.int .i64 m.dst) := cell_of_row WA _ 2 _ _ _ (unhide HMX)
      have n3 : WA.cell? ⟨V.heap.size, 3, none⟩ = some (.int .i64 m.term) := cell_of_row WA _ 3 _ _ _ (unhide HMX)
      have n4 : WA.cell? ⟨V.heap.size, 4, none⟩ = some (.int .i64 m.index) := cell_of_row WA _ 4 _ _ _ (unhide HMX)
      have n5 : WA.cell? ⟨V.heap.size, 5, none⟩ = some (.int .i64 m.logTerm) := cell_of_row WA _ 5 _ _ _ (unhide HMX)
      have n6 : WA.cell? ⟨V.heap.size, 6, none⟩ = some (.int .i64 m.commit) := cell_of_row WA _ 6 _ _ _ (unhide HMX)
      have n7 : WA.cell? ⟨V.heap.size, 7, none⟩ = some (.slice eo m.ents.length ec) := cell_of_row WA _ 7 _ _ _ (unhide HMX)
      have n8 : WA.cell? ⟨V.heap.size, 8, none⟩ = some (.bool m.granted) := cell_of_row WA _ 8 _ _ _ (unhide HMX)
      clear HGX9 hnj
      go_wp2
      go_region_law (first | (go_simp; go_at_call 21; go_must (refine (unhide HTD).mono ?_); rintro e w6 ⟨v6, rfl, l6, tg6, x6, hl6, hM6, hG6, hS6, hpb6⟩; replace hl6 := hide hl6; replace hM6 := hide hM6; replace hG6 := hide hG6; replace hS6 := hide hS6; clear hpb6))
      all_goals
        have hk6 := (unhide hS6).keep V.heap.size (Array.getElem?_eq_some_iff.1 (unhide HMX)).1 (by rw [unhide HTX]; exact agr01)
        have q2 : w6.cell? ⟨V.heap.size, 2, none⟩ = some (.int .i64 m.dst) := cell_of_row w6 _ 2 _ _ _ (hk6.1.trans (unhide HMX))
        have HSD6 : Hid (∀ y ∈ l6, Sendable n m.dst.toNat y.1) := fun y hy => unhide HSD _ (by rw [← unhide hl6]; exact List.mem_map_of_mem hy)
        have HFW6 : Hid (l6.length ≤ 1000) := by show _ ≤ _; have h9 := unhide HFW; rw [← unhide hl6, List.length_map, unhide HNN] at h9; omega
        have HSE := hide (sends_any gb m.dst.toNat _ x6 v6 l6 w6 tg6 (unhide hG6) (unhide hM6) (unhide HOKG) (by have h9 := unhide HLEN; show ∀ y ∈ l6, Sendable (List.set G.nodes _ _).length m.dst.toNat y.1; rw [List.length_set, h9]; exact unhide HSD6) (unhide HFW6) (unhide HWAYX))
        rw [unhide HCA] at HSE
        clear hk6
        go_wp2_with (first | (go_at_call 35; go_must (refine (unhide HSE).mono ?_); rintro e w7 ⟨rfl, tg7, x7, hG7, hS7, hpb7⟩; replace hG7 := hide hG7; replace hS7 := hide hS7; clear hpb7))
        go_end0
        refine ⟨rfl, tg7, x7, ?_, ((unhide HSX).trans ((Stp.drew1 Agr _ _).trans (unhide hS6))).trans ((unhide hS7).mono fun U hU => .inl hU)⟩
        rw [unhide HEQ]
        have h9 := unhide hG7
        rw [unhide hl6] at h9
        exact h9

end Go.Proofs.Yteiecbkfganhnaa

namespace Go.Proofs.Yteiecbkfganhnaa
open Go.RowKit Go.MuLone

set_option maxRecDepth 100000 in
set_option maxHeartbeats 2000000 in
theorem gstep_3 (gb n : Nat) (G : Gp) (x : GX) (kind a b : Int) (w : World) (tg : Tags) (h : GM w tg gb G x) (hj : J n G)
    (k0 : -9223372036854775808 ≤ kind) (k1 : kind ≤ 9223372036854775807) (a0 : -9223372036854775808 ≤ a) (a1 : a ≤ 9223372036854775807) (hk : pickZ kind 8 = 3) :
    Calls Try.prog 26 #[ptr gb, .agg #[.int .i64 kind, .int .i64 a, .int .i64 b]] w fun e w' => e = .returned (.tuple #[]) ∧ ∃ tg' x', GM w' tg' gb (G.step kind a b) x' ∧ Stp Agr w tg w' tg' := by
  have HJ := hide hj
  obtain ⟨gh, hjg⟩ := hj
  have hn1 := hjg.n1
  have hn7 := hjg.n7
  have hlen := hjg.len
  have hp0 := pickZ_lo a G.nodes.length (by omega)
  have hp1 := pickZ_hi a G.nodes.length (by omega)
  obtain ⟨i, hi⟩ : ∃ i : Nat, pickZ a G.nodes.length = (i : Int) := ⟨(pickZ a G.nodes.length).toNat, by omega⟩
  have hil : i < G.nodes.length := by omega
  have hiN : (pickZ a G.nodes.length).toNat = i := by omega
  have HIN := hide hiN
  have HPI : Hid (∀ W : World, Calls Try.prog 9 #[.int .i64 a, .int .i64 (G.nodes.length : Int)] W fun e w' => e = .returned (.int .i64 (i : Int)) ∧ w' = W) := fun W => by rw [← hi]; exact pick_any a _ W a0 a1 (by omega) (by omega)
  have HPK : Hid (∀ W : World, Calls Try.prog 9 #[.int .i64 kind, .int .i64 8] W fun e w' => e = .returned (.int .i64 3) ∧ w' = W) := fun W => by rw [← hk]; exact pick_any kind _ W k0 k1 (by decide) (by decide)
  have HNI := hide (hjg.node (i := i) (by omega))
  have HOKG := hide hjg.ok
  have HWAY := hide hjg.way
  have HLEN := hide hlen
  obtain ⟨no, nc, hnv⟩ := h.nodes.form
  obtain ⟨g1, rfl, hat, htg1⟩ := h.at_ hil hnv
  have hg1 : g1 < w.heap.size := block_lt_of_cell hat
  have hgb := h.lt
  have c0 := h.c0
  rw [hnv] at c0
  obtain ⟨wo, wc, hwv⟩ := h.way.form
  obtain ⟨wn, hwn⟩ : ∃ wn, G.way.length = wn := ⟨_, rfl⟩
  rw [hwn] at hwv
  have c1 := h.c1
  rw [hwv] at c1
  have HWV := hide hwv
  have HWN := hide hwn
  have hw200 := unhide HWAY
  rw [hwn] at hw200
  clear hwv hwn
  have hi0 : (0 : Int) ≤ (i : Int) := by omega
  have hi1 : (i : Int) < (G.nodes.length : Int) := by omega
  have HNV := hide hnv
  have HK := hide hk
  have HG0 := hide (h.quiet (Stp.alloc (A := fun _ => False) w tg (.cells #[.int .i64 kind, .int .i64 a, .int .i64 b] 64) (0, 1)))
  have HS0 : Hid (Stp Agr w tg (w.alloc (.cells #[.int .i64 kind, .int .i64 a, .int .i64 b] 64)) (newTag w.heap.size tg (0, 1))) := Stp.alloc w tg _ _
  have z0 : (w.alloc (.cells #[.int .i64 kind, .int .i64 a, .int .i64 b] 64)).heap[w.heap.size]? = some (.cells #[.int .i64 kind, .int .i64 a, .int .i64 b] 64 (0, 0)) := heap_alloc_new w _
  have ZT : Hid (newTag w.heap.size tg (0, 1) w.heap.size = (0, 1)) := newTag_new (Nat.le_refl _)
  have HZ0 := hide z0
  clear h hjg hp0 hp1 hi hiN hnv hk z0 hlen
  have HKK : Hid (pickZ kind 8 = 1 ∨ pickZ kind 8 = 2 ∨ pickZ kind 8 = 3) := by show _ ∨ _; rw [unhide HK]; decide
  by_cases hz : wn = 0
  · subst hz
    go_enter Try.func26, Try.ntmps26
    go_wp2
    go_quiet (first | (go_at_call_of 9 a; exact Calls.quiet_of_same (unhide HPI _)))
    go_wp2_with (first | (go_at_call_of 9 kind; refine (unhide HPK _).mono ?_; rintro e wp ⟨rfl, qp⟩; cases qp.symm))
    have HG1 : Hid (GM ((w.alloc (.cells #[.int .i64 kind, .int .i64 a, .int .i64 b] 64)).drewN nq) (newTag w.heap.size tg (0, 1)) gb G x) := (unhide HG0).quiet ((Stp.refl _ _ _).drewN nq)
    have HS1 : Hid (Stp Agr w tg ((w.alloc (.cells #[.int .i64 kind, .int .i64 a, .int .i64 b] 64)).drewN nq) (newTag w.heap.size tg (0, 1))) := (unhide HS0).drewN nq
    have HZ1 : Hid (((w.alloc (.cells #[.int .i64 kind, .int .i64 a, .int .i64 b] 64)).drewN nq).heap[w.heap.size]? = some (.cells #[.int .i64 kind, .int .i64 a, .int .i64 b] 64 (0, 0))) := unhide HZ0
    clear HG0 HS0 HZ0 c0 c1 hat hg1 hgb HPI HPK
    generalize (w.alloc (.cells #[.int .i64 kind, .int .i64 a, .int .i64 b] 64)).drewN nq = W at *
    generalize newTag w.heap.size tg (0, 1) = tgW at *
    obtain ⟨B, hB⟩ : ∃ B, w.heap.size = B := ⟨_, rfl⟩
    rw [hB] at HZ1 ZT
    rw [hB]
    clear hB
    exact bodyPost_ret (v := .tuple #[]) (results_none rfl _ _ _) rfl ⟨rfl, told0 (unhide HKK) (unhide HWN) (unhide HG1) (unhide HS1)⟩
  · have hzb : ((wn : Int) == 0) = false := by simp; omega
    go_enter Try.func26, Try.ntmps26
    go_wp2
    go_quiet (first | (go_at_call_of 9 a; exact Calls.quiet_of_same (unhide HPI _)))
    go_wp2_with (first | (go_at_call_of 9 kind; refine (unhide HPK _).mono ?_; rintro e wp ⟨rfl, qp⟩; cases qp.symm))
    have HG1 : Hid (GM ((w.alloc (.cells #[.int .i64 kind, .int .i64 a, .int .i64 b] 64)).drewN nq) (newTag w.heap.size tg (0, 1)) gb G x) := (unhide HG0).quiet ((Stp.refl _ _ _).drewN nq)
    have HS1 : Hid (Stp Agr w tg ((w.alloc (.cells #[.int .i64 kind, .int .i64 a, .int .i64 b] 64)).drewN nq) (newTag w.heap.size tg (0, 1))) := (unhide HS0).drewN nq
    have HZ1 : Hid (((w.alloc (.cells #[.int .i64 kind, .int .i64 a, .int .i64 b] 64)).drewN nq).heap[w.heap.size]? = some (.cells #[.int .i64 kind, .int .i64 a, .int .i64 b] 64 (0, 0))) := unhide HZ0
    clear HG0 HS0 HZ0 c0 c1 hat hg1 hgb HPI HPK
    generalize (w.alloc (.cells #[.int .i64 kind, .int .i64 a, .int .i64 b] 64)).drewN nq = W at *
    generalize newTag w.heap.size tg (0, 1) = tgW at *
    obtain ⟨B, hB⟩ : ∃ B, w.heap.size = B := ⟨_, rfl⟩
    rw [hB] at HZ1 ZT
    rw [hB]
    clear hB
    have d1 := (unhide HG1).c1v (unhide HWV)
    have hwn := unhide HWN
    have r0 := pickZ_lo a wn (by omega)
    have r1 := pickZ_hi a wn (by omega)
    obtain ⟨t, ht⟩ : ∃ t : Nat, pickZ a wn = (t : Int) := ⟨(pickZ a wn).toNat, by omega⟩
    have htl : t < wn := by omega
    have HTN : Hid ((pickZ a G.way.length).toNat = t) := by show _ = _; rw [hwn]; omega
    have HPT : Hid (∀ V : World, Calls Try.prog 9 #[.int .i64 a, .int .i64 (wn : Int)] V fun e w' => e = .returned (.int .i64 (t : Int)) ∧ w' = V) := fun V => by rw [← ht]; exact pick_any a _ V a0 a1 (by omega) (by omega)
    have hwl : x.wl.length = wn := by rw [← hwn, ← (unhide HG1).wf, List.length_map]
    have htx : t < x.wl.length := by omega
    have z1 : W.cell? ⟨B, 1, none⟩ = some (.int .i64 a) := cell_of_row W B 1 _ _ _ (unhide HZ1)
    have z2 : W.cell? ⟨B, 2, none⟩ = some (.int .i64 b) := cell_of_row W B 2 _ _ _ (unhide HZ1)
    have hti0 : (0 : Int) ≤ (t : Int) := by omega
    have hti1 : (t : Int) < (wn : Int) := by omega
    have hq1 := (unhide HG1).way
    rw [unhide HWV, hwn] at hq1
    obtain ⟨g, off, rfl, m0, m1, m2, m3, m4, m5, m6, m7, m8⟩ := row_msg hq1 (List.getElem?_eq_getElem htx)
    have HEN := hide ((unhide HG1).we _ (List.getElem_mem htx))
    have HGM : Hid (G.way[(pickZ a G.way.length).toNat]? = some x.wl[t].1) := by
      show _ = _
      rw [unhide HTN, ← (unhide HG1).wf, List.getElem?_map, List.getElem?_eq_getElem htx]; rfl
    have HQ1 : Hid (QRow W 50 9 (.slice (some ⟨g, off, none⟩) wn wc) x.wl.length (mC x.wl)) := by show QRow _ _ _ _ _ _; rw [hwl]; exact hq1
    have hgl : g < W.heap.size := block_lt_of_cell m0
    have hgbl := (unhide HG1).lt
    have hBl : B < W.heap.size := (Array.getElem?_eq_some_iff.1 (unhide HZ1)).1
    have HONE : Hid (∀ y ∈ x.wl, y.2.oneCell' = true) := fun y hy => Own.oneCell ⟨((unhide HG1).we y hy).1, ((unhide HG1).we y hy).2⟩
    clear r0 r1 ht hq1
    generalize x.wl[t] = y at *
    obtain ⟨m, ev⟩ := y
    obtain ⟨eo, ec, hev⟩ := owns_form (unhide HEN).1
    simp only at m0 m1 m2 m3 m4 m5 m6 m7 m8 hev
    subst hev
    have HEN1 : Hid (W.ownsRow 0 78 2 (.slice eo m.ents.length ec) m.ents.length (eC m.ents) ∧ Tag tgW (.slice eo m.ents.length ec) (4, 0)) := HEN
    have HGM1 : Hid (G.way[(pickZ a G.way.length).toNat]? = some m) := HGM
    clear HEN HGM hwn
    go_wp2
    go_quiet (first | (go_at_call_of 9 a; exact Calls.quiet_of_same (unhide HPT _)))
    have HG2 : Hid (GM (W.drewN nq) tgW gb G x) := (unhide HG1).quiet ((Stp.refl _ _ _).drewN nq)
    have HS2 : Hid (Stp Agr w tg (W.drewN nq) tgW) := (unhide HS1).drewN nq
    have HZ2 : Hid ((W.drewN nq).heap[B]? = some (.cells #[.int .i64 kind, .int .i64 a, .int .i64 b] 64 (0, 0))) := unhide HZ1
    have HQ2 : Hid (QRow (W.drewN nq) 50 9 (.slice (some ⟨g, off, none⟩) wn wc) x.wl.length (mC x.wl)) := unhide HQ1
    have HEN2 : Hid ((W.drewN nq).ownsRow 0 78 2 (.slice eo m.ents.length ec) m.ents.length (eC m.ents) ∧ Tag tgW (.slice eo m.ents.length ec) (4, 0)) := unhide HEN1
    have v0 : (W.drewN nq).cell? ⟨g, off + t * 9, none⟩ = some (.int .i64 m.kind) := m0
    have v1 : (W.drewN nq).cell? ⟨g, off + t * 9 + 1, none⟩ = some (.int .i64 m.src) := m1
    have v2 : (W.drewN nq).cell? ⟨g, off + t * 9 + 2, none⟩ = some (.int .i64 m.dst) := m2
    have v3 : (W.drewN nq).cell? ⟨g, off + t * 9 + 3, none⟩ = some (.int .i64 m.term) := m3
    have v4 : (W.drewN nq).cell? ⟨g, off + t * 9 + 4, none⟩ = some (.int .i64 m.index) := m4
    have v5 : (W.drewN nq).cell? ⟨g, off + t * 9 + 5, none⟩ = some (.int .i64 m.logTerm) := m5
    have v6 : (W.drewN nq).cell? ⟨g, off + t * 9 + 6, none⟩ = some (.int .i64 m.commit) := m6
    have v7 : (W.drewN nq).cell? ⟨g, off + t * 9 + 7, none⟩ = some (.slice eo m.ents.length ec) := m7
    have v8 : (W.drewN nq).cell? ⟨g, off + t * 9 + 8, none⟩ = some (.bool m.granted) := m8
    have y1 : (W.drewN nq).cell? ⟨gb, 1, none⟩ = some (.slice (some ⟨g, off, none⟩) wn wc) := d1
    have hgl2 : g < (W.drewN nq).heap.size := hgl
    have hgb2 : gb < (W.drewN nq).heap.size := hgbl
    have hB2 : B < (W.drewN nq).heap.size := hBl
    clear HG1 HS1 HZ1 HQ1 HEN1 m0 m1 m2 m3 m4 m5 m6 m7 m8 d1 z1 z2 hgl hgbl hBl
    generalize W.drewN nq = V at *
    have z2 : V.cell? ⟨B, 2, none⟩ = some (.int .i64 b) := cell_of_row V B 2 _ _ _ (unhide HZ2)
    have d5 := (unhide HG2).c5
    rw [unhide HOKG] at d5
    have d0 := (unhide HG2).c0v (unhide HNV)
    have HGA : Hid (GM (V.alloc (.cells #[.int .i64 m.kind, .int .i64 m.src, .int .i64 m.dst, .int .i64 m.term, .int .i64 m.index, .int .i64 m.logTerm, .int .i64 m.commit, .slice eo m.ents.length ec, .bool m.granted] 50)) (newTag V.heap.size tgW (0, 1)) gb G x) := (unhide HG2).quiet (Stp.alloc (A := fun _ => False) V tgW (.cells #[.int .i64 m.kind, .int .i64 m.src, .int .i64 m.dst, .int .i64 m.term, .int .i64 m.index, .int .i64 m.logTerm, .int .i64 m.commit, .slice eo m.ents.length ec, .bool m.granted] 50) (0, 1))
    have HSA : Hid (Stp Agr w tg (V.alloc (.cells #[.int .i64 m.kind, .int .i64 m.src, .int .i64 m.dst, .int .i64 m.term, .int .i64 m.index, .int .i64 m.logTerm, .int .i64 m.commit, .slice eo m.ents.length ec, .bool m.granted] 50)) (newTag V.heap.size tgW (0, 1))) := (unhide HS2).trans (Stp.alloc V tgW _ _)
    have HQA : Hid (QRow (V.alloc (.cells #[.int .i64 m.kind, .int .i64 m.src, .int .i64 m.dst, .int .i64 m.term, .int .i64 m.index, .int .i64 m.logTerm, .int .i64 m.commit, .slice eo m.ents.length ec, .bool m.granted] 50)) 50 9 (.slice (some ⟨g, off, none⟩) wn wc) x.wl.length (mC x.wl)) := (unhide HQ2).kept fun z hz => Below.heap_alloc _ _ z ((unhide HQ2).lt z hz)
    have HMA : Hid ((V.alloc (.cells #[.int .i64 m.kind, .int .i64 m.src, .int .i64 m.dst, .int .i64 m.term, .int .i64 m.index, .int .i64 m.logTerm, .int .i64 m.commit, .slice eo m.ents.length ec, .bool m.granted] 50)).heap[V.heap.size]? = some (.cells #[.int .i64 m.kind, .int .i64 m.src, .int .i64 m.dst, .int .i64 m.term, .int .i64 m.index, .int .i64 m.logTerm, .int .i64 m.commit, .slice eo m.ents.length ec, .bool m.granted] 50 (0, 0))) := heap_alloc_new V _
    have HZA : Hid ((V.alloc (.cells #[.int .i64 m.kind, .int .i64 m.src, .int .i64 m.dst, .int .i64 m.term, .int .i64 m.index, .int .i64 m.logTerm, .int .i64 m.commit, .slice eo m.ents.length ec, .bool m.granted] 50)).heap[B]? = some (.cells #[.int .i64 kind, .int .i64 a, .int .i64 b] 64 (0, 0))) := (Below.heap_alloc V _ B hB2).trans (unhide HZ2)
    have HEA : Hid ((V.alloc (.cells #[.int .i64 m.kind, .int .i64 m.src, .int .i64 m.dst, .int .i64 m.term, .int .i64 m.index, .int .i64 m.logTerm, .int .i64 m.commit, .slice eo m.ents.length ec, .bool m.granted] 50)).ownsRow 0 78 2 (.slice eo m.ents.length ec) m.ents.length (eC m.ents) ∧ Tag (newTag V.heap.size tgW (0, 1)) (.slice eo m.ents.length ec) (4, 0)) := owns_step (A := fun _ => False) (unhide HEN2).1 (unhide HEN2).2 (Stp.alloc V tgW _ _) (fun h => h)
    have HTA : Hid (newTag V.heap.size tgW (0, 1) V.heap.size = (0, 1)) := newTag_new (Nat.le_refl _)
    obtain ⟨gh9, hj9⟩ := unhide HJ
    have hml := hj9.mi m (List.mem_of_getElem? (unhide HGM1))
    have hd0 := hml.2.1
    have hd1 := hml.2.2.1
    have hdn : m.dst.toNat < n := by omega
    have HND := hide (hj9.node hdn)
    have HSD := hide (sendable_step (unhide HND).2.fid (unhide HND).2.fn m)
    have HFW := hide (step_few (s := G.node m.dst.toNat) (unhide HND).2.ok.n1 m)
    have HNN := hide (unhide HND).2.fn
    have hcast : ((m.dst.toNat : Nat) : Int) = m.dst := by omega
    have HCA := hide hcast
    have hd2 : m.dst < (G.nodes.length : Int) := by have h9 := unhide HLEN; omega
    have HE3 : Hid (m.ents.length < 4611686018427387904) := by show _ < _; have := hml.2.2.2; omega
    clear hj9 hml hcast hd1
    have HEQ0 := hide (gstep_eqM (b := b) (unhide HKK) (unhide HGM1))
    rw [unhide HK, if_pos rfl, if_pos (.inl rfl), unhide HTN] at HEQ0
    go_wp2_with fail
    generalize V.alloc (.cells #[.int .i64 m.kind, .int .i64 m.src, .int .i64 m.dst, .int .i64 m.term, .int .i64 m.index, .int .i64 m.logTerm, .int .i64 m.commit, .slice eo m.ents.length ec, .bool m.granted] 50) = WA at *
    generalize newTag V.heap.size tgW (0, 1) = tgA at *
    clear v0 v1 v2 v3 v4 v5 v6 v7 v8 z2 d0 y1 d5 HG2 HS2 HQ2 HEN2
    have z2 : WA.cell? ⟨B, 2, none⟩ = some (.int .i64 b) := cell_of_row WA B 2 _ _ _ (unhide HZA)
    have hgA := (unhide HGA).lt
    have d1 := (unhide HGA).c1v (unhide HWV)
    have d5 := (unhide HGA).c5
    rw [unhide HOKG] at d5
    have e1 := (unhide HGA).free 1
    have HWI := hide (without_any _ x.wl t WA (unhide HQA) (by omega) (by omega) (unhide HONE))
    go_wp2_with (first | (go_at_call 48; go_must (refine (unhide HWI).mono ?_); rintro e wB ⟨vB, rfl, hrB, hbB⟩; obtain ⟨lo9, lc9, rfl⟩ := owns_form hrB; have k1 := (GM.below (unhide HGA) hbB).c1v (unhide HWV); have q1 := (GM.below (unhide HGA) hbB).free 1; have k5 := (GM.below (unhide HGA) hbB).c5t (unhide HOKG); have hW9 := hide ((unhide HGA).newWay hbB hrB (fun y hy => List.mem_of_mem_eraseIdx hy)); have HMB : Hid (wB.heap[V.heap.size]? = some (.cells #[.int .i64 m.kind, .int .i64 m.src, .int .i64 m.dst, .int .i64 m.term, .int .i64 m.index, .int .i64 m.logTerm, .int .i64 m.commit, .slice eo m.ents.length ec, .bool m.granted] 50 (0, 0))) := (hbB.block _ (Array.getElem?_eq_some_iff.1 (unhide HMA)).1).trans (unhide HMA); have HEB := hide (owns_below (unhide HEA).1 hbB); have hlB := hide hbB.size; clear hrB hbB))
    obtain ⟨tgX, hGX, hSX⟩ := unhide hW9
    have HGX := hide hGX
    have HEX := hide (owns_step (unhide HEA).1 (unhide HEA).2 hSX agr40)
    have hkX := hSX.keep V.heap.size (Array.getElem?_eq_some_iff.1 (unhide HMA)).1 (by rw [unhide HTA]; exact agr01)
    have HMX := hide (hkX.1.trans (unhide HMA))
    have HTX := hide (hkX.2.trans (unhide HTA))
    have HSX := hide ((unhide HSA).trans hSX)
    have HERM : Hid ((x.wl.eraseIdx t).map Prod.fst = G.way.eraseIdx t) := by show _ = _; rw [← (unhide HGA).wf, map_erase]
    have HWAYX : Hid (({ G with way := (x.wl.eraseIdx t).map Prod.fst } : Gp).way.length ≤ 200) := by show ((x.wl.eraseIdx t).map Prod.fst).length ≤ 200; rw [unhide HERM]; exact Nat.le_trans (List.length_eraseIdx_le _ _) (unhide HWAY)
    clear hW9 hGX hSX hkX k1 q1 k5 HMB HEB hlB
    go_end0
    refine ⟨rfl, tgX, { x with wv := .slice lo9 (x.wl.eraseIdx t).length lc9, wl := x.wl.eraseIdx t }, ?_, unhide HSX⟩
    rw [unhide HEQ0, ← unhide HERM]
    exact unhide HGX

end Go.Proofs.Yteiecbkfganhnaa

namespace Go.Proofs.Yteiecbkfganhnaa
open Go.RowKit Go.MuLone

set_option maxRecDepth 100000 in
set_option maxHeartbeats 2000000 in
theorem gstep_4 (gb n : Nat) (G : Gp) (x : GX) (kind a b : Int) (w : World) (tg : Tags) (h : GM w tg gb G x) (hj : J n G)
    (k0 : -9223372036854775808 ≤ kind) (k1 : kind ≤ 9223372036854775807) (a0 : -9223372036854775808 ≤ a) (a1 : a ≤ 9223372036854775807) (b0 : -9223372036854775808 ≤ b) (b1 : b ≤ 9223372036854775807) (hk : pickZ kind 8 = 4) :
    Calls Try.prog 26 #[ptr gb, .agg #[.int .i64 kind, .int .i64 a, .int .i64 b]] w fun e w' => e = .returned (.tuple #[]) ∧ ∃ tg' x', GM w' tg' gb (G.step kind a b) x' ∧ Stp Agr w tg w' tg' := by
  have HJ := hide hj
  obtain ⟨gh, hjg⟩ := hj
  have hn1 := hjg.n1
  have hn7 := hjg.n7
  have hlen := hjg.len
  have hp0 := pickZ_lo a G.nodes.length (by omega)
  have hp1 := pickZ_hi a G.nodes.length (by omega)
  obtain ⟨i, hi⟩ : ∃ i : Nat, pickZ a G.nodes.length = (i : Int) := ⟨(pickZ a G.nodes.length).toNat, by omega⟩
  have hil : i < G.nodes.length := by omega
  have hiN : (pickZ a G.nodes.length).toNat = i := by omega
  have HIN := hide hiN
  have HPI : Hid (∀ W : World, Calls Try.prog 9 #[.int .i64 a, .int .i64 (G.nodes.length : Int)] W fun e w' => e = .returned (.int .i64 (i : Int)) ∧ w' = W) := fun W => by rw [← hi]; exact pick_any a _ W a0 a1 (by omega) (by omega)
  have HPK : Hid (∀ W : World, Calls Try.prog 9 #[.int .i64 kind, .int .i64 8] W fun e w' => e = .returned (.int .i64 4) ∧ w' = W) := fun W => by rw [← hk]; exact pick_any kind _ W k0 k1 (by decide) (by decide)
  have HNI := hide (hjg.node (i := i) (by omega))
  have HOKG := hide hjg.ok
  have HWAY := hide hjg.way
  have HLEN := hide hlen
  obtain ⟨no, nc, hnv⟩ := h.nodes.form
  obtain ⟨g1, rfl, hat, htg1⟩ := h.at_ hil hnv
  have hg1 : g1 < w.heap.size := block_lt_of_cell hat
  have hgb := h.lt
  have c0 := h.c0
  rw [hnv] at c0
  have hi0 : (0 : Int) ≤ (i : Int) := by omega
  have hi1 : (i : Int) < (G.nodes.length : Int) := by omega
  have HNV := hide hnv
  have HK := hide hk
  have HG0 := hide (h.quiet (Stp.alloc (A := fun _ => False) w tg (.cells #[.int .i64 kind, .int .i64 a, .int .i64 b] 64) (0, 1)))
  have HS0 : Hid (Stp Agr w tg (w.alloc (.cells #[.int .i64 kind, .int .i64 a, .int .i64 b] 64)) (newTag w.heap.size tg (0, 1))) := Stp.alloc w tg _ _
  have z0 : (w.alloc (.cells #[.int .i64 kind, .int .i64 a, .int .i64 b] 64)).heap[w.heap.size]? = some (.cells #[.int .i64 kind, .int .i64 a, .int .i64 b] 64 (0, 0)) := heap_alloc_new w _
  have ZT : Hid (newTag w.heap.size tg (0, 1) w.heap.size = (0, 1)) := newTag_new (Nat.le_refl _)
  have HZ0 := hide z0
  clear h hjg hp0 hp1 hi hiN hnv hk z0 hlen
  go_enter Try.func26, Try.ntmps26
  go_wp2
  go_quiet (first | (go_at_call_of 9 a; exact Calls.quiet_of_same (unhide HPI _)))
  go_wp2_with (first | (go_at_call_of 9 kind; refine (unhide HPK _).mono ?_; rintro e wp ⟨rfl, qp⟩; cases qp.symm))
  have HG1 : Hid (GM ((w.alloc (.cells #[.int .i64 kind, .int .i64 a, .int .i64 b] 64)).drewN nq) (newTag w.heap.size tg (0, 1)) gb G x) := (unhide HG0).quiet ((Stp.refl _ _ _).drewN nq)
  have HS1 : Hid (Stp Agr w tg ((w.alloc (.cells #[.int .i64 kind, .int .i64 a, .int .i64 b] 64)).drewN nq) (newTag w.heap.size tg (0, 1))) := (unhide HS0).drewN nq
  have HZ1 : Hid (((w.alloc (.cells #[.int .i64 kind, .int .i64 a, .int .i64 b] 64)).drewN nq).heap[w.heap.size]? = some (.cells #[.int .i64 kind, .int .i64 a, .int .i64 b] 64 (0, 0))) := unhide HZ0
  clear HG0 HS0 HZ0 c0 hat hg1 hgb HPI HPK
  generalize (w.alloc (.cells #[.int .i64 kind, .int .i64 a, .int .i64 b] 64)).drewN nq = W at *
  generalize newTag w.heap.size tg (0, 1) = tgW at *
  obtain ⟨B, hB⟩ : ∃ B, w.heap.size = B := ⟨_, rfl⟩
  rw [hB] at HZ1 ZT
  rw [hB]
  clear hB
  have HSD := hide (sendable_propose (unhide HNI).2.fid (unhide HNI).2.fn (cmdOf b))
  have HFW := hide (propose_few (G.node i) (cmdOf b))
  have HNN := hide (unhide HNI).2.fn
  go_wp2_with (first | (go_at_call 25; refine (command_any b _ b0 b1).mono ?_; rintro e w2 ⟨rfl, hb2⟩; have HPR := hide (gm_propose ((unhide HG1).below hb2) (unhide HNI).1 (unhide HNI).2.ok (cmdOf b)); have HS2 := hide ((unhide HS1).trans (stp_below tgW hb2)); clear hb2) | (go_at_call 15; go_must (refine (unhide HPR).mono ?_); rintro e w3 ⟨v3, rfl, l3, tg3, x3, hl3, hM3, hG3, hS3, hpb3⟩; have HSD3 := hide (show ∀ y ∈ l3, Sendable n i y.1 from fun y hy => unhide HSD _ (by rw [show ((G.node i).propose (cmdOf b)).2.2.1 = _ from hl3.symm]; exact List.mem_map_of_mem hy)); have HFW3 := hide (show l3.length ≤ 1000 from by have h9 := unhide HFW; rw [show ((G.node i).propose (cmdOf b)).2.2.1 = _ from hl3.symm, List.length_map, unhide HNN] at h9; omega); replace hl3 := hide hl3; replace hM3 := hide hM3; replace hG3 := hide hG3; replace hS3 := hide hS3; clear hpb3) | (go_at_call 35; go_must (refine (sends_any gb i _ x3 v3 l3 _ tg3 (unhide hG3) (unhide hM3) (unhide HOKG) (by have h9 := unhide HLEN; show ∀ y ∈ l3, Sendable (List.set _ _ _).length i y.1; rw [List.length_set, h9]; exact unhide HSD3) (unhide HFW3) (unhide HWAY)).mono ?_); rintro e w4 ⟨rfl, tg4, x4, hG4, hS4, hpb4⟩; replace hG4 := hide hG4; replace hS4 := hide hS4; clear hpb4))
  go_end0
  refine ⟨rfl, tg4, x4, ?_, ((unhide HS2).trans (unhide hS3)).trans ((unhide hS4).mono fun U hU => .inl hU)⟩
  rw [gstep_eq4 (unhide HK), unhide HIN]
  have h9 := unhide hG4
  rw [unhide hl3] at h9
  exact h9

end Go.Proofs.Yteiecbkfganhnaa

namespace Go.Proofs.Yteiecbkfganhnaa
open Go.RowKit Go.MuLone

set_option maxRecDepth 100000 in
set_option maxHeartbeats 2000000 in
theorem gstep_5 (gb n : Nat) (G : Gp) (x : GX) (kind a b : Int) (w : World) (tg : Tags) (h : GM w tg gb G x) (hj : J n G)
    (k0 : -9223372036854775808 ≤ kind) (k1 : kind ≤ 9223372036854775807) (a0 : -9223372036854775808 ≤ a) (a1 : a ≤ 9223372036854775807) (hk : pickZ kind 8 = 5) :
    Calls Try.prog 26 #[ptr gb, .agg #[.int .i64 kind, .int .i64 a, .int .i64 b]] w fun e w' => e = .returned (.tuple #[]) ∧ ∃ tg' x', GM w' tg' gb (G.step kind a b) x' ∧ Stp Agr w tg w' tg' := by
  have HJ := hide hj
  obtain ⟨gh, hjg⟩ := hj
  have hn1 := hjg.n1
  have hn7 := hjg.n7
  have hlen := hjg.len
  have hp0 := pickZ_lo a G.nodes.length (by omega)
  have hp1 := pickZ_hi a G.nodes.length (by omega)
  obtain ⟨i, hi⟩ : ∃ i : Nat, pickZ a G.nodes.length = (i : Int) := ⟨(pickZ a G.nodes.length).toNat, by omega⟩
  have hil : i < G.nodes.length := by omega
  have hiN : (pickZ a G.nodes.length).toNat = i := by omega
  have HIN := hide hiN
  have HPI : Hid (∀ W : World, Calls Try.prog 9 #[.int .i64 a, .int .i64 (G.nodes.length : Int)] W fun e w' => e = .returned (.int .i64 (i : Int)) ∧ w' = W) := fun W => by rw [← hi]; exact pick_any a _ W a0 a1 (by omega) (by omega)
  have HPK : Hid (∀ W : World, Calls Try.prog 9 #[.int .i64 kind, .int .i64 8] W fun e w' => e = .returned (.int .i64 5) ∧ w' = W) := fun W => by rw [← hk]; exact pick_any kind _ W k0 k1 (by decide) (by decide)
  have HNI := hide (hjg.node (i := i) (by omega))
  have HOKG := hide hjg.ok
  have HWAY := hide hjg.way
  have HLEN := hide hlen
  obtain ⟨no, nc, hnv⟩ := h.nodes.form
  obtain ⟨g1, rfl, hat, htg1⟩ := h.at_ hil hnv
  have hg1 : g1 < w.heap.size := block_lt_of_cell hat
  have hgb := h.lt
  have c0 := h.c0
  rw [hnv] at c0
  have hi0 : (0 : Int) ≤ (i : Int) := by omega
  have hi1 : (i : Int) < (G.nodes.length : Int) := by omega
  have HNV := hide hnv
  have HK := hide hk
  have HG0 := hide (h.quiet (Stp.alloc (A := fun _ => False) w tg (.cells #[.int .i64 kind, .int .i64 a, .int .i64 b] 64) (0, 1)))
  have HS0 : Hid (Stp Agr w tg (w.alloc (.cells #[.int .i64 kind, .int .i64 a, .int .i64 b] 64)) (newTag w.heap.size tg (0, 1))) := Stp.alloc w tg _ _
  have z0 : (w.alloc (.cells #[.int .i64 kind, .int .i64 a, .int .i64 b] 64)).heap[w.heap.size]? = some (.cells #[.int .i64 kind, .int .i64 a, .int .i64 b] 64 (0, 0)) := heap_alloc_new w _
  have ZT : Hid (newTag w.heap.size tg (0, 1) w.heap.size = (0, 1)) := newTag_new (Nat.le_refl _)
  have HZ0 := hide z0
  clear h hjg hp0 hp1 hi hiN hnv hk z0 hlen
  go_enter Try.func26, Try.ntmps26
  go_wp2
  go_quiet (first | (go_at_call_of 9 a; exact Calls.quiet_of_same (unhide HPI _)))
  go_wp2_with (first | (go_at_call_of 9 kind; refine (unhide HPK _).mono ?_; rintro e wp ⟨rfl, qp⟩; cases qp.symm))
  have HG1 : Hid (GM ((w.alloc (.cells #[.int .i64 kind, .int .i64 a, .int .i64 b] 64)).drewN nq) (newTag w.heap.size tg (0, 1)) gb G x) := (unhide HG0).quiet ((Stp.refl _ _ _).drewN nq)
  have HS1 : Hid (Stp Agr w tg ((w.alloc (.cells #[.int .i64 kind, .int .i64 a, .int .i64 b] 64)).drewN nq) (newTag w.heap.size tg (0, 1))) := (unhide HS0).drewN nq
  have HZ1 : Hid (((w.alloc (.cells #[.int .i64 kind, .int .i64 a, .int .i64 b] 64)).drewN nq).heap[w.heap.size]? = some (.cells #[.int .i64 kind, .int .i64 a, .int .i64 b] 64 (0, 0))) := unhide HZ0
  clear HG0 HS0 HZ0 c0 hat hg1 hgb HPI HPK
  generalize (w.alloc (.cells #[.int .i64 kind, .int .i64 a, .int .i64 b] 64)).drewN nq = W at *
  generalize newTag w.heap.size tg (0, 1) = tgW at *
  obtain ⟨B, hB⟩ : ∃ B, w.heap.size = B := ⟨_, rfl⟩
  rw [hB] at HZ1 ZT
  rw [hB]
  clear hB
  have d0 : W.cell? ⟨gb, 0, none⟩ = some (.slice (some ⟨g1, 0, none⟩) G.nodes.length nc) := by rw [(unhide HG1).c0, unhide HNV]
  have HGD := hide ((unhide HG1).quiet (Stp.drew1 _ W tgW))
  have HSD := hide ((unhide HS1).trans (Stp.drew1 Agr W tgW))
  have HSV := hide (gm_saved (unhide HGD) (unhide HNI).1 (unhide HNI).2.ok)
  have HID := hide (unhide HNI).2.fid
  have HFN := hide (unhide HNI).2.fn
  go_region_law (first | (go_simp; go_at_call 24; go_must (refine (unhide HSV).mono ?_); rintro e w2 ⟨v2, rfl, ho2, hb2⟩; have he2 := hide (ents_of_owns ho2); obtain ⟨o2, c2, rfl⟩ := owns_form ho2; have d0' : w2.cell? ⟨gb, 0, none⟩ = some (.slice (some ⟨g1, 0, none⟩) G.nodes.length nc) := ((unhide HGD).below hb2).c0v (unhide HNV); replace hb2 := hide hb2; clear ho2) | (go_simp; go_at_call 23; go_must (refine (restart_ok i G.nodes.length _ _ _ (G.node i).log w2 (by omega) (by have h9 := unhide HLEN; omega) hil (unhide he2) (by have h9 := (unhide HNI).2.ok.saved; rw [unhide HFN, ← unhide HLEN] at h9; exact h9)).mono ?_); rintro e w3 ⟨nb3, v3, rfl, hnb3, hN3, hr3, hb3⟩; replace hN3 := hide hN3; replace hr3 := hide hr3; replace hb3 := hide hb3))
  all_goals
    have hG3 := ((unhide HGD).below (unhide hb2)).below (unhide hb3)
    have HID3 := hide (hG3.setOk_id (unhide HOKG))
    have e0 := hG3.c0v (unhide HNV)
    have e5 := hG3.c5
    have f5 := hG3.free 5
    rw [unhide HOKG] at e5
    obtain ⟨g9, hg9, e1, _⟩ := hG3.at_ hil (unhide HNV)
    simp only [Option.some.injEq, Addr.mk.injEq, and_true] at hg9
    subst hg9
    have f1 : w3.frozen? ⟨g1, i, none⟩ = false := hG3.nodes_free (unhide HNV) i
    have hne : ¬ gb = g1 := hG3.nodes_ne (unhide HNV)
    have hne2 : ¬ g1 = gb := fun hx => hne hx.symm
    have hFN := ((unhide HGD).below (unhide hb2)).setNode hil (unhide HNV) (unhide hb3) hnb3 (unhide hN3) (unhide hr3)
    obtain ⟨tg5, hG5, hS5⟩ := hFN
    have HG5 := hide hG5
    have HS5 := hide (((unhide HSD).trans (stp_below _ (unhide hb2))).trans hS5)
    clear hG3 hG5 hS5 hnb3
    go_wp2
    go_end0
    rw [unhide HID3]
    refine ⟨rfl, tg5, { x with pb := upd x.pb i nb3, lv := upd x.lv i v3 }, ?_, unhide HS5⟩
    rw [gstep_eq5 (unhide HK), unhide HIN]
    exact unhide HG5

end Go.Proofs.Yteiecbkfganhnaa

namespace Go.Proofs.Yteiecbkfganhnaa
open Go.RowKit Go.MuLone

set_option maxRecDepth 100000 in
set_option maxHeartbeats 2000000 in
theorem gstep_6 (gb n : Nat) (G : Gp) (x : GX) (kind a b : Int) (w : World) (tg : Tags) (h : GM w tg gb G x) (hj : J n G)
    (k0 : -9223372036854775808 ≤ kind) (k1 : kind ≤ 9223372036854775807) (a0 : -9223372036854775808 ≤ a) (a1 : a ≤ 9223372036854775807) (b0 : -9223372036854775808 ≤ b) (b1 : b ≤ 9223372036854775807) (hk : pickZ kind 8 = 6) :
    Calls Try.prog 26 #[ptr gb, .agg #[.int .i64 kind, .int .i64 a, .int .i64 b]] w fun e w' => e = .returned (.tuple #[]) ∧ ∃ tg' x', GM w' tg' gb (G.step kind a b) x' ∧ Stp Agr w tg w' tg' := by
  have HJ := hide hj
  obtain ⟨gh, hjg⟩ := hj
  have hn1 := hjg.n1
  have hn7 := hjg.n7
  have hlen := hjg.len
  have hp0 := pickZ_lo a G.nodes.length (by omega)
  have hp1 := pickZ_hi a G.nodes.length (by omega)
  obtain ⟨i, hi⟩ : ∃ i : Nat, pickZ a G.nodes.length = (i : Int) := ⟨(pickZ a G.nodes.length).toNat, by omega⟩
  have hil : i < G.nodes.length := by omega
  have hiN : (pickZ a G.nodes.length).toNat = i := by omega
  have HIN := hide hiN
  have HPI : Hid (∀ W : World, Calls Try.prog 9 #[.int .i64 a, .int .i64 (G.nodes.length : Int)] W fun e w' => e = .returned (.int .i64 (i : Int)) ∧ w' = W) := fun W => by rw [← hi]; exact pick_any a _ W a0 a1 (by omega) (by omega)
  have HPK : Hid (∀ W : World, Calls Try.prog 9 #[.int .i64 kind, .int .i64 8] W fun e w' => e = .returned (.int .i64 6) ∧ w' = W) := fun W => by rw [← hk]; exact pick_any kind _ W k0 k1 (by decide) (by decide)
  have HNI := hide (hjg.node (i := i) (by omega))
  have HOKG := hide hjg.ok
  have HWAY := hide hjg.way
  have HLEN := hide hlen
  obtain ⟨no, nc, hnv⟩ := h.nodes.form
  obtain ⟨g1, rfl, hat, htg1⟩ := h.at_ hil hnv
  have hg1 : g1 < w.heap.size := block_lt_of_cell hat
  have hgb := h.lt
  have c0 := h.c0
  rw [hnv] at c0
  have hi0 : (0 : Int) ≤ (i : Int) := by omega
  have hi1 : (i : Int) < (G.nodes.length : Int) := by omega
  have HNV := hide hnv
  have HK := hide hk
  have HG0 := hide (h.quiet (Stp.alloc (A := fun _ => False) w tg (.cells #[.int .i64 kind, .int .i64 a, .int .i64 b] 64) (0, 1)))
  have HS0 : Hid (Stp Agr w tg (w.alloc (.cells #[.int .i64 kind, .int .i64 a, .int .i64 b] 64)) (newTag w.heap.size tg (0, 1))) := Stp.alloc w tg _ _
  have z0 : (w.alloc (.cells #[.int .i64 kind, .int .i64 a, .int .i64 b] 64)).heap[w.heap.size]? = some (.cells #[.int .i64 kind, .int .i64 a, .int .i64 b] 64 (0, 0)) := heap_alloc_new w _
  have ZT : Hid (newTag w.heap.size tg (0, 1) w.heap.size = (0, 1)) := newTag_new (Nat.le_refl _)
  have HZ0 := hide z0
  clear h hjg hp0 hp1 hi hiN hnv hk z0 hlen
  go_enter Try.func26, Try.ntmps26
  go_wp2
  go_quiet (first | (go_at_call_of 9 a; exact Calls.quiet_of_same (unhide HPI _)))
  go_wp2_with (first | (go_at_call_of 9 kind; refine (unhide HPK _).mono ?_; rintro e wp ⟨rfl, qp⟩; cases qp.symm))
  have HG1 : Hid (GM ((w.alloc (.cells #[.int .i64 kind, .int .i64 a, .int .i64 b] 64)).drewN nq) (newTag w.heap.size tg (0, 1)) gb G x) := (unhide HG0).quiet ((Stp.refl _ _ _).drewN nq)
  have HS1 : Hid (Stp Agr w tg ((w.alloc (.cells #[.int .i64 kind, .int .i64 a, .int .i64 b] 64)).drewN nq) (newTag w.heap.size tg (0, 1))) := (unhide HS0).drewN nq
  have HZ1 : Hid (((w.alloc (.cells #[.int .i64 kind, .int .i64 a, .int .i64 b] 64)).drewN nq).heap[w.heap.size]? = some (.cells #[.int .i64 kind, .int .i64 a, .int .i64 b] 64 (0, 0))) := unhide HZ0
  clear HG0 HS0 HZ0 c0 hat hg1 hgb HPI HPK
  generalize (w.alloc (.cells #[.int .i64 kind, .int .i64 a, .int .i64 b] 64)).drewN nq = W at *
  generalize newTag w.heap.size tg (0, 1) = tgW at *
  obtain ⟨B, hB⟩ : ∃ B, w.heap.size = B := ⟨_, rfl⟩
  rw [hB] at HZ1 ZT
  rw [hB]
  clear hB
  have q0 := pickZ_lo b 40 (by decide)
  have q1 := pickZ_hi b 40 (by decide)
  obtain ⟨p, hp⟩ : ∃ p : Int, pickZ b 40 = p := ⟨_, rfl⟩
  rw [hp] at q0 q1
  have HPB : Hid (∀ V : World, Calls Try.prog 9 #[.int .i64 b, .int .i64 40] V fun e w' => e = .returned (.int .i64 p) ∧ w' = V) := fun V => by rw [← hp]; exact pick_any b _ V b0 b1 (by decide) (by decide)
  have HP := hide hp
  have HPA := hide (gm_patience (unhide HG1) (unhide HNI).1 (1 + p) (by omega) (by omega))
  clear hp
  go_wp2_with (first | (go_at_call_of 9 b; refine (unhide HPB _).mono ?_; rintro e wp ⟨rfl, qp⟩; cases qp.symm) | (go_at_call 11; go_must (refine (unhide HPA).mono ?_); rintro e w3 ⟨rfl, tg3, x3, hG3, hS3, hpb3⟩; replace hG3 := hide hG3; replace hS3 := hide hS3; clear hpb3))
  go_end0
  refine ⟨rfl, tg3, x3, ?_, (unhide HS1).trans (unhide hS3)⟩
  rw [gstep_eq6 (unhide HK), unhide HIN, unhide HP]
  exact unhide hG3

end Go.Proofs.Yteiecbkfganhnaa

namespace Go.Proofs.Yteiecbkfganhnaa
open Go.RowKit Go.MuLone

set_option maxRecDepth 100000 in
set_option maxHeartbeats 2000000 in
theorem gstep_7 (gb n : Nat) (G : Gp) (x : GX) (kind a b : Int) (w : World) (tg : Tags) (h : GM w tg gb G x) (hj : J n G)
    (k0 : -9223372036854775808 ≤ kind) (k1 : kind ≤ 9223372036854775807) (a0 : -9223372036854775808 ≤ a) (a1 : a ≤ 9223372036854775807) (hk : pickZ kind 8 = 7) :
    Calls Try.prog 26 #[ptr gb, .agg #[.int .i64 kind, .int .i64 a, .int .i64 b]] w fun e w' => e = .returned (.tuple #[]) ∧ ∃ tg' x', GM w' tg' gb (G.step kind a b) x' ∧ Stp Agr w tg w' tg' := by
  have HJ := hide hj
  obtain ⟨gh, hjg⟩ := hj
  have hn1 := hjg.n1
  have hn7 := hjg.n7
  have hlen := hjg.len
  have hp0 := pickZ_lo a G.nodes.length (by omega)
  have hp1 := pickZ_hi a G.nodes.length (by omega)
  obtain ⟨i, hi⟩ : ∃ i : Nat, pickZ a G.nodes.length = (i : Int) := ⟨(pickZ a G.nodes.length).toNat, by omega⟩
  have hil : i < G.nodes.length := by omega
  have hiN : (pickZ a G.nodes.length).toNat = i := by omega
  have HIN := hide hiN
  have HPI : Hid (∀ W : World, Calls Try.prog 9 #[.int .i64 a, .int .i64 (G.nodes.length : Int)] W fun e w' => e = .returned (.int .i64 (i : Int)) ∧ w' = W) := fun W => by rw [← hi]; exact pick_any a _ W a0 a1 (by omega) (by omega)
  have HPK : Hid (∀ W : World, Calls Try.prog 9 #[.int .i64 kind, .int .i64 8] W fun e w' => e = .returned (.int .i64 7) ∧ w' = W) := fun W => by rw [← hk]; exact pick_any kind _ W k0 k1 (by decide) (by decide)
  have HNI := hide (hjg.node (i := i) (by omega))
  have HOKG := hide hjg.ok
  have HWAY := hide hjg.way
  have HLEN := hide hlen
  obtain ⟨no, nc, hnv⟩ := h.nodes.form
  obtain ⟨g1, rfl, hat, htg1⟩ := h.at_ hil hnv
  have hg1 : g1 < w.heap.size := block_lt_of_cell hat
  have hgb := h.lt
  have c0 := h.c0
  rw [hnv] at c0
  have hi0 : (0 : Int) ≤ (i : Int) := by omega
  have hi1 : (i : Int) < (G.nodes.length : Int) := by omega
  have HNV := hide hnv
  have HK := hide hk
  have HG0 := hide (h.quiet (Stp.alloc (A := fun _ => False) w tg (.cells #[.int .i64 kind, .int .i64 a, .int .i64 b] 64) (0, 1)))
  have HS0 : Hid (Stp Agr w tg (w.alloc (.cells #[.int .i64 kind, .int .i64 a, .int .i64 b] 64)) (newTag w.heap.size tg (0, 1))) := Stp.alloc w tg _ _
  have z0 : (w.alloc (.cells #[.int .i64 kind, .int .i64 a, .int .i64 b] 64)).heap[w.heap.size]? = some (.cells #[.int .i64 kind, .int .i64 a, .int .i64 b] 64 (0, 0)) := heap_alloc_new w _
  have ZT : Hid (newTag w.heap.size tg (0, 1) w.heap.size = (0, 1)) := newTag_new (Nat.le_refl _)
  have HZ0 := hide z0
  clear h hjg hp0 hp1 hi hiN hnv hk z0 hlen
  go_enter Try.func26, Try.ntmps26
  go_wp2
  go_quiet (first | (go_at_call_of 9 a; exact Calls.quiet_of_same (unhide HPI _)))
  go_wp2_with (first | (go_at_call_of 9 kind; refine (unhide HPK _).mono ?_; rintro e wp ⟨rfl, qp⟩; cases qp.symm))
  have HG1 : Hid (GM ((w.alloc (.cells #[.int .i64 kind, .int .i64 a, .int .i64 b] 64)).drewN nq) (newTag w.heap.size tg (0, 1)) gb G x) := (unhide HG0).quiet ((Stp.refl _ _ _).drewN nq)
  have HS1 : Hid (Stp Agr w tg ((w.alloc (.cells #[.int .i64 kind, .int .i64 a, .int .i64 b] 64)).drewN nq) (newTag w.heap.size tg (0, 1))) := (unhide HS0).drewN nq
  have HZ1 : Hid (((w.alloc (.cells #[.int .i64 kind, .int .i64 a, .int .i64 b] 64)).drewN nq).heap[w.heap.size]? = some (.cells #[.int .i64 kind, .int .i64 a, .int .i64 b] 64 (0, 0))) := unhide HZ0
  clear HG0 HS0 HZ0 c0 hat hg1 hgb HPI HPK
  generalize (w.alloc (.cells #[.int .i64 kind, .int .i64 a, .int .i64 b] 64)).drewN nq = W at *
  generalize newTag w.heap.size tg (0, 1) = tgW at *
  obtain ⟨B, hB⟩ : ∃ B, w.heap.size = B := ⟨_, rfl⟩
  rw [hB] at HZ1 ZT
  rw [hB]
  clear hB
  obtain ⟨i0, hi, hz0, hz1, hz2⟩ := info_parts infoMsg
  obtain ⟨wo, wc, hwv⟩ := (unhide HG1).way.form
  have hwl : x.wl.length = G.way.length := by rw [← (unhide HG1).wf, List.length_map]
  have HWV := hide hwv
  have HWL := hide hwl
  have hw200 := unhide HWAY
  obtain ⟨wn, hwn⟩ : ∃ wn, G.way.length = wn := ⟨_, rfl⟩
  rw [hwn] at hwl hw200 HWV HWL hwv
  have HWN := hide hwn
  clear hwv hwn
  go_loopw [17, 18] (fun u t wr => ∃ k : Nat, k ≤ wn ∧ t = .int .i64 k ∧ wr.ownsRow W.heap.size 50 9 u ((x.wl.take k).filter (keepM i)).length (mC ((x.wl.take k).filter (keepM i))) ∧ Below W.heap.size W wr) (fun _ t _ => wn - (intOf t).toNat)
  case atStart => exact ⟨0, Nat.zero_le _, rfl, World.ownsRow_nil W _ _ _, Below.refl _ _⟩
  case round =>
    obtain ⟨k, hk, rfl, ho, hb⟩ := hrel
    have hG2 := (unhide HG1).below hb
    have d1 := hG2.c1v (unhide HWV)
    by_cases hlt : k < wn
    · have hki : (k : Int) < (wn : Int) := by omega
      have hkl : k < x.wl.length := by omega
      have hq2 := hG2.way
      rw [unhide HWV, unhide HWN] at hq2
      obtain ⟨g, off, rfl, a0', a1', a2', a3', a4', a5', a6', a7', a8'⟩ := row_msg hq2 (List.getElem?_eq_getElem hkl)
      have HEN := hide (hG2.we _ (List.getElem_mem hkl))
      have HTK := hide (List.take_succ_eq_append_getElem hkl)
      clear hq2
      generalize x.wl[k] = y at *
      obtain ⟨m, ev⟩ := y
      obtain ⟨eo, ec, hev⟩ := owns_form (unhide HEN).1
      simp only at a0' a1' a2' a3' a4' a5' a6' a7' a8' hev
      subst hev
      have hfl : ((x.wl.take k).filter (keepM i)).length ≤ k := Nat.le_trans (List.length_filter_le _ _) (by rw [List.length_take]; omega)
      obtain ⟨lo, lc, rfl⟩ := owns_form ho
      have hgl : g < wr.heap.size := block_lt_of_cell a0'
      have hgbl := hG2.lt
      have HO := hide ho
      have HB := hide hb
      clear ho hb hG2
      by_cases hd : m.dst = (i : Int)
      · have hdb : (m.dst != (i : Int)) = false := by simp [hd]
        have HF : Hid ((x.wl.take (k + 1)).filter (keepM i) = (x.wl.take k).filter (keepM i)) := by show _ = _; rw [unhide HTK, List.filter_append]; simp [keepM, hd]
        clear hd
        go_wp2
        go_roundw
        case rel => exact ⟨k + 1, by omega, by go_num, by rw [unhide HF]; exact unhide HO, unhide HB⟩
        case measure => simp [intOf]; omega
      · have hdb : (m.dst != (i : Int)) = true := by simpa using hd
        have HF : Hid ((x.wl.take (k + 1)).filter (keepM i) = (x.wl.take k).filter (keepM i) ++ [(m, .slice eo m.ents.length ec)]) := by show _ = _; rw [unhide HTK, List.filter_append]; simp [keepM, hd]
        clear hd
        go_wp2_with (at_builtin; go_must (refine wpList_append_own_at _ rfl (.tmp 200) (.tmp 208) 29 rfl W.heap.size 50 i0 _ 9 88 Try.underlying29 hi hz0 hz1 hz2 rfl (by decide) (.slice lo ((x.wl.take k).filter (keepM i)).length lc) ((x.wl.take k).filter (keepM i)).length (mC ((x.wl.take k).filter (keepM i))) rfl ((unhide HO).alloc _) ⟨wr.heap.size, 0, none⟩ 1 1 [.int .i64 m.kind, .int .i64 m.src, .int .i64 m.dst, .int .i64 m.term, .int .i64 m.index, .int .i64 m.logTerm, .int .i64 m.commit, .slice eo m.ents.length ec, .bool m.granted] rfl rfl (cells_new9 _ _ _) (by intro u hu; simp at hu; rcases hu with rfl | rfl | rfl | rfl | rfl | rfl | rfl | rfl | rfl <;> rfl) (by unfold maxLen; omega) (by omega) (by have := (unhide HB).size; simp; omega) ?_))
        intro v' w' h2 h3 _ _
        have HN : Hid (w'.ownsRow W.heap.size 50 9 v' ((x.wl.take (k + 1)).filter (keepM i)).length (mC ((x.wl.take (k + 1)).filter (keepM i)))) := by
          show World.ownsRow _ _ _ _ _ _ _
          rw [unhide HF, mC_append, List.length_append]
          exact h2
        have HB2 : Hid (Below W.heap.size W w') := ((unhide HB).alloc (unhide HB).size _).grown h3 (by have := (unhide HB).size; simp; omega) (fun z hz => ((unhide HO).lt z hz).1)
        clear h2 h3
        go_wp2
        go_roundw
        case rel => exact ⟨k + 1, by omega, by go_num, unhide HN, unhide HB2⟩
        case measure => simp [intOf]; omega
    · have hkn : k = wn := by omega
      subst hkn
      have e1 := hG2.free 1
      rw [← hwl, List.take_length] at ho
      obtain ⟨tg5, hG5, hS5⟩ := (unhide HG1).newWay hb ho (fun y hy => (List.mem_filter.1 hy).1)
      obtain ⟨lo, lc, rfl⟩ := owns_form ho
      have HG5 := hide hG5
      have HS5 := hide ((unhide HS1).trans hS5)
      clear ho hb hG2 hG5 hS5
      go_wp2
      go_end0
      refine ⟨rfl, tg5, { x with wv := .slice lo (x.wl.filter (keepM i)).length lc, wl := x.wl.filter (keepM i) }, ?_, unhide HS5⟩
      rw [gstep_eq7 (unhide HK), unhide HIN]
      have h9 := unhide HG5
      rw [keepM_map, (unhide HG1).wf] at h9
      exact h9

end Go.Proofs.Yteiecbkfganhnaa
