/- Proved: whatever the input, quorumkeep.Quiet returns true, and each argument reads behind the call as it read before. No condition. -/
import Derived.Test.YteiecbkfganhnaaMem
import Derived.Test.YteiecbkfganhnaaRaft
import Derived.Deep.QuietTactic
import Derived.BigQuiet
import Derived.Test.YteiecbkfganhnaaLook
import Derived.Deep.RegionWith
import Derived.Test.YteiecbkfganhnaaRows
import Derived.ProofKit
import Derived.SizedLaws
import Derived.Carry
import Derived.Lib.SmallJoins
import Derived.OpenShut

namespace Go.Proofs.Yteiecbkfganhnaa
open Go.RowKit Go.MuLone

set_option maxRecDepth 100000 in
set_option maxHeartbeats 400000 in
theorem slice_one (b off n cap : Nat) (h1 : 0 < n) (h2 : n ≤ cap) : ∃ ad c, (∀ w, (Instr.slice 29 (.slice (some ⟨b, off, none⟩) n cap) (some (.int .i64 1)) none none).run Try.prog w = .ok (.slice (some ad) (n - 1) c) w) ∧ ad.block = b ∧
    ∀ w l, QRow w 50 9 (.slice (some ⟨b, off, none⟩) n cap) n l → QRow w 50 9 (.slice (some ad) (n - 1) c) (n - 1) (l.drop 9) := by
  have i2 : (1 : Int) ≤ (n : Int) := by omega
  by_cases hca : cap = 1
  · refine ⟨⟨b, off, none⟩, cap - 1, fun w => ?_, rfl, fun w l hq => ?_⟩
    · subst hca
      go_simp
    · have hn : n = 1 := by omega
      subst hn
      rcases hq.2 with ⟨hv, _⟩ | ⟨g, o, cp, cur, hv, hg, k1, k2, k3⟩
      · cases hv
      · simp only [Value.slice.injEq, Option.some.injEq, Addr.mk.injEq, and_true, true_and] at hv
        obtain ⟨⟨rfl, rfl⟩, rfl⟩ := hv
        refine ⟨by rw [List.length_drop, hq.1], .inr ⟨b, off, cap - 1, cur, rfl, hg, by omega, by omega, ?_⟩⟩
        have hl := hq.1
        have e9 : l.drop 9 = [] := List.drop_of_length_le (by omega)
        rw [e9]
        simp
  · refine ⟨⟨b, off + 1 * 9, none⟩, cap - 1, fun w => ?_, rfl, fun w l hq => ?_⟩
    · go_simp
    · have h := QRow.drop (m := 1) hq (by omega) rfl
      simpa using h

set_option maxRecDepth 100000 in
set_option maxHeartbeats 2000000 in
theorem tell_any (gb i n : Nat) (G : Gp) (x : GX) (v : Value) (l : List (Msg × Value)) (w : World) (tg : Tags) (h : GM w tg gb G x) (hv : MsgsRow w tg v l) (hok : G.ok = true) (hl : ∀ y ∈ l, Sendable G.nodes.length i y.1) (hlen : l.length ≤ 1000) (hw : G.way.length ≤ 200) (hj : J n (G.sends (l.map Prod.fst))) :
    Calls Try.prog 16 #[ptr gb, .int .i64 (i : Int), v] w fun e w' => e = .returned (.tuple #[]) ∧ ∃ tg' x', GM w' tg' gb ((G.sends (l.map Prod.fst)).tells 3000) x' ∧ Stp Agr w tg w' tg' ∧ x'.pb = x.pb := by
  have HSE := hide (sends_any gb i G x v l w tg h hv hok hl hlen hw)
  have HJ := hide hj
  obtain ⟨G1, hGG⟩ : ∃ G1, G.sends (l.map Prod.fst) = G1 := ⟨_, rfl⟩
  rw [hGG] at HSE HJ hj ⊢
  clear h hv hok hl hj hGG hw hlen
  go_enter Try.func16, Try.ntmps16
  go_wp2_with (first | (go_at_call 35; go_must (refine (unhide HSE).mono ?_); rintro e w1 ⟨rfl, tg1, x1, hG1, hS1, hpb1⟩; replace hG1 := hide hG1; replace hS1 := hide (hS1.mono (B := Agr) fun U hU => .inl hU); replace hpb1 := hide hpb1))
  go_loopw [6] (fun u wr => ∃ (k : Nat) (tg' : Tags) (x' : GX), k ≤ 3000 ∧ u = .int .i64 k ∧ GM wr tg' gb (G1.tells k) x' ∧ Stp Agr w tg wr tg' ∧ x'.pb = x.pb) (fun u _ => 3000 - (intOf u).toNat)
  case atStart => exact ⟨0, tg1, x1, Nat.zero_le _, rfl, unhide hG1, unhide hS1, unhide hpb1⟩
  case round =>
    obtain ⟨k, tg2, x2, hk, rfl, hG2, hS2, hpb2⟩ := hrel
    obtain ⟨gh, hJ2⟩ := (unhide HJ).tells k
    obtain ⟨wo, wc, hwv⟩ := hG2.way.form
    have c1 := hG2.c1v hwv
    have c5 := hG2.c5t hJ2.ok
    have hgb := hG2.lt
    cases hwy : (G1.tells k).way with
    | nil =>
      rw [hwy, List.length_nil] at c1
      have HD : Hid (G1.tells 3000 = G1.tells k) := by
        show _ = _
        have h9 := tells_done hwy (3000 - k)
        rw [show k + (3000 - k) = 3000 by omega] at h9
        exact h9
      have HG2 := hide hG2
      have HS2 := hide hS2
      have HPB := hide hpb2
      clear hG2 hS2 hpb2 hJ2 hwv hwy
      go_wp2
      go_end0
      exact ⟨rfl, tg2, x2, by rw [unhide HD]; exact unhide HG2, unhide HS2, unhide HPB⟩
    | cons mm r =>
      have hwl : (G1.tells k).way.length = r.length + 1 := by rw [hwy]; rfl
      have hr200 := hJ2.way
      rw [hwl] at c1 hwv hr200
      have hpos : (0 : Int) < ((r.length : Int) + 1) := by omega
      by_cases hk3 : k = 3000
      · subst hk3
        have HG2 := hide hG2
        have HS2 := hide hS2
        have HPB := hide hpb2
        clear hG2 hS2 hpb2 hJ2 hwv hwy hwl
        go_wp2
        go_end0
        exact ⟨rfl, tg2, x2, unhide HG2, unhide HS2, unhide HPB⟩
      · have hk3i : (k : Int) < 3000 := by omega
        obtain ⟨yl, hyl⟩ : ∃ yl, x2.wl = yl := ⟨_, rfl⟩
        cases yl with
        | nil =>
          exfalso
          have h9 := hG2.wf
          rw [hyl, hwy] at h9
          simp at h9
        | cons y yr =>
          have h9 := hG2.wf
          rw [hyl, hwy, List.map_cons, List.cons.injEq] at h9
          obtain ⟨hy1, hyr⟩ := h9
          obtain ⟨m, ev⟩ := y
          simp only at hy1
          subst hy1
          have hq2 := hG2.way
          rw [hwv, hwl] at hq2
          obtain ⟨g, off, rfl, v0, v1, v2, v3, v4, v5, v6, v7, v8⟩ := row_msg (k := 0) hq2 (show x2.wl[0]? = some (m, ev) by rw [hyl]; rfl)
          simp only [Nat.zero_mul, Nat.add_zero] at v0 v1 v2 v3 v4 v5 v6 v7 v8
          have HEN := hide (hG2.we (m, ev) (by rw [hyl]; exact List.mem_cons_self ..))
          obtain ⟨eo, ec, hev⟩ := owns_form (unhide HEN).1
          simp only at hev
          subst hev
          have HEN1 : Hid (wr.ownsRow 0 78 2 (.slice eo m.ents.length ec) m.ents.length (eC m.ents) ∧ Tag tg2 (.slice eo m.ents.length ec) (4, 0)) := HEN
          clear HEN
          have hcapq : r.length + 1 ≤ wc := by
            rcases hq2.2 with ⟨hx, _⟩ | ⟨_, _, cp9, _, hx, _, h8, _⟩
            · cases hx
            · simp only [Value.slice.injEq, true_and] at hx; omega
          obtain ⟨ad, c9, sl1, had, hqt⟩ := slice_one g off (r.length + 1) wc (by omega) hcapq
          have hml := hJ2.mi m (by rw [hwy]; exact List.mem_cons_self ..)
          have hd0 := hml.2.1
          have hd1 := hml.2.2.1
          have hdn : m.dst.toNat < n := by omega
          have HND := hide (hJ2.node hdn)
          have HSD := hide (sendable_step (unhide HND).2.fid (unhide HND).2.fn m)
          have HFW := hide (step_few (s := (G1.tells k).node m.dst.toNat) (unhide HND).2.ok.n1 m)
          have HNN := hide (unhide HND).2.fn
          have hcast : ((m.dst.toNat : Nat) : Int) = m.dst := by omega
          have HCA := hide hcast
          have HLEN := hide hJ2.len
          have hd2 : m.dst < ((G1.tells k).nodes.length : Int) := by rw [hJ2.len]; omega
          have HE3 : Hid (m.ents.length < 4611686018427387904) := by show _ < _; have := hml.2.2.2; omega
          have HOKG := hide hJ2.ok
          have hn7 := hJ2.n7
          have hn1 := hJ2.n1
          have HEQ : Hid (G1.tells (k + 1) = Gp.told { G1.tells k with way := r } m) := tell1_cons hwy
          obtain ⟨no, nc, hnv⟩ := hG2.nodes.form
          have hgl : g < wr.heap.size := block_lt_of_cell v0
          have hneB : ¬ gb = wr.heap.size := by omega
          have HG2 := hide hG2
          have HS2 := hide hS2
          have HNV := hide hnv
          have HWV := hide hwv
          have HYL := hide hyl
          have HYR := hide hyr
          have HPB := hide hpb2
          have HAD := hide had
          have HQT := hide hqt
          have HWL := hide hwl
          have f1 := (unhide HG2).free 1
          clear hG2 hS2 hpb2 hJ2 hwy hq2 hml hcast hd1 hwv hyl hyr had hqt hnv hwl hcapq
          go_wp2
          -- the way without its first
          have hlr : (yr : List (Msg × Value)).length = r.length := by have h9 := unhide HYR; rw [← h9, List.length_map]
          have hcut : ∃ tgY, GM (wr.setCell ⟨gb, 1, none⟩ (.slice (some ad) r.length c9)) tgY gb { G1.tells k with way := yr.map Prod.fst } { x2 with wv := .slice (some ad) r.length c9, wl := yr } ∧ Stp (fun U => U.1 = 1) wr tg2 (wr.setCell ⟨gb, 1, none⟩ (.slice (some ad) r.length c9)) tgY := by
            refine (unhide HG2).setWay (w' := wr) ⟨rfl, rfl, rfl, Nat.le_refl _, fun _ _ _ => rfl⟩ ?_ (.inl ?_) (fun y hy => (unhide HG2).we y (by rw [unhide HYL]; exact List.mem_cons_of_mem _ hy))
            · have h9 := (unhide HG2).way
              rw [unhide HWV, unhide HWL] at h9
              have h8 := unhide HQT _ _ h9
              rw [unhide HYL, mC_cons] at h8
              have e9 : (mcells m (.slice eo m.ents.length ec) ++ mC yr).drop 9 = mC yr := by
                have h7 : (mcells m (.slice eo m.ents.length ec)).length = 9 := rfl
                rw [← h7, List.drop_left]
              rw [e9] at h8
              rw [hlr]
              exact h8
            · rw [unhide HWV]; show some ad.block = some g; rw [unhide HAD]
          obtain ⟨tgY, hGY, hSY⟩ := hcut
          rw [unhide HYR] at hGY
          have hszY : (wr.setCell ⟨gb, 1, none⟩ (.slice (some ad) r.length c9)).heap.size = wr.heap.size := by simp [World.setCell]
          have hSA := Stp.alloc (A := fun _ => False) (wr.setCell ⟨gb, 1, none⟩ (.slice (some ad) r.length c9)) tgY (.cells #[.int .i64 m.kind, .int .i64 m.src, .int .i64 m.dst, .int .i64 m.term, .int .i64 m.index, .int .i64 m.logTerm, .int .i64 m.commit, .slice eo m.ents.length ec, .bool m.granted] 50) (0, 1)
          have HGX := hide (hGY.quiet hSA)
          have hEY := owns_step (unhide HEN1).1 (unhide HEN1).2 hSY (by decide)
          have HEX := hide (owns_step hEY.1 hEY.2 hSA (fun h => h))
          have HMX : Hid (((wr.setCell ⟨gb, 1, none⟩ (.slice (some ad) r.length c9)).alloc (.cells #[.int .i64 m.kind, .int .i64 m.src, .int .i64 m.dst, .int .i64 m.term, .int .i64 m.index, .int .i64 m.logTerm, .int .i64 m.commit, .slice eo m.ents.length ec, .bool m.granted] 50)).heap[wr.heap.size]? = some (.cells #[.int .i64 m.kind, .int .i64 m.src, .int .i64 m.dst, .int .i64 m.term, .int .i64 m.index, .int .i64 m.logTerm, .int .i64 m.commit, .slice eo m.ents.length ec, .bool m.granted] 50 (0, 0))) := by
            have h9 := heap_alloc_new (wr.setCell ⟨gb, 1, none⟩ (.slice (some ad) r.length c9)) (.cells #[.int .i64 m.kind, .int .i64 m.src, .int .i64 m.dst, .int .i64 m.term, .int .i64 m.index, .int .i64 m.logTerm, .int .i64 m.commit, .slice eo m.ents.length ec, .bool m.granted] 50)
            rw [hszY] at h9; exact h9
          have HTX : Hid (newTag (wr.setCell ⟨gb, 1, none⟩ (.slice (some ad) r.length c9)).heap.size tgY (0, 1) wr.heap.size = (0, 1)) := newTag_new (Nat.le_of_eq hszY)
          have HSX := hide ((unhide HS2).trans ((hSY.mono (B := Agr) fun U hU => .inl hU).trans (hSA.mono (B := Agr) fun _ h => h.elim)))
          generalize newTag (wr.setCell ⟨gb, 1, none⟩ (.slice (some ad) r.length c9)).heap.size tgY (0, 1) = tgX at *
          have HWAYX : Hid (({ G1.tells k with way := r } : Gp).way.length ≤ 200) := by show r.length ≤ 200; omega
          clear hGY hSY hSA hEY hszY HG2 HS2 HEN1 v0 v1 v2 v3 v4 v5 v6 v7 v8 c1 c5 f1 sl1
          generalize (wr.setCell ⟨gb, 1, none⟩ (.slice (some ad) r.length c9)).alloc (.cells #[.int .i64 m.kind, .int .i64 m.src, .int .i64 m.dst, .int .i64 m.term, .int .i64 m.index, .int .i64 m.logTerm, .int .i64 m.commit, .slice eo m.ents.length ec, .bool m.granted] 50) = WX at *
          have hnj : ({ G1.tells k with way := r } : Gp).nodes[m.dst.toNat]? = some ((G1.tells k).node m.dst.toNat) := (unhide HND).1
          have HGX9 := unhide HGX
          have r0 := HGX9.c0v (show ({ x2 with wv := .slice (some ad) r.length c9, wl := yr } : GX).nv = _ from unhide HNV)
          obtain ⟨g9, hg9, r1, _⟩ := HGX9.at_ (i := m.dst.toNat) (show m.dst.toNat < ({ G1.tells k with way := r } : Gp).nodes.length from by show m.dst.toNat < (G1.tells k).nodes.length; have h9 := unhide HLEN; omega) (show ({ x2 with wv := .slice (some ad) r.length c9, wl := yr } : GX).nv = _ from unhide HNV)
          subst hg9
          have HTD := hide (gm_told (HGX9.quiet (Stp.drew1 _ _ _)) hnj (unhide HND).2.ok m eo ec (unhide HEX).1 (unhide HE3))
          have n0 : WX.cell? ⟨wr.heap.size, 0, none⟩ = some (.int .i64 m.kind) := cell_of_row WX _ 0 _ _ _ (unhide HMX)
          have n1 : WX.cell? ⟨wr.heap.size, 1, none⟩ = some (.int .i64 m.src) := cell_of_row WX _ 1 _ _ _ (unhide HMX)
          have n2 : WX.cell? ⟨wr.heap.size, 2, none⟩ = some (.int .i64 m.dst) := cell_of_row WX _ 2 _ _ _ (unhide HMX)
          have n3 : WX.cell? ⟨wr.heap.size, 3, none⟩ = some (.int .i64 m.term) := cell_of_row WX _ 3 _ _ _ (unhide HMX)
          have n4 : WX.cell? ⟨wr.heap.size, 4, none⟩ = some (.int .i64 m.index) := cell_of_row WX _ 4 _ _ _ (unhide HMX)
          have n5 : WX.cell? ⟨wr.heap.size, 5, none⟩ = some (.int .i64 m.logTerm) := cell_of_row WX _ 5 _ _ _ (unhide HMX)
          have n6 : WX.cell? ⟨wr.heap.size, 6, none⟩ = some (.int .i64 m.commit) := cell_of_row WX _ 6 _ _ _ (unhide HMX)
          have n7 : WX.cell? ⟨wr.heap.size, 7, none⟩ = some (.slice eo m.ents.length ec) := cell_of_row WX _ 7 _ _ _ (unhide HMX)
          have n8 : WX.cell? ⟨wr.heap.size, 8, none⟩ = some (.bool m.granted) := cell_of_row WX _ 8 _ _ _ (unhide HMX)
          clear HGX9 hnj
          go_region_law (first | (go_simp; go_at_call 21; go_must (refine (unhide HTD).mono ?_); rintro e w6 ⟨v6, rfl, l6, tg6, x6, hl6, hM6, hG6, hS6, hpb6⟩; replace hl6 := hide hl6; replace hM6 := hide hM6; replace hG6 := hide hG6; replace hS6 := hide hS6; replace hpb6 := hide hpb6))
          all_goals
            have hk6 := (unhide hS6).keep wr.heap.size (Array.getElem?_eq_some_iff.1 (unhide HMX)).1 (by rw [unhide HTX]; exact agr01)
            have q2 : w6.cell? ⟨wr.heap.size, 2, none⟩ = some (.int .i64 m.dst) := cell_of_row w6 _ 2 _ _ _ (hk6.1.trans (unhide HMX))
            have HSD6 : Hid (∀ y ∈ l6, Sendable n m.dst.toNat y.1) := fun y hy => unhide HSD _ (by rw [← unhide hl6]; exact List.mem_map_of_mem hy)
            have HFW6 : Hid (l6.length ≤ 1000) := by show _ ≤ _; have h9 := unhide HFW; rw [← unhide hl6, List.length_map, unhide HNN] at h9; omega
            have HSE6 := hide (sends_any gb m.dst.toNat _ x6 v6 l6 w6 tg6 (unhide hG6) (unhide hM6) (unhide HOKG) (by have h9 := unhide HLEN; show ∀ y ∈ l6, Sendable (List.set (G1.tells k).nodes _ _).length m.dst.toNat y.1; rw [List.length_set, h9]; exact unhide HSD6) (unhide HFW6) (unhide HWAYX))
            rw [unhide HCA] at HSE6
            clear hk6
            go_wp2_with (first | (go_at_call 35; go_must (refine (unhide HSE6).mono ?_); rintro e w7 ⟨rfl, tg7, x7, hG7, hS7, hpb7⟩; replace hG7 := hide hG7; replace hS7 := hide hS7; replace hpb7 := hide hpb7))
            go_roundw
            case rel =>
              refine ⟨k + 1, tg7, x7, by omega, by go_num, ?_, ((unhide HSX).trans ((Stp.drew1 Agr _ _).trans (unhide hS6))).trans ((unhide hS7).mono fun U hU => .inl hU), (unhide hpb7).trans ((unhide hpb6).trans (unhide HPB))⟩
              rw [unhide HEQ]
              have h9 := unhide hG7
              rw [unhide hl6] at h9
              exact h9
            case measure => simp [intOf]; omega

end Go.Proofs.Yteiecbkfganhnaa

namespace Go.Proofs.Yteiecbkfganhnaa
open Go.RowKit Go.MuLone

/-- A tick of node i and the telling, as the walks want them. -/
theorem turn_parts {gb n i : Nat} {G : Gp} {x : GX} {w : World} {tg : Tags} {E : Int} (h : GM w tg gb G x) (hj : J n G) (hi : i < n) (he : El G E) (hE : E < 4611686018427387904) :
    Calls Try.prog 20 #[ptr (x.pb i)] w fun e w' => ∃ v, e = .returned v ∧ ∃ tg1, Stp Agr w tg w' tg1 ∧ Calls Try.prog 16 #[ptr gb, .int .i64 (i : Int), v] w' fun e2 w2 => e2 = .returned (.tuple #[]) ∧ ∃ tg' x', GM w2 tg' gb (G.turn i) x' ∧ Stp Agr w' tg1 w2 tg' ∧ x'.pb = x.pb := by
  have hjt := hj.tick hi
  obtain ⟨gh, hj⟩ := hj
  obtain ⟨h1, h2⟩ := hj.node hi
  refine (gm_tick h h1 h2.ok (by have := he i _ h1; omega)).mono ?_
  rintro e w' ⟨v, rfl, l, tg1, x1, hl, hM, hG, hS, hpb⟩
  refine ⟨v, rfl, tg1, hS, ?_⟩
  have hfew := tick_few (G.node i)
  have hn7 := hj.n7
  have hsd := sendable_tick h2.fid h2.fn
  have heq : (G.put i (G.node i).tick.1).sends (l.map Prod.fst) = G.tick i := by rw [hl]; rfl
  have hT := tell_any gb i n (G.put i (G.node i).tick.1) x1 v l w' tg1 hG hM hj.ok (fun y hy => by
    show Sendable (List.set G.nodes i _).length i y.1
    rw [List.length_set, hj.len]
    exact hsd _ (by rw [← hl]; exact List.mem_map_of_mem hy)) (by rw [← hl, List.length_map, h2.fn] at hfew; omega) hj.way (by rw [heq]; exact hjt)
  refine hT.mono ?_
  rintro e2 w2 ⟨rfl, tg2, x2, hG2, hS2, hpb2⟩
  rw [heq] at hG2
  exact ⟨rfl, tg2, x2, hG2, hS2, hpb2.trans hpb⟩

set_option maxRecDepth 100000 in
set_option maxHeartbeats 1000000 in
theorem round_any (gb n : Nat) (G : Gp) (x : GX) (w : World) (tg : Tags) (E : Int) (h : GM w tg gb G x) (hj : J n G) (he : El G E) (hE : E + 10 < 4611686018427387904) :
    Calls Try.prog 12 #[ptr gb] w fun e w' => e = .returned (.tuple #[]) ∧ ∃ tg' x', GM w' tg' gb (G.roundTo n) x' ∧ Stp Agr w tg w' tg' ∧ x'.pb = x.pb := by
  have H := hide h
  have HJ := hide hj
  have HE := hide he
  have hn7 : n ≤ 7 := by obtain ⟨_, hj'⟩ := hj; exact hj'.n7
  clear h hj he
  go_enter Try.func12, Try.ntmps12
  go_wp2
  go_loopw [2] (fun u wr => ∃ (k : Nat) (tg' : Tags) (x' : GX), k ≤ n ∧ u = .int .i64 k ∧ GM wr tg' gb (G.roundTo k) x' ∧ Stp Agr w tg wr tg' ∧ x'.pb = x.pb) (fun u _ => n - (intOf u).toNat)
  case atStart => exact ⟨0, tg, x, Nat.zero_le _, rfl, unhide H, Stp.refl _ _ _, rfl⟩
  case round =>
    obtain ⟨k, tg1, x1, hk, rfl, hG1, hS1, hpb1⟩ := hrel
    have hJ1 := (unhide HJ).roundTo k hk
    have hE1 := El.roundTo (unhide HE) (unhide HJ) k hk
    have hlen : (G.roundTo k).nodes.length = n := by obtain ⟨_, hj'⟩ := hJ1; exact hj'.len
    obtain ⟨no, nc, hnv⟩ := hG1.nodes.form
    rw [hlen] at hnv
    have c0 := hG1.c0v hnv
    have hgb := hG1.lt
    by_cases hlt : k < n
    · have hki : (k : Int) < (n : Int) := by omega
      obtain ⟨g1, rfl, hat, _⟩ := hG1.at_ (i := k) (by rw [hlen]; exact hlt) (by rw [hlen]; exact hnv)
      have HT := hide (turn_parts hG1 hJ1 hlt hE1 (by omega))
      have HS1 := hide hS1
      have HPB := hide hpb1
      clear hG1 hJ1 hE1 hS1 hpb1 hnv hlen
      go_wp2_with (first | (go_at_call 20; go_must (refine (unhide HT).mono ?_); rintro e w2 ⟨v2, rfl, tg2, hS2, hT2⟩; replace hS2 := hide hS2; replace hT2 := hide hT2) | (go_at_call 16; go_must (refine (unhide hT2).mono ?_); rintro e w3 ⟨rfl, tg3, x3, hG3, hS3, hpb3⟩; replace hG3 := hide hG3; replace hS3 := hide hS3; replace hpb3 := hide hpb3))
      go_roundw
      case rel => exact ⟨k + 1, tg3, x3, by omega, by go_num, unhide hG3, ((unhide HS1).trans (unhide hS2)).trans (unhide hS3), (unhide hpb3).trans (unhide HPB)⟩
      case measure => simp [intOf]; omega
    · have hkn : k = n := by omega
      subst hkn
      have HG1 := hide hG1
      have HS1 := hide hS1
      have HPB := hide hpb1
      clear hG1 hS1 hpb1 hJ1 hE1 hnv hlen
      go_wp2
      go_end0
      exact ⟨rfl, tg1, x1, unhide HG1, unhide HS1, unhide HPB⟩

set_option maxRecDepth 100000 in
set_option maxHeartbeats 1000000 in
theorem head_any (gb n : Nat) (G : Gp) (x : GX) (w : World) (tg : Tags) (h : GM w tg gb G x) (hl : G.nodes.length = n) (hn7 : n ≤ 7) :
    Calls Try.prog 13 #[ptr gb] w fun e w' => e = .returned (.int .i64 (G.headTo n).1) ∧ Below w.heap.size w w' := by
  have H := hide h
  have HL := hide hl
  obtain ⟨no, nc, hnv⟩ := h.nodes.form
  rw [hl] at hnv
  have HNV := hide hnv
  have HG : Hid (∀ wr, Below w.heap.size w wr → GM wr (newTag w.heap.size tg (0, 1)) gb G x) := fun wr hb => (unhide H).below hb
  clear h hl hnv
  go_enter Try.func13, Try.ntmps13
  go_wp2
  go_loopw [3, 4, 5] (fun a t u wr => ∃ k : Nat, k ≤ n ∧ u = .int .i64 k ∧ a = .int .i64 (G.headTo k).1 ∧ t = .int .i64 (G.headTo k).2 ∧ Below w.heap.size w wr) (fun _ _ u _ => n - (intOf u).toNat)
  case atStart => exact ⟨0, Nat.zero_le _, rfl, rfl, rfl, Below.refl _ _⟩
  case round =>
    obtain ⟨k, hk, rfl, rfl, rfl, hb⟩ := hrel
    have h1 := unhide HG _ hb
    have c0 := h1.c0v (unhide HNV)
    have hgb := h1.lt
    by_cases hlt : k < n
    · have hki : (k : Int) < (n : Int) := by omega
      have hkl : k < G.nodes.length := by rw [unhide HL]; exact hlt
      obtain ⟨g1, hg1, hat, _⟩ := h1.at_ (i := k) hkl (by rw [unhide HL]; exact unhide HNV)
      subst hg1
      have hnode : G.nodes[k]? = some (G.node k) := by unfold Gp.node; rw [List.getElem?_eq_getElem hkl]; rfl
      have HST := hide (gm_status h1 hnode)
      have HB := hide hb
      have HH : Hid (G.headTo (k + 1) = if (G.node k).role = 3 ∧ (G.headTo k).2 < (G.node k).term then ((k : Int), (G.node k).term) else G.headTo k) := rfl
      obtain ⟨a, ha⟩ : ∃ a, (G.headTo k).1 = a := ⟨_, rfl⟩
      obtain ⟨t, ht⟩ : ∃ t, (G.headTo k).2 = t := ⟨_, rfl⟩
      rw [ha, ht]
      rw [ht] at HH
      have HA := hide ha
      have HT := hide ht
      obtain ⟨s, hs⟩ : ∃ s, G.node k = s := ⟨_, rfl⟩
      rw [hs] at HST HH
      clear h1 hb ha ht hs hnode
      have HBB : Hid (∀ w2 : World, Below wr.heap.size wr w2 → ∀ o, Below w.heap.size w (w2.alloc o)) := fun w2 h9 o => ((unhide HB).trans (h9.mono (unhide HB).size)).trans ((below_alloc w2 o).mono (Nat.le_trans (unhide HB).size h9.size))
      by_cases hr : s.role = 3
      · by_cases htt : t < s.term
        · have HR : Hid (G.headTo (k + 1) = ((k : Int), s.term)) := by show _ = _; rw [unhide HH, if_pos ⟨hr, htt⟩]
          rw [hr] at HST
          clear hr
          go_wp2_with (first | (go_at_call 10; go_must (refine (unhide HST).mono ?_); rintro e w2 ⟨rfl, hb2⟩; replace hb2 := hide hb2))
          go_roundw
          case rel => exact ⟨k + 1, by omega, by go_num, by rw [unhide HR], by rw [unhide HR], unhide HBB _ (unhide hb2) _⟩
          case measure => simp [intOf]; omega
        · have HR : Hid (G.headTo (k + 1) = G.headTo k) := by show _ = _; rw [unhide HH, if_neg (fun h9 => htt h9.2)]
          rw [hr] at HST
          clear hr
          go_wp2_with (first | (go_at_call 10; go_must (refine (unhide HST).mono ?_); rintro e w2 ⟨rfl, hb2⟩; replace hb2 := hide hb2))
          go_roundw
          case rel => exact ⟨k + 1, by omega, by go_num, by rw [unhide HR, unhide HA], by rw [unhide HR, unhide HT], unhide HBB _ (unhide hb2) _⟩
          case measure => simp [intOf]; omega
      · have HR : Hid (G.headTo (k + 1) = G.headTo k) := by show _ = _; rw [unhide HH, if_neg (fun h9 => hr h9.1)]
        have hrb : (s.role == 3) = false := by simpa using hr
        clear hr
        go_wp2_with (first | (go_at_call 10; go_must (refine (unhide HST).mono ?_); rintro e w2 ⟨rfl, hb2⟩; replace hb2 := hide hb2))
        go_roundw
        case rel => exact ⟨k + 1, by omega, by go_num, by rw [unhide HR, unhide HA], by rw [unhide HR, unhide HT], unhide HBB _ (unhide hb2) _⟩
        case measure => simp [intOf]; omega
    · have hkn : k = n := by omega
      subst hkn
      have HB := hide hb
      clear hb h1
      go_wp2
      go_ret
      exact ⟨rfl, unhide HB⟩

end Go.Proofs.Yteiecbkfganhnaa

namespace Go.Proofs.Yteiecbkfganhnaa
open Go.RowKit Go.MuLone

theorem below_of_stp {w w' : World} {tg' : Tags} (h : Stp Agr w (fun _ => (0, 0)) w' tg') : Below w.heap.size w w' :=
  ⟨h.os, h.tape, h.output, h.size, fun k hk => (h.keep k hk agr00).1⟩

set_option maxRecDepth 100000 in
set_option maxHeartbeats 2000000 in
theorem steps_any (a p : Int) (hears : Bool) (w : World) (a0 : -9223372036854775808 ≤ a) (a1 : a ≤ 9223372036854775807) (p0 : -9223372036854775808 ≤ p) (p1 : p ≤ 9223372036854775807) (hgood : ∀ n, 2 ≤ n → n ≤ 7 → ∃ i, StepsGood n i) :
    Calls Try.prog 6 #[.int .i64 a, .int .i64 p, .bool hears] w fun e w' => e = .returned (.bool true) ∧ Below w.heap.size w w' := by
  have hq0 := pickZ_lo a 6 (by decide)
  have hq1 := pickZ_hi a 6 (by decide)
  obtain ⟨q, hq⟩ : ∃ q : Nat, pickZ a 6 = (q : Int) := ⟨(pickZ a 6).toNat, by omega⟩
  have HPA : Hid (∀ V : World, Calls Try.prog 9 #[.int .i64 a, .int .i64 6] V fun e w' => e = .returned (.int .i64 (q : Int)) ∧ w' = V) := fun V => by rw [← hq]; exact pick_any a _ V a0 a1 (by decide) (by decide)
  have hr0 := pickZ_lo p 40 (by decide)
  have hr1 := pickZ_hi p 40 (by decide)
  obtain ⟨r, hr⟩ : ∃ r : Nat, pickZ p 40 = (r : Int) := ⟨(pickZ p 40).toNat, by omega⟩
  have HPP : Hid (∀ V : World, Calls Try.prog 9 #[.int .i64 p, .int .i64 40] V fun e w' => e = .returned (.int .i64 (r : Int)) ∧ w' = V) := fun V => by rw [← hr]; exact pick_any p _ V p0 p1 (by decide) (by decide)
  have hq6 : q < 6 := by omega
  have hr40 : r < 40 := by omega
  obtain ⟨n, hn⟩ : ∃ n, n = 2 + q := ⟨_, rfl⟩
  have hnI : (2 + (q : Int)) = (n : Int) := by omega
  have hn2 : 2 ≤ n := by omega
  have hn7 : n ≤ 7 := by omega
  obtain ⟨i, hgd⟩ := hgood n hn2 hn7
  have HGD := hide hgd
  have HNI := hide hnI
  have HJ0 := hide (J.first (n := n) (by omega) hn7)
  clear hgood hgd hq hr hq0 hq1 hr0 hr1 hn hnI
  go_enter Try.func6, Try.ntmps6
  go_wp2_with (first | (go_at_call_of 9 a; refine (unhide HPA _).mono ?_; rintro e wp ⟨rfl, qp⟩; cases qp.symm) | (go_at_call 19; rw [unhide HNI]; go_must (refine (begun_any n w (fun _ => (0, 0)) (by omega) hn7).mono ?_); rintro e w1 ⟨gb, tg1, x1, rfl, hG1, hS1⟩; replace hG1 := hide hG1; replace hS1 := hide hS1))
  go_loopw [9] (fun u wr => ∃ (k : Nat) (tg' : Tags) (x' : GX), k ≤ n ∧ u = .int .i64 k ∧ GM wr tg' gb ((Gp.first n).patTo k) x' ∧ Stp Agr w (fun _ => (0, 0)) wr tg') (fun u _ => n - (intOf u).toNat)
  case atStart => exact ⟨0, tg1, x1, Nat.zero_le _, rfl, unhide hG1, unhide hS1⟩
  case round =>
    obtain ⟨k, tg2, x2, hk, rfl, hG2, hS2⟩ := hrel
    have hJ2 := (unhide HJ0).patTo k hk hn7
    obtain ⟨gh2, hJ2⟩ := hJ2
    have HG2 := hide hG2
    have HS2 := hide hS2
    by_cases hlt : k < n
    · have hki : (k : Int) < (n : Int) := by omega
      obtain ⟨no, nc, hnv⟩ := hG2.nodes.form
      rw [hJ2.len] at hnv
      have c0 := hG2.c0v hnv
      have hgb := hG2.lt
      obtain ⟨g1, rfl, hat, _⟩ := hG2.at_ (i := k) (by rw [hJ2.len]; exact hlt) (by rw [hJ2.len]; exact hnv)
      have HPT := hide (gm_patience hG2 (hJ2.node hlt).1 (4 + 5 * (k : Int)) (by omega) (by omega))
      clear hG2 hS2 hJ2 hnv hG1 hS1
      go_wp2_with (first | (go_at_call 11; go_must (refine (unhide HPT).mono ?_); rintro e w3 ⟨rfl, tg3, x3, hG3, hS3, hpb3⟩; replace hG3 := hide hG3; replace hS3 := hide hS3; clear hpb3))
      go_roundw
      case rel => exact ⟨k + 1, tg3, x3, by omega, by go_num, unhide hG3, (unhide HS2).trans (unhide hS3)⟩
      case measure => simp [intOf]; omega
    · have hkn : k = n := by omega
      subst hkn
      clear hG2 hS2 hJ2 hG1 hS1
      go_wp2
      go_loopw [10] (fun u wr => ∃ (j : Nat) (tg' : Tags) (x' : GX), j ≤ 10 ∧ u = .int .i64 j ∧ GM wr tg' gb (Gp.start k j) x' ∧ Stp Agr w (fun _ => (0, 0)) wr tg') (fun u _ => 10 - (intOf u).toNat)
      case atStart => exact ⟨0, tg2, x2, Nat.zero_le _, rfl, unhide HG2, unhide HS2⟩
      case round =>
        obtain ⟨j, tg4, x4, hj, rfl, hG4, hS4⟩ := hrel
        have hJ4 := J.start (n := k) (by omega) hn7 j
        have hE4 : El (Gp.start k j) (0 + 7 * (j : Int)) := El.rounds (El.patTo (El.zero k) (unhide HJ0) k (Nat.le_refl _) hn7) ((unhide HJ0).patTo k (Nat.le_refl _) hn7) hn7 j
        have HG4 := hide hG4
        have HS4 := hide hS4
        by_cases hjl : j < 10
        · have hji : (j : Int) < 10 := by omega
          have HRO := hide (round_any gb k (Gp.start k j) x4 wr tg4 _ hG4 hJ4 hE4 (by omega))
          clear hG4 hS4 hJ4 hE4
          go_wp2_with (first | (go_at_call 12; go_must (refine (unhide HRO).mono ?_); rintro e w5 ⟨rfl, tg5, x5, hG5, hS5, hpb5⟩; replace hG5 := hide hG5; replace hS5 := hide hS5; clear hpb5))
          go_roundw
          case rel => exact ⟨j + 1, tg5, x5, by omega, by go_num, unhide hG5, (unhide HS4).trans (unhide hS5)⟩
          case measure => simp [intOf]; omega
        · have hj10 : j = 10 := by omega
          subst hj10
          obtain ⟨gh4, hJ4'⟩ := hJ4
          have hHD := head_any gb k (Gp.start k 10) x4 wr tg4 hG4 hJ4'.len hn7
          rw [(unhide HGD).hd] at hHD
          have HHD := hide hHD
          have hik := (unhide HGD).lt
          have hi0 : (0 : Int) ≤ (i : Int) := by omega
          have hii : (i : Int) < (k : Int) := by omega
          obtain ⟨no, nc, hnv⟩ := hG4.nodes.form
          rw [hJ4'.len] at hnv
          obtain ⟨g1, rfl, hat, _⟩ := hG4.at_ (i := i) (by rw [hJ4'.len]; exact hik) (by rw [hJ4'.len]; exact hnv)
          have HNV := hide hnv
          have HJ4 := hide hJ4'
          have HNO := hide (hJ4'.node hik)
          have HE4 := hide hE4
          clear hG4 hS4 hJ4' hE4 hnv hHD HG2 HS2
          go_wp2_with (first | (go_at_call 13; go_must (refine (unhide HHD).mono ?_); rintro e w6 ⟨rfl, hb6⟩; have hG6 := hide ((unhide HG4).below hb6); have hS6 := hide ((unhide HS4).trans (stp_below tg4 hb6)); have d0 := (unhide hG6).c0v (unhide HNV); have d5 := (unhide hG6).c5t (unhide HJ4).ok; have hgb6 := (unhide hG6).lt; have d1 := (hb6.cell (block_lt_of_cell hat)).trans hat; clear hb6) | (go_at_call_of 9 p; refine (unhide HPP _).mono ?_; rintro e wp ⟨rfl, qp⟩; cases qp.symm) | (go_at_call 11; fail))
          refine (gm_patience (unhide hG6) (unhide HNO).1 (1 + (r : Int)) (by omega) (by omega)).mono ?_
          rintro e w7 ⟨rfl, tg7, x7, hG7, hS7, hpb7⟩
          have HS7 := hide ((unhide hS6).trans hS7)
          have HJP : Hid (J k ((Gp.start k 10).patience i (1 + (r : Int)))) := ⟨gh4, (unhide HJ4).patience hik (by omega) (by omega)⟩
          have hel : ((Gp.start k 10).node i).elapsed ≤ 0 + 7 * ((10 : Nat) : Int) := (unhide HE4) i _ (unhide HNO).1
          have HEP : Hid (El ((Gp.start k 10).patience i (1 + (r : Int))) (0 + 7 * ((10 : Nat) : Int))) := (unhide HE4).put (s := ({ (Gp.start k 10).node i with pat := 1 + (r : Int) } : Nd)) hel
          clear hel
          have HCAST : Hid (((1 + r : Nat) : Int) = 1 + (r : Int)) := by show _ = _; omega
          have hG7' : GM w7 tg7 gb ((Gp.start k 10).patience i (1 + (r : Int))) x7 := hG7
          obtain ⟨GP, hGP⟩ : ∃ GP, (Gp.start k 10).patience i (1 + (r : Int)) = GP := ⟨_, rfl⟩
          rw [hGP] at HJP HEP hG7'
          have HGP := hide hGP
          obtain ⟨P, hP⟩ : ∃ P, x4.pb = P := ⟨_, rfl⟩
          rw [hP] at hpb7 ⊢
          clear hG7 hS7 hG6 hS6 d0 d1 d5 hgb6 hat HHD hGP hP HG4 HS4
          replace hG7' := hide hG7'
          have hG7 := hG7'
          clear hG7'
          replace hpb7 := hide hpb7
          cases hears with
          | true =>
            go_wp2
            go_loopw [14] (fun u wr => ∃ (c : Nat) (tg' : Tags) (x' : GX), c ≤ 2 * (1 + r) + 40 ∧ u = .int .i64 c ∧ GM wr tg' gb (GP.turns i c) x' ∧ Stp Agr w (fun _ => (0, 0)) wr tg' ∧ x'.pb = P) (fun u _ => 2 * (1 + r) + 40 - (intOf u).toNat)
            case atStart => exact ⟨0, tg7, x7, Nat.zero_le _, rfl, unhide hG7, unhide HS7, unhide hpb7⟩
            case round =>
              obtain ⟨c, tg8, x8, hc, rfl, hG8, hS8, hpb8⟩ := hrel
              have hJ8 := (unhide HJP).turns (i := i) hik c
              have hE8 := El.turns (unhide HEP) (unhide HJP) (i := i) hik c
              have HS8 := hide hS8
              have HPB8 := hide hpb8
              by_cases hcl : c < 2 * (1 + r) + 40
              · have hci : (c : Int) < 2 * (1 + (r : Int)) + 40 := by omega
                have HT := hide (turn_parts hG8 hJ8 hik hE8 (by omega))
                rw [hpb8] at HT
                clear hG8 hS8 hpb8 hJ8 hE8
                go_wp2_with (first | (go_at_call 20; go_must (refine (unhide HT).mono ?_); rintro e w9 ⟨v9, rfl, tg9, hS9, hT9⟩; replace hS9 := hide hS9; replace hT9 := hide hT9) | (go_at_call 16; go_must (refine (unhide hT9).mono ?_); rintro e w10 ⟨rfl, tg10, x10, hG10, hS10, hpb10⟩; replace hG10 := hide hG10; replace hS10 := hide hS10; replace hpb10 := hide hpb10))
                go_roundw
                case rel => exact ⟨c + 1, tg10, x10, by omega, by go_num, unhide hG10, ((unhide HS8).trans (unhide hS9)).trans (unhide hS10), unhide hpb10⟩
                case measure => simp [intOf]; omega
              · have hce : c = 2 * (1 + r) + 40 := by omega
                have hci : ¬ (c : Int) < 2 * (1 + (r : Int)) + 40 := by omega
                obtain ⟨gh8, hJ8'⟩ := hJ8
                have hn8 := hJ8'.node hik
                have HST := hide (gm_status hG8 hn8.1)
                rw [hpb8] at HST
                have HFI := hide ((unhide HGD).yes (1 + r) (by omega) (by omega))
                have HCE := hide hce
                rw [unhide HCAST, unhide HGP, ← unhide HCE] at HFI
                rw [unhide HFI] at HST
                have c5 := hG8.c5t hJ8'.ok
                have hgb8 := hG8.lt
                have HG8 := hide hG8
                have HOK8 := hide hJ8'.ok
                clear hG8 hS8 hpb8 hJ8' hE8 hn8 hce
                go_wp2_with (first | (go_at_call 10; go_must (refine (unhide HST).mono ?_); rintro e w9 ⟨rfl, hb9⟩; have k5 := ((unhide HG8).below hb9).c5t (unhide HOK8); have hk8 := ((unhide HG8).below hb9).lt; have hS9 := hide ((unhide HS8).trans (stp_below tg8 hb9)); clear hb9))
                go_ret
                exact ⟨rfl, below_of_stp ((unhide hS9).trans (Stp.alloc (A := Agr) _ _ _ (0, 1)))⟩
          | false =>
            go_wp2
            go_loopw [14] (fun u wr => ∃ (c : Nat) (tg' : Tags) (x' : GX), c ≤ 2 * (1 + r) + 40 ∧ u = .int .i64 c ∧ GM wr tg' gb (GP.solo i c) x' ∧ Stp Agr w (fun _ => (0, 0)) wr tg' ∧ x'.pb = P) (fun u _ => 2 * (1 + r) + 40 - (intOf u).toNat)
            case atStart => exact ⟨0, tg7, x7, Nat.zero_le _, rfl, unhide hG7, unhide HS7, unhide hpb7⟩
            case round =>
              obtain ⟨c, tg8, x8, hc, rfl, hG8, hS8, hpb8⟩ := hrel
              have hJ8 := (unhide HJP).solo (i := i) hik c
              have hE8 := El.solo (unhide HEP) (unhide HJP) (i := i) hik c
              have HS8 := hide hS8
              have HPB8 := hide hpb8
              by_cases hcl : c < 2 * (1 + r) + 40
              · have hci : (c : Int) < 2 * (1 + (r : Int)) + 40 := by omega
                obtain ⟨gh8, hJ8'⟩ := hJ8
                have hn8 := hJ8'.node hik
                have HT := hide (gm_tick hG8 hn8.1 hn8.2.ok (by have := hE8 i _ hn8.1; omega))
                rw [hpb8] at HT
                clear hG8 hS8 hpb8 hJ8' hE8 hn8
                go_wp2_with (first | (go_at_call 20; go_must (refine (unhide HT).mono ?_); rintro e w9 ⟨v9, rfl, l9, tg9, x9, hl9, hM9, hG9, hS9, hpb9⟩; replace hG9 := hide hG9; replace hS9 := hide hS9; replace hpb9 := hide hpb9; clear hl9 hM9))
                go_roundw
                case rel => exact ⟨c + 1, tg9, x9, by omega, by go_num, unhide hG9, (unhide HS8).trans (unhide hS9), unhide hpb9⟩
                case measure => simp [intOf]; omega
              · have hce : c = 2 * (1 + r) + 40 := by omega
                have hci : ¬ (c : Int) < 2 * (1 + (r : Int)) + 40 := by omega
                obtain ⟨gh8, hJ8'⟩ := hJ8
                have hn8 := hJ8'.node hik
                have HST := hide (gm_status hG8 hn8.1)
                rw [hpb8] at HST
                have HFI := hide ((unhide HGD).no (1 + r) (by omega) (by omega))
                have HCE := hide hce
                rw [unhide HCAST, unhide HGP, ← unhide HCE] at HFI
                obtain ⟨hf1, hf2⟩ := unhide HFI
                have hrb : (((GP.solo i c).node i).role != 3) = true := by simpa using hf1
                rw [hf2] at HST
                clear hf1 hf2 HFI
                generalize ((GP.solo i c).node i).role = ro at *
                clear hG8 hS8 hpb8 hJ8' hE8 hn8 hce
                go_wp2_with (first | (go_at_call 10; go_must (refine (unhide HST).mono ?_); rintro e w9 ⟨rfl, hb9⟩; have hS9 := hide ((unhide HS8).trans (stp_below tg8 hb9)); clear hb9))
                go_ret
                exact ⟨rfl, below_of_stp ((unhide hS9).trans (Stp.alloc (A := Agr) _ _ _ (0, 1)))⟩

end Go.Proofs.Yteiecbkfganhnaa

namespace Go.Proofs.Yteiecbkfganhnaa
open Go.RowKit Go.MuLone

theorem step_ask_same {s : Nd} {m : Msg} (h : m.kind = 0) : (s.step m).1 = s := by
  unfold Nd.step
  by_cases hs : soundM m s.id s.n = true
  · rw [if_pos hs, if_pos h]
    unfold Nd.stepAsk
    by_cases h1 : s.term < m.term ∧ s.asGood m = true ∧ s.knows = false
    · rw [if_pos h1]
    · rw [if_neg h1]
      by_cases h2 : s.term = 0
      · rw [if_pos h2]
      · rw [if_neg h2]
  · rw [if_neg hs]

theorem put_same {g : Gp} {i : Nat} {s : Nd} (h : g.nodes[i]? = some s) : g.put i s = g := by
  have h1 : g.nodes.set i s = g.nodes := by
    refine List.ext_getElem? fun j => ?_
    by_cases hj : i = j
    · subst hj
      rw [List.getElem?_set_self (List.getElem?_eq_some_iff.1 h).1, h]
    · rw [List.getElem?_set_ne hj]
  show ({ g with nodes := g.nodes.set i s } : Gp) = g
  rw [h1]

/-- Nothing is written down of terms and of what is known. -/
def Bare (g : Gp) : Prop := g.terms = [] ∧ g.known = []
theorem Bare.tell1 {g : Gp} (h : Bare g) : Bare g.tell1 := by
  unfold Gp.tell1
  split
  · exact h
  · exact h
theorem Bare.tells {g : Gp} (h : Bare g) (k : Nat) : Bare (g.tells k) := by
  induction k with
  | zero => exact h
  | succ k ih => exact ih.tell1
theorem Bare.turn {g : Gp} (h : Bare g) (i : Nat) : Bare (g.turn i) := Bare.tells (g := g.tick i) h 3000
theorem Bare.roundTo {g : Gp} (h : Bare g) (k : Nat) : Bare (g.roundTo k) := by
  induction k with
  | zero => exact h
  | succ k ih => exact ih.turn k
theorem Bare.rounds {g : Gp} (h : Bare g) (n k : Nat) : Bare (g.rounds n k) := by
  induction k with
  | zero => exact h
  | succ k ih => exact ih.roundTo n
theorem Bare.patTo {g : Gp} (h : Bare g) (k : Nat) : Bare (g.patTo k) := by
  induction k with
  | zero => exact h
  | succ k ih => exact ih
theorem Bare.solo {g : Gp} (h : Bare g) (i k : Nat) : Bare (g.solo i k) := by
  induction k with
  | zero => exact h
  | succ k ih => exact ih
theorem Bare.start (n k : Nat) : Bare (Gp.start n k) := Bare.rounds (Bare.patTo (g := Gp.first n) ⟨rfl, rfl⟩ n) n k
theorem Bare.tb {g : Gp} (h : Bare g) : TB g := ⟨by rw [h.1]; exact List.nodup_nil, fun t ht => (by rw [h.1] at ht; cases ht), by rw [h.2]; exact Nat.zero_le _⟩

/-- A block of one's own lies there. -/
def Lies (w : World) (tg : Tags) (b : Nat) (o : Obj) : Prop := w.heap[b]? = some o ∧ tg b = (0, 1)
theorem Lies.step {w w' : World} {tg tg' : Tags} {b : Nat} {o : Obj} {A : Nat × Nat → Prop} (h : Lies w tg b o) (hs : Stp A w tg w' tg') (hA : ¬ A (0, 1)) : Lies w' tg' b o := by
  have h1 := hs.keep b (Array.getElem?_eq_some_iff.1 h.1).1 (by rw [h.2]; exact hA)
  exact ⟨h1.1.trans h.1, h1.2.trans h.2⟩

theorem gm_local {w w' w0 : World} {tg tg0 : Tags} {gb : Nat} {G : Gp} {x : GX} (h : GM w tg gb G x) (hs : Stp Agr w0 tg0 w tg) (hb : Below w.heap.size w w') (o : Obj) :
    ∃ tg', GM (w'.alloc o) tg' gb G x ∧ Stp Agr w0 tg0 (w'.alloc o) tg' ∧ (w'.alloc o).heap[w'.heap.size]? = some o ∧ tg' w'.heap.size = (0, 1) ∧ Stp (fun _ => False) w tg (w'.alloc o) tg' := by
  have h1 : Stp (fun _ => False) w tg (w'.alloc o) (newTag w'.heap.size (newTag w.heap.size tg (0, 1)) (0, 1)) := (stp_below tg hb).trans (Stp.alloc _ _ o (0, 1))
  exact ⟨_, h.quiet h1, hs.trans (h1.mono (B := Agr) fun _ h => h.elim), heap_alloc_new w' o, newTag_new (Nat.le_refl _), h1⟩

set_option maxRecDepth 100000 in
set_option maxHeartbeats 8000000 in
theorem quiet_any (a b p : Int) (w : World) (a0 : -9223372036854775808 ≤ a) (a1 : a ≤ 9223372036854775807) (b0 : -9223372036854775808 ≤ b) (b1 : b ≤ 9223372036854775807) (p0 : -9223372036854775808 ≤ p) (p1 : p ≤ 9223372036854775807) :
    Calls Try.prog 5 #[.int .i64 a, .int .i64 b, .int .i64 p] w fun e w' => e = .returned (.bool true) ∧ Below w.heap.size w w' := by
  have hq0 := pickZ_lo a 5 (by decide)
  have hq1 := pickZ_hi a 5 (by decide)
  obtain ⟨q, hq⟩ : ∃ q : Nat, pickZ a 5 = (q : Int) := ⟨(pickZ a 5).toNat, by omega⟩
  have HPA : Hid (∀ V : World, Calls Try.prog 9 #[.int .i64 a, .int .i64 5] V fun e w' => e = .returned (.int .i64 (q : Int)) ∧ w' = V) := fun V => by rw [← hq]; exact pick_any a _ V a0 a1 (by decide) (by decide)
  have hr0 := pickZ_lo p 100 (by decide)
  have hr1 := pickZ_hi p 100 (by decide)
  obtain ⟨r, hr⟩ : ∃ r : Nat, pickZ p 100 = (r : Int) := ⟨(pickZ p 100).toNat, by omega⟩
  have HPP : Hid (∀ V : World, Calls Try.prog 9 #[.int .i64 p, .int .i64 100] V fun e w' => e = .returned (.int .i64 (r : Int)) ∧ w' = V) := fun V => by rw [← hr]; exact pick_any p _ V p0 p1 (by decide) (by decide)
  have hq6 : q < 5 := by omega
  have hr40 : r < 100 := by omega
  obtain ⟨n, hn⟩ : ∃ n, n = 3 + q := ⟨_, rfl⟩
  have hnI : (3 + (q : Int)) = (n : Int) := by omega
  have hn3 : 3 ≤ n := by omega
  have hn7 : n ≤ 7 := by omega
  have hgd := quiet_all n hn3 hn7
  have HGD := hide hgd
  have HNI := hide hnI
  have HJ0 := hide (J.first (n := n) (by omega) hn7)
  clear hgd hq hr hq0 hq1 hr0 hr1 hn hnI
  go_enter Try.func5, Try.ntmps5
  go_wp2_with (first | (go_at_call_of 9 a; refine (unhide HPA _).mono ?_; rintro e wp ⟨rfl, qp⟩; cases qp.symm) | (go_at_call 19; rw [unhide HNI]; go_must (refine (begun_any n w (fun _ => (0, 0)) (by omega) hn7).mono ?_); rintro e w1 ⟨gb, tg1, x1, rfl, hG1, hS1⟩; replace hG1 := hide hG1; replace hS1 := hide hS1))
  go_loopw [9] (fun u wr => ∃ (k : Nat) (tg' : Tags) (x' : GX), k ≤ n ∧ u = .int .i64 k ∧ GM wr tg' gb ((Gp.first n).patTo k) x' ∧ Stp Agr w (fun _ => (0, 0)) wr tg') (fun u _ => n - (intOf u).toNat)
  case atStart => exact ⟨0, tg1, x1, Nat.zero_le _, rfl, unhide hG1, unhide hS1⟩
  case round =>
    obtain ⟨k, tg2, x2, hk, rfl, hG2, hS2⟩ := hrel
    have hJ2 := (unhide HJ0).patTo k hk hn7
    obtain ⟨gh2, hJ2⟩ := hJ2
    have HG2 := hide hG2
    have HS2 := hide hS2
    by_cases hlt : k < n
    · have hki : (k : Int) < (n : Int) := by omega
      obtain ⟨no, nc, hnv⟩ := hG2.nodes.form
      rw [hJ2.len] at hnv
      have c0 := hG2.c0v hnv
      have hgb := hG2.lt
      obtain ⟨g1, rfl, hat, _⟩ := hG2.at_ (i := k) (by rw [hJ2.len]; exact hlt) (by rw [hJ2.len]; exact hnv)
      have HPT := hide (gm_patience hG2 (hJ2.node hlt).1 (4 + 5 * (k : Int)) (by omega) (by omega))
      clear hG2 hS2 hJ2 hnv hG1 hS1
      go_wp2_with (first | (go_at_call 11; go_must (refine (unhide HPT).mono ?_); rintro e w3 ⟨rfl, tg3, x3, hG3, hS3, hpb3⟩; replace hG3 := hide hG3; replace hS3 := hide hS3; clear hpb3))
      go_roundw
      case rel => exact ⟨k + 1, tg3, x3, by omega, by go_num, unhide hG3, (unhide HS2).trans (unhide hS3)⟩
      case measure => simp [intOf]; omega
    · have hkn : k = n := by omega
      subst hkn
      clear hG2 hS2 hJ2 hG1 hS1
      go_wp2
      go_loopw [10] (fun u wr => ∃ (j : Nat) (tg' : Tags) (x' : GX), j ≤ 40 ∧ u = .int .i64 j ∧ GM wr tg' gb (Gp.start k j) x' ∧ Stp Agr w (fun _ => (0, 0)) wr tg') (fun u _ => 40 - (intOf u).toNat)
      case atStart => exact ⟨0, tg2, x2, Nat.zero_le _, rfl, unhide HG2, unhide HS2⟩
      case round =>
        obtain ⟨j, tg4, x4, hj, rfl, hG4, hS4⟩ := hrel
        have hJ4 := J.start (n := k) (by omega) hn7 j
        have hE4 : El (Gp.start k j) (0 + 7 * (j : Int)) := El.rounds (El.patTo (El.zero k) (unhide HJ0) k (Nat.le_refl _) hn7) ((unhide HJ0).patTo k (Nat.le_refl _) hn7) hn7 j
        have HG4 := hide hG4
        have HS4 := hide hS4
        by_cases hjl : j < 40
        · have hji : (j : Int) < 40 := by omega
          have HRO := hide (round_any gb k (Gp.start k j) x4 wr tg4 _ hG4 hJ4 hE4 (by omega))
          clear hG4 hS4 hJ4 hE4
          go_wp2_with (first | (go_at_call 12; go_must (refine (unhide HRO).mono ?_); rintro e w5 ⟨rfl, tg5, x5, hG5, hS5, hpb5⟩; replace hG5 := hide hG5; replace hS5 := hide hS5; clear hpb5))
          go_roundw
          case rel => exact ⟨j + 1, tg5, x5, by omega, by go_num, unhide hG5, (unhide HS4).trans (unhide hS5)⟩
          case measure => simp [intOf]; omega
        · have hj10 : j = 40 := by omega
          subst hj10
          obtain ⟨gh4, hJ4'⟩ := hJ4
          have hHD := head_any gb k (Gp.start k 40) x4 wr tg4 hG4 hJ4'.len hn7
          rw [(unhide HGD).hd] at hHD
          have HHD := hide hHD
          obtain ⟨no, nc, hnv⟩ := hG4.nodes.form
          rw [hJ4'.len] at hnv
          obtain ⟨g1, rfl, hat, _⟩ := hG4.at_ (i := 0) (by rw [hJ4'.len]; omega) (by rw [hJ4'.len]; exact hnv)
          have HNV := hide hnv
          have HJ4 := hide hJ4'
          have HNO := hide (hJ4'.node (i := 0) (by omega))
          have HE4 := hide hE4
          clear hG4 hS4 hJ4' hE4 hnv hHD HG2 HS2
          obtain ⟨P, hP⟩ : ∃ P, x4.pb = P := ⟨_, rfl⟩
          go_wp2_with (first | (go_at_call 13; go_must (refine (unhide HHD).mono ?_); rintro e w6 ⟨rfl, hb6⟩; have hG6 := hide ((unhide HG4).below hb6); have hS6 := hide ((unhide HS4).trans (stp_below tg4 hb6)); have d0 := (unhide hG6).c0v (unhide HNV); have d5 := (unhide hG6).c5t (unhide HJ4).ok; have hgb6 := (unhide hG6).lt; have d1 := (hb6.cell (block_lt_of_cell hat)).trans hat; clear hb6) | (go_at_call 10; fail))
          obtain ⟨S, hS⟩ : ∃ S, (Gp.start k 40).node 0 = S := ⟨_, rfl⟩
          have HSS := hide hS
          have HNO1 := (unhide HNO).1
          rw [hS] at HNO1
          have HST := gm_status (unhide hG6) HNO1
          have HCS : Hid ((S.last : Int) = (S.log.length : Int)) := rfl
          rw [unhide HCS] at HST
          rw [hP] at HST

          refine HST.mono ?_
          rintro e w7 ⟨rfl, hb7⟩
          have hG7 := hide ((unhide hG6).below hb7)
          have hS7 := hide ((unhide hS6).trans (stp_below _ hb7))
          clear hS HST hb7 hG6 hS6 d0 d1 d5 hgb6 HNO1 HHD
          obtain ⟨v, hv⟩ : ∃ v : Nat, pickZ b k = (v : Int) := ⟨(pickZ b k).toNat, by have := pickZ_lo b k (by omega); omega⟩
          have hvk : v < k := by have := pickZ_hi b k (by omega); omega
          have HPB : Hid (∀ V : World, Calls Try.prog 9 #[.int .i64 b, .int .i64 (k : Int)] V fun e w' => e = .returned (.int .i64 (v : Int)) ∧ w' = V) := fun V => by rw [← hv]; exact pick_any b _ V b0 b1 (by omega) (by omega)
          clear hv
          go_wp2_with (first | (go_at_call_of 9 b; fail))
          have hGA := (unhide hG7).quiet (Stp.alloc (A := fun _ => False) w7 _ (.cells #[.int .i64 S.role, .int .i64 S.term, .int .i64 S.leads, .int .i64 (S.commit : Int), .int .i64 (S.log.length : Int)] 35) (0, 1))
          have hSA := (unhide hS7).trans (Stp.alloc (A := Agr) w7 _ (.cells #[.int .i64 S.role, .int .i64 S.term, .int .i64 S.leads, .int .i64 (S.commit : Int), .int .i64 (S.log.length : Int)] 35) (0, 1))
          have hBA := heap_alloc_new w7 (.cells #[.int .i64 S.role, .int .i64 S.term, .int .i64 S.leads, .int .i64 (S.commit : Int), .int .i64 (S.log.length : Int)] 35)
          have hTA : ∀ tg : Tags, newTag w7.heap.size tg (0, 1) w7.heap.size = (0, 1) := fun tg => newTag_new (Nat.le_refl _)
          obtain ⟨tgA, hGB, hSB, hTB⟩ : ∃ tgA, GM _ tgA gb (Gp.start k 40) x4 ∧ Stp Agr w (fun _ => (0, 0)) _ tgA ∧ tgA w7.heap.size = (0, 1) := ⟨_, hGA, hSA, hTA _⟩
          clear hGA hSA hTA
          generalize w7.alloc (.cells #[.int .i64 S.role, .int .i64 S.term, .int .i64 S.leads, .int .i64 (S.commit : Int), .int .i64 (S.log.length : Int)] 35) = WA at *
          generalize w7.heap.size = B0 at *
          refine (unhide HPB WA).mono ?_
          rintro e wp ⟨rfl, qp9⟩
          cases qp9.symm
          clear hG7 hS7
          have HGA := hide hGB
          have HSA := hide hSB
          have HBA := hide hBA
          have HTA := hide hTB
          clear hGB hSB hBA hTB
          have hcase : ∃ i : Nat, i < k ∧ i ≠ 0 ∧ ((v = 0 ∧ i = 1) ∨ (v ≠ 0 ∧ i = v)) := by
            by_cases hz : v = 0
            · exact ⟨1, by omega, by omega, .inl ⟨hz, rfl⟩⟩
            · exact ⟨v, hvk, hz, .inr ⟨hz, rfl⟩⟩
          obtain ⟨i, hik, hi0, hcase⟩ := hcase
          have HPM : Hid (x4.pb = P) := hP
          have HIK := hide hik
          have HI0 := hide hi0
          rcases hcase with ⟨hv0, hi1⟩ | ⟨hv0, hiv⟩
          · have hvI : (v : Int) = 0 := by omega
            have hrem : Int.tmod 1 (k : Int) = (i : Int) := by rw [hi1]; exact Int.tmod_eq_of_lt (by omega) (by omega)
            have hk0 : ¬ (k : Int) = 0 := by omega
            have hk1 : ¬ (k : Int) = -1 := by omega
            rw [hvI]
            clear hvI hi1 hv0
            go_wp2
            clear hrem hk0 hk1
            go_loopw [14] (fun u wr => ∃ (c : Nat) (tg' : Tags) (x' : GX), c ≤ r ∧ u = .int .i64 c ∧ GM wr tg' gb ((Gp.start k 40).solo i c) x' ∧ Stp Agr w (fun _ => (0, 0)) wr tg' ∧ x'.pb = P ∧ wr.heap[B0]? = some (.cells #[.int .i64 S.role, .int .i64 S.term, .int .i64 S.leads, .int .i64 (S.commit : Int), .int .i64 (S.log.length : Int)] 35 (0, 0)) ∧ tg' B0 = (0, 1)) (fun u _ => r - (intOf u).toNat)
            case atStart => exact ⟨0, tgA, x4, Nat.zero_le _, rfl, unhide HGA, unhide HSA, unhide HPM, unhide HBA, unhide HTA⟩
            case round =>
              obtain ⟨c, tg8, x8, hc, rfl, hG8, hS8, hpb8, hB8, hT8⟩ := hrel
              obtain ⟨gh8, hJ8⟩ := J.solo ⟨gh4, unhide HJ4⟩ (unhide HIK) c
              have hE8 := El.solo (unhide HE4) ⟨gh4, unhide HJ4⟩ (unhide HIK) c
              have hn8 := hJ8.node (unhide HIK)
              obtain ⟨no8, nc8, hnv8⟩ := hG8.nodes.form
              rw [hJ8.len] at hnv8
              have c0 := hG8.c0v hnv8
              have hgb8 := hG8.lt
              obtain ⟨g8, rfl, hat8, _⟩ := hG8.at_ (i := i) (by rw [hJ8.len]; exact unhide HIK) (by rw [hJ8.len]; exact hnv8)
              obtain ⟨g80, hg80, hat80, _⟩ := hG8.at_ (i := 0) (by rw [hJ8.len]; omega) (by rw [hJ8.len]; exact hnv8)
              cases hg80
              rw [hpb8] at hat8 hat80
              have HNV8 := hide hnv8
              have HG8 := hide hG8
              have HS8 := hide hS8
              have HB8 := hide hB8
              have HT8 := hide hT8
              have HJ8 := hide hJ8
              have HE8 := hide hE8
              have HPB8 := hide hpb8
              by_cases hcl : c < r
              · have hci : (c : Int) < (r : Int) := by omega
                have HT := hide (gm_tick hG8 hn8.1 hn8.2.ok (by have := hE8 i _ hn8.1; omega))
                rw [hpb8] at HT
                have HSD : Hid (∀ m ∈ (((Gp.start k 40).solo i c).node i).tick.2, m.kind = 0 ∧ Sendable k i m) := fun m hm => ⟨(unhide HGD).asks i c (unhide HIK) (unhide HI0) m hm, sendable_tick hn8.2.fid hn8.2.fn m hm⟩
                have HFW : Hid ((((Gp.start k 40).solo i c).node i).tick.2.length ≤ 1000) := by have h9 := tick_few (((Gp.start k 40).solo i c).node i); rw [hn8.2.fn] at h9; show _ ≤ _; omega
                clear hG8 hS8 hpb8 hJ8 hE8 hn8 hnv8 hB8 hT8
                go_wp2_with (first | (go_at_call_of 9 p; refine (unhide HPP _).mono ?_; rintro e wp ⟨rfl, qp⟩; cases qp.symm) | (go_at_call 20; go_must (refine (unhide HT).mono ?_); rintro e w9 ⟨v9, rfl, l9, tg9, x9, hl9, hM9, hG9, hS9, hpb9⟩; obtain ⟨vo9, vc9, rfl⟩ := owns_form hM9.row; replace hl9 := hide hl9; replace hM9 := hide hM9; replace hG9 := hide hG9; replace hS9 := hide hS9; replace hpb9 := hide hpb9))
                have HK9 := hide ((unhide hS9).keep B0 (Array.getElem?_eq_some_iff.1 (unhide HB8)).1 (by rw [unhide HT8]; exact agr01))
                have HF9 : Hid (∀ y ∈ l9, y.1.kind = 0 ∧ Sendable k i y.1) := fun y hy => unhide HSD _ (by rw [← unhide hl9]; exact List.mem_map_of_mem hy)
                have hl1000 : l9.length ≤ 1000 := by have h9 := unhide HFW; rw [← unhide hl9, List.length_map] at h9; exact h9
                have HST9 := hide ((unhide HS8).trans (unhide hS9))
                have HJ9 := hide (J.solo ⟨gh4, unhide HJ4⟩ (unhide HIK) (c + 1))
                clear HT HSD HFW hl9 hS9 c0 hat8 hat80 hgb8 HNV8 HG8 HS8 HJ8 HE8 HPB8
                go_loopw [16] (fun u wr2 => ∃ (d : Nat) (tg' : Tags) (x' : GX), d ≤ l9.length ∧ u = .int .i64 d ∧ GM wr2 tg' gb ((Gp.start k 40).solo i (c + 1)) x' ∧ Stp Agr w (fun _ => (0, 0)) wr2 tg' ∧ x'.pb = P ∧ wr2.heap[B0]? = some (.cells #[.int .i64 S.role, .int .i64 S.term, .int .i64 S.leads, .int .i64 (S.commit : Int), .int .i64 (S.log.length : Int)] 35 (0, 0)) ∧ tg' B0 = (0, 1) ∧ MsgsRow wr2 tg' (.slice vo9 l9.length vc9) l9) (fun u _ => l9.length - (intOf u).toNat)
                case atStart => exact ⟨0, tg9, x9, Nat.zero_le _, rfl, unhide hG9, unhide HST9, unhide hpb9, (unhide HK9).1.trans (unhide HB8), (unhide HK9).2.trans (unhide HT8), unhide hM9⟩
                case round =>
                  obtain ⟨d, tgd, xd, hd, rfl, hGd, hSd, hpbd, hBd, hTd, hMd⟩ := hrel
                  clear hG9 hM9 HST9 hpb9 HK9 HB8 HT8
                  by_cases hdl : d < l9.length
                  · have hkk : l9[d]? = some l9[d] := List.getElem?_eq_getElem hdl
                    have hdi : (d : Int) < (l9.length : Int) := by omega
                    obtain ⟨g, off, rfl, v0, v1, v2, v3, v4, v5, v6, v7, v8⟩ := row_msg (QRow.ofOwn hMd.row) hkk
                    have HFd := hide (unhide HF9 _ (List.getElem_mem hdl))
                    have HE := hide (hMd.ents _ (List.getElem_mem hdl))
                    clear hkk
                    have HMd := hide hMd
                    clear hMd
                    generalize l9[d] = y at *
                    obtain ⟨m, ev⟩ := y
                    have HE1 : Hid (wr.ownsRow 0 78 2 ev m.ents.length (eC m.ents) ∧ Tag tgd ev (4, 0)) := HE
                    have HF1 : Hid (m.kind = 0 ∧ Sendable k i m) := HFd
                    clear HE HFd
                    simp only at v0 v1 v2 v3 v4 v5 v6 v7 v8
                    obtain ⟨eo, ec, rfl⟩ := owns_form (unhide HE1).1
                    obtain ⟨s1, s2, s3, s4, s5⟩ := (unhide HF1).2
                    have b2 : (m.dst != (i : Int)) = true := by simpa using s2
                    have hdn : m.dst.toNat < k := by omega
                    have hcast : ((m.dst.toNat : Nat) : Int) = m.dst := by omega
                    have HCA := hide hcast
                    obtain ⟨ghd, hJd⟩ := unhide HJ9
                    have HND := hide (hJd.node hdn)
                    have HLEN := hide hJd.len
                    have HE3 : Hid (m.ents.length < 4611686018427387904) := by show _ < _; omega
                    have hgl : g < wr.heap.size := block_lt_of_cell v0
                    obtain ⟨no, nc, hnv⟩ := hGd.nodes.form
                    rw [hJd.len] at hnv
                    have HNV := hide hnv
                    have HGd := hide hGd
                    have HSd := hide hSd
                    have HPBd := hide hpbd
                    have HBd := hide hBd
                    have HTd := hide hTd
                    clear hGd hSd hpbd hBd hTd hJd hnv s1 s2 s5 hcast
                    go_wp2
                    have hSA := Stp.alloc (A := fun _ => False) wr tgd (.cells #[.int .i64 m.kind, .int .i64 m.src, .int .i64 m.dst, .int .i64 m.term, .int .i64 m.index, .int .i64 m.logTerm, .int .i64 m.commit, .slice eo m.ents.length ec, .bool m.granted] 50) (0, 1)
                    have HGX := hide ((unhide HGd).quiet hSA)
                    have HEX := hide (owns_step (unhide HE1).1 (unhide HE1).2 hSA (fun h => h))
                    have HMX := hide (heap_alloc_new wr (.cells #[.int .i64 m.kind, .int .i64 m.src, .int .i64 m.dst, .int .i64 m.term, .int .i64 m.index, .int .i64 m.logTerm, .int .i64 m.commit, .slice eo m.ents.length ec, .bool m.granted] 50))
                    have HTX : Hid (newTag wr.heap.size tgd (0, 1) wr.heap.size = (0, 1)) := newTag_new (Nat.le_refl _)
                    have HSX := hide ((unhide HSd).trans (hSA.mono (B := Agr) fun _ h => h.elim))
                    have hkB := hSA.keep B0 (Array.getElem?_eq_some_iff.1 (unhide HBd)).1 (fun h => h)
                    have HBX := hide (hkB.1.trans (unhide HBd))
                    have HTBX := hide (hkB.2.trans (unhide HTd))
                    have HMR := hide ((unhide HMd).step hSA (fun h => h) (fun h => h))
                    clear hSA hkB HGd HE1 HSd HBd HTd HMd v0 v1 v2 v3 v4 v5 v6 v7 v8
                    generalize newTag wr.heap.size tgd (0, 1) = tgX at *
                    generalize wr.alloc (.cells #[.int .i64 m.kind, .int .i64 m.src, .int .i64 m.dst, .int .i64 m.term, .int .i64 m.index, .int .i64 m.logTerm, .int .i64 m.commit, .slice eo m.ents.length ec, .bool m.granted] 50) = WX at *
                    have HGX9 := unhide HGX
                    have r0 := HGX9.c0v (unhide HNV)
                    obtain ⟨g9, hg9, r1, _⟩ := HGX9.at_ (i := m.dst.toNat) (by rw [unhide HLEN]; exact hdn) (by rw [unhide HLEN]; exact unhide HNV)
                    subst hg9
                    rw [unhide HPBd] at r1
                    have hTD := gm_told (HGX9.quiet (Stp.drew1 _ _ _)) (unhide HND).1 (unhide HND).2.ok m eo ec (unhide HEX).1 (unhide HE3)
                    rw [unhide HPBd] at hTD
                    have HTD := hide hTD
                    clear hTD HGX9
                    have n0 : WX.cell? ⟨wr.heap.size, 0, none⟩ = some (.int .i64 m.kind) := cell_of_row WX _ 0 _ _ _ (unhide HMX)
                    have n1 : WX.cell? ⟨wr.heap.size, 1, none⟩ = some (.int .i64 m.src) := cell_of_row WX _ 1 _ _ _ (unhide HMX)
                    have n2 : WX.cell? ⟨wr.heap.size, 2, none⟩ = some (.int .i64 m.dst) := cell_of_row WX _ 2 _ _ _ (unhide HMX)
                    have n3 : WX.cell? ⟨wr.heap.size, 3, none⟩ = some (.int .i64 m.term) := cell_of_row WX _ 3 _ _ _ (unhide HMX)
                    have n4 : WX.cell? ⟨wr.heap.size, 4, none⟩ = some (.int .i64 m.index) := cell_of_row WX _ 4 _ _ _ (unhide HMX)
                    have n5 : WX.cell? ⟨wr.heap.size, 5, none⟩ = some (.int .i64 m.logTerm) := cell_of_row WX _ 5 _ _ _ (unhide HMX)
                    have n6 : WX.cell? ⟨wr.heap.size, 6, none⟩ = some (.int .i64 m.commit) := cell_of_row WX _ 6 _ _ _ (unhide HMX)
                    have n7 : WX.cell? ⟨wr.heap.size, 7, none⟩ = some (.slice eo m.ents.length ec) := cell_of_row WX _ 7 _ _ _ (unhide HMX)
                    have n8 : WX.cell? ⟨wr.heap.size, 8, none⟩ = some (.bool m.granted) := cell_of_row WX _ 8 _ _ _ (unhide HMX)
                    go_region_law (first | (go_simp; go_at_call 21; go_must (refine (unhide HTD).mono ?_); rintro e w6 ⟨v6, rfl, l6, tg6, x6, hl6, hM6, hG6, hS6, hpb6⟩; clear hl6 hM6; replace hG6 := hide hG6; replace hS6 := hide hS6; replace hpb6 := hide hpb6))
                    all_goals
                      have hSS := (Stp.drew1 Agr _ _).trans (unhide hS6)
                      have hk6 := hSS.keep B0 (Array.getElem?_eq_some_iff.1 (unhide HBX)).1 (by rw [unhide HTBX]; exact agr01)
                      have HB6 := hide (hk6.1.trans (unhide HBX))
                      have HT6 := hide (hk6.2.trans (unhide HTBX))
                      have HM6 := hide ((unhide HMR).step hSS agr01 agr40)
                      have HS6 := hide ((unhide HSX).trans hSS)
                      have hG6' := unhide hG6
                      rw [step_ask_same (unhide HF1).1, put_same (unhide HND).1] at hG6'
                      have HG6 := hide hG6'
                      clear hSS hk6 hG6' hG6 hS6
                      go_wp2
                      go_roundw
                      case rel => exact ⟨d + 1, tg6, x6, by omega, by go_num, unhide HG6, unhide HS6, unhide hpb6, unhide HB6, unhide HT6, unhide HM6⟩
                      case measure => simp [intOf]; omega
                  · have hdi : ¬ (d : Int) < (l9.length : Int) := by omega
                    have HGd := hide hGd
                    have HSd := hide hSd
                    have HPBd := hide hpbd
                    have HBd := hide hBd
                    have HTd := hide hTd
                    clear hGd hSd hpbd hBd hTd hMd
                    go_wp2
                    go_roundw
                    case rel => first | exact ⟨c + 1, tgd, xd, by omega, by go_num, unhide HGd, unhide HSd, unhide HPBd, unhide HBd, unhide HTd⟩ | exact ⟨c + 1, by omega, by go_num, tgd, xd, unhide HGd, unhide HSd, unhide HPBd, unhide HBd, unhide HTd⟩
                    case measure => simp [intOf]; omega
              · have hce : c = r := by omega
                have hci : ¬ (c : Int) < (r : Int) := by omega
                have HS0 : Hid (((Gp.start k 40).solo i c).node 0 = S) := by show _ = _; rw [(unhide HGD).still i c (unhide HIK) (unhide HI0)]; exact unhide HSS
                have HTE : Hid ((((Gp.start k 40).solo i c).node i).term = S.term) := by show _ = _; rw [(unhide HGD).term i c (unhide HIK) (unhide HI0)]; rw [unhide HSS]
                have hN0 := (hJ8.node (i := 0) (by omega)).1
                rw [unhide HS0] at hN0
                have hST := gm_status hG8 hN0
                rw [unhide HCS, hpb8] at hST
                have HST := hide hST
                have hgl8 : g8 < wr.heap.size := block_lt_of_cell hat8
                have HN8 := hide hn8.1
                obtain ⟨GS, hGS⟩ : ∃ GS, (Gp.start k 40).solo i c = GS := ⟨_, rfl⟩
                have HGS := hide hGS
                have HBK : Hid (((GS.rounds k 3).node i).role = 0 ∧ ((GS.rounds k 3).node i).leads = 0) := by show _ ∧ _; rw [← unhide HGS]; exact (unhide HGD).back i c (unhide HIK) (unhide HI0)
                have HHE : Hid (((GS.rounds k 3).node 0).role = 3 ∧ ((GS.rounds k 3).node 0).term = S.term) := by
                  show _ ∧ _
                  have h9 := (unhide HGD).head i c (unhide HIK) (unhide HI0)
                  rw [unhide HSS] at h9
                  rw [← unhide HGS]; exact h9
                rw [hGS] at HG8 HJ8 HE8 HN8 HTE
                obtain ⟨Si, hSi⟩ : ∃ Si, GS.node i = Si := ⟨_, rfl⟩
                rw [hSi] at HN8 HTE
                clear hG8 hS8 hpb8 hJ8 hE8 hn8 hnv8 hB8 hT8 hST hN0 hGS hSi HS0 hce
                go_wp2_with (first | (go_at_call_of 9 p; refine (unhide HPP _).mono ?_; rintro e wp ⟨rfl, qp⟩; cases qp.symm) | (go_at_call 10; fail))
                refine (unhide HST).mono ?_
                rintro e w9 ⟨rfl, hb9⟩
                have d0 := (hb9.cell (block_lt_of_cell c0)).trans c0
                have d1 := (hb9.cell (block_lt_of_cell hat8)).trans hat8
                have hgb9 := block_lt_of_cell d0
                have hg89 := block_lt_of_cell d1
                have HB9 := hide hb9
                clear hb9
                go_wp2_with (first | (go_at_call 10; fail))
                obtain ⟨tgU, hGU, hSU, hBU, hTU, hLU⟩ := gm_local (unhide HG8) (unhide HS8) (unhide HB9) (.cells #[.int .i64 S.role, .int .i64 S.term, .int .i64 S.leads, .int .i64 (S.commit : Int), .int .i64 (S.log.length : Int)] 35)
                have hkU := hLU.keep B0 (Array.getElem?_eq_some_iff.1 (unhide HB8)).1 (fun h => h)
                have HB0U := hide (hkU.1.trans (unhide HB8))
                have HT0U := hide (hkU.2.trans (unhide HT8))
                have HB1U := hide hBU
                have HT1U := hide hTU
                have hSTi := gm_status hGU (unhide HN8)
                rw [unhide HPB8, unhide HTE] at hSTi
                have HGU := hide hGU
                have HSU := hide hSU
                clear hGU hSU hBU hTU hLU hkU d0 d1 hgb9 hg89 HB9
                generalize w9.alloc (.cells #[.int .i64 S.role, .int .i64 S.term, .int .i64 S.leads, .int .i64 (S.commit : Int), .int .i64 (S.log.length : Int)] 35) = WU at *
                generalize w9.heap.size = B1 at *
                refine hSTi.mono ?_
                rintro e w10 ⟨rfl, hb10⟩
                have HB10 := hide hb10
                clear hSTi hb10
                go_wp2
                obtain ⟨tgV, hGV, hSV, hBV, hTV, hLV⟩ := gm_local (unhide HGU) (unhide HSU) (unhide HB10) (.cells #[.int .i64 Si.role, .int .i64 S.term, .int .i64 Si.leads, .int .i64 (Si.commit : Int), .int .i64 (Si.last : Int)] 35)
                have HL0 := hide (Lies.step (o := (.cells #[.int .i64 S.role, .int .i64 S.term, .int .i64 S.leads, .int .i64 (S.commit : Int), .int .i64 (S.log.length : Int)] 35 (0, 0))) ⟨unhide HB0U, unhide HT0U⟩ hLV (fun h => h))
                have HL1 := hide (Lies.step (o := (.cells #[.int .i64 S.role, .int .i64 S.term, .int .i64 S.leads, .int .i64 (S.commit : Int), .int .i64 (S.log.length : Int)] 35 (0, 0))) ⟨unhide HB1U, unhide HT1U⟩ hLV (fun h => h))
                have HL2 : Hid (Lies _ tgV _ (.cells #[.int .i64 Si.role, .int .i64 S.term, .int .i64 Si.leads, .int .i64 (Si.commit : Int), .int .i64 (Si.last : Int)] 35 (0, 0))) := ⟨hBV, hTV⟩
                have HGV := hide hGV
                have HSV := hide hSV
                clear hGV hSV hBV hTV hLV HB10 HGU HSU HB0U HT0U HB1U HT1U
                generalize w10.alloc (.cells #[.int .i64 Si.role, .int .i64 S.term, .int .i64 Si.leads, .int .i64 (Si.commit : Int), .int .i64 (Si.last : Int)] 35) = WV at *
                generalize w10.heap.size = B2 at *
                have HBA9 : Hid (Bare GS) := by show Bare GS; rw [← unhide HGS]; exact (Bare.start k 40).solo i c
                go_loopw [20] (fun u wr => ∃ (e : Nat) (tg' : Tags) (x' : GX), e ≤ 3 ∧ u = .int .i64 e ∧ GM wr tg' gb (GS.rounds k e) x' ∧ Stp Agr w (fun _ => (0, 0)) wr tg' ∧ x'.pb = P ∧ Lies wr tg' B0 (.cells #[.int .i64 S.role, .int .i64 S.term, .int .i64 S.leads, .int .i64 (S.commit : Int), .int .i64 (S.log.length : Int)] 35 (0, 0)) ∧ Lies wr tg' B1 (.cells #[.int .i64 S.role, .int .i64 S.term, .int .i64 S.leads, .int .i64 (S.commit : Int), .int .i64 (S.log.length : Int)] 35 (0, 0)) ∧ Lies wr tg' B2 (.cells #[.int .i64 Si.role, .int .i64 S.term, .int .i64 Si.leads, .int .i64 (Si.commit : Int), .int .i64 (Si.last : Int)] 35 (0, 0))) (fun u _ => 3 - (intOf u).toNat)
                case atStart => exact ⟨0, tgV, x8, Nat.zero_le _, rfl, unhide HGV, unhide HSV, unhide HPB8, unhide HL0, unhide HL1, unhide HL2⟩
                case round =>
                  obtain ⟨e, tge, xe, he, rfl, hGe, hSe, hpbe, hL0e, hL1e, hL2e⟩ := hrel
                  have hJe := J.rounds ⟨gh8, unhide HJ8⟩ e
                  have hEe := El.rounds (unhide HE8) ⟨gh8, unhide HJ8⟩ hn7 e
                  have HSe := hide hSe
                  have HPe := hide hpbe
                  have HL0e := hide hL0e
                  have HL1e := hide hL1e
                  have HL2e := hide hL2e
                  clear HL0 HL1 HL2 HGV HSV
                  by_cases hel : e < 3
                  · have hei : (e : Int) < 3 := by omega
                    have HRO := hide (round_any gb k (GS.rounds k e) xe wr tge _ hGe hJe hEe (by omega))
                    clear hGe hSe hJe hEe hpbe hL0e hL1e hL2e
                    go_wp2_with (first | (go_at_call 12; go_must (refine (unhide HRO).mono ?_); rintro e w5 ⟨rfl, tg5, x5, hG5, hS5, hpb5⟩; replace hG5 := hide hG5; replace hS5 := hide hS5; replace hpb5 := hide hpb5))
                    go_roundw
                    case rel => exact ⟨e + 1, tg5, x5, by omega, by go_num, unhide hG5, (unhide HSe).trans (unhide hS5), (unhide hpb5).trans (unhide HPe), (unhide HL0e).step (unhide hS5) agr01, (unhide HL1e).step (unhide hS5) agr01, (unhide HL2e).step (unhide hS5) agr01⟩
                    case measure => simp [intOf]; omega
                  · have he3 : e = 3 := by omega
                    subst he3
                    obtain ⟨ghe, hJe'⟩ := hJe
                    obtain ⟨GR, hGR⟩ : ∃ GR, GS.rounds k 3 = GR := ⟨_, rfl⟩
                    have HBR : Hid (Bare GR) := by show Bare GR; rw [← hGR]; exact (unhide HBA9).rounds k 3
                    rw [hGR] at hGe hJe' HBK HHE
                    have HJR := hide hJe'
                    have hnX := (hJe'.node (unhide HIK)).1
                    have hnY := (hJe'.node (i := 0) (by omega)).1
                    obtain ⟨X, hX⟩ : ∃ X, GR.node i = X := ⟨_, rfl⟩
                    obtain ⟨Y, hY⟩ : ∃ Y, GR.node 0 = Y := ⟨_, rfl⟩
                    rw [hX] at hnX HBK
                    rw [hY] at hnY HHE
                    have HNX := hide hnX
                    have HNY := hide hnY
                    have hSTX := gm_status hGe hnX
                    rw [hpbe, (unhide HBK).1, (unhide HBK).2] at hSTX
                    have HSTX := hide hSTX
                    obtain ⟨noe, nce, hnve⟩ := hGe.nodes.form
                    rw [hJe'.len] at hnve
                    have e0 := hGe.c0v hnve
                    have hgbe := hGe.lt
                    obtain ⟨ge, rfl, hate, _⟩ := hGe.at_ (i := i) (by rw [hJe'.len]; exact unhide HIK) (by rw [hJe'.len]; exact hnve)
                    obtain ⟨ge0, hge0, hate0, _⟩ := hGe.at_ (i := 0) (by rw [hJe'.len]; omega) (by rw [hJe'.len]; exact hnve)
                    cases hge0
                    rw [hpbe] at hate hate0
                    have HGe := hide hGe
                    clear hGe hSe hJe' hEe hpbe hL0e hL1e hL2e hnX hnY hX hY hSTX hGR hnve HGS
                    go_wp2_with (first | (go_at_call 10; fail))
                    refine (unhide HSTX).mono ?_
                    rintro e w11 ⟨rfl, hb11⟩
                    have d0 := (hb11.cell (block_lt_of_cell e0)).trans e0
                    have d1 := (hb11.cell (block_lt_of_cell hate0)).trans hate0
                    have hgb11 := block_lt_of_cell d0
                    have hg11 := block_lt_of_cell d1
                    have HB11 := hide hb11
                    clear hb11
                    go_wp2_with (first | (go_at_call 10; fail))
                    obtain ⟨tgX, hGX, hSX, hBX, hTX, hLX⟩ := gm_local (unhide HGe) (unhide HSe) (unhide HB11) (.cells #[.int .i64 0, .int .i64 X.term, .int .i64 0, .int .i64 (X.commit : Int), .int .i64 (X.last : Int)] 35)
                    have HL0X := hide ((unhide HL0e).step hLX (fun h => h))
                    have HL1X := hide ((unhide HL1e).step hLX (fun h => h))
                    have HL2X := hide ((unhide HL2e).step hLX (fun h => h))
                    have HL3X : Hid (Lies _ tgX _ (.cells #[.int .i64 0, .int .i64 X.term, .int .i64 0, .int .i64 (X.commit : Int), .int .i64 (X.last : Int)] 35 (0, 0))) := ⟨hBX, hTX⟩
                    have hSTY := gm_status hGX (unhide HNY)
                    rw [unhide HPe, (unhide HHE).1, (unhide HHE).2] at hSTY
                    have HGX := hide hGX
                    have HSX := hide hSX
                    clear hGX hSX hBX hTX hLX d0 d1 hgb11 hg11 HB11
                    generalize w11.alloc (.cells #[.int .i64 0, .int .i64 X.term, .int .i64 0, .int .i64 (X.commit : Int), .int .i64 (X.last : Int)] 35) = WX at *
                    generalize w11.heap.size = B3 at *
                    refine hSTY.mono ?_
                    rintro e w12 ⟨rfl, hb12⟩
                    have HB12 := hide hb12
                    clear hSTY hb12
                    go_wp2_with (first | (go_at_call 14; fail))
                    obtain ⟨tgY, hGY, hSY, hBY, hTY, hLY⟩ := gm_local (unhide HGX) (unhide HSX) (unhide HB12) (.cells #[.int .i64 3, .int .i64 S.term, .int .i64 Y.leads, .int .i64 (Y.commit : Int), .int .i64 (Y.last : Int)] 35)
                    have HL0Y := hide ((unhide HL0X).step hLY (fun h => h))
                    have HL1Y := hide ((unhide HL1X).step hLY (fun h => h))
                    have HL2Y := hide ((unhide HL2X).step hLY (fun h => h))
                    have HL3Y := hide ((unhide HL3X).step hLY (fun h => h))
                    have HL4Y : Hid (Lies _ tgY _ (.cells #[.int .i64 3, .int .i64 S.term, .int .i64 Y.leads, .int .i64 (Y.commit : Int), .int .i64 (Y.last : Int)] 35 (0, 0))) := ⟨hBY, hTY⟩
                    have HSY := hide hSY
                    have HGY := hide hGY
                    clear hGY hSY hBY hTY hLY HB12
                    generalize w12.alloc (.cells #[.int .i64 3, .int .i64 S.term, .int .i64 Y.leads, .int .i64 (Y.commit : Int), .int .i64 (Y.last : Int)] 35) = WY at *
                    generalize w12.heap.size = B4 at *
                    refine (safe_any gb k GR xe ghe WY tgY (unhide HGY) (unhide HJR) (unhide HBR).tb).mono ?_
                    rintro e w13 ⟨rfl, tg13, x13, hG13, hS13⟩
                    have l0 := hide ((unhide HL0Y).step hS13 agr01)
                    have l1 := hide ((unhide HL1Y).step hS13 agr01)
                    have l2 := hide ((unhide HL2Y).step hS13 agr01)
                    have l3 := hide ((unhide HL3Y).step hS13 agr01)
                    have l4 := hide ((unhide HL4Y).step hS13 agr01)
                    have HFI := hide ((unhide HSY).trans hS13)
                    clear hG13 hS13 HGY HSY HL0Y HL1Y HL2Y HL3Y HL4Y
                    have zB00 : w13.cell? ⟨B0, 0, none⟩ = some (.int .i64 S.role) := cell_of_row w13 _ 0 _ _ _ (unhide l0).1
                    have zB01 : w13.cell? ⟨B0, 1, none⟩ = some (.int .i64 S.term) := cell_of_row w13 _ 1 _ _ _ (unhide l0).1
                    have zB02 : w13.cell? ⟨B0, 2, none⟩ = some (.int .i64 S.leads) := cell_of_row w13 _ 2 _ _ _ (unhide l0).1
                    have zB03 : w13.cell? ⟨B0, 3, none⟩ = some (.int .i64 (S.commit : Int)) := cell_of_row w13 _ 3 _ _ _ (unhide l0).1
                    have zB04 : w13.cell? ⟨B0, 4, none⟩ = some (.int .i64 (S.log.length : Int)) := cell_of_row w13 _ 4 _ _ _ (unhide l0).1
                    have zB10 : w13.cell? ⟨B1, 0, none⟩ = some (.int .i64 S.role) := cell_of_row w13 _ 0 _ _ _ (unhide l1).1
                    have zB11 : w13.cell? ⟨B1, 1, none⟩ = some (.int .i64 S.term) := cell_of_row w13 _ 1 _ _ _ (unhide l1).1
                    have zB12 : w13.cell? ⟨B1, 2, none⟩ = some (.int .i64 S.leads) := cell_of_row w13 _ 2 _ _ _ (unhide l1).1
                    have zB13 : w13.cell? ⟨B1, 3, none⟩ = some (.int .i64 (S.commit : Int)) := cell_of_row w13 _ 3 _ _ _ (unhide l1).1
                    have zB14 : w13.cell? ⟨B1, 4, none⟩ = some (.int .i64 (S.log.length : Int)) := cell_of_row w13 _ 4 _ _ _ (unhide l1).1
                    have zB21 : w13.cell? ⟨B2, 1, none⟩ = some (.int .i64 S.term) := cell_of_row w13 _ 1 _ _ _ (unhide l2).1
                    have zB30 : w13.cell? ⟨B3, 0, none⟩ = some (.int .i64 0) := cell_of_row w13 _ 0 _ _ _ (unhide l3).1
                    have zB32 : w13.cell? ⟨B3, 2, none⟩ = some (.int .i64 0) := cell_of_row w13 _ 2 _ _ _ (unhide l3).1
                    have zB40 : w13.cell? ⟨B4, 0, none⟩ = some (.int .i64 3) := cell_of_row w13 _ 0 _ _ _ (unhide l4).1
                    have zB41 : w13.cell? ⟨B4, 1, none⟩ = some (.int .i64 S.term) := cell_of_row w13 _ 1 _ _ _ (unhide l4).1
                    go_wp2
                    go_ret
                    exact ⟨rfl, below_of_stp (unhide HFI)⟩
          · subst hiv
            have hvI : ¬ (i : Int) = 0 := by omega
            go_wp2
            clear hvI
            go_loopw [14] (fun u wr => ∃ (c : Nat) (tg' : Tags) (x' : GX), c ≤ r ∧ u = .int .i64 c ∧ GM wr tg' gb ((Gp.start k 40).solo i c) x' ∧ Stp Agr w (fun _ => (0, 0)) wr tg' ∧ x'.pb = P ∧ wr.heap[B0]? = some (.cells #[.int .i64 S.role, .int .i64 S.term, .int .i64 S.leads, .int .i64 (S.commit : Int), .int .i64 (S.log.length : Int)] 35 (0, 0)) ∧ tg' B0 = (0, 1)) (fun u _ => r - (intOf u).toNat)
            case atStart => exact ⟨0, tgA, x4, Nat.zero_le _, rfl, unhide HGA, unhide HSA, unhide HPM, unhide HBA, unhide HTA⟩
            case round =>
              obtain ⟨c, tg8, x8, hc, rfl, hG8, hS8, hpb8, hB8, hT8⟩ := hrel
              obtain ⟨gh8, hJ8⟩ := J.solo ⟨gh4, unhide HJ4⟩ (unhide HIK) c
              have hE8 := El.solo (unhide HE4) ⟨gh4, unhide HJ4⟩ (unhide HIK) c
              have hn8 := hJ8.node (unhide HIK)
              obtain ⟨no8, nc8, hnv8⟩ := hG8.nodes.form
              rw [hJ8.len] at hnv8
              have c0 := hG8.c0v hnv8
              have hgb8 := hG8.lt
              obtain ⟨g8, rfl, hat8, _⟩ := hG8.at_ (i := i) (by rw [hJ8.len]; exact unhide HIK) (by rw [hJ8.len]; exact hnv8)
              obtain ⟨g80, hg80, hat80, _⟩ := hG8.at_ (i := 0) (by rw [hJ8.len]; omega) (by rw [hJ8.len]; exact hnv8)
              cases hg80
              rw [hpb8] at hat8 hat80
              have HNV8 := hide hnv8
              have HG8 := hide hG8
              have HS8 := hide hS8
              have HB8 := hide hB8
              have HT8 := hide hT8
              have HJ8 := hide hJ8
              have HE8 := hide hE8
              have HPB8 := hide hpb8
              by_cases hcl : c < r
              · have hci : (c : Int) < (r : Int) := by omega
                have HT := hide (gm_tick hG8 hn8.1 hn8.2.ok (by have := hE8 i _ hn8.1; omega))
                rw [hpb8] at HT
                have HSD : Hid (∀ m ∈ (((Gp.start k 40).solo i c).node i).tick.2, m.kind = 0 ∧ Sendable k i m) := fun m hm => ⟨(unhide HGD).asks i c (unhide HIK) (unhide HI0) m hm, sendable_tick hn8.2.fid hn8.2.fn m hm⟩
                have HFW : Hid ((((Gp.start k 40).solo i c).node i).tick.2.length ≤ 1000) := by have h9 := tick_few (((Gp.start k 40).solo i c).node i); rw [hn8.2.fn] at h9; show _ ≤ _; omega
                clear hG8 hS8 hpb8 hJ8 hE8 hn8 hnv8 hB8 hT8
                go_wp2_with (first | (go_at_call_of 9 p; refine (unhide HPP _).mono ?_; rintro e wp ⟨rfl, qp⟩; cases qp.symm) | (go_at_call 20; go_must (refine (unhide HT).mono ?_); rintro e w9 ⟨v9, rfl, l9, tg9, x9, hl9, hM9, hG9, hS9, hpb9⟩; obtain ⟨vo9, vc9, rfl⟩ := owns_form hM9.row; replace hl9 := hide hl9; replace hM9 := hide hM9; replace hG9 := hide hG9; replace hS9 := hide hS9; replace hpb9 := hide hpb9))
                have HK9 := hide ((unhide hS9).keep B0 (Array.getElem?_eq_some_iff.1 (unhide HB8)).1 (by rw [unhide HT8]; exact agr01))
                have HF9 : Hid (∀ y ∈ l9, y.1.kind = 0 ∧ Sendable k i y.1) := fun y hy => unhide HSD _ (by rw [← unhide hl9]; exact List.mem_map_of_mem hy)
                have hl1000 : l9.length ≤ 1000 := by have h9 := unhide HFW; rw [← unhide hl9, List.length_map] at h9; exact h9
                have HST9 := hide ((unhide HS8).trans (unhide hS9))
                have HJ9 := hide (J.solo ⟨gh4, unhide HJ4⟩ (unhide HIK) (c + 1))
                clear HT HSD HFW hl9 hS9 c0 hat8 hat80 hgb8 HNV8 HG8 HS8 HJ8 HE8 HPB8
                go_loopw [16] (fun u wr2 => ∃ (d : Nat) (tg' : Tags) (x' : GX), d ≤ l9.length ∧ u = .int .i64 d ∧ GM wr2 tg' gb ((Gp.start k 40).solo i (c + 1)) x' ∧ Stp Agr w (fun _ => (0, 0)) wr2 tg' ∧ x'.pb = P ∧ wr2.heap[B0]? = some (.cells #[.int .i64 S.role, .int .i64 S.term, .int .i64 S.leads, .int .i64 (S.commit : Int), .int .i64 (S.log.length : Int)] 35 (0, 0)) ∧ tg' B0 = (0, 1) ∧ MsgsRow wr2 tg' (.slice vo9 l9.length vc9) l9) (fun u _ => l9.length - (intOf u).toNat)
                case atStart => exact ⟨0, tg9, x9, Nat.zero_le _, rfl, unhide hG9, unhide HST9, unhide hpb9, (unhide HK9).1.trans (unhide HB8), (unhide HK9).2.trans (unhide HT8), unhide hM9⟩
                case round =>
                  obtain ⟨d, tgd, xd, hd, rfl, hGd, hSd, hpbd, hBd, hTd, hMd⟩ := hrel
                  clear hG9 hM9 HST9 hpb9 HK9 HB8 HT8
                  by_cases hdl : d < l9.length
                  · have hkk : l9[d]? = some l9[d] := List.getElem?_eq_getElem hdl
                    have hdi : (d : Int) < (l9.length : Int) := by omega
                    obtain ⟨g, off, rfl, v0, v1, v2, v3, v4, v5, v6, v7, v8⟩ := row_msg (QRow.ofOwn hMd.row) hkk
                    have HFd := hide (unhide HF9 _ (List.getElem_mem hdl))
                    have HE := hide (hMd.ents _ (List.getElem_mem hdl))
                    clear hkk
                    have HMd := hide hMd
                    clear hMd
                    generalize l9[d] = y at *
                    obtain ⟨m, ev⟩ := y
                    have HE1 : Hid (wr.ownsRow 0 78 2 ev m.ents.length (eC m.ents) ∧ Tag tgd ev (4, 0)) := HE
                    have HF1 : Hid (m.kind = 0 ∧ Sendable k i m) := HFd
                    clear HE HFd
                    simp only at v0 v1 v2 v3 v4 v5 v6 v7 v8
                    obtain ⟨eo, ec, rfl⟩ := owns_form (unhide HE1).1
                    obtain ⟨s1, s2, s3, s4, s5⟩ := (unhide HF1).2
                    have b2 : (m.dst != (i : Int)) = true := by simpa using s2
                    have hdn : m.dst.toNat < k := by omega
                    have hcast : ((m.dst.toNat : Nat) : Int) = m.dst := by omega
                    have HCA := hide hcast
                    obtain ⟨ghd, hJd⟩ := unhide HJ9
                    have HND := hide (hJd.node hdn)
                    have HLEN := hide hJd.len
                    have HE3 : Hid (m.ents.length < 4611686018427387904) := by show _ < _; omega
                    have hgl : g < wr.heap.size := block_lt_of_cell v0
                    obtain ⟨no, nc, hnv⟩ := hGd.nodes.form
                    rw [hJd.len] at hnv
                    have HNV := hide hnv
                    have HGd := hide hGd
                    have HSd := hide hSd
                    have HPBd := hide hpbd
                    have HBd := hide hBd
                    have HTd := hide hTd
                    clear hGd hSd hpbd hBd hTd hJd hnv s1 s2 s5 hcast
                    go_wp2
                    have hSA := Stp.alloc (A := fun _ => False) wr tgd (.cells #[.int .i64 m.kind, .int .i64 m.src, .int .i64 m.dst, .int .i64 m.term, .int .i64 m.index, .int .i64 m.logTerm, .int .i64 m.commit, .slice eo m.ents.length ec, .bool m.granted] 50) (0, 1)
                    have HGX := hide ((unhide HGd).quiet hSA)
                    have HEX := hide (owns_step (unhide HE1).1 (unhide HE1).2 hSA (fun h => h))
                    have HMX := hide (heap_alloc_new wr (.cells #[.int .i64 m.kind, .int .i64 m.src, .int .i64 m.dst, .int .i64 m.term, .int .i64 m.index, .int .i64 m.logTerm, .int .i64 m.commit, .slice eo m.ents.length ec, .bool m.granted] 50))
                    have HTX : Hid (newTag wr.heap.size tgd (0, 1) wr.heap.size = (0, 1)) := newTag_new (Nat.le_refl _)
                    have HSX := hide ((unhide HSd).trans (hSA.mono (B := Agr) fun _ h => h.elim))
                    have hkB := hSA.keep B0 (Array.getElem?_eq_some_iff.1 (unhide HBd)).1 (fun h => h)
                    have HBX := hide (hkB.1.trans (unhide HBd))
                    have HTBX := hide (hkB.2.trans (unhide HTd))
                    have HMR := hide ((unhide HMd).step hSA (fun h => h) (fun h => h))
                    clear hSA hkB HGd HE1 HSd HBd HTd HMd v0 v1 v2 v3 v4 v5 v6 v7 v8
                    generalize newTag wr.heap.size tgd (0, 1) = tgX at *
                    generalize wr.alloc (.cells #[.int .i64 m.kind, .int .i64 m.src, .int .i64 m.dst, .int .i64 m.term, .int .i64 m.index, .int .i64 m.logTerm, .int .i64 m.commit, .slice eo m.ents.length ec, .bool m.granted] 50) = WX at *
                    have HGX9 := unhide HGX
                    have r0 := HGX9.c0v (unhide HNV)
                    obtain ⟨g9, hg9, r1, _⟩ := HGX9.at_ (i := m.dst.toNat) (by rw [unhide HLEN]; exact hdn) (by rw [unhide HLEN]; exact unhide HNV)
                    subst hg9
                    rw [unhide HPBd] at r1
                    have hTD := gm_told (HGX9.quiet (Stp.drew1 _ _ _)) (unhide HND).1 (unhide HND).2.ok m eo ec (unhide HEX).1 (unhide HE3)
                    rw [unhide HPBd] at hTD
                    have HTD := hide hTD
                    clear hTD HGX9
                    have n0 : WX.cell? ⟨wr.heap.size, 0, none⟩ = some (.int .i64 m.kind) := cell_of_row WX _ 0 _ _ _ (unhide HMX)
                    have n1 : WX.cell? ⟨wr.heap.size, 1, none⟩ = some (.int .i64 m.src) := cell_of_row WX _ 1 _ _ _ (unhide HMX)
                    have n2 : WX.cell? ⟨wr.heap.size, 2, none⟩ = some (.int .i64 m.dst) := cell_of_row WX _ 2 _ _ _ (unhide HMX)
                    have n3 : WX.cell? ⟨wr.heap.size, 3, none⟩ = some (.int .i64 m.term) := cell_of_row WX _ 3 _ _ _ (unhide HMX)
                    have n4 : WX.cell? ⟨wr.heap.size, 4, none⟩ = some (.int .i64 m.index) := cell_of_row WX _ 4 _ _ _ (unhide HMX)
                    have n5 : WX.cell? ⟨wr.heap.size, 5, none⟩ = some (.int .i64 m.logTerm) := cell_of_row WX _ 5 _ _ _ (unhide HMX)
                    have n6 : WX.cell? ⟨wr.heap.size, 6, none⟩ = some (.int .i64 m.commit) := cell_of_row WX _ 6 _ _ _ (unhide HMX)
                    have n7 : WX.cell? ⟨wr.heap.size, 7, none⟩ = some (.slice eo m.ents.length ec) := cell_of_row WX _ 7 _ _ _ (unhide HMX)
                    have n8 : WX.cell? ⟨wr.heap.size, 8, none⟩ = some (.bool m.granted) := cell_of_row WX _ 8 _ _ _ (unhide HMX)
                    go_region_law (first | (go_simp; go_at_call 21; go_must (refine (unhide HTD).mono ?_); rintro e w6 ⟨v6, rfl, l6, tg6, x6, hl6, hM6, hG6, hS6, hpb6⟩; clear hl6 hM6; replace hG6 := hide hG6; replace hS6 := hide hS6; replace hpb6 := hide hpb6))
                    all_goals
                      have hSS := (Stp.drew1 Agr _ _).trans (unhide hS6)
                      have hk6 := hSS.keep B0 (Array.getElem?_eq_some_iff.1 (unhide HBX)).1 (by rw [unhide HTBX]; exact agr01)
                      have HB6 := hide (hk6.1.trans (unhide HBX))
                      have HT6 := hide (hk6.2.trans (unhide HTBX))
                      have HM6 := hide ((unhide HMR).step hSS agr01 agr40)
                      have HS6 := hide ((unhide HSX).trans hSS)
                      have hG6' := unhide hG6
                      rw [step_ask_same (unhide HF1).1, put_same (unhide HND).1] at hG6'
                      have HG6 := hide hG6'
                      clear hSS hk6 hG6' hG6 hS6
                      go_wp2
                      go_roundw
                      case rel => exact ⟨d + 1, tg6, x6, by omega, by go_num, unhide HG6, unhide HS6, unhide hpb6, unhide HB6, unhide HT6, unhide HM6⟩
                      case measure => simp [intOf]; omega
                  · have hdi : ¬ (d : Int) < (l9.length : Int) := by omega
                    have HGd := hide hGd
                    have HSd := hide hSd
                    have HPBd := hide hpbd
                    have HBd := hide hBd
                    have HTd := hide hTd
                    clear hGd hSd hpbd hBd hTd hMd
                    go_wp2
                    go_roundw
                    case rel => first | exact ⟨c + 1, tgd, xd, by omega, by go_num, unhide HGd, unhide HSd, unhide HPBd, unhide HBd, unhide HTd⟩ | exact ⟨c + 1, by omega, by go_num, tgd, xd, unhide HGd, unhide HSd, unhide HPBd, unhide HBd, unhide HTd⟩
                    case measure => simp [intOf]; omega
              · have hce : c = r := by omega
                have hci : ¬ (c : Int) < (r : Int) := by omega
                have HS0 : Hid (((Gp.start k 40).solo i c).node 0 = S) := by show _ = _; rw [(unhide HGD).still i c (unhide HIK) (unhide HI0)]; exact unhide HSS
                have HTE : Hid ((((Gp.start k 40).solo i c).node i).term = S.term) := by show _ = _; rw [(unhide HGD).term i c (unhide HIK) (unhide HI0)]; rw [unhide HSS]
                have hN0 := (hJ8.node (i := 0) (by omega)).1
                rw [unhide HS0] at hN0
                have hST := gm_status hG8 hN0
                rw [unhide HCS, hpb8] at hST
                have HST := hide hST
                have hgl8 : g8 < wr.heap.size := block_lt_of_cell hat8
                have HN8 := hide hn8.1
                obtain ⟨GS, hGS⟩ : ∃ GS, (Gp.start k 40).solo i c = GS := ⟨_, rfl⟩
                have HGS := hide hGS
                have HBK : Hid (((GS.rounds k 3).node i).role = 0 ∧ ((GS.rounds k 3).node i).leads = 0) := by show _ ∧ _; rw [← unhide HGS]; exact (unhide HGD).back i c (unhide HIK) (unhide HI0)
                have HHE : Hid (((GS.rounds k 3).node 0).role = 3 ∧ ((GS.rounds k 3).node 0).term = S.term) := by
                  show _ ∧ _
                  have h9 := (unhide HGD).head i c (unhide HIK) (unhide HI0)
                  rw [unhide HSS] at h9
                  rw [← unhide HGS]; exact h9
                rw [hGS] at HG8 HJ8 HE8 HN8 HTE
                obtain ⟨Si, hSi⟩ : ∃ Si, GS.node i = Si := ⟨_, rfl⟩
                rw [hSi] at HN8 HTE
                clear hG8 hS8 hpb8 hJ8 hE8 hn8 hnv8 hB8 hT8 hST hN0 hGS hSi HS0 hce
                go_wp2_with (first | (go_at_call_of 9 p; refine (unhide HPP _).mono ?_; rintro e wp ⟨rfl, qp⟩; cases qp.symm) | (go_at_call 10; fail))
                refine (unhide HST).mono ?_
                rintro e w9 ⟨rfl, hb9⟩
                have d0 := (hb9.cell (block_lt_of_cell c0)).trans c0
                have d1 := (hb9.cell (block_lt_of_cell hat8)).trans hat8
                have hgb9 := block_lt_of_cell d0
                have hg89 := block_lt_of_cell d1
                have HB9 := hide hb9
                clear hb9
                go_wp2_with (first | (go_at_call 10; fail))
                obtain ⟨tgU, hGU, hSU, hBU, hTU, hLU⟩ := gm_local (unhide HG8) (unhide HS8) (unhide HB9) (.cells #[.int .i64 S.role, .int .i64 S.term, .int .i64 S.leads, .int .i64 (S.commit : Int), .int .i64 (S.log.length : Int)] 35)
                have hkU := hLU.keep B0 (Array.getElem?_eq_some_iff.1 (unhide HB8)).1 (fun h => h)
                have HB0U := hide (hkU.1.trans (unhide HB8))
                have HT0U := hide (hkU.2.trans (unhide HT8))
                have HB1U := hide hBU
                have HT1U := hide hTU
                have hSTi := gm_status hGU (unhide HN8)
                rw [unhide HPB8, unhide HTE] at hSTi
                have HGU := hide hGU
                have HSU := hide hSU
                clear hGU hSU hBU hTU hLU hkU d0 d1 hgb9 hg89 HB9
                generalize w9.alloc (.cells #[.int .i64 S.role, .int .i64 S.term, .int .i64 S.leads, .int .i64 (S.commit : Int), .int .i64 (S.log.length : Int)] 35) = WU at *
                generalize w9.heap.size = B1 at *
                refine hSTi.mono ?_
                rintro e w10 ⟨rfl, hb10⟩
                have HB10 := hide hb10
                clear hSTi hb10
                go_wp2
                obtain ⟨tgV, hGV, hSV, hBV, hTV, hLV⟩ := gm_local (unhide HGU) (unhide HSU) (unhide HB10) (.cells #[.int .i64 Si.role, .int .i64 S.term, .int .i64 Si.leads, .int .i64 (Si.commit : Int), .int .i64 (Si.last : Int)] 35)
                have HL0 := hide (Lies.step (o := (.cells #[.int .i64 S.role, .int .i64 S.term, .int .i64 S.leads, .int .i64 (S.commit : Int), .int .i64 (S.log.length : Int)] 35 (0, 0))) ⟨unhide HB0U, unhide HT0U⟩ hLV (fun h => h))
                have HL1 := hide (Lies.step (o := (.cells #[.int .i64 S.role, .int .i64 S.term, .int .i64 S.leads, .int .i64 (S.commit : Int), .int .i64 (S.log.length : Int)] 35 (0, 0))) ⟨unhide HB1U, unhide HT1U⟩ hLV (fun h => h))
                have HL2 : Hid (Lies _ tgV _ (.cells #[.int .i64 Si.role, .int .i64 S.term, .int .i64 Si.leads, .int .i64 (Si.commit : Int), .int .i64 (Si.last : Int)] 35 (0, 0))) := ⟨hBV, hTV⟩
                have HGV := hide hGV
                have HSV := hide hSV
                clear hGV hSV hBV hTV hLV HB10 HGU HSU HB0U HT0U HB1U HT1U
                generalize w10.alloc (.cells #[.int .i64 Si.role, .int .i64 S.term, .int .i64 Si.leads, .int .i64 (Si.commit : Int), .int .i64 (Si.last : Int)] 35) = WV at *
                generalize w10.heap.size = B2 at *
                have HBA9 : Hid (Bare GS) := by show Bare GS; rw [← unhide HGS]; exact (Bare.start k 40).solo i c
                go_loopw [20] (fun u wr => ∃ (e : Nat) (tg' : Tags) (x' : GX), e ≤ 3 ∧ u = .int .i64 e ∧ GM wr tg' gb (GS.rounds k e) x' ∧ Stp Agr w (fun _ => (0, 0)) wr tg' ∧ x'.pb = P ∧ Lies wr tg' B0 (.cells #[.int .i64 S.role, .int .i64 S.term, .int .i64 S.leads, .int .i64 (S.commit : Int), .int .i64 (S.log.length : Int)] 35 (0, 0)) ∧ Lies wr tg' B1 (.cells #[.int .i64 S.role, .int .i64 S.term, .int .i64 S.leads, .int .i64 (S.commit : Int), .int .i64 (S.log.length : Int)] 35 (0, 0)) ∧ Lies wr tg' B2 (.cells #[.int .i64 Si.role, .int .i64 S.term, .int .i64 Si.leads, .int .i64 (Si.commit : Int), .int .i64 (Si.last : Int)] 35 (0, 0))) (fun u _ => 3 - (intOf u).toNat)
                case atStart => exact ⟨0, tgV, x8, Nat.zero_le _, rfl, unhide HGV, unhide HSV, unhide HPB8, unhide HL0, unhide HL1, unhide HL2⟩
                case round =>
                  obtain ⟨e, tge, xe, he, rfl, hGe, hSe, hpbe, hL0e, hL1e, hL2e⟩ := hrel
                  have hJe := J.rounds ⟨gh8, unhide HJ8⟩ e
                  have hEe := El.rounds (unhide HE8) ⟨gh8, unhide HJ8⟩ hn7 e
                  have HSe := hide hSe
                  have HPe := hide hpbe
                  have HL0e := hide hL0e
                  have HL1e := hide hL1e
                  have HL2e := hide hL2e
                  clear HL0 HL1 HL2 HGV HSV
                  by_cases hel : e < 3
                  · have hei : (e : Int) < 3 := by omega
                    have HRO := hide (round_any gb k (GS.rounds k e) xe wr tge _ hGe hJe hEe (by omega))
                    clear hGe hSe hJe hEe hpbe hL0e hL1e hL2e
                    go_wp2_with (first | (go_at_call 12; go_must (refine (unhide HRO).mono ?_); rintro e w5 ⟨rfl, tg5, x5, hG5, hS5, hpb5⟩; replace hG5 := hide hG5; replace hS5 := hide hS5; replace hpb5 := hide hpb5))
                    go_roundw
                    case rel => exact ⟨e + 1, tg5, x5, by omega, by go_num, unhide hG5, (unhide HSe).trans (unhide hS5), (unhide hpb5).trans (unhide HPe), (unhide HL0e).step (unhide hS5) agr01, (unhide HL1e).step (unhide hS5) agr01, (unhide HL2e).step (unhide hS5) agr01⟩
                    case measure => simp [intOf]; omega
                  · have he3 : e = 3 := by omega
                    subst he3
                    obtain ⟨ghe, hJe'⟩ := hJe
                    obtain ⟨GR, hGR⟩ : ∃ GR, GS.rounds k 3 = GR := ⟨_, rfl⟩
                    have HBR : Hid (Bare GR) := by show Bare GR; rw [← hGR]; exact (unhide HBA9).rounds k 3
                    rw [hGR] at hGe hJe' HBK HHE
                    have HJR := hide hJe'
                    have hnX := (hJe'.node (unhide HIK)).1
                    have hnY := (hJe'.node (i := 0) (by omega)).1
                    obtain ⟨X, hX⟩ : ∃ X, GR.node i = X := ⟨_, rfl⟩
                    obtain ⟨Y, hY⟩ : ∃ Y, GR.node 0 = Y := ⟨_, rfl⟩
                    rw [hX] at hnX HBK
                    rw [hY] at hnY HHE
                    have HNX := hide hnX
                    have HNY := hide hnY
                    have hSTX := gm_status hGe hnX
                    rw [hpbe, (unhide HBK).1, (unhide HBK).2] at hSTX
                    have HSTX := hide hSTX
                    obtain ⟨noe, nce, hnve⟩ := hGe.nodes.form
                    rw [hJe'.len] at hnve
                    have e0 := hGe.c0v hnve
                    have hgbe := hGe.lt
                    obtain ⟨ge, rfl, hate, _⟩ := hGe.at_ (i := i) (by rw [hJe'.len]; exact unhide HIK) (by rw [hJe'.len]; exact hnve)
                    obtain ⟨ge0, hge0, hate0, _⟩ := hGe.at_ (i := 0) (by rw [hJe'.len]; omega) (by rw [hJe'.len]; exact hnve)
                    cases hge0
                    rw [hpbe] at hate hate0
                    have HGe := hide hGe
                    clear hGe hSe hJe' hEe hpbe hL0e hL1e hL2e hnX hnY hX hY hSTX hGR hnve HGS
                    go_wp2_with (first | (go_at_call 10; fail))
                    refine (unhide HSTX).mono ?_
                    rintro e w11 ⟨rfl, hb11⟩
                    have d0 := (hb11.cell (block_lt_of_cell e0)).trans e0
                    have d1 := (hb11.cell (block_lt_of_cell hate0)).trans hate0
                    have hgb11 := block_lt_of_cell d0
                    have hg11 := block_lt_of_cell d1
                    have HB11 := hide hb11
                    clear hb11
                    go_wp2_with (first | (go_at_call 10; fail))
                    obtain ⟨tgX, hGX, hSX, hBX, hTX, hLX⟩ := gm_local (unhide HGe) (unhide HSe) (unhide HB11) (.cells #[.int .i64 0, .int .i64 X.term, .int .i64 0, .int .i64 (X.commit : Int), .int .i64 (X.last : Int)] 35)
                    have HL0X := hide ((unhide HL0e).step hLX (fun h => h))
                    have HL1X := hide ((unhide HL1e).step hLX (fun h => h))
                    have HL2X := hide ((unhide HL2e).step hLX (fun h => h))
                    have HL3X : Hid (Lies _ tgX _ (.cells #[.int .i64 0, .int .i64 X.term, .int .i64 0, .int .i64 (X.commit : Int), .int .i64 (X.last : Int)] 35 (0, 0))) := ⟨hBX, hTX⟩
                    have hSTY := gm_status hGX (unhide HNY)
                    rw [unhide HPe, (unhide HHE).1, (unhide HHE).2] at hSTY
                    have HGX := hide hGX
                    have HSX := hide hSX
                    clear hGX hSX hBX hTX hLX d0 d1 hgb11 hg11 HB11
                    generalize w11.alloc (.cells #[.int .i64 0, .int .i64 X.term, .int .i64 0, .int .i64 (X.commit : Int), .int .i64 (X.last : Int)] 35) = WX at *
                    generalize w11.heap.size = B3 at *
                    refine hSTY.mono ?_
                    rintro e w12 ⟨rfl, hb12⟩
                    have HB12 := hide hb12
                    clear hSTY hb12
                    go_wp2_with (first | (go_at_call 14; fail))
                    obtain ⟨tgY, hGY, hSY, hBY, hTY, hLY⟩ := gm_local (unhide HGX) (unhide HSX) (unhide HB12) (.cells #[.int .i64 3, .int .i64 S.term, .int .i64 Y.leads, .int .i64 (Y.commit : Int), .int .i64 (Y.last : Int)] 35)
                    have HL0Y := hide ((unhide HL0X).step hLY (fun h => h))
                    have HL1Y := hide ((unhide HL1X).step hLY (fun h => h))
                    have HL2Y := hide ((unhide HL2X).step hLY (fun h => h))
                    have HL3Y := hide ((unhide HL3X).step hLY (fun h => h))
                    have HL4Y : Hid (Lies _ tgY _ (.cells #[.int .i64 3, .int .i64 S.term, .int .i64 Y.leads, .int .i64 (Y.commit : Int), .int .i64 (Y.last : Int)] 35 (0, 0))) := ⟨hBY, hTY⟩
                    have HSY := hide hSY
                    have HGY := hide hGY
                    clear hGY hSY hBY hTY hLY HB12
                    generalize w12.alloc (.cells #[.int .i64 3, .int .i64 S.term, .int .i64 Y.leads, .int .i64 (Y.commit : Int), .int .i64 (Y.last : Int)] 35) = WY at *
                    generalize w12.heap.size = B4 at *
                    refine (safe_any gb k GR xe ghe WY tgY (unhide HGY) (unhide HJR) (unhide HBR).tb).mono ?_
                    rintro e w13 ⟨rfl, tg13, x13, hG13, hS13⟩
                    have l0 := hide ((unhide HL0Y).step hS13 agr01)
                    have l1 := hide ((unhide HL1Y).step hS13 agr01)
                    have l2 := hide ((unhide HL2Y).step hS13 agr01)
                    have l3 := hide ((unhide HL3Y).step hS13 agr01)
                    have l4 := hide ((unhide HL4Y).step hS13 agr01)
                    have HFI := hide ((unhide HSY).trans hS13)
                    clear hG13 hS13 HGY HSY HL0Y HL1Y HL2Y HL3Y HL4Y
                    have zB00 : w13.cell? ⟨B0, 0, none⟩ = some (.int .i64 S.role) := cell_of_row w13 _ 0 _ _ _ (unhide l0).1
                    have zB01 : w13.cell? ⟨B0, 1, none⟩ = some (.int .i64 S.term) := cell_of_row w13 _ 1 _ _ _ (unhide l0).1
                    have zB02 : w13.cell? ⟨B0, 2, none⟩ = some (.int .i64 S.leads) := cell_of_row w13 _ 2 _ _ _ (unhide l0).1
                    have zB03 : w13.cell? ⟨B0, 3, none⟩ = some (.int .i64 (S.commit : Int)) := cell_of_row w13 _ 3 _ _ _ (unhide l0).1
                    have zB04 : w13.cell? ⟨B0, 4, none⟩ = some (.int .i64 (S.log.length : Int)) := cell_of_row w13 _ 4 _ _ _ (unhide l0).1
                    have zB10 : w13.cell? ⟨B1, 0, none⟩ = some (.int .i64 S.role) := cell_of_row w13 _ 0 _ _ _ (unhide l1).1
                    have zB11 : w13.cell? ⟨B1, 1, none⟩ = some (.int .i64 S.term) := cell_of_row w13 _ 1 _ _ _ (unhide l1).1
                    have zB12 : w13.cell? ⟨B1, 2, none⟩ = some (.int .i64 S.leads) := cell_of_row w13 _ 2 _ _ _ (unhide l1).1
                    have zB13 : w13.cell? ⟨B1, 3, none⟩ = some (.int .i64 (S.commit : Int)) := cell_of_row w13 _ 3 _ _ _ (unhide l1).1
                    have zB14 : w13.cell? ⟨B1, 4, none⟩ = some (.int .i64 (S.log.length : Int)) := cell_of_row w13 _ 4 _ _ _ (unhide l1).1
                    have zB21 : w13.cell? ⟨B2, 1, none⟩ = some (.int .i64 S.term) := cell_of_row w13 _ 1 _ _ _ (unhide l2).1
                    have zB30 : w13.cell? ⟨B3, 0, none⟩ = some (.int .i64 0) := cell_of_row w13 _ 0 _ _ _ (unhide l3).1
                    have zB32 : w13.cell? ⟨B3, 2, none⟩ = some (.int .i64 0) := cell_of_row w13 _ 2 _ _ _ (unhide l3).1
                    have zB40 : w13.cell? ⟨B4, 0, none⟩ = some (.int .i64 3) := cell_of_row w13 _ 0 _ _ _ (unhide l4).1
                    have zB41 : w13.cell? ⟨B4, 1, none⟩ = some (.int .i64 S.term) := cell_of_row w13 _ 1 _ _ _ (unhide l4).1
                    go_wp2
                    go_ret
                    exact ⟨rfl, below_of_stp (unhide HFI)⟩

end Go.Proofs.Yteiecbkfganhnaa

namespace Go.Proofs.Yteiecbkfganhnaa
open Go.ChangeShapes Go.WideShapes Go.ChangeAt Go.RowKit Go.Joins

theorem Try.ownQ : ownKnob Try.prog.godebug = none := by kernel_rfl

set_option maxRecDepth 100000 in
set_option maxHeartbeats 1000000 in
theorem quiet_lifted (os : Os) (started : os.Started) (H : Type) (enc : TypeId × Value → H) :
    ReturnsInHanded {} Try.checked os 5 .any (Rows.quietSpec.pre6 enc Try.prog Try.f5 Rows.quietRow.domain false) (Rows.quietSpec.post enc Try.prog Try.f5 false true false false) := by
  refine returnsInHanded_of_change_sized (C := Try.checked) Try.ownQ started (by kernel_rfl) Try.func5
    (ChangeSpec.witness6 (enc := enc) (C := Try.checked) false ⟨#[], #[.int .i64 0, .int .i64 0, .int .i64 0], []⟩ 8 (by kernel_rfl) (by kernel_rfl) (by kernel_rfl) (by kernel_rfl)) ?_
  intro W base args ds gs before hval0 hW _ hsz0 _
  clear hsz0
  have hval : ∀ (j : Nat) t v, Try.f5.params[j]? = some t → args[j]? = some v → Value.okWide Try.prog W .any base t v := hval0
  have hW' := hW
  obtain ⟨p, q, hA0, hV, rfl, _, _⟩ := hW
  have hA : DataW.TrodAll enc Try.prog W 0 (fun _ => true) true Try.f5.params.toList args.toList ds p := hA0
  rw [Try.params5] at hA hval
  obtain ⟨v0, v1, v2, d0, d1, d2, p0, p1, p2, rfl, rfl, rfl, h0, h1, h2⟩ := trodAll_three hA
  obtain ⟨rfl, rfl⟩ := trodVars_none hV
  obtain ⟨id, rfl, rfl, rfl, wid⟩ := open_int Try.underlying3 (hval 0 3 v0 rfl rfl) h0
  obtain ⟨n, rfl, rfl, rfl, wn⟩ := open_int Try.underlying3 (hval 1 3 v1 rfl rfl) h1
  obtain ⟨p, rfl, rfl, rfl, wp⟩ := open_int Try.underlying3 (hval 2 3 v2 rfl rfl) h2
  clear hA0 hval0
  simp only [List.append_nil] at hW'
  have b0 := bounds_i64 wid
  have b1 := bounds_i64 wn
  have b2 := bounds_i64 wp
  refine (quiet_any id n p W b0.1 b0.2 b1.1 b1.2 b2.1 b2.2).mono fun e W' ⟨he, hB⟩ => ?_
  subst he
  exact ⟨_, rfl, _, _, _, [], _, [], hW', trodAll_mk1 (shut_bool Try.underlying4 true), trodAll_mk3 (shut_int Try.underlying3 wid) (shut_int Try.underlying3 wn) (shut_int Try.underlying3 wp), rfl, hB.frame _, fun h => by cases h⟩

theorem quiet_holds : Rows.QuietSaid :=
  OpenClaim.holds_of_wide 5 Try.f5 rfl rfl rfl rfl rfl rfl rfl ⟨rfl, rfl, rfl, rfl, rfl⟩ rfl rfl rfl rfl rfl (by kernel_rfl) Try.func5 (by kernel_rfl)
    (of_decide_eq_true (by kernel_rfl)) (by unfold Func.isWrapper; first | (rw [if_pos (by decide +kernel)]; kernel_rfl) | (rw [if_neg (by decide +kernel)]; exact ⟨rfl, rfl⟩))
    (fun os started H enc _ => quiet_lifted os started H enc)

end Go.Proofs.Yteiecbkfganhnaa
