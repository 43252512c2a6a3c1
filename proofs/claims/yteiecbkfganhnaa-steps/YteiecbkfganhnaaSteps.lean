/- Proved: whatever the input, quorumkeep.Steps returns true, and each argument reads behind the call as it read before. No condition. -/
import Derived.Test.YteiecbkfganhnaaMem
import Derived.Test.YteiecbkfganhnaaRaft
import Derived.Deep.QuietTactic
import Derived.BigQuiet
import Derived.Deep.RegionWith
import Derived.Test.YteiecbkfganhnaaRows
import Derived.ProofKit
import Derived.SizedLaws
import Derived.Carry
import Derived.Lib.SmallJoins
import Derived.OpenShut

namespace Go.Proofs.Yteiecbkfganhnaa
open Go.RowKit Go.MuLone

set_option maxRecDepth 100000 in
set_option maxHeartbeats 400000 in
theorem slice_one (b off n cap : Nat) (h1 : 0 < n) (h2 : n ≤ cap) : ∃ ad c, (∀ w, (Instr.slice 29 (.slice (some ⟨b, off, none⟩) n cap) (some (.int .i64 1)) none none).run Try.prog w = .ok (.slice (some ad) (n - 1) c) w) ∧ ad.block = b ∧
    ∀ w l, QRow w 50 9 (.slice (some ⟨b, off, none⟩) n cap) n l → QRow w 50 9 (.slice (some ad) (n - 1) c) (n - 1) (l.drop 9) := by
  have i2 : (1 : Int) ≤ (n : Int) := by omega
  by_cases hca : cap = 1
  · refine ⟨⟨b, off, none⟩, cap - 1, fun w => ?_, rfl, fun w l hq => ?_⟩
    · subst hca
      go_simp
    · have hn : n = 1 := by omega
      subst hn
      rcases hq.2 with ⟨hv, _⟩ | ⟨g, o, cp, cur, hv, hg, k1, k2, k3⟩
      · cases hv
      · simp only [Value.slice.injEq, Option.some.injEq, Addr.mk.injEq, and_true, true_and] at hv
        obtain ⟨⟨rfl, rfl⟩, rfl⟩ := hv
        refine ⟨by rw [List.length_drop, hq.1], .inr ⟨b, off, cap - 1, cur, rfl, hg, by omega, by omega, ?_⟩⟩
        have hl := hq.1
        have e9 : l.drop 9 = [] := List.drop_of_length_le (by omega)
        rw [e9]
        simp
  · refine ⟨⟨b, off + 1 * 9, none⟩, cap - 1, fun w => ?_, rfl, fun w l hq => ?_⟩
    · go_simp
    · have h := QRow.drop (m := 1) hq (by omega) rfl
      simpa using h

set_option maxRecDepth 100000 in
set_option maxHeartbeats 2000000 in
theorem tell_any (gb i n : Nat) (G : Gp) (x : GX) (v : Value) (l : List (Msg × Value)) (w : World) (tg : Tags) (h : GM w tg gb G x) (hv : MsgsRow w tg v l) (hok : G.ok = true) (hl : ∀ y ∈ l, Sendable G.nodes.length i y.1) (hlen : l.length ≤ 1000) (hw : G.way.length ≤ 200) (hj : J n (G.sends (l.map Prod.fst))) :
    Calls Try.prog 16 #[ptr gb, .int .i64 (i : Int), v] w fun e w' => e = .returned (.tuple #[]) ∧ ∃ tg' x', GM w' tg' gb ((G.sends (l.map Prod.fst)).tells 3000) x' ∧ Stp Agr w tg w' tg' ∧ x'.pb = x.pb := by
  have HSE := hide (sends_any gb i G x v l w tg h hv hok hl hlen hw)
  have HJ := hide hj
  obtain ⟨G1, hGG⟩ : ∃ G1, G.sends (l.map Prod.fst) = G1 := ⟨_, rfl⟩
  rw [hGG] at HSE HJ hj ⊢
  clear h hv hok hl hj hGG hw hlen
  go_enter Try.func16, Try.ntmps16
  go_wp2_with (first | (go_at_call 35; go_must (refine (unhide HSE).mono ?_); rintro e w1 ⟨rfl, tg1, x1, hG1, hS1, hpb1⟩; replace hG1 := hide hG1; replace hS1 := hide (hS1.mono (B := Agr) fun U hU => .inl hU); replace hpb1 := hide hpb1))
  go_loopw [6] (fun u wr => ∃ (k : Nat) (tg' : Tags) (x' : GX), k ≤ 3000 ∧ u = .int .i64 k ∧ GM wr tg' gb (G1.tells k) x' ∧ Stp Agr w tg wr tg' ∧ x'.pb = x.pb) (fun u _ => 3000 - (intOf u).toNat)
  case atStart => exact ⟨0, tg1, x1, Nat.zero_le _, rfl, unhide hG1, unhide hS1, unhide hpb1⟩
  case round =>
    obtain ⟨k, tg2, x2, hk, rfl, hG2, hS2, hpb2⟩ := hrel
    obtain ⟨gh, hJ2⟩ := (unhide HJ).tells k
    obtain ⟨wo, wc, hwv⟩ := hG2.way.form
    have c1 := hG2.c1v hwv
    have c5 := hG2.c5t hJ2.ok
    have hgb := hG2.lt
    cases hwy : (G1.tells k).way with
    | nil =>
      rw [hwy, List.length_nil] at c1
      have HD : Hid (G1.tells 3000 = G1.tells k) := by
        show _ = _
        have h9 := tells_done hwy (3000 - k)
        rw [show k + (3000 - k) = 3000 by omega] at h9
        exact h9
      have HG2 := hide hG2
      have HS2 := hide hS2
      have HPB := hide hpb2
      clear hG2 hS2 hpb2 hJ2 hwv hwy
      go_wp2
      go_end0
      exact ⟨rfl, tg2, x2, by rw [unhide HD]; exact unhide HG2, unhide HS2, unhide HPB⟩
    | cons mm r =>
      have hwl : (G1.tells k).way.length = r.length + 1 := by rw [hwy]; rfl
      have hr200 := hJ2.way
      rw [hwl] at c1 hwv hr200
      have hpos : (0 : Int) < ((r.length : Int) + 1) := by omega
      by_cases hk3 : k = 3000
      · subst hk3
        have HG2 := hide hG2
        have HS2 := hide hS2
        have HPB := hide hpb2
        clear hG2 hS2 hpb2 hJ2 hwv hwy hwl
        go_wp2
        go_end0
        exact ⟨rfl, tg2, x2, unhide HG2, unhide HS2, unhide HPB⟩
      · have hk3i : (k : Int) < 3000 := by omega
        obtain ⟨yl, hyl⟩ : ∃ yl, x2.wl = yl := ⟨_, rfl⟩
        cases yl with
        | nil =>
          exfalso
          have h9 := hG2.wf
          rw [hyl, hwy] at h9
          simp at h9
        | cons y yr =>
          have h9 := hG2.wf
          rw [hyl, hwy, List.map_cons, List.cons.injEq] at h9
          obtain ⟨hy1, hyr⟩ := h9
          obtain ⟨m, ev⟩ := y
          simp only at hy1
          subst hy1
          have hq2 := hG2.way
          rw [hwv, hwl] at hq2
          obtain ⟨g, off, rfl, v0, v1, v2, v3, v4, v5, v6, v7, v8⟩ := row_msg (k := 0) hq2 (show x2.wl[0]? = some (m, ev) by rw [hyl]; rfl)
          simp only [Nat.zero_mul, Nat.add_zero] at v0 v1 v2 v3 v4 v5 v6 v7 v8
          have HEN := hide (hG2.we (m, ev) (by rw [hyl]; exact List.mem_cons_self ..))
          obtain ⟨eo, ec, hev⟩ := owns_form (unhide HEN).1
          simp only at hev
          subst hev
          have HEN1 : Hid (wr.ownsRow 0 78 2 (.slice eo m.ents.length ec) m.ents.length (eC m.ents) ∧ Tag tg2 (.slice eo m.ents.length ec) (4, 0)) := HEN
          clear HEN
          have hcapq : r.length + 1 ≤ wc := by
            rcases hq2.2 with ⟨hx, _⟩ | ⟨_, _, cp9, _, hx, _, h8, _⟩
            · cases hx
            · simp only [Value.slice.injEq, true_and] at hx; omega
          obtain ⟨ad, c9, sl1, had, hqt⟩ := slice_one g off (r.length + 1) wc (by omega) hcapq
          have hml := hJ2.mi m (by rw [hwy]; exact List.mem_cons_self ..)
          have hd0 := hml.2.1
          have hd1 := hml.2.2.1
          have hdn : m.dst.toNat < n := by omega
          have HND := hide (hJ2.node hdn)
          have HSD := hide (sendable_step (unhide HND).2.fid (unhide HND).2.fn m)
          have HFW := hide (step_few (s := (G1.tells k).node m.dst.toNat) (unhide HND).2.ok.n1 m)
          have HNN := hide (unhide HND).2.fn
          have hcast : ((m.dst.toNat : Nat) : Int) = m.dst := by omega
          have HCA := hide hcast
          have HLEN := hide hJ2.len
          have hd2 : m.dst < ((G1.tells k).nodes.length : Int) := by rw [hJ2.len]; omega
          have HE3 : Hid (m.ents.length < 4611686018427387904) := by show _ < _; have := hml.2.2.2; omega
          have HOKG := hide hJ2.ok
          have hn7 := hJ2.n7
          have hn1 := hJ2.n1
          have HEQ : Hid (G1.tells (k + 1) = Gp.told { G1.tells k with way := r } m) := tell1_cons hwy
          obtain ⟨no, nc, hnv⟩ := hG2.nodes.form
          have hgl : g < wr.heap.size := block_lt_of_cell v0
          have hneB : ¬ gb = wr.heap.size := by omega
          have HG2 := hide hG2
          have HS2 := hide hS2
          have HNV := hide hnv
          have HWV := hide hwv
          have HYL := hide hyl
          have HYR := hide hyr
          have HPB := hide hpb2
          have HAD := hide had
          have HQT := hide hqt
          have HWL := hide hwl
          have f1 := (unhide HG2).free 1
          clear hG2 hS2 hpb2 hJ2 hwy hq2 hml hcast hd1 hwv hyl hyr had hqt hnv hwl hcapq
          go_wp2
          -- the way without its first
          have hlr : (yr : List (Msg × Value)).length = r.length := by have h9 := unhide HYR; rw [← h9, List.length_map]
          have hcut : ∃ tgY, GM (wr.setCell ⟨gb, 1, none⟩ (.slice (some ad) r.length c9)) tgY gb { G1.tells k with way := yr.map Prod.fst } { x2 with wv := .slice (some ad) r.length c9, wl := yr } ∧ Stp (fun U => U.1 = 1) wr tg2 (wr.setCell ⟨gb, 1, none⟩ (.slice (some ad) r.length c9)) tgY := by
            refine (unhide HG2).setWay (w' := wr) ⟨rfl, rfl, rfl, Nat.le_refl _, fun _ _ _ => rfl⟩ ?_ (.inl ?_) (fun y hy => (unhide HG2).we y (by rw [unhide HYL]; exact List.mem_cons_of_mem _ hy))
            · have h9 := (unhide HG2).way
              rw [unhide HWV, unhide HWL] at h9
              have h8 := unhide HQT _ _ h9
              rw [unhide HYL, mC_cons] at h8
              have e9 : (mcells m (.slice eo m.ents.length ec) ++ mC yr).drop 9 = mC yr := by
                have h7 : (mcells m (.slice eo m.ents.length ec)).length = 9 := rfl
                rw [← h7, List.drop_left]
              rw [e9] at h8
              rw [hlr]
              exact h8
            · rw [unhide HWV]; show some ad.block = some g; rw [unhide HAD]
          obtain ⟨tgY, hGY, hSY⟩ := hcut
          rw [unhide HYR] at hGY
          have hszY : (wr.setCell ⟨gb, 1, none⟩ (.slice (some ad) r.length c9)).heap.size = wr.heap.size := by simp [World.setCell]
          have hSA := Stp.alloc (A := fun _ => False) (wr.setCell ⟨gb, 1, none⟩ (.slice (some ad) r.length c9)) tgY (.cells #[.int .i64 m.kind, .int .i64 m.src, .int .i64 m.dst, .int .i64 m.term, .int .i64 m.index, .int .i64 m.logTerm, .int .i64 m.commit, .slice eo m.ents.length ec, .bool m.granted] 50) (0, 1)
          have HGX := hide (hGY.quiet hSA)
          have hEY := owns_step (unhide HEN1).1 (unhide HEN1).2 hSY (by decide)
          have HEX := hide (owns_step hEY.1 hEY.2 hSA (fun h => h))
          have HMX : Hid (((wr.setCell ⟨gb, 1, none⟩ (.slice (some ad) r.length c9)).alloc (.cells #[.int .i64 m.kind, .int .i64 m.src, .int .i64 m.dst, .int .i64 m.term, .int .i64 m.index, .int .i64 m.logTerm, .int .i64 m.commit, .slice eo m.ents.length ec, .bool m.granted] 50)).heap[wr.heap.size]? = some (.cells #[.int .i64 m.kind, .int .i64 m.src, .int .i64 m.dst, .int .i64 m.term, .int .i64 m.index, .int .i64 m.logTerm, .int .i64 m.commit, .slice eo m.ents.length ec, .bool m.granted] 50 (0, 0))) := by
            have h9 := heap_alloc_new (wr.setCell ⟨gb, 1, none⟩ (.slice (some ad) r.length c9)) (.cells #[.int .i64 m.kind, .int .i64 m.src, .int .i64 m.dst, .int .i64 m.term, .int .i64 m.index, .int .i64 m.logTerm, .int .i64 m.commit, .slice eo m.ents.length ec, .bool m.granted] 50)
            rw [hszY] at h9; exact h9
          have HTX : Hid (newTag (wr.setCell ⟨gb, 1, none⟩ (.slice (some ad) r.length c9)).heap.size tgY (0, 1) wr.heap.size = (0, 1)) := newTag_new (Nat.le_of_eq hszY)
          have HSX := hide ((unhide HS2).trans ((hSY.mono (B := Agr) fun U hU => .inl hU).trans (hSA.mono (B := Agr) fun _ h => h.elim)))
          generalize newTag (wr.setCell ⟨gb, 1, none⟩ (.slice (some ad) r.length c9)).heap.size tgY (0, 1) = tgX at *
          have HWAYX : Hid (({ G1.tells k with way := r } : Gp).way.length ≤ 200) := by show r.length ≤ 200; omega
          clear hGY hSY hSA hEY hszY HG2 HS2 HEN1 v0 v1 v2 v3 v4 v5 v6 v7 v8 c1 c5 f1 sl1
          generalize (wr.setCell ⟨gb, 1, none⟩ (.slice (some ad) r.length c9)).alloc (.cells #[.int .i64 m.kind, .int .i64 m.src, .int .i64 m.dst, .int .i64 m.term, .int .i64 m.index, .int .i64 m.logTerm, .int .i64 m.commit, .slice eo m.ents.length ec, .bool m.granted] 50) = WX at *
          have hnj : ({ G1.tells k with way := r } : Gp).nodes[m.dst.toNat]? = some ((G1.tells k).node m.dst.toNat) := (unhide HND).1
          have HGX9 := unhide HGX
          have r0 := HGX9.c0v (show ({ x2 with wv := .slice (some ad) r.length c9, wl := yr } : GX).nv = _ from unhide HNV)
          obtain ⟨g9, hg9, r1, _⟩ := HGX9.at_ (i := m.dst.toNat) (show m.dst.toNat < ({ G1.tells k with way := r } : Gp).nodes.length from by show m.dst.toNat < (G1.tells k).nodes.length; have h9 := unhide HLEN; omega) (show ({ x2 with wv := .slice (some ad) r.length c9, wl := yr } : GX).nv = _ from unhide HNV)
          subst hg9
          have HTD := hide (gm_told (HGX9.quiet (Stp.drew1 _ _ _)) hnj (unhide HND).2.ok m eo ec (unhide HEX).1 (unhide HE3))
          have n0 : WX.cell? ⟨wr.heap.size, 0, none⟩ = some (.int .i64 m.kind) := cell_of_row WX _ 0 _ _ _ (unhide HMX)
          have n1 : WX.cell? ⟨wr.heap.size, 1, none⟩ = some (.int .i64 m.src) := cell_of_row WX _ 1 _ _ _ (unhide HMX)
          have n2 : WX.cell? ⟨wr.heap.size, 2, none⟩ = some (.int .i64 m.dst) := cell_of_row WX _ 2 _ _ _ (unhide HMX)
          have n3 : WX.cell? ⟨wr.heap.size, 3, none⟩ = some (.int .i64 m.term) := cell_of_row WX _ 3 _ _ _ (unhide HMX)
          have n4 : WX.cell? ⟨wr.heap.size, 4, none⟩ = some (.int .i64 m.index) := cell_of_row WX _ 4 _ _ _ (unhide HMX)
          have n5 : WX.cell? ⟨wr.heap.size, 5, none⟩ = some (.int .i64 m.logTerm) := cell_of_row WX _ 5 _ _ _ (unhide HMX)
          have n6 : WX.cell? ⟨wr.heap.size, 6, none⟩ = some (.int .i64 m.commit) := cell_of_row WX _ 6 _ _ _ (unhide HMX)
          have n7 : WX.cell? ⟨wr.heap.size, 7, none⟩ = some (.slice eo m.ents.length ec) := cell_of_row WX _ 7 _ _ _ (unhide HMX)
          have n8 : WX.cell? ⟨wr.heap.size, 8, none⟩ = some (.bool m.granted) := cell_of_row WX _ 8 _ _ _ (unhide HMX)
          clear HGX9 hnj
          go_region_law (first | (go_simp; go_at_call 21; go_must (refine (unhide HTD).mono ?_); rintro e w6 ⟨v6, rfl, l6, tg6, x6, hl6, hM6, hG6, hS6, hpb6⟩; replace hl6 := hide hl6; replace hM6 := hide hM6; replace hG6 := hide hG6; replace hS6 := hide hS6; replace hpb6 := hide hpb6))
          all_goals
            have hk6 := (unhide hS6).keep wr.heap.size (Array.getElem?_eq_some_iff.1 (unhide HMX)).1 (by rw [unhide HTX]; exact agr01)
            have q2 : w6.cell? ⟨wr.heap.size, 2, none⟩ = some (.int .i64 m.dst) := cell_of_row w6 _ 2 _ _ _ (hk6.1.trans (unhide HMX))
            have HSD6 : Hid (∀ y ∈ l6, Sendable n m.dst.toNat y.1) := fun y hy => unhide HSD _ (by rw [← unhide hl6]; exact List.mem_map_of_mem hy)
            have HFW6 : Hid (l6.length ≤ 1000) := by show _ ≤ _; have h9 := unhide HFW; rw [← unhide hl6, List.length_map, unhide HNN] at h9; omega
            have HSE6 := hide (sends_any gb m.dst.toNat _ x6 v6 l6 w6 tg6 (unhide hG6) (unhide hM6) (unhide HOKG) (by have h9 := unhide HLEN; show ∀ y ∈ l6, Sendable (List.set (G1.tells k).nodes _ _).length m.dst.toNat y.1; rw [List.length_set, h9]; exact unhide HSD6) (unhide HFW6) (unhide HWAYX))
            rw [unhide HCA] at HSE6
            clear hk6
            go_wp2_with (first | (go_at_call 35; go_must (refine (unhide HSE6).mono ?_); rintro e w7 ⟨rfl, tg7, x7, hG7, hS7, hpb7⟩; replace hG7 := hide hG7; replace hS7 := hide hS7; replace hpb7 := hide hpb7))
            go_roundw
            case rel =>
              refine ⟨k + 1, tg7, x7, by omega, by go_num, ?_, ((unhide HSX).trans ((Stp.drew1 Agr _ _).trans (unhide hS6))).trans ((unhide hS7).mono fun U hU => .inl hU), (unhide hpb7).trans ((unhide hpb6).trans (unhide HPB))⟩
              rw [unhide HEQ]
              have h9 := unhide hG7
              rw [unhide hl6] at h9
              exact h9
            case measure => simp [intOf]; omega

end Go.Proofs.Yteiecbkfganhnaa

namespace Go.Proofs.Yteiecbkfganhnaa
open Go.RowKit Go.MuLone

/-- A tick of node i and the telling, as the walks want them. -/
theorem turn_parts {gb n i : Nat} {G : Gp} {x : GX} {w : World} {tg : Tags} {E : Int} (h : GM w tg gb G x) (hj : J n G) (hi : i < n) (he : El G E) (hE : E < 4611686018427387904) :
    Calls Try.prog 20 #[ptr (x.pb i)] w fun e w' => ∃ v, e = .returned v ∧ ∃ tg1, Stp Agr w tg w' tg1 ∧ Calls Try.prog 16 #[ptr gb, .int .i64 (i : Int), v] w' fun e2 w2 => e2 = .returned (.tuple #[]) ∧ ∃ tg' x', GM w2 tg' gb (G.turn i) x' ∧ Stp Agr w' tg1 w2 tg' ∧ x'.pb = x.pb := by
  have hjt := hj.tick hi
  obtain ⟨gh, hj⟩ := hj
  obtain ⟨h1, h2⟩ := hj.node hi
  refine (gm_tick h h1 h2.ok (by have := he i _ h1; omega)).mono ?_
  rintro e w' ⟨v, rfl, l, tg1, x1, hl, hM, hG, hS, hpb⟩
  refine ⟨v, rfl, tg1, hS, ?_⟩
  have hfew := tick_few (G.node i)
  have hn7 := hj.n7
  have hsd := sendable_tick h2.fid h2.fn
  have heq : (G.put i (G.node i).tick.1).sends (l.map Prod.fst) = G.tick i := by rw [hl]; rfl
  have hT := tell_any gb i n (G.put i (G.node i).tick.1) x1 v l w' tg1 hG hM hj.ok (fun y hy => by
    show Sendable (List.set G.nodes i _).length i y.1
    rw [List.length_set, hj.len]
    exact hsd _ (by rw [← hl]; exact List.mem_map_of_mem hy)) (by rw [← hl, List.length_map, h2.fn] at hfew; omega) hj.way (by rw [heq]; exact hjt)
  refine hT.mono ?_
  rintro e2 w2 ⟨rfl, tg2, x2, hG2, hS2, hpb2⟩
  rw [heq] at hG2
  exact ⟨rfl, tg2, x2, hG2, hS2, hpb2.trans hpb⟩

set_option maxRecDepth 100000 in
set_option maxHeartbeats 1000000 in
theorem round_any (gb n : Nat) (G : Gp) (x : GX) (w : World) (tg : Tags) (E : Int) (h : GM w tg gb G x) (hj : J n G) (he : El G E) (hE : E + 10 < 4611686018427387904) :
    Calls Try.prog 12 #[ptr gb] w fun e w' => e = .returned (.tuple #[]) ∧ ∃ tg' x', GM w' tg' gb (G.roundTo n) x' ∧ Stp Agr w tg w' tg' ∧ x'.pb = x.pb := by
  have H := hide h
  have HJ := hide hj
  have HE := hide he
  have hn7 : n ≤ 7 := by obtain ⟨_, hj'⟩ := hj; exact hj'.n7
  clear h hj he
  go_enter Try.func12, Try.ntmps12
  go_wp2
  go_loopw [2] (fun u wr => ∃ (k : Nat) (tg' : Tags) (x' : GX), k ≤ n ∧ u = .int .i64 k ∧ GM wr tg' gb (G.roundTo k) x' ∧ Stp Agr w tg wr tg' ∧ x'.pb = x.pb) (fun u _ => n - (intOf u).toNat)
  case atStart => exact ⟨0, tg, x, Nat.zero_le _, rfl, unhide H, Stp.refl _ _ _, rfl⟩
  case round =>
    obtain ⟨k, tg1, x1, hk, rfl, hG1, hS1, hpb1⟩ := hrel
    have hJ1 := (unhide HJ).roundTo k hk
    have hE1 := El.roundTo (unhide HE) (unhide HJ) k hk
    have hlen : (G.roundTo k).nodes.length = n := by obtain ⟨_, hj'⟩ := hJ1; exact hj'.len
    obtain ⟨no, nc, hnv⟩ := hG1.nodes.form
    rw [hlen] at hnv
    have c0 := hG1.c0v hnv
    have hgb := hG1.lt
    by_cases hlt : k < n
    · have hki : (k : Int) < (n : Int) := by omega
      obtain ⟨g1, rfl, hat, _⟩ := hG1.at_ (i := k) (by rw [hlen]; exact hlt) (by rw [hlen]; exact hnv)
      have HT := hide (turn_parts hG1 hJ1 hlt hE1 (by omega))
      have HS1 := hide hS1
      have HPB := hide hpb1
      clear hG1 hJ1 hE1 hS1 hpb1 hnv hlen
      go_wp2_with (first | (go_at_call 20; go_must (refine (unhide HT).mono ?_); rintro e w2 ⟨v2, rfl, tg2, hS2, hT2⟩; replace hS2 := hide hS2; replace hT2 := hide hT2) | (go_at_call 16; go_must (refine (unhide hT2).mono ?_); rintro e w3 ⟨rfl, tg3, x3, hG3, hS3, hpb3⟩; replace hG3 := hide hG3; replace hS3 := hide hS3; replace hpb3 := hide hpb3))
      go_roundw
      case rel => exact ⟨k + 1, tg3, x3, by omega, by go_num, unhide hG3, ((unhide HS1).trans (unhide hS2)).trans (unhide hS3), (unhide hpb3).trans (unhide HPB)⟩
      case measure => simp [intOf]; omega
    · have hkn : k = n := by omega
      subst hkn
      have HG1 := hide hG1
      have HS1 := hide hS1
      have HPB := hide hpb1
      clear hG1 hS1 hpb1 hJ1 hE1 hnv hlen
      go_wp2
      go_end0
      exact ⟨rfl, tg1, x1, unhide HG1, unhide HS1, unhide HPB⟩

set_option maxRecDepth 100000 in
set_option maxHeartbeats 1000000 in
theorem head_any (gb n : Nat) (G : Gp) (x : GX) (w : World) (tg : Tags) (h : GM w tg gb G x) (hl : G.nodes.length = n) (hn7 : n ≤ 7) :
    Calls Try.prog 13 #[ptr gb] w fun e w' => e = .returned (.int .i64 (G.headTo n).1) ∧ Below w.heap.size w w' := by
  have H := hide h
  have HL := hide hl
  obtain ⟨no, nc, hnv⟩ := h.nodes.form
  rw [hl] at hnv
  have HNV := hide hnv
  have HG : Hid (∀ wr, Below w.heap.size w wr → GM wr (newTag w.heap.size tg (0, 1)) gb G x) := fun wr hb => (unhide H).below hb
  clear h hl hnv
  go_enter Try.func13, Try.ntmps13
  go_wp2
  go_loopw [3, 4, 5] (fun a t u wr => ∃ k : Nat, k ≤ n ∧ u = .int .i64 k ∧ a = .int .i64 (G.headTo k).1 ∧ t = .int .i64 (G.headTo k).2 ∧ Below w.heap.size w wr) (fun _ _ u _ => n - (intOf u).toNat)
  case atStart => exact ⟨0, Nat.zero_le _, rfl, rfl, rfl, Below.refl _ _⟩
  case round =>
    obtain ⟨k, hk, rfl, rfl, rfl, hb⟩ := hrel
    have h1 := unhide HG _ hb
    have c0 := h1.c0v (unhide HNV)
    have hgb := h1.lt
    by_cases hlt : k < n
    · have hki : (k : Int) < (n : Int) := by omega
      have hkl : k < G.nodes.length := by rw [unhide HL]; exact hlt
      obtain ⟨g1, hg1, hat, _⟩ := h1.at_ (i := k) hkl (by rw [unhide HL]; exact unhide HNV)
      subst hg1
      have hnode : G.nodes[k]? = some (G.node k) := by unfold Gp.node; rw [List.getElem?_eq_getElem hkl]; rfl
      have HST := hide (gm_status h1 hnode)
      have HB := hide hb
      have HH : Hid (G.headTo (k + 1) = if (G.node k).role = 3 ∧ (G.headTo k).2 < (G.node k).term then ((k : Int), (G.node k).term) else G.headTo k) := rfl
      obtain ⟨a, ha⟩ : ∃ a, (G.headTo k).1 = a := ⟨_, rfl⟩
      obtain ⟨t, ht⟩ : ∃ t, (G.headTo k).2 = t := ⟨_, rfl⟩
      rw [ha, ht]
      rw [ht] at HH
      have HA := hide ha
      have HT := hide ht
      obtain ⟨s, hs⟩ : ∃ s, G.node k = s := ⟨_, rfl⟩
      rw [hs] at HST HH
      clear h1 hb ha ht hs hnode
      have HBB : Hid (∀ w2 : World, Below wr.heap.size wr w2 → ∀ o, Below w.heap.size w (w2.alloc o)) := fun w2 h9 o => ((unhide HB).trans (h9.mono (unhide HB).size)).trans ((below_alloc w2 o).mono (Nat.le_trans (unhide HB).size h9.size))
      by_cases hr : s.role = 3
      · by_cases htt : t < s.term
        · have HR : Hid (G.headTo (k + 1) = ((k : Int), s.term)) := by show _ = _; rw [unhide HH, if_pos ⟨hr, htt⟩]
          rw [hr] at HST
          clear hr
          go_wp2_with (first | (go_at_call 10; go_must (refine (unhide HST).mono ?_); rintro e w2 ⟨rfl, hb2⟩; replace hb2 := hide hb2))
          go_roundw
          case rel => exact ⟨k + 1, by omega, by go_num, by rw [unhide HR], by rw [unhide HR], unhide HBB _ (unhide hb2) _⟩
          case measure => simp [intOf]; omega
        · have HR : Hid (G.headTo (k + 1) = G.headTo k) := by show _ = _; rw [unhide HH, if_neg (fun h9 => htt h9.2)]
          rw [hr] at HST
          clear hr
          go_wp2_with (first | (go_at_call 10; go_must (refine (unhide HST).mono ?_); rintro e w2 ⟨rfl, hb2⟩; replace hb2 := hide hb2))
          go_roundw
          case rel => exact ⟨k + 1, by omega, by go_num, by rw [unhide HR, unhide HA], by rw [unhide HR, unhide HT], unhide HBB _ (unhide hb2) _⟩
          case measure => simp [intOf]; omega
      · have HR : Hid (G.headTo (k + 1) = G.headTo k) := by show _ = _; rw [unhide HH, if_neg (fun h9 => hr h9.1)]
        have hrb : (s.role == 3) = false := by simpa using hr
        clear hr
        go_wp2_with (first | (go_at_call 10; go_must (refine (unhide HST).mono ?_); rintro e w2 ⟨rfl, hb2⟩; replace hb2 := hide hb2))
        go_roundw
        case rel => exact ⟨k + 1, by omega, by go_num, by rw [unhide HR, unhide HA], by rw [unhide HR, unhide HT], unhide HBB _ (unhide hb2) _⟩
        case measure => simp [intOf]; omega
    · have hkn : k = n := by omega
      subst hkn
      have HB := hide hb
      clear hb h1
      go_wp2
      go_ret
      exact ⟨rfl, unhide HB⟩

end Go.Proofs.Yteiecbkfganhnaa

namespace Go.Proofs.Yteiecbkfganhnaa
open Go.RowKit Go.MuLone

section
variable {w w' w3 : World} {tg : Tags} {gb : Nat} {G : Gp} {x : GX}

theorem pC_push (pb : Nat → Nat) (n nb : Nat) : pC (upd pb n nb) (n + 1) = pC pb n ++ [ptr nb] := by
  unfold pC
  rw [List.range_succ, List.map_append]
  congr 1
  · apply List.map_congr_left
    intro i hi
    have := List.mem_range.1 hi
    simp [upd, show ¬ i = n by omega]
  · simp [upd]

/-- A node more. -/
theorem GM.addNode {nb : Nat} {s : Nd} {v v' : Value} {o : Obj} (h : GM w tg gb G x) (hb : Below w.heap.size w w') (hnb : w.heap.size ≤ nb) (hN : NB 0 w' nb s v) (hL : w'.ownsRow w.heap.size 78 2 v s.log.length (eC s.log))
    (hg : (w'.alloc o).grownBy w3 x.nv.ownBlock) (hq : w3.ownsRow 0 36 1 v' (G.nodes.length + 1) (pC x.pb G.nodes.length ++ [ptr nb])) (hat : v'.ownBlock = x.nv.ownBlock ∨ v'.ownBlock = some (w'.heap.size + 1)) :
    ∃ tg', GM (w3.setCell ⟨gb, 0, none⟩ v') tg' gb { G with nodes := G.nodes ++ [s] } { x with nv := v', pb := upd x.pb G.nodes.length nb, lv := upd x.lv G.nodes.length v } ∧ Stp Agr w tg (w3.setCell ⟨gb, 0, none⟩ v') tg' := by
  obtain ⟨n, hn⟩ : ∃ n, G.nodes.length = n := ⟨_, rfl⟩
  rw [hn] at hq ⊢
  obtain ⟨tg1, htg⟩ : ∃ tg1 : Tags, tg1 = fun k => if k < w.heap.size then tg k else if k = nb then (2, n) else if v.ownBlock = some k then (3, n) else (0, 1) := ⟨_, rfl⟩
  have told : ∀ k, k < w.heap.size → tg1 k = tg k := fun k hk => by rw [htg]; exact if_pos hk
  have tnew : ∀ k, ¬ k < w.heap.size → tg1 k = if k = nb then (2, n) else if v.ownBlock = some k then (3, n) else (0, 1) := fun k hk => by rw [htg]; exact if_neg hk
  have hs1 : Stp (fun _ => False) w tg w' tg1 := ⟨hb.os, hb.tape, hb.output, hb.size, fun k hk _ => ⟨hb.block k hk, told k hk⟩⟩
  have hvn : v.ownBlock ≠ some nb := by
    intro hx
    rcases hL.2 with ⟨rfl, _⟩ | ⟨g, cap, cur, rfl, _, hg, _⟩
    · cases hx
    · simp [Value.ownBlock] at hx
      subst hx
      have h9 : w'.heap[g]? = some (.cells (ncells 0 s _) 76 (0, 0)) := hN
      rw [hg] at h9
      simp only [Option.some.injEq, Obj.cells.injEq] at h9
      exact absurd h9.2.1 (by decide)
  have hnode : NB 0 w' nb s v ∧ tg1 nb = (2, n) ∧ NL w' s v ∧ Tag tg1 v (3, n) := by
    refine ⟨hN, by rw [tnew nb (by omega), if_pos rfl], owns_base hL (Nat.zero_le _), fun y hy => ?_⟩
    have h2 := (hL.lt y hy).1
    rw [tnew y (by omega), if_neg (fun he => hvn (by rw [← he]; exact hy)), if_pos hy]
  have hs2 : Stp (fun _ => False) w' tg1 (w'.alloc o) (newTag w'.heap.size tg1 (0, 1)) := Stp.alloc w' tg1 o (0, 1)
  have h2 := (h.quiet hs1).quiet hs2
  generalize newTag w'.heap.size tg1 (0, 1) = tg2 at *
  have hs3 : Stp (fun U => U = (1, 1)) (w'.alloc o) tg2 w3 (newTag (w'.alloc o).heap.size tg2 (1, 1)) := ⟨hg.os, hg.tape, hg.output, hg.size, fun k hk hx => ⟨hg.block k hk (fun he => hx (h2.nodes.2 k he.symm)), newTag_old hk⟩⟩
  have htb : newTag (w'.alloc o).heap.size tg2 (1, 1) gb = (1, 0) := (newTag_old h2.lt).trans h2.tb
  have hs4 : Stp (fun U => U = (1, 0)) w3 (newTag (w'.alloc o).heap.size tg2 (1, 1)) (w3.setCell ⟨gb, 0, none⟩ v') (newTag (w'.alloc o).heap.size tg2 (1, 1)) := Stp.setCell (a := ⟨gb, 0, none⟩) htb _
  have htv : Tag (newTag (w'.alloc o).heap.size tg2 (1, 1)) v' (1, 1) := by
    intro y hy
    rcases hat with h1 | h1
    · rw [h1] at hy
      rw [newTag_old (owns_lt h2.nodes.1 y hy)]; exact h2.nodes.2 y hy
    · rw [h1] at hy
      simp at hy; subst hy
      exact newTag_new (by simp)
  have hk3 := hs3.keep gb h2.lt (by rw [h2.tb]; decide)
  generalize newTag (w'.alloc o).heap.size tg2 (1, 1) = tg4 at *
  have hs : Stp (fun U => U = (1, 0) ∨ U = (1, 1)) (w'.alloc o) tg2 (w3.setCell ⟨gb, 0, none⟩ v') tg4 := (hs3.mono fun _ h => .inr h).trans (hs4.mono fun _ h => .inl h)
  have hw := q_step h2.way h2.tw hs (by decide)
  have hlen : ({ G with nodes := G.nodes ++ [s] } : Gp).nodes.length = n + 1 := by show (G.nodes ++ [s]).length = _; rw [List.length_append, hn]; rfl
  refine ⟨tg4, {
    blk := heap_setCell_same w3 gb 0 _ _ v' (hk3.1.trans h2.blk)
    tb := htb
    nodes := by rw [hlen, pC_push]; exact Own.step ⟨hq, htv⟩ hs4 (by decide)
    nd := fun i t hi => by
      have hi' : (G.nodes ++ [s])[i]? = some t := hi
      have hno : ∀ T : Nat × Nat, T.1 = 2 ∨ T.1 = 3 → ¬ (T = (1, 0) ∨ T = (1, 1)) := by
        rintro T (hT | hT) (hx | hx) <;> rw [hx] at hT <;> cases hT
      by_cases hin : i < n
      · rw [List.getElem?_append_left (by rw [hn]; exact hin)] at hi'
        show NB 0 _ (upd x.pb n nb i) t (upd x.lv n v i) ∧ tg4 (upd x.pb n nb i) = (2, i) ∧ NL _ t (upd x.lv n v i) ∧ Tag tg4 (upd x.lv n v i) (3, i)
        rw [show upd x.pb n nb i = x.pb i from if_neg (by omega), show upd x.lv n v i = x.lv i from if_neg (by omega)]
        exact nd_step (h2.nd i t hi') hs (hno _ (.inl rfl)) (hno _ (.inr rfl))
      · rw [List.getElem?_append_right (by omega), hn] at hi'
        by_cases hz : i - n = 0
        · rw [hz] at hi'
          simp at hi'
          subst hi'
          have hie : i = n := by omega
          subst hie
          show NB 0 _ (upd x.pb i nb i) s (upd x.lv i v i) ∧ tg4 (upd x.pb i nb i) = (2, i) ∧ NL _ s (upd x.lv i v i) ∧ Tag tg4 (upd x.lv i v i) (3, i)
          rw [show upd x.pb i nb i = nb from if_pos rfl, show upd x.lv i v i = v from if_pos rfl]
          exact nd_step (nd_step hnode hs2 (fun h => h) (fun h => h)) hs (hno _ (.inl rfl)) (hno _ (.inr rfl))
        · rw [List.getElem?_eq_none (by simp; omega)] at hi'
          cases hi'
    way := hw.1
    tw := hw.2
    wf := h2.wf
    we := fun y hy => owns_step (h2.we y hy).1 (h2.we y hy).2 hs (by decide)
    terms := h2.terms.step hs (by decide)
    heads := h2.heads.step hs (by decide)
    known := h2.known.step hs (by decide) }, ((hs1.mono fun _ h => h.elim).trans (hs2.mono fun _ h => h.elim)).trans (hs.mono fun U hU => by rcases hU with hU | hU <;> rw [hU] <;> exact .inl rfl)⟩

end

theorem infoNode : (Try.prog.info? 36).map (fun i => (i.zero, i.size, i.bytes)) = some (some (.pointer none), 1, 8) := by kernel_rfl

/-- The first k of n nodes. -/
def Gp.firstTo (n k : Nat) : Gp := ⟨(List.range k).map fun i => Nd.made i n 0 (-1) [], [], [], [], [], true⟩

theorem firstTo_succ (n k : Nat) : Gp.firstTo n (k + 1) = { Gp.firstTo n k with nodes := (Gp.firstTo n k).nodes ++ [Nd.made k n 0 (-1) []] } := by
  simp [Gp.firstTo, List.range_succ]

set_option maxRecDepth 100000 in
set_option maxHeartbeats 1000000 in
theorem begun_any (n : Nat) (w : World) (tg : Tags) (h1 : 1 ≤ n) (h2 : n ≤ 7) :
    Calls Try.prog 19 #[.int .i64 (n : Int)] w fun e w' => ∃ gb tg' x', e = .returned (ptr gb) ∧ GM w' tg' gb (Gp.first n) x' ∧ Stp Agr w tg w' tg' := by
  obtain ⟨i0, hi, hz0, hz1, hz2⟩ := info_parts infoNode
  have HG0 : Hid (GM (w.alloc (.cells #[.slice none 0 0, .slice none 0 0, .slice none 0 0, .slice none 0 0, .slice none 0 0, .bool true] 33)) (newTag w.heap.size tg (1, 0)) w.heap.size (Gp.firstTo n 0) ⟨.slice none 0 0, .slice none 0 0, .slice none 0 0, .slice none 0 0, .slice none 0 0, fun _ => 0, fun _ => .slice none 0 0, []⟩) := {
    blk := heap_alloc_new w _
    tb := newTag_new (Nat.le_refl _)
    nodes := Own.nil _ _ _ _ _
    nd := fun i s hi => by simp [Gp.firstTo] at hi
    way := QRow.nil _ _ _
    tw := tag_nil _ _
    wf := rfl
    we := fun y hy => by cases hy
    terms := Own.nil _ _ _ _ _
    heads := Own.nil _ _ _ _ _
    known := Own.nil _ _ _ _ _ }
  have HS0 : Hid (Stp Agr w tg (w.alloc (.cells #[.slice none 0 0, .slice none 0 0, .slice none 0 0, .slice none 0 0, .slice none 0 0, .bool true] 33)) (newTag w.heap.size tg (1, 0))) := Stp.alloc w tg _ _
  go_enter Try.func19, Try.ntmps19
  go_wp2
  generalize w.alloc (.cells #[.slice none 0 0, .slice none 0 0, .slice none 0 0, .slice none 0 0, .slice none 0 0, .bool true] 33) = W at *
  generalize newTag w.heap.size tg (1, 0) = tgW at *
  generalize w.heap.size = B at *
  go_loopw [4] (fun u wr => ∃ (k : Nat) (tg' : Tags) (x' : GX), k ≤ n ∧ u = .int .i64 k ∧ GM wr tg' B (Gp.firstTo n k) x' ∧ Stp Agr W tgW wr tg') (fun u _ => n - (intOf u).toNat)
  case atStart => exact ⟨0, tgW, _, Nat.zero_le _, rfl, unhide HG0, Stp.refl _ _ _⟩
  case round =>
    obtain ⟨k, tg1, x1, hk, rfl, hG1, hS1⟩ := hrel
    by_cases hlt : k < n
    · have hki : (k : Int) < (n : Int) := by omega
      have hlen : (Gp.firstTo n k).nodes.length = k := by simp [Gp.firstTo]
      obtain ⟨no, nc, hnv⟩ := hG1.nodes.form
      rw [hlen] at hnv
      have HNV := hide hnv
      have HG1 := hide hG1
      have HS1 := hide hS1
      have HLN := hide hlen
      clear hG1 hS1 hnv hlen
      go_wp2_with (first | (go_at_call 22; go_must (refine (open_ok k n _ h1 h2 hlt).mono ?_); rintro e w3 ⟨nb, v3, rfl, hnb, hN3, hr3, hb3⟩; have d0 := (GM.below (unhide HG1) hb3).c0v (unhide HNV); have e0 := (GM.below (unhide HG1) hb3).free 0; have hgb := (GM.below (unhide HG1) hb3).lt; have HRA : Hid ((w3.alloc (.cells #[ptr nb] 36)).ownsRow 0 36 1 (.slice no k nc) k (pC x1.pb k)) := (by have h9 := ((GM.below (unhide HG1) hb3).quiet (Stp.alloc (A := fun _ => False) w3 _ (.cells #[ptr nb] 36) (0, 1))).nodes.1; rw [unhide HNV, unhide HLN] at h9; exact h9); replace hN3 := hide hN3; replace hr3 := hide hr3; replace hb3 := hide hb3) | (at_builtin; go_must (refine wpList_append_own_at _ rfl (.tmp 30) (.tmp 32) 28 rfl 0 36 i0 _ 1 8 Try.underlying28 hi hz0 hz1 hz2 rfl (by decide) (.slice no k nc) k (pC x1.pb k) rfl (unhide HRA) ⟨w3.heap.size, 0, none⟩ 1 1 [ptr nb] rfl rfl (cell_one_new _ _ _) (by intro u hu; simp at hu; subst hu; rfl) (by unfold maxLen; omega) (by omega) (Nat.zero_le _) ?_)))
      intro v4 w4 hr4 hg4 _ hat4
      obtain ⟨ao4, cp4, rfl⟩ := owns_form hr4
      have hGA := (GM.below (unhide HG1) (unhide hb3)).quiet (Stp.alloc (A := fun _ => False) w3 _ (.cells #[ptr nb] 36) (0, 1))
      have hbl : w4.heap[B]? = (w3.alloc (.cells #[ptr nb] 36)).heap[B]? := hg4.block B hGA.lt (fun e => by
        have h9 := hGA.nodes.2 B (by rw [unhide HNV]; exact e.symm)
        rw [hGA.tb] at h9; cases h9)
      have k0 : w4.cell? ⟨B, 0, none⟩ = some (.slice no k nc) := (World.cell?_of_block (a := ⟨B, 0, none⟩) hbl).trans (hGA.c0v (unhide HNV))
      have q0 : w4.frozen? ⟨B, 0, none⟩ = false := (World.frozen?_of_block (a := ⟨B, 0, none⟩) hbl).trans (hGA.free 0)
      have hg5 := hg4
      rw [← unhide HNV] at hg5
      have hat5 := hat4
      rw [← unhide HNV] at hat5
      have hr5 : w4.ownsRow 0 36 1 (.slice ao4 (k + 1) cp4) ((Gp.firstTo n k).nodes.length + 1) (pC x1.pb (Gp.firstTo n k).nodes.length ++ [ptr nb]) := by rw [unhide HLN]; exact hr4
      obtain ⟨tg5, hG5, hS5⟩ := (unhide HG1).addNode (s := Nd.made k n 0 (-1) []) (unhide hb3) hnb (unhide hN3) (unhide hr3) hg5 hr5 hat5
      rw [unhide HLN] at hG5
      have HG5 := hide hG5
      have HS5 := hide ((unhide HS1).trans hS5)
      clear hG5 hS5 hg4 hg5 hat4 hat5 hr4 hr5 hbl hGA hnb
      go_wp2
      go_roundw
      case rel =>
        refine ⟨k + 1, tg5, { x1 with nv := .slice ao4 (k + 1) cp4, pb := upd x1.pb k nb, lv := upd x1.lv k v3 }, by omega, by go_num, ?_, unhide HS5⟩
        rw [firstTo_succ]
        exact unhide HG5
      case measure => simp [intOf]; omega
    · have hkn : k = n := by omega
      subst hkn
      have HG1 := hide hG1
      have HS1 := hide hS1
      clear hG1 hS1
      go_wp2
      go_ret
      exact ⟨B, tg1, x1, rfl, unhide HG1, (unhide HS0).trans (unhide HS1)⟩

end Go.Proofs.Yteiecbkfganhnaa

namespace Go.Proofs.Yteiecbkfganhnaa
open Go.RowKit Go.MuLone

theorem below_of_stp {w w' : World} {tg' : Tags} (h : Stp Agr w (fun _ => (0, 0)) w' tg') : Below w.heap.size w w' :=
  ⟨h.os, h.tape, h.output, h.size, fun k hk => (h.keep k hk agr00).1⟩

set_option maxRecDepth 100000 in
set_option maxHeartbeats 2000000 in
theorem steps_any (a p : Int) (hears : Bool) (w : World) (a0 : -9223372036854775808 ≤ a) (a1 : a ≤ 9223372036854775807) (p0 : -9223372036854775808 ≤ p) (p1 : p ≤ 9223372036854775807) (hgood : ∀ n, 2 ≤ n → n ≤ 7 → ∃ i, StepsGood n i) :
    Calls Try.prog 6 #[.int .i64 a, .int .i64 p, .bool hears] w fun e w' => e = .returned (.bool true) ∧ Below w.heap.size w w' := by
  have hq0 := pickZ_lo a 6 (by decide)
  have hq1 := pickZ_hi a 6 (by decide)
  obtain ⟨q, hq⟩ : ∃ q : Nat, pickZ a 6 = (q : Int) := ⟨(pickZ a 6).toNat, by omega⟩
  have HPA : Hid (∀ V : World, Calls Try.prog 9 #[.int .i64 a, .int .i64 6] V fun e w' => e = .returned (.int .i64 (q : Int)) ∧ w' = V) := fun V => by rw [← hq]; exact pick_any a _ V a0 a1 (by decide) (by decide)
  have hr0 := pickZ_lo p 40 (by decide)
  have hr1 := pickZ_hi p 40 (by decide)
  obtain ⟨r, hr⟩ : ∃ r : Nat, pickZ p 40 = (r : Int) := ⟨(pickZ p 40).toNat, by omega⟩
  have HPP : Hid (∀ V : World, Calls Try.prog 9 #[.int .i64 p, .int .i64 40] V fun e w' => e = .returned (.int .i64 (r : Int)) ∧ w' = V) := fun V => by rw [← hr]; exact pick_any p _ V p0 p1 (by decide) (by decide)
  have hq6 : q < 6 := by omega
  have hr40 : r < 40 := by omega
  obtain ⟨n, hn⟩ : ∃ n, n = 2 + q := ⟨_, rfl⟩
  have hnI : (2 + (q : Int)) = (n : Int) := by omega
  have hn2 : 2 ≤ n := by omega
  have hn7 : n ≤ 7 := by omega
  obtain ⟨i, hgd⟩ := hgood n hn2 hn7
  have HGD := hide hgd
  have HNI := hide hnI
  have HJ0 := hide (J.first (n := n) (by omega) hn7)
  clear hgood hgd hq hr hq0 hq1 hr0 hr1 hn hnI
  go_enter Try.func6, Try.ntmps6
  go_wp2_with (first | (go_at_call_of 9 a; refine (unhide HPA _).mono ?_; rintro e wp ⟨rfl, qp⟩; cases qp.symm) | (go_at_call 19; rw [unhide HNI]; go_must (refine (begun_any n w (fun _ => (0, 0)) (by omega) hn7).mono ?_); rintro e w1 ⟨gb, tg1, x1, rfl, hG1, hS1⟩; replace hG1 := hide hG1; replace hS1 := hide hS1))
  go_loopw [9] (fun u wr => ∃ (k : Nat) (tg' : Tags) (x' : GX), k ≤ n ∧ u = .int .i64 k ∧ GM wr tg' gb ((Gp.first n).patTo k) x' ∧ Stp Agr w (fun _ => (0, 0)) wr tg') (fun u _ => n - (intOf u).toNat)
  case atStart => exact ⟨0, tg1, x1, Nat.zero_le _, rfl, unhide hG1, unhide hS1⟩
  case round =>
    obtain ⟨k, tg2, x2, hk, rfl, hG2, hS2⟩ := hrel
    have hJ2 := (unhide HJ0).patTo k hk hn7
    obtain ⟨gh2, hJ2⟩ := hJ2
    have HG2 := hide hG2
    have HS2 := hide hS2
    by_cases hlt : k < n
    · have hki : (k : Int) < (n : Int) := by omega
      obtain ⟨no, nc, hnv⟩ := hG2.nodes.form
      rw [hJ2.len] at hnv
      have c0 := hG2.c0v hnv
      have hgb := hG2.lt
      obtain ⟨g1, rfl, hat, _⟩ := hG2.at_ (i := k) (by rw [hJ2.len]; exact hlt) (by rw [hJ2.len]; exact hnv)
      have HPT := hide (gm_patience hG2 (hJ2.node hlt).1 (4 + 5 * (k : Int)) (by omega) (by omega))
      clear hG2 hS2 hJ2 hnv hG1 hS1
      go_wp2_with (first | (go_at_call 11; go_must (refine (unhide HPT).mono ?_); rintro e w3 ⟨rfl, tg3, x3, hG3, hS3, hpb3⟩; replace hG3 := hide hG3; replace hS3 := hide hS3; clear hpb3))
      go_roundw
      case rel => exact ⟨k + 1, tg3, x3, by omega, by go_num, unhide hG3, (unhide HS2).trans (unhide hS3)⟩
      case measure => simp [intOf]; omega
    · have hkn : k = n := by omega
      subst hkn
      clear hG2 hS2 hJ2 hG1 hS1
      go_wp2
      go_loopw [10] (fun u wr => ∃ (j : Nat) (tg' : Tags) (x' : GX), j ≤ 10 ∧ u = .int .i64 j ∧ GM wr tg' gb (Gp.start k j) x' ∧ Stp Agr w (fun _ => (0, 0)) wr tg') (fun u _ => 10 - (intOf u).toNat)
      case atStart => exact ⟨0, tg2, x2, Nat.zero_le _, rfl, unhide HG2, unhide HS2⟩
      case round =>
        obtain ⟨j, tg4, x4, hj, rfl, hG4, hS4⟩ := hrel
        have hJ4 := J.start (n := k) (by omega) hn7 j
        have hE4 : El (Gp.start k j) (0 + 7 * (j : Int)) := El.rounds (El.patTo (El.zero k) (unhide HJ0) k (Nat.le_refl _) hn7) ((unhide HJ0).patTo k (Nat.le_refl _) hn7) hn7 j
        have HG4 := hide hG4
        have HS4 := hide hS4
        by_cases hjl : j < 10
        · have hji : (j : Int) < 10 := by omega
          have HRO := hide (round_any gb k (Gp.start k j) x4 wr tg4 _ hG4 hJ4 hE4 (by omega))
          clear hG4 hS4 hJ4 hE4
          go_wp2_with (first | (go_at_call 12; go_must (refine (unhide HRO).mono ?_); rintro e w5 ⟨rfl, tg5, x5, hG5, hS5, hpb5⟩; replace hG5 := hide hG5; replace hS5 := hide hS5; clear hpb5))
          go_roundw
          case rel => exact ⟨j + 1, tg5, x5, by omega, by go_num, unhide hG5, (unhide HS4).trans (unhide hS5)⟩
          case measure => simp [intOf]; omega
        · have hj10 : j = 10 := by omega
          subst hj10
          obtain ⟨gh4, hJ4'⟩ := hJ4
          have hHD := head_any gb k (Gp.start k 10) x4 wr tg4 hG4 hJ4'.len hn7
          rw [(unhide HGD).hd] at hHD
          have HHD := hide hHD
          have hik := (unhide HGD).lt
          have hi0 : (0 : Int) ≤ (i : Int) := by omega
          have hii : (i : Int) < (k : Int) := by omega
          obtain ⟨no, nc, hnv⟩ := hG4.nodes.form
          rw [hJ4'.len] at hnv
          obtain ⟨g1, rfl, hat, _⟩ := hG4.at_ (i := i) (by rw [hJ4'.len]; exact hik) (by rw [hJ4'.len]; exact hnv)
          have HNV := hide hnv
          have HJ4 := hide hJ4'
          have HNO := hide (hJ4'.node hik)
          have HE4 := hide hE4
          clear hG4 hS4 hJ4' hE4 hnv hHD HG2 HS2
          go_wp2_with (first | (go_at_call 13; go_must (refine (unhide HHD).mono ?_); rintro e w6 ⟨rfl, hb6⟩; have hG6 := hide ((unhide HG4).below hb6); have hS6 := hide ((unhide HS4).trans (stp_below tg4 hb6)); have d0 := (unhide hG6).c0v (unhide HNV); have d5 := (unhide hG6).c5t (unhide HJ4).ok; have hgb6 := (unhide hG6).lt; have d1 := (hb6.cell (block_lt_of_cell hat)).trans hat; clear hb6) | (go_at_call_of 9 p; refine (unhide HPP _).mono ?_; rintro e wp ⟨rfl, qp⟩; cases qp.symm) | (go_at_call 11; fail))
          refine (gm_patience (unhide hG6) (unhide HNO).1 (1 + (r : Int)) (by omega) (by omega)).mono ?_
          rintro e w7 ⟨rfl, tg7, x7, hG7, hS7, hpb7⟩
          have HS7 := hide ((unhide hS6).trans hS7)
          have HJP : Hid (J k ((Gp.start k 10).patience i (1 + (r : Int)))) := ⟨gh4, (unhide HJ4).patience hik (by omega) (by omega)⟩
          have hel : ((Gp.start k 10).node i).elapsed ≤ 0 + 7 * ((10 : Nat) : Int) := (unhide HE4) i _ (unhide HNO).1
          have HEP : Hid (El ((Gp.start k 10).patience i (1 + (r : Int))) (0 + 7 * ((10 : Nat) : Int))) := (unhide HE4).put (s := ({ (Gp.start k 10).node i with pat := 1 + (r : Int) } : Nd)) hel
          clear hel
          have HCAST : Hid (((1 + r : Nat) : Int) = 1 + (r : Int)) := by show _ = _; omega
          have hG7' : GM w7 tg7 gb ((Gp.start k 10).patience i (1 + (r : Int))) x7 := hG7
          obtain ⟨GP, hGP⟩ : ∃ GP, (Gp.start k 10).patience i (1 + (r : Int)) = GP := ⟨_, rfl⟩
          rw [hGP] at HJP HEP hG7'
          have HGP := hide hGP
          obtain ⟨P, hP⟩ : ∃ P, x4.pb = P := ⟨_, rfl⟩
          rw [hP] at hpb7 ⊢
          clear hG7 hS7 hG6 hS6 d0 d1 d5 hgb6 hat HHD hGP hP HG4 HS4
          replace hG7' := hide hG7'
          have hG7 := hG7'
          clear hG7'
          replace hpb7 := hide hpb7
          cases hears with
          | true =>
            go_wp2
            go_loopw [14] (fun u wr => ∃ (c : Nat) (tg' : Tags) (x' : GX), c ≤ 2 * (1 + r) + 40 ∧ u = .int .i64 c ∧ GM wr tg' gb (GP.turns i c) x' ∧ Stp Agr w (fun _ => (0, 0)) wr tg' ∧ x'.pb = P) (fun u _ => 2 * (1 + r) + 40 - (intOf u).toNat)
            case atStart => exact ⟨0, tg7, x7, Nat.zero_le _, rfl, unhide hG7, unhide HS7, unhide hpb7⟩
            case round =>
              obtain ⟨c, tg8, x8, hc, rfl, hG8, hS8, hpb8⟩ := hrel
              have hJ8 := (unhide HJP).turns (i := i) hik c
              have hE8 := El.turns (unhide HEP) (unhide HJP) (i := i) hik c
              have HS8 := hide hS8
              have HPB8 := hide hpb8
              by_cases hcl : c < 2 * (1 + r) + 40
              · have hci : (c : Int) < 2 * (1 + (r : Int)) + 40 := by omega
                have HT := hide (turn_parts hG8 hJ8 hik hE8 (by omega))
                rw [hpb8] at HT
                clear hG8 hS8 hpb8 hJ8 hE8
                go_wp2_with (first | (go_at_call 20; go_must (refine (unhide HT).mono ?_); rintro e w9 ⟨v9, rfl, tg9, hS9, hT9⟩; replace hS9 := hide hS9; replace hT9 := hide hT9) | (go_at_call 16; go_must (refine (unhide hT9).mono ?_); rintro e w10 ⟨rfl, tg10, x10, hG10, hS10, hpb10⟩; replace hG10 := hide hG10; replace hS10 := hide hS10; replace hpb10 := hide hpb10))
                go_roundw
                case rel => exact ⟨c + 1, tg10, x10, by omega, by go_num, unhide hG10, ((unhide HS8).trans (unhide hS9)).trans (unhide hS10), unhide hpb10⟩
                case measure => simp [intOf]; omega
              · have hce : c = 2 * (1 + r) + 40 := by omega
                have hci : ¬ (c : Int) < 2 * (1 + (r : Int)) + 40 := by omega
                obtain ⟨gh8, hJ8'⟩ := hJ8
                have hn8 := hJ8'.node hik
                have HST := hide (gm_status hG8 hn8.1)
                rw [hpb8] at HST
                have HFI := hide ((unhide HGD).yes (1 + r) (by omega) (by omega))
                have HCE := hide hce
                rw [unhide HCAST, unhide HGP, ← unhide HCE] at HFI
                rw [unhide HFI] at HST
                have c5 := hG8.c5t hJ8'.ok
                have hgb8 := hG8.lt
                have HG8 := hide hG8
                have HOK8 := hide hJ8'.ok
                clear hG8 hS8 hpb8 hJ8' hE8 hn8 hce
                go_wp2_with (first | (go_at_call 10; go_must (refine (unhide HST).mono ?_); rintro e w9 ⟨rfl, hb9⟩; have k5 := ((unhide HG8).below hb9).c5t (unhide HOK8); have hk8 := ((unhide HG8).below hb9).lt; have hS9 := hide ((unhide HS8).trans (stp_below tg8 hb9)); clear hb9))
                go_ret
                exact ⟨rfl, below_of_stp ((unhide hS9).trans (Stp.alloc (A := Agr) _ _ _ (0, 1)))⟩
          | false =>
            go_wp2
            go_loopw [14] (fun u wr => ∃ (c : Nat) (tg' : Tags) (x' : GX), c ≤ 2 * (1 + r) + 40 ∧ u = .int .i64 c ∧ GM wr tg' gb (GP.solo i c) x' ∧ Stp Agr w (fun _ => (0, 0)) wr tg' ∧ x'.pb = P) (fun u _ => 2 * (1 + r) + 40 - (intOf u).toNat)
            case atStart => exact ⟨0, tg7, x7, Nat.zero_le _, rfl, unhide hG7, unhide HS7, unhide hpb7⟩
            case round =>
              obtain ⟨c, tg8, x8, hc, rfl, hG8, hS8, hpb8⟩ := hrel
              have hJ8 := (unhide HJP).solo (i := i) hik c
              have hE8 := El.solo (unhide HEP) (unhide HJP) (i := i) hik c
              have HS8 := hide hS8
              have HPB8 := hide hpb8
              by_cases hcl : c < 2 * (1 + r) + 40
              · have hci : (c : Int) < 2 * (1 + (r : Int)) + 40 := by omega
                obtain ⟨gh8, hJ8'⟩ := hJ8
                have hn8 := hJ8'.node hik
                have HT := hide (gm_tick hG8 hn8.1 hn8.2.ok (by have := hE8 i _ hn8.1; omega))
                rw [hpb8] at HT
                clear hG8 hS8 hpb8 hJ8' hE8 hn8
                go_wp2_with (first | (go_at_call 20; go_must (refine (unhide HT).mono ?_); rintro e w9 ⟨v9, rfl, l9, tg9, x9, hl9, hM9, hG9, hS9, hpb9⟩; replace hG9 := hide hG9; replace hS9 := hide hS9; replace hpb9 := hide hpb9; clear hl9 hM9))
                go_roundw
                case rel => exact ⟨c + 1, tg9, x9, by omega, by go_num, unhide hG9, (unhide HS8).trans (unhide hS9), unhide hpb9⟩
                case measure => simp [intOf]; omega
              · have hce : c = 2 * (1 + r) + 40 := by omega
                have hci : ¬ (c : Int) < 2 * (1 + (r : Int)) + 40 := by omega
                obtain ⟨gh8, hJ8'⟩ := hJ8
                have hn8 := hJ8'.node hik
                have HST := hide (gm_status hG8 hn8.1)
                rw [hpb8] at HST
                have HFI := hide ((unhide HGD).no (1 + r) (by omega) (by omega))
                have HCE := hide hce
                rw [unhide HCAST, unhide HGP, ← unhide HCE] at HFI
                obtain ⟨hf1, hf2⟩ := unhide HFI
                have hrb : (((GP.solo i c).node i).role != 3) = true := by simpa using hf1
                rw [hf2] at HST
                clear hf1 hf2 HFI
                generalize ((GP.solo i c).node i).role = ro at *
                clear hG8 hS8 hpb8 hJ8' hE8 hn8 hce
                go_wp2_with (first | (go_at_call 10; go_must (refine (unhide HST).mono ?_); rintro e w9 ⟨rfl, hb9⟩; have hS9 := hide ((unhide HS8).trans (stp_below tg8 hb9)); clear hb9))
                go_ret
                exact ⟨rfl, below_of_stp ((unhide hS9).trans (Stp.alloc (A := Agr) _ _ _ (0, 1)))⟩

end Go.Proofs.Yteiecbkfganhnaa

namespace Go.Proofs.Yteiecbkfganhnaa
open Go.ChangeShapes Go.WideShapes Go.ChangeAt Go.RowKit Go.Joins

theorem Try.ownP : ownKnob Try.prog.godebug = none := by kernel_rfl

set_option maxRecDepth 100000 in
set_option maxHeartbeats 1000000 in
theorem steps_lifted (os : Os) (started : os.Started) (H : Type) (enc : TypeId × Value → H) :
    ReturnsInHanded {} Try.checked os 6 .any (Rows.stepsSpec.pre6 enc Try.prog Try.f6 Rows.stepsRow.domain false) (Rows.stepsSpec.post enc Try.prog Try.f6 false true false false) := by
  refine returnsInHanded_of_change_sized (C := Try.checked) Try.ownP started (by kernel_rfl) Try.func6
    (ChangeSpec.witness6 (enc := enc) (C := Try.checked) false ⟨#[], #[.int .i64 0, .int .i64 0, .bool false], []⟩ 8 (by kernel_rfl) (by kernel_rfl) (by kernel_rfl) (by kernel_rfl)) ?_
  intro W base args ds gs before hval0 hW _ hsz0 _
  clear hsz0
  have hval : ∀ (j : Nat) t v, Try.f6.params[j]? = some t → args[j]? = some v → Value.okWide Try.prog W .any base t v := hval0
  have hW' := hW
  obtain ⟨p, q, hA0, hV, rfl, _, _⟩ := hW
  have hA : DataW.TrodAll enc Try.prog W 0 (fun _ => true) true Try.f6.params.toList args.toList ds p := hA0
  rw [Try.params6] at hA hval
  obtain ⟨v0, v1, v2, d0, d1, d2, p0, p1, p2, rfl, rfl, rfl, h0, h1, h2⟩ := trodAll_three hA
  obtain ⟨rfl, rfl⟩ := trodVars_none hV
  obtain ⟨id, rfl, rfl, rfl, wid⟩ := open_int Try.underlying3 (hval 0 3 v0 rfl rfl) h0
  obtain ⟨n, rfl, rfl, rfl, wn⟩ := open_int Try.underlying3 (hval 1 3 v1 rfl rfl) h1
  obtain ⟨hb, rfl, rfl, rfl⟩ := open_bool Try.underlying4 (hval 2 4 v2 rfl rfl) h2
  clear hA0 hval0
  simp only [List.append_nil] at hW'
  have b0 := bounds_i64 wid
  have b1 := bounds_i64 wn
  refine (steps_any id n hb W b0.1 b0.2 b1.1 b1.2 steps_all).mono fun e W' ⟨he, hB⟩ => ?_
  subst he
  exact ⟨_, rfl, _, _, _, [], _, [], hW', trodAll_mk1 (shut_bool Try.underlying4 true), trodAll_mk3 (shut_int Try.underlying3 wid) (shut_int Try.underlying3 wn) (shut_bool Try.underlying4 hb), rfl, hB.frame _, fun h => by cases h⟩

theorem steps_holds : Rows.StepsSaid :=
  OpenClaim.holds_of_wide 6 Try.f6 rfl rfl rfl rfl rfl rfl rfl ⟨rfl, rfl, rfl, rfl, rfl⟩ rfl rfl rfl rfl rfl (by kernel_rfl) Try.func6 (by kernel_rfl)
    (of_decide_eq_true (by kernel_rfl)) (by unfold Func.isWrapper; first | (rw [if_pos (by decide +kernel)]; kernel_rfl) | (rw [if_neg (by decide +kernel)]; exact ⟨rfl, rfl⟩))
    (fun os started H enc _ => steps_lifted os started H enc)

end Go.Proofs.Yteiecbkfganhnaa
