/- Proved: whatever the input, quorumkeep.Live returns true, and each argument reads behind the call as it read before. No condition. -/
import Derived.Test.YteiecbkfganhnaaLook
import Derived.Test.YteiecbkfganhnaaAct
import Derived.Test.YteiecbkfganhnaaMem
import Derived.Test.YteiecbkfganhnaaRaft
import Derived.Deep.QuietTactic
import Derived.BigQuiet
import Derived.Test.YteiecbkfganhnaaAlive
import Derived.Test.YteiecbkfganhnaaRows
import Derived.ProofKit
import Derived.SizedLaws
import Derived.Carry
import Derived.Lib.SmallJoins
import Derived.OpenShut
import Derived.Deep.SlicePairs

namespace Go.Proofs.Yteiecbkfganhnaa
open Go.RowKit Go.MuLone

theorem gstep_any (gb n : Nat) (G : Gp) (x : GX) (kind a b E : Int) (w : World) (tg : Tags) (h : GM w tg gb G x) (hj : J n G) (he : El G E) (hE : E + 12 < 4611686018427387904)
    (k0 : -9223372036854775808 ≤ kind) (k1 : kind ≤ 9223372036854775807) (a0 : -9223372036854775808 ≤ a) (a1 : a ≤ 9223372036854775807) (b0 : -9223372036854775808 ≤ b) (b1 : b ≤ 9223372036854775807) :
    Calls Try.prog 26 #[ptr gb, .agg #[.int .i64 kind, .int .i64 a, .int .i64 b]] w fun e w' => e = .returned (.tuple #[]) ∧ ∃ tg' x', GM w' tg' gb (G.step kind a b) x' ∧ Stp Agr w tg w' tg' := by
  have h1 := pickZ_lo kind 8 (by decide)
  have h2 := pickZ_hi kind 8 (by decide)
  have hc : pickZ kind 8 = 0 ∨ pickZ kind 8 = 1 ∨ pickZ kind 8 = 2 ∨ pickZ kind 8 = 3 ∨ pickZ kind 8 = 4 ∨ pickZ kind 8 = 5 ∨ pickZ kind 8 = 6 ∨ pickZ kind 8 = 7 := by omega
  rcases hc with hk | hk | hk | hk | hk | hk | hk | hk
  · exact gstep_0 gb n G x kind a b E w tg h hj he hE k0 k1 a0 a1 b0 b1 hk
  · exact gstep_1 gb n G x kind a b w tg h hj k0 k1 a0 a1 hk
  · exact gstep_2 gb n G x kind a b w tg h hj k0 k1 a0 a1 hk
  · exact gstep_3 gb n G x kind a b w tg h hj k0 k1 a0 a1 hk
  · exact gstep_4 gb n G x kind a b w tg h hj k0 k1 a0 a1 b0 b1 hk
  · exact gstep_5 gb n G x kind a b w tg h hj k0 k1 a0 a1 hk
  · exact gstep_6 gb n G x kind a b w tg h hj k0 k1 a0 a1 b0 b1 hk
  · exact gstep_7 gb n G x kind a b w tg h hj k0 k1 a0 a1 hk

abbrev Stp3 := Int × Int × Int
/-- A slice of steps as they lie in memory. -/
def StepsIn (w : World) (v : Value) (l : List Stp3) : Prop :=
  ∃ ao cap, v = .slice ao l.length cap ∧ ∀ k s, l[k]? = some s → ∃ b off, ao = some ⟨b, off, none⟩ ∧ w.cell? ⟨b, off + k * 3, none⟩ = some (.int .i64 s.1) ∧ w.cell? ⟨b, off + k * 3 + 1, none⟩ = some (.int .i64 s.2.1) ∧ w.cell? ⟨b, off + k * 3 + 2, none⟩ = some (.int .i64 s.2.2)
def inI64 (x : Int) : Prop := -9223372036854775808 ≤ x ∧ x ≤ 9223372036854775807

/-- What has happened, one by one; behind each the group is looked at. -/
def Gp.plays (n : Nat) (g : Gp) : List Stp3 → Gp
  | [] => g
  | s :: l => ((g.step s.1 s.2.1 s.2.2).seenTo n).plays n l

theorem plays_snoc (n : Nat) (g : Gp) (l : List Stp3) (s : Stp3) : g.plays n (l ++ [s]) = ((g.plays n l).step s.1 s.2.1 s.2.2).seenTo n := by
  induction l generalizing g with
  | nil => rfl
  | cons t l ih => exact ih _

theorem seen_el {n : Nat} {g : Gp} {E : Int} (h : El g E) : El (g.seenTo n) E := by
  intro i s hi
  rw [(seenTo_nodes n).1] at hi
  exact h i s hi

theorem plays_inv {n : Nat} {g : Gp} (hj : J n g) (ht : TB g) {E : Int} (h0 : 0 ≤ E) (he : El g E) (l : List Stp3) : J n (g.plays n l) ∧ TB (g.plays n l) ∧ El (g.plays n l) (E + 12 * l.length) := by
  induction l generalizing g E with
  | nil => exact ⟨hj, ht, he.mono (by simp)⟩
  | cons s l ih =>
    obtain ⟨h1, hj1⟩ := J.step hj s.1 s.2.1 s.2.2
    have ht1 := ht.step s.1 s.2.1 s.2.2
    obtain ⟨hj2, ht2⟩ := hj1.seenTo ht1 n (Nat.le_refl _)
    have he2 := seen_el (n := n) (El.step he h0 hj s.1 s.2.1 s.2.2)
    obtain ⟨r1, r2, r3⟩ := ih ⟨h1, hj2⟩ ht2 (by omega) he2
    refine ⟨r1, r2, r3.mono ?_⟩
    simp only [List.length_cons]
    omega

theorem TB.first (n : Nat) : TB (Gp.first n) := ⟨List.nodup_nil, fun t ht => (by cases ht), Nat.zero_le _⟩
theorem El.first (n : Nat) : El (Gp.first n) 0 := by
  intro i s hi
  have hi' : ((List.range n).map fun i => Nd.made i n 0 (-1) [])[i]? = some s := hi
  rw [List.getElem?_map] at hi'
  obtain ⟨j, _, rfl⟩ := Option.map_eq_some_iff.1 hi'
  exact Int.le_refl _

set_option maxRecDepth 100000 in
set_option maxHeartbeats 1000000 in
theorem played_any (n : Nat) (l : List Stp3) (v : Value) (w : World) (tg : Tags) (h1 : 1 ≤ n) (h2 : n ≤ 7) (hv : StepsIn w v l) (hl : l.length * 24 ≤ 140737488351232) (hr : ∀ s ∈ l, inI64 s.1 ∧ inI64 s.2.1 ∧ inI64 s.2.2) (h0 : ∀ k, k < w.heap.size → tg k = (0, 0)) :
    Calls Try.prog 8 #[.int .i64 (n : Int), v] w fun e w' => ∃ gb tg' x', e = .returned (.tuple #[ptr gb, .bool true]) ∧ GM w' tg' gb ((Gp.first n).plays n l) x' ∧ Stp Agr w tg w' tg' := by
  obtain ⟨ao, cap, rfl, hvs⟩ := hv
  have HV := hide hvs
  have HR := hide hr
  have HT0 := hide h0
  have HJ0 := hide (J.first h1 h2)
  clear hvs hr h0
  go_enter Try.func8, Try.ntmps8
  go_wp2_with (first | (go_at_call 19; go_must (refine (begun_any n w tg h1 h2).mono ?_); rintro e w1 ⟨gb, tg1, x1, rfl, hG1, hS1⟩; replace hG1 := hide hG1; replace hS1 := hide hS1))
  go_loopw [7] (fun u wr => ∃ (k : Nat) (tg' : Tags) (x' : GX), k ≤ l.length ∧ u = .int .i64 k ∧ GM wr tg' gb ((Gp.first n).plays n (l.take k)) x' ∧ Stp Agr w tg wr tg') (fun u _ => l.length - (intOf u).toNat)
  case atStart => exact ⟨0, tg1, x1, Nat.zero_le _, rfl, unhide hG1, unhide hS1⟩
  case round =>
    obtain ⟨k, tg2, x2, hk, rfl, hG2, hS2⟩ := hrel
    obtain ⟨hJ2, hT2, hE2⟩ := plays_inv (unhide HJ0) (TB.first n) (E := 0) (Int.le_refl _) (El.first n) (l.take k)
    by_cases hlt : k < l.length
    · have hki : (k : Int) < (l.length : Int) := by omega
      have hk0 : (0 : Int) ≤ (k : Int) := by omega
      obtain ⟨b, off, rfl, a1, a2, a3⟩ := unhide HV k _ (List.getElem?_eq_getElem hlt)
      have hbl : b < w.heap.size := block_lt_of_cell a1
      have hkb := (hS2.keep b hbl (by rw [unhide HT0 b hbl]; exact agr00)).1
      have c1 : wr.cell? ⟨b, off + k * 3, none⟩ = some (.int .i64 l[k].1) := (World.cell?_of_block (a := ⟨b, off + k * 3, none⟩) hkb).trans a1
      have c2 : wr.cell? ⟨b, off + k * 3 + 1, none⟩ = some (.int .i64 l[k].2.1) := (World.cell?_of_block (a := ⟨b, off + k * 3 + 1, none⟩) hkb).trans a2
      have c3 : wr.cell? ⟨b, off + k * 3 + 2, none⟩ = some (.int .i64 l[k].2.2) := (World.cell?_of_block (a := ⟨b, off + k * 3 + 2, none⟩) hkb).trans a3
      obtain ⟨r1, r2, r3⟩ := unhide HR l[k] (List.getElem_mem hlt)
      have HTK := hide (List.take_succ_eq_append_getElem hlt)
      generalize l[k] = s at *
      obtain ⟨kind, a, bb⟩ := s
      simp only at c1 c2 c3 r1 r2 r3
      have htl : (l.take k).length = k := by rw [List.length_take]; omega
      rw [htl] at hE2
      have HST := hide (gstep_any gb n _ x2 kind a bb (0 + 12 * (k : Int)) wr tg2 hG2 hJ2 hE2 (by omega) r1.1 r1.2 r2.1 r2.2 r3.1 r3.2)
      have hJ3 := J.step hJ2 kind a bb
      have hT3 := hT2.step kind a bb
      obtain ⟨gh3, hJ3⟩ := hJ3
      have HJ3 := hide hJ3
      have HT3 := hide hT3
      have HS2 := hide hS2
      have HPS := hide (plays_snoc n (Gp.first n) (l.take k) (kind, a, bb))
      clear hG2 hJ2 hT2 hE2 hS2 a1 a2 a3 r1 r2 r3 hJ3 hT3 hkb htl
      go_wp2_with (first | (go_at_call 26; go_must (refine (unhide HST).mono ?_); rintro e w3 ⟨rfl, tg3, x3, hG3, hS3⟩; replace hG3 := hide hG3; replace hS3 := hide hS3) | (go_at_call 14; go_must (refine (safe_any gb n _ x3 gh3 _ tg3 (unhide hG3) (unhide HJ3) (unhide HT3)).mono ?_); rintro e w4 ⟨rfl, tg4, x4, hG4, hS4⟩; replace hG4 := hide hG4; replace hS4 := hide hS4))
      go_roundw
      case rel =>
        refine ⟨k + 1, tg4, x4, by omega, by go_num, ?_, ((unhide HS2).trans (unhide hS3)).trans (unhide hS4)⟩
        rw [unhide HTK, unhide HPS]
        exact unhide hG4
      case measure => simp [intOf]; omega
    · have hkl : k = l.length := by omega
      subst hkl
      rw [List.take_length] at hG2 hJ2
      obtain ⟨gh2, hJ2⟩ := hJ2
      have HMA := hide (match_any gb n _ x2 wr tg2 hG2 hJ2.len h2 (fun i s hi => (hJ2.ni i s hi).ok) (fun i j s t hi hj k q1 q2 q3 => hJ2.matches hi hj k q1 q2 q3))
      have HG2 := hide hG2
      have HS2 := hide hS2
      clear hG2 hS2 hJ2 hT2 hE2
      go_wp2_with (first | (go_at_call 17; go_must (refine (unhide HMA).mono ?_); rintro e w3 ⟨rfl, hb3⟩; replace hb3 := hide hb3))
      go_ret2
      exact ⟨gb, _, x2, rfl, (unhide HG2).below (unhide hb3), (unhide HS2).trans (stp_below tg2 (unhide hb3))⟩

end Go.Proofs.Yteiecbkfganhnaa

namespace Go.Proofs.Yteiecbkfganhnaa
open Go.RowKit Go.MuLone

set_option maxRecDepth 100000 in
set_option maxHeartbeats 400000 in
theorem slice_one (b off n cap : Nat) (h1 : 0 < n) (h2 : n ≤ cap) : ∃ ad c, (∀ w, (Instr.slice 29 (.slice (some ⟨b, off, none⟩) n cap) (some (.int .i64 1)) none none).run Try.prog w = .ok (.slice (some ad) (n - 1) c) w) ∧ ad.block = b ∧
    ∀ w l, QRow w 50 9 (.slice (some ⟨b, off, none⟩) n cap) n l → QRow w 50 9 (.slice (some ad) (n - 1) c) (n - 1) (l.drop 9) := by
  have i2 : (1 : Int) ≤ (n : Int) := by omega
  by_cases hca : cap = 1
  · refine ⟨⟨b, off, none⟩, cap - 1, fun w => ?_, rfl, fun w l hq => ?_⟩
    · subst hca
      go_simp
    · have hn : n = 1 := by omega
      subst hn
      rcases hq.2 with ⟨hv, _⟩ | ⟨g, o, cp, cur, hv, hg, k1, k2, k3⟩
      · cases hv
      · simp only [Value.slice.injEq, Option.some.injEq, Addr.mk.injEq, and_true, true_and] at hv
        obtain ⟨⟨rfl, rfl⟩, rfl⟩ := hv
        refine ⟨by rw [List.length_drop, hq.1], .inr ⟨b, off, cap - 1, cur, rfl, hg, by omega, by omega, ?_⟩⟩
        have hl := hq.1
        have e9 : l.drop 9 = [] := List.drop_of_length_le (by omega)
        rw [e9]
        simp
  · refine ⟨⟨b, off + 1 * 9, none⟩, cap - 1, fun w => ?_, rfl, fun w l hq => ?_⟩
    · go_simp
    · have h := QRow.drop (m := 1) hq (by omega) rfl
      simpa using h

set_option maxRecDepth 100000 in
set_option maxHeartbeats 2000000 in
theorem tell_any (gb i n : Nat) (G : Gp) (x : GX) (v : Value) (l : List (Msg × Value)) (w : World) (tg : Tags) (h : GM w tg gb G x) (hv : MsgsRow w tg v l) (hok : G.ok = true) (hl : ∀ y ∈ l, Sendable G.nodes.length i y.1) (hlen : l.length ≤ 1000) (hw : G.way.length ≤ 200) (hj : J n (G.sends (l.map Prod.fst))) :
    Calls Try.prog 16 #[ptr gb, .int .i64 (i : Int), v] w fun e w' => e = .returned (.tuple #[]) ∧ ∃ tg' x', GM w' tg' gb ((G.sends (l.map Prod.fst)).tells 3000) x' ∧ Stp Agr w tg w' tg' ∧ x'.pb = x.pb := by
  have HSE := hide (sends_any gb i G x v l w tg h hv hok hl hlen hw)
  have HJ := hide hj
  obtain ⟨G1, hGG⟩ : ∃ G1, G.sends (l.map Prod.fst) = G1 := ⟨_, rfl⟩
  rw [hGG] at HSE HJ hj ⊢
  clear h hv hok hl hj hGG hw hlen
  go_enter Try.func16, Try.ntmps16
  go_wp2_with (first | (go_at_call 35; go_must (refine (unhide HSE).mono ?_); rintro e w1 ⟨rfl, tg1, x1, hG1, hS1, hpb1⟩; replace hG1 := hide hG1; replace hS1 := hide (hS1.mono (B := Agr) fun U hU => .inl hU); replace hpb1 := hide hpb1))
  go_loopw [6] (fun u wr => ∃ (k : Nat) (tg' : Tags) (x' : GX), k ≤ 3000 ∧ u = .int .i64 k ∧ GM wr tg' gb (G1.tells k) x' ∧ Stp Agr w tg wr tg' ∧ x'.pb = x.pb) (fun u _ => 3000 - (intOf u).toNat)
  case atStart => exact ⟨0, tg1, x1, Nat.zero_le _, rfl, unhide hG1, unhide hS1, unhide hpb1⟩
  case round =>
    obtain ⟨k, tg2, x2, hk, rfl, hG2, hS2, hpb2⟩ := hrel
    obtain ⟨gh, hJ2⟩ := (unhide HJ).tells k
    obtain ⟨wo, wc, hwv⟩ := hG2.way.form
    have c1 := hG2.c1v hwv
    have c5 := hG2.c5t hJ2.ok
    have hgb := hG2.lt
    cases hwy : (G1.tells k).way with
    | nil =>
      rw [hwy, List.length_nil] at c1
      have HD : Hid (G1.tells 3000 = G1.tells k) := by
        show _ = _
        have h9 := tells_done hwy (3000 - k)
        rw [show k + (3000 - k) = 3000 by omega] at h9
        exact h9
      have HG2 := hide hG2
      have HS2 := hide hS2
      have HPB := hide hpb2
      clear hG2 hS2 hpb2 hJ2 hwv hwy
      go_wp2
      go_end0
      exact ⟨rfl, tg2, x2, by rw [unhide HD]; exact unhide HG2, unhide HS2, unhide HPB⟩
    | cons mm r =>
      have hwl : (G1.tells k).way.length = r.length + 1 := by rw [hwy]; rfl
      have hr200 := hJ2.way
      rw [hwl] at c1 hwv hr200
      have hpos : (0 : Int) < ((r.length : Int) + 1) := by omega
      by_cases hk3 : k = 3000
      · subst hk3
        have HG2 := hide hG2
        have HS2 := hide hS2
        have HPB := hide hpb2
        clear hG2 hS2 hpb2 hJ2 hwv hwy hwl
        go_wp2
        go_end0
        exact ⟨rfl, tg2, x2, unhide HG2, unhide HS2, unhide HPB⟩
      · have hk3i : (k : Int) < 3000 := by omega
        obtain ⟨yl, hyl⟩ : ∃ yl, x2.wl = yl := ⟨_, rfl⟩
        cases yl with
        | nil =>
          exfalso
          have h9 := hG2.wf
          rw [hyl, hwy] at h9
          simp at h9
        | cons y yr =>
          have h9 := hG2.wf
          rw [hyl, hwy, List.map_cons, List.cons.injEq] at h9
          obtain ⟨hy1, hyr⟩ := h9
          obtain ⟨m, ev⟩ := y
          simp only at hy1
          subst hy1
          have hq2 := hG2.way
          rw [hwv, hwl] at hq2
          obtain ⟨g, off, rfl, v0, v1, v2, v3, v4, v5, v6, v7, v8⟩ := row_msg (k := 0) hq2 (show x2.wl[0]? = some (m, ev) by rw [hyl]; rfl)
          simp only [Nat.zero_mul, Nat.add_zero] at v0 v1 v2 v3 v4 v5 v6 v7 v8
          have HEN := hide (hG2.we (m, ev) (by rw [hyl]; exact List.mem_cons_self ..))
          obtain ⟨eo, ec, hev⟩ := owns_form (unhide HEN).1
          simp only at hev
          subst hev
          have HEN1 : Hid (wr.ownsRow 0 78 2 (.slice eo m.ents.length ec) m.ents.length (eC m.ents) ∧ Tag tg2 (.slice eo m.ents.length ec) (4, 0)) := HEN
          clear HEN
          have hcapq : r.length + 1 ≤ wc := by
            rcases hq2.2 with ⟨hx, _⟩ | ⟨_, _, cp9, _, hx, _, h8, _⟩
            · cases hx
            · simp only [Value.slice.injEq, true_and] at hx; omega
          obtain ⟨ad, c9, sl1, had, hqt⟩ := slice_one g off (r.length + 1) wc (by omega) hcapq
          have hml := hJ2.mi m (by rw [hwy]; exact List.mem_cons_self ..)
          have hd0 := hml.2.1
          have hd1 := hml.2.2.1
          have hdn : m.dst.toNat < n := by omega
          have HND := hide (hJ2.node hdn)
          have HSD := hide (sendable_step (unhide HND).2.fid (unhide HND).2.fn m)
          have HFW := hide (step_few (s := (G1.tells k).node m.dst.toNat) (unhide HND).2.ok.n1 m)
          have HNN := hide (unhide HND).2.fn
          have hcast : ((m.dst.toNat : Nat) : Int) = m.dst := by omega
          have HCA := hide hcast
          have HLEN := hide hJ2.len
          have hd2 : m.dst < ((G1.tells k).nodes.length : Int) := by rw [hJ2.len]; omega
          have HE3 : Hid (m.ents.length < 4611686018427387904) := by show _ < _; have := hml.2.2.2; omega
          have HOKG := hide hJ2.ok
          have hn7 := hJ2.n7
          have hn1 := hJ2.n1
          have HEQ : Hid (G1.tells (k + 1) = Gp.told { G1.tells k with way := r } m) := tell1_cons hwy
          obtain ⟨no, nc, hnv⟩ := hG2.nodes.form
          have hgl : g < wr.heap.size := block_lt_of_cell v0
          have hneB : ¬ gb = wr.heap.size := by omega
          have HG2 := hide hG2
          have HS2 := hide hS2
          have HNV := hide hnv
          have HWV := hide hwv
          have HYL := hide hyl
          have HYR := hide hyr
          have HPB := hide hpb2
          have HAD := hide had
          have HQT := hide hqt
          have HWL := hide hwl
          have f1 := (unhide HG2).free 1
          clear hG2 hS2 hpb2 hJ2 hwy hq2 hml hcast hd1 hwv hyl hyr had hqt hnv hwl hcapq
          go_wp2
          -- the way without its first
          have hlr : (yr : List (Msg × Value)).length = r.length := by have h9 := unhide HYR; rw [← h9, List.length_map]
          have hcut : ∃ tgY, GM (wr.setCell ⟨gb, 1, none⟩ (.slice (some ad) r.length c9)) tgY gb { G1.tells k with way := yr.map Prod.fst } { x2 with wv := .slice (some ad) r.length c9, wl := yr } ∧ Stp (fun U => U.1 = 1) wr tg2 (wr.setCell ⟨gb, 1, none⟩ (.slice (some ad) r.length c9)) tgY := by
            refine (unhide HG2).setWay (w' := wr) ⟨rfl, rfl, rfl, Nat.le_refl _, fun _ _ _ => rfl⟩ ?_ (.inl ?_) (fun y hy => (unhide HG2).we y (by rw [unhide HYL]; exact List.mem_cons_of_mem _ hy))
            · have h9 := (unhide HG2).way
              rw [unhide HWV, unhide HWL] at h9
              have h8 := unhide HQT _ _ h9
              rw [unhide HYL, mC_cons] at h8
              have e9 : (mcells m (.slice eo m.ents.length ec) ++ mC yr).drop 9 = mC yr := by
                have h7 : (mcells m (.slice eo m.ents.length ec)).length = 9 := rfl
                rw [← h7, List.drop_left]
              rw [e9] at h8
              rw [hlr]
              exact h8
            · rw [unhide HWV]; show some ad.block = some g; rw [unhide HAD]
          obtain ⟨tgY, hGY, hSY⟩ := hcut
          rw [unhide HYR] at hGY
          have hszY : (wr.setCell ⟨gb, 1, none⟩ (.slice (some ad) r.length c9)).heap.size = wr.heap.size := by simp [World.setCell]
          have hSA := Stp.alloc (A := fun _ => False) (wr.setCell ⟨gb, 1, none⟩ (.slice (some ad) r.length c9)) tgY (.cells #[.int .i64 m.kind, .int .i64 m.src, .int .i64 m.dst, .int .i64 m.term, .int .i64 m.index, .int .i64 m.logTerm, .int .i64 m.commit, .slice eo m.ents.length ec, .bool m.granted] 50) (0, 1)
          have HGX := hide (hGY.quiet hSA)
          have hEY := owns_step (unhide HEN1).1 (unhide HEN1).2 hSY (by decide)
          have HEX := hide (owns_step hEY.1 hEY.2 hSA (fun h => h))
          have HMX : Hid (((wr.setCell ⟨gb, 1, none⟩ (.slice (some ad) r.length c9)).alloc (.cells #[.int .i64 m.kind, .int .i64 m.src, .int .i64 m.dst, .int .i64 m.term, .int .i64 m.index, .int .i64 m.logTerm, .int .i64 m.commit, .slice eo m.ents.length ec, .bool m.granted] 50)).heap[wr.heap.size]? = some (.cells #[.int .i64 m.kind, .int .i64 m.src, .int .i64 m.dst, .int .i64 m.term, .int .i64 m.index, .int .i64 m.logTerm, .int .i64 m.commit, .slice eo m.ents.length ec, .bool m.granted] 50 (0, 0))) := by
            have h9 := heap_alloc_new (wr.setCell ⟨gb, 1, none⟩ (.slice (some ad) r.length c9)) (.cells #[.int .i64 m.kind, .int .i64 m.src, .int .i64 m.dst, .int .i64 m.term, .int .i64 m.index, .int .i64 m.logTerm, .int .i64 m.commit, .slice eo m.ents.length ec, .bool m.granted] 50)
            rw [hszY] at h9; exact h9
          have HTX : Hid (newTag (wr.setCell ⟨gb, 1, none⟩ (.slice (some ad) r.length c9)).heap.size tgY (0, 1) wr.heap.size = (0, 1)) := newTag_new (Nat.le_of_eq hszY)
          have HSX := hide ((unhide HS2).trans ((hSY.mono (B := Agr) fun U hU => .inl hU).trans (hSA.mono (B := Agr) fun _ h => h.elim)))
          generalize newTag (wr.setCell ⟨gb, 1, none⟩ (.slice (some ad) r.length c9)).heap.size tgY (0, 1) = tgX at *
          have HWAYX : Hid (({ G1.tells k with way := r } : Gp).way.length ≤ 200) := by show r.length ≤ 200; omega
          clear hGY hSY hSA hEY hszY HG2 HS2 HEN1 v0 v1 v2 v3 v4 v5 v6 v7 v8 c1 c5 f1 sl1
          generalize (wr.setCell ⟨gb, 1, none⟩ (.slice (some ad) r.length c9)).alloc (.cells #[.int .i64 m.kind, .int .i64 m.src, .int .i64 m.dst, .int .i64 m.term, .int .i64 m.index, .int .i64 m.logTerm, .int .i64 m.commit, .slice eo m.ents.length ec, .bool m.granted] 50) = WX at *
          have hnj : ({ G1.tells k with way := r } : Gp).nodes[m.dst.toNat]? = some ((G1.tells k).node m.dst.toNat) := (unhide HND).1
          have HGX9 := unhide HGX
          have r0 := HGX9.c0v (show ({ x2 with wv := .slice (some ad) r.length c9, wl := yr } : GX).nv = _ from unhide HNV)
          obtain ⟨g9, hg9, r1, _⟩ := HGX9.at_ (i := m.dst.toNat) (show m.dst.toNat < ({ G1.tells k with way := r } : Gp).nodes.length from by show m.dst.toNat < (G1.tells k).nodes.length; have h9 := unhide HLEN; omega) (show ({ x2 with wv := .slice (some ad) r.length c9, wl := yr } : GX).nv = _ from unhide HNV)
          subst hg9
          have HTD := hide (gm_told (HGX9.quiet (Stp.drew1 _ _ _)) hnj (unhide HND).2.ok m eo ec (unhide HEX).1 (unhide HE3))
          have n0 : WX.cell? ⟨wr.heap.size, 0, none⟩ = some (.int .i64 m.kind) := cell_of_row WX _ 0 _ _ _ (unhide HMX)
          have n1 : WX.cell? ⟨wr.heap.size, 1, none⟩ = some (.int .i64 m.src) := cell_of_row WX _ 1 _ _ _ (unhide HMX)
          have n2 : WX.cell? ⟨wr.heap.size, 2, none⟩ = some (.int .i64 m.dst) := cell_of_row WX _ 2 _ _ _ (unhide HMX)
          have n3 : WX.cell? ⟨wr.heap.size, 3, none⟩ = some (.int .i64 m.term) := cell_of_row WX _ 3 _ _ _ (unhide HMX)
          have n4 : WX.cell? ⟨wr.heap.size, 4, none⟩ = some (.int .i64 m.index) := cell_of_row WX _ 4 _ _ _ (unhide HMX)
          have n5 : WX.cell? ⟨wr.heap.size, 5, none⟩ = some (.int .i64 m.logTerm) := cell_of_row WX _ 5 _ _ _ (unhide HMX)
          have n6 : WX.cell? ⟨wr.heap.size, 6, none⟩ = some (.int .i64 m.commit) := cell_of_row WX _ 6 _ _ _ (unhide HMX)
          have n7 : WX.cell? ⟨wr.heap.size, 7, none⟩ = some (.slice eo m.ents.length ec) := cell_of_row WX _ 7 _ _ _ (unhide HMX)
          have n8 : WX.cell? ⟨wr.heap.size, 8, none⟩ = some (.bool m.granted) := cell_of_row WX _ 8 _ _ _ (unhide HMX)
          clear HGX9 hnj
          go_region_law (first | (go_simp; go_at_call 21; go_must (refine (unhide HTD).mono ?_); rintro e w6 ⟨v6, rfl, l6, tg6, x6, hl6, hM6, hG6, hS6, hpb6⟩; replace hl6 := hide hl6; replace hM6 := hide hM6; replace hG6 := hide hG6; replace hS6 := hide hS6; replace hpb6 := hide hpb6))
          all_goals
            have hk6 := (unhide hS6).keep wr.heap.size (Array.getElem?_eq_some_iff.1 (unhide HMX)).1 (by rw [unhide HTX]; exact agr01)
            have q2 : w6.cell? ⟨wr.heap.size, 2, none⟩ = some (.int .i64 m.dst) := cell_of_row w6 _ 2 _ _ _ (hk6.1.trans (unhide HMX))
            have HSD6 : Hid (∀ y ∈ l6, Sendable n m.dst.toNat y.1) := fun y hy => unhide HSD _ (by rw [← unhide hl6]; exact List.mem_map_of_mem hy)
            have HFW6 : Hid (l6.length ≤ 1000) := by show _ ≤ _; have h9 := unhide HFW; rw [← unhide hl6, List.length_map, unhide HNN] at h9; omega
            have HSE6 := hide (sends_any gb m.dst.toNat _ x6 v6 l6 w6 tg6 (unhide hG6) (unhide hM6) (unhide HOKG) (by have h9 := unhide HLEN; show ∀ y ∈ l6, Sendable (List.set (G1.tells k).nodes _ _).length m.dst.toNat y.1; rw [List.length_set, h9]; exact unhide HSD6) (unhide HFW6) (unhide HWAYX))
            rw [unhide HCA] at HSE6
            clear hk6
            go_wp2_with (first | (go_at_call 35; go_must (refine (unhide HSE6).mono ?_); rintro e w7 ⟨rfl, tg7, x7, hG7, hS7, hpb7⟩; replace hG7 := hide hG7; replace hS7 := hide hS7; replace hpb7 := hide hpb7))
            go_roundw
            case rel =>
              refine ⟨k + 1, tg7, x7, by omega, by go_num, ?_, ((unhide HSX).trans ((Stp.drew1 Agr _ _).trans (unhide hS6))).trans ((unhide hS7).mono fun U hU => .inl hU), (unhide hpb7).trans ((unhide hpb6).trans (unhide HPB))⟩
              rw [unhide HEQ]
              have h9 := unhide hG7
              rw [unhide hl6] at h9
              exact h9
            case measure => simp [intOf]; omega

end Go.Proofs.Yteiecbkfganhnaa

namespace Go.Proofs.Yteiecbkfganhnaa
open Go.RowKit Go.MuLone

/-- A tick of node i and the telling, as the walks want them. -/
theorem turn_parts {gb n i : Nat} {G : Gp} {x : GX} {w : World} {tg : Tags} {E : Int} (h : GM w tg gb G x) (hj : J n G) (hi : i < n) (he : El G E) (hE : E < 4611686018427387904) :
    Calls Try.prog 20 #[ptr (x.pb i)] w fun e w' => ∃ v, e = .returned v ∧ ∃ tg1, Stp Agr w tg w' tg1 ∧ Calls Try.prog 16 #[ptr gb, .int .i64 (i : Int), v] w' fun e2 w2 => e2 = .returned (.tuple #[]) ∧ ∃ tg' x', GM w2 tg' gb (G.turn i) x' ∧ Stp Agr w' tg1 w2 tg' ∧ x'.pb = x.pb := by
  have hjt := hj.tick hi
  obtain ⟨gh, hj⟩ := hj
  obtain ⟨h1, h2⟩ := hj.node hi
  refine (gm_tick h h1 h2.ok (by have := he i _ h1; omega)).mono ?_
  rintro e w' ⟨v, rfl, l, tg1, x1, hl, hM, hG, hS, hpb⟩
  refine ⟨v, rfl, tg1, hS, ?_⟩
  have hfew := tick_few (G.node i)
  have hn7 := hj.n7
  have hsd := sendable_tick h2.fid h2.fn
  have heq : (G.put i (G.node i).tick.1).sends (l.map Prod.fst) = G.tick i := by rw [hl]; rfl
  have hT := tell_any gb i n (G.put i (G.node i).tick.1) x1 v l w' tg1 hG hM hj.ok (fun y hy => by
    show Sendable (List.set G.nodes i _).length i y.1
    rw [List.length_set, hj.len]
    exact hsd _ (by rw [← hl]; exact List.mem_map_of_mem hy)) (by rw [← hl, List.length_map, h2.fn] at hfew; omega) hj.way (by rw [heq]; exact hjt)
  refine hT.mono ?_
  rintro e2 w2 ⟨rfl, tg2, x2, hG2, hS2, hpb2⟩
  rw [heq] at hG2
  exact ⟨rfl, tg2, x2, hG2, hS2, hpb2.trans hpb⟩

set_option maxRecDepth 100000 in
set_option maxHeartbeats 1000000 in
theorem round_any (gb n : Nat) (G : Gp) (x : GX) (w : World) (tg : Tags) (E : Int) (h : GM w tg gb G x) (hj : J n G) (he : El G E) (hE : E + 10 < 4611686018427387904) :
    Calls Try.prog 12 #[ptr gb] w fun e w' => e = .returned (.tuple #[]) ∧ ∃ tg' x', GM w' tg' gb (G.roundTo n) x' ∧ Stp Agr w tg w' tg' ∧ x'.pb = x.pb := by
  have H := hide h
  have HJ := hide hj
  have HE := hide he
  have hn7 : n ≤ 7 := by obtain ⟨_, hj'⟩ := hj; exact hj'.n7
  clear h hj he
  go_enter Try.func12, Try.ntmps12
  go_wp2
  go_loopw [2] (fun u wr => ∃ (k : Nat) (tg' : Tags) (x' : GX), k ≤ n ∧ u = .int .i64 k ∧ GM wr tg' gb (G.roundTo k) x' ∧ Stp Agr w tg wr tg' ∧ x'.pb = x.pb) (fun u _ => n - (intOf u).toNat)
  case atStart => exact ⟨0, tg, x, Nat.zero_le _, rfl, unhide H, Stp.refl _ _ _, rfl⟩
  case round =>
    obtain ⟨k, tg1, x1, hk, rfl, hG1, hS1, hpb1⟩ := hrel
    have hJ1 := (unhide HJ).roundTo k hk
    have hE1 := El.roundTo (unhide HE) (unhide HJ) k hk
    have hlen : (G.roundTo k).nodes.length = n := by obtain ⟨_, hj'⟩ := hJ1; exact hj'.len
    obtain ⟨no, nc, hnv⟩ := hG1.nodes.form
    rw [hlen] at hnv
    have c0 := hG1.c0v hnv
    have hgb := hG1.lt
    by_cases hlt : k < n
    · have hki : (k : Int) < (n : Int) := by omega
      obtain ⟨g1, rfl, hat, _⟩ := hG1.at_ (i := k) (by rw [hlen]; exact hlt) (by rw [hlen]; exact hnv)
      have HT := hide (turn_parts hG1 hJ1 hlt hE1 (by omega))
      have HS1 := hide hS1
      have HPB := hide hpb1
      clear hG1 hJ1 hE1 hS1 hpb1 hnv hlen
      go_wp2_with (first | (go_at_call 20; go_must (refine (unhide HT).mono ?_); rintro e w2 ⟨v2, rfl, tg2, hS2, hT2⟩; replace hS2 := hide hS2; replace hT2 := hide hT2) | (go_at_call 16; go_must (refine (unhide hT2).mono ?_); rintro e w3 ⟨rfl, tg3, x3, hG3, hS3, hpb3⟩; replace hG3 := hide hG3; replace hS3 := hide hS3; replace hpb3 := hide hpb3))
      go_roundw
      case rel => exact ⟨k + 1, tg3, x3, by omega, by go_num, unhide hG3, ((unhide HS1).trans (unhide hS2)).trans (unhide hS3), (unhide hpb3).trans (unhide HPB)⟩
      case measure => simp [intOf]; omega
    · have hkn : k = n := by omega
      subst hkn
      have HG1 := hide hG1
      have HS1 := hide hS1
      have HPB := hide hpb1
      clear hG1 hS1 hpb1 hJ1 hE1 hnv hlen
      go_wp2
      go_end0
      exact ⟨rfl, tg1, x1, unhide HG1, unhide HS1, unhide HPB⟩

set_option maxRecDepth 100000 in
set_option maxHeartbeats 1000000 in
theorem head_any (gb n : Nat) (G : Gp) (x : GX) (w : World) (tg : Tags) (h : GM w tg gb G x) (hl : G.nodes.length = n) (hn7 : n ≤ 7) :
    Calls Try.prog 13 #[ptr gb] w fun e w' => e = .returned (.int .i64 (G.headTo n).1) ∧ Below w.heap.size w w' := by
  have H := hide h
  have HL := hide hl
  obtain ⟨no, nc, hnv⟩ := h.nodes.form
  rw [hl] at hnv
  have HNV := hide hnv
  have HG : Hid (∀ wr, Below w.heap.size w wr → GM wr (newTag w.heap.size tg (0, 1)) gb G x) := fun wr hb => (unhide H).below hb
  clear h hl hnv
  go_enter Try.func13, Try.ntmps13
  go_wp2
  go_loopw [3, 4, 5] (fun a t u wr => ∃ k : Nat, k ≤ n ∧ u = .int .i64 k ∧ a = .int .i64 (G.headTo k).1 ∧ t = .int .i64 (G.headTo k).2 ∧ Below w.heap.size w wr) (fun _ _ u _ => n - (intOf u).toNat)
  case atStart => exact ⟨0, Nat.zero_le _, rfl, rfl, rfl, Below.refl _ _⟩
  case round =>
    obtain ⟨k, hk, rfl, rfl, rfl, hb⟩ := hrel
    have h1 := unhide HG _ hb
    have c0 := h1.c0v (unhide HNV)
    have hgb := h1.lt
    by_cases hlt : k < n
    · have hki : (k : Int) < (n : Int) := by omega
      have hkl : k < G.nodes.length := by rw [unhide HL]; exact hlt
      obtain ⟨g1, hg1, hat, _⟩ := h1.at_ (i := k) hkl (by rw [unhide HL]; exact unhide HNV)
      subst hg1
      have hnode : G.nodes[k]? = some (G.node k) := by unfold Gp.node; rw [List.getElem?_eq_getElem hkl]; rfl
      have HST := hide (gm_status h1 hnode)
      have HB := hide hb
      have HH : Hid (G.headTo (k + 1) = if (G.node k).role = 3 ∧ (G.headTo k).2 < (G.node k).term then ((k : Int), (G.node k).term) else G.headTo k) := rfl
      obtain ⟨a, ha⟩ : ∃ a, (G.headTo k).1 = a := ⟨_, rfl⟩
      obtain ⟨t, ht⟩ : ∃ t, (G.headTo k).2 = t := ⟨_, rfl⟩
      rw [ha, ht]
      rw [ht] at HH
      have HA := hide ha
      have HT := hide ht
      obtain ⟨s, hs⟩ : ∃ s, G.node k = s := ⟨_, rfl⟩
      rw [hs] at HST HH
      clear h1 hb ha ht hs hnode
      have HBB : Hid (∀ w2 : World, Below wr.heap.size wr w2 → ∀ o, Below w.heap.size w (w2.alloc o)) := fun w2 h9 o => ((unhide HB).trans (h9.mono (unhide HB).size)).trans ((below_alloc w2 o).mono (Nat.le_trans (unhide HB).size h9.size))
      by_cases hr : s.role = 3
      · by_cases htt : t < s.term
        · have HR : Hid (G.headTo (k + 1) = ((k : Int), s.term)) := by show _ = _; rw [unhide HH, if_pos ⟨hr, htt⟩]
          rw [hr] at HST
          clear hr
          go_wp2_with (first | (go_at_call 10; go_must (refine (unhide HST).mono ?_); rintro e w2 ⟨rfl, hb2⟩; replace hb2 := hide hb2))
          go_roundw
          case rel => exact ⟨k + 1, by omega, by go_num, by rw [unhide HR], by rw [unhide HR], unhide HBB _ (unhide hb2) _⟩
          case measure => simp [intOf]; omega
        · have HR : Hid (G.headTo (k + 1) = G.headTo k) := by show _ = _; rw [unhide HH, if_neg (fun h9 => htt h9.2)]
          rw [hr] at HST
          clear hr
          go_wp2_with (first | (go_at_call 10; go_must (refine (unhide HST).mono ?_); rintro e w2 ⟨rfl, hb2⟩; replace hb2 := hide hb2))
          go_roundw
          case rel => exact ⟨k + 1, by omega, by go_num, by rw [unhide HR, unhide HA], by rw [unhide HR, unhide HT], unhide HBB _ (unhide hb2) _⟩
          case measure => simp [intOf]; omega
      · have HR : Hid (G.headTo (k + 1) = G.headTo k) := by show _ = _; rw [unhide HH, if_neg (fun h9 => hr h9.1)]
        have hrb : (s.role == 3) = false := by simpa using hr
        clear hr
        go_wp2_with (first | (go_at_call 10; go_must (refine (unhide HST).mono ?_); rintro e w2 ⟨rfl, hb2⟩; replace hb2 := hide hb2))
        go_roundw
        case rel => exact ⟨k + 1, by omega, by go_num, by rw [unhide HR, unhide HA], by rw [unhide HR, unhide HT], unhide HBB _ (unhide hb2) _⟩
        case measure => simp [intOf]; omega
    · have hkn : k = n := by omega
      subst hkn
      have HB := hide hb
      clear hb h1
      go_wp2
      go_ret
      exact ⟨rfl, unhide HB⟩

end Go.Proofs.Yteiecbkfganhnaa

namespace Go.Proofs.Yteiecbkfganhnaa
open Go.RowKit Go.MuLone

/-- All old blocks are as they were. -/
theorem below_of_stp {w w' : World} {tg' : Tags} (h : Stp Agr w (fun _ => (0, 0)) w' tg') : Below w.heap.size w w' :=
  ⟨h.os, h.tape, h.output, h.size, fun k hk => (h.keep k hk agr00).1⟩

theorem gm_local {w w' w0 : World} {tg tg0 : Tags} {gb : Nat} {G : Gp} {x : GX} (h : GM w tg gb G x) (hs : Stp Agr w0 tg0 w tg) (hb : Below w.heap.size w w') (o : Obj) :
    ∃ tg', GM (w'.alloc o) tg' gb G x ∧ Stp Agr w0 tg0 (w'.alloc o) tg' ∧ (w'.alloc o).heap[w'.heap.size]? = some o := by
  have h1 : Stp (fun _ => False) w tg (w'.alloc o) (newTag w'.heap.size (newTag w.heap.size tg (0, 1)) (0, 1)) := (stp_below tg hb).trans (Stp.alloc _ _ o (0, 1))
  exact ⟨_, h.quiet h1, hs.trans (h1.mono (B := Agr) fun _ h => h.elim), heap_alloc_new w' o⟩

theorem put_same {g : Gp} {i : Nat} {s : Nd} (h : g.nodes[i]? = some s) : g.put i s = g := by
  have h1 : g.nodes.set i s = g.nodes := by
    refine List.ext_getElem? fun j => ?_
    by_cases hj : i = j
    · subst hj
      rw [List.getElem?_set_self (List.getElem?_eq_some_iff.1 h).1, h]
    · rw [List.getElem?_set_ne hj]
  show ({ g with nodes := g.nodes.set i s } : Gp) = g
  rw [h1]

/-- No message is on its way any more. -/
theorem gm_silent {w : World} {tg : Tags} {gb : Nat} {G : Gp} {x : GX} (h : GM w tg gb G x) : ∃ tg', GM (w.setCell ⟨gb, 1, none⟩ (.slice none 0 0)) tg' gb { G with way := [] } { x with wv := .slice none 0 0, wl := [] } ∧ Stp Agr w tg (w.setCell ⟨gb, 1, none⟩ (.slice none 0 0)) tg' :=
  h.newWay (wl := []) (Below.refl _ _) ⟨by simp [mC], .inl ⟨rfl, rfl⟩⟩ (fun y hy => by cases hy)

set_option maxRecDepth 100000 in
theorem field_term (r t l c k : Int) (w : World) : (Instr.field 35 (.agg #[.int .i64 r, .int .i64 t, .int .i64 l, .int .i64 c, .int .i64 k]) 1).run Try.prog w = .ok (.int .i64 t) w := by
  have hu := Try.underlying35
  have hl := Try.underlying3
  simp only [Instr.field, Sem.run_bind, run_underlying hu, Result.andThen_ok, asAgg]
  go_simp
set_option maxRecDepth 100000 in
theorem field_last (r t l c k : Int) (w : World) : (Instr.field 35 (.agg #[.int .i64 r, .int .i64 t, .int .i64 l, .int .i64 c, .int .i64 k]) 4).run Try.prog w = .ok (.int .i64 k) w := by
  have hu := Try.underlying35
  have hl := Try.underlying3
  simp only [Instr.field, Sem.run_bind, run_underlying hu, Result.andThen_ok, asAgg]
  go_simp

set_option maxRecDepth 100000 in
set_option maxHeartbeats 4000000 in
theorem live_any (a : Int) (l : List Stp3) (v : Value) (w : World) (ha0 : -9223372036854775808 ≤ a) (ha1 : a ≤ 9223372036854775807) (hv : StepsIn w v l) (hl : l.length * 24 ≤ 140737488351232) (hr : ∀ s ∈ l, inI64 s.1 ∧ inI64 s.2.1 ∧ inI64 s.2.2) :
    Calls Try.prog 4 #[.int .i64 a, v] w fun e w' => e = .returned (.bool true) ∧ Below w.heap.size w w' := by
  have hp0 := pickZ_lo a 7 (by decide)
  have hp1 := pickZ_hi a 7 (by decide)
  obtain ⟨p, hp⟩ : ∃ p : Nat, pickZ a 7 = (p : Int) := ⟨(pickZ a 7).toNat, by omega⟩
  have HP : Hid (∀ V : World, Calls Try.prog 9 #[.int .i64 a, .int .i64 7] V fun e w' => e = .returned (.int .i64 (p : Int)) ∧ w' = V) := fun V => by rw [← hp]; exact pick_any a _ V ha0 ha1 (by decide) (by decide)
  have hp7 : p < 7 := by omega
  obtain ⟨n, hn⟩ : ∃ n, n = 1 + p := ⟨_, rfl⟩
  have HPL := played_any n l v w (fun _ => (0, 0)) (by omega) (by omega) hv hl hr (fun _ _ => rfl)
  have hn7 : n ≤ 7 := by omega
  have hn1 : 1 ≤ n := by omega
  obtain ⟨hJ0, hT0, hE0⟩ := plays_inv (J.first hn1 hn7) (TB.first n) (E := 0) (Int.le_refl _) (El.first n) l
  have e1 : (n : Int) = 1 + (p : Int) := by omega
  obtain ⟨G0, hG0⟩ : ∃ G0, (Gp.first n).plays n l = G0 := ⟨_, rfl⟩
  rw [hG0] at HPL hJ0 hT0 hE0
  obtain ⟨G1, hG1e⟩ : ∃ G1, ({ G0 with way := [] } : Gp) = G1 := ⟨_, rfl⟩
  have hJ1 : J n G1 := by
    obtain ⟨gh, hj⟩ := hJ0
    rw [← hG1e]
    exact ⟨gh, hj.less (fun m hm => by cases hm) (by simp)⟩
  have hT1 : TB G1 := by rw [← hG1e]; exact ⟨hT0.nd, hT0.rg, hT0.kn⟩
  have hE1 : El G1 (0 + 12 * (l.length : Int)) := by rw [← hG1e]; exact hE0
  have hw1 : G1.way = [] := by rw [← hG1e]
  obtain ⟨E, hEe⟩ : ∃ E : Int, 0 + 12 * (l.length : Int) = E := ⟨_, rfl⟩
  have hE70 : E < 100000000000000 := by omega
  rw [hEe] at hE1
  have HPL := hide HPL
  have HGE := hide hG1e
  have HNE := hide e1
  have HJ1 := hide hJ1
  have HT1 := hide hT1
  have HE1 := hide hE1
  have HW1 := hide hw1
  obtain ⟨ao, cap, rfl, _⟩ := hv
  have hft := field_term
  have hfl := field_last
  clear hp hp0 hp1 hr e1 hJ0 hT0 hE0 hG0 hG1e hJ1 hT1 hE1 hw1 hEe hn
  go_enter Try.func4, Try.ntmps4
  go_wp2_with (first | (go_at_call 9; refine (unhide HP _).mono ?_; rintro e wp ⟨rfl, qp⟩; cases qp.symm) | (go_at_call 8; rw [← unhide HNE]; go_must (refine (unhide HPL).mono ?_); rintro e w1 ⟨gb, tg1, x1, rfl, hG1, hS1⟩; have hgb := hG1.lt; have hfr := hG1.free 1; have c1 := hG1.c1; obtain ⟨tg2, hG2, hS2⟩ := gm_silent hG1; rw [unhide HGE] at hG2; have HG2 := hide hG2; have HS2 := hide (hS1.trans hS2); clear hG1 hS1 hG2 hS2))
  go_loopw [7] (fun u wr => ∃ (k : Nat) (tg' : Tags) (x' : GX), k ≤ n ∧ u = .int .i64 k ∧ GM wr tg' gb (G1.patTo k) x' ∧ Stp Agr w (fun _ => (0, 0)) wr tg' ∧ ∀ j, j < k → (G1.node j).term ≤ 999600) (fun u _ => n - (intOf u).toNat)
  case atStart => exact ⟨0, tg2, _, Nat.zero_le _, rfl, unhide HG2, unhide HS2, fun j hj => by omega⟩
  case round =>
    obtain ⟨k, tg3, x3, hk, rfl, hG3, hS3, hlim⟩ := hrel
    have HLIM := hide hlim
    obtain ⟨gh3, hJ3⟩ := (unhide HJ1).patTo k hk hn7
    obtain ⟨no, nc, hnv⟩ := hG3.nodes.form
    rw [hJ3.len] at hnv
    have c0 := hG3.c0v hnv
    have hgb3 := hG3.lt
    have HG3 := hide hG3
    have HS3 := hide hS3
    by_cases hlt : k < n
    · have hki : (k : Int) < (n : Int) := by omega
      obtain ⟨g1, rfl, hat, _⟩ := hG3.at_ (i := k) (by rw [hJ3.len]; exact hlt) (by rw [hJ3.len]; exact hnv)
      have hno := (hJ3.node hlt).1
      have hNT : ((G1.patTo k).node k).term = (G1.node k).term := by rw [patTo_node G1 k (by rw [(unhide HJ1).len]; omega) k, if_neg (by omega)]
      have hST := gm_status hG3 hno
      have HPT := hide (fun (w2 : World) (hb : Below wr.heap.size wr w2) => gm_patience (hG3.below hb) hno (4 + 5 * (k : Int)) (by omega) (by omega))
      obtain ⟨P, hP⟩ : ∃ P, x3.pb k = P := ⟨_, rfl⟩
      obtain ⟨t, ht⟩ : ∃ t, (G1.node k).term = t := ⟨_, rfl⟩
      rw [hNT, ht, hP] at hST
      rw [hP] at hat HPT
      have HST := hide hST
      have HTT := hide ht
      clear hG3 hS3 hJ3 hno hnv hST hNT hlim HG2 HS2 ht
      by_cases hbig : 999600 < t
      · go_wp2_with (first | (go_at_call 10; go_must (refine (unhide HST).mono ?_); rintro e w4 ⟨rfl, hb4⟩; replace hb4 := hide hb4))
        go_ret
        exact ⟨rfl, below_of_stp ((unhide HS3).trans (stp_below tg3 (unhide hb4)))⟩
      · go_wp2_with (first | (go_at_call 10; go_must (refine (unhide HST).mono ?_); rintro e w4 ⟨rfl, hb4⟩; have d0 := (hb4.cell (block_lt_of_cell c0)).trans c0; have d1 := (hb4.cell (block_lt_of_cell hat)).trans hat; replace hb4 := hide hb4) | (go_at_call 11; go_must (refine ((unhide HPT) _ (unhide hb4)).mono ?_); rintro e w5 ⟨rfl, tg5, x5, hG5, hS5, hpb5⟩; replace hG5 := hide hG5; replace hS5 := hide hS5; clear hpb5))
        go_roundw
        case rel =>
          refine ⟨k + 1, tg5, x5, by omega, by go_num, unhide hG5, ((unhide HS3).trans (stp_below tg3 (unhide hb4))).trans (unhide hS5), fun j hj => ?_⟩
          by_cases hjk : j = k
          · rw [hjk, unhide HTT]; omega
          · exact unhide HLIM j (by omega)
        case measure => simp [intOf]; omega
    · have hkn : k = n := by omega
      subst hkn
      clear hG3 hS3 hnv hlim HG2 HS2 hJ3
      go_wp2
      obtain ⟨G2, hG2e⟩ : ∃ G2, G1.patTo k = G2 := ⟨_, rfl⟩
      have hG3 := unhide HG3
      rw [hG2e] at hG3
      have hJ2 : J k G2 := by rw [← hG2e]; exact (unhide HJ1).patTo k (Nat.le_refl _) hn7
      have hE2 : El G2 E := by rw [← hG2e]; exact El.patTo (unhide HE1) (unhide HJ1) k (Nat.le_refl _) hn7
      have hLA := live_all (unhide HJ1) (unhide HW1) (unhide HLIM) (unhide HT1)
      have hTB : TB (G2.rounds k 300) := by rw [← hG2e]; exact Kp.tb ((kp_patTo G1 k).trans (kp_rounds _ k 300)) (unhide HT1)
      rw [hG2e] at hLA
      have HG3' := hide hG3
      have HJ2 := hide hJ2
      have HE2 := hide hE2
      have HLA := hide hLA
      have HTB := hide hTB
      clear hG3 hJ2 hE2 hLA hTB hG2e HG3 HGE HJ1 HT1 HE1 HW1 HLIM
      go_loopw [9] (fun u wr => ∃ (j : Nat) (tg' : Tags) (x' : GX), j ≤ 300 ∧ u = .int .i64 j ∧ GM wr tg' gb (G2.rounds k j) x' ∧ Stp Agr w (fun _ => (0, 0)) wr tg') (fun u _ => 300 - (intOf u).toNat)
      case atStart => exact ⟨0, tg3, x3, Nat.zero_le _, rfl, unhide HG3', unhide HS3⟩
      case round =>
        obtain ⟨j, tg4, x4, hj, rfl, hG4, hS4⟩ := hrel
        have hJ4 := (unhide HJ2).rounds j
        have hE4 := El.rounds (unhide HE2) (unhide HJ2) hn7 j
        have HG4 := hide hG4
        have HS4 := hide hS4
        by_cases hjl : j < 300
        · have hji : (j : Int) < 300 := by omega
          have HRO := hide (round_any gb k (G2.rounds k j) x4 wr tg4 _ hG4 hJ4 hE4 (by omega))
          clear hG4 hS4 hJ4 hE4
          go_wp2_with (first | (go_at_call 12; go_must (refine (unhide HRO).mono ?_); rintro e w5 ⟨rfl, tg5, x5, hG5, hS5, hpb5⟩; replace hG5 := hide hG5; replace hS5 := hide hS5; clear hpb5))
          go_roundw
          case rel => exact ⟨j + 1, tg5, x5, by omega, by go_num, unhide hG5, (unhide HS4).trans (unhide hS5)⟩
          case measure => simp [intOf]; omega
        · have hj3 : j = 300 := by omega
          subst hj3
          obtain ⟨x, hxk, hhd, hro, hJS, hTS, hwS, hl60, hLE⟩ := unhide HLA
          obtain ⟨gh4, hJ4'⟩ := hJ4
          have hHD := head_any gb k (G2.rounds k 300) x4 wr tg4 hG4 hJ4'.len hn7
          rw [hhd] at hHD
          have HHD := hide hHD
          have HSF : Hid (∀ w6 : World, Below wr.heap.size wr w6 → Calls Try.prog 14 #[ptr gb] w6 fun e w' => e = .returned (.bool true) ∧ ∃ tg' x', GM w' tg' gb ((G2.rounds k 300).seenTo k) x' ∧ Stp Agr w (fun _ => (0, 0)) w' tg') := fun w6 hb6 => by
            refine (safe_any gb k _ x4 gh4 w6 _ ((unhide HG4).below hb6) hJ4' (unhide HTB)).mono ?_
            rintro e w7 ⟨h1, tg7, x7, h2, h3⟩
            exact ⟨h1, tg7, x7, h2, ((unhide HS4).trans (stp_below tg4 hb6)).trans h3⟩
          obtain ⟨S, hSe⟩ : ∃ S, (G2.rounds k 300).seenTo k = S := ⟨_, rfl⟩
          rw [hSe] at hro hJS hTS hwS hl60 hLE HSF
          have hES : El S (E + 7 * 300) := by rw [← hSe]; exact seen_el hE4
          have HJS := hide hJS
          have HTS := hide hTS
          have HWS := hide hwS
          have HES := hide hES
          have HLE := hide hLE
          have HRO := hide hro
          have HX : Hid (x < k) := hxk
          have hx0 : ¬ (x : Int) < 0 := by omega
          clear hG4 hS4 hE4 hhd hro hJS hTS hwS hLE hHD hJ4' hSe hES HG4 HS4 HTB HLA HE2 HJ2 HG3' HS3
          go_wp2_with (first | (go_at_call 13; go_must (refine (unhide HHD).mono ?_); rintro e w6 ⟨rfl, hb6⟩; replace hb6 := hide hb6) | (go_at_call 14; go_must (refine (unhide HSF _ (unhide hb6)).mono ?_); rintro e w7 ⟨rfl, tg7, x7, hG7, hS7⟩; obtain ⟨no, nc, hnv⟩ := hG7.nodes.form; rw [(unhide HJS).len] at hnv; have c0 := hG7.c0v hnv; have hgb7 := hG7.lt; obtain ⟨g1, rfl, hat, _⟩ := hG7.at_ (i := x) (by rw [(unhide HJS).len]; exact unhide HX) (by rw [(unhide HJS).len]; exact hnv); have HNV := hide hnv; replace hG7 := hide hG7; replace hS7 := hide hS7; clear hnv) | (go_at_call 15; fail))
          obtain ⟨ghS, hJS⟩ := unhide HJS
          have hnS := hJS.node (unhide HX)
          have hPR := gm_propose (unhide hG7) hnS.1 hnS.2.ok ⟨#[116, 104, 101, 32, 108, 97, 115, 116]⟩
          have HSD := hide (sendable_propose hnS.2.fid hnS.2.fn ⟨#[116, 104, 101, 32, 108, 97, 115, 116]⟩)
          have HLEN := hide hJS.len
          have HOKG := hide hJS.ok
          have HNX := hide hnS
          obtain ⟨PB, hPB⟩ : ∃ PB, x7.pb x = PB := ⟨_, rfl⟩
          rw [hPB] at hPR hat ⊢
          have HPB := hide hPB
          by_cases hfull : 60 ≤ (S.node x).last
          · have hpe : (S.node x).propose ⟨#[116, 104, 101, 32, 108, 97, 115, 116]⟩ = (0, S.node x, [], 5) := by
              unfold Nd.propose
              have he : (S.node x).propErr ⟨#[116, 104, 101, 32, 108, 97, 115, 116]⟩ = 5 := by
                unfold Nd.propErr
                rw [if_neg (by decide), if_neg (fun hx => hx (unhide HRO)), if_pos hfull]
              rw [he, if_neg (by decide)]
            have h60 : (((S.node x).last : Nat) : Int) = 60 := by omega
            rw [hpe] at hPR
            have HPR := hide hPR
            have H60 := hide h60
            clear hPR hpe hfull hl60 h60 hnS hJS hPB HLE HTS HWS HES hx0 c0 hgb7 hat HSD HNV HHD HSF
            refine (unhide HPR).mono ?_
            rintro e w8 ⟨v8, rfl, l8, tg8, x8, hl8, hM8, hG8, hS8, hpb8⟩
            have hG8' : GM w8 tg8 gb S x8 := by
              have h9 : S.put x (S.node x) = S := put_same (unhide HNX).1
              rw [← h9]; exact hG8
            obtain ⟨no8, nc8, hnv8⟩ := hG8'.nodes.form
            rw [unhide HLEN] at hnv8
            have c0 := hG8'.c0v hnv8
            have hgb8 := hG8'.lt
            obtain ⟨g8, rfl, hat8, _⟩ := hG8'.at_ (i := x) (by rw [unhide HLEN]; exact unhide HX) (by rw [unhide HLEN]; exact hnv8)
            have hST := gm_status hG8' (unhide HNX).1
            rw [hpb8, unhide HPB, unhide H60] at hST
            rw [hpb8, unhide HPB] at hat8
            have HST := hide hST
            have HS8 := hide ((unhide hS7).trans hS8)
            obtain ⟨vo8, vc8, rfl⟩ := owns_form hM8.row
            clear hG8 hG8' hM8 hS8 hpb8 hl8 hnv8 hST HPR
            go_wp2_with (first | (go_at_call 10; go_must (refine (unhide HST).mono ?_); rintro e w9 ⟨rfl, hb9⟩; replace hb9 := hide hb9))
            go_ret
            exact ⟨rfl, below_of_stp ((unhide HS8).trans (stp_below _ (unhide hb9)))⟩
          · have hl59 : (S.node x).last < 60 := by omega
            have hLE := unhide HLE ⟨#[116, 104, 101, 32, 108, 97, 115, 116]⟩ (by decide) (by decide) hl59
            have hpe : (S.node x).propose ⟨#[116, 104, 101, 32, 108, 97, 115, 116]⟩ = ((((S.node x).proposeS ⟨#[116, 104, 101, 32, 108, 97, 115, 116]⟩).last : Int), (S.node x).proposeS ⟨#[116, 104, 101, 32, 108, 97, 115, 116]⟩, ((S.node x).proposeS ⟨#[116, 104, 101, 32, 108, 97, 115, 116]⟩).appends, 0) := by
              unfold Nd.propose
              have he : (S.node x).propErr ⟨#[116, 104, 101, 32, 108, 97, 115, 116]⟩ = 0 := by
                unfold Nd.propErr
                rw [if_neg (by decide), if_neg (fun hx => hx (unhide HRO)), if_neg hfull]
              rw [he, if_pos rfl]
            obtain ⟨q, hq⟩ : ∃ q : Nat, (S.node x).log.length + 1 = q := ⟨_, rfl⟩
            have hlq : (((S.node x).proposeS ⟨#[116, 104, 101, 32, 108, 97, 115, 116]⟩).last : Int) = (q : Int) := by
              have h9 : ((S.node x).proposeS ⟨#[116, 104, 101, 32, 108, 97, 115, 116]⟩).last = (S.node x).log.length + 1 := by
                show ((S.node x).log ++ [_]).length = _
                simp
              rw [h9, hq]
            have hJP : J k (S.propose x ⟨#[116, 104, 101, 32, 108, 97, 115, 116]⟩) := hJS.propose (unhide HX) _
            have hEP : El (S.propose x ⟨#[116, 104, 101, 32, 108, 97, 115, 116]⟩) (E + 7 * 300) := El.did (unhide HES) (by rw [propose_el]; exact unhide HES x _ hnS.1) (Int.le_refl _)
            have hsp : (S.put x ((S.node x).propose ⟨#[116, 104, 101, 32, 108, 97, 115, 116]⟩).2.1).sends ((S.node x).propose ⟨#[116, 104, 101, 32, 108, 97, 115, 116]⟩).2.2.1 = S.propose x ⟨#[116, 104, 101, 32, 108, 97, 115, 116]⟩ := rfl
            have hfw := propose_few (S.node x) ⟨#[116, 104, 101, 32, 108, 97, 115, 116]⟩
            rw [hnS.2.fn] at hfw
            have hSD := unhide HSD
            obtain ⟨GP, hGP⟩ : ∃ GP, S.propose x ⟨#[116, 104, 101, 32, 108, 97, 115, 116]⟩ = GP := ⟨_, rfl⟩
            have hkpP : Kp S GP := by rw [← hGP]; exact ⟨rfl, rfl⟩
            have hTP : TB GP := hkpP.tb (unhide HTS)
            rw [hGP] at hJP hEP hsp
            obtain ⟨s', hs'⟩ : ∃ s', ((S.node x).propose ⟨#[116, 104, 101, 32, 108, 97, 115, 116]⟩).2.1 = s' := ⟨_, rfl⟩
            obtain ⟨o', ho'⟩ : ∃ o', ((S.node x).propose ⟨#[116, 104, 101, 32, 108, 97, 115, 116]⟩).2.2.1 = o' := ⟨_, rfl⟩
            have hp1 : ((S.node x).propose ⟨#[116, 104, 101, 32, 108, 97, 115, 116]⟩).1 = (q : Int) := by rw [hpe]; exact hlq
            have hp2 : ((S.node x).propose ⟨#[116, 104, 101, 32, 108, 97, 115, 116]⟩).2.2.2 = 0 := by rw [hpe]
            rw [hp1, hp2, hs', ho'] at hPR
            rw [hs', ho'] at hsp
            rw [ho'] at hfw hSD
            have HPR := hide hPR
            have HSP := hide hsp
            have HFW := hide hfw
            have HSD2 := hide hSD
            have HJP := hide hJP
            have HEP := hide hEP
            have HTP := hide hTP
            have hC := hLE.com
            have hLd := hLE.leads
            have hLg := hLE.log
            have hKn := hLE.known
            rw [hGP, hq] at hKn
            simp only [hGP, hq] at hC hLd hLg
            have HC := hide hC
            have HLD := hide hLd
            have HLG := hide hLg
            have HKN := hide hKn
            have HLL := hide hq
            clear hPR hsp hfw hSD hJP hEP hTP hC hLd hLg hKn hLE hpe hlq hp1 hp2 hs' ho' hkpP hGP hJS hnS hfull hl59 hl60 hPB HLE HTS HES HSD HHD HSF hx0 c0 hgb7 hat HNV HRO hq
            refine (unhide HPR).mono ?_
            rintro e w8 ⟨v8, rfl, l8, tg8, x8, hl8, hM8, hG8, hS8, hpb8⟩
            have hTL := tell_any gb x k _ x8 v8 l8 w8 tg8 hG8 hM8 (by exact unhide HOKG) (by intro y hy; have h9 := unhide HSD2 y.1 (by rw [show o' = _ from hl8.symm]; exact List.mem_map_of_mem hy); show Sendable (List.set _ _ _).length x y.1; rw [List.length_set, unhide HLEN]; exact h9) (by have h9 := unhide HFW; rw [show o' = _ from hl8.symm, List.length_map] at h9; omega) (by show S.way.length ≤ 200; rw [unhide HWS]; exact Nat.zero_le _) (by rw [show l8.map Prod.fst = o' from hl8]; show J k ((S.put x s').sends o'); rw [unhide HSP]; exact unhide HJP)
            rw [show l8.map Prod.fst = o' from hl8] at hTL
            have hTL2 : Calls Try.prog 16 #[ptr gb, .int .i64 (x : Int), v8] w8 fun e w' => e = .returned (.tuple #[]) ∧ ∃ tg' x', GM w' tg' gb (GP.tells 3000) x' ∧ Stp Agr w8 tg8 w' tg' ∧ x'.pb = x8.pb := by
              rw [← unhide HSP]; exact hTL
            have HTL := hide hTL2
            have HS8 := hide ((unhide hS7).trans hS8)
            obtain ⟨vo8, vc8, rfl⟩ := owns_form hM8.row
            clear hTL hTL2 hG8 hM8 hS8 hl8 hpb8 HPR HSP HFW HSD2 hG7 hS7
            go_wp2_with (first | (go_at_call 16; go_must (refine (unhide HTL).mono ?_); rintro e w9 ⟨rfl, tg9, x9, hG9, hS9, hpb9⟩; replace hG9 := hide hG9; replace hS9 := hide hS9; clear hpb9))
            obtain ⟨G5, hG5⟩ : ∃ G5, GP.tells 3000 = G5 := ⟨_, rfl⟩
            have hJ5 : J k G5 := by rw [← hG5]; exact (unhide HJP).tells 3000
            have hE5 : El G5 (E + 7 * 300) := by rw [← hG5]; exact El.tells (unhide HEP) (unhide HJP) 3000
            have hT5 : TB (G5.rounds k 5) := by rw [← hG5]; exact Kp.tb ((kp_tells GP 3000).trans (kp_rounds _ k 5)) (unhide HTP)
            have hG9' := unhide hG9
            rw [hG5] at hG9'
            have hC := unhide HC
            have hLd := unhide HLD
            have hLg := unhide HLG
            have hKn := unhide HKN
            rw [hG5] at hC hLd hLg hKn
            have HC5 := hide hC
            have HLD5 := hide hLd
            have HLG5 := hide hLg
            have HKN5 := hide hKn
            have HJ5 := hide hJ5
            have HE5 := hide hE5
            have HT5 := hide hT5
            have HG9 := hide hG9'
            have HS9 := hide ((unhide HS8).trans (unhide hS9))
            clear hC hLd hLg hKn hJ5 hE5 hT5 hG9' hG9 hS9 hG5 HC HLD HLG HKN HTL HS8 HJP HEP HTP
            go_loopw [15] (fun u wr => ∃ (j : Nat) (tg' : Tags) (x' : GX), j ≤ 5 ∧ u = .int .i64 j ∧ GM wr tg' gb (G5.rounds k j) x' ∧ Stp Agr w (fun _ => (0, 0)) wr tg') (fun u _ => 5 - (intOf u).toNat)
            case atStart => exact ⟨0, tg9, x9, Nat.zero_le _, rfl, unhide HG9, unhide HS9⟩
            case round =>
              obtain ⟨j, tgA, xA, hj, rfl, hGA, hSA⟩ := hrel
              have hJA := (unhide HJ5).rounds j
              have hEA := El.rounds (unhide HE5) (unhide HJ5) hn7 j
              have HGA := hide hGA
              have HSA := hide hSA
              by_cases hjl : j < 5
              · have hji : (j : Int) < 5 := by omega
                have HRA := hide (round_any gb k (G5.rounds k j) xA wr tgA _ hGA hJA hEA (by omega))
                clear hGA hSA hJA hEA
                go_wp2_with (first | (go_at_call 12; go_must (refine (unhide HRA).mono ?_); rintro e wB ⟨rfl, tgB, xB, hGB, hSB, hpbB⟩; replace hGB := hide hGB; replace hSB := hide hSB; clear hpbB))
                go_roundw
                case rel => exact ⟨j + 1, tgB, xB, by omega, by go_num, unhide hGB, (unhide HSA).trans (unhide hSB)⟩
                case measure => simp [intOf]; omega
              · have hj5 : j = 5 := by omega
                subst hj5
                obtain ⟨ghA, hJA'⟩ := hJA
                have hSFA := safe_any gb k (G5.rounds k 5) xA ghA wr tgA hGA hJA' (unhide HT5)
                obtain ⟨hJZ, _⟩ := hJA'.seenTo (unhide HT5) k (Nat.le_refl _)
                obtain ⟨zn, _, _⟩ := seenTo_nodes (g := G5.rounds k 5) k
                obtain ⟨Z, hZ⟩ : ∃ Z, (G5.rounds k 5).seenTo k = Z := ⟨_, rfl⟩
                have hzn : ∀ i, Z.node i = (G5.rounds k 5).node i := fun i => by rw [← hZ]; unfold Gp.node; rw [zn]
                rw [hZ] at hSFA hJZ
                have hKn := unhide HKN5
                rw [hZ] at hKn
                have HSFA := hide hSFA
                have HJZ := hide hJZ
                have HKZ := hide hKn
                have HCZ : Hid (∀ i, i < k → (Z.node i).commit = q ∧ (Z.node i).leads = (x : Int) ∧ (Z.node i).log = (S.node x).log ++ [((S.node x).term, ⟨#[116, 104, 101, 32, 108, 97, 115, 116]⟩)]) := fun i hi => by rw [hzn i]; exact ⟨unhide HC5 i hi, unhide HLD5 i hi, unhide HLG5 i hi⟩
                have HMZ : Hid (∀ (wz : World) (tgz : Tags) (xz : GX), GM wz tgz gb Z xz → Calls Try.prog 17 #[ptr gb] wz fun e w' => e = .returned (.bool true) ∧ Below wz.heap.size wz w') := fun wz tgz xz hz => match_any gb k Z xz wz tgz hz hJZ.len hn7 (fun i s hi => (hJZ.ni i s hi).ok) (fun i j s t hi hj k q1 q2 q3 => hJZ.matches hi hj k q1 q2 q3)
                clear hGA hSA hEA hJA' hSFA hJZ zn hzn hZ hKn HKN5 HC5 HLD5 HLG5 HJ5 HE5 HT5 HGA HG9 HS9
                go_wp2_with (first | (go_at_call 14; go_must (refine (unhide HSFA).mono ?_); rintro e wB ⟨rfl, tgB, xB, hGB, hSB⟩; obtain ⟨ko, kc, hkv⟩ := hGB.known.form; rw [unhide HKZ] at hkv; replace hGB := hide hGB; replace hSB := hide hSB; have HKV := hide hkv; clear hkv) | (go_at_call 17; go_must (refine (unhide HMZ _ _ _ (unhide hGB)).mono ?_); rintro e wC ⟨rfl, hbC⟩; have hGC := (unhide hGB).below hbC; have c4 := hGC.c4; rw [unhide HKV] at c4; have hgbC := hGC.lt; have HSC := hide (((unhide HSA).trans (unhide hSB)).trans (stp_below tgB hbC)); replace hGC := hide hGC; clear hbC))
                go_loopw [17] (fun u wr => ∃ (i : Nat) (tg' : Tags) (x' : GX), i ≤ k ∧ u = .int .i64 i ∧ GM wr tg' gb Z x' ∧ Stp Agr w (fun _ => (0, 0)) wr tg') (fun u _ => k - (intOf u).toNat)
                case atStart => exact ⟨0, _, _, Nat.zero_le _, rfl, unhide hGC, unhide HSC⟩
                case round =>
                  obtain ⟨i, tgD, xD, hi, rfl, hGD, hSD⟩ := hrel
                  obtain ⟨no, nc, hnv⟩ := hGD.nodes.form
                  rw [(unhide HJZ).len] at hnv
                  have c0 := hGD.c0v hnv
                  have hgbD := hGD.lt
                  have HGD := hide hGD
                  have HSD := hide hSD
                  by_cases hik : i < k
                  · have hii : (i : Int) < (k : Int) := by omega
                    obtain ⟨g1, rfl, hat, _⟩ := hGD.at_ (i := i) (by rw [(unhide HJZ).len]; exact hik) (by rw [(unhide HJZ).len]; exact hnv)
                    have hnZ := (unhide HJZ).node hik
                    obtain ⟨hz1, hz2, hz3⟩ := unhide HCZ i hik
                    have hST := gm_status hGD hnZ.1
                    have hCM : ∀ (wE : World) (o : Obj), Below wr.heap.size wr wE → ∃ tg', GM (wE.alloc o) tg' gb Z xD ∧ Stp Agr w (fun _ => (0, 0)) (wE.alloc o) tg' ∧ (wE.alloc o).heap[wE.heap.size]? = some o ∧ Calls Try.prog 18 #[ptr (xD.pb i)] (wE.alloc o) fun e w' => ∃ v, e = .returned v ∧ w'.ownsRow (wE.alloc o).heap.size 9 1 v (Z.node i).cmds.length (tC (Z.node i).cmds) ∧ Below (wE.alloc o).heap.size (wE.alloc o) w' := fun wE o hb => by
                      obtain ⟨tg', h1, h2, h3⟩ := gm_local hGD hSD hb o
                      exact ⟨tg', h1, h2, h3, gm_committed h1 hnZ.1 hnZ.2.ok⟩
                    obtain ⟨m, hm⟩ : ∃ m, (Z.node i).cmds = m ++ [⟨#[116, 104, 101, 32, 108, 97, 115, 116]⟩] := by
                      refine ⟨cmdsTo (Z.node i).log (S.node x).log.length, ?_⟩
                      unfold Nd.cmds
                      rw [hz1, ← unhide HLL]
                      have h9 : (S.node x).log.length < (Z.node i).log.length := by rw [hz3]; simp
                      have h8 : (Z.node i).log[(S.node x).log.length].2 = ⟨#[116, 104, 101, 32, 108, 97, 115, 116]⟩ := by simp [hz3]
                      rw [cmdsTo_yes h9 (by rw [h8]; decide), h8]
                    have hml : (Z.node i).cmds.length = m.length + 1 := by rw [hm]; simp
                    have hmle : m.length ≤ 60 := by
                      have h9 : (Z.node i).cmds.length ≤ (Z.node i).commit := cmdsTo_len _ _
                      have h8 := hnZ.2.ok.com
                      have h7 := hnZ.2.ok.len
                      omega
                    rw [hml, hm] at hCM
                    obtain ⟨P, hP⟩ : ∃ P, xD.pb i = P := ⟨_, rfl⟩
                    rw [hP] at hat hST hCM
                    rw [hz1, hz2] at hST
                    have HST := hide hST
                    have HCM := hide hCM
                    clear hGD hSD hnv hnZ hz1 hz2 hz3 hST hCM hm hml hP hGB hSB hGC HSC
                    go_wp2_with (first | (go_at_call 10; fail))
                    refine (unhide HST).mono ?_
                    rintro e wE ⟨rfl, hbE⟩
                    have d0 := (hbE.cell (block_lt_of_cell c0)).trans c0
                    have d1 := (hbE.cell (block_lt_of_cell hat)).trans hat
                    have l0 : gb < wE.heap.size := block_lt_of_cell d0
                    have l1 : g1 < wE.heap.size := block_lt_of_cell d1
                    have n0 : ¬ gb = wE.heap.size := by omega
                    have n1 : ¬ wE.heap.size = gb := by omega
                    have n2 : ¬ g1 = wE.heap.size := by omega
                    have n3 : ¬ wE.heap.size = g1 := by omega
                    replace hbE := hide hbE
                    go_wp2_with (first | (go_at_call 18; fail))
                    obtain ⟨tgF, hGF, hSF, hBF, hCF⟩ := unhide HCM wE (.cells #[.int .i64 (Z.node i).role, .int .i64 (Z.node i).term, .int .i64 (x : Int), .int .i64 (q : Int), .int .i64 ((Z.node i).last : Int)] 35) (unhide hbE)
                    refine hCF.mono ?_
                    rintro e wG ⟨vG, rfl, hvo, hbG⟩
                    have f2 : (wE.alloc (.cells #[.int .i64 (Z.node i).role, .int .i64 (Z.node i).term, .int .i64 (x : Int), .int .i64 (q : Int), .int .i64 ((Z.node i).last : Int)] 35)).cell? ⟨wE.heap.size, 2, none⟩ = some (.int .i64 (x : Int)) := cell_of_row _ _ 2 _ _ _ hBF
                    have f3 : (wE.alloc (.cells #[.int .i64 (Z.node i).role, .int .i64 (Z.node i).term, .int .i64 (x : Int), .int .i64 (q : Int), .int .i64 ((Z.node i).last : Int)] 35)).cell? ⟨wE.heap.size, 3, none⟩ = some (.int .i64 (q : Int)) := cell_of_row _ _ 3 _ _ _ hBF
                    have k2 := (hbG.cell (block_lt_of_cell f2)).trans f2
                    have k3 := (hbG.cell (block_lt_of_cell f3)).trans f3
                    obtain ⟨vo, vc, rfl⟩ := owns_form hvo
                    obtain ⟨gv, rfl, kv⟩ := own_elem hvo (k := m.length) (v := .string ⟨#[116, 104, 101, 32, 108, 97, 115, 116]⟩) (by simp [tC])
                    have hG' := hide (hGF.below hbG)
                    have hS' := hide (hSF.trans (stp_below _ hbG))
                    have hm1 : ¬ ((m.length + 1 : Nat) : Int) < 1 := by omega
                    clear hGF hSF hBF hCF hvo hbG f2 f3 hbE d0 d1 n0 n1 n2 n3 l0 l1 HST HCM c0 hat
                    go_wp2
                    go_roundw
                    case rel => exact ⟨i + 1, _, _, by omega, by go_num, unhide hG', unhide hS'⟩
                    case measure => simp [intOf]; omega
                  · have hin : i = k := by omega
                    subst hin
                    clear hGD hSD hnv hGB hSB hGC HSC
                    go_wp2
                    go_ret
                    exact ⟨rfl, below_of_stp (unhide HSD)⟩

end Go.Proofs.Yteiecbkfganhnaa

namespace Go.Proofs.Yteiecbkfganhnaa
open Go.ChangeShapes Go.WideShapes Go.ChangeAt Go.RowKit Go.Joins

theorem Try.ownS : ownKnob Try.prog.godebug = none := by kernel_rfl
theorem Try.laidOutS : laidOutB Try.prog = true := by kernel_rfl
theorem Try.bytesT : Try.prog.bytesOf 64 = 24 := by kernel_rfl
theorem Try.cellsT : Try.prog.cellsOf 64 = 3 := by kernel_rfl

/-- A slice of structs of three fields of one cell each, at every index. -/
theorem triple_at {H : Type} {enc : TypeId × Value → H} {P : Program} {w : World} {base : Nat} {spare : Nat → Bool} {held : Bool} {e : TypeId} {f0 f1 f2 : Field} {n : Nat} {a : Addr} {i : Nat} {cs : List Value} {d : DataW H × List MemPlace} (he : P.underlying e = some (.struct #[f0, f1, f2]))
    (o0 : f0.offset = 0) (o1 : f1.offset = 1) (o2 : f2.offset = 2) (c0 : P.cellsOf f0.type = 1) (c1 : P.cellsOf f1.type = 1) (c2 : P.cellsOf f2.type = 1)
    (h1 : w.cells? base (a.add (i * 3)) 3 = some cs) (h2 : DataW.trod enc P w base spare held n e cs = some d) :
    ∃ v0 v1 v2 y0 y1 y2 k, w.cell? (a.add (i * 3)) = some v0 ∧ w.cell? (a.add (i * 3 + 1)) = some v1 ∧ w.cell? (a.add (i * 3 + 2)) = some v2 ∧
      DataW.trod enc P w base spare held k f0.type [v0] = some y0 ∧ DataW.trod enc P w base spare held k f1.type [v1] = some y1 ∧ DataW.trod enc P w base spare held k f2.type [v2] = some y2 := by
  obtain ⟨_, hlen, hcell⟩ := World.cells?_some h1
  obtain ⟨xs, k, hk, hxy, _, hxl, hf⟩ := DataW.trod_struct he h2
  match xs, hxl, cs, hlen with
  | [y0, y1, y2], _, [v0, v1, v2], _ =>
    have g0 := hf 0 f0 rfl
    have g1 := hf 1 f1 rfl
    have g2 := hf 2 f2 rfl
    simp [o0, o1, o2, c0, c1, c2] at g0 g1 g2
    have e0 := hcell 0 (by omega)
    have e1 := hcell 1 (by omega)
    have e2 := hcell 2 (by omega)
    rw [Go.Deep.add_add] at e0 e1 e2
    exact ⟨v0, v1, v2, y0, y1, y2, k, by simpa using e0, by simpa using e1, by simpa using e2, g0, g1, g2⟩

theorem script_opened {H : Type} {enc : TypeId × Value → H} {W : World} {fuel : Nat} {c : Value} {y : DataW H × List MemPlace}
    (h : DataW.trod enc Try.prog W 0 (fun _ => true) true fuel 22 [c] = some y)
    (hz : ∀ E S, y.1 = .slice E S → (E.length + S.length) * 24 ≤ 140737488351232) : ∃ l : List Stp3, StepsIn W c l ∧ l.length * 24 ≤ 140737488351232 ∧ ∀ s ∈ l, inI64 s.1 ∧ inI64 s.2.1 ∧ inI64 s.2.2 := by
  rcases Go.Deep.open_slice Try.underlying22 h with ⟨hc, _⟩ | ⟨a, len, cap, m, n, D, Pl, hc, _, hl, _, hmm, hx, hcell⟩
  · simp at hc
    subst hc
    exact ⟨[], ⟨none, 0, rfl, fun k s hk => by simp at hk⟩, by simp, fun s hs => by cases hs⟩
  · simp at hc
    subst hc
    have hlm : len ≤ m := by rw [hmm]; simp; exact hl
    have hent : ∀ i, i < len → ∃ s : Stp3, W.cell? (a.add (i * 3)) = some (.int .i64 s.1) ∧ W.cell? (a.add (i * 3 + 1)) = some (.int .i64 s.2.1) ∧ W.cell? (a.add (i * 3 + 2)) = some (.int .i64 s.2.2) ∧ inI64 s.1 ∧ inI64 s.2.1 ∧ inI64 s.2.2 := fun i hi => by
      obtain ⟨cs', h1, h2⟩ := hcell i (by omega)
      rw [Try.cellsT] at h1
      obtain ⟨v0, v1, v2, y0, y1, y2, k, e0, e1, e2, g0, g1, g2⟩ := triple_at Try.underlying64 rfl rfl rfl (by kernel_rfl) (by kernel_rfl) (by kernel_rfl) h1 h2
      obtain ⟨x0, q0, _, b0⟩ := DataW.trod_int Try.underlying3 g0
      obtain ⟨x1, q1, _, b1⟩ := DataW.trod_int Try.underlying3 g1
      obtain ⟨x2, q2, _, b2⟩ := DataW.trod_int Try.underlying3 g2
      simp at q0 q1 q2
      subst q0 q1 q2
      exact ⟨(x0, x1, x2), e0, e1, e2, bounds_i64 b0, bounds_i64 b1, bounds_i64 b2⟩
    obtain ⟨f, hf⟩ := Go.Deep.choose_lt hent
    refine ⟨(List.range len).map f, ⟨some a, cap, by simp, fun k s hk => ?_⟩, ?_, ?_⟩
    · simp only [List.getElem?_map] at hk
      by_cases hkl : k < len
      · rw [List.getElem?_range hkl] at hk
        simp at hk
        subst hk
        obtain ⟨h0, h1, h2, _⟩ := hf k hkl
        obtain ⟨b, off, spot⟩ := a
        have hspot : spot = none := by simpa [Addr.add] using World.cell?_spot (hf 0 (by omega)).1
        subst hspot
        refine ⟨b, off, rfl, ?_, ?_, ?_⟩
        · rw [← h0, add_plain]
        · rw [← h1, add_plain, Nat.add_assoc]
        · rw [← h2, add_plain, Nat.add_assoc]
      · rw [List.getElem?_eq_none (by simp; omega)] at hk
        simp at hk
    · have := hz _ _ (by rw [hx])
      simp at this ⊢
      omega
    · intro s hs
      obtain ⟨i, hi, rfl⟩ := List.mem_map.1 hs
      exact (hf i (List.mem_range.1 hi)).2.2.2

end Go.Proofs.Yteiecbkfganhnaa

namespace Go.Proofs.Yteiecbkfganhnaa
open Go.ChangeShapes Go.WideShapes Go.ChangeAt Go.RowKit Go.Joins

set_option maxRecDepth 100000 in
set_option maxHeartbeats 1000000 in
theorem live_lifted (os : Os) (started : os.Started) (H : Type) (enc : TypeId × Value → H) :
    ReturnsInHanded {} Try.checked os 4 .any (Rows.liveSpec.pre6 enc Try.prog Try.f4 Rows.liveRow.domain false) (Rows.liveSpec.post enc Try.prog Try.f4 false true false false) := by
  refine returnsInHanded_of_change_sized (C := Try.checked) Try.ownS started (by kernel_rfl) Try.func4
    (ChangeSpec.witness6 (enc := enc) (C := Try.checked) false ⟨#[], #[.int .i64 0, .slice none 0 0], []⟩ 8 (by kernel_rfl) (by kernel_rfl) (by kernel_rfl) (by kernel_rfl)) ?_
  intro W base args ds gs before hval0 hW _ hsz0 _
  have hsz : (DataW.weightsEach Try.prog (Try.f4.params.toList ++ Rows.liveSpec.plain.varTypes Try.prog) (ds ++ gs)).all (· ≤ reachBytes) = true := hsz0
  clear hsz0
  have hval : ∀ (j : Nat) t v, Try.f4.params[j]? = some t → args[j]? = some v → Value.okWide Try.prog W .any base t v := hval0
  have hW' := hW
  obtain ⟨p, q, hA0, hV, rfl, _, _⟩ := hW
  have hA : DataW.TrodAll enc Try.prog W 0 (fun _ => true) true Try.f4.params.toList args.toList ds p := hA0
  rw [Try.params4] at hA hval hsz
  obtain ⟨v0, v1, d0, d1, p0, p1, rfl, rfl, rfl, h0, h1⟩ := trodAll_two hA
  obtain ⟨rfl, rfl⟩ := trodVars_none hV
  obtain ⟨id, rfl, rfl, rfl, wid⟩ := open_int Try.underlying3 (hval 0 3 v0 rfl rfl) h0
  clear hA0 hval0
  simp only [List.append_nil, List.nil_append] at hW'
  have hlt : ∀ x ∈ p1, x.block < W.heap.size := fun x hx => by simpa using hW'.lt x (by simpa using hx)
  have hargs : ∀ (W' : World), Below W.heap.size W W' → DataW.Trod enc Try.prog W' 0 (fun b => decide (b < W.heap.size)) true 22 _ _ p1 :=
    fun W' hn => Below.trod Try.laidOutS (by kernel_rfl) (of_decide_eq_true (by kernel_rfl)) h1 hn hlt
  obtain ⟨fuel, hf⟩ := h1
  obtain ⟨oa, ol, oc, rfl⟩ := okWide_slice Try.underlying22 (hval 1 22 v1 rfl rfl)
  have hf' : DataW.trod enc Try.prog W 0 (fun _ => true) true fuel 22 [.slice oa ol oc] = some (d1, p1) := by simpa [Value.cells] using hf
  obtain ⟨l, hl1, hl2, hl3⟩ := script_opened hf' (fun E S hy => by
    have hs := sized_slice (e := 64) hsz (j := 1) rfl (by show some d1 = some _; rw [show d1 = _ from hy]) Try.underlying22
    rw [Try.bytesT] at hs
    exact hs)
  have b0 := bounds_i64 wid
  refine (live_any id l _ W b0.1 b0.2 hl1 hl2 hl3).mono fun e W' ⟨he, hB⟩ => ?_
  subst he
  exact ⟨_, rfl, _, _, _, [], _, [], hW', trodAll_mk1 (shut_bool Try.underlying4 true), trodAll_mk2 (shut_int Try.underlying3 wid) (hargs _ hB), rfl, hB.frame _, fun h => by cases h⟩

theorem live_holds : Rows.LiveSaid :=
  OpenClaim.holds_of_wide 4 Try.f4 rfl rfl rfl rfl rfl rfl rfl ⟨rfl, rfl, rfl, rfl, rfl⟩ rfl rfl rfl rfl rfl (by kernel_rfl) Try.func4 (by kernel_rfl)
    (of_decide_eq_true (by kernel_rfl)) (by unfold Func.isWrapper; first | (rw [if_pos (by decide +kernel)]; kernel_rfl) | (rw [if_neg (by decide +kernel)]; exact ⟨rfl, rfl⟩))
    (fun os started H enc _ => live_lifted os started H enc)

end Go.Proofs.Yteiecbkfganhnaa
