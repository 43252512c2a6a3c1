/- Proved: whatever the input, quorumkeep.Safe returns true, and each argument reads behind the call as it read before. No condition. -/
import Derived.Test.YteiecbkfganhnaaLook
import Derived.Test.YteiecbkfganhnaaAct
import Derived.Test.YteiecbkfganhnaaRows
import Derived.ProofKit
import Derived.SizedLaws
import Derived.Carry
import Derived.Lib.SmallJoins
import Derived.OpenShut
import Derived.Deep.SlicePairs

namespace Go.Proofs.Yteiecbkfganhnaa
open Go.RowKit Go.MuLone

theorem gstep_any (gb n : Nat) (G : Gp) (x : GX) (kind a b E : Int) (w : World) (tg : Tags) (h : GM w tg gb G x) (hj : J n G) (he : El G E) (hE : E + 12 < 4611686018427387904)
    (k0 : -9223372036854775808 ≤ kind) (k1 : kind ≤ 9223372036854775807) (a0 : -9223372036854775808 ≤ a) (a1 : a ≤ 9223372036854775807) (b0 : -9223372036854775808 ≤ b) (b1 : b ≤ 9223372036854775807) :
    Calls Try.prog 26 #[ptr gb, .agg #[.int .i64 kind, .int .i64 a, .int .i64 b]] w fun e w' => e = .returned (.tuple #[]) ∧ ∃ tg' x', GM w' tg' gb (G.step kind a b) x' ∧ Stp Agr w tg w' tg' := by
  have h1 := pickZ_lo kind 8 (by decide)
  have h2 := pickZ_hi kind 8 (by decide)
  have hc : pickZ kind 8 = 0 ∨ pickZ kind 8 = 1 ∨ pickZ kind 8 = 2 ∨ pickZ kind 8 = 3 ∨ pickZ kind 8 = 4 ∨ pickZ kind 8 = 5 ∨ pickZ kind 8 = 6 ∨ pickZ kind 8 = 7 := by omega
  rcases hc with hk | hk | hk | hk | hk | hk | hk | hk
  · exact gstep_0 gb n G x kind a b E w tg h hj he hE k0 k1 a0 a1 b0 b1 hk
  · exact gstep_1 gb n G x kind a b w tg h hj k0 k1 a0 a1 hk
  · exact gstep_2 gb n G x kind a b w tg h hj k0 k1 a0 a1 hk
  · exact gstep_3 gb n G x kind a b w tg h hj k0 k1 a0 a1 hk
  · exact gstep_4 gb n G x kind a b w tg h hj k0 k1 a0 a1 b0 b1 hk
  · exact gstep_5 gb n G x kind a b w tg h hj k0 k1 a0 a1 hk
  · exact gstep_6 gb n G x kind a b w tg h hj k0 k1 a0 a1 b0 b1 hk
  · exact gstep_7 gb n G x kind a b w tg h hj k0 k1 a0 a1 hk

abbrev Stp3 := Int × Int × Int
/-- A slice of steps as they lie in memory. -/
def StepsIn (w : World) (v : Value) (l : List Stp3) : Prop :=
  ∃ ao cap, v = .slice ao l.length cap ∧ ∀ k s, l[k]? = some s → ∃ b off, ao = some ⟨b, off, none⟩ ∧ w.cell? ⟨b, off + k * 3, none⟩ = some (.int .i64 s.1) ∧ w.cell? ⟨b, off + k * 3 + 1, none⟩ = some (.int .i64 s.2.1) ∧ w.cell? ⟨b, off + k * 3 + 2, none⟩ = some (.int .i64 s.2.2)
def inI64 (x : Int) : Prop := -9223372036854775808 ≤ x ∧ x ≤ 9223372036854775807

/-- What has happened, one by one; behind each the group is looked at. -/
def Gp.plays (n : Nat) (g : Gp) : List Stp3 → Gp
  | [] => g
  | s :: l => ((g.step s.1 s.2.1 s.2.2).seenTo n).plays n l

theorem plays_snoc (n : Nat) (g : Gp) (l : List Stp3) (s : Stp3) : g.plays n (l ++ [s]) = ((g.plays n l).step s.1 s.2.1 s.2.2).seenTo n := by
  induction l generalizing g with
  | nil => rfl
  | cons t l ih => exact ih _

theorem seen_el {n : Nat} {g : Gp} {E : Int} (h : El g E) : El (g.seenTo n) E := by
  intro i s hi
  rw [(seenTo_nodes n).1] at hi
  exact h i s hi

theorem plays_inv {n : Nat} {g : Gp} (hj : J n g) (ht : TB g) {E : Int} (h0 : 0 ≤ E) (he : El g E) (l : List Stp3) : J n (g.plays n l) ∧ TB (g.plays n l) ∧ El (g.plays n l) (E + 12 * l.length) := by
  induction l generalizing g E with
  | nil => exact ⟨hj, ht, he.mono (by simp)⟩
  | cons s l ih =>
    obtain ⟨h1, hj1⟩ := J.step hj s.1 s.2.1 s.2.2
    have ht1 := ht.step s.1 s.2.1 s.2.2
    obtain ⟨hj2, ht2⟩ := hj1.seenTo ht1 n (Nat.le_refl _)
    have he2 := seen_el (n := n) (El.step he h0 hj s.1 s.2.1 s.2.2)
    obtain ⟨r1, r2, r3⟩ := ih ⟨h1, hj2⟩ ht2 (by omega) he2
    refine ⟨r1, r2, r3.mono ?_⟩
    simp only [List.length_cons]
    omega

theorem TB.first (n : Nat) : TB (Gp.first n) := ⟨List.nodup_nil, fun t ht => (by cases ht), Nat.zero_le _⟩
theorem El.first (n : Nat) : El (Gp.first n) 0 := by
  intro i s hi
  have hi' : ((List.range n).map fun i => Nd.made i n 0 (-1) [])[i]? = some s := hi
  rw [List.getElem?_map] at hi'
  obtain ⟨j, _, rfl⟩ := Option.map_eq_some_iff.1 hi'
  exact Int.le_refl _

set_option maxRecDepth 100000 in
set_option maxHeartbeats 1000000 in
theorem played_any (n : Nat) (l : List Stp3) (v : Value) (w : World) (tg : Tags) (h1 : 1 ≤ n) (h2 : n ≤ 7) (hv : StepsIn w v l) (hl : l.length * 24 ≤ 140737488351232) (hr : ∀ s ∈ l, inI64 s.1 ∧ inI64 s.2.1 ∧ inI64 s.2.2) (h0 : ∀ k, k < w.heap.size → tg k = (0, 0)) :
    Calls Try.prog 8 #[.int .i64 (n : Int), v] w fun e w' => ∃ gb tg' x', e = .returned (.tuple #[ptr gb, .bool true]) ∧ GM w' tg' gb ((Gp.first n).plays n l) x' ∧ Stp Agr w tg w' tg' := by
  obtain ⟨ao, cap, rfl, hvs⟩ := hv
  have HV := hide hvs
  have HR := hide hr
  have HT0 := hide h0
  have HJ0 := hide (J.first h1 h2)
  clear hvs hr h0
  go_enter Try.func8, Try.ntmps8
  go_wp2_with (first | (go_at_call 19; go_must (refine (begun_any n w tg h1 h2).mono ?_); rintro e w1 ⟨gb, tg1, x1, rfl, hG1, hS1⟩; replace hG1 := hide hG1; replace hS1 := hide hS1))
  go_loopw [7] (fun u wr => ∃ (k : Nat) (tg' : Tags) (x' : GX), k ≤ l.length ∧ u = .int .i64 k ∧ GM wr tg' gb ((Gp.first n).plays n (l.take k)) x' ∧ Stp Agr w tg wr tg') (fun u _ => l.length - (intOf u).toNat)
  case atStart => exact ⟨0, tg1, x1, Nat.zero_le _, rfl, unhide hG1, unhide hS1⟩
  case round =>
    obtain ⟨k, tg2, x2, hk, rfl, hG2, hS2⟩ := hrel
    obtain ⟨hJ2, hT2, hE2⟩ := plays_inv (unhide HJ0) (TB.first n) (E := 0) (Int.le_refl _) (El.first n) (l.take k)
    by_cases hlt : k < l.length
    · have hki : (k : Int) < (l.length : Int) := by omega
      have hk0 : (0 : Int) ≤ (k : Int) := by omega
      obtain ⟨b, off, rfl, a1, a2, a3⟩ := unhide HV k _ (List.getElem?_eq_getElem hlt)
      have hbl : b < w.heap.size := block_lt_of_cell a1
      have hkb := (hS2.keep b hbl (by rw [unhide HT0 b hbl]; exact agr00)).1
      have c1 : wr.cell? ⟨b, off + k * 3, none⟩ = some (.int .i64 l[k].1) := (World.cell?_of_block (a := ⟨b, off + k * 3, none⟩) hkb).trans a1
      have c2 : wr.cell? ⟨b, off + k * 3 + 1, none⟩ = some (.int .i64 l[k].2.1) := (World.cell?_of_block (a := ⟨b, off + k * 3 + 1, none⟩) hkb).trans a2
      have c3 : wr.cell? ⟨b, off + k * 3 + 2, none⟩ = some (.int .i64 l[k].2.2) := (World.cell?_of_block (a := ⟨b, off + k * 3 + 2, none⟩) hkb).trans a3
      obtain ⟨r1, r2, r3⟩ := unhide HR l[k] (List.getElem_mem hlt)
      have HTK := hide (List.take_succ_eq_append_getElem hlt)
      generalize l[k] = s at *
      obtain ⟨kind, a, bb⟩ := s
      simp only at c1 c2 c3 r1 r2 r3
      have htl : (l.take k).length = k := by rw [List.length_take]; omega
      rw [htl] at hE2
      have HST := hide (gstep_any gb n _ x2 kind a bb (0 + 12 * (k : Int)) wr tg2 hG2 hJ2 hE2 (by omega) r1.1 r1.2 r2.1 r2.2 r3.1 r3.2)
      have hJ3 := J.step hJ2 kind a bb
      have hT3 := hT2.step kind a bb
      obtain ⟨gh3, hJ3⟩ := hJ3
      have HJ3 := hide hJ3
      have HT3 := hide hT3
      have HS2 := hide hS2
      have HPS := hide (plays_snoc n (Gp.first n) (l.take k) (kind, a, bb))
      clear hG2 hJ2 hT2 hE2 hS2 a1 a2 a3 r1 r2 r3 hJ3 hT3 hkb htl
      go_wp2_with (first | (go_at_call 26; go_must (refine (unhide HST).mono ?_); rintro e w3 ⟨rfl, tg3, x3, hG3, hS3⟩; replace hG3 := hide hG3; replace hS3 := hide hS3) | (go_at_call 14; go_must (refine (safe_any gb n _ x3 gh3 _ tg3 (unhide hG3) (unhide HJ3) (unhide HT3)).mono ?_); rintro e w4 ⟨rfl, tg4, x4, hG4, hS4⟩; replace hG4 := hide hG4; replace hS4 := hide hS4))
      go_roundw
      case rel =>
        refine ⟨k + 1, tg4, x4, by omega, by go_num, ?_, ((unhide HS2).trans (unhide hS3)).trans (unhide hS4)⟩
        rw [unhide HTK, unhide HPS]
        exact unhide hG4
      case measure => simp [intOf]; omega
    · have hkl : k = l.length := by omega
      subst hkl
      rw [List.take_length] at hG2 hJ2
      obtain ⟨gh2, hJ2⟩ := hJ2
      have HMA := hide (match_any gb n _ x2 wr tg2 hG2 hJ2.len h2 (fun i s hi => (hJ2.ni i s hi).ok) (fun i j s t hi hj k q1 q2 q3 => hJ2.matches hi hj k q1 q2 q3))
      have HG2 := hide hG2
      have HS2 := hide hS2
      clear hG2 hS2 hJ2 hT2 hE2
      go_wp2_with (first | (go_at_call 17; go_must (refine (unhide HMA).mono ?_); rintro e w3 ⟨rfl, hb3⟩; replace hb3 := hide hb3))
      go_ret2
      exact ⟨gb, _, x2, rfl, (unhide HG2).below (unhide hb3), (unhide HS2).trans (stp_below tg2 (unhide hb3))⟩

end Go.Proofs.Yteiecbkfganhnaa

namespace Go.Proofs.Yteiecbkfganhnaa
open Go.RowKit Go.MuLone

/-- All old blocks are as they were. -/
theorem below_of_stp {w w' : World} {tg' : Tags} (h : Stp Agr w (fun _ => (0, 0)) w' tg') : Below w.heap.size w w' :=
  ⟨h.os, h.tape, h.output, h.size, fun k hk => (h.keep k hk agr00).1⟩

set_option maxRecDepth 100000 in
set_option maxHeartbeats 1000000 in
theorem safeS_any (a : Int) (l : List Stp3) (v : Value) (w : World) (ha0 : -9223372036854775808 ≤ a) (ha1 : a ≤ 9223372036854775807) (hv : StepsIn w v l) (hl : l.length * 24 ≤ 140737488351232) (hr : ∀ s ∈ l, inI64 s.1 ∧ inI64 s.2.1 ∧ inI64 s.2.2) :
    Calls Try.prog 3 #[.int .i64 a, v] w fun e w' => e = .returned (.bool true) ∧ Below w.heap.size w w' := by
  have hp0 := pickZ_lo a 7 (by decide)
  have hp1 := pickZ_hi a 7 (by decide)
  obtain ⟨p, hp⟩ : ∃ p : Nat, pickZ a 7 = (p : Int) := ⟨(pickZ a 7).toNat, by omega⟩
  have HP : Hid (∀ V : World, Calls Try.prog 9 #[.int .i64 a, .int .i64 7] V fun e w' => e = .returned (.int .i64 (p : Int)) ∧ w' = V) := fun V => by rw [← hp]; exact pick_any a _ V ha0 ha1 (by decide) (by decide)
  have hp7 : p < 7 := by omega
  have HPL := hide (played_any (1 + p) l v w (fun _ => (0, 0)) (by omega) (by omega) hv hl hr (fun _ _ => rfl))
  have e1 : ((1 + p : Nat) : Int) = 1 + (p : Int) := by omega
  rw [e1] at HPL
  obtain ⟨ao, cap, rfl, _⟩ := hv
  clear hp hp0 hp1 hr e1
  go_enter Try.func3, Try.ntmps3
  go_wp2_with (first | (go_at_call 9; refine (unhide HP _).mono ?_; rintro e wp ⟨rfl, qp⟩; cases qp.symm) | (go_at_call 8; go_must (refine (unhide HPL).mono ?_); rintro e w1 ⟨gb, tg1, x1, rfl, hG1, hS1⟩; have hB := hide (below_of_stp hS1); clear hG1 hS1))
  go_ret
  exact ⟨rfl, unhide hB⟩

end Go.Proofs.Yteiecbkfganhnaa

namespace Go.Proofs.Yteiecbkfganhnaa
open Go.ChangeShapes Go.WideShapes Go.ChangeAt Go.RowKit Go.Joins

theorem Try.ownS : ownKnob Try.prog.godebug = none := by kernel_rfl
theorem Try.laidOutS : laidOutB Try.prog = true := by kernel_rfl
theorem Try.bytesT : Try.prog.bytesOf 64 = 24 := by kernel_rfl
theorem Try.cellsT : Try.prog.cellsOf 64 = 3 := by kernel_rfl

/-- A slice of structs of three fields of one cell each, at every index. -/
theorem triple_at {H : Type} {enc : TypeId × Value → H} {P : Program} {w : World} {base : Nat} {spare : Nat → Bool} {held : Bool} {e : TypeId} {f0 f1 f2 : Field} {n : Nat} {a : Addr} {i : Nat} {cs : List Value} {d : DataW H × List MemPlace} (he : P.underlying e = some (.struct #[f0, f1, f2]))
    (o0 : f0.offset = 0) (o1 : f1.offset = 1) (o2 : f2.offset = 2) (c0 : P.cellsOf f0.type = 1) (c1 : P.cellsOf f1.type = 1) (c2 : P.cellsOf f2.type = 1)
    (h1 : w.cells? base (a.add (i * 3)) 3 = some cs) (h2 : DataW.trod enc P w base spare held n e cs = some d) :
    ∃ v0 v1 v2 y0 y1 y2 k, w.cell? (a.add (i * 3)) = some v0 ∧ w.cell? (a.add (i * 3 + 1)) = some v1 ∧ w.cell? (a.add (i * 3 + 2)) = some v2 ∧
      DataW.trod enc P w base spare held k f0.type [v0] = some y0 ∧ DataW.trod enc P w base spare held k f1.type [v1] = some y1 ∧ DataW.trod enc P w base spare held k f2.type [v2] = some y2 := by
  obtain ⟨_, hlen, hcell⟩ := World.cells?_some h1
  obtain ⟨xs, k, hk, hxy, _, hxl, hf⟩ := DataW.trod_struct he h2
  match xs, hxl, cs, hlen with
  | [y0, y1, y2], _, [v0, v1, v2], _ =>
    have g0 := hf 0 f0 rfl
    have g1 := hf 1 f1 rfl
    have g2 := hf 2 f2 rfl
    simp [o0, o1, o2, c0, c1, c2] at g0 g1 g2
    have e0 := hcell 0 (by omega)
    have e1 := hcell 1 (by omega)
    have e2 := hcell 2 (by omega)
    rw [Go.Deep.add_add] at e0 e1 e2
    exact ⟨v0, v1, v2, y0, y1, y2, k, by simpa using e0, by simpa using e1, by simpa using e2, g0, g1, g2⟩

theorem script_opened {H : Type} {enc : TypeId × Value → H} {W : World} {fuel : Nat} {c : Value} {y : DataW H × List MemPlace}
    (h : DataW.trod enc Try.prog W 0 (fun _ => true) true fuel 22 [c] = some y)
    (hz : ∀ E S, y.1 = .slice E S → (E.length + S.length) * 24 ≤ 140737488351232) : ∃ l : List Stp3, StepsIn W c l ∧ l.length * 24 ≤ 140737488351232 ∧ ∀ s ∈ l, inI64 s.1 ∧ inI64 s.2.1 ∧ inI64 s.2.2 := by
  rcases Go.Deep.open_slice Try.underlying22 h with ⟨hc, _⟩ | ⟨a, len, cap, m, n, D, Pl, hc, _, hl, _, hmm, hx, hcell⟩
  · simp at hc
    subst hc
    exact ⟨[], ⟨none, 0, rfl, fun k s hk => by simp at hk⟩, by simp, fun s hs => by cases hs⟩
  · simp at hc
    subst hc
    have hlm : len ≤ m := by rw [hmm]; simp; exact hl
    have hent : ∀ i, i < len → ∃ s : Stp3, W.cell? (a.add (i * 3)) = some (.int .i64 s.1) ∧ W.cell? (a.add (i * 3 + 1)) = some (.int .i64 s.2.1) ∧ W.cell? (a.add (i * 3 + 2)) = some (.int .i64 s.2.2) ∧ inI64 s.1 ∧ inI64 s.2.1 ∧ inI64 s.2.2 := fun i hi => by
      obtain ⟨cs', h1, h2⟩ := hcell i (by omega)
      rw [Try.cellsT] at h1
      obtain ⟨v0, v1, v2, y0, y1, y2, k, e0, e1, e2, g0, g1, g2⟩ := triple_at Try.underlying64 rfl rfl rfl (by kernel_rfl) (by kernel_rfl) (by kernel_rfl) h1 h2
      obtain ⟨x0, q0, _, b0⟩ := DataW.trod_int Try.underlying3 g0
      obtain ⟨x1, q1, _, b1⟩ := DataW.trod_int Try.underlying3 g1
      obtain ⟨x2, q2, _, b2⟩ := DataW.trod_int Try.underlying3 g2
      simp at q0 q1 q2
      subst q0 q1 q2
      exact ⟨(x0, x1, x2), e0, e1, e2, bounds_i64 b0, bounds_i64 b1, bounds_i64 b2⟩
    obtain ⟨f, hf⟩ := Go.Deep.choose_lt hent
    refine ⟨(List.range len).map f, ⟨some a, cap, by simp, fun k s hk => ?_⟩, ?_, ?_⟩
    · simp only [List.getElem?_map] at hk
      by_cases hkl : k < len
      · rw [List.getElem?_range hkl] at hk
        simp at hk
        subst hk
        obtain ⟨h0, h1, h2, _⟩ := hf k hkl
        obtain ⟨b, off, spot⟩ := a
        have hspot : spot = none := by simpa [Addr.add] using World.cell?_spot (hf 0 (by omega)).1
        subst hspot
        refine ⟨b, off, rfl, ?_, ?_, ?_⟩
        · rw [← h0, add_plain]
        · rw [← h1, add_plain, Nat.add_assoc]
        · rw [← h2, add_plain, Nat.add_assoc]
      · rw [List.getElem?_eq_none (by simp; omega)] at hk
        simp at hk
    · have := hz _ _ (by rw [hx])
      simp at this ⊢
      omega
    · intro s hs
      obtain ⟨i, hi, rfl⟩ := List.mem_map.1 hs
      exact (hf i (List.mem_range.1 hi)).2.2.2

end Go.Proofs.Yteiecbkfganhnaa

namespace Go.Proofs.Yteiecbkfganhnaa
open Go.ChangeShapes Go.WideShapes Go.ChangeAt Go.RowKit Go.Joins

set_option maxRecDepth 100000 in
set_option maxHeartbeats 1000000 in
theorem safe_lifted (os : Os) (started : os.Started) (H : Type) (enc : TypeId × Value → H) :
    ReturnsInHanded {} Try.checked os 3 .any (Rows.safeSpec.pre6 enc Try.prog Try.f3 Rows.safeRow.domain false) (Rows.safeSpec.post enc Try.prog Try.f3 false true false false) := by
  refine returnsInHanded_of_change_sized (C := Try.checked) Try.ownS started (by kernel_rfl) Try.func3
    (ChangeSpec.witness6 (enc := enc) (C := Try.checked) false ⟨#[], #[.int .i64 0, .slice none 0 0], []⟩ 8 (by kernel_rfl) (by kernel_rfl) (by kernel_rfl) (by kernel_rfl)) ?_
  intro W base args ds gs before hval0 hW _ hsz0 _
  have hsz : (DataW.weightsEach Try.prog (Try.f3.params.toList ++ Rows.safeSpec.plain.varTypes Try.prog) (ds ++ gs)).all (· ≤ reachBytes) = true := hsz0
  clear hsz0
  have hval : ∀ (j : Nat) t v, Try.f3.params[j]? = some t → args[j]? = some v → Value.okWide Try.prog W .any base t v := hval0
  have hW' := hW
  obtain ⟨p, q, hA0, hV, rfl, _, _⟩ := hW
  have hA : DataW.TrodAll enc Try.prog W 0 (fun _ => true) true Try.f3.params.toList args.toList ds p := hA0
  rw [Try.params3] at hA hval hsz
  obtain ⟨v0, v1, d0, d1, p0, p1, rfl, rfl, rfl, h0, h1⟩ := trodAll_two hA
  obtain ⟨rfl, rfl⟩ := trodVars_none hV
  obtain ⟨id, rfl, rfl, rfl, wid⟩ := open_int Try.underlying3 (hval 0 3 v0 rfl rfl) h0
  clear hA0 hval0
  simp only [List.append_nil, List.nil_append] at hW'
  have hlt : ∀ x ∈ p1, x.block < W.heap.size := fun x hx => by simpa using hW'.lt x (by simpa using hx)
  have hargs : ∀ (W' : World), Below W.heap.size W W' → DataW.Trod enc Try.prog W' 0 (fun b => decide (b < W.heap.size)) true 22 _ _ p1 :=
    fun W' hn => Below.trod Try.laidOutS (by kernel_rfl) (of_decide_eq_true (by kernel_rfl)) h1 hn hlt
  obtain ⟨fuel, hf⟩ := h1
  obtain ⟨oa, ol, oc, rfl⟩ := okWide_slice Try.underlying22 (hval 1 22 v1 rfl rfl)
  have hf' : DataW.trod enc Try.prog W 0 (fun _ => true) true fuel 22 [.slice oa ol oc] = some (d1, p1) := by simpa [Value.cells] using hf
  obtain ⟨l, hl1, hl2, hl3⟩ := script_opened hf' (fun E S hy => by
    have hs := sized_slice (e := 64) hsz (j := 1) rfl (by show some d1 = some _; rw [show d1 = _ from hy]) Try.underlying22
    rw [Try.bytesT] at hs
    exact hs)
  have b0 := bounds_i64 wid
  refine (safeS_any id l _ W b0.1 b0.2 hl1 hl2 hl3).mono fun e W' ⟨he, hB⟩ => ?_
  subst he
  exact ⟨_, rfl, _, _, _, [], _, [], hW', trodAll_mk1 (shut_bool Try.underlying4 true), trodAll_mk2 (shut_int Try.underlying3 wid) (hargs _ hB), rfl, hB.frame _, fun h => by cases h⟩

theorem safe_holds : Rows.SafeSaid :=
  OpenClaim.holds_of_wide 3 Try.f3 rfl rfl rfl rfl rfl rfl rfl ⟨rfl, rfl, rfl, rfl, rfl⟩ rfl rfl rfl rfl rfl (by kernel_rfl) Try.func3 (by kernel_rfl)
    (of_decide_eq_true (by kernel_rfl)) (by unfold Func.isWrapper; first | (rw [if_pos (by decide +kernel)]; kernel_rfl) | (rw [if_neg (by decide +kernel)]; exact ⟨rfl, rfl⟩))
    (fun os started H enc _ => safe_lifted os started H enc)

end Go.Proofs.Yteiecbkfganhnaa
