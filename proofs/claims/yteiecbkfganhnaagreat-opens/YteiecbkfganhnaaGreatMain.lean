/- Proved: whatever the input, quorumlaw.Opens returns true, and each argument reads behind the call as it read before. No condition. -/
import Derived.Test.YteiecbkfganhnaaGreatOpens
import Derived.Test.YteiecbkfganhnaaGreatRows
import Derived.ProofKit
import Derived.SizedLaws
import Derived.Carry
import Derived.Lib.SmallJoins
import Derived.Deep.SlicePairs
namespace Go.Proofs.YteiecbkfganhnaaGreat
open Go.ChangeShapes Go.WideShapes Go.ChangeAt Go.RowKit Go.Joins

theorem Tryz.own : ownKnob Tryz.prog.godebug = none := by kernel_rfl
theorem Tryz.laidOut : laidOutB Tryz.prog = true := by kernel_rfl
theorem Tryz.bytesE : Tryz.prog.bytesOf 66 = 24 := by kernel_rfl
theorem Tryz.cellsE : Tryz.prog.cellsOf 66 = 2 := by kernel_rfl
theorem Tryz.cellsS : Tryz.prog.cellsOf 24 = 3 := by kernel_rfl

/-- What is saved, opened: its log reads as entries. -/
theorem ents_opened {H : Type} {enc : TypeId × Value → H} {W : World} {fuel : Nat} {c : Value} {y : DataW H × List MemPlace}
    (h : DataW.trod enc Tryz.prog W 0 (fun _ => true) true fuel 22 [c] = some y)
    (hz : ∀ E S, y.1 = .slice E S → (E.length + S.length) * 24 ≤ 140737488351232) : ∃ es : List Ent, EntsIn W c es ∧ es.length * 24 ≤ 140737488351232 := by
  rcases Go.Deep.open_slice_pairs Tryz.underlying22 Tryz.underlying66 Tryz.cellsE rfl rfl (by kernel_rfl) (by kernel_rfl) h with ⟨hc, _⟩ | ⟨a, len, cap, m, n, V0, V1, D0, D1, P0, P1, hc, _, hl, _, hm, hx, hcell⟩
  · simp at hc
    subst hc
    exact ⟨[], ⟨none, 0, rfl, fun _ => rfl, fun k e hk => by simp at hk⟩, by simp⟩
  · simp at hc
    subst hc
    have hlm : len ≤ m := by rw [hm]; simp; exact hl
    have hent : ∀ i, i < len → ∃ e : Ent, V0 i = .int .i64 e.1 ∧ V1 i = .string e.2 := fun i hi => by
      obtain ⟨_, _, h0, h1⟩ := hcell i (by omega)
      obtain ⟨x, e0, _, _⟩ := DataW.trod_int Tryz.underlying3 h0
      obtain ⟨s, e1, _, _⟩ := DataW.trod_string Tryz.underlying9 h1
      simp at e0 e1
      exact ⟨(x, s), e0, e1⟩
    obtain ⟨f, hf⟩ := Go.Deep.choose_lt hent
    refine ⟨(List.range len).map f, ⟨some a, cap, by simp, fun h => by simp at h, fun k e hk => ?_⟩, ?_⟩
    · simp only [List.getElem?_map] at hk
      by_cases hkl : k < len
      · rw [List.getElem?_range hkl] at hk
        simp at hk
        subst hk
        obtain ⟨h0, h1, _, _⟩ := hcell k (by omega)
        obtain ⟨b, off, spot⟩ := a
        have hspot : spot = none := by simpa [Addr.add] using World.cell?_spot (hcell 0 (by omega)).1
        subst hspot
        refine ⟨b, off, rfl, ?_, ?_⟩
        · rw [← (hf k hkl).1, ← h0, add_plain]
        · rw [← (hf k hkl).2, ← h1, add_plain, Nat.add_assoc]
      · rw [List.getElem?_eq_none (by simp; omega)] at hk
        simp at hk
    · have := hz _ _ (by rw [hx])
      simp at this ⊢
      omega

set_option maxRecDepth 100000 in
set_option maxHeartbeats 1000000 in
theorem opens_lifted (os : Os) (started : os.Started) (H : Type) (enc : TypeId × Value → H) :
    ReturnsInHanded {} Tryz.checked os 3 .any (Rows.opensSpec.pre6 enc Tryz.prog Tryz.f3 Rows.opensRow.domain false) (Rows.opensSpec.post enc Tryz.prog Tryz.f3 false true false false) := by
  refine returnsInHanded_of_change_sized (C := Tryz.checked) Tryz.own started (by kernel_rfl) Tryz.func3
    (ChangeSpec.witness6 (enc := enc) (C := Tryz.checked) false ⟨#[], #[.int .i64 0, .int .i64 0, .agg #[.int .i64 0, .int .i64 0, .slice none 0 0], .int .i64 0], []⟩ 8 (by kernel_rfl) (by kernel_rfl) (by kernel_rfl) (by kernel_rfl)) ?_
  intro W base args ds gs before hval0 hW _ hsz0 _
  have hsz : (DataW.weightsEach Tryz.prog (Tryz.f3.params.toList ++ Rows.opensSpec.plain.varTypes Tryz.prog) (ds ++ gs)).all (· ≤ reachBytes) = true := hsz0
  clear hsz0
  have hval : ∀ (j : Nat) t v, Tryz.f3.params[j]? = some t → args[j]? = some v → Value.okWide Tryz.prog W .any base t v := hval0
  have hW' := hW
  obtain ⟨p, q, hA0, hV, rfl, _, _⟩ := hW
  have hA : DataW.TrodAll enc Tryz.prog W 0 (fun _ => true) true Tryz.f3.params.toList args.toList ds p := hA0
  rw [Tryz.params3] at hA hval hsz
  obtain ⟨v0, v1, v2, v3, d0, d1, d2, d3, p0, p1, p2, p3, rfl, rfl, rfl, h0, h1, h2, h3⟩ := trodAll_four hA
  obtain ⟨rfl, rfl⟩ := trodVars_none hV
  obtain ⟨id, rfl, rfl, rfl, wid⟩ := open_int Tryz.underlying3 (hval 0 3 v0 rfl rfl) h0
  obtain ⟨n, rfl, rfl, rfl, wn⟩ := open_int Tryz.underlying3 (hval 1 3 v1 rfl rfl) h1
  obtain ⟨a, rfl, rfl, rfl, wa⟩ := open_int Tryz.underlying3 (hval 3 3 v3 rfl rfl) h3
  have h2k := h2
  obtain ⟨c0, c1, c2, y0, y1, y2, m, rfl, rfl, hp2, hy0, hy1, hy2⟩ := open_agg3 Tryz.underlying24 (by kernel_rfl) Tryz.cellsS (hval 2 24 v2 rfl rfl) h2
  obtain ⟨term, e0, rfl, _⟩ := DataW.trod_int Tryz.underlying3 hy0
  obtain ⟨vote, e1, rfl, _⟩ := DataW.trod_int Tryz.underlying3 hy1
  simp at e0 e1
  subst e0 e1
  clear hA0 hval0
  simp only [List.append_nil, List.nil_append] at hW'
  have hlt : ∀ x ∈ p2, x.block < W.heap.size := fun x hx => by simpa using hW'.lt x (by simpa using hx)
  have hargs : ∀ (W' : World), Below W.heap.size W W' → DataW.Trod enc Tryz.prog W' 0 (fun b => decide (b < W.heap.size)) true 24 _ _ p2 :=
    fun W' hn => Below.trod Tryz.laidOut (by kernel_rfl) (of_decide_eq_true (by kernel_rfl)) h2k hn hlt
  obtain ⟨es, hes, hlen⟩ := ents_opened hy2 (fun E S hy => by
    have hm := List.all_eq_true.1 hsz _ (DataW.weights_mem_each (j := 2) (t := 24) rfl rfl ((E.length + S.length) * Tryz.prog.bytesOf 66) (by simp [DataW.weights, DataW.weightsEach, Tryz.underlying24, Tryz.underlying22, hy]))
    rw [Tryz.bytesE] at hm
    exact of_decide_eq_true hm)
  refine (opens_any id n term vote a c2 es W hlen hes).mono fun e W' ⟨he, hB⟩ => ?_
  subst he
  exact ⟨_, rfl, _, _, _, [], _, [], hW', trodAll_mk1 (shut_bool Tryz.underlying4 true), trodAll_mk4 (shut_int Tryz.underlying3 wid) (shut_int Tryz.underlying3 wn) (hargs _ hB) (shut_int Tryz.underlying3 wa), rfl, hB.frame _, fun h => by cases h⟩

theorem opens_holds : Rows.OpensSaid :=
  OpenClaim.holds_of_wide 3 Tryz.f3 rfl rfl rfl rfl rfl rfl rfl ⟨rfl, rfl, rfl, rfl, rfl⟩ rfl rfl rfl rfl rfl (by kernel_rfl) Tryz.func3 (by kernel_rfl)
    (of_decide_eq_true (by kernel_rfl)) (by unfold Func.isWrapper; first | (rw [if_pos (by decide +kernel)]; kernel_rfl) | (rw [if_neg (by decide +kernel)]; exact ⟨rfl, rfl⟩))
    (fun os started H enc _ => opens_lifted os started H enc)

end Go.Proofs.YteiecbkfganhnaaGreat
