/- reads: the lists that are marked read so. -/
import Derived.Test.YteiecbkfganhnaaGreatWaits
import Derived.Deep.RegionHeld3
namespace Go.Proofs.YteiecbkfganhnaaGreat
open Go.RowKit

theorem mark_cells {w : World} {m q : Nat} {v : Value} (h : EntsIn w v (List.replicate m (mkE q))) : ∃ vo vc, v = .slice vo m vc ∧
    ∀ j, j < m → ∃ b off, vo = some ⟨b, off, none⟩ ∧ w.cell? ⟨b, off + j * 2, none⟩ = some (.int .i64 (-1 - (q : Int))) ∧ w.cell? ⟨b, off + j * 2 + 1, none⟩ = some (.string ⟨#[]⟩) := by
  obtain ⟨vo, vc, hv, _, hc⟩ := h
  refine ⟨vo, vc, by simpa using hv, fun j hj => ?_⟩
  obtain ⟨b, off, h1, h2, h3⟩ := hc j (mkE q) (by simp [hj])
  exact ⟨b, off, h1, h2, h3⟩

theorem markT_cells {w : World} {m : Nat} {q : ByteArray} {v : Value} (h : TextsIn w v (List.replicate m q)) : ∃ vo vc, v = .slice vo m vc ∧
    ∀ j, j < m → ∃ b off, vo = some ⟨b, off, none⟩ ∧ w.cell? ⟨b, off + j, none⟩ = some (.string q) := by
  obtain ⟨vo, vc, hv, _, hc⟩ := h
  refine ⟨vo, vc, by simpa using hv, fun j hj => ?_⟩
  obtain ⟨b, off, h1, h2⟩ := hc j q (by simp [hj])
  exact ⟨b, off, h1, h2⟩

set_option maxRecDepth 100000 in
set_option maxHeartbeats 1000000 in
theorem reads_any (i gb : Nat) (w : World) (tg : Tags) (c0 c1 c2 c3 : Value) (b : BV) (ne nt : Nat)
    (hG : GameBlk w gb c0 c1 c2 c3 b) (hE : MarkE i w tg b.e ne) (hT : MarkT i w tg b.t nt) (hm : b.m = .slice none 0 0) (hl : ne ≤ 1000000000) (hl2 : nt ≤ 1000000000) :
    Calls Tryz.prog 38 #[.pointer (some ⟨gb, 4, none⟩)] w fun e w' => e = .returned (.bool true) ∧ Below w.heap.size w w' := by
  obtain ⟨xs, hx, hwl⟩ := hE.rows
  obtain ⟨xs2, hx2, hwl2⟩ := hT.rows
  obtain ⟨N1, hN1⟩ : ∃ N, N = 4 * ne := ⟨_, rfl⟩
  obtain ⟨N2, hN2⟩ : ∃ N, N = 4 * nt := ⟨_, rfl⟩
  rw [← hN1] at hx
  rw [← hN2] at hx2
  have hb1 : N1 ≤ 4000000000 := by omega
  have hb2 : N2 ≤ 4000000000 := by omega
  clear hN1 hN2 hl hl2
  obtain ⟨be, bm, bt, bwe, bre, bwm, brm, bwt, brt⟩ := b
  simp only at hx hx2 hm
  obtain ⟨a1, cap1, rfl⟩ := hx.form
  obtain ⟨a3, cap3, rfl⟩ := hx2.form
  subst hm
  have g4 := hG.c4
  have g5 := hG.c5
  have g6 := hG.c6
  simp only at g4 g5 g6
  have hlt := hG.lt
  have HL := hide hlt
  have HW := hide hwl
  have HW2 := hide hwl2
  have HX := hide hx.1
  have HX2 := hide hx2.1
  clear hG hE hT hwl hwl2 hx hx2 hlt
  have hq := eql_entry
  go_enter Tryz.func38, Tryz.ntmps38
  go_wp2
  go_loop [3, 4] (fun ok i => ∃ k : Nat, k ≤ N1 ∧ i = .int .i64 k ∧ ok = .bool true) (fun _ i => N1 - (intOf i).toNat)
  case atStart => exact ⟨0, Nat.zero_le _, rfl, rfl⟩
  case round =>
    obtain ⟨k, hk, rfl, rfl⟩ := hrel
    by_cases hlt : k < N1
    · have hxl : xs.length = N1 := by simpa using (unhide HX).1
      obtain ⟨m, hm, ho⟩ := (unhide HW) k xs[k] (by simp)
      obtain ⟨ga, rfl, e1⟩ := own_elem (unhide HX) (k := k) (v := xs[k]) (by simp)
      obtain ⟨vo, vc, hv, hc⟩ := mark_cells ho.1
      rw [hv] at e1
      have HC := hide hc
      have i1 : (0 : Int) ≤ (k : Int) := by omega
      have i2 : (k : Int) < (N1 : Int) := by omega
      clear ho hv hc hxl
      go_wp2
      go_loop [3, 5] (fun ok i => ∃ j : Nat, j ≤ m ∧ i = .int .i64 j ∧ ok = .bool true) (fun _ i => m - (intOf i).toNat)
      case atStart => exact ⟨0, Nat.zero_le _, rfl, rfl⟩
      case round =>
        obtain ⟨j, hj, rfl, rfl⟩ := hrel
        by_cases hjt : j < m
        · obtain ⟨vb, voff, rfl, e2, e3⟩ := (unhide HC) j hjt
          have hdiv : (-1 - ((k / 4 : Nat) : Int)) = -1 - (k : Int) / 4 := by omega
          rw [hdiv] at e2
          have i3 : (0 : Int) ≤ (j : Int) := by omega
          have i4 : (j : Int) < (m : Int) := by omega
          clear hdiv
          go_wp2
          go_round
          case rel => exact ⟨j + 1, by omega, by go_num, rfl⟩
          case measure => simp [intOf]; omega
        · go_wp2
          go_round
          case rel => exact ⟨k + 1, by omega, by go_num, rfl⟩
          case measure => simp [intOf]; omega
    · go_wp2
      refine wp_loop_rounds 1 ?_
      rw [rounds_succ]
      go_wp2
      go_loopw [3, 9] (fun ok i wr => ∃ k : Nat, k ≤ N2 ∧ i = .int .i64 k ∧ ok = .bool true ∧ Below w.heap.size w wr) (fun _ i _ => N2 - (intOf i).toNat)
      case atStart => exact ⟨0, Nat.zero_le _, rfl, rfl, Below.refl _ _⟩
      case round =>
        clear hlt hk
        obtain ⟨k, hk, rfl, rfl, hbw⟩ := hrel
        have j6 : wr.cell? ⟨gb, 6, none⟩ = some (.slice a3 N2 cap3) := (hbw.cell (p := ⟨gb, 6, none⟩) (unhide HL)).trans g6
        replace hbw := hide hbw
        by_cases hlt : k < N2
        · have hxl : xs2.length = N2 := by simpa using (unhide HX2).1
          obtain ⟨m, hm, ho⟩ := (unhide HW2) k xs2[k] (by simp)
          obtain ⟨ga, rfl, e1⟩ := own_elem (unhide HX2) (k := k) (v := xs2[k]) (by simp)
          obtain ⟨vo, vc, hv, hc⟩ := markT_cells ho.1
          rw [hv] at e1
          have HC := hide hc
          have HE := hide e1
          have e1' : wr.cell? ⟨ga, k, none⟩ = some (.slice vo m vc) := ((unhide hbw).cell (p := ⟨ga, k, none⟩) (block_lt_of_cell e1)).trans e1
          have i1 : (0 : Int) ≤ (k : Int) := by omega
          have i2 : (k : Int) < (N2 : Int) := by omega
          have i5 : decide ((k : Int) < (N2 : Int)) = true := decide_eq_true (by omega)
          clear ho hv hc hxl g4 g5 e1
          go_wp2
          go_loopw [3, 10] (fun ok i wr => ∃ j : Nat, j ≤ m ∧ i = .int .i64 j ∧ ok = .bool true ∧ Below w.heap.size w wr) (fun _ i _ => m - (intOf i).toNat)
          case atStart => exact ⟨0, Nat.zero_le _, rfl, rfl, unhide hbw⟩
          case round =>
            obtain ⟨j, hj, rfl, rfl, hbw⟩ := hrel
            clear j6 e1'
            have j6 : wr.cell? ⟨gb, 6, none⟩ = some (.slice (some ⟨ga, 0, none⟩) N2 cap3) := (hbw.cell (p := ⟨gb, 6, none⟩) (unhide HL)).trans g6
            have e1' : wr.cell? ⟨ga, k, none⟩ = some (.slice vo m vc) := (hbw.cell (p := ⟨ga, k, none⟩) (block_lt_of_cell (unhide HE))).trans (unhide HE)
            by_cases hjt : j < m
            · obtain ⟨vb, voff, rfl, e2⟩ := (unhide HC) j hjt
              have e2' : wr.cell? ⟨vb, voff + j, none⟩ = some (.string (txt (k / 4))) := (hbw.cell (p := ⟨vb, voff + j, none⟩) (block_lt_of_cell e2)).trans e2
              have i3 : (0 : Int) ≤ (j : Int) := by omega
              have i4 : (j : Int) < (m : Int) := by omega
              have hw4 : IntKind.i64.wrap ((k : Int) / 4) = (k : Int) / 4 := wrap_small _ (by omega) (by omega)
              replace hbw := hide hbw
              clear e2 g6
              go_wp2_with fail
              go_region_held3 (fun w' => w'.cell? ⟨gb, 6, none⟩ = some (.slice (some ⟨ga, 0, none⟩) N2 cap3) ∧ w'.cell? ⟨ga, k, none⟩ = some (.slice (some ⟨vb, voff, none⟩) m vc) ∧ w'.cell? ⟨vb, voff + j, none⟩ = some (.string (txt (k / 4)))) (go_keep) (first | (go_at_call 88; refine (text_at _ (k / 4) wr.drew (by omega) (by omega)).mono ?_; rintro e w2 ⟨rfl, hb2⟩; have z1 : w2.cell? ⟨gb, 6, none⟩ = _ := (hb2.cell (p := ⟨gb, 6, none⟩) (block_lt_of_cell j6)).trans j6; have z2 : w2.cell? ⟨ga, k, none⟩ = _ := (hb2.cell (p := ⟨ga, k, none⟩) (block_lt_of_cell e1')).trans e1'; have z3 : w2.cell? ⟨vb, voff + j, none⟩ = _ := (hb2.cell (p := ⟨vb, voff + j, none⟩) (block_lt_of_cell e2')).trans e2'; replace hb2 := hide hb2))
              all_goals go_wp2
              all_goals go_roundw
              case rel => first | exact ⟨j + 1, by omega, by go_num, rfl, (unhide hbw).trans ((Below.undrew (unhide hb2)).mono (unhide hbw).size)⟩ | ((repeat apply Exists.intro); refine ⟨?_, rfl⟩; exact ⟨j + 1, by omega, by go_num, rfl, (unhide hbw).trans ((Below.undrew (unhide hb2)).mono (unhide hbw).size)⟩)
              case measure => simp [intOf]; omega
            · replace hbw := hide hbw
              go_wp2
              go_roundw
              case rel => exact ⟨k + 1, by omega, by go_num, rfl, unhide hbw⟩
              case measure => simp [intOf]; omega
        · go_wp2
          go_ret
          exact ⟨rfl, unhide hbw⟩

end Go.Proofs.YteiecbkfganhnaaGreat
