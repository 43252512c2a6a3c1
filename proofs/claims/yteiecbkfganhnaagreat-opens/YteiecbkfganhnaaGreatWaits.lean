/- waits: the lists that wait read as they came. -/
import Derived.Test.YteiecbkfganhnaaGreatKeep
namespace Go.Proofs.YteiecbkfganhnaaGreat
open Go.RowKit

set_option maxRecDepth 100000 in
set_option maxHeartbeats 1000000 in
theorem waits_any (i gb : Nat) (w : World) (tg : Tags) (c0 c1 c2 c3 : Value) (b : BV) (l : List (List Ent)) (l2 : List (List ByteArray))
    (hG : GameBlk w gb c0 c1 c2 c3 b) (hE : WaitE i w tg b.we b.re l) (hT : WaitT i w tg b.wt b.rt l2) (hm : b.wm = .slice none 0 0) (hl : l.length ≤ 1000000000) (hl2 : l2.length ≤ 1000000000) :
    Calls Tryz.prog 37 #[.pointer (some ⟨gb, 4, none⟩)] w fun e w' => e = .returned (.bool true) ∧ ∃ m, w' = w.drewN m := by
  obtain ⟨xs, ys, hx, hy, hwl⟩ := hE.rows
  obtain ⟨xs2, ys2, hx2, hy2, hwl2⟩ := hT.rows
  obtain ⟨be, bm, bt, bwe, bre, bwm, brm, bwt, brt⟩ := b
  simp only at hx hy hx2 hy2 hm
  obtain ⟨a1, cap1, rfl⟩ := hx.form
  obtain ⟨a2, cap2, rfl⟩ := hy.form
  obtain ⟨a3, cap3, rfl⟩ := hx2.form
  obtain ⟨a4, cap4, rfl⟩ := hy2.form
  subst hm
  have g7 := hG.c7
  have g8 := hG.c8
  have g9 := hG.c9
  have g11 := hG.c11
  have g12 := hG.c12
  simp only at g7 g8 g9 g11 g12
  have HW := hide hwl
  have HW2 := hide hwl2
  have HX := hide hx.1
  have HY := hide hy.1
  have HX2 := hide hx2.1
  have HY2 := hide hy2.1
  clear hG hE hT hwl hwl2 hx hy hx2 hy2
  go_enter Tryz.func37, Tryz.ntmps37
  go_wp2
  go_loopw [3, 4] (fun ok i wr => ∃ k : Nat, k ≤ l.length ∧ i = .int .i64 k ∧ ok = .bool true ∧ ∃ m, wr = w.drewN m) (fun _ i _ => l.length - (intOf i).toNat)
  case atStart => exact ⟨0, Nat.zero_le _, rfl, rfl, 0, rfl⟩
  case round =>
    obtain ⟨k, hk, rfl, rfl, m, hwr⟩ := hrel
    have j7 : wr.cell? ⟨gb, 7, none⟩ = some (.slice a1 l.length cap1) := by rw [hwr]; exact g7
    have j8 : wr.cell? ⟨gb, 8, none⟩ = some (.slice a2 l.length cap2) := by rw [hwr]; exact g8
    by_cases hlt : k < l.length
    · obtain ⟨hb, v, r, hv, hr, ho, hp⟩ := (unhide HW) k l[k] (by simp [hlt])
      obtain ⟨ga, rfl, e1⟩ := own_elem (unhide HX) hv
      obtain ⟨gc, rfl, e2⟩ := own_elem (unhide HY) hr
      have HV : Hid (EntsIn wr v l[k]) := by rw [hwr]; exact ents_of_owns ho.1
      have HR : Hid (EntsIn wr r l[k]) := by rw [hwr]; exact ents_of_owns hp.1
      have e3 : wr.cell? ⟨ga, k, none⟩ = some v := by rw [hwr]; exact e1
      have e4 : wr.cell? ⟨gc, k, none⟩ = some r := by rw [hwr]; exact e2
      have HWR := hide hwr
      have HB := hide hb
      have i1 : (0 : Int) ≤ (k : Int) := by omega
      have i2 : (k : Int) < (l.length : Int) := by omega
      clear hv hr ho hp hb e1 e2 g7 g8 hwr
      generalize l[k] = es at *
      go_wp2_with fail
      go_quiet ((go_at_call 87; exact Calls.quiet_of (sameEntries_eq v r es _ (by have := unhide HB; omega) (unhide HV) (unhide HR))))
      go_wp2
      go_roundw
      case rel => exact ⟨k + 1, by omega, by go_num, rfl, _, by rw [unhide HWR, World.drewN_drewN]⟩
      case measure => simp [intOf]; omega
    · clear j7 j8
      subst hwr
      go_wp2
      refine wp_loop_rounds 1 ?_
      rw [rounds_succ]
      go_wp2
      go_loopw [3, 8] (fun ok i wr => ∃ k : Nat, k ≤ l2.length ∧ i = .int .i64 k ∧ ok = .bool true ∧ ∃ m, wr = w.drewN m) (fun _ i _ => l2.length - (intOf i).toNat)
      case atStart => exact ⟨0, Nat.zero_le _, rfl, rfl, _, rfl⟩
      case round =>
        clear hlt hk
        obtain ⟨k, hk, rfl, rfl, m, hwr⟩ := hrel
        have j11 : wr.cell? ⟨gb, 11, none⟩ = some (.slice a3 l2.length cap3) := by rw [hwr]; exact g11
        have j12 : wr.cell? ⟨gb, 12, none⟩ = some (.slice a4 l2.length cap4) := by rw [hwr]; exact g12
        by_cases hlt : k < l2.length
        · obtain ⟨hb, v, r, hv, hr, ho, hp⟩ := (unhide HW2) k l2[k] (by simp [hlt])
          obtain ⟨ga, rfl, e1⟩ := own_elem (unhide HX2) hv
          obtain ⟨gc, rfl, e2⟩ := own_elem (unhide HY2) hr
          have HV : Hid (TextsIn wr v l2[k]) := by rw [hwr]; exact texts_of_owns ho.1
          have HR : Hid (TextsIn wr r l2[k]) := by rw [hwr]; exact texts_of_owns hp.1
          have e3 : wr.cell? ⟨ga, k, none⟩ = some v := by rw [hwr]; exact e1
          have e4 : wr.cell? ⟨gc, k, none⟩ = some r := by rw [hwr]; exact e2
          have HWR := hide hwr
          have HB := hide hb
          have i1 : (0 : Int) ≤ (k : Int) := by omega
          have i2 : (k : Int) < (l2.length : Int) := by omega
          clear hv hr ho hp hb e1 e2 g7 g8 g11 g12 hwr
          generalize l2[k] = es at *
          go_wp2_with fail
          go_quiet ((go_at_call 49; exact Calls.quiet_of (sameTexts_eq v r es _ (by have := unhide HB; omega) (unhide HV) (unhide HR))))
          go_wp2
          go_roundw
          case rel => exact ⟨k + 1, by omega, by go_num, rfl, _, by rw [unhide HWR, World.drewN_drewN]⟩
          case measure => simp [intOf]; omega
        · subst hwr
          go_wp2
          go_ret
          exact ⟨rfl, _, rfl⟩

end Go.Proofs.YteiecbkfganhnaaGreat
