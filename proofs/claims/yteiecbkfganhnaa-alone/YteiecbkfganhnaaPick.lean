/- The statements' own small functions: pick, command. -/
import Derived.Test.YteiecbkfganhnaaProp
import Derived.Test.YteiecbkfganhnaaCom
import Derived.Test.YteiecbkfganhnaaStep
import Derived.Laws.BytesArg
namespace Go.Proofs.Yteiecbkfganhnaa
open Go.RowKit Go.MuLone

/-- Which of n things a raw number speaks of. -/
def pickZ (c n : Int) : Int := (if c < 0 then -(c + 1) else c) % n

theorem pickZ_lo (c n : Int) (h : 0 < n) : 0 ≤ pickZ c n := Int.emod_nonneg _ (by omega)
theorem pickZ_hi (c n : Int) (h : 0 < n) : pickZ c n < n := Int.emod_lt_of_pos _ h

set_option maxRecDepth 100000 in
set_option maxHeartbeats 400000 in
theorem pick_any (c n : Int) (w : World) (h1 : -9223372036854775808 ≤ c) (h2 : c ≤ 9223372036854775807) (h3 : 0 < n) (h4 : n ≤ 9223372036854775807) :
    Calls Try.prog 9 #[.int .i64 c, .int .i64 n] w fun e w' => e = .returned (.int .i64 (pickZ c n)) ∧ w' = w := by
  have hn0 : ¬ n = 0 := by omega
  by_cases h : c < 0
  · have HP : Hid (pickZ c n = (-(c + 1)) % n) := by show _ = _; unfold pickZ; rw [if_pos h]
    go_enter Try.func9, Try.ntmps9
    go_wp2
    go_ret
    refine ⟨?_, rfl⟩
    rw [unhide HP]
    have h9 : -(c + 1).tmod n = -(c + 1) % n := by
      rw [← Int.neg_tmod, Int.tmod_eq_emod_of_nonneg (by omega)]
    show Ending.returned (Value.int .i64 (-(c + 1).tmod n)) = _
    rw [h9]
  · have HP : Hid (pickZ c n = c % n) := by show _ = _; unfold pickZ; rw [if_neg h]
    go_enter Try.func9, Try.ntmps9
    go_wp2
    go_ret
    refine ⟨?_, rfl⟩
    rw [unhide HP]
    rfl

/-- A command, out of a raw number. -/
def cmdOf (n : Int) : ByteArray := Go.strOfNums [99, 48 + pickZ n 10]

theorem cmdOf_size (n : Int) : (cmdOf n).size = 2 := rfl

theorem conv_cmd (w : World) (p : Int) : (convert 84 9 (.slice (some ⟨w.heap.size, 0, none⟩) 2 2)).run Try.prog (w.alloc (.cells #[.int .u8 99, .int .u8 p] 5)) = .ok (.string (Go.strOfNums [99, p])) (w.alloc (.cells #[.int .u8 99, .int .u8 p] 5)) := by
  refine run_convert_bytes_arg _ 84 5 Try.underlying84 Try.underlying5 w.heap.size 0 2 2 [99, p] rfl ?_ 9 Try.underlying9
  intro i hi
  rw [cell_of_row _ w.heap.size (0 + i) _ _ _ (heap_alloc_new w _)]
  match i, hi with
  | 0, _ => rfl
  | 1, _ => rfl

set_option maxRecDepth 100000 in
set_option maxHeartbeats 400000 in
theorem command_any (n : Int) (w : World) (h1 : -9223372036854775808 ≤ n) (h2 : n ≤ 9223372036854775807) :
    Calls Try.prog 25 #[.int .i64 n] w fun e w' => e = .returned (.string (cmdOf n)) ∧ Below w.heap.size w w' := by
  have hlo := pickZ_lo n 10 (by decide)
  have hhi := pickZ_hi n 10 (by decide)
  have HC : Hid (cmdOf n = Go.strOfNums [99, 48 + pickZ n 10]) := rfl
  obtain ⟨p, hp⟩ : ∃ p, pickZ n 10 = p := ⟨_, rfl⟩
  have HP := hide hp
  rw [hp] at hlo hhi HC
  have hc := conv_cmd w (48 + p)
  have hm : (48 + p) % 256 = 48 + p := by omega
  clear hp
  go_enter Try.func25, Try.ntmps25
  go_wp2_with (go_at_call 9; refine (pick_any n 10 _ h1 h2 (by decide) (by decide)).mono ?_; rw [unhide HP]; rintro e w1 ⟨rfl, q1⟩; cases q1.symm)
  go_ret
  exact ⟨by rw [unhide HC]; rfl, (Below.refl _ _).alloc (Nat.le_refl _) _⟩

end Go.Proofs.Yteiecbkfganhnaa
