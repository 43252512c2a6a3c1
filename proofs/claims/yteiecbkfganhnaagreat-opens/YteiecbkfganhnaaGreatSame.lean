/- sameEntries answers true at equal lists. -/
import Derived.Test.YteiecbkfganhnaaGreatProg
import Derived.Test.YteiecbkfganhnaaGreatBase
import Derived.WalkKit
import Derived.WalkSpells
import Derived.WalkLawsBesides
import Derived.Deep.QuietTactic
import Derived.BigQuiet
import Derived.Laws.StructEq
import Derived.KernelRfl
namespace Go.Proofs.YteiecbkfganhnaaGreat
open Go.RowKit

theorem neq_entry (a c : Int) (s r : ByteArray) (w : World) : (binOp .neq 66 (.agg #[.int .i64 a, .string s]) (.agg #[.int .i64 c, .string r])).run Tryz.prog w = .ok (.bool (!(a == c && s.toList == r.toList))) w := by
  have u3 := Tryz.underlying3
  have u9 := Tryz.underlying9
  have hS : Tryz.prog.underlying 66 = some (.struct (Tryz.prog.fieldsOf 66)) := by kernel_rfl
  have hp : Tryz.prog.stoodInHeld 66 = false := by kernel_rfl
  rw [run_neq_struct, show (10000 : Nat) = 9999 + 1 from rfl, run_equalIn_agg w 9999 66 _ _ hS hp]
  simp only [Program.fieldsOf, Tryz.underlying66]
  go_simp
  by_cases h1 : a = c <;> by_cases h2 : s.toList = r.toList <;> simp [h1, h2]


theorem eql_entry (a c : Int) (s r : ByteArray) (w : World) : (binOp .eql 66 (.agg #[.int .i64 a, .string s]) (.agg #[.int .i64 c, .string r])).run Tryz.prog w = .ok (.bool (a == c && s.toList == r.toList)) w := by
  have u3 := Tryz.underlying3
  have u9 := Tryz.underlying9
  have hS : Tryz.prog.underlying 66 = some (.struct (Tryz.prog.fieldsOf 66)) := by kernel_rfl
  have hp : Tryz.prog.stoodInHeld 66 = false := by kernel_rfl
  rw [run_eql_struct, show (10000 : Nat) = 9999 + 1 from rfl, run_equalIn_agg w 9999 66 _ _ hS hp]
  simp only [Program.fieldsOf, Tryz.underlying66]
  go_simp
  by_cases h1 : a = c <;> by_cases h2 : s.toList = r.toList <;> simp [h1, h2]

set_option maxHeartbeats 400000 in
theorem sameEntries_eq (va vb : Value) (es : List Ent) (w : World) (hn : es.length < 4611686018427387904) (ha : EntsIn w va es) (hb : EntsIn w vb es) :
    Calls Tryz.prog 87 #[va, vb] w fun e w' => e = .returned (.bool true) ∧ ∃ m, w' = w.drewN m := by
  obtain ⟨ao, cap, rfl, _, ha⟩ := ha
  obtain ⟨bo, cap2, rfl, _, hb⟩ := hb
  have hq := neq_entry
  go_enter Tryz.func87, Tryz.ntmps87
  go_wp2
  go_loopw [5] (fun i wr => ∃ k : Nat, k ≤ es.length ∧ i = .int .i64 k ∧ ∃ m, wr = w.drewN m) (fun i _ => es.length - (intOf i).toNat)
  case atStart => exact ⟨0, Nat.zero_le _, rfl, 0, rfl⟩
  case round =>
    obtain ⟨k, hk, rfl, m, rfl⟩ := hrel
    by_cases hlt : k < es.length
    · have he : es[k]? = some es[k] := by simp [hlt]
      obtain ⟨b, off, rfl, a0, a1⟩ := ha k _ he
      obtain ⟨b2, off2, rfl, a2, a3⟩ := hb k _ he
      have i1 : (0 : Int) ≤ (k : Int) := by omega
      have i2 : (k : Int) < (es.length : Int) := by omega
      clear ha hb he
      generalize es[k].1 = t at *
      generalize es[k].2 = s at *
      go_wp2
      go_quiet (fail)
      go_wp2
      go_roundw
      case rel => exact ⟨k + 1, by omega, by go_num, _, rfl⟩
      case measure => simp [intOf]; omega
    · go_wp2
      go_ret
      exact ⟨rfl, m, rfl⟩

end Go.Proofs.YteiecbkfganhnaaGreat
