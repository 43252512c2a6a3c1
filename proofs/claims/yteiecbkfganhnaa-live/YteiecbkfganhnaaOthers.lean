/- The program's node: others. -/
import Derived.Test.YteiecbkfganhnaaCamp
namespace Go.Proofs.Yteiecbkfganhnaa
open Go.RowKit Go.MuLone

/-- The cells of numbers. -/
def iC (l : List Nat) : List Value := l.map fun (k : Nat) => .int .i64 (k : Int)

theorem iC_append (a b : List Nat) : iC (a ++ b) = iC a ++ iC b := by simp [iC]
theorem iC_length (a : List Nat) : (iC a).length = a.length := by simp [iC]
theorem iC_get {a : List Nat} {k x : Nat} (h : a[k]? = some x) : (iC a)[k]? = some (.int .i64 (x : Int)) := by simp [iC, h]
theorem infoInt : (Try.prog.info? 3).map (fun i => (i.zero, i.size, i.bytes)) = some (some (.int .i64 0), 1, 8) := by kernel_rfl

def oth (id : Nat) (k : Nat) : List Nat := (List.range k).filter fun i => i ≠ id
theorem oth_yes {id k : Nat} (h : k ≠ id) : oth id (k + 1) = oth id k ++ [k] := by simp [oth, List.range_succ, List.filter_append, h]
theorem oth_no {id k : Nat} (h : k = id) : oth id (k + 1) = oth id k := by subst h; simp [oth, List.range_succ, List.filter_append]
theorem oth_len (id k : Nat) : (oth id k).length ≤ k := by have := List.length_filter_le (fun i => decide (i ≠ id)) (List.range k); simpa [oth] using this

set_option maxRecDepth 100000 in
set_option maxHeartbeats 1000000 in
theorem others_any (mu : Int) (nb : Nat) (s : Nd) (lv : Value) (w : World) (h : NB mu w nb s lv) (hn : s.n ≤ 7) :
    Calls Try.prog 54 #[.pointer (some ⟨nb, 0, none⟩)] w fun e w' => ∃ v, e = .returned v ∧ w'.ownsRow w.heap.size 3 1 v s.others.length (iC s.others) ∧ Below w.heap.size w w' := by
  have c3 := h.c3
  have H := hide h
  clear h
  obtain ⟨i0, hi, hz0, hz1, hz2⟩ := info_parts infoInt
  go_enter Try.func54, Try.ntmps54
  go_wp2
  go_loopw [3, 9] (fun l i wr => ∃ k : Nat, k ≤ s.n ∧ i = .int .i64 k ∧ wr.ownsRow w.heap.size 3 1 l (oth s.id k).length (iC (oth s.id k)) ∧ Below w.heap.size w wr) (fun _ i _ => s.n - (intOf i).toNat)
  case atStart => exact ⟨0, Nat.zero_le _, rfl, World.ownsRow_nil w _ _ _, Below.refl _ _⟩
  case round =>
    obtain ⟨k, hk, rfl, ho, hb⟩ := hrel
    have e2 := ((unhide H).below hb).c2
    obtain ⟨lo, lc, rfl⟩ := owns_form ho
    have hol := oth_len s.id k
    by_cases hlt : k < s.n
    · have i2 : (k : Int) < (s.n : Int) := by omega
      by_cases hid : k = s.id
      · have HO := hide (oth_no hid)
        rw [← hid] at e2
        have hd : ((k : Int) != (k : Int)) = false := by simp
        have hbw := hide hb
        have how := hide ho
        clear hb ho
        go_wp2
        go_roundw
        case rel => exact ⟨k + 1, by omega, by go_num, by rw [unhide HO]; exact unhide how, unhide hbw⟩
        case measure => simp [intOf]; omega
      · have HO := hide (oth_yes hid)
        have hd : ((k : Int) != (s.id : Int)) = true := by simp; omega
        have hbw := hide hb
        have how := hide ho
        clear hid hb ho
        go_wp2_with (at_builtin; go_must (refine wpList_append_own_at _ rfl (.tmp 18) (.tmp 20) 30 rfl w.heap.size 3 i0 _ 1 8 Try.underlying30 hi hz0 hz1 hz2 rfl (by decide) (.slice lo (oth s.id k).length lc) (oth s.id k).length (iC (oth s.id k)) rfl ((unhide how).alloc _) ⟨wr.heap.size, 0, none⟩ 1 1 [.int .i64 (k : Int)] rfl rfl (cell_one_new _ _ _) (by intro u hu; simp at hu; subst hu; rfl) (by unfold maxLen; omega) (by omega) (by have := (unhide hbw).size; simp; omega) ?_))
        intro v' w' h2 h3 _ _
        have HN : Hid (w'.ownsRow w.heap.size 3 1 v' (oth s.id (k + 1)).length (iC (oth s.id (k + 1)))) := by
          show World.ownsRow _ _ _ _ _ _ _
          rw [unhide HO, iC_append, List.length_append]
          exact h2
        have HB : Hid (Below w.heap.size w w') := ((unhide hbw).alloc (unhide hbw).size _).grown h3 (by have := (unhide hbw).size; simp; omega) (fun x hx => ((unhide how).lt x hx).1)
        clear h2 h3
        go_wp2
        go_roundw
        case rel => exact ⟨k + 1, by omega, by go_num, unhide HN, unhide HB⟩
        case measure => simp [intOf]; omega
    · have hkn : k = s.n := by omega
      subst hkn
      have how := hide ho
      have hbw := hide hb
      clear ho hb
      go_wp2
      go_ret
      exact ⟨_, rfl, unhide how, unhide hbw⟩

end Go.Proofs.Yteiecbkfganhnaa
