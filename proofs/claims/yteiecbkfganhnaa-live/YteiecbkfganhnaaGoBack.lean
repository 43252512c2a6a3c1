/- The program's node: goBack. -/
import Derived.Test.YteiecbkfganhnaaGoOn
namespace Go.Proofs.Yteiecbkfganhnaa
open Go.RowKit Go.MuLone

set_option maxRecDepth 100000 in
set_option maxHeartbeats 1000000 in
theorem goBack_any (mu : Int) (nb : Nat) (s : Nd) (lv : Value) (f k : Nat) (w : World) (h : NB mu w nb s lv) (hl : NL w s lv) (hok : Ok s) (hr : s.role = 3) (hf : f < s.n) (hk : k ≤ 1000000) :
    Calls Try.prog 73 #[.pointer (some ⟨nb, 0, none⟩), .int .i64 (f : Int), .int .i64 (k : Int)] w fun e w' => Sent mu nb lv w (s.goBack f k) e w' := by
  have hn7 := hok.n7
  have hf7 : (f : Int) < 7 := by omega
  have hf0 : (0 : Int) ≤ (f : Int) := by omega
  have c26 := h.mt (i := f) (by omega)
  have c19 := h.nx (i := f) (by omega)
  have f19 := h.free (19 + f)
  have hld := hok.lead hr
  have b1 := hld.lo f hf
  have b2 := hld.hi f hf
  have b3 := hld.mm f hf
  have b4 := hld.last
  obtain ⟨x, hx⟩ : ∃ x, max (s.mt f + 1) (min (s.nx f - 1) (k + 1)) = x := ⟨_, rfl⟩
  have HCV : Hid (max (min (IntKind.i64.wrap ((s.nx f : Int) - 1)) (IntKind.i64.wrap ((k : Int) + 1))) (IntKind.i64.wrap ((s.mt f : Int) + 1)) = (x : Int)) := by
    show _ = _
    rw [IntWalk.i64_in _ (by omega), IntWalk.i64_in _ (by omega), IntWalk.i64_in _ (by omega), ← hx]
    omega
  have HN2 : Hid (NB mu (w.setCell ⟨nb, 19 + f, none⟩ (.int .i64 (x : Int))) nb (s.backs f k) lv) := by
    have := h.setNx (i := f) (by omega) x
    rw [← hx] at this ⊢
    exact this
  have HE2 : Hid (Ew nb w (w.setCell ⟨nb, 19 + f, none⟩ (.int .i64 (x : Int)))) := (Ew.refl nb w).set _ _
  have HL2 : Hid (NL (w.setCell ⟨nb, 19 + f, none⟩ (.int .i64 (x : Int))) (s.backs f k) lv) := hl.ew h (unhide HE2)
  have HLD2 : Hid (Leads (s.backs f k)) := (hok.backs hr hf k).lead hr
  have HOK := hide hok
  clear h hl hok hx hld hr
  go_enter Try.func73, Try.ntmps73
  go_wp2
  go_region_law (fail)
  all_goals
    rw [unhide HCV]
    have HN3 : Hid (NB mu (w.setCell ⟨nb, 19 + f, none⟩ (.int .i64 (x : Int))).drew nb (s.backs f k) lv) := (unhide HN2).drew
    have HE3 := hide ((unhide HE2).drew)
    have HL3 : Hid (NL (w.setCell ⟨nb, 19 + f, none⟩ (.int .i64 (x : Int))).drew (s.backs f k) lv) := (unhide HL2).drew
    generalize (w.setCell ⟨nb, 19 + f, none⟩ (.int .i64 (x : Int))).drew = W7 at *
    go_wp2_with (first | (go_at_call 53; refine (sendAppends_any mu nb (s.backs f k) lv [f] _ _ ((unhide HN3).below (below_alloc _ _)) ((unhide HL3).below (below_alloc _ _)) (unhide HLD2) hn7 (by exact ints_at _ _ rfl _) (one_lt hf) (by simp)).mono ?_; rintro e w7 ⟨v, l, rfl, hm7, hb7⟩; replace hm7 := hide hm7; replace hb7 := hide hb7))
    go_ret
    exact Sent.told ((unhide HE3).below (below_alloc _ _)) ((unhide HN3).below (below_alloc _ _)) ((unhide HL3).below (below_alloc _ _)) (unhide hm7) (unhide hb7)

end Go.Proofs.Yteiecbkfganhnaa
