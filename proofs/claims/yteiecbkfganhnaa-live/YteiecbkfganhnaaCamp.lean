/- The program's node: campaign, others. -/
import Derived.Test.YteiecbkfganhnaaSmallB
namespace Go.Proofs.Yteiecbkfganhnaa
open Go.RowKit Go.MuLone

set_option maxRecDepth 100000 in
set_option maxHeartbeats 1000000 in
theorem campaign_any (mu : Int) (nb : Nat) (s : Nd) (lv : Value) (r : Int) (w : World) (h : NB mu w nb s lv) (hid : s.id < 7) :
    Calls Try.prog 59 #[.pointer (some ⟨nb, 0, none⟩), .int .i64 r] w fun e w' => e = .returned (.tuple #[]) ∧ NB mu w' nb (s.campaign r) lv ∧ Ew nb w w' := by
  have c2 := h.c2
  have c7 := h.c7
  have c8 := h.c8
  have c10 := h.c10
  have f7 := h.free 7
  have f8 := h.free 8
  have f10 := h.free 10
  have hlt := h.lt
  have hN : NB mu (((w.setCell ⟨nb, 7, none⟩ (.int .i64 r)).setCell ⟨nb, 8, none⟩ (.int .i64 (-1))).setCell ⟨nb, 10, none⟩ (.int .i64 0)) nb { s with role := r, leads := -1, elapsed := 0 } lv := ((h.setRole r).setLeads (-1)).setElapsed 0
  have hE : Ew nb w (((w.setCell ⟨nb, 7, none⟩ (.int .i64 r)).setCell ⟨nb, 8, none⟩ (.int .i64 (-1))).setCell ⟨nb, 10, none⟩ (.int .i64 0)) := (((Ew.refl nb w).set 7 _).set 8 _).set 10 _
  have HN := hide hN
  have HE := hide hE
  clear h hN hE
  go_enter Try.func59, Try.ntmps59
  go_wp2_with fail
  clear c7 c8 c10 f7 f8 f10
  have e2 := (unhide HN).c2
  generalize ((w.setCell ⟨nb, 7, none⟩ (.int .i64 r)).setCell ⟨nb, 8, none⟩ (.int .i64 (-1))).setCell ⟨nb, 10, none⟩ (.int .i64 0) = W at *
  go_wp2_with (go_at_call 56; refine (with_any none7 s.id W hid).mono ?_; rintro e w1 ⟨rfl, hb⟩; have hN1 := (unhide HN).below hb; have k12 := hN1.c12; have k13 := hN1.c13; have k14 := hN1.c14; have k15 := hN1.c15; have k16 := hN1.c16; have k17 := hN1.c17; have k18 := hN1.c18; have f12 := hN1.free 12; have f13 := hN1.free 13; have f14 := hN1.free 14; have f15 := hN1.free 15; have f16 := hN1.free 16; have f17 := hN1.free 17; have f18 := hN1.free 18; replace hN1 := hide hN1; replace hb := hide hb)
  go_end0
  exact ⟨rfl, (unhide hN1).setGr _, (((((((((unhide HE).below (unhide hb)).set 12 _).set 13 _).set 14 _).set 15 _).set 16 _).set 17 _).set 18 _)⟩

end Go.Proofs.Yteiecbkfganhnaa
