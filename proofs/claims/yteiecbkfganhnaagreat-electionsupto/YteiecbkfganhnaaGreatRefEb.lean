/- The document's node: sound, where one of its first tests fails. -/
import Derived.Test.YteiecbkfganhnaaGreatRefD

namespace Go.Proofs.YteiecbkfganhnaaGreat

open Go.RowKit Go.MuLone

set_option maxRecDepth 100000 in
set_option maxHeartbeats 8000000 in
theorem refSound_2 (rb : Nat) (s : Nd) (v : RV) (mk mf mt mT mi ml mc : Int) (me : List Ent) (mg : Bool) (w : World) (h : RB w rb s v []) (eo : Option Addr) (ec : Nat) (h0 : ¬ mk < 0) (h1 : ¬ 5 < mk) (b2 : (mt != (s.id : Int)) = true) :
    Calls Tryz.prog 71 #[.pointer (some ⟨rb, 0, none⟩), magg ⟨mk, mf, mt, mT, mi, ml, mc, me, mg⟩ (.slice eo me.length ec)] w fun e w' => e = .returned (.bool false) ∧ Below w.heap.size w w' := by
  have HB := hide (below_alloc w (.cells #[.int .i64 mk, .int .i64 mf, .int .i64 mt, .int .i64 mT, .int .i64 mi, .int .i64 ml, .int .i64 mc, .slice eo me.length ec, .bool mg] 30))
  have hlt := h.lt
  have hne : ¬ rb = w.heap.size := by omega
  have c0 := h.c0
  have c1 := h.c1
  clear h
  go_enter Tryz.func71, Tryz.ntmps71
  go_wp2
  go_quiet (fail)
  go_wp2
  go_ret
  exact ⟨rfl, below_drewN (unhide HB) _⟩

set_option maxRecDepth 100000 in
set_option maxHeartbeats 8000000 in
theorem refSound_3 (rb : Nat) (s : Nd) (v : RV) (mk mf mt mT mi ml mc : Int) (me : List Ent) (mg : Bool) (w : World) (h : RB w rb s v []) (eo : Option Addr) (ec : Nat) (h0 : ¬ mk < 0) (h1 : ¬ 5 < mk) (b2 : (mt != (s.id : Int)) = false) (h3 : mf < 0) :
    Calls Tryz.prog 71 #[.pointer (some ⟨rb, 0, none⟩), magg ⟨mk, mf, mt, mT, mi, ml, mc, me, mg⟩ (.slice eo me.length ec)] w fun e w' => e = .returned (.bool false) ∧ Below w.heap.size w w' := by
  have HB := hide (below_alloc w (.cells #[.int .i64 mk, .int .i64 mf, .int .i64 mt, .int .i64 mT, .int .i64 mi, .int .i64 ml, .int .i64 mc, .slice eo me.length ec, .bool mg] 30))
  have hlt := h.lt
  have hne : ¬ rb = w.heap.size := by omega
  have c0 := h.c0
  have c1 := h.c1
  clear h
  go_enter Tryz.func71, Tryz.ntmps71
  go_wp2
  go_quiet (fail)
  go_wp2
  go_ret
  exact ⟨rfl, below_drewN (unhide HB) _⟩

end Go.Proofs.YteiecbkfganhnaaGreat
