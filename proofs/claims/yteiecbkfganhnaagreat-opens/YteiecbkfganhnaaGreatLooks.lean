/- looks of a book: behind a step. -/
import Derived.Test.YteiecbkfganhnaaGreatSettle
namespace Go.Proofs.YteiecbkfganhnaaGreat
open Go.RowKit

/-- The book as it was. -/
def Looked (i gb : Nat) (w : World) (tg : Tags) (c0 c1 c2 c3 : Value) (b : BV) (l : List (List Ent)) (ne : Nat) (l2 : List (List ByteArray)) (nt : Nat) (w' : World) : Prop :=
  ∃ tg', Bk i gb w' tg' c0 c1 c2 c3 b l ne l2 nt ∧ Stp (fun _ => False) w tg w' tg'

theorem looked_of {i gb m : Nat} {w w' : World} {tg : Tags} {c0 c1 c2 c3 : Value} {b : BV} {l : List (List Ent)} {ne : Nat} {l2 : List (List ByteArray)} {nt : Nat} (h : Bk i gb w tg c0 c1 c2 c3 b l ne l2 nt) (hb : Below (w.drewN m).heap.size (w.drewN m) w') :
    Looked i gb w tg c0 c1 c2 c3 b l ne l2 nt w' := by
  have hb' : Below w.heap.size w w' := ⟨hb.os, hb.tape, hb.output, hb.size, hb.block⟩
  have hs : Stp (fun _ => False) w tg w' (newTag w.heap.size tg (0, 1)) := Stp.ofBelow hb' tg (0, 1)
  exact ⟨_, h.step hs (fun _ _ h => h) (fun h => h), hs⟩

set_option maxRecDepth 100000 in
set_option maxHeartbeats 1000000 in
theorem looks_few (i gb : Nat) (w : World) (tg : Tags) (c0 c1 c2 c3 : Value) (b : BV) (l : List (List Ent)) (ne : Nat) (l2 : List (List ByteArray)) (nt : Nat)
    (h : Bk i gb w tg c0 c1 c2 c3 b l ne l2 nt) (hll : l.length + l2.length ≤ 7) (hne : ne ≤ 100000000) (hnt : nt ≤ 100000000) :
    Calls Tryz.prog 19 #[.pointer (some ⟨gb, 4, none⟩)] w fun e w' => e = .returned (.bool true) ∧ Looked i gb w tg c0 c1 c2 c3 b l ne l2 nt w' := by
  obtain ⟨xs, ys, hx, hy, hwl⟩ := h.E.rows
  obtain ⟨xs2, ys2, hx2, hy2, hwl2⟩ := h.T.rows
  obtain ⟨a1, cap1, e1⟩ := hx.form
  obtain ⟨a2, cap2, e2⟩ := hx2.form
  have k7 : w.cell? ⟨gb, 7, none⟩ = some (.slice a1 l.length cap1) := by rw [← e1]; exact h.G.c7
  have k9 : w.cell? ⟨gb, 9, none⟩ = some (.slice none 0 0) := by rw [← h.wm]; exact h.G.c9
  have k11 : w.cell? ⟨gb, 11, none⟩ = some (.slice a2 l2.length cap2) := by rw [← e2]; exact h.G.c11
  have H := hide h
  have hd : decide (7 < (l.length : Int) + (l2.length : Int)) = false := decide_eq_false (by omega)
  clear h hx hy hwl hx2 hy2 hwl2 e1 e2
  go_enter Tryz.func19, Tryz.ntmps19
  go_wp2_with fail
  go_quiet (fail)
  go_wp2_with fail
  refine (waits_any i gb _ tg c0 c1 c2 c3 b l l2 (by exact (unhide H).G) (by exact ((unhide H).step ((Stp.refl (fun _ => False) w tg).drewN nq) (fun _ _ h => h) (fun h => h)).E) (by exact ((unhide H).step ((Stp.refl (fun _ => False) w tg).drewN nq) (fun _ _ h => h) (fun h => h)).T) (unhide H).wm (by omega) (by omega)).mono ?_
  rintro e W ⟨rfl, m, hW⟩
  rw [World.drewN_drewN] at hW
  subst hW
  have HB := hide ((unhide H).step ((Stp.refl (fun _ => False) w tg).drewN (nq + m)) (fun _ _ h => h) (fun h => h))
  go_wp2_with (go_at_call 38; refine (reads_any i gb _ tg c0 c1 c2 c3 b ne nt (by exact (unhide HB).G) (by exact (unhide HB).ME) (by exact (unhide HB).MT) (unhide H).m (by omega) (by omega)).mono ?_; rintro e w7 ⟨rfl, hb7⟩; replace hb7 := hide hb7)
  go_ret
  exact ⟨rfl, looked_of (unhide H) (unhide hb7)⟩

end Go.Proofs.YteiecbkfganhnaaGreat
