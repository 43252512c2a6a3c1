/- The program's node: Propose. -/
import Derived.Test.YteiecbkfganhnaaLead
import Derived.Test.YteiecbkfganhnaaRaft
import Derived.Test.YteiecbkfganhnaaTick
import Derived.Laws.Closers25

namespace Go.Proofs.Yteiecbkfganhnaa
open Go.RowKit Go.MuLone

/-- What comes of a Propose. -/
def Proposed (nb : Nat) (lv : Value) (w : World) (r : Int × Nd × List Msg × Int) (e : Ending) (w' : World) : Prop :=
  ∃ v l lv', e = .returned (.tuple #[.int .i64 r.1, v, .int .i64 r.2.2.2]) ∧ NB 0 w' nb r.2.1 lv' ∧ NL w' r.2.1 lv' ∧ MsgsOut w' w.heap.size v r.2.2.1 l ∧ Ev nb lv lv' w w' ∧ Apart lv' l

set_option maxRecDepth 100000 in
set_option maxHeartbeats 400000 in
theorem soundCommand_any (c : ByteArray) (w : World) (b : Bool) (hb : decide ((c.size : Int) ≤ 20) = b) :
    Calls Try.prog 30 #[.string c] w fun e w' => e = .returned (.bool b) ∧ w' = w := by
  have HB := hide hb
  clear hb
  go_enter Try.func30, Try.ntmps30
  go_wp2
  go_ret
  refine ⟨?_, rfl⟩
  rw [← unhide HB]
  rfl

theorem quiet_prop {nb : Nat} {lv : Value} {w w1 : World} {s : Nd} {k : Int} (h : NB 0 w nb s lv) (hl : NL w s lv) (h1 : Ew nb w w1) (hN : NB 0 w1 nb s lv) : Proposed nb lv w (0, s, [], k) (.returned (.tuple #[.int .i64 0, .slice none 0 0, .int .i64 k])) w1 :=
  ⟨_, [], lv, rfl, hN, hl.ew h h1, MsgsOut.nil _ _, Ev.ofEw h1, fun x hx => by cases hx⟩

set_option maxRecDepth 100000 in
set_option maxHeartbeats 1000000 in
theorem propose_any (nb : Nat) (s : Nd) (lv : Value) (c : ByteArray) (w : World) (h : NB 0 w nb s lv) (hl : NL w s lv) (hok : Ok s) :
    Calls Try.prog 15 #[.pointer (some ⟨nb, 0, none⟩), .string c] w fun e w' => Proposed nb lv w (s.propose c) e w' := by
  have c0 := h.c0
  have f0 := h.free 0
  have c7 := (h.setMu 1).c7
  have HLT := hide h.lt
  have H := hide h
  have HL := hide hl
  have HOK := hide hok
  have HN1 := hide (h.setMu 1)
  have HE1 := hide ((Ew.refl nb w).set 0 (.int .i32 1))
  have HL1 := hide (hl.ew h (unhide HE1))
  clear h hl hok
  by_cases h1 : c.size = 0
  · have HR : Hid (s.propose c = (0, s, [], 3)) := by
      have : s.propErr c = 3 := if_pos (.inl h1)
      show _ = _
      unfold Nd.propose
      rw [this]; rfl
    have hc : c = ⟨#[]⟩ := by
      cases c with
      | mk d =>
        have : d.size = 0 := h1
        have : d = #[] := Array.eq_empty_of_size_eq_zero this
        rw [this]
    subst hc
    clear h1
    go_enter_defers Try.func15, Try.ntmps15
    go_wp2
    refine ⟨.tuple #[.int .i64 0, .slice none 0 0, .int .i64 3], (by simp [results, Try.results15, go_sem]), ?_⟩
    rw [unhide HR]
    exact quiet_prop (unhide H) (unhide HL) (Ew.refl nb w) (unhide H)
  · have hce : ¬ c = ⟨#[]⟩ := fun hx => h1 (by rw [hx]; rfl)
    have hceb : c.toList.isEmpty = false := by
      rw [← decide_eq_emptyBytes c]
      exact decide_eq_false hce
    clear hce
    by_cases h2 : 20 < c.size
    · have HR : Hid (s.propose c = (0, s, [], 3)) := by
        have : s.propErr c = 3 := if_pos (.inr h2)
        show _ = _
        unfold Nd.propose
        rw [this]; rfl
      have h2' : ¬ (c.size : Int) ≤ 20 := by omega
      clear h1 h2
      go_enter_defers Try.func15, Try.ntmps15
      go_wp2
      refine ⟨.tuple #[.int .i64 0, .slice none 0 0, .int .i64 3], (by simp [results, Try.results15, go_sem]), ?_⟩
      rw [unhide HR]
      exact quiet_prop (unhide H) (unhide HL) (Ew.refl nb w) (unhide H)
    have HC2 : Hid (decide ((c.size : Int) ≤ 20) = true) := decide_eq_true (by omega)
    by_cases h3 : s.role = 3
    · rw [h3] at c7
      by_cases h4 : 60 ≤ s.last
      · have HR : Hid (s.propose c = (0, s, [], 5)) := by
          have : s.propErr c = 5 := by unfold Nd.propErr; rw [if_neg (by omega), if_neg (fun hx => hx h3), if_pos h4]
          show _ = _
          unfold Nd.propose
          rw [this]; rfl
        have HFU : Hid (decide (60 ≤ s.last) = true) := decide_eq_true h4
        clear h1 h2 h3 h4
        go_enter_defers Try.func15, Try.ntmps15
        go_wp2_with (first | (go_at_call 30; refine (soundCommand_any c _ _ (unhide HC2)).mono ?_; rintro e w1 ⟨rfl, q1⟩; cases q1.symm) | (go_at_call 27; refine (lock_free muLib ⟨nb, 0, none⟩ _ c0 f0).mono ?_; rintro e w' ⟨rfl, rfl⟩) | (go_at_call 31; refine (isFull_any 1 nb s lv _ (unhide HN1) (unhide HL1)).mono ?_; rw [unhide HFU]; rintro e w1 ⟨rfl, q1⟩; cases q1.symm))
        refine leaves_cons (f := 28) (args := #[.pointer (some ⟨nb, 0, none⟩)]) (by simp) (by simp [go_sem]) ?_
        refine (unlock_deferred muLib ⟨nb, 0, none⟩ .returning _ (unhide HN1).c0 ((unhide HN1).free 0)).mono ?_
        rintro e u' w'' ⟨rfl, rfl, rfl⟩
        refine ⟨.tuple #[.int .i64 0, .slice none 0 0, .int .i64 5], (by simp [results, Try.results15, go_sem]), ?_⟩
        rw [unhide HR]
        exact quiet_prop (unhide H) (unhide HL) ((unhide HE1).set 0 _) ((unhide HN1).setMu 0)
      · have HR : Hid (s.propose c = (((s.proposeS c).last : Int), s.proposeS c, (s.proposeS c).appends, 0)) := by
          have : s.propErr c = 0 := by unfold Nd.propErr; rw [if_neg (by omega), if_neg (fun hx => hx h3), if_neg h4]
          show _ = _
          unfold Nd.propose
          rw [this]; rfl
        have HFU : Hid (decide (60 ≤ s.last) = false) := decide_eq_false h4
        have HPO : Hid (Ok (s.puts c)) := (unhide HOK).puts c (by omega) (by omega) (lead_term (unhide HOK) h3)
        have HPL : Hid (Leads (s.puts c).leadC.count) := (unhide HPO).leadC.count.lead h3
        have HOL : Hid (OwnLast (s.puts c).leadC) := ownLast_of (unhide HPO).leadC.log
        have HSL : Hid (s.last ≤ 60) := (unhide HOK).len
        have HC : Hid (c.size ≤ 20) := by show _ ≤ _; omega
        have HPS := hide (proposeS_eq s c)
        clear h1 h2 h3 h4
        go_enter_defers Try.func15, Try.ntmps15
        go_wp2_with (first | (go_at_call 30; refine (soundCommand_any c _ _ (unhide HC2)).mono ?_; rintro e w1 ⟨rfl, q1⟩; cases q1.symm) | (go_at_call 27; refine (lock_free muLib ⟨nb, 0, none⟩ _ c0 f0).mono ?_; rintro e w' ⟨rfl, rfl⟩) | (go_at_call 31; refine (isFull_any 1 nb s lv _ (unhide HN1) (unhide HL1)).mono ?_; rw [unhide HFU]; rintro e w1 ⟨rfl, q1⟩; cases q1.symm) | (go_at_call 32; refine (put_any 1 nb s lv c _ (unhide HN1) (unhide HL1) (unhide HSL) (unhide HC)).mono ?_; rintro e w5 ⟨rfl, lv5, hN5, hL5, hV5⟩; have hN6 : NB 1 w5 nb (s.puts c) lv5 := hN5; have hL6 : NL w5 (s.puts c) lv5 := hL5; have hF6 := hide hL6.form; replace hN6 := hide hN6; replace hL6 := hide hL6; replace hV5 := hide hV5; clear hN5 hL5) | (go_at_call 33; refine (last_any 1 nb (s.puts c) lv5 _ (unhide hN6) (unhide hF6)).mono ?_; rintro e w1 ⟨rfl, q1⟩; cases q1.symm) | (go_at_call 34; refine (spread_any 1 nb (s.puts c) lv5 _ (unhide hN6) (unhide hL6) (unhide HPO).len (unhide HPO).n7 (unhide HPO).id (unhide HOL) (unhide HPL)).mono ?_; intro e w6 hx6; obtain ⟨v6, l6, lv6, rfl, hx6⟩ := hx6; replace hx6 := hide hx6))
        have hx := unhide hx6
        refine leaves_cons (f := 28) (args := #[.pointer (some ⟨nb, 0, none⟩)]) (by simp) (by simp [go_sem]) ?_
        refine (unlock_deferred muLib ⟨nb, 0, none⟩ .returning _ hx.1.c0 (hx.1.free 0)).mono ?_
        rintro e u' w'' ⟨rfl, rfl, rfl⟩
        refine ⟨.tuple #[.int .i64 ((s.puts c).last : Int), v6, .int .i64 0], (by simp [results, Try.results15, go_sem]), ?_⟩
        rw [unhide HR, unhide HPS]
        have hE : Ew nb w6 (w6.setCell ⟨nb, 0, none⟩ (.int .i32 0)) := (Ew.refl nb w6).set 0 _
        have hV := (Ev.ofEw (unhide HE1)).trans (unhide hV5)
        exact ⟨v6, l6, lv6, rfl, hx.1.setMu 0, hx.2.1.ew hx.1 hE, (hx.2.2.1.base hV.size).ew hE (unhide HLT), (hV.trans hx.2.2.2.1).ew hE, hx.2.2.2.2⟩
    · have HR : Hid (s.propose c = (0, s, [], 4)) := by
        have : s.propErr c = 4 := by unfold Nd.propErr; rw [if_neg (by omega), if_pos h3]
        show _ = _
        unfold Nd.propose
        rw [this]; rfl
      have hrb : (s.role != 3) = true := by simpa using h3
      clear h1 h2
      go_enter_defers Try.func15, Try.ntmps15
      go_wp2_with (first | (go_at_call 30; refine (soundCommand_any c _ _ (unhide HC2)).mono ?_; rintro e w1 ⟨rfl, q1⟩; cases q1.symm) | (go_at_call 27; refine (lock_free muLib ⟨nb, 0, none⟩ _ c0 f0).mono ?_; rintro e w' ⟨rfl, rfl⟩))
      refine leaves_cons (f := 28) (args := #[.pointer (some ⟨nb, 0, none⟩)]) (by simp) (by simp [go_sem]) ?_
      refine (unlock_deferred muLib ⟨nb, 0, none⟩ .returning _ (unhide HN1).c0 ((unhide HN1).free 0)).mono ?_
      rintro e u' w'' ⟨rfl, rfl, rfl⟩
      refine ⟨.tuple #[.int .i64 0, .slice none 0 0, .int .i64 4], (by simp [results, Try.results15, go_sem]), ?_⟩
      rw [unhide HR]
      exact quiet_prop (unhide H) (unhide HL) ((unhide HE1).set 0 _) ((unhide HN1).setMu 0)

end Go.Proofs.Yteiecbkfganhnaa
