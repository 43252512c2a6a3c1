/- The document's node: sound. -/
import Derived.Test.YteiecbkfganhnaaGreatRefEa
import Derived.Test.YteiecbkfganhnaaGreatRefEb
import Derived.Test.YteiecbkfganhnaaGreatRefEc

namespace Go.Proofs.YteiecbkfganhnaaGreat

open Go.RowKit Go.MuLone

set_option maxRecDepth 100000 in
set_option maxHeartbeats 1000000 in
theorem rightEntries_gen (v : Value) (es : List Ent) (low high : Int) (w : World) (hn : es.length < 4611686018427387904) (h : EntsIn w v es) :
    Calls Tryz.prog 24 #[v, .int .i64 low, .int .i64 high] w fun e w' => e = .returned (.bool (okE es (max 1 low) high)) ∧ w' = w := by
  obtain ⟨ao, cap, rfl, _, ha⟩ := h
  have HA := hide ha
  clear ha
  go_enter Tryz.func24, Tryz.ntmps24
  go_wp2
  go_loop [1, 7] (fun lo i => ∃ (k : Nat) (l : Int), k ≤ es.length ∧ i = .int .i64 k ∧ lo = .int .i64 l ∧ okE es (max 1 low) high = okE (es.drop k) (max 1 l) high) (fun _ i => es.length - (intOf i).toNat)
  case atStart => exact ⟨0, low, Nat.zero_le _, rfl, rfl, rfl⟩
  case round =>
    obtain ⟨k, l, hk, rfl, rfl, hok⟩ := hrel
    by_cases hlt : k < es.length
    · obtain ⟨b, off, rfl, a0, a1⟩ := (unhide HA) k _ (show es[k]? = some es[k] by simp [hlt])
      have i1 : (0 : Int) ≤ (k : Int) := by omega
      have i2 : (k : Int) < (es.length : Int) := by omega
      by_cases hbad : es[k].1 < max 1 l ∨ high < es[k].1 ∨ 20 < (es[k].2.size : Int)
      · have HK : Hid (okE es (max 1 low) high = false) := hok.trans (okE_bad hbad)
        clear hok
        generalize es[k].1 = t at *
        generalize es[k].2 = s at *
        by_cases h1 : t < l
        · clear hbad
          go_wp2
          go_ret
          exact ⟨by rw [unhide HK]; rfl, rfl⟩
        · by_cases h0 : t < 1
          · clear hbad
            go_wp2
            go_ret
            exact ⟨by rw [unhide HK]; rfl, rfl⟩
          · by_cases h2 : high < t
            · clear hbad
              go_wp2
              go_ret
              exact ⟨by rw [unhide HK]; rfl, rfl⟩
            · have h3 : 20 < (s.size : Int) := by omega
              clear hbad
              go_wp2
              go_ret
              exact ⟨by rw [unhide HK]; rfl, rfl⟩
      · have HK : Hid (okE es (max 1 low) high = okE (es.drop (k + 1)) es[k].1 high) := hok.trans (okE_good hbad)
        have h1 : ¬ es[k].1 < l := fun h => hbad (.inl (by omega))
        have h0 : ¬ es[k].1 < 1 := fun h => hbad (.inl (by omega))
        have h2 : ¬ high < es[k].1 := fun h => hbad (.inr (.inl h))
        have h3 : ¬ 20 < (es[k].2.size : Int) := fun h => hbad (.inr (.inr h))
        have HM : Hid (max 1 es[k].1 = es[k].1) := by show _ = _; omega
        clear hok hbad
        generalize es[k].1 = t at *
        generalize es[k].2 = s at *
        go_wp2
        go_round
        case rel => exact ⟨k + 1, t, by omega, by go_num, rfl, by rw [unhide HM]; exact unhide HK⟩
        case measure => simp [intOf]; omega
    · have hkn : k = es.length := by omega
      subst hkn
      have HK : Hid (okE es (max 1 low) high = true) := by show _ = _; rw [hok, List.drop_length]; rfl
      clear hok
      go_wp2
      go_ret
      exact ⟨by rw [unhide HK]; rfl, rfl⟩

set_option maxRecDepth 100000 in
set_option maxHeartbeats 8000000 in
theorem refSound_6 (rb : Nat) (s : Nd) (v : RV) (mk mf mt mT mi ml mc : Int) (me : List Ent) (mg : Bool) (w : World) (h : RB w rb s v []) (eo : Option Addr) (ec : Nat) (h0 : ¬ mk < 0) (h1 : ¬ 5 < mk) (b2 : (mt != (s.id : Int)) = false) (h3 : ¬ mf < 0) (h4 : ¬ (s.n : Int) ≤ mf) (b5 : (mf == (s.id : Int)) = false) (h6 : mT < 1) :
    Calls Tryz.prog 71 #[.pointer (some ⟨rb, 0, none⟩), magg ⟨mk, mf, mt, mT, mi, ml, mc, me, mg⟩ (.slice eo me.length ec)] w fun e w' => e = .returned (.bool false) ∧ Below w.heap.size w w' := by
  have HB := hide (below_alloc w (.cells #[.int .i64 mk, .int .i64 mf, .int .i64 mt, .int .i64 mT, .int .i64 mi, .int .i64 ml, .int .i64 mc, .slice eo me.length ec, .bool mg] 30))
  have hlt := h.lt
  have hne : ¬ rb = w.heap.size := by omega
  have c0 := h.c0
  have c1 := h.c1
  clear h
  go_enter Tryz.func71, Tryz.ntmps71
  go_wp2
  go_quiet (fail)
  go_wp2
  go_ret
  exact ⟨rfl, below_drewN (unhide HB) _⟩

set_option maxRecDepth 100000 in
set_option maxHeartbeats 8000000 in
theorem refSound_7 (rb : Nat) (s : Nd) (v : RV) (mk mf mt mT mi ml mc : Int) (me : List Ent) (mg : Bool) (w : World) (h : RB w rb s v []) (eo : Option Addr) (ec : Nat) (h0 : ¬ mk < 0) (h1 : ¬ 5 < mk) (b2 : (mt != (s.id : Int)) = false) (h3 : ¬ mf < 0) (h4 : ¬ (s.n : Int) ≤ mf) (b5 : (mf == (s.id : Int)) = false) (h6 : ¬ mT < 1) (h7 : 1000000 < mT) :
    Calls Tryz.prog 71 #[.pointer (some ⟨rb, 0, none⟩), magg ⟨mk, mf, mt, mT, mi, ml, mc, me, mg⟩ (.slice eo me.length ec)] w fun e w' => e = .returned (.bool false) ∧ Below w.heap.size w w' := by
  have HB := hide (below_alloc w (.cells #[.int .i64 mk, .int .i64 mf, .int .i64 mt, .int .i64 mT, .int .i64 mi, .int .i64 ml, .int .i64 mc, .slice eo me.length ec, .bool mg] 30))
  have hlt := h.lt
  have hne : ¬ rb = w.heap.size := by omega
  have c0 := h.c0
  have c1 := h.c1
  clear h
  go_enter Tryz.func71, Tryz.ntmps71
  go_wp2
  go_quiet (fail)
  go_wp2
  go_ret
  exact ⟨rfl, below_drewN (unhide HB) _⟩

set_option maxRecDepth 100000 in
set_option maxHeartbeats 2000000 in
theorem refSound_rest (rb : Nat) (s : Nd) (v : RV) (mk mf mt mT mi ml mc : Int) (me : List Ent) (mg B : Bool) (w : World) (h : RB w rb s v []) (eo : Option Addr) (ec : Nat) (hlen : me.length < 4611686018427387904) (he : EntsIn w (.slice eo me.length ec) me) (h0 : ¬ mk < 0) (h1 : ¬ 5 < mk) (b2 : (mt != (s.id : Int)) = false) (h3 : ¬ mf < 0) (h4 : ¬ (s.n : Int) ≤ mf) (b5 : (mf == (s.id : Int)) = false) (h6 : ¬ mT < 1) (h7 : ¬ 1000000 < mT)
    (hF : (mi < 0 ∨ 1000000 < mi ∨ ml < 0 ∨ 1000000 < ml ∨ mc < 0 ∨ 1000000 < mc ∨ 3 < (me.length : Int)) → B = false) (hT : ¬ (mi < 0 ∨ 1000000 < mi ∨ ml < 0 ∨ 1000000 < ml ∨ mc < 0 ∨ 1000000 < mc ∨ 3 < (me.length : Int)) → B = okE me (max 1 ml) mT) :
    Calls Tryz.prog 71 #[.pointer (some ⟨rb, 0, none⟩), magg ⟨mk, mf, mt, mT, mi, ml, mc, me, mg⟩ (.slice eo me.length ec)] w fun e w' => e = .returned (.bool B) ∧ Below w.heap.size w w' := by
  have HB := hide (below_alloc w (.cells #[.int .i64 mk, .int .i64 mf, .int .i64 mt, .int .i64 mT, .int .i64 mi, .int .i64 ml, .int .i64 mc, .slice eo me.length ec, .bool mg] 30))
  have hlt := h.lt
  have hne : ¬ rb = w.heap.size := by omega
  have c0 := h.c0
  have c1 := h.c1
  have HE := hide (ents_below he (unhide HB))
  have HF := hide hF
  have HT := hide hT
  clear h he hF hT
  go_enter Tryz.func71, Tryz.ntmps71
  go_wp2
  go_quiet (fail)
  by_cases t0 : mi < 0
  · have hB := unhide HF (by omega)
    subst hB
    go_wp2
    go_ret
    exact ⟨rfl, below_drewN (unhide HB) _⟩
  by_cases t1 : 1000000 < mi
  · have hB := unhide HF (by omega)
    subst hB
    go_wp2
    go_ret
    exact ⟨rfl, below_drewN (unhide HB) _⟩
  by_cases t2 : ml < 0
  · have hB := unhide HF (by omega)
    subst hB
    go_wp2
    go_ret
    exact ⟨rfl, below_drewN (unhide HB) _⟩
  by_cases t3 : 1000000 < ml
  · have hB := unhide HF (by omega)
    subst hB
    go_wp2
    go_ret
    exact ⟨rfl, below_drewN (unhide HB) _⟩
  by_cases t4 : mc < 0
  · have hB := unhide HF (by omega)
    subst hB
    go_wp2
    go_ret
    exact ⟨rfl, below_drewN (unhide HB) _⟩
  by_cases t5 : 1000000 < mc
  · have hB := unhide HF (by omega)
    subst hB
    go_wp2
    go_ret
    exact ⟨rfl, below_drewN (unhide HB) _⟩
  by_cases t6 : 3 < (me.length : Int)
  · have hB := unhide HF (by omega)
    subst hB
    go_wp2
    go_ret
    exact ⟨rfl, below_drewN (unhide HB) _⟩
  have hB := unhide HT (by omega)
  subst hB
  go_wp2_with (go_at_call 24; refine (rightEntries_gen _ me ml mT _ hlen (ents_below (unhide HE) (below_drewN (Below.refl _ _) nq))).mono ?_; rintro e w1 ⟨rfl, q1⟩; cases q1.symm)
  go_ret
  exact ⟨rfl, below_drewN (unhide HB) _⟩

theorem refSound_any (rb : Nat) (s : Nd) (v : RV) (m : Msg) (w : World) (h : RB w rb s v []) (hlen : m.ents.length < 4611686018427387904) (eo : Option Addr) (ec : Nat) (he : EntsIn w (.slice eo m.ents.length ec) m.ents) :
    Calls Tryz.prog 71 #[.pointer (some ⟨rb, 0, none⟩), magg m (.slice eo m.ents.length ec)] w fun e w' => e = .returned (.bool (soundM m s.id s.n)) ∧ Below w.heap.size w w' := by
  obtain ⟨mk, mf, mt, mT, mi, ml, mc, me, mg⟩ := m
  simp only at hlen he
  cases hb : soundM ⟨mk, mf, mt, mT, mi, ml, mc, me, mg⟩ s.id s.n with
  | true =>
    have q := soundM_of hb
    have q0 := q.k0; have q1 := q.k1; have q2 := q.dst; have q3 := q.src; have q4 := q.s0; have q5 := q.s1; have q6 := q.t0; have q7 := q.t1; have q8 := q.i0; have q9 := q.i1; have q10 := q.l0; have q11 := q.l1; have q12 := q.c0; have q13 := q.c1; have q14 := q.len; have q15 := q.ok
    simp only at q0 q1 q2 q3 q4 q5 q6 q7 q8 q9 q10 q11 q12 q13 q14 q15
    rw [← q15]
    exact refSound_rest rb s v mk mf mt mT mi ml mc me mg _ w h eo ec hlen he (by omega) (by omega) (by simpa using q2) (by omega) (by omega) (by simpa using q3) (by omega) (by omega) (fun hx => by omega) (fun _ => rfl)
  | false =>
    by_cases h0 : mk < 0
    · exact refSound_0 rb s v mk mf mt mT mi ml mc me mg w h eo ec  h0
    by_cases h1 : 5 < mk
    · exact refSound_1 rb s v mk mf mt mT mi ml mc me mg w h eo ec h0 h1
    by_cases h2 : ¬ mt = (s.id : Int)
    · exact refSound_2 rb s v mk mf mt mT mi ml mc me mg w h eo ec h0 h1 (by simpa using h2)
    have b2 : (mt != (s.id : Int)) = false := by simpa using h2
    replace h2 := Classical.not_not.1 h2
    by_cases h3 : mf < 0
    · exact refSound_3 rb s v mk mf mt mT mi ml mc me mg w h eo ec h0 h1 b2 h3
    by_cases h4 : (s.n : Int) ≤ mf
    · exact refSound_4 rb s v mk mf mt mT mi ml mc me mg w h eo ec h0 h1 b2 h3 h4
    by_cases h5 : mf = (s.id : Int)
    · exact refSound_5 rb s v mk mf mt mT mi ml mc me mg w h eo ec h0 h1 b2 h3 h4 (by simpa using h5)
    have b5 : (mf == (s.id : Int)) = false := by simpa using h5
    by_cases h6 : mT < 1
    · exact refSound_6 rb s v mk mf mt mT mi ml mc me mg w h eo ec h0 h1 b2 h3 h4 b5 h6
    by_cases h7 : 1000000 < mT
    · exact refSound_7 rb s v mk mf mt mT mi ml mc me mg w h eo ec h0 h1 b2 h3 h4 b5 h6 h7
    refine refSound_rest rb s v mk mf mt mT mi ml mc me mg false w h eo ec hlen he h0 h1 b2 h3 h4 b5 h6 h7 (fun _ => rfl) fun hx => ?_
    have hok : okE me (max 1 ml) mT = false := by
      rw [← hb]
      have r1 : decide (0 ≤ mk) = true := decide_eq_true (by omega)
      have r2 : decide (mk ≤ 5) = true := decide_eq_true (by omega)
      have r3 : decide (mt = (s.id : Int)) = true := decide_eq_true h2
      have r4 : decide (mf ≠ (s.id : Int)) = true := decide_eq_true h5
      have r5 : srcOk mf s.n = true := by unfold srcOk; rw [decide_eq_true (by omega), decide_eq_true (by omega)]; rfl
      have r6 : decide (1 ≤ mT) = true := decide_eq_true (by omega)
      have r7 : decide (mT ≤ 1000000) = true := decide_eq_true (by omega)
      have r8 : numOk mi = true := by unfold numOk; rw [decide_eq_true (by omega), decide_eq_true (by omega)]; rfl
      have r9 : numOk ml = true := by unfold numOk; rw [decide_eq_true (by omega), decide_eq_true (by omega)]; rfl
      have r10 : numOk mc = true := by unfold numOk; rw [decide_eq_true (by omega), decide_eq_true (by omega)]; rfl
      have r11 : decide ((me.length : Int) ≤ 3) = true := decide_eq_true (by omega)
      unfold soundM
      simp only
      rw [r1, r2, r3, r4, r5, r6, r7, r8, r9, r10, r11]
      rfl
    exact hok.symm

end Go.Proofs.YteiecbkfganhnaaGreat
