/- The program's node: Step. -/
import Derived.Test.YteiecbkfganhnaaGreatKGStep
import Derived.Test.YteiecbkfganhnaaGreatSound
import Derived.Test.YteiecbkfganhnaaGreatKAppRep

namespace Go.Proofs.YteiecbkfganhnaaGreat

open Go.RowKit Go.MuLone

theorem stepVote_any (mu : Int) (nb : Nat) (s : Nd) (lv : Value) (m : Msg) (ev : Value) (w : World) (h : NB mu w nb s lv) (hl : NL w s lv) (hok : Ok s) (hev : ∃ ao n c, ev = .slice ao n c) :
    Calls Tryz.prog 67 #[.pointer (some ⟨nb, 0, none⟩), magg m ev] w fun e w' => Sent mu nb lv w (s.stepVote m) e w' := by
  by_cases h1 : s.term < m.term
  · exact stepVoteH_any mu nb s lv m ev w h hl hok h1 hev
  · exact stepVoteL_any mu nb s lv m ev w h hl hok h1 hev

theorem stepAppend_any (mu : Int) (nb : Nat) (s : Nd) (lv : Value) (m : Msg) (w : World) (h : NB mu w nb s lv) (hl : NL w s lv) (hok : Ok s) (hm : SoundM m s.id s.n) (eo : Option Addr) (ec : Nat) (he : EntsIn w (.slice eo m.ents.length ec) m.ents) (hec : m.ents.length ≤ ec) :
    Calls Tryz.prog 69 #[.pointer (some ⟨nb, 0, none⟩), magg m (.slice eo m.ents.length ec)] w fun e w' => Sent mu nb lv w (s.stepAppend m) e w' := by
  by_cases h1 : m.term < s.term
  · exact stepAppend_old mu nb s lv m w h hl hok eo ec h1
  by_cases h3 : m.term = s.term ∧ s.role = 3
  · exact stepAppend_lead mu nb s lv m w h hl hok eo ec h3.1 h3.2
  obtain ⟨i, hi⟩ : ∃ i : Nat, m.index = (i : Int) := ⟨m.index.toNat, by have := hm.i0; omega⟩
  obtain ⟨c, hc⟩ : ∃ c : Nat, m.commit = (c : Int) := ⟨m.commit.toNat, by have := hm.c0; omega⟩
  by_cases h4 : s.last < i ∨ s.termOf i ≠ m.logTerm
  · exact stepAppend_far mu nb s lv m w h hl hok i eo ec h1 h3 hi (by have := hm.i1; omega) h4
  have h5 : i ≤ s.last := by omega
  have h6 : s.termOf i = m.logTerm := Classical.not_not.1 fun hx => h4 (.inr hx)
  by_cases h7 : 60 < i + m.ents.length ∨ Nd.keeps s.log s.commit i m.ents = false
  · exact stepAppend_bad mu nb s lv m w h hl hok i c eo ec h1 h3 hi hc h5 h6 hm.len he h7
  · refine stepAppend_good mu nb s lv m w h hl hok i c eo ec h1 h3 hi hc h5 h6 hm.len (okE_sizes hm.ok) he hec (fun hx => h7 (.inl hx)) ?_
    cases hk : Nd.keeps s.log s.commit i m.ents with
    | true => rfl
    | false => exact absurd (.inr hk) h7

theorem soundMessage_at (m : Msg) (ev : Value) (id n : Int) (w : World) (h1 : 1 ≤ n) (h2 : n ≤ 7) (hlen : m.ents.length < 4611686018427387904) (he : EntsIn w ev m.ents) (b : Bool) (hb : soundM m id n = b) :
    Calls Tryz.prog 64 #[magg m ev, .int .i64 id, .int .i64 n] w fun e w' => e = .returned (.bool b) ∧ Below w.heap.size w w' := by
  rw [← hb]; exact soundMessage_any m ev id n w h1 h2 hlen he

set_option maxRecDepth 100000 in
set_option maxHeartbeats 1000000 in
theorem step_any (nb : Nat) (s : Nd) (lv : Value) (m : Msg) (w : World) (h : NB 0 w nb s lv) (hl : NL w s lv) (hok : Ok s) (eo : Option Addr) (ec : Nat) (he : EntsIn w (.slice eo m.ents.length ec) m.ents) (hec : m.ents.length ≤ ec) (hlen : m.ents.length < 4611686018427387904)
    (hAR : ∀ W : World, NB 1 W nb s lv → NL W s lv → SoundM m s.id s.n → Calls Tryz.prog 70 #[.pointer (some ⟨nb, 0, none⟩), magg m (.slice eo m.ents.length ec)] W fun e w' => Sent 1 nb lv W (s.stepAppendReply m) e w') :
    Calls Tryz.prog 31 #[.pointer (some ⟨nb, 0, none⟩), magg m (.slice eo m.ents.length ec)] w fun e w' => Sent 0 nb lv w (s.step m) e w' := by
  have HLT := hide h.lt
  have hlt := h.lt
  have hne : ¬ nb = w.heap.size := by omega
  have HA : Hid (NB 0 (w.alloc (.cells #[.int .i64 m.kind, .int .i64 m.src, .int .i64 m.dst, .int .i64 m.term, .int .i64 m.index, .int .i64 m.logTerm, .int .i64 m.commit, .slice eo m.ents.length ec, .bool m.granted] 30)) nb s lv) := heap_under h _
  have HW := hide ((Ew.refl nb w).set 0 (.int .i32 1))
  have HWX := hide ((unhide HW).alloc (.cells #[.int .i64 m.kind, .int .i64 m.src, .int .i64 m.dst, .int .i64 m.term, .int .i64 m.index, .int .i64 m.logTerm, .int .i64 m.commit, .slice eo m.ents.length ec, .bool m.granted] 30))
  have HNX : Hid (NB 1 ((w.setCell ⟨nb, 0, none⟩ (.int .i32 1)).alloc (.cells #[.int .i64 m.kind, .int .i64 m.src, .int .i64 m.dst, .int .i64 m.term, .int .i64 m.index, .int .i64 m.logTerm, .int .i64 m.commit, .slice eo m.ents.length ec, .bool m.granted] 30)) nb s lv) := heap_under (h.setMu 1) _
  have HLX := hide (hl.ew h (unhide HWX))
  have HEX := hide (ents_ew he h hl (unhide HWX))
  have hsz : (w.setCell ⟨nb, 0, none⟩ (.int .i32 1)).heap.size = w.heap.size := by simp [World.setCell]
  have hmx := heap_alloc_new (w.setCell ⟨nb, 0, none⟩ (.int .i32 1)) (.cells #[.int .i64 m.kind, .int .i64 m.src, .int .i64 m.dst, .int .i64 m.term, .int .i64 m.index, .int .i64 m.logTerm, .int .i64 m.commit, .slice eo m.ents.length ec, .bool m.granted] 30)
  rw [hsz] at hmx
  have HMX := hide hmx
  have HOK := hide hok
  have HAR := hide hAR
  have hn1 : (1 : Int) ≤ (s.n : Int) := by have := hok.n1; omega
  have hn7 : (s.n : Int) ≤ 7 := by have := hok.n7; omega
  clear h hl hok he hmx hsz hAR
  cases hb : soundM m s.id s.n with
  | false =>
    have HR : Hid (s.step m = (s, [])) := by show _ = _; unfold Nd.step; rw [hb]; rfl
    have HSB := hide hb
    clear hb
    go_enter_defers Tryz.func31, Tryz.ntmps31
    go_wp2_with (go_at_call 51; go_must (refine (lock_free muLib ⟨nb, 0, none⟩ _ (unhide HA).c0 ((unhide HA).free 0)).mono ?_); rintro e w' ⟨rfl, rfl⟩)
    generalize (w.setCell ⟨nb, 0, none⟩ (.int .i32 1)).alloc (.cells #[.int .i64 m.kind, .int .i64 m.src, .int .i64 m.dst, .int .i64 m.term, .int .i64 m.index, .int .i64 m.logTerm, .int .i64 m.commit, .slice eo m.ents.length ec, .bool m.granted] 30) = X at *
    have HNE : Nonempty (BW X) := ⟨⟨X, Below.refl _ _⟩⟩
    have c2 := BW.cell (unhide HNX).c2
    have c3 := BW.cell (unhide HNX).c3
    have x0 := BW.cell (W := X) (cell_of_row X w.heap.size 0 _ _ _ (unhide HMX) : X.cell? ⟨w.heap.size, 0, none⟩ = some (.int .i64 m.kind))
    have x1 := BW.cell (W := X) (cell_of_row X w.heap.size 1 _ _ _ (unhide HMX) : X.cell? ⟨w.heap.size, 1, none⟩ = some (.int .i64 m.src))
    have x2 := BW.cell (W := X) (cell_of_row X w.heap.size 2 _ _ _ (unhide HMX) : X.cell? ⟨w.heap.size, 2, none⟩ = some (.int .i64 m.dst))
    have x3 := BW.cell (W := X) (cell_of_row X w.heap.size 3 _ _ _ (unhide HMX) : X.cell? ⟨w.heap.size, 3, none⟩ = some (.int .i64 m.term))
    have x4 := BW.cell (W := X) (cell_of_row X w.heap.size 4 _ _ _ (unhide HMX) : X.cell? ⟨w.heap.size, 4, none⟩ = some (.int .i64 m.index))
    have x5 := BW.cell (W := X) (cell_of_row X w.heap.size 5 _ _ _ (unhide HMX) : X.cell? ⟨w.heap.size, 5, none⟩ = some (.int .i64 m.logTerm))
    have x6 := BW.cell (W := X) (cell_of_row X w.heap.size 6 _ _ _ (unhide HMX) : X.cell? ⟨w.heap.size, 6, none⟩ = some (.int .i64 m.commit))
    have x7 := BW.cell (W := X) (cell_of_row X w.heap.size 7 _ _ _ (unhide HMX) : X.cell? ⟨w.heap.size, 7, none⟩ = some (.slice eo m.ents.length ec))
    have x8 := BW.cell (W := X) (cell_of_row X w.heap.size 8 _ _ _ (unhide HMX) : X.cell? ⟨w.heap.size, 8, none⟩ = some (.bool m.granted))
    refine wp_region_below (by kernel_rfl) (by kernel_rfl) ?_
    repeat (quiet_step ((go_at_call 64; exact BW.calls (soundMessage_at m _ s.id s.n _ hn1 hn7 hlen (ents_below (unhide HEX) (BW.below _)) _ (unhide HSB)))))
    refine wpQuiet_nil ?_
    intro _ hw'
    obtain ⟨x, hw''⟩ := hw'
    subst hw''
    have HNY := hide (BW.nb (unhide HNX) x)
    have HLY := hide (BW.nl (unhide HLX) x)
    have HEY := hide ((unhide HWX).below x.below)
    have HMY := hide (BW.row (unhide HMX) x)
    have HIY := hide (ents_below (unhide HEX) x.below)
    clear HNE
    generalize x.wd = Y at *
    clear x0 x1 x2 x3 x4 x5 x6 x7 x8 c2 c3
    have y0 : Y.cell? ⟨w.heap.size, 0, none⟩ = some (.int .i64 m.kind) := cell_of_row Y w.heap.size 0 _ _ _ (unhide HMY)
    have y1 : Y.cell? ⟨w.heap.size, 1, none⟩ = some (.int .i64 m.src) := cell_of_row Y w.heap.size 1 _ _ _ (unhide HMY)
    have y2 : Y.cell? ⟨w.heap.size, 2, none⟩ = some (.int .i64 m.dst) := cell_of_row Y w.heap.size 2 _ _ _ (unhide HMY)
    have y3 : Y.cell? ⟨w.heap.size, 3, none⟩ = some (.int .i64 m.term) := cell_of_row Y w.heap.size 3 _ _ _ (unhide HMY)
    have y4 : Y.cell? ⟨w.heap.size, 4, none⟩ = some (.int .i64 m.index) := cell_of_row Y w.heap.size 4 _ _ _ (unhide HMY)
    have y5 : Y.cell? ⟨w.heap.size, 5, none⟩ = some (.int .i64 m.logTerm) := cell_of_row Y w.heap.size 5 _ _ _ (unhide HMY)
    have y6 : Y.cell? ⟨w.heap.size, 6, none⟩ = some (.int .i64 m.commit) := cell_of_row Y w.heap.size 6 _ _ _ (unhide HMY)
    have y7 : Y.cell? ⟨w.heap.size, 7, none⟩ = some (.slice eo m.ents.length ec) := cell_of_row Y w.heap.size 7 _ _ _ (unhide HMY)
    have y8 : Y.cell? ⟨w.heap.size, 8, none⟩ = some (.bool m.granted) := cell_of_row Y w.heap.size 8 _ _ _ (unhide HMY)
    go_wp2
    obtain ⟨w4, hw4⟩ : ∃ w4, Y = w4 := ⟨_, rfl⟩
    subst hw4
    have hs4 := Sent.quiet (Ew.refl nb Y) (unhide HNY) (unhide HLY)
    refine leaves_cons (f := 52) (args := #[.pointer (some ⟨nb, 0, none⟩)]) (by simp) (by simp [go_sem]) ?_
    refine (unlock_deferred muLib ⟨nb, 0, none⟩ .returning _ hs4.c0.1 hs4.c0.2).mono ?_
    rintro e u' w'' ⟨rfl, rfl, rfl⟩
    have hu := Sent.unlock (unhide HLT) (unhide HEY) hs4
    refine ⟨_, results_tmp rfl _ _ _, ?_⟩
    rw [unhide HR]
    exact hu
  | true =>
    have HSB := hide hb
    have HSM := hide (soundM_of hb)
    by_cases hk : m.kind = 0
    · have HR : Hid (s.step m = s.stepAsk m) := by show _ = _; unfold Nd.step; rw [if_pos hb]; simp [hk]
      have b0 : (m.kind == 0) = true := by simpa using hk
      clear hk hb
      go_enter_defers Tryz.func31, Tryz.ntmps31
      go_wp2_with (go_at_call 51; go_must (refine (lock_free muLib ⟨nb, 0, none⟩ _ (unhide HA).c0 ((unhide HA).free 0)).mono ?_); rintro e w' ⟨rfl, rfl⟩)
      generalize (w.setCell ⟨nb, 0, none⟩ (.int .i32 1)).alloc (.cells #[.int .i64 m.kind, .int .i64 m.src, .int .i64 m.dst, .int .i64 m.term, .int .i64 m.index, .int .i64 m.logTerm, .int .i64 m.commit, .slice eo m.ents.length ec, .bool m.granted] 30) = X at *
      have HNE : Nonempty (BW X) := ⟨⟨X, Below.refl _ _⟩⟩
      have c2 := BW.cell (unhide HNX).c2
      have c3 := BW.cell (unhide HNX).c3
      have x0 := BW.cell (W := X) (cell_of_row X w.heap.size 0 _ _ _ (unhide HMX) : X.cell? ⟨w.heap.size, 0, none⟩ = some (.int .i64 m.kind))
      have x1 := BW.cell (W := X) (cell_of_row X w.heap.size 1 _ _ _ (unhide HMX) : X.cell? ⟨w.heap.size, 1, none⟩ = some (.int .i64 m.src))
      have x2 := BW.cell (W := X) (cell_of_row X w.heap.size 2 _ _ _ (unhide HMX) : X.cell? ⟨w.heap.size, 2, none⟩ = some (.int .i64 m.dst))
      have x3 := BW.cell (W := X) (cell_of_row X w.heap.size 3 _ _ _ (unhide HMX) : X.cell? ⟨w.heap.size, 3, none⟩ = some (.int .i64 m.term))
      have x4 := BW.cell (W := X) (cell_of_row X w.heap.size 4 _ _ _ (unhide HMX) : X.cell? ⟨w.heap.size, 4, none⟩ = some (.int .i64 m.index))
      have x5 := BW.cell (W := X) (cell_of_row X w.heap.size 5 _ _ _ (unhide HMX) : X.cell? ⟨w.heap.size, 5, none⟩ = some (.int .i64 m.logTerm))
      have x6 := BW.cell (W := X) (cell_of_row X w.heap.size 6 _ _ _ (unhide HMX) : X.cell? ⟨w.heap.size, 6, none⟩ = some (.int .i64 m.commit))
      have x7 := BW.cell (W := X) (cell_of_row X w.heap.size 7 _ _ _ (unhide HMX) : X.cell? ⟨w.heap.size, 7, none⟩ = some (.slice eo m.ents.length ec))
      have x8 := BW.cell (W := X) (cell_of_row X w.heap.size 8 _ _ _ (unhide HMX) : X.cell? ⟨w.heap.size, 8, none⟩ = some (.bool m.granted))
      refine wp_region_below (by kernel_rfl) (by kernel_rfl) ?_
      repeat (quiet_step ((go_at_call 64; exact BW.calls (soundMessage_at m _ s.id s.n _ hn1 hn7 hlen (ents_below (unhide HEX) (BW.below _)) _ (unhide HSB)))))
      refine wpQuiet_nil ?_
      intro _ hw'
      obtain ⟨x, hw''⟩ := hw'
      subst hw''
      have HNY := hide (BW.nb (unhide HNX) x)
      have HLY := hide (BW.nl (unhide HLX) x)
      have HEY := hide ((unhide HWX).below x.below)
      have HMY := hide (BW.row (unhide HMX) x)
      have HIY := hide (ents_below (unhide HEX) x.below)
      clear HNE
      generalize x.wd = Y at *
      clear x0 x1 x2 x3 x4 x5 x6 x7 x8 c2 c3
      have y0 : Y.cell? ⟨w.heap.size, 0, none⟩ = some (.int .i64 m.kind) := cell_of_row Y w.heap.size 0 _ _ _ (unhide HMY)
      have y1 : Y.cell? ⟨w.heap.size, 1, none⟩ = some (.int .i64 m.src) := cell_of_row Y w.heap.size 1 _ _ _ (unhide HMY)
      have y2 : Y.cell? ⟨w.heap.size, 2, none⟩ = some (.int .i64 m.dst) := cell_of_row Y w.heap.size 2 _ _ _ (unhide HMY)
      have y3 : Y.cell? ⟨w.heap.size, 3, none⟩ = some (.int .i64 m.term) := cell_of_row Y w.heap.size 3 _ _ _ (unhide HMY)
      have y4 : Y.cell? ⟨w.heap.size, 4, none⟩ = some (.int .i64 m.index) := cell_of_row Y w.heap.size 4 _ _ _ (unhide HMY)
      have y5 : Y.cell? ⟨w.heap.size, 5, none⟩ = some (.int .i64 m.logTerm) := cell_of_row Y w.heap.size 5 _ _ _ (unhide HMY)
      have y6 : Y.cell? ⟨w.heap.size, 6, none⟩ = some (.int .i64 m.commit) := cell_of_row Y w.heap.size 6 _ _ _ (unhide HMY)
      have y7 : Y.cell? ⟨w.heap.size, 7, none⟩ = some (.slice eo m.ents.length ec) := cell_of_row Y w.heap.size 7 _ _ _ (unhide HMY)
      have y8 : Y.cell? ⟨w.heap.size, 8, none⟩ = some (.bool m.granted) := cell_of_row Y w.heap.size 8 _ _ _ (unhide HMY)
      go_wp2_with (go_at_call 65; refine (stepAsk_any 1 nb s lv m _ Y (unhide HNY) (unhide HLY) (unhide HOK).len (unhide HOK).t0 ⟨_, _, _, rfl⟩).mono ?_; intro e w4 hx4; obtain ⟨v, l, lv', rfl, hx4⟩ := hx4; replace hx4 := hide hx4)
      have hs4 : Sent 1 nb lv _ _ _ w4 := ⟨v, l, lv', rfl, unhide hx4⟩
      refine leaves_cons (f := 52) (args := #[.pointer (some ⟨nb, 0, none⟩)]) (by simp) (by simp [go_sem]) ?_
      refine (unlock_deferred muLib ⟨nb, 0, none⟩ .returning _ hs4.c0.1 hs4.c0.2).mono ?_
      rintro e u' w'' ⟨rfl, rfl, rfl⟩
      have hu := Sent.unlock (unhide HLT) (unhide HEY) hs4
      refine ⟨_, results_tmp rfl _ _ _, ?_⟩
      rw [unhide HR]
      exact hu
    have n0 := hk
    clear hk
    by_cases hk : m.kind = 1
    · have HR : Hid (s.step m = s.stepAskReply m) := by show _ = _; unfold Nd.step; rw [if_pos hb]; simp [hk]
      have b0 : (m.kind == 0) = false := by simp; omega
      have b1 : (m.kind == 1) = true := by simpa using hk
      clear hk hb
      go_enter_defers Tryz.func31, Tryz.ntmps31
      go_wp2_with (go_at_call 51; go_must (refine (lock_free muLib ⟨nb, 0, none⟩ _ (unhide HA).c0 ((unhide HA).free 0)).mono ?_); rintro e w' ⟨rfl, rfl⟩)
      generalize (w.setCell ⟨nb, 0, none⟩ (.int .i32 1)).alloc (.cells #[.int .i64 m.kind, .int .i64 m.src, .int .i64 m.dst, .int .i64 m.term, .int .i64 m.index, .int .i64 m.logTerm, .int .i64 m.commit, .slice eo m.ents.length ec, .bool m.granted] 30) = X at *
      have HNE : Nonempty (BW X) := ⟨⟨X, Below.refl _ _⟩⟩
      have c2 := BW.cell (unhide HNX).c2
      have c3 := BW.cell (unhide HNX).c3
      have x0 := BW.cell (W := X) (cell_of_row X w.heap.size 0 _ _ _ (unhide HMX) : X.cell? ⟨w.heap.size, 0, none⟩ = some (.int .i64 m.kind))
      have x1 := BW.cell (W := X) (cell_of_row X w.heap.size 1 _ _ _ (unhide HMX) : X.cell? ⟨w.heap.size, 1, none⟩ = some (.int .i64 m.src))
      have x2 := BW.cell (W := X) (cell_of_row X w.heap.size 2 _ _ _ (unhide HMX) : X.cell? ⟨w.heap.size, 2, none⟩ = some (.int .i64 m.dst))
      have x3 := BW.cell (W := X) (cell_of_row X w.heap.size 3 _ _ _ (unhide HMX) : X.cell? ⟨w.heap.size, 3, none⟩ = some (.int .i64 m.term))
      have x4 := BW.cell (W := X) (cell_of_row X w.heap.size 4 _ _ _ (unhide HMX) : X.cell? ⟨w.heap.size, 4, none⟩ = some (.int .i64 m.index))
      have x5 := BW.cell (W := X) (cell_of_row X w.heap.size 5 _ _ _ (unhide HMX) : X.cell? ⟨w.heap.size, 5, none⟩ = some (.int .i64 m.logTerm))
      have x6 := BW.cell (W := X) (cell_of_row X w.heap.size 6 _ _ _ (unhide HMX) : X.cell? ⟨w.heap.size, 6, none⟩ = some (.int .i64 m.commit))
      have x7 := BW.cell (W := X) (cell_of_row X w.heap.size 7 _ _ _ (unhide HMX) : X.cell? ⟨w.heap.size, 7, none⟩ = some (.slice eo m.ents.length ec))
      have x8 := BW.cell (W := X) (cell_of_row X w.heap.size 8 _ _ _ (unhide HMX) : X.cell? ⟨w.heap.size, 8, none⟩ = some (.bool m.granted))
      refine wp_region_below (by kernel_rfl) (by kernel_rfl) ?_
      repeat (quiet_step ((go_at_call 64; exact BW.calls (soundMessage_at m _ s.id s.n _ hn1 hn7 hlen (ents_below (unhide HEX) (BW.below _)) _ (unhide HSB)))))
      refine wpQuiet_nil ?_
      intro _ hw'
      obtain ⟨x, hw''⟩ := hw'
      subst hw''
      have HNY := hide (BW.nb (unhide HNX) x)
      have HLY := hide (BW.nl (unhide HLX) x)
      have HEY := hide ((unhide HWX).below x.below)
      have HMY := hide (BW.row (unhide HMX) x)
      have HIY := hide (ents_below (unhide HEX) x.below)
      clear HNE
      generalize x.wd = Y at *
      clear x0 x1 x2 x3 x4 x5 x6 x7 x8 c2 c3
      have y0 : Y.cell? ⟨w.heap.size, 0, none⟩ = some (.int .i64 m.kind) := cell_of_row Y w.heap.size 0 _ _ _ (unhide HMY)
      have y1 : Y.cell? ⟨w.heap.size, 1, none⟩ = some (.int .i64 m.src) := cell_of_row Y w.heap.size 1 _ _ _ (unhide HMY)
      have y2 : Y.cell? ⟨w.heap.size, 2, none⟩ = some (.int .i64 m.dst) := cell_of_row Y w.heap.size 2 _ _ _ (unhide HMY)
      have y3 : Y.cell? ⟨w.heap.size, 3, none⟩ = some (.int .i64 m.term) := cell_of_row Y w.heap.size 3 _ _ _ (unhide HMY)
      have y4 : Y.cell? ⟨w.heap.size, 4, none⟩ = some (.int .i64 m.index) := cell_of_row Y w.heap.size 4 _ _ _ (unhide HMY)
      have y5 : Y.cell? ⟨w.heap.size, 5, none⟩ = some (.int .i64 m.logTerm) := cell_of_row Y w.heap.size 5 _ _ _ (unhide HMY)
      have y6 : Y.cell? ⟨w.heap.size, 6, none⟩ = some (.int .i64 m.commit) := cell_of_row Y w.heap.size 6 _ _ _ (unhide HMY)
      have y7 : Y.cell? ⟨w.heap.size, 7, none⟩ = some (.slice eo m.ents.length ec) := cell_of_row Y w.heap.size 7 _ _ _ (unhide HMY)
      have y8 : Y.cell? ⟨w.heap.size, 8, none⟩ = some (.bool m.granted) := cell_of_row Y w.heap.size 8 _ _ _ (unhide HMY)
      go_wp2_with (go_at_call 66; refine (stepAskReply_any 1 nb s lv m _ Y (unhide HNY) (unhide HLY) (unhide HOK) (unhide HSM).s0 (unhide HSM).s1 (unhide HSM).t1 ⟨_, _, _, rfl⟩).mono ?_; intro e w4 hx4; obtain ⟨v, l, lv', rfl, hx4⟩ := hx4; replace hx4 := hide hx4)
      have hs4 : Sent 1 nb lv _ _ _ w4 := ⟨v, l, lv', rfl, unhide hx4⟩
      refine leaves_cons (f := 52) (args := #[.pointer (some ⟨nb, 0, none⟩)]) (by simp) (by simp [go_sem]) ?_
      refine (unlock_deferred muLib ⟨nb, 0, none⟩ .returning _ hs4.c0.1 hs4.c0.2).mono ?_
      rintro e u' w'' ⟨rfl, rfl, rfl⟩
      have hu := Sent.unlock (unhide HLT) (unhide HEY) hs4
      refine ⟨_, results_tmp rfl _ _ _, ?_⟩
      rw [unhide HR]
      exact hu
    have n1 := hk
    clear hk
    by_cases hk : m.kind = 2
    · have HR : Hid (s.step m = s.stepVote m) := by show _ = _; unfold Nd.step; rw [if_pos hb]; simp [hk]
      have b0 : (m.kind == 0) = false := by simp; omega
      have b1 : (m.kind == 1) = false := by simp; omega
      have b2 : (m.kind == 2) = true := by simpa using hk
      clear hk hb
      go_enter_defers Tryz.func31, Tryz.ntmps31
      go_wp2_with (go_at_call 51; go_must (refine (lock_free muLib ⟨nb, 0, none⟩ _ (unhide HA).c0 ((unhide HA).free 0)).mono ?_); rintro e w' ⟨rfl, rfl⟩)
      generalize (w.setCell ⟨nb, 0, none⟩ (.int .i32 1)).alloc (.cells #[.int .i64 m.kind, .int .i64 m.src, .int .i64 m.dst, .int .i64 m.term, .int .i64 m.index, .int .i64 m.logTerm, .int .i64 m.commit, .slice eo m.ents.length ec, .bool m.granted] 30) = X at *
      have HNE : Nonempty (BW X) := ⟨⟨X, Below.refl _ _⟩⟩
      have c2 := BW.cell (unhide HNX).c2
      have c3 := BW.cell (unhide HNX).c3
      have x0 := BW.cell (W := X) (cell_of_row X w.heap.size 0 _ _ _ (unhide HMX) : X.cell? ⟨w.heap.size, 0, none⟩ = some (.int .i64 m.kind))
      have x1 := BW.cell (W := X) (cell_of_row X w.heap.size 1 _ _ _ (unhide HMX) : X.cell? ⟨w.heap.size, 1, none⟩ = some (.int .i64 m.src))
      have x2 := BW.cell (W := X) (cell_of_row X w.heap.size 2 _ _ _ (unhide HMX) : X.cell? ⟨w.heap.size, 2, none⟩ = some (.int .i64 m.dst))
      have x3 := BW.cell (W := X) (cell_of_row X w.heap.size 3 _ _ _ (unhide HMX) : X.cell? ⟨w.heap.size, 3, none⟩ = some (.int .i64 m.term))
      have x4 := BW.cell (W := X) (cell_of_row X w.heap.size 4 _ _ _ (unhide HMX) : X.cell? ⟨w.heap.size, 4, none⟩ = some (.int .i64 m.index))
      have x5 := BW.cell (W := X) (cell_of_row X w.heap.size 5 _ _ _ (unhide HMX) : X.cell? ⟨w.heap.size, 5, none⟩ = some (.int .i64 m.logTerm))
      have x6 := BW.cell (W := X) (cell_of_row X w.heap.size 6 _ _ _ (unhide HMX) : X.cell? ⟨w.heap.size, 6, none⟩ = some (.int .i64 m.commit))
      have x7 := BW.cell (W := X) (cell_of_row X w.heap.size 7 _ _ _ (unhide HMX) : X.cell? ⟨w.heap.size, 7, none⟩ = some (.slice eo m.ents.length ec))
      have x8 := BW.cell (W := X) (cell_of_row X w.heap.size 8 _ _ _ (unhide HMX) : X.cell? ⟨w.heap.size, 8, none⟩ = some (.bool m.granted))
      refine wp_region_below (by kernel_rfl) (by kernel_rfl) ?_
      repeat (quiet_step ((go_at_call 64; exact BW.calls (soundMessage_at m _ s.id s.n _ hn1 hn7 hlen (ents_below (unhide HEX) (BW.below _)) _ (unhide HSB)))))
      refine wpQuiet_nil ?_
      intro _ hw'
      obtain ⟨x, hw''⟩ := hw'
      subst hw''
      have HNY := hide (BW.nb (unhide HNX) x)
      have HLY := hide (BW.nl (unhide HLX) x)
      have HEY := hide ((unhide HWX).below x.below)
      have HMY := hide (BW.row (unhide HMX) x)
      have HIY := hide (ents_below (unhide HEX) x.below)
      clear HNE
      generalize x.wd = Y at *
      clear x0 x1 x2 x3 x4 x5 x6 x7 x8 c2 c3
      have y0 : Y.cell? ⟨w.heap.size, 0, none⟩ = some (.int .i64 m.kind) := cell_of_row Y w.heap.size 0 _ _ _ (unhide HMY)
      have y1 : Y.cell? ⟨w.heap.size, 1, none⟩ = some (.int .i64 m.src) := cell_of_row Y w.heap.size 1 _ _ _ (unhide HMY)
      have y2 : Y.cell? ⟨w.heap.size, 2, none⟩ = some (.int .i64 m.dst) := cell_of_row Y w.heap.size 2 _ _ _ (unhide HMY)
      have y3 : Y.cell? ⟨w.heap.size, 3, none⟩ = some (.int .i64 m.term) := cell_of_row Y w.heap.size 3 _ _ _ (unhide HMY)
      have y4 : Y.cell? ⟨w.heap.size, 4, none⟩ = some (.int .i64 m.index) := cell_of_row Y w.heap.size 4 _ _ _ (unhide HMY)
      have y5 : Y.cell? ⟨w.heap.size, 5, none⟩ = some (.int .i64 m.logTerm) := cell_of_row Y w.heap.size 5 _ _ _ (unhide HMY)
      have y6 : Y.cell? ⟨w.heap.size, 6, none⟩ = some (.int .i64 m.commit) := cell_of_row Y w.heap.size 6 _ _ _ (unhide HMY)
      have y7 : Y.cell? ⟨w.heap.size, 7, none⟩ = some (.slice eo m.ents.length ec) := cell_of_row Y w.heap.size 7 _ _ _ (unhide HMY)
      have y8 : Y.cell? ⟨w.heap.size, 8, none⟩ = some (.bool m.granted) := cell_of_row Y w.heap.size 8 _ _ _ (unhide HMY)
      go_wp2_with (go_at_call 67; refine (stepVote_any 1 nb s lv m _ Y (unhide HNY) (unhide HLY) (unhide HOK) ⟨_, _, _, rfl⟩).mono ?_; intro e w4 hx4; obtain ⟨v, l, lv', rfl, hx4⟩ := hx4; replace hx4 := hide hx4)
      have hs4 : Sent 1 nb lv _ _ _ w4 := ⟨v, l, lv', rfl, unhide hx4⟩
      refine leaves_cons (f := 52) (args := #[.pointer (some ⟨nb, 0, none⟩)]) (by simp) (by simp [go_sem]) ?_
      refine (unlock_deferred muLib ⟨nb, 0, none⟩ .returning _ hs4.c0.1 hs4.c0.2).mono ?_
      rintro e u' w'' ⟨rfl, rfl, rfl⟩
      have hu := Sent.unlock (unhide HLT) (unhide HEY) hs4
      refine ⟨_, results_tmp rfl _ _ _, ?_⟩
      rw [unhide HR]
      exact hu
    have n2 := hk
    clear hk
    by_cases hk : m.kind = 3
    · have HR : Hid (s.step m = s.stepVoteReply m) := by show _ = _; unfold Nd.step; rw [if_pos hb]; simp [hk]
      have b0 : (m.kind == 0) = false := by simp; omega
      have b1 : (m.kind == 1) = false := by simp; omega
      have b2 : (m.kind == 2) = false := by simp; omega
      have b3 : (m.kind == 3) = true := by simpa using hk
      clear hk hb
      go_enter_defers Tryz.func31, Tryz.ntmps31
      go_wp2_with (go_at_call 51; go_must (refine (lock_free muLib ⟨nb, 0, none⟩ _ (unhide HA).c0 ((unhide HA).free 0)).mono ?_); rintro e w' ⟨rfl, rfl⟩)
      generalize (w.setCell ⟨nb, 0, none⟩ (.int .i32 1)).alloc (.cells #[.int .i64 m.kind, .int .i64 m.src, .int .i64 m.dst, .int .i64 m.term, .int .i64 m.index, .int .i64 m.logTerm, .int .i64 m.commit, .slice eo m.ents.length ec, .bool m.granted] 30) = X at *
      have HNE : Nonempty (BW X) := ⟨⟨X, Below.refl _ _⟩⟩
      have c2 := BW.cell (unhide HNX).c2
      have c3 := BW.cell (unhide HNX).c3
      have x0 := BW.cell (W := X) (cell_of_row X w.heap.size 0 _ _ _ (unhide HMX) : X.cell? ⟨w.heap.size, 0, none⟩ = some (.int .i64 m.kind))
      have x1 := BW.cell (W := X) (cell_of_row X w.heap.size 1 _ _ _ (unhide HMX) : X.cell? ⟨w.heap.size, 1, none⟩ = some (.int .i64 m.src))
      have x2 := BW.cell (W := X) (cell_of_row X w.heap.size 2 _ _ _ (unhide HMX) : X.cell? ⟨w.heap.size, 2, none⟩ = some (.int .i64 m.dst))
      have x3 := BW.cell (W := X) (cell_of_row X w.heap.size 3 _ _ _ (unhide HMX) : X.cell? ⟨w.heap.size, 3, none⟩ = some (.int .i64 m.term))
      have x4 := BW.cell (W := X) (cell_of_row X w.heap.size 4 _ _ _ (unhide HMX) : X.cell? ⟨w.heap.size, 4, none⟩ = some (.int .i64 m.index))
      have x5 := BW.cell (W := X) (cell_of_row X w.heap.size 5 _ _ _ (unhide HMX) : X.cell? ⟨w.heap.size, 5, none⟩ = some (.int .i64 m.logTerm))
      have x6 := BW.cell (W := X) (cell_of_row X w.heap.size 6 _ _ _ (unhide HMX) : X.cell? ⟨w.heap.size, 6, none⟩ = some (.int .i64 m.commit))
      have x7 := BW.cell (W := X) (cell_of_row X w.heap.size 7 _ _ _ (unhide HMX) : X.cell? ⟨w.heap.size, 7, none⟩ = some (.slice eo m.ents.length ec))
      have x8 := BW.cell (W := X) (cell_of_row X w.heap.size 8 _ _ _ (unhide HMX) : X.cell? ⟨w.heap.size, 8, none⟩ = some (.bool m.granted))
      refine wp_region_below (by kernel_rfl) (by kernel_rfl) ?_
      repeat (quiet_step ((go_at_call 64; exact BW.calls (soundMessage_at m _ s.id s.n _ hn1 hn7 hlen (ents_below (unhide HEX) (BW.below _)) _ (unhide HSB)))))
      refine wpQuiet_nil ?_
      intro _ hw'
      obtain ⟨x, hw''⟩ := hw'
      subst hw''
      have HNY := hide (BW.nb (unhide HNX) x)
      have HLY := hide (BW.nl (unhide HLX) x)
      have HEY := hide ((unhide HWX).below x.below)
      have HMY := hide (BW.row (unhide HMX) x)
      have HIY := hide (ents_below (unhide HEX) x.below)
      clear HNE
      generalize x.wd = Y at *
      clear x0 x1 x2 x3 x4 x5 x6 x7 x8 c2 c3
      have y0 : Y.cell? ⟨w.heap.size, 0, none⟩ = some (.int .i64 m.kind) := cell_of_row Y w.heap.size 0 _ _ _ (unhide HMY)
      have y1 : Y.cell? ⟨w.heap.size, 1, none⟩ = some (.int .i64 m.src) := cell_of_row Y w.heap.size 1 _ _ _ (unhide HMY)
      have y2 : Y.cell? ⟨w.heap.size, 2, none⟩ = some (.int .i64 m.dst) := cell_of_row Y w.heap.size 2 _ _ _ (unhide HMY)
      have y3 : Y.cell? ⟨w.heap.size, 3, none⟩ = some (.int .i64 m.term) := cell_of_row Y w.heap.size 3 _ _ _ (unhide HMY)
      have y4 : Y.cell? ⟨w.heap.size, 4, none⟩ = some (.int .i64 m.index) := cell_of_row Y w.heap.size 4 _ _ _ (unhide HMY)
      have y5 : Y.cell? ⟨w.heap.size, 5, none⟩ = some (.int .i64 m.logTerm) := cell_of_row Y w.heap.size 5 _ _ _ (unhide HMY)
      have y6 : Y.cell? ⟨w.heap.size, 6, none⟩ = some (.int .i64 m.commit) := cell_of_row Y w.heap.size 6 _ _ _ (unhide HMY)
      have y7 : Y.cell? ⟨w.heap.size, 7, none⟩ = some (.slice eo m.ents.length ec) := cell_of_row Y w.heap.size 7 _ _ _ (unhide HMY)
      have y8 : Y.cell? ⟨w.heap.size, 8, none⟩ = some (.bool m.granted) := cell_of_row Y w.heap.size 8 _ _ _ (unhide HMY)
      go_wp2_with (go_at_call 68; refine (stepVoteReply_any 1 nb s lv m _ Y (unhide HNY) (unhide HLY) (unhide HOK) (unhide HSM).s0 (unhide HSM).s1 (unhide HSM).t0 ⟨_, _, _, rfl⟩).mono ?_; intro e w4 hx4; obtain ⟨v, l, lv', rfl, hx4⟩ := hx4; replace hx4 := hide hx4)
      have hs4 : Sent 1 nb lv _ _ _ w4 := ⟨v, l, lv', rfl, unhide hx4⟩
      refine leaves_cons (f := 52) (args := #[.pointer (some ⟨nb, 0, none⟩)]) (by simp) (by simp [go_sem]) ?_
      refine (unlock_deferred muLib ⟨nb, 0, none⟩ .returning _ hs4.c0.1 hs4.c0.2).mono ?_
      rintro e u' w'' ⟨rfl, rfl, rfl⟩
      have hu := Sent.unlock (unhide HLT) (unhide HEY) hs4
      refine ⟨_, results_tmp rfl _ _ _, ?_⟩
      rw [unhide HR]
      exact hu
    have n3 := hk
    clear hk
    by_cases hk : m.kind = 4
    · have HR : Hid (s.step m = s.stepAppend m) := by show _ = _; unfold Nd.step; rw [if_pos hb]; simp [hk]
      have b0 : (m.kind == 0) = false := by simp; omega
      have b1 : (m.kind == 1) = false := by simp; omega
      have b2 : (m.kind == 2) = false := by simp; omega
      have b3 : (m.kind == 3) = false := by simp; omega
      have b4 : (m.kind == 4) = true := by simpa using hk
      clear hk hb
      go_enter_defers Tryz.func31, Tryz.ntmps31
      go_wp2_with (go_at_call 51; go_must (refine (lock_free muLib ⟨nb, 0, none⟩ _ (unhide HA).c0 ((unhide HA).free 0)).mono ?_); rintro e w' ⟨rfl, rfl⟩)
      generalize (w.setCell ⟨nb, 0, none⟩ (.int .i32 1)).alloc (.cells #[.int .i64 m.kind, .int .i64 m.src, .int .i64 m.dst, .int .i64 m.term, .int .i64 m.index, .int .i64 m.logTerm, .int .i64 m.commit, .slice eo m.ents.length ec, .bool m.granted] 30) = X at *
      have HNE : Nonempty (BW X) := ⟨⟨X, Below.refl _ _⟩⟩
      have c2 := BW.cell (unhide HNX).c2
      have c3 := BW.cell (unhide HNX).c3
      have x0 := BW.cell (W := X) (cell_of_row X w.heap.size 0 _ _ _ (unhide HMX) : X.cell? ⟨w.heap.size, 0, none⟩ = some (.int .i64 m.kind))
      have x1 := BW.cell (W := X) (cell_of_row X w.heap.size 1 _ _ _ (unhide HMX) : X.cell? ⟨w.heap.size, 1, none⟩ = some (.int .i64 m.src))
      have x2 := BW.cell (W := X) (cell_of_row X w.heap.size 2 _ _ _ (unhide HMX) : X.cell? ⟨w.heap.size, 2, none⟩ = some (.int .i64 m.dst))
      have x3 := BW.cell (W := X) (cell_of_row X w.heap.size 3 _ _ _ (unhide HMX) : X.cell? ⟨w.heap.size, 3, none⟩ = some (.int .i64 m.term))
      have x4 := BW.cell (W := X) (cell_of_row X w.heap.size 4 _ _ _ (unhide HMX) : X.cell? ⟨w.heap.size, 4, none⟩ = some (.int .i64 m.index))
      have x5 := BW.cell (W := X) (cell_of_row X w.heap.size 5 _ _ _ (unhide HMX) : X.cell? ⟨w.heap.size, 5, none⟩ = some (.int .i64 m.logTerm))
      have x6 := BW.cell (W := X) (cell_of_row X w.heap.size 6 _ _ _ (unhide HMX) : X.cell? ⟨w.heap.size, 6, none⟩ = some (.int .i64 m.commit))
      have x7 := BW.cell (W := X) (cell_of_row X w.heap.size 7 _ _ _ (unhide HMX) : X.cell? ⟨w.heap.size, 7, none⟩ = some (.slice eo m.ents.length ec))
      have x8 := BW.cell (W := X) (cell_of_row X w.heap.size 8 _ _ _ (unhide HMX) : X.cell? ⟨w.heap.size, 8, none⟩ = some (.bool m.granted))
      refine wp_region_below (by kernel_rfl) (by kernel_rfl) ?_
      repeat (quiet_step ((go_at_call 64; exact BW.calls (soundMessage_at m _ s.id s.n _ hn1 hn7 hlen (ents_below (unhide HEX) (BW.below _)) _ (unhide HSB)))))
      refine wpQuiet_nil ?_
      intro _ hw'
      obtain ⟨x, hw''⟩ := hw'
      subst hw''
      have HNY := hide (BW.nb (unhide HNX) x)
      have HLY := hide (BW.nl (unhide HLX) x)
      have HEY := hide ((unhide HWX).below x.below)
      have HMY := hide (BW.row (unhide HMX) x)
      have HIY := hide (ents_below (unhide HEX) x.below)
      clear HNE
      generalize x.wd = Y at *
      clear x0 x1 x2 x3 x4 x5 x6 x7 x8 c2 c3
      have y0 : Y.cell? ⟨w.heap.size, 0, none⟩ = some (.int .i64 m.kind) := cell_of_row Y w.heap.size 0 _ _ _ (unhide HMY)
      have y1 : Y.cell? ⟨w.heap.size, 1, none⟩ = some (.int .i64 m.src) := cell_of_row Y w.heap.size 1 _ _ _ (unhide HMY)
      have y2 : Y.cell? ⟨w.heap.size, 2, none⟩ = some (.int .i64 m.dst) := cell_of_row Y w.heap.size 2 _ _ _ (unhide HMY)
      have y3 : Y.cell? ⟨w.heap.size, 3, none⟩ = some (.int .i64 m.term) := cell_of_row Y w.heap.size 3 _ _ _ (unhide HMY)
      have y4 : Y.cell? ⟨w.heap.size, 4, none⟩ = some (.int .i64 m.index) := cell_of_row Y w.heap.size 4 _ _ _ (unhide HMY)
      have y5 : Y.cell? ⟨w.heap.size, 5, none⟩ = some (.int .i64 m.logTerm) := cell_of_row Y w.heap.size 5 _ _ _ (unhide HMY)
      have y6 : Y.cell? ⟨w.heap.size, 6, none⟩ = some (.int .i64 m.commit) := cell_of_row Y w.heap.size 6 _ _ _ (unhide HMY)
      have y7 : Y.cell? ⟨w.heap.size, 7, none⟩ = some (.slice eo m.ents.length ec) := cell_of_row Y w.heap.size 7 _ _ _ (unhide HMY)
      have y8 : Y.cell? ⟨w.heap.size, 8, none⟩ = some (.bool m.granted) := cell_of_row Y w.heap.size 8 _ _ _ (unhide HMY)
      go_wp2_with (go_at_call 69; refine (stepAppend_any 1 nb s lv m Y (unhide HNY) (unhide HLY) (unhide HOK) (unhide HSM) eo ec (unhide HIY) hec).mono ?_; intro e w4 hx4; obtain ⟨v, l, lv', rfl, hx4⟩ := hx4; replace hx4 := hide hx4)
      have hs4 : Sent 1 nb lv _ _ _ w4 := ⟨v, l, lv', rfl, unhide hx4⟩
      refine leaves_cons (f := 52) (args := #[.pointer (some ⟨nb, 0, none⟩)]) (by simp) (by simp [go_sem]) ?_
      refine (unlock_deferred muLib ⟨nb, 0, none⟩ .returning _ hs4.c0.1 hs4.c0.2).mono ?_
      rintro e u' w'' ⟨rfl, rfl, rfl⟩
      have hu := Sent.unlock (unhide HLT) (unhide HEY) hs4
      refine ⟨_, results_tmp rfl _ _ _, ?_⟩
      rw [unhide HR]
      exact hu
    have n4 := hk
    clear hk
    have hk : m.kind = 5 := by have h0 := (unhide HSM).k0; have h1 := (unhide HSM).k1; omega
    have HR : Hid (s.step m = s.stepAppendReply m) := by show _ = _; unfold Nd.step; rw [if_pos hb]; simp [hk]
    have b0 : (m.kind == 0) = false := by simp; omega
    have b1 : (m.kind == 1) = false := by simp; omega
    have b2 : (m.kind == 2) = false := by simp; omega
    have b3 : (m.kind == 3) = false := by simp; omega
    have b4 : (m.kind == 4) = false := by simp; omega
    clear hk hb
    go_enter_defers Tryz.func31, Tryz.ntmps31
    go_wp2_with (go_at_call 51; go_must (refine (lock_free muLib ⟨nb, 0, none⟩ _ (unhide HA).c0 ((unhide HA).free 0)).mono ?_); rintro e w' ⟨rfl, rfl⟩)
    generalize (w.setCell ⟨nb, 0, none⟩ (.int .i32 1)).alloc (.cells #[.int .i64 m.kind, .int .i64 m.src, .int .i64 m.dst, .int .i64 m.term, .int .i64 m.index, .int .i64 m.logTerm, .int .i64 m.commit, .slice eo m.ents.length ec, .bool m.granted] 30) = X at *
    have HNE : Nonempty (BW X) := ⟨⟨X, Below.refl _ _⟩⟩
    have c2 := BW.cell (unhide HNX).c2
    have c3 := BW.cell (unhide HNX).c3
    have x0 := BW.cell (W := X) (cell_of_row X w.heap.size 0 _ _ _ (unhide HMX) : X.cell? ⟨w.heap.size, 0, none⟩ = some (.int .i64 m.kind))
    have x1 := BW.cell (W := X) (cell_of_row X w.heap.size 1 _ _ _ (unhide HMX) : X.cell? ⟨w.heap.size, 1, none⟩ = some (.int .i64 m.src))
    have x2 := BW.cell (W := X) (cell_of_row X w.heap.size 2 _ _ _ (unhide HMX) : X.cell? ⟨w.heap.size, 2, none⟩ = some (.int .i64 m.dst))
    have x3 := BW.cell (W := X) (cell_of_row X w.heap.size 3 _ _ _ (unhide HMX) : X.cell? ⟨w.heap.size, 3, none⟩ = some (.int .i64 m.term))
    have x4 := BW.cell (W := X) (cell_of_row X w.heap.size 4 _ _ _ (unhide HMX) : X.cell? ⟨w.heap.size, 4, none⟩ = some (.int .i64 m.index))
    have x5 := BW.cell (W := X) (cell_of_row X w.heap.size 5 _ _ _ (unhide HMX) : X.cell? ⟨w.heap.size, 5, none⟩ = some (.int .i64 m.logTerm))
    have x6 := BW.cell (W := X) (cell_of_row X w.heap.size 6 _ _ _ (unhide HMX) : X.cell? ⟨w.heap.size, 6, none⟩ = some (.int .i64 m.commit))
    have x7 := BW.cell (W := X) (cell_of_row X w.heap.size 7 _ _ _ (unhide HMX) : X.cell? ⟨w.heap.size, 7, none⟩ = some (.slice eo m.ents.length ec))
    have x8 := BW.cell (W := X) (cell_of_row X w.heap.size 8 _ _ _ (unhide HMX) : X.cell? ⟨w.heap.size, 8, none⟩ = some (.bool m.granted))
    refine wp_region_below (by kernel_rfl) (by kernel_rfl) ?_
    repeat (quiet_step ((go_at_call 64; exact BW.calls (soundMessage_at m _ s.id s.n _ hn1 hn7 hlen (ents_below (unhide HEX) (BW.below _)) _ (unhide HSB)))))
    refine wpQuiet_nil ?_
    intro _ hw'
    obtain ⟨x, hw''⟩ := hw'
    subst hw''
    have HNY := hide (BW.nb (unhide HNX) x)
    have HLY := hide (BW.nl (unhide HLX) x)
    have HEY := hide ((unhide HWX).below x.below)
    have HMY := hide (BW.row (unhide HMX) x)
    have HIY := hide (ents_below (unhide HEX) x.below)
    clear HNE
    generalize x.wd = Y at *
    clear x0 x1 x2 x3 x4 x5 x6 x7 x8 c2 c3
    have y0 : Y.cell? ⟨w.heap.size, 0, none⟩ = some (.int .i64 m.kind) := cell_of_row Y w.heap.size 0 _ _ _ (unhide HMY)
    have y1 : Y.cell? ⟨w.heap.size, 1, none⟩ = some (.int .i64 m.src) := cell_of_row Y w.heap.size 1 _ _ _ (unhide HMY)
    have y2 : Y.cell? ⟨w.heap.size, 2, none⟩ = some (.int .i64 m.dst) := cell_of_row Y w.heap.size 2 _ _ _ (unhide HMY)
    have y3 : Y.cell? ⟨w.heap.size, 3, none⟩ = some (.int .i64 m.term) := cell_of_row Y w.heap.size 3 _ _ _ (unhide HMY)
    have y4 : Y.cell? ⟨w.heap.size, 4, none⟩ = some (.int .i64 m.index) := cell_of_row Y w.heap.size 4 _ _ _ (unhide HMY)
    have y5 : Y.cell? ⟨w.heap.size, 5, none⟩ = some (.int .i64 m.logTerm) := cell_of_row Y w.heap.size 5 _ _ _ (unhide HMY)
    have y6 : Y.cell? ⟨w.heap.size, 6, none⟩ = some (.int .i64 m.commit) := cell_of_row Y w.heap.size 6 _ _ _ (unhide HMY)
    have y7 : Y.cell? ⟨w.heap.size, 7, none⟩ = some (.slice eo m.ents.length ec) := cell_of_row Y w.heap.size 7 _ _ _ (unhide HMY)
    have y8 : Y.cell? ⟨w.heap.size, 8, none⟩ = some (.bool m.granted) := cell_of_row Y w.heap.size 8 _ _ _ (unhide HMY)
    go_wp2_with (go_at_call 70; refine ((unhide HAR) Y (unhide HNY) (unhide HLY) (unhide HSM)).mono ?_; intro e w4 hx4; obtain ⟨v, l, lv', rfl, hx4⟩ := hx4; replace hx4 := hide hx4)
    have hs4 : Sent 1 nb lv _ _ _ w4 := ⟨v, l, lv', rfl, unhide hx4⟩
    refine leaves_cons (f := 52) (args := #[.pointer (some ⟨nb, 0, none⟩)]) (by simp) (by simp [go_sem]) ?_
    refine (unlock_deferred muLib ⟨nb, 0, none⟩ .returning _ hs4.c0.1 hs4.c0.2).mono ?_
    rintro e u' w'' ⟨rfl, rfl, rfl⟩
    have hu := Sent.unlock (unhide HLT) (unhide HEY) hs4
    refine ⟨_, results_tmp rfl _ _ _, ?_⟩
    rw [unhide HR]
    exact hu

theorem step_all (nb : Nat) (s : Nd) (lv : Value) (m : Msg) (w : World) (h : NB 0 w nb s lv) (hl : NL w s lv) (hok : Ok s) (eo : Option Addr) (ec : Nat) (he : EntsIn w (.slice eo m.ents.length ec) m.ents) (hec : m.ents.length ≤ ec) (hlen : m.ents.length < 4611686018427387904) :
    Calls Tryz.prog 31 #[.pointer (some ⟨nb, 0, none⟩), magg m (.slice eo m.ents.length ec)] w fun e w' => Sent 0 nb lv w (s.step m) e w' :=
  step_any nb s lv m w h hl hok eo ec he hec hlen fun W hN hL hm => stepAppendReply_any 1 nb s lv m _ W hN hL hok hm ⟨eo, _, ec, rfl⟩

end Go.Proofs.YteiecbkfganhnaaGreat
