/- The program's own functions: what is right, copies. -/
import Derived.Test.YteiecbkfganhnaaPlain
import Derived.Test.YteiecbkfganhnaaShelf
import Derived.Test.YteiecbkfganhnaaLocks
import Derived.Deep.RegionHeld3
import Derived.Deep.RegionLaw
import Derived.Deep.DeepCutAuto
namespace Go.Proofs.Yteiecbkfganhnaa
open Go.RowKit

set_option maxRecDepth 100000 in
set_option maxHeartbeats 1000000 in
theorem soundNodes_yes (id n : Int) (w : World) (h1 : 1 ≤ n) (h2 : n ≤ 7) (h3 : 0 ≤ id) (h4 : id < n) :
    Calls Try.prog 45 #[.int .i64 id, .int .i64 n] w fun e w' => e = .returned (.bool true) ∧ w' = w := by
  have d1 : decide (1 ≤ n) = true := decide_eq_true h1
  have d2 : decide (n ≤ 7) = true := decide_eq_true h2
  have d3 : decide (0 ≤ id) = true := decide_eq_true h3
  have d4 : decide (id < n) = true := decide_eq_true h4
  go_enter Try.func45, Try.ntmps45
  go_wp2
  go_ret
  exact ⟨rfl, rfl⟩

set_option maxRecDepth 100000 in
set_option maxHeartbeats 1000000 in
theorem soundNodes_no (id n : Int) (w : World) (h : n < 1 ∨ 7 < n ∨ id < 0 ∨ n ≤ id) :
    Calls Try.prog 45 #[.int .i64 id, .int .i64 n] w fun e w' => e = .returned (.bool false) ∧ w' = w := by
  by_cases h1 : n < 1
  · have d1 : decide (1 ≤ n) = false := decide_eq_false (by omega)
    clear h
    go_enter Try.func45, Try.ntmps45
    go_wp2
    go_ret
    exact ⟨rfl, rfl⟩
  by_cases h2 : 7 < n
  · have d1 : decide (1 ≤ n) = true := decide_eq_true (by omega)
    have d2 : decide (n ≤ 7) = false := decide_eq_false (by omega)
    clear h
    go_enter Try.func45, Try.ntmps45
    go_wp2
    go_ret
    exact ⟨rfl, rfl⟩
  by_cases h3 : id < 0
  · have d1 : decide (1 ≤ n) = true := decide_eq_true (by omega)
    have d2 : decide (n ≤ 7) = true := decide_eq_true (by omega)
    have d3 : decide (0 ≤ id) = false := decide_eq_false (by omega)
    clear h
    go_enter Try.func45, Try.ntmps45
    go_wp2
    go_ret
    exact ⟨rfl, rfl⟩
  · have d1 : decide (1 ≤ n) = true := decide_eq_true (by omega)
    have d2 : decide (n ≤ 7) = true := decide_eq_true (by omega)
    have d3 : decide (0 ≤ id) = true := decide_eq_true (by omega)
    have d4 : decide (id < n) = false := decide_eq_false (by omega)
    clear h
    go_enter Try.func45, Try.ntmps45
    go_wp2
    go_ret
    exact ⟨rfl, rfl⟩

set_option maxRecDepth 100000 in
set_option maxHeartbeats 1000000 in
theorem soundEntries_any (v : Value) (es : List Ent) (low high : Int) (w : World) (hn : es.length < 4611686018427387904) (h : EntsIn w v es) :
    Calls Try.prog 63 #[v, .int .i64 low, .int .i64 high] w fun e w' => e = .returned (.bool (okE es low high)) ∧ Below w.heap.size w w' := by
  obtain ⟨ao, cap, rfl, _, ha⟩ := h
  have HA := hide ha
  clear ha
  go_enter Try.func63, Try.ntmps63
  go_wp2
  go_loopw [1, 11] (fun lo i wr => ∃ (k : Nat) (l : Int), k ≤ es.length ∧ i = .int .i64 k ∧ lo = .int .i64 l ∧ okE es low high = okE (es.drop k) l high ∧ Below w.heap.size w wr) (fun _ i _ => es.length - (intOf i).toNat)
  case atStart => exact ⟨0, low, Nat.zero_le _, rfl, rfl, rfl, Below.refl _ _⟩
  case round =>
    obtain ⟨k, l, hk, rfl, rfl, hok, hbw⟩ := hrel
    by_cases hlt : k < es.length
    · obtain ⟨b, off, rfl, a0', a1'⟩ := (unhide HA) k _ (show es[k]? = some es[k] by simp [hlt])
      have a0 := (hbw.cell (p := ⟨b, off + k * 2, none⟩) (block_lt_of_cell a0')).trans a0'
      have a1 := (hbw.cell (p := ⟨b, off + k * 2 + 1, none⟩) (block_lt_of_cell a1')).trans a1'
      have hbw2 := hide (hbw.alloc (o := .cells #[.int .i64 es[k].1, .string es[k].2] 78) hbw.size)
      clear a0' a1' hbw
      have i1 : (0 : Int) ≤ (k : Int) := by omega
      have i2 : (k : Int) < (es.length : Int) := by omega
      by_cases hbad : es[k].1 < l ∨ high < es[k].1 ∨ 20 < (es[k].2.size : Int)
      · have HK : Hid (okE es low high = false) := hok.trans (okE_bad hbad)
        clear hok
        generalize es[k].1 = t at *
        generalize es[k].2 = s at *
        by_cases h1 : t < l
        · clear hbad
          go_wp2
          go_ret
          exact ⟨by rw [unhide HK]; rfl, unhide hbw2⟩
        · by_cases h2 : high < t
          · clear hbad
            go_wp2
            go_ret
            exact ⟨by rw [unhide HK]; rfl, unhide hbw2⟩
          · have h3 : ¬ (s.size : Int) ≤ 20 := by omega
            clear hbad
            go_wp2
            go_ret
            exact ⟨by rw [unhide HK]; rfl, unhide hbw2⟩
      · have HK : Hid (okE es low high = okE (es.drop (k + 1)) es[k].1 high) := hok.trans (okE_good hbad)
        have h1 : ¬ es[k].1 < l := fun h => hbad (.inl h)
        have h2 : ¬ high < es[k].1 := fun h => hbad (.inr (.inl h))
        have h3 : (es[k].2.size : Int) ≤ 20 := by
          have : ¬ 20 < (es[k].2.size : Int) := fun h => hbad (.inr (.inr h))
          omega
        clear hok hbad
        generalize es[k].1 = t at *
        generalize es[k].2 = s at *
        go_wp2
        go_roundw
        case rel => exact ⟨k + 1, t, by omega, by go_num, rfl, unhide HK, unhide hbw2⟩
        case measure => simp [intOf]; omega
    · have hkn : k = es.length := by omega
      subst hkn
      have HK : Hid (okE es low high = true) := by show _ = _; rw [hok, List.drop_length]; rfl
      replace hbw := hide hbw
      clear hok
      go_wp2
      go_ret
      exact ⟨by rw [unhide HK]; rfl, unhide hbw⟩

theorem clone_any (s : ByteArray) (w : World) (hs : s.size ≤ 1000) :
    Calls Try.prog 51 #[.string s] w fun e w' => e = .returned (.string s) ∧ Below w.heap.size w w' := by
  go_enter Try.func51, Try.ntmps51
  go_wp2_with (go_at_call 82; refine (stringsliteClone s _ (by omega)).mono ?_; rintro e w1 ⟨rfl, hb⟩; replace hb := hide hb)
  go_ret
  exact ⟨rfl, unhide hb⟩

set_option maxRecDepth 100000 in
set_option maxHeartbeats 2000000 in
theorem soundSaved_any (term vote n : Int) (lv : Value) (es : List Ent) (w : World) (hn : es.length < 4611686018427387904) (hl : EntsIn w lv es) (b : Bool)
    (h : b = (decide (0 ≤ term) && decide (term ≤ 1000000) && decide (-1 ≤ vote) && decide (vote < n) && decide ((es.length : Int) ≤ 60) && okE es 1 term)) :
    Calls Try.prog 46 #[.agg #[.int .i64 term, .int .i64 vote, lv], .int .i64 n] w fun e w' => e = .returned (.bool b) ∧ Below w.heap.size w w' := by
  have HL := hide hl
  obtain ⟨ao, cap, rfl, hl1, hl2⟩ := hl
  clear hl1 hl2
  have H := hide h
  have HB0 := hide (below_alloc w (.cells #[.int .i64 term, .int .i64 vote, .slice ao es.length cap] 58))
  clear h
  go_enter Try.func46, Try.ntmps46
  go_wp2_with (go_at_call 63; refine (soundEntries_any _ es 1 term _ hn (by exact ents_below (unhide HL) (unhide HB0))).mono ?_; rintro e w1 ⟨rfl, hb⟩; replace hb := hide hb)
  · go_ret
    have hb2 : b = okE es 1 term := by
      rw [unhide H, decide_eq_true (by assumption), decide_eq_true (by assumption), decide_eq_true (by assumption), decide_eq_true (by assumption), decide_eq_true (by assumption)]
      simp
    exact ⟨by rw [hb2]; rfl, below_trans (unhide HB0) (unhide hb)⟩
  all_goals
    go_ret
    have hb2 : b = false := by
      rw [unhide H]
      simp only [Bool.and_eq_false_iff, decide_eq_false_iff_not]
      omega
    exact ⟨by rw [hb2]; rfl, unhide HB0⟩

theorem good_saved {term vote n : Int} {es : List Ent} (h : ¬ (term < 0 ∨ 1000000 < term ∨ vote < -1 ∨ n ≤ vote ∨ 60 < (es.length : Int) ∨ okE es 1 term = false)) :
    true = (decide (0 ≤ term) && decide (term ≤ 1000000) && decide (-1 ≤ vote) && decide (vote < n) && decide ((es.length : Int) ≤ 60) && okE es 1 term) := by
  have h6 : okE es 1 term = true := by
    cases hb : okE es 1 term with
    | true => rfl
    | false => exact absurd (.inr (.inr (.inr (.inr (.inr hb))))) h
  rw [h6, decide_eq_true (by omega), decide_eq_true (by omega), decide_eq_true (by omega), decide_eq_true (by omega), decide_eq_true (by omega)]
  rfl

theorem bad_saved {term vote n : Int} {es : List Ent} (h : term < 0 ∨ 1000000 < term ∨ vote < -1 ∨ n ≤ vote ∨ 60 < (es.length : Int) ∨ okE es 1 term = false) :
    false = (decide (0 ≤ term) && decide (term ≤ 1000000) && decide (-1 ≤ vote) && decide (vote < n) && decide ((es.length : Int) ≤ 60) && okE es 1 term) := by
  symm
  simp only [Bool.and_eq_false_iff, decide_eq_false_iff_not]
  rcases h with h | h | h | h | h | h
  · omega
  · omega
  · omega
  · omega
  · omega
  · exact .inr h

end Go.Proofs.Yteiecbkfganhnaa
