/- Are entries right? The document's walk and the program's. -/
import Derived.Test.YteiecbkfganhnaaGreatLeaf
namespace Go.Proofs.YteiecbkfganhnaaGreat
open Go.RowKit

set_option maxRecDepth 100000 in
set_option maxHeartbeats 1000000 in
theorem rightEntries_any (v : Value) (es : List Ent) (low high : Int) (w : World) (hn : es.length < 4611686018427387904) (hlow : 1 ≤ low) (h : EntsIn w v es) :
    Calls Tryz.prog 24 #[v, .int .i64 low, .int .i64 high] w fun e w' => e = .returned (.bool (okE es low high)) ∧ w' = w := by
  obtain ⟨ao, cap, rfl, _, ha⟩ := h
  have HA := hide ha
  clear ha
  go_enter Tryz.func24, Tryz.ntmps24
  go_wp2
  go_loop [1, 7] (fun lo i => ∃ (k : Nat) (l : Int), k ≤ es.length ∧ i = .int .i64 k ∧ lo = .int .i64 l ∧ 1 ≤ l ∧ okE es low high = okE (es.drop k) l high) (fun _ i => es.length - (intOf i).toNat)
  case atStart => exact ⟨0, low, Nat.zero_le _, rfl, rfl, hlow, rfl⟩
  case round =>
    obtain ⟨k, l, hk, rfl, rfl, hl, hok⟩ := hrel
    by_cases hlt : k < es.length
    · obtain ⟨b, off, rfl, a0, a1⟩ := (unhide HA) k _ (show es[k]? = some es[k] by simp [hlt])
      have i1 : (0 : Int) ≤ (k : Int) := by omega
      have i2 : (k : Int) < (es.length : Int) := by omega
      by_cases hbad : es[k].1 < l ∨ high < es[k].1 ∨ 20 < (es[k].2.size : Int)
      · have HK : Hid (okE es low high = false) := hok.trans (okE_bad hbad)
        clear hok
        generalize es[k].1 = t at *
        generalize es[k].2 = s at *
        by_cases h1 : t < l
        · clear hbad
          go_wp2
          go_ret
          exact ⟨by rw [unhide HK]; rfl, rfl⟩
        · by_cases h2 : high < t
          · clear hbad
            go_wp2
            go_ret
            exact ⟨by rw [unhide HK]; rfl, rfl⟩
          · have h3 : 20 < (s.size : Int) := by omega
            clear hbad
            go_wp2
            go_ret
            exact ⟨by rw [unhide HK]; rfl, rfl⟩
      · have HK : Hid (okE es low high = okE (es.drop (k + 1)) es[k].1 high) := hok.trans (okE_good hbad)
        have h1 : ¬ es[k].1 < l := fun h => hbad (.inl h)
        have h2 : ¬ high < es[k].1 := fun h => hbad (.inr (.inl h))
        have h3 : ¬ 20 < (es[k].2.size : Int) := fun h => hbad (.inr (.inr h))
        clear hok hbad
        generalize es[k].1 = t at *
        generalize es[k].2 = s at *
        go_wp2
        go_round
        case rel => exact ⟨k + 1, t, by omega, by go_num, rfl, by omega, unhide HK⟩
        case measure => simp [intOf]; omega
    · have hkn : k = es.length := by omega
      subst hkn
      have HK : Hid (okE es low high = true) := by show _ = _; rw [hok, List.drop_length]; rfl
      clear hok
      go_wp2
      go_ret
      exact ⟨by rw [unhide HK]; rfl, rfl⟩

end Go.Proofs.YteiecbkfganhnaaGreat
