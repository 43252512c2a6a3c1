/- The program's node: is a message sound? -/
import Derived.Test.YteiecbkfganhnaaGreatAppGood
import Derived.Test.YteiecbkfganhnaaGreatKNdB

namespace Go.Proofs.YteiecbkfganhnaaGreat

open Go.RowKit Go.MuLone

theorem soundNodes_b (x n : Int) (w : World) (h1 : 1 ≤ n) (h2 : n ≤ 7) :
    Calls Tryz.prog 21 #[.int .i64 x, .int .i64 n] w fun e w' => e = .returned (.bool (srcOk x n)) ∧ w' = w := by
  by_cases h3 : 0 ≤ x
  · by_cases h4 : x < n
    · rw [show srcOk x n = true by simp [srcOk, h3, h4]]
      exact soundNodes_yes x n w h1 h2 h3 h4
    · rw [show srcOk x n = false by simp [srcOk, h4]]
      exact soundNodes_no x n w (by omega)
  · rw [show srcOk x n = false by simp [srcOk, h3]]
    exact soundNodes_no x n w (by omega)

def numsOk : List Int → Bool
  | [] => true
  | x :: xs => numOk x && numsOk xs

set_option maxRecDepth 100000 in
set_option maxHeartbeats 400000 in
theorem soundNumbers_any (v : Value) (xs : List Int) (w : World) (hn : xs.length ≤ 7) (h : IntsIn w v xs) :
    Calls Tryz.prog 108 #[v] w fun e w' => e = .returned (.bool (numsOk xs)) ∧ w' = w := by
  obtain ⟨ao, cap, rfl, ha⟩ := h
  have HA := hide ha
  clear ha
  go_enter Tryz.func108, Tryz.ntmps108
  go_wp2
  go_loop [7] (fun i => ∃ k : Nat, k ≤ xs.length ∧ i = .int .i64 k ∧ numsOk xs = numsOk (xs.drop k)) (fun i => xs.length - (intOf i).toNat)
  case atStart => exact ⟨0, Nat.zero_le _, rfl, rfl⟩
  case round =>
    obtain ⟨k, hk, rfl, hok⟩ := hrel
    by_cases hlt : k < xs.length
    · obtain ⟨b, off, rfl, a0⟩ := (unhide HA) k _ (show xs[k]? = some xs[k] by simp [hlt])
      have i1 : (0 : Int) ≤ (k : Int) := by omega
      have i2 : (k : Int) < (xs.length : Int) := by omega
      rw [List.drop_eq_getElem_cons hlt] at hok
      have HOK := hide hok
      clear hok
      generalize xs[k] = x at *
      by_cases h1 : x < 0
      · have HR : Hid (numsOk xs = false) := by show _ = _; rw [unhide HOK]; simp [numsOk, numOk]; omega
        have d1 : decide (x < 0) = true := decide_eq_true h1
        go_wp2
        go_ret
        exact ⟨by rw [unhide HR]; rfl, rfl⟩
      · have d1 : decide (x < 0) = false := decide_eq_false h1
        by_cases h2 : 1000000 < x
        · have HR : Hid (numsOk xs = false) := by show _ = _; rw [unhide HOK]; simp [numsOk, numOk]; omega
          go_wp2
          go_ret
          exact ⟨by rw [unhide HR]; rfl, rfl⟩
        · have HR : Hid (numsOk xs = numsOk (xs.drop (k + 1))) := by
            show _ = _
            rw [unhide HOK]
            simp only [numsOk, numOk]
            rw [decide_eq_true (by omega), decide_eq_true (by omega)]
            rfl
          go_wp2
          go_round
          case rel => exact ⟨k + 1, by omega, by go_num, unhide HR⟩
          case measure => simp [intOf]; omega
    · have hkn : k = xs.length := by omega
      subst hkn
      have HR : Hid (numsOk xs = true) := by show _ = _; rw [hok, List.drop_length]; rfl
      clear hok
      go_wp2
      go_ret
      exact ⟨by rw [unhide HR]; rfl, rfl⟩

theorem ints_three (w : World) (x y z : Int) : IntsIn (w.alloc (.cells #[.int .i64 x, .int .i64 y, .int .i64 z] 3)) (.slice (some ⟨w.heap.size, 0, none⟩) 3 3) [x, y, z] := by
  refine ⟨_, _, rfl, fun k t hk => ⟨w.heap.size, 0, rfl, ?_⟩⟩
  match k, hk with
  | 0, hk => simp at hk; subst hk; exact cell_of_row _ _ 0 _ _ _ (heap_alloc_new w _)
  | 1, hk => simp at hk; subst hk; exact cell_of_row _ _ 1 _ _ _ (heap_alloc_new w _)
  | 2, hk => simp at hk; subst hk; exact cell_of_row _ _ 2 _ _ _ (heap_alloc_new w _)
  | k + 3, hk => simp at hk

theorem ints3_at (w : World) (b : Nat) (hb : w.heap.size = b) (x y z : Int) : IntsIn (w.alloc (.cells #[.int .i64 x, .int .i64 y, .int .i64 z] 3)) (.slice (some ⟨b, 0, none⟩) 3 3) [x, y, z] := by subst hb; exact ints_three w x y z

theorem nums3 (a b c : Int) : numsOk [a, b, c] = (numOk a && (numOk b && numOk c)) := by simp [numsOk]

theorem soundM_no0 {m : Msg} {id n : Int} (h : ¬ (0 ≤ m.kind)) : soundM m id n = false := by
  simp only [soundM, ← nums3]
  cases hb : (decide (0 ≤ m.kind) && decide (m.kind ≤ 5) && decide (m.dst = id) && decide (m.src ≠ id) && srcOk m.src n && decide (1 ≤ m.term) && decide (m.term ≤ 1000000) && numsOk [m.index, m.logTerm, m.commit] && decide ((m.ents.length : Int) ≤ 3)) with
  | false => rfl
  | true =>
    simp only [Bool.and_eq_true, decide_eq_true_eq] at hb
    exact absurd hb.1.1.1.1.1.1.1.1 h

theorem soundM_no1 {m : Msg} {id n : Int} (h : ¬ (m.kind ≤ 5)) : soundM m id n = false := by
  simp only [soundM, ← nums3]
  cases hb : (decide (0 ≤ m.kind) && decide (m.kind ≤ 5) && decide (m.dst = id) && decide (m.src ≠ id) && srcOk m.src n && decide (1 ≤ m.term) && decide (m.term ≤ 1000000) && numsOk [m.index, m.logTerm, m.commit] && decide ((m.ents.length : Int) ≤ 3)) with
  | false => rfl
  | true =>
    simp only [Bool.and_eq_true, decide_eq_true_eq] at hb
    exact absurd hb.1.1.1.1.1.1.1.2 h

theorem soundM_no2 {m : Msg} {id n : Int} (h : ¬ (m.dst = id)) : soundM m id n = false := by
  simp only [soundM, ← nums3]
  cases hb : (decide (0 ≤ m.kind) && decide (m.kind ≤ 5) && decide (m.dst = id) && decide (m.src ≠ id) && srcOk m.src n && decide (1 ≤ m.term) && decide (m.term ≤ 1000000) && numsOk [m.index, m.logTerm, m.commit] && decide ((m.ents.length : Int) ≤ 3)) with
  | false => rfl
  | true =>
    simp only [Bool.and_eq_true, decide_eq_true_eq] at hb
    exact absurd hb.1.1.1.1.1.1.2 h

theorem soundM_no3 {m : Msg} {id n : Int} (h : ¬ (m.src ≠ id)) : soundM m id n = false := by
  simp only [soundM, ← nums3]
  cases hb : (decide (0 ≤ m.kind) && decide (m.kind ≤ 5) && decide (m.dst = id) && decide (m.src ≠ id) && srcOk m.src n && decide (1 ≤ m.term) && decide (m.term ≤ 1000000) && numsOk [m.index, m.logTerm, m.commit] && decide ((m.ents.length : Int) ≤ 3)) with
  | false => rfl
  | true =>
    simp only [Bool.and_eq_true, decide_eq_true_eq] at hb
    exact absurd hb.1.1.1.1.1.2 h

theorem soundM_no4 {m : Msg} {id n : Int} (h : ¬ (srcOk m.src n = true)) : soundM m id n = false := by
  simp only [soundM, ← nums3]
  cases hb : (decide (0 ≤ m.kind) && decide (m.kind ≤ 5) && decide (m.dst = id) && decide (m.src ≠ id) && srcOk m.src n && decide (1 ≤ m.term) && decide (m.term ≤ 1000000) && numsOk [m.index, m.logTerm, m.commit] && decide ((m.ents.length : Int) ≤ 3)) with
  | false => rfl
  | true =>
    simp only [Bool.and_eq_true, decide_eq_true_eq] at hb
    exact absurd hb.1.1.1.1.2 h

theorem soundM_no5 {m : Msg} {id n : Int} (h : ¬ (1 ≤ m.term)) : soundM m id n = false := by
  simp only [soundM, ← nums3]
  cases hb : (decide (0 ≤ m.kind) && decide (m.kind ≤ 5) && decide (m.dst = id) && decide (m.src ≠ id) && srcOk m.src n && decide (1 ≤ m.term) && decide (m.term ≤ 1000000) && numsOk [m.index, m.logTerm, m.commit] && decide ((m.ents.length : Int) ≤ 3)) with
  | false => rfl
  | true =>
    simp only [Bool.and_eq_true, decide_eq_true_eq] at hb
    exact absurd hb.1.1.1.2 h

theorem soundM_no6 {m : Msg} {id n : Int} (h : ¬ (m.term ≤ 1000000)) : soundM m id n = false := by
  simp only [soundM, ← nums3]
  cases hb : (decide (0 ≤ m.kind) && decide (m.kind ≤ 5) && decide (m.dst = id) && decide (m.src ≠ id) && srcOk m.src n && decide (1 ≤ m.term) && decide (m.term ≤ 1000000) && numsOk [m.index, m.logTerm, m.commit] && decide ((m.ents.length : Int) ≤ 3)) with
  | false => rfl
  | true =>
    simp only [Bool.and_eq_true, decide_eq_true_eq] at hb
    exact absurd hb.1.1.2 h

theorem soundM_no7 {m : Msg} {id n : Int} (h : ¬ (numsOk [m.index, m.logTerm, m.commit] = true)) : soundM m id n = false := by
  simp only [soundM, ← nums3]
  cases hb : (decide (0 ≤ m.kind) && decide (m.kind ≤ 5) && decide (m.dst = id) && decide (m.src ≠ id) && srcOk m.src n && decide (1 ≤ m.term) && decide (m.term ≤ 1000000) && numsOk [m.index, m.logTerm, m.commit] && decide ((m.ents.length : Int) ≤ 3)) with
  | false => rfl
  | true =>
    simp only [Bool.and_eq_true, decide_eq_true_eq] at hb
    exact absurd hb.1.2 h

theorem soundM_no8 {m : Msg} {id n : Int} (h : ¬ ((m.ents.length : Int) ≤ 3)) : soundM m id n = false := by
  simp only [soundM, ← nums3]
  cases hb : (decide (0 ≤ m.kind) && decide (m.kind ≤ 5) && decide (m.dst = id) && decide (m.src ≠ id) && srcOk m.src n && decide (1 ≤ m.term) && decide (m.term ≤ 1000000) && numsOk [m.index, m.logTerm, m.commit] && decide ((m.ents.length : Int) ≤ 3)) with
  | false => rfl
  | true =>
    simp only [Bool.and_eq_true, decide_eq_true_eq] at hb
    exact absurd hb.2 h

theorem soundM_yes {m : Msg} {id n : Int} (k0 : 0 ≤ m.kind) (k1 : m.kind ≤ 5) (k2 : m.dst = id) (k3 : m.src ≠ id) (k4 : srcOk m.src n = true) (k5 : 1 ≤ m.term) (k6 : m.term ≤ 1000000) (k7 : numsOk [m.index, m.logTerm, m.commit] = true) (k8 : (m.ents.length : Int) ≤ 3) : soundM m id n = okE m.ents (max 1 m.logTerm) m.term := by
  simp only [soundM, ← nums3, k4, k7, decide_eq_true k0, decide_eq_true k1, decide_eq_true k2, decide_eq_true k3, decide_eq_true k5, decide_eq_true k6, decide_eq_true k8, Bool.and_self, Bool.true_and]

set_option maxRecDepth 100000 in
set_option maxHeartbeats 1000000 in
theorem soundMessage_any (m : Msg) (ev : Value) (id n : Int) (w : World) (h1 : 1 ≤ n) (h2 : n ≤ 7) (hlen : m.ents.length < 4611686018427387904) (he : EntsIn w ev m.ents) :
    Calls Tryz.prog 64 #[magg m ev, .int .i64 id, .int .i64 n] w fun e w' => e = .returned (.bool (soundM m id n)) ∧ Below w.heap.size w w' := by
  have HE := hide he
  obtain ⟨eo, ec, rfl, hz1, hz2⟩ := he
  clear hz1 hz2
  have HB0 := hide (below_alloc w (.cells #[.int .i64 m.kind, .int .i64 m.src, .int .i64 m.dst, .int .i64 m.term, .int .i64 m.index, .int .i64 m.logTerm, .int .i64 m.commit, .slice eo m.ents.length ec, .bool m.granted] 30))
  have HB1 := hide (below_trans (unhide HB0) (below_alloc _ (.cells #[.int .i64 m.index, .int .i64 m.logTerm, .int .i64 m.commit] 3)))
  by_cases k0 : ¬ (0 ≤ m.kind)
  · have HR := hide (soundM_no0 (m := m) (id := id) (n := n) k0)
    obtain ⟨bs, hbs⟩ : ∃ bs, srcOk m.src n = bs := ⟨_, rfl⟩
    have HBS := hide hbs
    clear hbs
    obtain ⟨bn, hbn⟩ : ∃ bn, numsOk [m.index, m.logTerm, m.commit] = bn := ⟨_, rfl⟩
    have HBN := hide hbn
    clear hbn
    have b0 : decide (0 ≤ m.kind) = false := by simpa using k0
    clear k0
    go_enter Tryz.func64, Tryz.ntmps64
    go_wp2_with (first | (go_at_call 21; refine (soundNodes_b m.src n _ h1 h2).mono ?_; rw [unhide HBS]; rintro e w1 ⟨rfl, rfl⟩) | (go_at_call 108; refine (soundNumbers_any _ [m.index, m.logTerm, m.commit] _ (by simp) (ints3_at _ (w.heap.size + 1) (by simp) _ _ _)).mono ?_; rw [unhide HBN]; rintro e w1 ⟨rfl, rfl⟩) | (go_at_call 39; refine (soundEntries_any _ m.ents (max 1 m.logTerm) m.term _ hlen (by exact ents_below (unhide HE) (unhide HB1))).mono ?_; rintro e w3 ⟨rfl, hb3⟩; replace hb3 := hide hb3))
    go_ret
    exact ⟨by rw [unhide HR]; rfl, unhide HB0⟩
  replace k0 : 0 ≤ m.kind := Classical.not_not.1 k0
  have tk0 := hide k0
  have b0 : decide (0 ≤ m.kind) = true := by simpa using k0
  clear k0
  by_cases k1 : ¬ (m.kind ≤ 5)
  · have HR := hide (soundM_no1 (m := m) (id := id) (n := n) k1)
    obtain ⟨bs, hbs⟩ : ∃ bs, srcOk m.src n = bs := ⟨_, rfl⟩
    have HBS := hide hbs
    clear hbs
    obtain ⟨bn, hbn⟩ : ∃ bn, numsOk [m.index, m.logTerm, m.commit] = bn := ⟨_, rfl⟩
    have HBN := hide hbn
    clear hbn
    have b1 : decide (m.kind ≤ 5) = false := by simpa using k1
    clear k1
    go_enter Tryz.func64, Tryz.ntmps64
    go_wp2_with (first | (go_at_call 21; refine (soundNodes_b m.src n _ h1 h2).mono ?_; rw [unhide HBS]; rintro e w1 ⟨rfl, rfl⟩) | (go_at_call 108; refine (soundNumbers_any _ [m.index, m.logTerm, m.commit] _ (by simp) (ints3_at _ (w.heap.size + 1) (by simp) _ _ _)).mono ?_; rw [unhide HBN]; rintro e w1 ⟨rfl, rfl⟩) | (go_at_call 39; refine (soundEntries_any _ m.ents (max 1 m.logTerm) m.term _ hlen (by exact ents_below (unhide HE) (unhide HB1))).mono ?_; rintro e w3 ⟨rfl, hb3⟩; replace hb3 := hide hb3))
    go_ret
    exact ⟨by rw [unhide HR]; rfl, unhide HB0⟩
  replace k1 : m.kind ≤ 5 := Classical.not_not.1 k1
  have tk1 := hide k1
  have b1 : decide (m.kind ≤ 5) = true := by simpa using k1
  clear k1
  by_cases k2 : ¬ (m.dst = id)
  · have HR := hide (soundM_no2 (m := m) (id := id) (n := n) k2)
    obtain ⟨bs, hbs⟩ : ∃ bs, srcOk m.src n = bs := ⟨_, rfl⟩
    have HBS := hide hbs
    clear hbs
    obtain ⟨bn, hbn⟩ : ∃ bn, numsOk [m.index, m.logTerm, m.commit] = bn := ⟨_, rfl⟩
    have HBN := hide hbn
    clear hbn
    have b2 : (m.dst == id) = false := by simpa using k2
    clear k2
    go_enter Tryz.func64, Tryz.ntmps64
    go_wp2_with (first | (go_at_call 21; refine (soundNodes_b m.src n _ h1 h2).mono ?_; rw [unhide HBS]; rintro e w1 ⟨rfl, rfl⟩) | (go_at_call 108; refine (soundNumbers_any _ [m.index, m.logTerm, m.commit] _ (by simp) (ints3_at _ (w.heap.size + 1) (by simp) _ _ _)).mono ?_; rw [unhide HBN]; rintro e w1 ⟨rfl, rfl⟩) | (go_at_call 39; refine (soundEntries_any _ m.ents (max 1 m.logTerm) m.term _ hlen (by exact ents_below (unhide HE) (unhide HB1))).mono ?_; rintro e w3 ⟨rfl, hb3⟩; replace hb3 := hide hb3))
    go_ret
    exact ⟨by rw [unhide HR]; rfl, unhide HB0⟩
  replace k2 : m.dst = id := Classical.not_not.1 k2
  have tk2 := hide k2
  have b2 : (m.dst == id) = true := by simpa using k2
  clear k2
  by_cases k3 : ¬ (m.src ≠ id)
  · have HR := hide (soundM_no3 (m := m) (id := id) (n := n) k3)
    obtain ⟨bs, hbs⟩ : ∃ bs, srcOk m.src n = bs := ⟨_, rfl⟩
    have HBS := hide hbs
    clear hbs
    obtain ⟨bn, hbn⟩ : ∃ bn, numsOk [m.index, m.logTerm, m.commit] = bn := ⟨_, rfl⟩
    have HBN := hide hbn
    clear hbn
    have b3 : (m.src != id) = false := by simpa using k3
    clear k3
    go_enter Tryz.func64, Tryz.ntmps64
    go_wp2_with (first | (go_at_call 21; refine (soundNodes_b m.src n _ h1 h2).mono ?_; rw [unhide HBS]; rintro e w1 ⟨rfl, rfl⟩) | (go_at_call 108; refine (soundNumbers_any _ [m.index, m.logTerm, m.commit] _ (by simp) (ints3_at _ (w.heap.size + 1) (by simp) _ _ _)).mono ?_; rw [unhide HBN]; rintro e w1 ⟨rfl, rfl⟩) | (go_at_call 39; refine (soundEntries_any _ m.ents (max 1 m.logTerm) m.term _ hlen (by exact ents_below (unhide HE) (unhide HB1))).mono ?_; rintro e w3 ⟨rfl, hb3⟩; replace hb3 := hide hb3))
    go_ret
    exact ⟨by rw [unhide HR]; rfl, unhide HB0⟩
  replace k3 : m.src ≠ id := Classical.not_not.1 k3
  have tk3 := hide k3
  have b3 : (m.src != id) = true := by simpa using k3
  clear k3
  by_cases k4 : ¬ (srcOk m.src n = true)
  · have HR := hide (soundM_no4 (m := m) (id := id) (n := n) k4)
    have HBS : Hid (srcOk m.src n = false) := by show _ = _; simpa using k4
    obtain ⟨bn, hbn⟩ : ∃ bn, numsOk [m.index, m.logTerm, m.commit] = bn := ⟨_, rfl⟩
    have HBN := hide hbn
    clear hbn
    clear k4
    go_enter Tryz.func64, Tryz.ntmps64
    go_wp2_with (first | (go_at_call 21; refine (soundNodes_b m.src n _ h1 h2).mono ?_; rw [unhide HBS]; rintro e w1 ⟨rfl, rfl⟩) | (go_at_call 108; refine (soundNumbers_any _ [m.index, m.logTerm, m.commit] _ (by simp) (ints3_at _ (w.heap.size + 1) (by simp) _ _ _)).mono ?_; rw [unhide HBN]; rintro e w1 ⟨rfl, rfl⟩) | (go_at_call 39; refine (soundEntries_any _ m.ents (max 1 m.logTerm) m.term _ hlen (by exact ents_below (unhide HE) (unhide HB1))).mono ?_; rintro e w3 ⟨rfl, hb3⟩; replace hb3 := hide hb3))
    go_ret
    exact ⟨by rw [unhide HR]; rfl, unhide HB0⟩
  replace k4 : srcOk m.src n = true := Classical.not_not.1 k4
  have tk4 := hide k4
  have HBS := hide k4
  clear k4
  by_cases k5 : ¬ (1 ≤ m.term)
  · have HR := hide (soundM_no5 (m := m) (id := id) (n := n) k5)
    obtain ⟨bn, hbn⟩ : ∃ bn, numsOk [m.index, m.logTerm, m.commit] = bn := ⟨_, rfl⟩
    have HBN := hide hbn
    clear hbn
    have b5 : decide (1 ≤ m.term) = false := by simpa using k5
    clear k5
    go_enter Tryz.func64, Tryz.ntmps64
    go_wp2_with (first | (go_at_call 21; refine (soundNodes_b m.src n _ h1 h2).mono ?_; rw [unhide HBS]; rintro e w1 ⟨rfl, rfl⟩) | (go_at_call 108; refine (soundNumbers_any _ [m.index, m.logTerm, m.commit] _ (by simp) (ints3_at _ (w.heap.size + 1) (by simp) _ _ _)).mono ?_; rw [unhide HBN]; rintro e w1 ⟨rfl, rfl⟩) | (go_at_call 39; refine (soundEntries_any _ m.ents (max 1 m.logTerm) m.term _ hlen (by exact ents_below (unhide HE) (unhide HB1))).mono ?_; rintro e w3 ⟨rfl, hb3⟩; replace hb3 := hide hb3))
    go_ret
    exact ⟨by rw [unhide HR]; rfl, unhide HB0⟩
  replace k5 : 1 ≤ m.term := Classical.not_not.1 k5
  have tk5 := hide k5
  have b5 : decide (1 ≤ m.term) = true := by simpa using k5
  clear k5
  by_cases k6 : ¬ (m.term ≤ 1000000)
  · have HR := hide (soundM_no6 (m := m) (id := id) (n := n) k6)
    obtain ⟨bn, hbn⟩ : ∃ bn, numsOk [m.index, m.logTerm, m.commit] = bn := ⟨_, rfl⟩
    have HBN := hide hbn
    clear hbn
    have b6 : decide (m.term ≤ 1000000) = false := by simpa using k6
    clear k6
    go_enter Tryz.func64, Tryz.ntmps64
    go_wp2_with (first | (go_at_call 21; refine (soundNodes_b m.src n _ h1 h2).mono ?_; rw [unhide HBS]; rintro e w1 ⟨rfl, rfl⟩) | (go_at_call 108; refine (soundNumbers_any _ [m.index, m.logTerm, m.commit] _ (by simp) (ints3_at _ (w.heap.size + 1) (by simp) _ _ _)).mono ?_; rw [unhide HBN]; rintro e w1 ⟨rfl, rfl⟩) | (go_at_call 39; refine (soundEntries_any _ m.ents (max 1 m.logTerm) m.term _ hlen (by exact ents_below (unhide HE) (unhide HB1))).mono ?_; rintro e w3 ⟨rfl, hb3⟩; replace hb3 := hide hb3))
    go_ret
    exact ⟨by rw [unhide HR]; rfl, unhide HB0⟩
  replace k6 : m.term ≤ 1000000 := Classical.not_not.1 k6
  have tk6 := hide k6
  have b6 : decide (m.term ≤ 1000000) = true := by simpa using k6
  clear k6
  by_cases k7 : ¬ (numsOk [m.index, m.logTerm, m.commit] = true)
  · have HR := hide (soundM_no7 (m := m) (id := id) (n := n) k7)
    have HBN : Hid (numsOk [m.index, m.logTerm, m.commit] = false) := by show _ = _; simpa using k7
    clear k7
    go_enter Tryz.func64, Tryz.ntmps64
    go_wp2_with (first | (go_at_call 21; refine (soundNodes_b m.src n _ h1 h2).mono ?_; rw [unhide HBS]; rintro e w1 ⟨rfl, rfl⟩) | (go_at_call 108; refine (soundNumbers_any _ [m.index, m.logTerm, m.commit] _ (by simp) (ints3_at _ (w.heap.size + 1) (by simp) _ _ _)).mono ?_; rw [unhide HBN]; rintro e w1 ⟨rfl, rfl⟩) | (go_at_call 39; refine (soundEntries_any _ m.ents (max 1 m.logTerm) m.term _ hlen (by exact ents_below (unhide HE) (unhide HB1))).mono ?_; rintro e w3 ⟨rfl, hb3⟩; replace hb3 := hide hb3))
    go_ret
    exact ⟨by rw [unhide HR]; rfl, unhide HB1⟩
  replace k7 : numsOk [m.index, m.logTerm, m.commit] = true := Classical.not_not.1 k7
  have tk7 := hide k7
  have HBN := hide k7
  clear k7
  by_cases k8 : ¬ ((m.ents.length : Int) ≤ 3)
  · have HR := hide (soundM_no8 (m := m) (id := id) (n := n) k8)
    have b8 : decide ((m.ents.length : Int) ≤ 3) = false := by simpa using k8
    clear k8
    go_enter Tryz.func64, Tryz.ntmps64
    go_wp2_with (first | (go_at_call 21; refine (soundNodes_b m.src n _ h1 h2).mono ?_; rw [unhide HBS]; rintro e w1 ⟨rfl, rfl⟩) | (go_at_call 108; refine (soundNumbers_any _ [m.index, m.logTerm, m.commit] _ (by simp) (ints3_at _ (w.heap.size + 1) (by simp) _ _ _)).mono ?_; rw [unhide HBN]; rintro e w1 ⟨rfl, rfl⟩) | (go_at_call 39; refine (soundEntries_any _ m.ents (max 1 m.logTerm) m.term _ hlen (by exact ents_below (unhide HE) (unhide HB1))).mono ?_; rintro e w3 ⟨rfl, hb3⟩; replace hb3 := hide hb3))
    go_ret
    exact ⟨by rw [unhide HR]; rfl, unhide HB1⟩
  replace k8 : (m.ents.length : Int) ≤ 3 := Classical.not_not.1 k8
  have tk8 := hide k8
  have b8 : decide ((m.ents.length : Int) ≤ 3) = true := by simpa using k8
  clear k8
  have HR := hide (soundM_yes (unhide tk0) (unhide tk1) (unhide tk2) (unhide tk3) (unhide tk4) (unhide tk5) (unhide tk6) (unhide tk7) (unhide tk8))
  go_enter Tryz.func64, Tryz.ntmps64
  go_wp2_with (first | (go_at_call 21; refine (soundNodes_b m.src n _ h1 h2).mono ?_; rw [unhide HBS]; rintro e w1 ⟨rfl, rfl⟩) | (go_at_call 108; refine (soundNumbers_any _ [m.index, m.logTerm, m.commit] _ (by simp) (ints3_at _ (w.heap.size + 1) (by simp) _ _ _)).mono ?_; rw [unhide HBN]; rintro e w1 ⟨rfl, rfl⟩) | (go_at_call 39; refine (soundEntries_any _ m.ents (max 1 m.logTerm) m.term _ hlen (by exact ents_below (unhide HE) (unhide HB1))).mono ?_; rintro e w3 ⟨rfl, hb3⟩; replace hb3 := hide hb3))
  go_ret
  exact ⟨by rw [unhide HR]; rfl, below_trans (unhide HB1) (unhide hb3)⟩

end Go.Proofs.YteiecbkfganhnaaGreat
