/- The program's node: take. -/
import Derived.Test.YteiecbkfganhnaaKeeps
namespace Go.Proofs.Yteiecbkfganhnaa
open Go.RowKit Go.MuLone

theorem takes_cut {l : List Ent} {i k : Nat} {es : List Ent} (hk : k < es.length) (h : l.length ≤ i + k ∨ Nd.termAt l (i + k + 1) ≠ es[k].1) : Nd.takes l (i + k) (es.drop k) = l.take (i + k) ++ es.drop k := by
  rw [List.drop_eq_getElem_cons hk]
  simp only [Nd.takes]
  rw [if_pos h]
theorem takes_on {l : List Ent} {i k : Nat} {es : List Ent} (hk : k < es.length) (h : ¬ (l.length ≤ i + k ∨ Nd.termAt l (i + k + 1) ≠ es[k].1)) : Nd.takes l (i + k) (es.drop k) = Nd.takes l (i + (k + 1)) (es.drop (k + 1)) := by
  rw [List.drop_eq_getElem_cons hk]
  simp only [Nd.takes]
  rw [if_neg h]
  rfl

/-- The head of a log, as a slice of it. -/
theorem slice_head (v : Value) (n a : Nat) (h1 : a ≤ n) {w : World} {xs : List Value} (ho : w.ownsRow 0 78 2 v n xs) : ∃ pv, (∀ w, (Instr.slice 31 v none (some (.int .i64 (a : Int))) none).run Try.prog w = .ok pv w) ∧
    pv.ownBlock = v.ownBlock ∧ ∀ w : World, w.ownsRow 0 78 2 v n xs → w.ownsRow 0 78 2 pv a (xs.take (a * 2)) := by
  rcases ho.2 with ⟨rfl, rfl⟩ | ⟨g, cap, cur, rfl, _, _, hnc, _⟩
  · have ha : a = 0 := by omega
    subst ha
    refine ⟨.slice none 0 0, fun w => by go_simp, rfl, fun w _ => ?_⟩
    simpa using World.ownsRow_nil w 0 78 2
  · have i1 : (0 : Int) ≤ (a : Int) := by omega
    have i3 : (a : Int) ≤ (cap : Int) := by omega
    refine ⟨.slice (some ⟨g, 0, none⟩) a cap, fun w => by go_simp, rfl, fun w hw => ?_⟩
    refine owns_prefix (m := n) (ys := xs.drop (a * 2)) (by rw [List.take_append_drop]; exact hw) ?_ h1
    rw [List.length_take, hw.1]
    omega

/-- The tail of the entries that were handed in. -/
theorem slice_tail (b off n cap k : Nat) (es : List Ent) (h1 : k < n) (h2 : n ≤ cap) (hl : es.length = n) : ∃ c, (∀ w, (Instr.slice 31 (.slice (some ⟨b, off, none⟩) n cap) (some (.int .i64 (k : Int))) none none).run Try.prog w = .ok (.slice (some ⟨b, off + k * 2, none⟩) (n - k) c) w) ∧
    ∀ W, EntsIn W (.slice (some ⟨b, off, none⟩) n cap) es → EntsIn W (.slice (some ⟨b, off + k * 2, none⟩) (n - k) c) (es.drop k) := by
  have i1 : (0 : Int) ≤ (k : Int) := by omega
  have i2 : (k : Int) ≤ (n : Int) := by omega
  have hne : ¬ cap = k := by omega
  refine ⟨cap - k, fun w => by go_simp, fun W hW => ?_⟩
  obtain ⟨ao, cap', hv, _, he⟩ := hW
  refine ⟨some ⟨b, off + k * 2, none⟩, cap - k, by rw [List.length_drop, hl], fun hx => by simp at hx, fun j e hj => ⟨b, off + k * 2, rfl, ?_⟩⟩
  rw [List.getElem?_drop] at hj
  obtain ⟨b', off', ha, h3, h4⟩ := he (k + j) e hj
  simp only [Value.slice.injEq] at hv
  obtain ⟨rfl, _, _⟩ := hv
  simp only [Option.some.injEq, Addr.mk.injEq, and_true] at ha
  obtain ⟨rfl, rfl⟩ := ha
  rw [Nat.add_mul, ← Nat.add_assoc] at h3 h4
  exact ⟨h3, h4⟩

theorem eC_take (es : List Ent) (a : Nat) : (eC es).take (a * 2) = eC (es.take a) := by
  induction es generalizing a with
  | nil => simp [eC]
  | cons e es ih =>
    cases a with
    | zero => rfl
    | succ a =>
      rw [show (a + 1) * 2 = a * 2 + 1 + 1 by omega, eC_cons, List.take_succ_cons, List.take_succ_cons, List.take_succ_cons, eC_cons, ih a]

theorem owned_some {w : World} {base e : Nat} {v : Value} {es : List Ent} (h : w.ownsRow base e 2 v es.length (eC es)) (hn : 0 < es.length) : ∃ g cap, v = .slice (some ⟨g, 0, none⟩) es.length cap ∧ ∀ j u, (eC es)[j]? = some u → w.cell? ((⟨g, 0, none⟩ : Addr).add j) = some u := by
  rcases h.2 with ⟨rfl, h0⟩ | ⟨g, cap, cur, rfl, _⟩
  · omega
  · exact ⟨g, cap, rfl, fun j u hj => h.cells (g := g) rfl j u hj⟩

set_option maxRecDepth 100000 in
set_option maxHeartbeats 1000000 in
theorem take_any (mu : Int) (nb : Nat) (s : Nd) (lv : Value) (m : Msg) (eo : Option Addr) (ec : Nat) (i : Nat) (w : World) (h : NB mu w nb s lv) (hl : NL w s lv) (hs : s.last ≤ 60) (hi : m.index = (i : Int)) (hi2 : i ≤ s.last) (hn : m.ents.length ≤ 3) (hsz : ∀ e ∈ m.ents, e.2.size ≤ 20) (he : EntsIn w (.slice eo m.ents.length ec) m.ents) (hec : m.ents.length ≤ ec) :
    Calls Try.prog 71 #[.pointer (some ⟨nb, 0, none⟩), magg m (.slice eo m.ents.length ec)] w fun e w' => e = .returned (.tuple #[]) ∧ Took mu nb lv w { s with log := Nd.takes s.log i m.ents } w' := by
  have hlt := h.lt
  have hne : ¬ nb = w.heap.size := by omega
  have HBW := hide (below_alloc w (.cells #[.int .i64 m.kind, .int .i64 m.src, .int .i64 m.dst, .int .i64 m.term, .int .i64 m.index, .int .i64 m.logTerm, .int .i64 m.commit, .slice eo m.ents.length ec, .bool m.granted] 50))
  have HWM := hide (heap_alloc_new w (.cells #[.int .i64 m.kind, .int .i64 m.src, .int .i64 m.dst, .int .i64 m.term, .int .i64 m.index, .int .i64 m.logTerm, .int .i64 m.commit, .slice eo m.ents.length ec, .bool m.granted] 50))
  have HN := hide h
  have HL := hide hl
  have HEI := hide he
  have HI := hide hi
  have HSZ := hide hsz
  obtain ⟨eo', ec', hev, _, ha⟩ := he
  simp only [Value.slice.injEq, true_and] at hev
  obtain ⟨rfl, rfl⟩ := hev
  have HA := hide ha
  clear h hl ha hi hsz
  go_enter Try.func71, Try.ntmps71
  go_wp2
  generalize w.alloc (.cells #[.int .i64 m.kind, .int .i64 m.src, .int .i64 m.dst, .int .i64 m.term, .int .i64 m.index, .int .i64 m.logTerm, .int .i64 m.commit, .slice eo m.ents.length ec, .bool m.granted] 50) = W at *
  go_loopw [10] (fun v wr => ∃ k : Nat, k ≤ m.ents.length ∧ v = .int .i64 k ∧ Nd.takes s.log i m.ents = Nd.takes s.log (i + k) (m.ents.drop k) ∧ i + k ≤ s.last ∧ Below W.heap.size W wr) (fun v _ => m.ents.length - (intOf v).toNat)
  case atStart => exact ⟨0, Nat.zero_le _, rfl, rfl, hi2, Below.refl _ _⟩
  case round =>
    obtain ⟨k, hk, rfl, hkp, hik, hb⟩ := hrel
    by_cases hlt2 : k < m.ents.length
    · have hBB := below_trans (unhide HBW) hb
      obtain ⟨b, off, rfl, a0', a1'⟩ := (unhide HA) k _ (show m.ents[k]? = some m.ents[k] by simp [hlt2])
      have a0 := (hBB.cell (p := ⟨b, off + k * 2, none⟩) (block_lt_of_cell a0')).trans a0'
      have a1 := (hBB.cell (p := ⟨b, off + k * 2 + 1, none⟩) (block_lt_of_cell a1')).trans a1'
      have hrow := (hb.block w.heap.size (Array.getElem?_eq_some_iff.1 (unhide HWM)).1).trans (unhide HWM)
      have x4 : wr.cell? ⟨w.heap.size, 4, none⟩ = some (.int .i64 (i : Int)) := by
        rw [← unhide HI]
        exact cell_of_row wr w.heap.size 4 _ _ _ hrow
      have hN2 := (unhide HN).below hBB
      have hltR := hN2.lt
      have hneR : ¬ nb = wr.heap.size := by omega
      have hmbR2 : w.heap.size < wr.heap.size := by have h1 := hb.size; have h2 := (Array.getElem?_eq_some_iff.1 (unhide HWM)).1; omega
      have hmbR : ¬ w.heap.size = wr.heap.size := by omega
      have hmbR3 : ¬ wr.heap.size = w.heap.size := by omega
      have hbR2 : b < wr.heap.size := by have h1 := block_lt_of_cell a0; exact h1
      have hbR : ¬ b = wr.heap.size := by omega
      have i1 : (0 : Int) ≤ (k : Int) := by omega
      have i2 : (k : Int) < (m.ents.length : Int) := by omega
      have hA : (i : Int) + (k : Int) = ((i + k : Nat) : Int) := by omega
      have hNL2 := (unhide HL).below hBB
      -- the world behind the round's own variable
      have HBX := hide (hb.alloc hb.size (.cells #[.int .i64 m.ents[k].1, .string m.ents[k].2] 78))
      have HNX := hide (hN2.below (below_alloc wr (.cells #[.int .i64 m.ents[k].1, .string m.ents[k].2] 78)))
      have HLX := hide (hNL2.below (below_alloc wr (.cells #[.int .i64 m.ents[k].1, .string m.ents[k].2] 78)))
      have HEX := hide (heap_alloc_new wr (.cells #[.int .i64 m.ents[k].1, .string m.ents[k].2] 78))
      have HMX := hide (heap_under hrow (.cells #[.int .i64 m.ents[k].1, .string m.ents[k].2] 78))
      have HA2 := hide hA
      clear a0' a1' hA hrow hN2 hNL2 hBB
      by_cases hcut : s.log.length ≤ i + k ∨ Nd.termAt s.log (i + k + 1) ≠ m.ents[k].1
      · have HT : Hid (Nd.takes s.log i m.ents = s.log.take (i + k) ++ m.ents.drop k) := hkp.trans (takes_cut hlt2 hcut)
        have hAle : i + k ≤ s.log.length := hik
        generalize m.ents[k].1 = t at *
        generalize m.ents[k].2 = q at *
        by_cases hend : i + k = s.log.length
        · clear hcut hkp hb
          go_wp2
          rw [unhide HA2]
          generalize wr.alloc (.cells #[.int .i64 t, .string q] 78) = X at *
          have HFX := hide (unhide HLX).form
          have b1' : (((i + k : Nat) : Int) == (s.last : Int)) = true := by simp only [beq_iff_eq]; have : s.last = s.log.length := rfl; omega
          have HEND := hide hend
          clear hend
          generalize i + k = A at *
          have b1 := b1'
          go_quiet ((go_at_call 33; exact Calls.quiet_of_same (last_any mu nb s _ _ (NB.drewN (unhide HNX) _) (unhide HFX))))
          go_wp2
          have HNY : Hid (NB mu (X.drewN nq) nb s lv) := NB.drewN (unhide HNX) _
          have HLY : Hid (NL (X.drewN nq) s lv) := NL.drewN (unhide HLX) _
          have HBY : Hid (Below W.heap.size W (X.drewN nq)) := below_drewN (unhide HBX) _
          have y7 : (X.drewN nq).cell? ⟨w.heap.size, 7, none⟩ = some (.slice (some ⟨b, off, none⟩) m.ents.length ec) := cell_of_row (X.drewN nq) w.heap.size 7 _ _ _ (unhide HMX)
          have y6 := (unhide HNY).c6
          obtain ⟨pv, hsl, HPO, hpo⟩ := slice_head lv s.log.length A hAle (unhide HLY)
          have HPR := hide (hpo _ (unhide HLY))
          have HPW := hide hpo
          obtain ⟨tc, htl, hte⟩ := slice_tail b off m.ents.length ec k m.ents hlt2 hec rfl
          have HTE := hide (hte (X.drewN nq) (ents_below (ents_below (unhide HEI) (unhide HBW)) (unhide HBY)))
          replace HPO := hide HPO
          obtain ⟨fs, hfs⟩ : ∃ fs, m.ents.drop k = fs := ⟨_, rfl⟩
          have hfl : m.ents.length - k = fs.length := by rw [← hfs, List.length_drop]
          rw [hfl] at htl HTE
          rw [hfs] at HTE HT
          have HFZ : Hid (∀ e ∈ fs, e.2.size ≤ 20) := fun e he => (unhide HSZ) e (List.mem_of_mem_drop (hfs ▸ he))
          have hf60 : fs.length ≤ 60 := by omega
          have hf0 : 0 < fs.length := by omega
          have HFL := hide hfl
          clear hpo hte hfs hfl
          generalize X.drewN nq = Y at *
          obtain ⟨i0, hi, hz0, hz1, hz2⟩ := info_parts infoEntry
          go_region_law (first | (refine step_append_lies _ (by rfl) (.tmp 42) (.tmp 47) 31 (by rfl) 0 78 i0 _ 2 24 Try.underlying31 hi hz0 hz1 hz2 rfl (by decide) pv A (eC (s.log.take A)) (by rfl) (by exact unhide hp3) ⟨cb, 0, none⟩ fs.length cc (eC fs) (by rfl) (eC_length fs) (by exact unhide hc3) (eC_one fs) hf0 (by unfold maxLen; omega) (by omega) (Nat.zero_le _) w3.heap.size rfl ?_; intro gc cap2 w4 hown4 hgrow4 hat4 hlt4; have hN4 : NB mu w4 nb s lv := ((hgrow4.block nb (unhide hN3).lt (fun e => (unhide hL3).apart (unhide hN3) ((unhide HPO) ▸ e.symm))).trans (unhide hN3)); have k6 := hN4.c6; have q6 := hN4.free 6; clear hN4; replace hown4 := hide hown4; replace hgrow4 := hide hgrow4; replace hat4 := hide hat4; clear hlt4) | (go_simp; go_at_call 47; refine (copyEntries_any _ fs Y.drew hf60 (unhide HFZ) (by exact unhide HTE)).mono ?_; rintro e w3 ⟨cv, rfl, hr3, hb3⟩; obtain ⟨cb, cc, rfl, hc3⟩ := owned_some hr3 hf0; have hN3 := hide (NB.below (w := Y.drew) (unhide HNY) hb3); have z6 := (unhide hN3).c6; have hL3 := hide (NL.below (w := Y.drew) (unhide HLY) hb3); have hp3 : Hid (w3.ownsRow 0 78 2 pv A (eC (s.log.take A))) := (by have h1 := (unhide HPW) w3 (unhide hL3); rw [eC_take] at h1; exact h1); replace hc3 := hide hc3; have hB3 := hide ((unhide HBY).trans ((Below.undrew hb3).mono (unhide HBY).size)); clear hr3 hb3))
          all_goals
            have hlA : A + fs.length = (s.log.take A ++ fs).length := by rw [List.length_append, List.length_take, Nat.min_eq_left hAle]
            have HTK := hide (take_log (l := s.log.take A ++ fs) (unhide hN3) (unhide hL3) (unhide HPO) (unhide hgrow4) (by rw [eC_append]; exact unhide hown4) hlA (unhide hat4))
            clear hown4 hgrow4 hat4 k6 q6 hlA
            go_wp2
            have hfin := Took.ahead (below_trans2 (unhide HBW) (unhide hB3)) (unhide HTK)
            rw [← unhide HT] at hfin
            exact bodyPost_ret (v := .tuple #[]) (results_none rfl _ _ _) rfl ⟨rfl, hfin⟩
        · have hal : i + k < s.log.length := by omega
          have htt : (s.log[i + k].1 != t) = true := by
            rcases hcut with h1 | h1
            · omega
            · rw [termAt_get hal] at h1
              simpa using h1
          obtain ⟨lo, lc, hlv, _, hla⟩ := (unhide HLX).ents
          obtain ⟨lb, loff, rfl, l0, l1⟩ := hla (i + k) _ (show s.log[i + k]? = some s.log[i + k] by simp [hal])
          clear hcut hkp hb hla l1
          generalize s.log[i + k].1 = t2 at *
          go_wp2
          rw [unhide HA2]
          generalize wr.alloc (.cells #[.int .i64 t, .string q] 78) = X at *
          have HFX := hide (unhide HLX).form
          have b1' : (((i + k : Nat) : Int) == (s.last : Int)) = false := by simp only [beq_eq_false_iff_ne, ne_eq]; have : s.last = s.log.length := rfl; omega
          have e0 : X.cell? ⟨wr.heap.size, 0, none⟩ = some (.int .i64 t) := cell_of_row X wr.heap.size 0 _ _ _ (unhide HEX)
          have c6 := (unhide HNX).c6
          rw [hlv] at c6
          clear hend hlv
          generalize i + k = A at *
          have b1 := b1'
          have j1 : (0 : Int) ≤ (A : Int) := by omega
          have j2 : (A : Int) < (s.log.length : Int) := by omega
          go_quiet ((go_at_call 33; exact Calls.quiet_of_same (last_any mu nb s _ _ (NB.drewN (unhide HNX) _) (unhide HFX))))
          go_wp2
          clear c6 l0 e0 j1 j2
          have HNY : Hid (NB mu (X.drewN nq) nb s lv) := NB.drewN (unhide HNX) _
          have HLY : Hid (NL (X.drewN nq) s lv) := NL.drewN (unhide HLX) _
          have HBY : Hid (Below W.heap.size W (X.drewN nq)) := below_drewN (unhide HBX) _
          have y7 : (X.drewN nq).cell? ⟨w.heap.size, 7, none⟩ = some (.slice (some ⟨b, off, none⟩) m.ents.length ec) := cell_of_row (X.drewN nq) w.heap.size 7 _ _ _ (unhide HMX)
          have y6 := (unhide HNY).c6
          obtain ⟨pv, hsl, HPO, hpo⟩ := slice_head lv s.log.length A hAle (unhide HLY)
          have HPR := hide (hpo _ (unhide HLY))
          have HPW := hide hpo
          obtain ⟨tc, htl, hte⟩ := slice_tail b off m.ents.length ec k m.ents hlt2 hec rfl
          have HTE := hide (hte (X.drewN nq) (ents_below (ents_below (unhide HEI) (unhide HBW)) (unhide HBY)))
          replace HPO := hide HPO
          obtain ⟨fs, hfs⟩ : ∃ fs, m.ents.drop k = fs := ⟨_, rfl⟩
          have hfl : m.ents.length - k = fs.length := by rw [← hfs, List.length_drop]
          rw [hfl] at htl HTE
          rw [hfs] at HTE HT
          have HFZ : Hid (∀ e ∈ fs, e.2.size ≤ 20) := fun e he => (unhide HSZ) e (List.mem_of_mem_drop (hfs ▸ he))
          have hf60 : fs.length ≤ 60 := by omega
          have hf0 : 0 < fs.length := by omega
          have HFL := hide hfl
          clear hpo hte hfs hfl
          generalize X.drewN nq = Y at *
          obtain ⟨i0, hi, hz0, hz1, hz2⟩ := info_parts infoEntry
          go_region_law (first | (refine step_append_lies _ (by rfl) (.tmp 42) (.tmp 47) 31 (by rfl) 0 78 i0 _ 2 24 Try.underlying31 hi hz0 hz1 hz2 rfl (by decide) pv A (eC (s.log.take A)) (by rfl) (by exact unhide hp3) ⟨cb, 0, none⟩ fs.length cc (eC fs) (by rfl) (eC_length fs) (by exact unhide hc3) (eC_one fs) hf0 (by unfold maxLen; omega) (by omega) (Nat.zero_le _) w3.heap.size rfl ?_; intro gc cap2 w4 hown4 hgrow4 hat4 hlt4; have hN4 : NB mu w4 nb s lv := ((hgrow4.block nb (unhide hN3).lt (fun e => (unhide hL3).apart (unhide hN3) ((unhide HPO) ▸ e.symm))).trans (unhide hN3)); have k6 := hN4.c6; have q6 := hN4.free 6; clear hN4; replace hown4 := hide hown4; replace hgrow4 := hide hgrow4; replace hat4 := hide hat4; clear hlt4) | (go_simp; go_at_call 47; refine (copyEntries_any _ fs Y.drew hf60 (unhide HFZ) (by exact unhide HTE)).mono ?_; rintro e w3 ⟨cv, rfl, hr3, hb3⟩; obtain ⟨cb, cc, rfl, hc3⟩ := owned_some hr3 hf0; have hN3 := hide (NB.below (w := Y.drew) (unhide HNY) hb3); have z6 := (unhide hN3).c6; have hL3 := hide (NL.below (w := Y.drew) (unhide HLY) hb3); have hp3 : Hid (w3.ownsRow 0 78 2 pv A (eC (s.log.take A))) := (by have h1 := (unhide HPW) w3 (unhide hL3); rw [eC_take] at h1; exact h1); replace hc3 := hide hc3; have hB3 := hide ((unhide HBY).trans ((Below.undrew hb3).mono (unhide HBY).size)); clear hr3 hb3))
          all_goals
            have hlA : A + fs.length = (s.log.take A ++ fs).length := by rw [List.length_append, List.length_take, Nat.min_eq_left hAle]
            have HTK := hide (take_log (l := s.log.take A ++ fs) (unhide hN3) (unhide hL3) (unhide HPO) (unhide hgrow4) (by rw [eC_append]; exact unhide hown4) hlA (unhide hat4))
            clear hown4 hgrow4 hat4 k6 q6 hlA
            go_wp2
            have hfin := Took.ahead (below_trans2 (unhide HBW) (unhide hB3)) (unhide HTK)
            rw [← unhide HT] at hfin
            exact bodyPost_ret (v := .tuple #[]) (results_none rfl _ _ _) rfl ⟨rfl, hfin⟩
      · have HT : Hid (Nd.takes s.log i m.ents = Nd.takes s.log (i + (k + 1)) (m.ents.drop (k + 1))) := hkp.trans (takes_on hlt2 hcut)
        have hal : i + k < s.log.length := by omega
        have htt : s.log[i + k].1 = m.ents[k].1 := by
          have h1 : ¬ Nd.termAt s.log (i + k + 1) ≠ m.ents[k].1 := fun hx => hcut (.inr hx)
          rw [termAt_get hal] at h1
          exact Classical.not_not.1 h1
        obtain ⟨lo, lc, hlv, _, hla⟩ := (unhide HLX).ents
        obtain ⟨lb, loff, rfl, l0, l1⟩ := hla (i + k) _ (show s.log[i + k]? = some s.log[i + k] by simp [hal])
        subst hlv
        rw [htt] at l0
        clear hkp hcut hla l1 hb htt
        generalize m.ents[k].1 = t at *
        generalize m.ents[k].2 = q at *
        go_wp2
        rw [unhide HA2]
        generalize wr.alloc (.cells #[.int .i64 t, .string q] 78) = X at *
        have HFX := hide (unhide HLX).form
        have e0 : X.cell? ⟨wr.heap.size, 0, none⟩ = some (.int .i64 t) := cell_of_row X wr.heap.size 0 _ _ _ (unhide HEX)
        have c6 := (unhide HNX).c6
        have hAl : ¬ i + k = s.last := by have : s.last = s.log.length := rfl; omega
        have HNXT : Hid (i + (k + 1) ≤ s.last) := by show i + (k + 1) ≤ s.log.length; omega
        have HKN : Hid (i + k = i + k) := rfl
        generalize i + k = A at *
        have b1 : ((A : Int) == (s.last : Int)) = false := by simp; omega
        have b2 : (t != t) = false := by simp
        have j1 : (0 : Int) ≤ (A : Int) := by omega
        have j2 : (A : Int) < (s.log.length : Int) := by omega
        go_quiet ((go_at_call 33; exact Calls.quiet_of_same (last_any mu nb s _ _ (NB.drewN (unhide HNX) _) (unhide HFX))))
        go_wp2
        go_roundw
        case rel => exact ⟨k + 1, by omega, by go_num, unhide HT, unhide HNXT, below_drewN (unhide HBX) _⟩
        case measure => simp [intOf]; omega
    · have hkn : k = m.ents.length := by omega
      subst hkn
      have HK2 : Hid (Nd.takes s.log i m.ents = s.log) := by show _ = _; rw [hkp, List.drop_length]; rfl
      have HB2 := hide (below_trans (unhide HBW) hb)
      clear hkp hb
      go_wp2
      go_end0
      rw [unhide HK2]
      exact ⟨rfl, lv, (unhide HN).below (unhide HB2), (unhide HL).below (unhide HB2), Ev.ofEw (Ew.ofBelow (unhide HB2))⟩

end Go.Proofs.Yteiecbkfganhnaa
