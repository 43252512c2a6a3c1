/- A game's step: Propose, Patience; A game's step: Patience, and kinds that do nothing; A script in memory: its steps, their messages; The program's node: take. -/
import Derived.Test.YteiecbkfganhnaaGreatKGStep
import Derived.Test.YteiecbkfganhnaaGreatRefPr
import Derived.Test.YteiecbkfganhnaaGreatKGl

namespace Go.Proofs.YteiecbkfganhnaaGreat

open Go.RowKit Go.MuLone

theorem loc_n (i : Nat) : ¬ (((0, 1) : Nat × Nat) = tN i ∨ ((0, 1) : Nat × Nat) = tNL i) := by
  rintro (h | h)
  · have h2 : (0 : Nat) = 1000 + 10 * i := congrArg Prod.fst h; omega
  · have h2 : (0 : Nat) = 1000 + 10 * i := congrArg Prod.fst h; omega

theorem Pair.propose {id n : Nat} {s t : Nd} (h : Pair id n s t) (c : ByteArray) : Pair id n (s.propose c).2.1 (t.propose c).2.1 :=
  ⟨(twin_propose h.tw c).2.1, h.ok.propose c, h.okt.propose c, by rw [(propose_same s c).1]; exact h.eid, by rw [(propose_same s c).2]; exact h.en⟩

section

variable (i gb nb rb : Nat) (w : World) (tg : Tags) (id n : Nat) (s t : Nd) (lv : Value) (v : RV) (b : BV) (l : List (List Ent)) (lm : List (List Msg)) (l2 : List (List ByteArray)) (ne nm nt K : Nat)

set_option maxRecDepth 100000 in
set_option maxHeartbeats 2000000 in
theorem gstep_prop (a q x : Int) (m : Msg) (ev : Value) (c : ByteArray) (E : Int) (h : Gx i gb nb rb w tg id n s t lv v b l lm l2 ne nm nt) (hi : i ≤ 1) (hp : Pair id n s t) (hb : (l.length ≤ 7 ∧ lm.length ≤ 7 ∧ l2.length ≤ 7) ∧ ne ≤ K ∧ nm ≤ K ∧ nt ≤ K) (hE : s.elapsed ≤ E) (hev : ∃ ao n c, ev = .slice ao n c) :
    Calls Tryz.prog 18 #[.pointer (some ⟨gb, 0, none⟩), stepA 5 a q m ev c x] w fun e w' => e = .returned (.bool true) ∧ GDone i gb w tg id n K E w' := by
  obtain ⟨eo, en, ec, rfl⟩ := hev
  have S1 : Stp (fun _ => False) w tg (w.alloc (stepB 5 a q m (.slice eo en ec) c x)) (newTag w.heap.size tg (0, 1)) := Stp.alloc w tg _ _
  have L1 : Loc (w.alloc (stepB 5 a q m (.slice eo en ec) c x)) (newTag w.heap.size tg (0, 1)) w.heap.size _ _ := Loc.new _ _ _ _
  have G1 := h.quiet S1
  have c2 := G1.c2
  have s12 : (w.alloc (stepB 5 a q m (.slice eo en ec) c x)).cell? ⟨w.heap.size, 12, none⟩ = some (.string c) := L1.cell 12
  have S1d := hide (S1.trans (Stp.drew1 _ _ _))
  have G1d := hide (G1.quiet (Stp.drew1 _ _ _))
  have L1d := hide (L1.step (Stp.drew1 (fun _ => False) _ _) (fun h => h))
  have HP := hide hp
  have HB := hide hb
  clear h hp hb S1 G1 L1
  generalize newTag w.heap.size tg (0, 1) = tg1 at *
  go_enter Tryz.func18, Tryz.ntmps18
  go_upto_region 23 with fail
  generalize w.alloc (stepB 5 a q m (.slice eo en ec) c x) = W1 at *
  generalize w.heap.size = sb at *
  go_region_held3 (fun w' => w'.cell? ⟨gb, 2, none⟩ = some (.pointer (some ⟨nb, 0, none⟩)) ∧ w'.cell? ⟨sb, 12, none⟩ = some (.string c)) (first | go_keep | exact ⟨y2, y1⟩) (first | (go_at_call 33; refine (propose_any nb s lv c W1.drew (unhide G1d).N (unhide G1d).L (unhide HP).ok).mono ?_; rintro e w2 ⟨mv, ml, lv2, rfl, hN2, hL2, hM2, hE2, hA2⟩; have hf2 := hM2.fst; obtain ⟨G2, M2, S2⟩ := (unhide G1d).code (q := lm.length) hi hN2 hL2 hM2 hE2 hA2; have L2 := (unhide L1d).step S2 (loc_n i); have y2 := G2.c2; have y3 := G2.c3; have y1 : w2.cell? ⟨sb, 12, none⟩ = some (.string c) := L2.cell 12; replace G2 := hide G2; replace L2 := hide L2; replace M2 := hide M2; replace S2 := hide S2; replace hf2 := hide hf2; clear hN2 hL2 hM2 hE2 hA2))
  generalize cTag i lm.length W1.drew.heap.size lv2 mv ml tg1 = tg2 at *
  have G2d := hide ((unhide G2).quiet (Stp.drew1 _ _ _))
  have M2d := hide ((unhide M2).step (Stp.drew1 (fun _ => False) _ _) (fun h => h) (fun _ _ h => h))
  have L2d := hide ((unhide L2).step (Stp.drew1 (fun _ => False) _ _) (fun h => h))
  have S2d := hide (((unhide S1d).mono (B := Agame i) (fun _ h => h.elim)).trans (((unhide S2).mono agame_n).trans (Stp.drew1 _ _ _)))
  clear G2 L2 M2 S2 G1d L1d S1d c2 s12 y2
  go_upto_region 24 with fail
  go_region_held3 (fun w' => w'.cell? ⟨gb, 3, none⟩ = some (.pointer (some ⟨rb, 0, none⟩)) ∧ w'.cell? ⟨sb, 12, none⟩ = some (.string c)) (first | go_keep | exact ⟨z3, z1⟩) (first | (go_at_call 34; refine (refPropose_any rb t v c w2.drew (unhide G2d).R (unhide HP).okt).mono ?_; intro e w3 h3; rw [RProp, (twin_propose (unhide HP).tw c).1, (twin_propose (unhide HP).tw c).2.2] at h3; obtain ⟨rl, u, v3, rfl, hrl, hR3, hu3, hus3, hE3⟩ := h3; obtain ⟨G3, S3⟩ := (unhide G2d).refs hi hR3 hE3; have M3 := hide ((unhide M2d).step S3 (by simp; omega) (fun j _ => by simp; omega)); have L3 := (unhide L2d).step S3 (by simp); have R3 := hide (RAns.reads hu3 hus3); have hrl' : rl.map Prod.fst = ml.map Prod.fst := (by rw [hrl, unhide hf2]); have z3 := G3.c3; have z1 : w3.cell? ⟨sb, 12, none⟩ = some (.string c) := L3.cell 12; replace hrl' := hide hrl'; replace G3 := hide G3; replace S3 := hide ((unhide S2d).trans (S3.mono agame_r)); clear hrl hR3 hu3 hus3 hE3 L3))
  clear G2d M2d L2d S2d z3 z1 y1 y3
  generalize newTag w2.drew.heap.size tg2 (tR i) = tg3 at *
  have hml : ml.length ≤ 7 := by
    have h1 := congrArg List.length (unhide hf2)
    rw [List.length_map] at h1
    have h2 := propose_few s c
    have h3 := (unhide HP).ok.n7
    omega
  have HTH : Hid (Thin (ml.map Prod.fst)) := by show Thin _; rw [unhide hf2]; exact thin_propose s c
  go_wp2_with (go_at_call 30; fail)
  refine (gsent_any i gb nb rb w3 tg3 id n _ _ lv2 v3 b l lm l2 ne nm nt mv u ml rl (unhide G3) hi (unhide M3) (unhide R3) (unhide hrl') hml (unhide HTH) (by have := (unhide HB).1.2.1; omega)).mono ?_
  rintro e w4 ⟨rfl, b4, tg4, hG4, hS4⟩
  have S4 := hide ((unhide S3).trans (hS4.mono agame_b))
  have G4 := hide hG4
  clear hG4 hS4
  go_wp2_with (go_at_call 13; refine (num_any _ _).mono ?_; rintro e w5 ⟨rfl, rfl⟩)
  go_ret
  have hB := unhide HB
  refine ⟨by simp, tg4, _, _, ⟨nb, rb, lv2, v3, b4, l, _, l2, ne, nm, nt, unhide G4, ⟨by omega, by simp; omega, by omega⟩, hB.2⟩, (unhide HP).propose c, ?_, unhide S4⟩
  have := propose_el s c
  omega

theorem Pair.setPat {id n : Nat} {s t : Nd} (h : Pair id n s t) (p : Int) (h1 : 1 ≤ p) (h2 : p ≤ 40) : Pair id n { s with pat := p } { t with pat := p } :=
  ⟨h.tw.setPat p, h.ok.setPat' p h1 h2, h.okt.setPat' p h1 h2, h.eid, h.en⟩

end

end Go.Proofs.YteiecbkfganhnaaGreat

namespace Go.Proofs.YteiecbkfganhnaaGreat

open Go.RowKit Go.MuLone

def Nd.patS (s : Nd) (t : Int) : Nd := if 1 ≤ t ∧ t ≤ 40 then { s with pat := t } else s

theorem Pair.patS {id n : Nat} {s t : Nd} (h : Pair id n s t) (p : Int) : Pair id n (s.patS p) (t.patS p) := by
  unfold Nd.patS
  split
  · rename_i hp
    exact h.setPat p hp.1 hp.2
  · exact h

theorem patS_log (s : Nd) (p : Int) : (s.patS p).log = s.log := by unfold Nd.patS; split <;> rfl

theorem patS_el (s : Nd) (p : Int) : (s.patS p).elapsed = s.elapsed := by unfold Nd.patS; split <;> rfl

theorem patN_any (i nb : Nat) (s : Nd) (lv : Value) (t : Int) (w : World) (tg : Tags) (h : NB 0 w nb s lv) (ht : tg nb = tN i) :
    Calls Tryz.prog 26 #[.pointer (some ⟨nb, 0, none⟩), .int .i64 t] w fun e w' => e = .returned (.int .i64 (codeP t)) ∧ NB 0 w' nb (s.patS t) lv ∧ Stp (fun U => U = tN i) w tg w' tg := by
  by_cases hk : 1 ≤ t ∧ t ≤ 40
  · refine (patience_ok nb s lv t w h hk.1 hk.2).mono ?_
    rintro e w' ⟨rfl, rfl⟩
    refine ⟨by rw [codeP, if_pos hk], ?_, ((Stp.setCell (a := ⟨nb, 0, none⟩) ht _).trans (Stp.setCell (a := ⟨nb, 11, none⟩) ht _)).trans (Stp.setCell (a := ⟨nb, 0, none⟩) ht _)⟩
    rw [Nd.patS, if_pos hk]
    exact ((h.setMu 1).setPat t).setMu 0
  · refine (patience_no nb t w (by omega)).mono ?_
    rintro e w' ⟨rfl, rfl⟩
    exact ⟨by rw [codeP, if_neg hk], by rw [Nd.patS, if_neg hk]; exact h, Stp.refl _ _ _⟩

theorem patR_any (rb : Nat) (s : Nd) (v : RV) (t : Int) (w : World) (h : RB w rb s v []) :
    Calls Tryz.prog 27 #[.pointer (some ⟨rb, 0, none⟩), .int .i64 t] w fun e w' => e = .returned (.int .i64 (codeP t)) ∧ RB w' rb (s.patS t) v [] ∧ Er rb v v w w' := by
  by_cases hk : 1 ≤ t ∧ t ≤ 40
  · refine (refPatience_ok rb (rnOf s v) t w h.rn hk.1 hk.2).mono ?_
    rintro e w' ⟨rfl, rfl⟩
    refine ⟨by rw [codeP, if_pos hk], ?_, (Er.refl rb v w).set (.inl (v.self rb)) 9 _⟩
    rw [Nd.patS, if_pos hk]
    exact h.putPat t
  · refine (refPatience_no rb t w (by omega)).mono ?_
    rintro e w' ⟨rfl, rfl⟩
    exact ⟨by rw [codeP, if_neg hk], by rw [Nd.patS, if_neg hk]; exact h, Er.refl _ _ _⟩

section

variable (i gb nb rb : Nat) (w : World) (tg : Tags) (id n : Nat) (s t : Nd) (lv : Value) (v : RV) (b : BV) (l : List (List Ent)) (lm : List (List Msg)) (l2 : List (List ByteArray)) (ne nm nt K : Nat)

set_option maxRecDepth 100000 in
set_option maxHeartbeats 2000000 in
theorem gstep_pat (a q x : Int) (m : Msg) (ev : Value) (c : ByteArray) (E : Int) (h : Gx i gb nb rb w tg id n s t lv v b l lm l2 ne nm nt) (hi : i ≤ 1) (hp : Pair id n s t) (hb : (l.length ≤ 7 ∧ lm.length ≤ 7 ∧ l2.length ≤ 7) ∧ ne ≤ K ∧ nm ≤ K ∧ nt ≤ K) (hE : s.elapsed ≤ E) (hev : ∃ ao n c, ev = .slice ao n c) :
    Calls Tryz.prog 18 #[.pointer (some ⟨gb, 0, none⟩), stepA 2 a q m ev c x] w fun e w' => e = .returned (.bool true) ∧ GDone i gb w tg id n K E w' := by
  obtain ⟨eo, en, ec, rfl⟩ := hev
  have S1 : Stp (fun _ => False) w tg (w.alloc (stepB 2 a q m (.slice eo en ec) c x)) (newTag w.heap.size tg (0, 1)) := Stp.alloc w tg _ _
  have L1 : Loc (w.alloc (stepB 2 a q m (.slice eo en ec) c x)) (newTag w.heap.size tg (0, 1)) w.heap.size _ _ := Loc.new _ _ _ _
  have G1 := h.quiet S1
  have c2 := G1.c2
  have s1 : (w.alloc (stepB 2 a q m (.slice eo en ec) c x)).cell? ⟨w.heap.size, 1, none⟩ = some (.int .i64 a) := L1.cell 1
  have S1d := hide (S1.trans (Stp.drew1 _ _ _))
  have G1d := hide (G1.quiet (Stp.drew1 _ _ _))
  have L1d := hide (L1.step (Stp.drew1 (fun _ => False) _ _) (fun h => h))
  have HP := hide hp
  have HB := hide hb
  clear h hp hb S1 G1 L1
  generalize newTag w.heap.size tg (0, 1) = tg1 at *
  go_enter Tryz.func18, Tryz.ntmps18
  go_upto_region 5 with fail
  generalize w.alloc (stepB 2 a q m (.slice eo en ec) c x) = W1 at *
  generalize w.heap.size = sb at *
  go_region_held3 (fun w' => w'.cell? ⟨gb, 2, none⟩ = some (.pointer (some ⟨nb, 0, none⟩)) ∧ w'.cell? ⟨sb, 1, none⟩ = some (.int .i64 a)) (first | go_keep | exact ⟨y2, y1⟩) (first | (go_at_call 26; refine (patN_any i nb s lv a W1.drew tg1 (unhide G1d).N (unhide G1d).tn).mono ?_; rintro e w2 ⟨rfl, hN2, hS2⟩; have G2 := (unhide G1d).node hi hN2 (patS_log s a) hS2; have L2 := (unhide L1d).step hS2 (by simp); have y2 := G2.c2; have y3 := G2.c3; have y1 : w2.cell? ⟨sb, 1, none⟩ = some (.int .i64 a) := L2.cell 1; replace G2 := hide G2; replace L2 := hide L2; replace hS2 := hide hS2; clear hN2))
  have G2d := hide ((unhide G2).quiet (Stp.drew1 _ _ _))
  have L2d := hide ((unhide L2).step (Stp.drew1 (fun _ => False) _ _) (fun h => h))
  have S2d := hide (((unhide S1d).mono (B := Agame i) (fun _ h => h.elim)).trans (((unhide hS2).mono (B := Agame i) (fun U h => agame_n U (.inl h))).trans (Stp.drew1 _ _ _)))
  clear G2 L2 hS2 G1d L1d S1d c2 s1 y2
  go_upto_region 6 with fail
  go_region_held3 (fun w' => w'.cell? ⟨gb, 3, none⟩ = some (.pointer (some ⟨rb, 0, none⟩)) ∧ w'.cell? ⟨sb, 1, none⟩ = some (.int .i64 a)) (first | go_keep | exact ⟨z3, z1⟩) (first | (go_at_call 27; refine (patR_any rb t v a w2.drew (unhide G2d).R).mono ?_; rintro e w3 ⟨rfl, hR3, hE3⟩; obtain ⟨G3, S3⟩ := (unhide G2d).refs hi hR3 hE3; have L3 := (unhide L2d).step S3 (by simp); have z3 := G3.c3; have z1 : w3.cell? ⟨sb, 1, none⟩ = some (.int .i64 a) := L3.cell 1; replace G3 := hide G3; replace S3 := hide S3; clear hR3 hE3 L3))
  have S4 := hide ((unhide S2d).trans ((unhide S3).mono agame_r))
  clear S2d S3 G2d L2d z3 z1 y1 y3
  go_wp2_with (go_at_call 13; refine (num_any _ _).mono ?_; rintro e w4 ⟨rfl, rfl⟩)
  go_ret
  have hB := unhide HB
  exact ⟨by simp, _, _, _, ⟨nb, rb, lv, v, b, l, lm, l2, ne, nm, nt, unhide G3, ⟨by omega, by omega, by omega⟩, hB.2⟩, (unhide HP).patS a, by rw [patS_el]; omega, unhide S4⟩

set_option maxRecDepth 100000 in
set_option maxHeartbeats 2000000 in
theorem gstep_none (k a q x : Int) (m : Msg) (ev : Value) (c : ByteArray) (E : Int) (hk : k < 1 ∨ 6 < k) (h : Gx i gb nb rb w tg id n s t lv v b l lm l2 ne nm nt) (hp : Pair id n s t) (hb : (l.length ≤ 7 ∧ lm.length ≤ 7 ∧ l2.length ≤ 7) ∧ ne ≤ K ∧ nm ≤ K ∧ nt ≤ K) (hE : s.elapsed ≤ E) (hev : ∃ ao n c, ev = .slice ao n c) :
    Calls Tryz.prog 18 #[.pointer (some ⟨gb, 0, none⟩), stepA k a q m ev c x] w fun e w' => e = .returned (.bool true) ∧ GDone i gb w tg id n K E w' := by
  obtain ⟨eo, en, ec, rfl⟩ := hev
  have S1 : Stp (fun _ => False) w tg (w.alloc (stepB k a q m (.slice eo en ec) c x)) (newTag w.heap.size tg (0, 1)) := Stp.alloc w tg _ _
  have G1 := hide (h.quiet S1)
  replace S1 := hide S1
  have HP := hide hp
  have HB := hide hb
  have d1 : (k == 1) = false := by simp; omega
  have d2 : (k == 2) = false := by simp; omega
  have d3 : (k == 3) = false := by simp; omega
  have d4 : (k == 4) = false := by simp; omega
  have d5 : (k == 5) = false := by simp; omega
  have d6 : (k == 6) = false := by simp; omega
  clear h hp hb hk
  go_enter Tryz.func18, Tryz.ntmps18
  go_wp2
  go_ret
  have hB := unhide HB
  exact ⟨rfl, _, _, _, ⟨nb, rb, lv, v, b, l, lm, l2, ne, nm, nt, unhide G1, ⟨by omega, by omega, by omega⟩, hB.2⟩, unhide HP, by omega, (unhide S1).mono (fun _ h => h.elim)⟩

end

end Go.Proofs.YteiecbkfganhnaaGreat

namespace Go.Proofs.YteiecbkfganhnaaGreat

open Go.RowKit Go.MuLone

/-- One step of a script. -/
structure Stn where
  kind : Int
  a : Int
  q : Int
  m : Msg
  ev : Value
  c : ByteArray
  x : Int

/-- A step's cells. -/
def Stn.cs (t : Stn) : Array Value := stepC t.kind t.a t.q t.m t.ev t.c t.x

/-- A step's message: its entries lie where no game writes. -/
def StnOk (w : World) (tg : Tags) (t : Stn) : Prop :=
  ∃ eo ec, t.ev = .slice eo t.m.ents.length ec ∧ t.m.ents.length ≤ ec ∧ EntsIn w t.ev t.m.ents ∧ t.m.ents.length ≤ 1048576 ∧ ∀ a, eo = some a → t.m.ents ≠ [] → tg a.block = (0, 0)

/-- A script. -/
def ScrIn (w : World) (tg : Tags) (v : Value) (l : List Stn) : Prop :=
  ∃ ao cap, v = .slice ao l.length cap ∧ ∀ k t, l[k]? = some t → StnOk w tg t ∧ ∃ b off, ao = some ⟨b, off, none⟩ ∧ tg b = (0, 0) ∧ ∀ j u, t.cs[j]? = some u → w.cell? ⟨b, off + k * 14 + j, none⟩ = some u

section

variable {A : Nat × Nat → Prop} {w w' : World} {tg tg' : Tags}

theorem StnOk.step {t : Stn} (h : StnOk w tg t) (hs : Stp A w tg w' tg') (h0 : ¬ A (0, 0)) : StnOk w' tg' t := by
  obtain ⟨eo, ec, h1, h2, h3, h4, h5⟩ := h
  have hkeep : ∀ a, eo = some a → t.m.ents ≠ [] → a.block < w.heap.size → w'.heap[a.block]? = w.heap[a.block]? ∧ tg' a.block = tg a.block := fun a ha hne hl => hs.keep a.block hl (by rw [h5 a ha hne]; exact h0)
  obtain ⟨ao, cap, hv, hc, hcell⟩ := h3
  have hao : ao = eo := by rw [h1] at hv; simp at hv; exact hv.1.symm
  subst hao
  have hlt : ∀ a, ao = some a → t.m.ents ≠ [] → a.block < w.heap.size := fun a ha hne => by
    obtain ⟨e, es, hes⟩ := List.exists_cons_of_ne_nil hne
    obtain ⟨b, off, hb, h0', _⟩ := hcell 0 e (by rw [hes]; rfl)
    rw [ha] at hb
    simp at hb
    subst hb
    exact block_lt_of_cell h0'
  refine ⟨ao, ec, h1, h2, ⟨ao, cap, hv, hc, fun k x hk => ?_⟩, h4, fun a ha hne => ?_⟩
  · have hne : t.m.ents ≠ [] := fun e => by rw [e] at hk; simp at hk
    obtain ⟨b, off, hb, a1, a2⟩ := hcell k x hk
    have hkb : w'.heap[b]? = w.heap[b]? := (hkeep _ hb hne (show b < w.heap.size from block_lt_of_cell a1)).1
    exact ⟨b, off, hb, (World.cell?_of_block (a := ⟨b, _, none⟩) hkb).trans a1, (World.cell?_of_block (a := ⟨b, _, none⟩) hkb).trans a2⟩
  · exact (hkeep a ha hne (hlt a ha hne)).2.trans (h5 a ha hne)

theorem Stn.cs_size (t : Stn) : t.cs.size = 14 := rfl

theorem ScrIn.step {v : Value} {l : List Stn} (h : ScrIn w tg v l) (hs : Stp A w tg w' tg') (h0 : ¬ A (0, 0)) : ScrIn w' tg' v l := by
  obtain ⟨ao, cap, rfl, hk⟩ := h
  refine ⟨ao, cap, rfl, fun k t ht => ?_⟩
  obtain ⟨h1, b, off, hb, htg, hc⟩ := hk k t ht
  have hl : b < w.heap.size := block_lt_of_cell (hc 0 (.int .i64 t.kind) rfl)
  have hkb := hs.keep b hl (by rw [htg]; exact h0)
  exact ⟨h1.step hs h0, b, off, hb, hkb.2.trans htg, fun j u hj => (World.cell?_of_block (a := ⟨b, _, none⟩) hkb.1).trans (hc j u hj)⟩

end

theorem StnOk.slice {w : World} {tg : Tags} {t : Stn} (h : StnOk w tg t) : ∃ ao n c, t.ev = .slice ao n c := by
  obtain ⟨eo, ec, h1, _⟩ := h
  exact ⟨_, _, _, h1⟩

end Go.Proofs.YteiecbkfganhnaaGreat

namespace Go.Proofs.YteiecbkfganhnaaGreat

open Go.RowKit Go.MuLone

theorem takes_cut {l : List Ent} {i k : Nat} {es : List Ent} (hk : k < es.length) (h : l.length ≤ i + k ∨ Nd.termAt l (i + k + 1) ≠ es[k].1) : Nd.takes l (i + k) (es.drop k) = l.take (i + k) ++ es.drop k := by
  rw [List.drop_eq_getElem_cons hk]
  simp only [Nd.takes]
  rw [if_pos h]

theorem takes_on {l : List Ent} {i k : Nat} {es : List Ent} (hk : k < es.length) (h : ¬ (l.length ≤ i + k ∨ Nd.termAt l (i + k + 1) ≠ es[k].1)) : Nd.takes l (i + k) (es.drop k) = Nd.takes l (i + (k + 1)) (es.drop (k + 1)) := by
  rw [List.drop_eq_getElem_cons hk]
  simp only [Nd.takes]
  rw [if_neg h]
  rfl

/-- The head of a log, as a slice of it. -/
theorem slice_head (v : Value) (n a : Nat) (h1 : a ≤ n) {w : World} {xs : List Value} (ho : w.ownsRow 0 66 2 v n xs) : ∃ pv, (∀ w, (Instr.slice 22 v none (some (.int .i64 (a : Int))) none).run Tryz.prog w = .ok pv w) ∧
    pv.ownBlock = v.ownBlock ∧ ∀ w : World, w.ownsRow 0 66 2 v n xs → w.ownsRow 0 66 2 pv a (xs.take (a * 2)) := by
  rcases ho.2 with ⟨rfl, rfl⟩ | ⟨g, cap, cur, rfl, _, _, hnc, _⟩
  · have ha : a = 0 := by omega
    subst ha
    refine ⟨.slice none 0 0, fun w => by go_simp, rfl, fun w _ => ?_⟩
    simpa using World.ownsRow_nil w 0 66 2
  · have i1 : (0 : Int) ≤ (a : Int) := by omega
    have i3 : (a : Int) ≤ (cap : Int) := by omega
    refine ⟨.slice (some ⟨g, 0, none⟩) a cap, fun w => by go_simp, rfl, fun w hw => ?_⟩
    refine owns_prefix (m := n) (ys := xs.drop (a * 2)) (by rw [List.take_append_drop]; exact hw) ?_ h1
    rw [List.length_take, hw.1]
    omega

/-- The tail of the entries that were handed in. -/
theorem slice_tail (b off n cap k : Nat) (es : List Ent) (h1 : k < n) (h2 : n ≤ cap) (hl : es.length = n) : ∃ c, (∀ w, (Instr.slice 22 (.slice (some ⟨b, off, none⟩) n cap) (some (.int .i64 (k : Int))) none none).run Tryz.prog w = .ok (.slice (some ⟨b, off + k * 2, none⟩) (n - k) c) w) ∧
    ∀ W, EntsIn W (.slice (some ⟨b, off, none⟩) n cap) es → EntsIn W (.slice (some ⟨b, off + k * 2, none⟩) (n - k) c) (es.drop k) := by
  have i1 : (0 : Int) ≤ (k : Int) := by omega
  have i2 : (k : Int) ≤ (n : Int) := by omega
  have hne : ¬ cap = k := by omega
  refine ⟨cap - k, fun w => by go_simp, fun W hW => ?_⟩
  obtain ⟨ao, cap', hv, _, he⟩ := hW
  refine ⟨some ⟨b, off + k * 2, none⟩, cap - k, by rw [List.length_drop, hl], fun hx => by simp at hx, fun j e hj => ⟨b, off + k * 2, rfl, ?_⟩⟩
  rw [List.getElem?_drop] at hj
  obtain ⟨b', off', ha, h3, h4⟩ := he (k + j) e hj
  simp only [Value.slice.injEq] at hv
  obtain ⟨rfl, _, _⟩ := hv
  simp only [Option.some.injEq, Addr.mk.injEq, and_true] at ha
  obtain ⟨rfl, rfl⟩ := ha
  rw [Nat.add_mul, ← Nat.add_assoc] at h3 h4
  exact ⟨h3, h4⟩

theorem eC_take (es : List Ent) (a : Nat) : (eC es).take (a * 2) = eC (es.take a) := by
  induction es generalizing a with
  | nil => simp [eC]
  | cons e es ih =>
    cases a with
    | zero => rfl
    | succ a =>
      rw [show (a + 1) * 2 = a * 2 + 1 + 1 by omega, eC_cons, List.take_succ_cons, List.take_succ_cons, List.take_succ_cons, eC_cons, ih a]

theorem owned_some {w : World} {base e : Nat} {v : Value} {es : List Ent} (h : w.ownsRow base e 2 v es.length (eC es)) (hn : 0 < es.length) : ∃ g cap, v = .slice (some ⟨g, 0, none⟩) es.length cap ∧ ∀ j u, (eC es)[j]? = some u → w.cell? ((⟨g, 0, none⟩ : Addr).add j) = some u := by
  rcases h.2 with ⟨rfl, h0⟩ | ⟨g, cap, cur, rfl, _⟩
  · omega
  · exact ⟨g, cap, rfl, fun j u hj => h.cells (g := g) rfl j u hj⟩

set_option maxRecDepth 100000 in
set_option maxHeartbeats 1000000 in
theorem take_any (mu : Int) (nb : Nat) (s : Nd) (lv : Value) (m : Msg) (eo : Option Addr) (ec : Nat) (i : Nat) (w : World) (h : NB mu w nb s lv) (hl : NL w s lv) (hs : s.last ≤ 60) (hi : m.index = (i : Int)) (hi2 : i ≤ s.last) (hn : m.ents.length ≤ 3) (hsz : ∀ e ∈ m.ents, e.2.size ≤ 20) (he : EntsIn w (.slice eo m.ents.length ec) m.ents) (hec : m.ents.length ≤ ec) :
    Calls Tryz.prog 116 #[.pointer (some ⟨nb, 0, none⟩), magg m (.slice eo m.ents.length ec)] w fun e w' => e = .returned (.tuple #[]) ∧ Took mu nb lv w { s with log := Nd.takes s.log i m.ents } w' := by
  have hlt := h.lt
  have hne : ¬ nb = w.heap.size := by omega
  have HBW := hide (below_alloc w (.cells #[.int .i64 m.kind, .int .i64 m.src, .int .i64 m.dst, .int .i64 m.term, .int .i64 m.index, .int .i64 m.logTerm, .int .i64 m.commit, .slice eo m.ents.length ec, .bool m.granted] 30))
  have HWM := hide (heap_alloc_new w (.cells #[.int .i64 m.kind, .int .i64 m.src, .int .i64 m.dst, .int .i64 m.term, .int .i64 m.index, .int .i64 m.logTerm, .int .i64 m.commit, .slice eo m.ents.length ec, .bool m.granted] 30))
  have HN := hide h
  have HL := hide hl
  have HEI := hide he
  have HI := hide hi
  have HSZ := hide hsz
  obtain ⟨eo', ec', hev, _, ha⟩ := he
  simp only [Value.slice.injEq, true_and] at hev
  obtain ⟨rfl, rfl⟩ := hev
  have HA := hide ha
  clear h hl ha hi hsz
  go_enter Tryz.func116, Tryz.ntmps116
  go_wp2
  generalize w.alloc (.cells #[.int .i64 m.kind, .int .i64 m.src, .int .i64 m.dst, .int .i64 m.term, .int .i64 m.index, .int .i64 m.logTerm, .int .i64 m.commit, .slice eo m.ents.length ec, .bool m.granted] 30) = W at *
  go_loopw [10] (fun v wr => ∃ k : Nat, k ≤ m.ents.length ∧ v = .int .i64 k ∧ Nd.takes s.log i m.ents = Nd.takes s.log (i + k) (m.ents.drop k) ∧ i + k ≤ s.last ∧ Below W.heap.size W wr) (fun v _ => m.ents.length - (intOf v).toNat)
  case atStart => exact ⟨0, Nat.zero_le _, rfl, rfl, hi2, Below.refl _ _⟩
  case round =>
    obtain ⟨k, hk, rfl, hkp, hik, hb⟩ := hrel
    by_cases hlt2 : k < m.ents.length
    · have hBB := below_trans (unhide HBW) hb
      obtain ⟨b, off, rfl, a0', a1'⟩ := (unhide HA) k _ (show m.ents[k]? = some m.ents[k] by simp [hlt2])
      have a0 := (hBB.cell (p := ⟨b, off + k * 2, none⟩) (block_lt_of_cell a0')).trans a0'
      have a1 := (hBB.cell (p := ⟨b, off + k * 2 + 1, none⟩) (block_lt_of_cell a1')).trans a1'
      have hrow := (hb.block w.heap.size (Array.getElem?_eq_some_iff.1 (unhide HWM)).1).trans (unhide HWM)
      have x4 : wr.cell? ⟨w.heap.size, 4, none⟩ = some (.int .i64 (i : Int)) := by
        rw [← unhide HI]
        exact cell_of_row wr w.heap.size 4 _ _ _ hrow
      have hN2 := (unhide HN).below hBB
      have hltR := hN2.lt
      have hneR : ¬ nb = wr.heap.size := by omega
      have hmbR2 : w.heap.size < wr.heap.size := by have h1 := hb.size; have h2 := (Array.getElem?_eq_some_iff.1 (unhide HWM)).1; omega
      have hmbR : ¬ w.heap.size = wr.heap.size := by omega
      have hmbR3 : ¬ wr.heap.size = w.heap.size := by omega
      have hbR2 : b < wr.heap.size := by have h1 := block_lt_of_cell a0; exact h1
      have hbR : ¬ b = wr.heap.size := by omega
      have i1 : (0 : Int) ≤ (k : Int) := by omega
      have i2 : (k : Int) < (m.ents.length : Int) := by omega
      have hA : (i : Int) + (k : Int) = ((i + k : Nat) : Int) := by omega
      have hNL2 := (unhide HL).below hBB
      have HBX := hide (hb.alloc hb.size (.cells #[.int .i64 m.ents[k].1, .string m.ents[k].2] 66))
      have HNX := hide (hN2.below (below_alloc wr (.cells #[.int .i64 m.ents[k].1, .string m.ents[k].2] 66)))
      have HLX := hide (hNL2.below (below_alloc wr (.cells #[.int .i64 m.ents[k].1, .string m.ents[k].2] 66)))
      have HEX := hide (heap_alloc_new wr (.cells #[.int .i64 m.ents[k].1, .string m.ents[k].2] 66))
      have HMX := hide (heap_under hrow (.cells #[.int .i64 m.ents[k].1, .string m.ents[k].2] 66))
      have HA2 := hide hA
      clear a0' a1' hA hrow hN2 hNL2 hBB
      by_cases hcut : s.log.length ≤ i + k ∨ Nd.termAt s.log (i + k + 1) ≠ m.ents[k].1
      · have HT : Hid (Nd.takes s.log i m.ents = s.log.take (i + k) ++ m.ents.drop k) := hkp.trans (takes_cut hlt2 hcut)
        have hAle : i + k ≤ s.log.length := hik
        generalize m.ents[k].1 = t at *
        generalize m.ents[k].2 = q at *
        by_cases hend : i + k = s.log.length
        · clear hcut hkp hb
          go_wp2
          rw [unhide HA2]
          generalize wr.alloc (.cells #[.int .i64 t, .string q] 66) = X at *
          have HFX := hide (unhide HLX).form
          have b1' : (((i + k : Nat) : Int) == (s.last : Int)) = true := by simp only [beq_iff_eq]; have : s.last = s.log.length := rfl; omega
          have HEND := hide hend
          clear hend
          generalize i + k = A at *
          have b1 := b1'
          go_quiet ((go_at_call 81; exact Calls.quiet_of_same (last_any mu nb s _ _ (NB.drewN (unhide HNX) _) (unhide HFX))))
          go_wp2
          have HNY : Hid (NB mu (X.drewN nq) nb s lv) := NB.drewN (unhide HNX) _
          have HLY : Hid (NL (X.drewN nq) s lv) := NL.drewN (unhide HLX) _
          have HBY : Hid (Below W.heap.size W (X.drewN nq)) := below_drewN (unhide HBX) _
          have y7 : (X.drewN nq).cell? ⟨w.heap.size, 7, none⟩ = some (.slice (some ⟨b, off, none⟩) m.ents.length ec) := cell_of_row (X.drewN nq) w.heap.size 7 _ _ _ (unhide HMX)
          have y6 := (unhide HNY).c6
          obtain ⟨pv, hsl, HPO, hpo⟩ := slice_head lv s.log.length A hAle (unhide HLY)
          have HPR := hide (hpo _ (unhide HLY))
          have HPW := hide hpo
          obtain ⟨tc, htl, hte⟩ := slice_tail b off m.ents.length ec k m.ents hlt2 hec rfl
          have HTE := hide (hte (X.drewN nq) (ents_below (ents_below (unhide HEI) (unhide HBW)) (unhide HBY)))
          replace HPO := hide HPO
          obtain ⟨fs, hfs⟩ : ∃ fs, m.ents.drop k = fs := ⟨_, rfl⟩
          have hfl : m.ents.length - k = fs.length := by rw [← hfs, List.length_drop]
          rw [hfl] at htl HTE
          rw [hfs] at HTE HT
          have HFZ : Hid (∀ e ∈ fs, e.2.size ≤ 20) := fun e he => (unhide HSZ) e (List.mem_of_mem_drop (hfs ▸ he))
          have hf60 : fs.length ≤ 60 := by omega
          have hf0 : 0 < fs.length := by omega
          have HFL := hide hfl
          clear hpo hte hfs hfl
          generalize X.drewN nq = Y at *
          obtain ⟨i0, hi, hz0, hz1, hz2⟩ := info_parts infoEntry
          go_region_law (first | (refine step_append_lies _ (by rfl) (.tmp 42) (.tmp 47) 22 (by rfl) 0 66 i0 _ 2 24 Tryz.underlying22 hi hz0 hz1 hz2 rfl (by decide) pv A (eC (s.log.take A)) (by rfl) (by exact unhide hp3) ⟨cb, 0, none⟩ fs.length cc (eC fs) (by rfl) (eC_length fs) (by exact unhide hc3) (eC_one fs) hf0 (by unfold maxLen; omega) (by omega) (Nat.zero_le _) w3.heap.size rfl ?_; intro gc cap2 w4 hown4 hgrow4 hat4 hlt4; have hN4 : NB mu w4 nb s lv := ((hgrow4.block nb (unhide hN3).lt (fun e => (unhide hL3).apart (unhide hN3) ((unhide HPO) ▸ e.symm))).trans (unhide hN3)); have k6 := hN4.c6; have q6 := hN4.free 6; clear hN4; replace hown4 := hide hown4; replace hgrow4 := hide hgrow4; replace hat4 := hide hat4; clear hlt4) | (go_simp; go_at_call 23; refine (copyEntries_any _ fs Y.drew hf60 (unhide HFZ) (by exact unhide HTE)).mono ?_; rintro e w3 ⟨cv, rfl, hr3, hb3⟩; obtain ⟨cb, cc, rfl, hc3⟩ := owned_some hr3 hf0; have hN3 := hide (NB.below (w := Y.drew) (unhide HNY) hb3); have z6 := (unhide hN3).c6; have hL3 := hide (NL.below (w := Y.drew) (unhide HLY) hb3); have hp3 : Hid (w3.ownsRow 0 66 2 pv A (eC (s.log.take A))) := (by have h1 := (unhide HPW) w3 (unhide hL3); rw [eC_take] at h1; exact h1); replace hc3 := hide hc3; have hB3 := hide ((unhide HBY).trans ((Below.undrew hb3).mono (unhide HBY).size)); clear hr3 hb3))
          all_goals
            have hlA : A + fs.length = (s.log.take A ++ fs).length := by rw [List.length_append, List.length_take, Nat.min_eq_left hAle]
            have HTK := hide (take_log (l := s.log.take A ++ fs) (unhide hN3) (unhide hL3) (unhide HPO) (unhide hgrow4) (by rw [eC_append]; exact unhide hown4) hlA (unhide hat4))
            clear hown4 hgrow4 hat4 k6 q6 hlA
            go_wp2
            have hfin := Took.ahead (below_trans2 (unhide HBW) (unhide hB3)) (unhide HTK)
            rw [← unhide HT] at hfin
            exact bodyPost_ret (v := .tuple #[]) (results_none rfl _ _ _) rfl ⟨rfl, hfin⟩
        · have hal : i + k < s.log.length := by omega
          have htt : (s.log[i + k].1 != t) = true := by
            rcases hcut with h1 | h1
            · omega
            · rw [termAt_get hal] at h1
              simpa using h1
          obtain ⟨lo, lc, hlv, _, hla⟩ := (unhide HLX).ents
          obtain ⟨lb, loff, rfl, l0, l1⟩ := hla (i + k) _ (show s.log[i + k]? = some s.log[i + k] by simp [hal])
          clear hcut hkp hb hla l1
          generalize s.log[i + k].1 = t2 at *
          go_wp2
          rw [unhide HA2]
          generalize wr.alloc (.cells #[.int .i64 t, .string q] 66) = X at *
          have HFX := hide (unhide HLX).form
          have b1' : (((i + k : Nat) : Int) == (s.last : Int)) = false := by simp only [beq_eq_false_iff_ne, ne_eq]; have : s.last = s.log.length := rfl; omega
          have e0 : X.cell? ⟨wr.heap.size, 0, none⟩ = some (.int .i64 t) := cell_of_row X wr.heap.size 0 _ _ _ (unhide HEX)
          have c6 := (unhide HNX).c6
          rw [hlv] at c6
          clear hend hlv
          generalize i + k = A at *
          have b1 := b1'
          have j1 : (0 : Int) ≤ (A : Int) := by omega
          have j2 : (A : Int) < (s.log.length : Int) := by omega
          go_quiet ((go_at_call 81; exact Calls.quiet_of_same (last_any mu nb s _ _ (NB.drewN (unhide HNX) _) (unhide HFX))))
          go_wp2
          clear c6 l0 e0 j1 j2
          have HNY : Hid (NB mu (X.drewN nq) nb s lv) := NB.drewN (unhide HNX) _
          have HLY : Hid (NL (X.drewN nq) s lv) := NL.drewN (unhide HLX) _
          have HBY : Hid (Below W.heap.size W (X.drewN nq)) := below_drewN (unhide HBX) _
          have y7 : (X.drewN nq).cell? ⟨w.heap.size, 7, none⟩ = some (.slice (some ⟨b, off, none⟩) m.ents.length ec) := cell_of_row (X.drewN nq) w.heap.size 7 _ _ _ (unhide HMX)
          have y6 := (unhide HNY).c6
          obtain ⟨pv, hsl, HPO, hpo⟩ := slice_head lv s.log.length A hAle (unhide HLY)
          have HPR := hide (hpo _ (unhide HLY))
          have HPW := hide hpo
          obtain ⟨tc, htl, hte⟩ := slice_tail b off m.ents.length ec k m.ents hlt2 hec rfl
          have HTE := hide (hte (X.drewN nq) (ents_below (ents_below (unhide HEI) (unhide HBW)) (unhide HBY)))
          replace HPO := hide HPO
          obtain ⟨fs, hfs⟩ : ∃ fs, m.ents.drop k = fs := ⟨_, rfl⟩
          have hfl : m.ents.length - k = fs.length := by rw [← hfs, List.length_drop]
          rw [hfl] at htl HTE
          rw [hfs] at HTE HT
          have HFZ : Hid (∀ e ∈ fs, e.2.size ≤ 20) := fun e he => (unhide HSZ) e (List.mem_of_mem_drop (hfs ▸ he))
          have hf60 : fs.length ≤ 60 := by omega
          have hf0 : 0 < fs.length := by omega
          have HFL := hide hfl
          clear hpo hte hfs hfl
          generalize X.drewN nq = Y at *
          obtain ⟨i0, hi, hz0, hz1, hz2⟩ := info_parts infoEntry
          go_region_law (first | (refine step_append_lies _ (by rfl) (.tmp 42) (.tmp 47) 22 (by rfl) 0 66 i0 _ 2 24 Tryz.underlying22 hi hz0 hz1 hz2 rfl (by decide) pv A (eC (s.log.take A)) (by rfl) (by exact unhide hp3) ⟨cb, 0, none⟩ fs.length cc (eC fs) (by rfl) (eC_length fs) (by exact unhide hc3) (eC_one fs) hf0 (by unfold maxLen; omega) (by omega) (Nat.zero_le _) w3.heap.size rfl ?_; intro gc cap2 w4 hown4 hgrow4 hat4 hlt4; have hN4 : NB mu w4 nb s lv := ((hgrow4.block nb (unhide hN3).lt (fun e => (unhide hL3).apart (unhide hN3) ((unhide HPO) ▸ e.symm))).trans (unhide hN3)); have k6 := hN4.c6; have q6 := hN4.free 6; clear hN4; replace hown4 := hide hown4; replace hgrow4 := hide hgrow4; replace hat4 := hide hat4; clear hlt4) | (go_simp; go_at_call 23; refine (copyEntries_any _ fs Y.drew hf60 (unhide HFZ) (by exact unhide HTE)).mono ?_; rintro e w3 ⟨cv, rfl, hr3, hb3⟩; obtain ⟨cb, cc, rfl, hc3⟩ := owned_some hr3 hf0; have hN3 := hide (NB.below (w := Y.drew) (unhide HNY) hb3); have z6 := (unhide hN3).c6; have hL3 := hide (NL.below (w := Y.drew) (unhide HLY) hb3); have hp3 : Hid (w3.ownsRow 0 66 2 pv A (eC (s.log.take A))) := (by have h1 := (unhide HPW) w3 (unhide hL3); rw [eC_take] at h1; exact h1); replace hc3 := hide hc3; have hB3 := hide ((unhide HBY).trans ((Below.undrew hb3).mono (unhide HBY).size)); clear hr3 hb3))
          all_goals
            have hlA : A + fs.length = (s.log.take A ++ fs).length := by rw [List.length_append, List.length_take, Nat.min_eq_left hAle]
            have HTK := hide (take_log (l := s.log.take A ++ fs) (unhide hN3) (unhide hL3) (unhide HPO) (unhide hgrow4) (by rw [eC_append]; exact unhide hown4) hlA (unhide hat4))
            clear hown4 hgrow4 hat4 k6 q6 hlA
            go_wp2
            have hfin := Took.ahead (below_trans2 (unhide HBW) (unhide hB3)) (unhide HTK)
            rw [← unhide HT] at hfin
            exact bodyPost_ret (v := .tuple #[]) (results_none rfl _ _ _) rfl ⟨rfl, hfin⟩
      · have HT : Hid (Nd.takes s.log i m.ents = Nd.takes s.log (i + (k + 1)) (m.ents.drop (k + 1))) := hkp.trans (takes_on hlt2 hcut)
        have hal : i + k < s.log.length := by omega
        have htt : s.log[i + k].1 = m.ents[k].1 := by
          have h1 : ¬ Nd.termAt s.log (i + k + 1) ≠ m.ents[k].1 := fun hx => hcut (.inr hx)
          rw [termAt_get hal] at h1
          exact Classical.not_not.1 h1
        obtain ⟨lo, lc, hlv, _, hla⟩ := (unhide HLX).ents
        obtain ⟨lb, loff, rfl, l0, l1⟩ := hla (i + k) _ (show s.log[i + k]? = some s.log[i + k] by simp [hal])
        subst hlv
        rw [htt] at l0
        clear hkp hcut hla l1 hb htt
        generalize m.ents[k].1 = t at *
        generalize m.ents[k].2 = q at *
        go_wp2
        rw [unhide HA2]
        generalize wr.alloc (.cells #[.int .i64 t, .string q] 66) = X at *
        have HFX := hide (unhide HLX).form
        have e0 : X.cell? ⟨wr.heap.size, 0, none⟩ = some (.int .i64 t) := cell_of_row X wr.heap.size 0 _ _ _ (unhide HEX)
        have c6 := (unhide HNX).c6
        have hAl : ¬ i + k = s.last := by have : s.last = s.log.length := rfl; omega
        have HNXT : Hid (i + (k + 1) ≤ s.last) := by show i + (k + 1) ≤ s.log.length; omega
        have HKN : Hid (i + k = i + k) := rfl
        generalize i + k = A at *
        have b1 : ((A : Int) == (s.last : Int)) = false := by simp; omega
        have b2 : (t != t) = false := by simp
        have j1 : (0 : Int) ≤ (A : Int) := by omega
        have j2 : (A : Int) < (s.log.length : Int) := by omega
        go_quiet ((go_at_call 81; exact Calls.quiet_of_same (last_any mu nb s _ _ (NB.drewN (unhide HNX) _) (unhide HFX))))
        go_wp2
        go_roundw
        case rel => exact ⟨k + 1, by omega, by go_num, unhide HT, unhide HNXT, below_drewN (unhide HBX) _⟩
        case measure => simp [intOf]; omega
    · have hkn : k = m.ents.length := by omega
      subst hkn
      have HK2 : Hid (Nd.takes s.log i m.ents = s.log) := by show _ = _; rw [hkp, List.drop_length]; rfl
      have HB2 := hide (below_trans (unhide HBW) hb)
      clear hkp hb
      go_wp2
      go_end0
      rw [unhide HK2]
      exact ⟨rfl, lv, (unhide HN).below (unhide HB2), (unhide HL).below (unhide HB2), Ev.ofEw (Ew.ofBelow (unhide HB2))⟩

end Go.Proofs.YteiecbkfganhnaaGreat
