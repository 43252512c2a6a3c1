/- What a game shows. -/
import Derived.Test.YteiecbkfganhnaaGreatGame
namespace Go.Proofs.YteiecbkfganhnaaGreat
open Go.RowKit

/-- Behind a look: two lists more of each wait. -/
def GLooked (i gb nb rb : Nat) (w : World) (tg : Tags) (id n : Int) (c : CN) (r : RN) (es : List Ent) (l : List (List Ent)) (ne : Nat) (l2 : List (List ByteArray)) (nt : Nat) (w' : World) : Prop :=
  ∃ b' tg', Gm i gb nb rb w' tg' id n c r es b' (l ++ [es] ++ [es]) ne (l2 ++ [[]] ++ [[]]) nt ∧ Stp (Abook i) w tg w' tg'

set_option maxRecDepth 100000 in
set_option maxHeartbeats 4000000 in
theorem glooks_any (i gb nb rb : Nat) (w : World) (tg : Tags) (id n : Int) (c : CN) (r : RN) (es : List Ent) (b : BV) (l : List (List Ent)) (ne : Nat) (l2 : List (List ByteArray)) (nt : Nat)
    (h : Gm i gb nb rb w tg id n c r es b l ne l2 nt) (hi : i ≤ 1) (hl : l.length ≤ 1000000) (hl2 : l2.length ≤ 1000000) :
    Calls Tryz.prog 25 #[.pointer (some ⟨gb, 0, none⟩)] w fun e w' => e = .returned (.bool true) ∧ GLooked i gb nb rb w tg id n c r es l ne l2 nt w' := by
  have c2 := h.c2
  have c3 := h.c3
  have hes := h.len
  have G0 := hide h
  clear h
  go_enter Tryz.func25, Tryz.ntmps25
  go_wp2_with fail
  -- a := g.r.Saved()
  refine (saved_E nb c es w (unhide G0).N (ents_of_owns (unhide G0).NL.1) (unhide G0).len (unhide G0).sz).mono ?_
  rintro e w1 ⟨v1, rfl, ho1, hb1⟩
  obtain ⟨x1, y1, rfl⟩ := owns_form ho1
  rw [(unhide G0).term, (unhide G0).vote]
  have S1 : Stp (fun _ => False) w tg w1 (newTag w.heap.size tg (tLE i l.length)) := Stp.ofBelow hb1 tg _
  have V1 := Own.fresh tg (tLE i l.length) ho1
  have G1 := (unhide G0).quiet S1
  generalize newTag w.heap.size tg (tLE i l.length) = tg1 at *
  have A2 : Loc (w1.alloc (.cells #[.int .i64 r.term, .int .i64 r.vote, .slice x1 es.length y1] 24)) (newTag w1.heap.size tg1 (0, 1)) w1.heap.size #[.int .i64 r.term, .int .i64 r.vote, .slice x1 es.length y1] 24 := Loc.new _ _ _ _
  have S2 : Stp (fun _ => False) w1 tg1 (w1.alloc (.cells #[.int .i64 r.term, .int .i64 r.vote, .slice x1 es.length y1] 24)) (newTag w1.heap.size tg1 (0, 1)) := Stp.alloc w1 tg1 _ _
  have G2 := G1.quiet S2
  have V2 := hide (V1.step S2 (fun h => h))
  have c3 := G2.c3
  replace S2 := hide (S1.trans S2)
  replace A2 := hide A2
  replace G2 := hide G2
  clear ho1 hb1 c2 S1 V1 G1
  generalize newTag w1.heap.size tg1 (0, 1) = tg2 at *
  go_wp2_with fail
  generalize w1.alloc (.cells #[.int .i64 r.term, .int .i64 r.vote, .slice x1 es.length y1] 24) = W2 at *
  generalize w1.heap.size = A at *
  -- b := g.w.Saved()
  refine (refSaved_any rb r es W2 (unhide G2).R (ents_of_owns (unhide G2).RL.1) (by omega)).mono ?_
  rintro e w3 ⟨v3, rfl, ho3, hb3⟩
  obtain ⟨x3, y3, rfl⟩ := owns_form ho3
  have S3 : Stp (fun _ => False) W2 tg2 w3 (newTag W2.heap.size tg2 (0, 1)) := Stp.ofBelow hb3 tg2 _
  have U3 := Own.fresh tg2 (0, 1) ho3
  have G3 := (unhide G2).quiet S3
  have A3 := (unhide A2).step S3 (fun h => h)
  have V3 := (unhide V2).step S3 (fun h => h)
  generalize newTag W2.heap.size tg2 (0, 1) = tg3 at *
  have B4 : Loc (w3.alloc (.cells #[.int .i64 r.term, .int .i64 r.vote, .slice x3 es.length y3] 24)) (newTag w3.heap.size tg3 (0, 1)) w3.heap.size #[.int .i64 r.term, .int .i64 r.vote, .slice x3 es.length y3] 24 := Loc.new _ _ _ _
  have S4 : Stp (fun _ => False) w3 tg3 (w3.alloc (.cells #[.int .i64 r.term, .int .i64 r.vote, .slice x3 es.length y3] 24)) (newTag w3.heap.size tg3 (0, 1)) := Stp.alloc w3 tg3 _ _
  have G4 := hide (G3.quiet S4)
  have A4 := A3.step S4 (fun h => h)
  have V4 := hide (V3.step S4 (fun h => h))
  have U4 := hide (U3.step S4 (fun h => h))
  have a0 := A4.cell 0
  have a1 := A4.cell 1
  have a2 := A4.cell 2
  have b0 := B4.cell 0
  have b1 := B4.cell 1
  have b2 := B4.cell 2
  simp only [List.getElem?_toArray, List.getElem?_cons_zero, List.getElem?_cons_succ] at a0 a1 a2 b0 b1 b2
  replace S4 := hide (((unhide S2).trans S3).trans S4)
  replace A4 := hide A4
  replace B4 := hide B4
  clear ho3 hb3 S2 S3 G2 A2 V2 U3 G3 A3 V3 c3
  generalize newTag w3.heap.size tg3 (0, 1) = tg4 at *
  go_wp2_with fail
  generalize w3.alloc (.cells #[.int .i64 r.term, .int .i64 r.vote, .slice x3 es.length y3] 24) = W4 at *
  generalize w3.heap.size = Bb at *
  -- x := sameSaved(a, b)
  refine (sameSaved_eq r.term r.vote _ _ es W4 hes (ents_of_owns (unhide V4).1) (ents_of_owns (unhide U4).1)).mono ?_
  rintro e w5 ⟨rfl, hb5⟩
  have S5 : Stp (fun _ => False) W4 tg4 w5 (newTag W4.heap.size tg4 (0, 1)) := Stp.ofBelow hb5 tg4 _
  have S5d := S5.trans (Stp.drew1 _ w5 (newTag W4.heap.size tg4 (0, 1)))
  have G5 := hide ((unhide G4).quiet S5d)
  have A5' := (unhide A4).step S5 (fun h => h)
  have A5 := hide ((unhide A4).step S5d (fun h => h))
  have B5 := hide ((unhide B4).step S5d (fun h => h))
  have V5 := hide ((unhide V4).step S5d (fun h => h))
  have U5 := hide ((unhide U4).step S5d (fun h => h))
  have a2' : w5.cell? ⟨A, 2, none⟩ = some (.slice x1 es.length y1) := A5'.cell 2
  replace S5 := hide ((unhide S4).trans S5d)
  clear hb5 S4 S5d G4 A4 B4 V4 U4 A5' a0 a1 a2 b0 b1 b2
  generalize newTag W4.heap.size tg4 (0, 1) = tg5 at *
  go_wp2_with fail
  -- g.book.keepEntries(a.Log)
  go_region_held3 (fun w' => w'.cell? ⟨A, 2, none⟩ = some (.slice x1 es.length y1)) (first | go_keep | exact a6) (first | (go_at_call 44; refine (keepEntries_any i gb w5.drew tg5 _ _ _ _ b l _ es (unhide G5).B.G (unhide G5).B.g (unhide G5).B.E (unhide V5) (by omega) (by omega)).mono ?_; rintro e w6 ⟨rfl, hk6⟩; obtain ⟨b6, tg6, hB6, hS6⟩ := bk_keptE (unhide G5).B hk6; have a6 : w6.cell? ⟨A, 2, none⟩ = some (.slice x1 es.length y1) := ((unhide A5).step hS6 (by simp [Abook])).cell 2; replace hB6 := hide hB6; replace hS6 := hide hS6; clear hk6))
  have G6 := hide ((unhide G5).book (unhide hS6) (fun k => not_book i k hi) (unhide hB6))
  have B6 := hide ((unhide B5).step (unhide hS6) (book0 i 1))
  have U6 := hide ((unhide U5).step (unhide hS6) (book0 i 1))
  have S6 := hide (((unhide S5).mono (B := Abook i) (fun _ h => h.elim)).trans (unhide hS6))
  have c2 := (unhide G6).c2
  have hlen1 : (l ++ [es]).length ≤ 1000001 := by simp; omega
  clear hB6 hS6 a6 a2' G5 A5 B5 V5 U5 S5 c3
  go_wp2_with fail
  -- again := g.r.Saved()
  refine (saved_E nb c es w6 (unhide G6).N (ents_of_owns (unhide G6).NL.1) (unhide G6).len (unhide G6).sz).mono ?_
  rintro e w7 ⟨v7, rfl, ho7, hb7⟩
  obtain ⟨x7, y7, rfl⟩ := owns_form ho7
  rw [(unhide G0).term, (unhide G0).vote]
  have S7 : Stp (fun _ => False) w6 tg6 w7 (newTag w6.heap.size tg6 (tLE i (l ++ [es]).length)) := Stp.ofBelow hb7 tg6 _
  have V7 := Own.fresh tg6 (tLE i (l ++ [es]).length) ho7
  have G7 := (unhide G6).quiet S7
  have B7 := (unhide B6).step S7 (fun h => h)
  have U7 := (unhide U6).step S7 (fun h => h)
  generalize newTag w6.heap.size tg6 (tLE i (l ++ [es]).length) = tg7 at *
  have A8 : Loc (w7.alloc (.cells #[.int .i64 r.term, .int .i64 r.vote, .slice x7 es.length y7] 24)) (newTag w7.heap.size tg7 (0, 1)) w7.heap.size #[.int .i64 r.term, .int .i64 r.vote, .slice x7 es.length y7] 24 := Loc.new _ _ _ _
  have S8 : Stp (fun _ => False) w7 tg7 (w7.alloc (.cells #[.int .i64 r.term, .int .i64 r.vote, .slice x7 es.length y7] 24)) (newTag w7.heap.size tg7 (0, 1)) := Stp.alloc w7 tg7 _ _
  have G8 := hide (G7.quiet S8)
  have V8 := hide (V7.step S8 (fun h => h))
  have U8 := hide (U7.step S8 (fun h => h))
  have B8 := B7.step S8 (fun h => h)
  have a0 := A8.cell 0
  have a1 := A8.cell 1
  have a2 := A8.cell 2
  have b0 := B8.cell 0
  have b1 := B8.cell 1
  have b2 := B8.cell 2
  simp only [List.getElem?_toArray, List.getElem?_cons_zero, List.getElem?_cons_succ] at a0 a1 a2 b0 b1 b2
  replace S8 := hide ((unhide S6).trans ((S7.trans S8).mono (B := Abook i) (fun _ h => h.elim)))
  replace A8 := hide A8
  replace B8 := hide B8
  clear ho7 hb7 S6 S7 V7 G7 B7 U7 G6 B6 U6 c2
  generalize newTag w7.heap.size tg7 (0, 1) = tg8 at *
  go_wp2_with fail
  generalize w7.alloc (.cells #[.int .i64 r.term, .int .i64 r.vote, .slice x7 es.length y7] 24) = W8 at *
  generalize w7.heap.size = Cc at *
  -- z := sameSaved(again, b)
  refine (sameSaved_eq r.term r.vote _ _ es W8 hes (ents_of_owns (unhide V8).1) (ents_of_owns (unhide U8).1)).mono ?_
  rintro e w9 ⟨rfl, hb9⟩
  have S9 : Stp (fun _ => False) W8 tg8 w9 (newTag W8.heap.size tg8 (0, 1)) := Stp.ofBelow hb9 tg8 _
  have S9d := S9.trans (Stp.drew1 _ w9 (newTag W8.heap.size tg8 (0, 1)))
  have G9 := hide ((unhide G8).quiet S9d)
  have A9' := (unhide A8).step S9 (fun h => h)
  have A9 := hide ((unhide A8).step S9d (fun h => h))
  have V9 := hide ((unhide V8).step S9d (fun h => h))
  have a2' : w9.cell? ⟨Cc, 2, none⟩ = some (.slice x7 es.length y7) := A9'.cell 2
  replace S9 := hide ((unhide S8).trans (S9d.mono (B := Abook i) (fun _ h => h.elim)))
  clear hb9 S8 S9d G8 A8 B8 V8 U8 A9' a0 a1 a2 b0 b1 b2
  generalize newTag W8.heap.size tg8 (0, 1) = tg9 at *
  go_wp2_with fail
  -- g.book.keepEntries(again.Log)
  go_region_held3 (fun w' => w'.cell? ⟨Cc, 2, none⟩ = some (.slice x7 es.length y7)) (first | go_keep | exact a10) (first | (go_at_call 44; refine (keepEntries_any i gb w9.drew tg9 _ _ _ _ b6 (l ++ [es]) _ es (unhide G9).B.G (unhide G9).B.g (unhide G9).B.E (unhide V9) (by omega) (by omega)).mono ?_; rintro e w10 ⟨rfl, hk10⟩; obtain ⟨b10, tg10, hB10, hS10⟩ := bk_keptE (unhide G9).B hk10; have a10 : w10.cell? ⟨Cc, 2, none⟩ = some (.slice x7 es.length y7) := ((unhide A9).step hS10 (book0 i 1)).cell 2; replace hB10 := hide hB10; replace hS10 := hide hS10; clear hk10))
  have G10 := hide ((unhide G9).book (unhide hS10) (fun k => not_book i k hi) (unhide hB10))
  have S10 := hide ((unhide S9).trans (unhide hS10))
  have c2 := (unhide G10).c2
  obtain ⟨lo, lc, hlog⟩ := (unhide G10).NL.form
  obtain ⟨ro, rc, hrlog⟩ := (unhide G10).RL.form
  have HLOG := hide hlog
  have HRLOG := hide hrlog
  clear hB10 hS10 a10 a2' G9 A9 V9 S9 hlog hrlog
  go_wp2_with fail
  -- c := g.r.Status()
  refine (status_E nb c lo es.length lc w10 (unhide G10).N (unhide HLOG)).mono ?_
  rw [(unhide G0).term, (unhide G0).role, (unhide G0).leads, (unhide G0).commit]
  rintro e w11 ⟨rfl, hb11⟩
  have S11 : Stp (fun _ => False) w10 tg10 w11 (newTag w10.heap.size tg10 (0, 1)) := Stp.ofBelow hb11 tg10 _
  have S12 : Stp (fun _ => False) w11 (newTag w10.heap.size tg10 (0, 1)) (w11.alloc (.cells #[.int .i64 r.role, .int .i64 r.term, .int .i64 r.leads, .int .i64 0, .int .i64 (es.length : Int)] 97)) (newTag w11.heap.size (newTag w10.heap.size tg10 (0, 1)) (0, 1)) := Stp.alloc _ _ _ _
  have D12 : Loc (w11.alloc (.cells #[.int .i64 r.role, .int .i64 r.term, .int .i64 r.leads, .int .i64 0, .int .i64 (es.length : Int)] 97)) (newTag w11.heap.size (newTag w10.heap.size tg10 (0, 1)) (0, 1)) w11.heap.size #[.int .i64 r.role, .int .i64 r.term, .int .i64 r.leads, .int .i64 0, .int .i64 (es.length : Int)] 97 := Loc.new _ _ _ _
  have G12 := ((unhide G10).quiet S11).quiet S12
  have c3 := G12.c3
  replace S12 := hide ((unhide S10).trans ((S11.trans S12).mono (B := Abook i) (fun _ h => h.elim)))
  replace D12 := hide D12
  replace G12 := hide G12
  clear hb11 S11 S10 G10 c2
  generalize newTag w11.heap.size (newTag w10.heap.size tg10 (0, 1)) (0, 1) = tg12 at *
  go_wp2_with fail
  generalize w11.alloc (.cells #[.int .i64 r.role, .int .i64 r.term, .int .i64 r.leads, .int .i64 0, .int .i64 (es.length : Int)] 97) = W12 at *
  generalize w11.heap.size = Dd at *
  -- d := g.w.Status()
  refine (refStatus_any rb r ro es.length rc W12 (unhide G12).R (unhide HRLOG)).mono ?_
  rw [(unhide G0).rcommit]
  rintro e w13 ⟨rfl, hb13⟩
  have S13 : Stp (fun _ => False) W12 tg12 w13 (newTag W12.heap.size tg12 (0, 1)) := Stp.ofBelow hb13 tg12 _
  have S14 : Stp (fun _ => False) w13 (newTag W12.heap.size tg12 (0, 1)) (w13.alloc (.cells #[.int .i64 r.role, .int .i64 r.term, .int .i64 r.leads, .int .i64 0, .int .i64 (es.length : Int)] 97)) (newTag w13.heap.size (newTag W12.heap.size tg12 (0, 1)) (0, 1)) := Stp.alloc _ _ _ _
  have E14 : Loc (w13.alloc (.cells #[.int .i64 r.role, .int .i64 r.term, .int .i64 r.leads, .int .i64 0, .int .i64 (es.length : Int)] 97)) (newTag w13.heap.size (newTag W12.heap.size tg12 (0, 1)) (0, 1)) w13.heap.size #[.int .i64 r.role, .int .i64 r.term, .int .i64 r.leads, .int .i64 0, .int .i64 (es.length : Int)] 97 := Loc.new _ _ _ _
  have G14 := ((unhide G12).quiet S13).quiet S14
  have D14 := hide (((unhide D12).step S13 (fun h => h)).step S14 (fun h => h))
  have c2 := G14.c2
  replace S14 := hide ((unhide S12).trans ((S13.trans S14).mono (B := Abook i) (fun _ h => h.elim)))
  replace E14 := hide E14
  replace G14 := hide G14
  clear hb13 S13 S12 G12 D12 c3
  generalize newTag w13.heap.size (newTag W12.heap.size tg12 (0, 1)) (0, 1) = tg14 at *
  go_wp2_with fail
  generalize w13.alloc (.cells #[.int .i64 r.role, .int .i64 r.term, .int .i64 r.leads, .int .i64 0, .int .i64 (es.length : Int)] 97) = W14 at *
  generalize w13.heap.size = Ee at *
  -- l := g.r.Committed()
  refine (committed_0 nb c lo es.length lc W14 (unhide G14).N (unhide G14).commit (unhide HLOG)).mono ?_
  rintro e w15 ⟨rfl, hb15⟩
  have S15 : Stp (fun _ => False) W14 tg14 w15 (newTag W14.heap.size tg14 (0, 1)) := Stp.ofBelow hb15 tg14 _
  have G15 := (unhide G14).quiet S15
  have c2' := G15.c2
  replace G15 := hide G15
  have D15 := hide ((unhide D14).step S15 (fun h => h))
  have E15 := hide ((unhide E14).step S15 (fun h => h))
  replace S15 := hide ((unhide S14).trans (S15.mono (B := Abook i) (fun _ h => h.elim)))
  clear hb15 S14 G14 D14 E14 c2
  generalize newTag W14.heap.size tg14 (0, 1) = tg15 at *
  go_wp2_with fail
  -- k := g.r.Committed()
  refine (committed_0 nb c lo es.length lc w15 (unhide G15).N (unhide G15).commit (unhide HLOG)).mono ?_
  rintro e w16 ⟨rfl, hb16⟩
  have S16 : Stp (fun _ => False) w15 tg15 w16 (newTag w15.heap.size tg15 (0, 1)) := Stp.ofBelow hb16 tg15 _
  have G16 := (unhide G15).quiet S16
  have c3 := G16.c3
  replace G16 := hide G16
  have D16 := hide ((unhide D15).step S16 (fun h => h))
  have E16 := hide ((unhide E15).step S16 (fun h => h))
  replace S16 := hide ((unhide S15).trans (S16.mono (B := Abook i) (fun _ h => h.elim)))
  clear hb16 S15 G15 D15 E15 c2'
  generalize newTag w15.heap.size tg15 (0, 1) = tg16 at *
  go_wp2_with fail
  -- m := g.w.Committed()
  refine (refCommitted_0 rb r w16 (unhide G16).R (unhide G16).rcommit).mono ?_
  rintro e w17 ⟨rfl, hw17⟩
  subst hw17
  clear c3
  go_wp2_with fail
  refine (sameTexts_eq _ _ [] w17 (by simp) (texts_nil w17) (texts_nil w17)).mono ?_
  rintro e w18 ⟨rfl, m18, hw18⟩
  have S18 : Stp (fun _ => False) w17 tg16 w18 tg16 := by rw [hw18]; exact (Stp.refl _ _ _).drewN m18
  clear hw18
  go_wp2_with fail
  refine (sameTexts_eq _ _ [] w18 (by simp) (texts_nil w18) (texts_nil w18)).mono ?_
  rintro e w19 ⟨rfl, m19, hw19⟩
  have S19 : Stp (fun _ => False) w18 tg16 w19 tg16 := by rw [hw19]; exact (Stp.refl _ _ _).drewN m19
  clear hw19
  have G19 := hide (((unhide G16).quiet S18).quiet S19)
  have D19 := hide (((unhide D16).step S18 (fun h => h)).step S19 (fun h => h))
  have E19 := hide (((unhide E16).step S18 (fun h => h)).step S19 (fun h => h))
  replace S19 := hide ((unhide S16).trans ((S18.trans S19).mono (B := Abook i) (fun _ h => h.elim)))
  clear S18 S16 G16 D16 E16
  go_wp2_with fail
  -- g.book.keepTexts(l)
  refine (keepTexts_any i gb w19 tg16 _ _ _ _ b10 l2 _ [] (unhide G19).B.G (unhide G19).B.g (unhide G19).B.T (Own.nil _ _ _ _ _) (by simp) (by omega)).mono ?_
  rintro e w20 ⟨rfl, hk20⟩
  obtain ⟨b20, tg20, hB20, hS20⟩ := bk_keptT (unhide G19).B hk20
  have G20 := hide ((unhide G19).book hS20 (fun k => not_book i k hi) hB20)
  have D20 := hide ((unhide D19).step hS20 (book0 i 1))
  have E20 := hide ((unhide E19).step hS20 (book0 i 1))
  have S20 := hide ((unhide S19).trans hS20)
  have hlen2 : (l2 ++ [[]]).length ≤ 1000001 := by simp; omega
  clear hk20 hB20 hS20 S19 G19 D19 E19
  go_wp2_with fail
  -- g.book.keepTexts(k)
  refine (keepTexts_any i gb w20 tg20 _ _ _ _ b20 (l2 ++ [[]]) _ [] (unhide G20).B.G (unhide G20).B.g (unhide G20).B.T (Own.nil _ _ _ _ _) (by simp) (by omega)).mono ?_
  rintro e w21 ⟨rfl, hk21⟩
  obtain ⟨b21, tg21, hB21, hS21⟩ := bk_keptT (unhide G20).B hk21
  have G21 := hide ((unhide G20).book hS21 (fun k => not_book i k hi) hB21)
  have D21 := (unhide D20).step hS21 (book0 i 1)
  have E21 := (unhide E20).step hS21 (book0 i 1)
  have S21 := hide ((unhide S20).trans hS21)
  have d0 := D21.cell 0
  have d1 := D21.cell 1
  have d2 := D21.cell 2
  have d3 := D21.cell 3
  have d4 := D21.cell 4
  have e0 := E21.cell 0
  have e1 := E21.cell 1
  have e2 := E21.cell 2
  have e3 := E21.cell 3
  have e4 := E21.cell 4
  simp only [List.getElem?_toArray, List.getElem?_cons_zero, List.getElem?_cons_succ] at d0 d1 d2 d3 d4 e0 e1 e2 e3 e4
  have hq := eql_status
  clear hk21 hB21 hS21 S20 G20 D20 E20 D21 E21
  go_wp2
  go_ret
  exact ⟨rfl, b21, tg21, unhide G21, unhide S21⟩

end Go.Proofs.YteiecbkfganhnaaGreat
