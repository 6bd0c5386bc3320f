/-
  The reader of range texts: a part is read.
-/
import Derived.Test.YtlpkaflmhdgmmaaRdrEq
import Derived.BigQuiet
import Derived.Deep.QuietTactic
namespace Go.Proofs.Ytlpkaflmhdgmmaa
open Go.RowKit
set_option linter.unusedVariables false

theorem part_cases (l : List UInt8) : (grpR l = none ∧ partR l = none) ∨
    (∃ G m, grpR l = some (G, m) ∧ NoHead 43 m ∧ NoHead 45 m ∧ partR l = some ((G, G.2.1), m)) ∨
    (∃ G r, grpR l = some (G, 43 :: r) ∧ partR l = some ((G, topG G), r)) ∨
    (∃ G r, grpR l = some (G, 45 :: r) ∧ grpR r = none ∧ partR l = none) ∨
    (∃ G r G2 r2, grpR l = some (G, 45 :: r) ∧ grpR r = some (G2, r2) ∧ folG G G2 = false ∧ partR l = none) ∨
    (∃ G r G2 r2, grpR l = some (G, 45 :: r) ∧ grpR r = some (G2, r2) ∧ folG G G2 = true ∧ partR l = some ((G2, G.2.1), r2)) := by
  rcases hg : grpR l with _ | ⟨G, m⟩
  · exact .inl ⟨rfl, partR_none hg⟩
  · right
    cases m with
    | nil => exact .inl ⟨G, [], rfl, noHead_nil _, noHead_nil _, partR_end hg⟩
    | cons e r =>
      by_cases h1 : e = 43
      · subst h1; exact .inr (.inl ⟨G, r, rfl, partR_plus hg⟩)
      · by_cases h2 : e = 45
        · subst h2
          rcases hr : grpR r with _ | ⟨G2, r2⟩
          · exact .inr (.inr (.inl ⟨G, r, rfl, hr, partR_bad hg hr⟩))
          · rcases hf : folG G G2 with _ | _
            · exact .inr (.inr (.inr (.inl ⟨G, r, G2, r2, rfl, hr, hf, by rw [partR_minus hg hr, hf]; rfl⟩)))
            · exact .inr (.inr (.inr (.inr ⟨G, r, G2, r2, rfl, hr, hf, by rw [partR_minus hg hr, if_pos hf]⟩)))
        · exact .inl ⟨G, e :: r, rfl, noHead_cons h1, noHead_cons h2, partR_other hg h1 h2⟩
theorem grpB_new (w : World) (x y : Int) (t : List UInt8) : GrpB (w.alloc (.cells #[.int .i64 x, .int .i64 y, strV t] 85)) w.heap.size x y t := blk_new w _ [.int .i64 x, .int .i64 y, strV t]
set_option maxRecDepth 100000 in
set_option maxHeartbeats 4000000 in
theorem readPart_dies1 (g : Nat) (l : List UInt8) (p : Int → Bool) (w : World) (h : Rdr w g l p) (hn : grpR l = none) :
    Calls Try.prog 49 #[.pointer (some ⟨g, 0, none⟩)] w (RdrDies g w) := by
  have K := Lib.hid (readGroup_no g l p w h hn)
  clear h hn
  go_enter Try.func49, Try.ntmps49
  go_wp2_with (go_at_call 57; ((with_reducible refine K.out.mono ?_); rintro e w1 ⟨u, v, rfl, hg1⟩; have G1 := Lib.hid hg1; clear hg1))
  exact ⟨rfl, dies_of G1.out⟩
set_option maxRecDepth 100000 in
set_option maxHeartbeats 4000000 in
theorem readPart_one (g : Nat) (l m : List UInt8) (p : Int → Bool) (w : World) (h : Rdr w g l p) (G : Grp) (hn : grpR l = some (G, m)) (h1 : NoHead 43 m) (h2 : NoHead 45 m) :
    Calls Try.prog 49 #[.pointer (some ⟨g, 0, none⟩)] w (RdrTo g m (orP p (rowG (G, G.2.1))) (.tuple #[]) w) := by
  have K := Lib.hid (readGroup_yes g l p w h G m hn)
  have HO := Lib.hid (ok_one (grpR_ok hn))
  have H1 := Lib.hid h1
  have H2 := Lib.hid h2
  have HL := Lib.hid h.lt
  have KA := Lib.hid (fun W (hW : Rdr W g m p) => add_any g m p W hW G G.2.1 HO.out)
  have KS := Lib.hid (fun W (hW : Rdr W g m p) => skip_no g 43 m p W hW H1.out)
  have KM := Lib.hid (fun W (hW : Rdr W g m p) => skip_no g 45 m p W hW H2.out)
  generalize rowG (G, G.2.1) = xs at *
  obtain ⟨a, b, kd⟩ := G
  dsimp only at K KA HO ⊢
  generalize kdT kd = t at *
  clear h hn h1 h2
  go_enter Try.func49, Try.ntmps49
  go_wp2_with (first
    | (go_at_call 57; ((with_reducible refine K.out.mono ?_); rintro e w1 ⟨rfl, hr1, hg1⟩; have R1 := Lib.hid hr1; have G1 := Lib.hid hg1; clear hr1 hg1))
    | (go_at_call 50; ((refine (KS.out _ (R1.out.below (bl_alloc (bl_refl _) _))).mono ?_); rintro e w2 ⟨rfl, hr2, hg2⟩; have R2 := Lib.hid hr2; have G2 := Lib.hid hg2; have B2 := Lib.hid ((grpB_new w1 a b t).grown hg2 (ne_some (by have := R1.out.lt; omega))); clear hr2 hg2 KS))
    | (go_at_call 50; ((with_reducible refine (KM.out _ R2.out).mono ?_); rintro e w3 ⟨rfl, hr3, hg3⟩; have R3 := Lib.hid hr3; have G3 := Lib.hid hg3; have B3 := Lib.hid (B2.out.grown hg3 (ne_some (by have := R1.out.lt; omega))); obtain ⟨⟨c0, c1, c2⟩, f0, f1, f2⟩ := B3.out.c; clear hr3 hg3 KM))
    | (go_at_call 58; ((with_reducible refine (KA.out _ R3.out).mono ?_); rintro e w4 ⟨rfl, hr4, hg4⟩; have R4 := Lib.hid hr4; have G4 := Lib.hid hg4; clear hr4 hg4 KA)))
  go_end0
  exact ⟨rfl, R4.out, (((gr_alloc G1.out _).trans G2.out).trans G3.out).trans G4.out⟩
set_option maxRecDepth 100000 in
set_option maxHeartbeats 4000000 in
theorem readPart_plus (g : Nat) (l r : List UInt8) (p : Int → Bool) (w : World) (h : Rdr w g l p) (G : Grp) (hn : grpR l = some (G, 43 :: r)) :
    Calls Try.prog 49 #[.pointer (some ⟨g, 0, none⟩)] w (RdrTo g r (orP p (rowG (G, topG G))) (.tuple #[]) w) := by
  have K := Lib.hid (readGroup_yes g l p w h G _ hn)
  have hok := grpR_ok hn
  have HO := Lib.hid (ok_top hok)
  have KA := Lib.hid (fun W (hW : Rdr W g r p) => add_any g r p W hW G (topG G) HO.out)
  have KS := Lib.hid (fun W (hW : Rdr W g (43 :: r) p) => skip_yes g 43 r p W hW)
  have KT := Lib.hid (fun W => topG_any G.1 G.2.1 (kdT G.2.2) W (Int.le_trans hok.1 hok.2.1) hok.2.2.1)
  have et : topI G.1 G.2.1 = topG G := rfl
  rw [et] at KT
  generalize rowG (G, topG G) = xs at *
  generalize topG G = tp at *
  obtain ⟨a, b, kd⟩ := G
  dsimp only at K KA HO KT ⊢
  generalize kdT kd = t at *
  clear h hn hok et
  go_enter Try.func49, Try.ntmps49
  go_wp2_with (first
    | (go_at_call 57; ((with_reducible refine K.out.mono ?_); rintro e w1 ⟨rfl, hr1, hg1⟩; have R1 := Lib.hid hr1; have G1 := Lib.hid hg1; clear hr1 hg1))
    | (go_at_call 50; ((refine (KS.out _ (R1.out.below (bl_alloc (bl_refl _) _))).mono ?_); rintro e w2 ⟨rfl, hr2, hg2⟩; have R2 := Lib.hid hr2; have G2 := Lib.hid hg2; have B2 := Lib.hid ((grpB_new w1 a b t).grown hg2 (ne_some (by have := R1.out.lt; omega))); obtain ⟨⟨c0, c1, c2⟩, f0, f1, f2⟩ := B2.out.c; clear hr2 hg2 KS)))
  go_region_with ((first
    | (go_at_call 59; refine (KT.out _).mono ?_; rintro e w3 ⟨rfl, hb3⟩; have R3 := Lib.hid (Rdr.below (w := w2.drew) R2.out hb3); have G3 := Lib.hid (gr_below (gr_drew G2.out) hb3); have B3 := Lib.hid (GrpB.below (w := w2.drew) B2.out hb3); obtain ⟨⟨d0, d1, d2⟩, g0, g1, g2⟩ := B3.out.c)
    | (go_at_call 58; refine (KA.out _ R3.out).mono ?_; rintro e w4 ⟨rfl, hr4, hg4⟩; have R4 := Lib.hid hr4; have G4 := Lib.hid (G3.out.trans hg4))))
  all_goals
    go_wp2_with fail
    go_end0
    exact ⟨rfl, R4.out, (gr_alloc G1.out _).trans G4.out⟩
set_option maxRecDepth 100000 in
set_option maxHeartbeats 4000000 in
theorem readPart_bad (g : Nat) (l r : List UInt8) (p : Int → Bool) (w : World) (h : Rdr w g l p) (G : Grp) (hn : grpR l = some (G, 45 :: r)) (hr : grpR r = none) :
    Calls Try.prog 49 #[.pointer (some ⟨g, 0, none⟩)] w (RdrDies g w) := by
  have K := Lib.hid (readGroup_yes g l p w h G _ hn)
  have KS := Lib.hid (fun W (hW : Rdr W g (45 :: r) p) => skip_no g 43 (45 :: r) p W hW (noHead_cons (by decide)))
  have KM := Lib.hid (fun W (hW : Rdr W g (45 :: r) p) => skip_yes g 45 r p W hW)
  have KD := Lib.hid (fun W (hW : Rdr W g r p) => readGroup_no g r p W hW hr)
  obtain ⟨a, b, kd⟩ := G
  dsimp only at K
  generalize kdT kd = t at *
  clear h hn hr
  go_enter Try.func49, Try.ntmps49
  go_wp2_with (first
    | (go_at_call 57; ((with_reducible refine K.out.mono ?_); rintro e w1 ⟨rfl, hr1, hg1⟩; have R1 := Lib.hid hr1; have G1 := Lib.hid hg1; clear hr1 hg1 K))
    | (go_at_call 50; ((refine (KS.out _ (R1.out.below (bl_alloc (bl_refl _) _))).mono ?_); rintro e w2 ⟨rfl, hr2, hg2⟩; have R2 := Lib.hid hr2; have G2 := Lib.hid hg2; clear hr2 hg2 KS))
    | (go_at_call 50; ((with_reducible refine (KM.out _ R2.out).mono ?_); rintro e w3 ⟨rfl, hr3, hg3⟩; have R3 := Lib.hid hr3; have G3 := Lib.hid hg3; clear hr3 hg3 KM))
    | (go_at_call 57; ((with_reducible refine (KD.out _ R3.out).mono ?_); rintro e w4 ⟨u, v, rfl, hg4⟩; have G4 := Lib.hid hg4; clear hg4)))
  exact ⟨rfl, dies_of ((((gr_alloc G1.out _).trans G2.out).trans G3.out).trans G4.out)⟩
set_option maxRecDepth 100000 in
set_option maxHeartbeats 4000000 in
theorem readPart_le (g : Nat) (l r r2 : List UInt8) (p : Int → Bool) (w : World) (h : Rdr w g l p) (G G2 : Grp) (hn : grpR l = some (G, 45 :: r)) (hr : grpR r = some (G2, r2)) (hle : G.2.1 ≤ G2.2.1) :
    Calls Try.prog 49 #[.pointer (some ⟨g, 0, none⟩)] w (RdrDies g w) := by
  have K := Lib.hid (readGroup_yes g l p w h G _ hn)
  have KS := Lib.hid (fun W (hW : Rdr W g (45 :: r) p) => skip_no g 43 (45 :: r) p W hW (noHead_cons (by decide)))
  have KM := Lib.hid (fun W (hW : Rdr W g (45 :: r) p) => skip_yes g 45 r p W hW)
  have KD := Lib.hid (fun W (hW : Rdr W g r p) => readGroup_yes g r p W hW G2 r2 hr)
  obtain ⟨a, b, kd⟩ := G
  obtain ⟨a2, b2, kd2⟩ := G2
  dsimp only at K KD hle
  generalize kdT kd = t at *
  generalize kdT kd2 = t2 at *
  clear h hn hr
  have q : decide (b ≤ b2) = true := by simpa using hle
  clear hle
  go_enter Try.func49, Try.ntmps49
  go_wp2_with (first
    | (go_at_call 57; ((with_reducible refine K.out.mono ?_); rintro e w1 ⟨rfl, hr1, hg1⟩; have R1 := Lib.hid hr1; have G1 := Lib.hid hg1; clear hr1 hg1 K))
    | (go_at_call 50; ((refine (KS.out _ (R1.out.below (bl_alloc (bl_refl _) _))).mono ?_); rintro e w2 ⟨rfl, hr2, hg2⟩; have R2 := Lib.hid hr2; have G2 := Lib.hid hg2; have B2 := Lib.hid ((grpB_new w1 a b t).grown hg2 (ne_some (by have := R1.out.lt; omega))); clear hr2 hg2 KS))
    | (go_at_call 50; ((with_reducible refine (KM.out _ R2.out).mono ?_); rintro e w3 ⟨rfl, hr3, hg3⟩; have R3 := Lib.hid hr3; have G3 := Lib.hid hg3; have B3 := Lib.hid (B2.out.grown hg3 (ne_some (by have := R1.out.lt; omega))); clear hr3 hg3 KM))
    | (go_at_call 57; ((with_reducible refine (KD.out _ R3.out).mono ?_); rintro e w4 ⟨rfl, hr4, hg4⟩; have R4 := Lib.hid hr4; have G4 := Lib.hid hg4; have B4 := Lib.hid (B3.out.grown hg4 (ne_some (by have := R1.out.lt; omega))); clear hr4 hg4 KD)))
  have B5 := Lib.hid (B4.out.below (bl_alloc (bl_refl _) (.cells #[.int .i64 a2, .int .i64 b2, strV t2] 85)))
  have D5 := Lib.hid (grpB_new w4 a2 b2 t2)
  have G5 := Lib.hid (gr_alloc (w := w4) ((((gr_alloc G1.out _).trans G2.out).trans G3.out).trans G4.out) (.cells #[.int .i64 a2, .int .i64 b2, strV t2] 85))
  obtain ⟨w5, e5⟩ : ∃ w5, w5 = w4.alloc (.cells #[.int .i64 a2, .int .i64 b2, strV t2] 85) := ⟨_, rfl⟩
  simp only [← e5] at *
  clear e5
  obtain ⟨⟨c0, c1, c2⟩, f0, f1, f2⟩ := B5.out.c
  obtain ⟨⟨d0, d1, d2⟩, g0, g1, g2⟩ := D5.out.c
  go_quiet (fail)
  go_wp2_with fail
  exact ⟨rfl, dies_of (gr_drewN G5.out _)⟩
set_option maxRecDepth 100000 in
set_option maxHeartbeats 4000000 in
theorem readPart_gt (g : Nat) (l r r2 : List UInt8) (p : Int → Bool) (w : World) (h : Rdr w g l p) (G G2 : Grp) (hn : grpR l = some (G, 45 :: r)) (hr : grpR r = some (G2, r2)) (f : Bool) (hf : folG G G2 = f) (hlt : G2.2.1 < G.2.1) :
    Calls Try.prog 49 #[.pointer (some ⟨g, 0, none⟩)] w (fun e w' => if f = true then RdrTo g r2 (orP p (rowG (G2, G.2.1))) (.tuple #[]) w e w' else RdrDies g w e w') := by
  have K := Lib.hid (readGroup_yes g l p w h G _ hn)
  have KS := Lib.hid (fun W (hW : Rdr W g (45 :: r) p) => skip_no g 43 (45 :: r) p W hW (noHead_cons (by decide)))
  have KM := Lib.hid (fun W (hW : Rdr W g (45 :: r) p) => skip_yes g 45 r p W hW)
  have KD := Lib.hid (fun W (hW : Rdr W g r p) => readGroup_yes g r p W hW G2 r2 hr)
  have HF := Lib.hid ((fol_eq (grpR_ok hn) (grpR_ok hr) hlt).trans hf)
  have KA := Lib.hid (fun (hf2 : f = true) W (hW : Rdr W g r2 p) => add_any g r2 p W hW G2 G.2.1 (ok_fol (grpR_ok hn) (grpR_ok hr) (hf.trans hf2)))
  obtain ⟨a, b, kd⟩ := G
  obtain ⟨a2, b2, kd2⟩ := G2
  dsimp only at K KD HF KA hlt
  generalize rowG ((a2, b2, kd2), b) = xs at *
  have KW := Lib.hid (fun W => withG_any a b (kdT kd) b2 W)
  generalize kdT kd = t at *
  generalize kdT kd2 = t2 at *
  clear h hn hr hf
  have q : decide (b ≤ b2) = false := by simpa using hlt
  have HN : Hid (∀ W, (binOp BinOp.neq 85 (gV (wthI a b b2) b2 t) (gV a2 b2 t2)).run Try.prog W = .ok (.bool (!f)) W) := Lib.hid (fun W => by rw [neG_any, HF.out])
  have hne := HN.out
  generalize wthI a b b2 = a3 at *
  clear hlt HF HN
  go_enter Try.func49, Try.ntmps49
  go_wp2_with (first
    | (go_at_call 57; ((with_reducible refine K.out.mono ?_); rintro e w1 ⟨rfl, hr1, hg1⟩; have R1 := Lib.hid hr1; have G1 := Lib.hid hg1; clear hr1 hg1 K))
    | (go_at_call 50; ((refine (KS.out _ (R1.out.below (bl_alloc (bl_refl _) _))).mono ?_); rintro e w2 ⟨rfl, hr2, hg2⟩; have R2 := Lib.hid hr2; have G2 := Lib.hid hg2; have B2 := Lib.hid ((grpB_new w1 a b t).grown hg2 (ne_some (by have := R1.out.lt; omega))); clear hr2 hg2 KS))
    | (go_at_call 50; ((with_reducible refine (KM.out _ R2.out).mono ?_); rintro e w3 ⟨rfl, hr3, hg3⟩; have R3 := Lib.hid hr3; have G3 := Lib.hid hg3; have B3 := Lib.hid (B2.out.grown hg3 (ne_some (by have := R1.out.lt; omega))); clear hr3 hg3 KM))
    | (go_at_call 57; ((with_reducible refine (KD.out _ R3.out).mono ?_); rintro e w4 ⟨rfl, hr4, hg4⟩; have R4 := Lib.hid hr4; have G4 := Lib.hid hg4; have B4 := Lib.hid (B3.out.grown hg4 (ne_some (by have := R1.out.lt; omega))); clear hr4 hg4 KD)))
  have B5 := Lib.hid (B4.out.below (bl_alloc (bl_refl _) (.cells #[.int .i64 a2, .int .i64 b2, strV t2] 85)))
  have R5 := Lib.hid (R4.out.below (bl_alloc (bl_refl _) (.cells #[.int .i64 a2, .int .i64 b2, strV t2] 85)))
  have D5 := Lib.hid (grpB_new w4 a2 b2 t2)
  have G5 := Lib.hid (gr_alloc (w := w4) ((((gr_alloc G1.out _).trans G2.out).trans G3.out).trans G4.out) (.cells #[.int .i64 a2, .int .i64 b2, strV t2] 85))
  obtain ⟨w5, e5⟩ : ∃ w5, w5 = w4.alloc (.cells #[.int .i64 a2, .int .i64 b2, strV t2] 85) := ⟨_, rfl⟩
  simp only [← e5] at *
  clear e5
  obtain ⟨⟨c0, c1, c2⟩, f0, f1, f2⟩ := B5.out.c
  obtain ⟨⟨d0, d1, d2⟩, g0, g1, g2⟩ := D5.out.c
  go_region_with ((go_at_call 60; refine (KW.out _).mono ?_; rintro e w6 ⟨rfl, hb6⟩; have B6 := Lib.hid (GrpB.below (w := w5.drew) B5.out hb6); have D6 := Lib.hid (GrpB.below (w := w5.drew) D5.out hb6); have G6 := Lib.hid (gr_below (gr_drew G5.out) hb6); obtain ⟨⟨p0, p1, p2⟩, n0, n1, n2⟩ := B6.out.c; obtain ⟨⟨s0, s1, s2⟩, m0, m1, m2⟩ := D6.out.c))
  all_goals
    have R6 := Lib.hid (Rdr.below (w := w5.drew) R5.out hb6)
    clear q hne
    rcases f with _ | _
    · go_wp2_with fail
      exact ⟨rfl, dies_of G6.out⟩
    · have KA1 := Lib.hid (KA.out rfl)
      go_wp2_with (go_at_call 58; ((with_reducible refine (KA1.out _ R6.out).mono ?_); rintro e w7 ⟨rfl, hr7, hg7⟩; have R7 := Lib.hid hr7; have G7 := Lib.hid hg7; clear hr7 hg7))
      go_end0
      exact ⟨rfl, R7.out, G6.out.trans G7.out⟩
/-- A part is read, or the method panics. -/
theorem readPart_yes (g : Nat) (l : List UInt8) (p : Int → Bool) (w : World) (h : Rdr w g l p) (x : Grp × Int) (r : List UInt8) (hn : partR l = some (x, r)) :
    Calls Try.prog 49 #[.pointer (some ⟨g, 0, none⟩)] w (RdrTo g r (orP p (rowG x)) (.tuple #[]) w) := by
  rcases part_cases l with ⟨_, e⟩ | ⟨G, m, hg, h1, h2, e⟩ | ⟨G, m, hg, e⟩ | ⟨_, _, _, _, e⟩ | ⟨_, _, _, _, _, _, _, e⟩ | ⟨G, m, G2, m2, hg, hg2, hf, e⟩
  · rw [hn] at e; cases e
  · rw [hn] at e; injection e with e; injection e with e1 e2; subst e1 e2
    exact readPart_one g l r p w h G hg h1 h2
  · rw [hn] at e; injection e with e; injection e with e1 e2; subst e1 e2
    exact readPart_plus g l r p w h G hg
  · rw [hn] at e; cases e
  · rw [hn] at e; cases e
  · rw [hn] at e; injection e with e; injection e with e1 e2; subst e1 e2
    exact readPart_gt g l m r p w h G G2 hg hg2 true hf (fol_iff.1 hf).1
theorem readPart_no (g : Nat) (l : List UInt8) (p : Int → Bool) (w : World) (h : Rdr w g l p) (hn : partR l = none) :
    Calls Try.prog 49 #[.pointer (some ⟨g, 0, none⟩)] w (RdrDies g w) := by
  rcases part_cases l with ⟨hg, _⟩ | ⟨_, _, _, _, _, e⟩ | ⟨_, _, _, e⟩ | ⟨G, m, hg, hg2, _⟩ | ⟨G, m, G2, m2, hg, hg2, hf, _⟩ | ⟨_, _, _, _, _, _, _, e⟩
  · exact readPart_dies1 g l p w h hg
  · rw [hn] at e; cases e
  · rw [hn] at e; cases e
  · exact readPart_bad g l m p w h G hg hg2
  · by_cases hle : G.2.1 ≤ G2.2.1
    · exact readPart_le g l m m2 p w h G G2 hg hg2 hle
    · exact (readPart_gt g l m m2 p w h G G2 hg hg2 false hf (by omega)).mono fun e w' hh => by simpa using hh
  · rw [hn] at e; cases e
end Go.Proofs.Ytlpkaflmhdgmmaa
