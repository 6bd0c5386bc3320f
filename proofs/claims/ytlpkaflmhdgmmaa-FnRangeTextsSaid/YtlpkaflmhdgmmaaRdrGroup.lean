/-
  The reader of range texts: a group is read.
-/
import Derived.Test.YtlpkaflmhdgmmaaRdrThird
namespace Go.Proofs.Ytlpkaflmhdgmmaa
open Go.RowKit
set_option linter.unusedVariables false

/-- A text that does not begin with a rank. -/
def BadR (l : List UInt8) : Prop := l = [] ∨ ∃ c r, l = c :: r ∧ rkI c < 0
theorem readRank_dies (g : Nat) (l : List UInt8) (p : Int → Bool) (w : World) (h : Rdr w g l p) (hb : BadR l) :
    Calls Try.prog 66 #[.pointer (some ⟨g, 0, none⟩)] w (RdrDies g w) := by
  rcases hb with rfl | ⟨c, r, rfl, hr⟩
  · exact readRank_nil g p w h
  · exact readRank_no g c r p w h hr
/-- How a text begins, as far as groups go. -/
theorem grp_cases (l : List UInt8) : (grpR l = none ∧ (BadR l ∨ (∃ c m, l = c :: m ∧ 0 ≤ rkI c ∧ BadR m) ∨ ∃ c d r, l = c :: d :: r ∧ 0 ≤ rkI c ∧ 0 ≤ rkI d ∧ rkI c < rkI d)) ∨
    (∃ c d r, l = c :: d :: r ∧ 0 ≤ rkI c ∧ 0 ≤ rkI d ∧ rkI c = rkI d ∧ grpR l = some ((rkI c, rkI d, 32), r)) ∨
    (∃ c d r, l = c :: d :: r ∧ 0 ≤ rkI c ∧ 0 ≤ rkI d ∧ rkI d < rkI c ∧ grpR l = some ((rkI c, rkI d, (thirdR r).1), (thirdR r).2)) := by
  match l with
  | [] => exact .inl ⟨rfl, .inl (.inl rfl)⟩
  | [c] =>
    refine .inl ⟨rfl, ?_⟩
    by_cases h : rkI c < 0
    · exact .inl (.inr ⟨c, [], rfl, h⟩)
    · exact .inr (.inl ⟨c, [], rfl, by omega, .inl rfl⟩)
  | c :: d :: r =>
    rw [grpR_two]
    by_cases h1 : rkI c < 0
    · exact .inl ⟨by rw [if_neg (by omega)], .inl (.inr ⟨c, d :: r, rfl, h1⟩)⟩
    · by_cases h2 : rkI d < 0
      · exact .inl ⟨by rw [if_neg (by omega)], .inr (.inl ⟨c, d :: r, rfl, by omega, .inr ⟨d, r, rfl, h2⟩⟩)⟩
      · by_cases h3 : rkI c < rkI d
        · exact .inl ⟨by rw [if_neg (by omega)], .inr (.inr ⟨c, d, r, rfl, by omega, by omega, h3⟩)⟩
        · by_cases h4 : rkI c = rkI d
          · exact .inr (.inl ⟨c, d, r, rfl, by omega, by omega, h4, by rw [if_pos (by omega), if_pos h4]⟩)
          · exact .inr (.inr ⟨c, d, r, rfl, by omega, by omega, by omega, by rw [if_pos (by omega), if_neg h4]⟩)
/-- A group's own block. -/
def GrpB (w : World) (b : Nat) (x y : Int) (t : List UInt8) : Prop := Blk w b 85 [.int .i64 x, .int .i64 y, strV t]
theorem GrpB.c {w : World} {b : Nat} {x y : Int} {t : List UInt8} (h : GrpB w b x y t) : (w.cell? ⟨b, 0, none⟩ = some (.int .i64 x) ∧ w.cell? ⟨b, 1, none⟩ = some (.int .i64 y) ∧ w.cell? ⟨b, 2, none⟩ = some (strV t)) ∧ (w.frozen? ⟨b, 0, none⟩ = false ∧ w.frozen? ⟨b, 1, none⟩ = false ∧ w.frozen? ⟨b, 2, none⟩ = false) :=
  ⟨⟨(Blk.cell h 0 _ rfl).1, (Blk.cell h 1 _ rfl).1, (Blk.cell h 2 _ rfl).1⟩, (Blk.cell h 0 _ rfl).2, (Blk.cell h 1 _ rfl).2, (Blk.cell h 2 _ rfl).2⟩
theorem GrpB.grown {w w' : World} {b : Nat} {x y : Int} {t : List UInt8} {row : Option Nat} (h : GrpB w b x y t) (hg : w.grownBy w' row) (hne : some b ≠ row) : GrpB w' b x y t := Blk.grown h hg hne
theorem GrpB.below {w w' : World} {b : Nat} {x y : Int} {t : List UInt8} (h : GrpB w b x y t) (hb : Below w.heap.size w w') : GrpB w' b x y t := Blk.below h hb
theorem GrpB.set0 {w : World} {b : Nat} {x y : Int} {t : List UInt8} (h : GrpB w b x y t) (z : Int) : GrpB (w.setCell ⟨b, 0, none⟩ (.int .i64 z)) b z y t := (blk_set h 0 (.int .i64 z)).1
theorem GrpB.set1 {w : World} {b : Nat} {x y : Int} {t : List UInt8} (h : GrpB w b x y t) (z : Int) : GrpB (w.setCell ⟨b, 1, none⟩ (.int .i64 z)) b x z t := (blk_set h 1 (.int .i64 z)).1
theorem GrpB.set2 {w : World} {b : Nat} {x y : Int} {t : List UInt8} (h : GrpB w b x y t) (s : List UInt8) : GrpB (w.setCell ⟨b, 2, none⟩ (strV s)) b x y s := (blk_set h 2 (strV s)).1
theorem gr_cell (w : World) (b i : Nat) (v : Value) : w.grownBy (w.setCell ⟨b, i, none⟩ v) (some b) := ⟨rfl, rfl, rfl, by simp [World.setCell], fun k hk hne => Below.heap_setCell w ⟨b, i, none⟩ _ k (fun e => hne (by rw [e]))⟩
theorem ne_some {a b : Nat} (h : a ≠ b) : some a ≠ some b := fun e => h (Option.some.inj e)
/-- Other blocks of the call's own are written beside the reader's. -/
theorem gr_own {a w w' : World} {g b : Nat} (h : a.grownBy w (some g)) (hb : a.heap.size ≤ b) (hg : w.grownBy w' (some b)) : a.grownBy w' (some g) :=
  ⟨hg.os.trans h.os, hg.tape.trans h.tape, hg.output.trans h.output, Nat.le_trans h.size hg.size, fun k hk hne => (hg.block k (Nat.lt_of_lt_of_le hk h.size) (ne_some (by omega))).trans (h.block k hk hne)⟩
set_option maxRecDepth 100000 in
set_option maxHeartbeats 2000000 in
theorem readGroup_no (g : Nat) (l : List UInt8) (p : Int → Bool) (w : World) (h : Rdr w g l p) (hn : grpR l = none) :
    Calls Try.prog 57 #[.pointer (some ⟨g, 0, none⟩)] w (RdrDies g w) := by
  obtain ⟨w0, e0⟩ : ∃ w0, w0 = (w.alloc (.cells #[.int .i64 0, .int .i64 0, .string ⟨#[]⟩] 85)).alloc (.cells #[.int .i64 0, .int .i64 0, .string ⟨#[]⟩] 85) := ⟨_, rfl⟩
  have hz : w0.heap.size = w.heap.size + 2 := by rw [e0]; simp
  have hgl := h.lt
  have h0 : Rdr w0 g l p := by rw [e0]; exact h.below (bl_alloc (bl_alloc (bl_refl w) _) _)
  have HG0 : Hid (w.grownBy w0 (some g)) := Lib.hid (by rw [e0]; exact gr_alloc (gr_alloc (gr_refl _ _) _) _)
  have HB : Hid (GrpB w0 (w.heap.size + 1) 0 0 []) := Lib.hid (by
    rw [e0]
    have := blk_new (w.alloc (.cells #[.int .i64 0, .int .i64 0, .string ⟨#[]⟩] 85)) 85 [.int .i64 0, .int .i64 0, .string ⟨#[]⟩]
    rw [World.size_alloc] at this
    exact this)
  have HZ := Lib.hid hz
  have HL := Lib.hid hgl
  clear hz hgl h
  rcases grp_cases l with ⟨_, hc⟩ | ⟨c, d, r, _, _, _, _, hq⟩ | ⟨c, d, r, _, _, _, _, hq⟩
  · rcases hc with hb | ⟨c, m, rfl, hc, hm⟩ | ⟨c, d, r, rfl, hc, hd, hlt⟩
    · have K := Lib.hid (readRank_dies g l p w0 h0 hb)
      clear h0 hn hb
      go_enter Try.func57, Try.ntmps57
      go_wp2_with fail
      rw [← e0]
      clear e0
      go_wp2_with (go_at_call 66; ((with_reducible refine K.out.mono ?_); rintro e w1 ⟨u, v, rfl, hg1⟩; have G1 := Lib.hid (HG0.out.trans hg1); clear hg1))
      exact ⟨rfl, dies_of G1.out⟩
    · have K := Lib.hid (readRank_yes g c m p w0 h0 hc)
      have HM := Lib.hid hm
      generalize rkI c = x at *
      clear h0 hn hm hc
      go_enter Try.func57, Try.ntmps57
      go_wp2_with fail
      rw [← e0]
      clear e0
      go_wp2_with (first
        | (go_at_call 66; ((with_reducible refine K.out.mono ?_); rintro e w1 ⟨rfl, hr1, hg1⟩; have HR1 := Lib.hid hr1; have G1 := Lib.hid hg1; have B1 := Lib.hid (HB.out.grown hg1 (ne_some (by have := HL.out; omega))); obtain ⟨⟨c0, c1, c2⟩, f0, f1, f2⟩ := B1.out.c; clear hr1 hg1 K))
        | (go_at_call 66; (refine (readRank_dies g m p _ (HR1.out.grown (gr_cell _ _ _ _) (ne_some (by have := HL.out; omega))) HM.out).mono ?_; rintro e w2 ⟨u, v, rfl, hg2⟩; have G2 := Lib.hid hg2; clear hg2)))
      exact ⟨rfl, dies_of ((gr_own (HG0.out.trans G1.out) (by omega) (gr_cell _ _ _ _)).trans G2.out)⟩
    · have K := Lib.hid (readRank_yes g c (d :: r) p w0 h0 hc)
      have KD := Lib.hid (fun W (hW : Rdr W g (d :: r) p) => readRank_yes g d r p W hW hd)
      generalize rkI c = x at *
      generalize rkI d = y at *
      clear h0 hn hc hd
      go_enter Try.func57, Try.ntmps57
      go_wp2_with fail
      rw [← e0]
      clear e0
      go_wp2_with (first
        | (go_at_call 66; ((with_reducible refine K.out.mono ?_); rintro e w1 ⟨rfl, hr1, hg1⟩; have HR1 := Lib.hid hr1; have G1 := Lib.hid hg1; have B1 := Lib.hid (HB.out.grown hg1 (ne_some (by have := HL.out; omega))); obtain ⟨⟨c0, c1, c2⟩, f0, f1, f2⟩ := B1.out.c; clear hr1 hg1 K))
        | (go_at_call 66; (refine (KD.out _ (HR1.out.grown (gr_cell _ _ _ _) (ne_some (by have := HL.out; omega)))).mono ?_; rintro e w2 ⟨rfl, hr2, hg2⟩; have G2 := Lib.hid hg2; have B2 := Lib.hid ((B1.out.set0 x).grown hg2 (ne_some (by have := HL.out; omega))); clear c0 c1 c2 f0 f1 f2; obtain ⟨⟨c0, c1, c2⟩, f0, f1, f2⟩ := B2.out.c; clear hr2 hg2 KD)))
      exact ⟨rfl, dies_of (gr_own ((gr_own (HG0.out.trans G1.out) (by omega) (gr_cell _ _ _ _)).trans G2.out) (by omega) (gr_cell _ _ _ _))⟩
  · rw [hn] at hq; cases hq
  · rw [hn] at hq; cases hq
set_option maxRecDepth 100000 in
set_option maxHeartbeats 2000000 in
theorem readGroup_yes (g : Nat) (l : List UInt8) (p : Int → Bool) (w : World) (h : Rdr w g l p) (G : Grp) (r : List UInt8) (hn : grpR l = some (G, r)) :
    Calls Try.prog 57 #[.pointer (some ⟨g, 0, none⟩)] w (RdrTo g r p (gV G.1 G.2.1 (kdT G.2.2)) w) := by
  obtain ⟨w0, e0⟩ : ∃ w0, w0 = (w.alloc (.cells #[.int .i64 0, .int .i64 0, .string ⟨#[]⟩] 85)).alloc (.cells #[.int .i64 0, .int .i64 0, .string ⟨#[]⟩] 85) := ⟨_, rfl⟩
  have hz : w0.heap.size = w.heap.size + 2 := by rw [e0]; simp
  have hgl := h.lt
  have h0 : Rdr w0 g l p := by rw [e0]; exact h.below (bl_alloc (bl_alloc (bl_refl w) _) _)
  have HG0 : Hid (w.grownBy w0 (some g)) := Lib.hid (by rw [e0]; exact gr_alloc (gr_alloc (gr_refl _ _) _) _)
  have HB : Hid (GrpB w0 (w.heap.size + 1) 0 0 []) := Lib.hid (by
    rw [e0]
    have := blk_new (w.alloc (.cells #[.int .i64 0, .int .i64 0, .string ⟨#[]⟩] 85)) 85 [.int .i64 0, .int .i64 0, .string ⟨#[]⟩]
    rw [World.size_alloc] at this
    exact this)
  have HD : Hid (GrpB w0 w.heap.size 0 0 []) := Lib.hid (by
    rw [e0]
    exact (blk_new w 85 [.int .i64 0, .int .i64 0, .string ⟨#[]⟩]).below (bl_alloc (bl_refl _) _))
  have HZ := Lib.hid hz
  have HL := Lib.hid hgl
  clear hz hgl h
  rcases grp_cases l with ⟨hq, _⟩ | ⟨c, d, m, rfl, hc, hd, heq, hq⟩ | ⟨c, d, m, rfl, hc, hd, hlt, hq⟩
  · rw [hn] at hq; cases hq
  · rw [hn] at hq
    injection hq with hq; injection hq with hq1 hq2; subst hq1 hq2
    have K := Lib.hid (readRank_yes g c (d :: r) p w0 h0 hc)
    have KD := Lib.hid (fun W (hW : Rdr W g (d :: r) p) => readRank_yes g d r p W hW hd)
    show Calls _ _ _ _ (RdrTo g r p (gV (rkI c) (rkI d) []) w)
    rw [← heq] at KD ⊢
    generalize rkI c = x at *
    have KP := Lib.hid (fun W => isPairG_any x x [] W)
    have q : (x == x) = true := by simp
    rw [q] at KP
    clear h0 hn hc hd heq q
    go_enter Try.func57, Try.ntmps57
    go_wp2_with fail
    rw [← e0]
    clear e0
    go_wp2_with (first
      | (go_at_call 66; ((with_reducible refine K.out.mono ?_); rintro e w1 ⟨rfl, hr1, hg1⟩; have HR1 := Lib.hid hr1; have G1 := Lib.hid hg1; have B1 := Lib.hid (HB.out.grown hg1 (ne_some (by have := HL.out; omega))); have D1 := Lib.hid (HD.out.grown hg1 (ne_some (by have := HL.out; omega))); obtain ⟨⟨c0, c1, c2⟩, f0, f1, f2⟩ := B1.out.c; clear hr1 hg1 K))
      | (go_at_call 66; (refine (KD.out _ (HR1.out.grown (gr_cell _ _ _ _) (ne_some (by have := HL.out; omega)))).mono ?_; rintro e w2 ⟨rfl, hr2, hg2⟩; have HR2 := Lib.hid hr2; have G2 := Lib.hid hg2; have B2 := Lib.hid ((B1.out.set0 x).grown hg2 (ne_some (by have := HL.out; omega))); have D2 := Lib.hid ((D1.out.grown (gr_cell _ (w.heap.size + 1) 0 (.int .i64 x)) (ne_some (by omega))).grown hg2 (ne_some (by have := HL.out; omega))); clear c0 c1 c2 f0 f1 f2; obtain ⟨⟨c0, c1, c2⟩, f0, f1, f2⟩ := B2.out.c; clear hr2 hg2 KD))
      | (go_at_call 67; (refine (KP.out _).mono ?_; rintro e w3 ⟨rfl, hb3⟩; have HR3 := Lib.hid ((HR2.out.grown (gr_cell _ (w.heap.size + 1) 1 (.int .i64 x)) (ne_some (by have := HL.out; omega))).below hb3); have G3 := Lib.hid hb3; have B3 := Lib.hid ((B2.out.set1 x).below hb3); have D3 := Lib.hid ((D2.out.grown (gr_cell _ (w.heap.size + 1) 1 (.int .i64 x)) (ne_some (by omega))).below hb3); clear c0 c1 c2 f0 f1 f2; obtain ⟨⟨c0, c1, c2⟩, f0, f1, f2⟩ := B3.out.c; obtain ⟨⟨d0, d1, d2⟩, g0, g1, g2⟩ := D3.out.c; clear hb3)))
    refine bodyPost_ret (v := gV x x []) (by simp [results, Try.results57, go_sem, d0, d1, d2]) rfl ⟨rfl, ?_, ?_⟩
    · exact ((HR3.out.grown (gr_cell _ _ _ _) (ne_some (by have := HL.out; omega))).grown (gr_cell _ _ _ _) (ne_some (by have := HL.out; omega))).grown (gr_cell _ _ _ _) (ne_some (by have := HL.out; omega))
    · exact gr_own (gr_own (gr_own (gr_below (gr_own ((gr_own (HG0.out.trans G1.out) (by omega) (gr_cell _ _ _ _)).trans G2.out) (by omega) (gr_cell _ _ _ _)) G3.out) (Nat.le_refl _) (gr_cell _ _ _ _)) (Nat.le_refl _) (gr_cell _ _ _ _)) (Nat.le_refl _) (gr_cell _ _ _ _)
  · rw [hn] at hq
    injection hq with hq; injection hq with hq1 hq2; subst hq1 hq2
    have K := Lib.hid (readRank_yes g c (d :: m) p w0 h0 hc)
    have KD := Lib.hid (fun W (hW : Rdr W g (d :: m) p) => readRank_yes g d m p W hW hd)
    have KT := Lib.hid (fun W (hW : Rdr W g m p) => readThird_any g m p W hW)
    show Calls _ _ _ _ (RdrTo g (thirdR m).2 p (gV (rkI c) (rkI d) (kdT (thirdR m).1)) w)
    generalize rkI c = x at *
    generalize rkI d = y at *
    generalize kdT (thirdR m).1 = t at *
    generalize (thirdR m).2 = r at *
    have KP := Lib.hid (fun W => isPairG_any x y [] W)
    have q : (x == y) = false := by simp; omega
    rw [q] at KP
    clear h0 hn hc hd q
    go_enter Try.func57, Try.ntmps57
    go_wp2_with fail
    rw [← e0]
    clear e0
    go_wp2_with (first
      | (go_at_call 66; ((with_reducible refine K.out.mono ?_); rintro e w1 ⟨rfl, hr1, hg1⟩; have HR1 := Lib.hid hr1; have G1 := Lib.hid hg1; have B1 := Lib.hid (HB.out.grown hg1 (ne_some (by have := HL.out; omega))); have D1 := Lib.hid (HD.out.grown hg1 (ne_some (by have := HL.out; omega))); obtain ⟨⟨c0, c1, c2⟩, f0, f1, f2⟩ := B1.out.c; clear hr1 hg1 K))
      | (go_at_call 66; (refine (KD.out _ (HR1.out.grown (gr_cell _ _ _ _) (ne_some (by have := HL.out; omega)))).mono ?_; rintro e w2 ⟨rfl, hr2, hg2⟩; have HR2 := Lib.hid hr2; have G2 := Lib.hid hg2; have B2 := Lib.hid ((B1.out.set0 x).grown hg2 (ne_some (by have := HL.out; omega))); have D2 := Lib.hid ((D1.out.grown (gr_cell _ (w.heap.size + 1) 0 (.int .i64 x)) (ne_some (by omega))).grown hg2 (ne_some (by have := HL.out; omega))); clear c0 c1 c2 f0 f1 f2; obtain ⟨⟨c0, c1, c2⟩, f0, f1, f2⟩ := B2.out.c; clear hr2 hg2 KD))
      | (go_at_call 67; (refine (KP.out _).mono ?_; rintro e w3 ⟨rfl, hb3⟩; have HR3 := Lib.hid ((HR2.out.grown (gr_cell _ (w.heap.size + 1) 1 (.int .i64 y)) (ne_some (by have := HL.out; omega))).below hb3); have G3 := Lib.hid hb3; have B3 := Lib.hid ((B2.out.set1 y).below hb3); have D3 := Lib.hid ((D2.out.grown (gr_cell _ (w.heap.size + 1) 1 (.int .i64 y)) (ne_some (by omega))).below hb3); clear c0 c1 c2 f0 f1 f2; obtain ⟨⟨c0, c1, c2⟩, f0, f1, f2⟩ := B3.out.c; clear hb3))
      | (go_at_call 68; (refine (KT.out _ HR3.out).mono ?_; rintro e w4 ⟨rfl, hr4, hg4⟩; have HR4 := Lib.hid hr4; have G4 := Lib.hid hg4; have B4 := Lib.hid (B3.out.grown hg4 (ne_some (by have := HL.out; omega))); have D4 := Lib.hid (D3.out.grown hg4 (ne_some (by have := HL.out; omega))); clear c0 c1 c2 f0 f1 f2; obtain ⟨⟨c0, c1, c2⟩, f0, f1, f2⟩ := B4.out.c; obtain ⟨⟨d0, d1, d2⟩, g0, g1, g2⟩ := D4.out.c; clear hr4 hg4)))
    refine bodyPost_ret (v := gV x y t) (by simp [results, Try.results57, go_sem, d0, d1, d2]) rfl ⟨rfl, ?_, ?_⟩
    · exact (((HR4.out.grown (gr_cell _ _ _ _) (ne_some (by have := HL.out; omega))).grown (gr_cell _ _ _ _) (ne_some (by have := HL.out; omega))).grown (gr_cell _ _ _ _) (ne_some (by have := HL.out; omega))).grown (gr_cell _ _ _ _) (ne_some (by have := HL.out; omega))
    · exact gr_own (gr_own (gr_own (gr_own ((gr_below (gr_own ((gr_own (HG0.out.trans G1.out) (by omega) (gr_cell _ _ _ _)).trans G2.out) (by omega) (gr_cell _ _ _ _)) G3.out).trans G4.out) (by omega) (gr_cell _ _ _ _)) (Nat.le_refl _) (gr_cell _ _ _ _)) (Nat.le_refl _) (gr_cell _ _ _ _)) (Nat.le_refl _) (gr_cell _ _ _ _)
end Go.Proofs.Ytlpkaflmhdgmmaa
