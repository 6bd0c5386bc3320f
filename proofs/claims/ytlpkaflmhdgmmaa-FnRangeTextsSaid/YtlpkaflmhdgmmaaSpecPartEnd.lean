/-
  The model's l08Part: the parts with no or several minus signs. (Written by gen_s9d.py, gen_s9c.py.)
-/
import Derived.Test.YtlpkaflmhdgmmaaSpecPart
namespace Go.Proofs.Ytlpkaflmhdgmmaa
open Go.RowKit
set_option linter.unusedVariables false

theorem last_index (a : List UInt8) (c : UInt8) (W : World) : (Instr.index 9 (strV (a ++ [c])) (.int .i64 a.length)).run Try.prog W = .ok (.int .u8 c.toNat) W := by
  have hs : (⟨(a ++ [c]).toArray⟩ : ByteArray).size = a.length + 1 := by show (a ++ [c]).toArray.size = _; simp
  have h0 : (0 : Int) ≤ (a.length : Int) := by omega
  simp [Instr.index, run_underlying Try.underlying9, go_sem, hs, h0]
  exact congrArg (fun u : UInt8 => ((u.toNat : Nat) : Int)) (by show (a ++ [c]).toArray[a.length]'(by simp) = c; simp)
theorem init_slice (a : List UInt8) (c : UInt8) (W : World) : (Instr.slice 9 (strV (a ++ [c])) none (some (.int .i64 a.length)) none).run Try.prog W = .ok (strV a) W := by
  have hs : (⟨(a ++ [c]).toArray⟩ : ByteArray).size = a.length + 1 := by show (a ++ [c]).toArray.size = _; simp
  have he : (⟨(a ++ [c]).toArray⟩ : ByteArray).extract 0 a.length = ⟨a.toArray⟩ := by
    rw [ByteArray.extract_mk]
    simp
  have h0 : (0 : Int) ≤ (a.length : Int) := by omega
  simp [Instr.slice, Instr.sliceBounds, Instr.sliceBound, asIntOf, run_underlying Try.underlying9, hs, he, h0]
set_option maxRecDepth 100000 in
set_option maxHeartbeats 4000000 in
theorem plus_no (ps : List (List UInt8)) (a : List UInt8) (hla : a.length ≤ 2000000) (w : World) (hn : (ps.length : Int) ≠ 2) (KS : Hid (∀ W, Calls Try.prog 30 #[strV (a ++ [43]), .int .u8 45] W (CutB ps W))) (KA : Hid (∀ W, Calls Try.prog 51 #[strV a] W (HandNo W))) :
    Calls Try.prog 31 #[strV (a ++ [43])] w (NewLB [] false w) := by
  have i1 := fun W => last_index a 43 W
  have i2 := fun W => init_slice a 43 W
  have hs : (⟨(a ++ [43]).toArray⟩ : ByteArray).size = a.length + 1 := by show (a ++ [43]).toArray.size = _; simp
  generalize a ++ [43] = l at *
  have hq : ((ps.length : Int) == 2) = false := by simpa using hn
  clear hn
  go_enter Try.func31, Try.ntmps31
  go_wp2_with (first
    | (go_at_call 30; ((with_reducible refine (KS.out _).mono ?_); rintro e w1 ⟨g, cap, rfl, hcell, hg, hb1⟩; have B1 := Lib.hid hb1; clear hcell hb1 hg KS))
    | (go_at_call 51; ((with_reducible refine (KA.out _).mono ?_); rintro e w2 ⟨a1, b1, k1, rfl, hb2⟩; have B2 := Lib.hid hb2; clear hb2 KA)))
  go_ret2
  exact newLB_nil (bl_alloc (bl_trans B1.out B2.out) _)
set_option maxRecDepth 100000 in
set_option maxHeartbeats 4000000 in
theorem plus_pair (ps : List (List UInt8)) (a : List UInt8) (hla : a.length ≤ 2000000) (a1 b1 : Int) (k1 : UInt8) (p : (a1 == b1) = true) (w : World) (hn : (ps.length : Int) ≠ 2) (KS : Hid (∀ W, Calls Try.prog 30 #[strV (a ++ [43]), .int .u8 45] W (CutB ps W))) (KA : Hid (∀ W, Calls Try.prog 51 #[strV a] W (Fresh (.tuple #[hV a1 b1 k1, .bool true]) W))) (xs : List Int) (KR : Hid (∀ W, Calls Try.prog 52 #[.slice none 0 0, .agg #[.int .i64 12, .int .i64 12, .int .u8 32], hV a1 b1 k1] W (NewL xs W))) :
    Calls Try.prog 31 #[strV (a ++ [43])] w (NewLB xs true w) := by
  have i1 := fun W => last_index a 43 W
  have i2 := fun W => init_slice a 43 W
  have hs : (⟨(a ++ [43]).toArray⟩ : ByteArray).size = a.length + 1 := by show (a ++ [43]).toArray.size = _; simp
  generalize a ++ [43] = l at *
  have hq : ((ps.length : Int) == 2) = false := by simpa using hn
  clear hn
  go_enter Try.func31, Try.ntmps31
  go_wp2_with (first
    | (go_at_call 30; ((with_reducible refine (KS.out _).mono ?_); rintro e w1 ⟨g, cap, rfl, hcell, hg, hb1⟩; have B1 := Lib.hid hb1; clear hcell hb1 hg KS))
    | (go_at_call 51; ((with_reducible refine (KA.out _).mono ?_); rintro e w2 ⟨rfl, hb2⟩; have B2 := Lib.hid hb2; clear hb2 KA))
    | (go_at_call 52; ((with_reducible refine (KR.out _).mono ?_); rintro e w5 ⟨A5, c5, rfl, ho5, hb5⟩; have O5 := Lib.hid ho5; have B5 := Lib.hid hb5; clear ho5 hb5)))
  go_ret2
  refine ⟨A5, c5, rfl, O5.out.less ?_, bl_trans ?_ B5.out⟩
  · refine Nat.le_trans (bl_trans B1.out B2.out).size ?_
    simp
    try omega
  · repeat (first | exact bl_trans B1.out B2.out | apply bl_alloc | (refine bl_set ?_ (by have := (bl_trans B1.out B2.out).size; simp; omega) _))
set_option maxRecDepth 100000 in
set_option maxHeartbeats 4000000 in
theorem plus_row (ps : List (List UInt8)) (a : List UInt8) (hla : a.length ≤ 2000000) (a1 b1 : Int) (k1 : UInt8) (ha0 : 0 ≤ a1) (ha1 : a1 ≤ 12) (p : (a1 == b1) = false) (w : World) (hn : (ps.length : Int) ≠ 2) (KS : Hid (∀ W, Calls Try.prog 30 #[strV (a ++ [43]), .int .u8 45] W (CutB ps W))) (KA : Hid (∀ W, Calls Try.prog 51 #[strV a] W (Fresh (.tuple #[hV a1 b1 k1, .bool true]) W))) (xs : List Int) (KR : Hid (∀ W, Calls Try.prog 52 #[.slice none 0 0, hV a1 (a1 - 1) k1, hV a1 b1 k1] W (NewL xs W))) :
    Calls Try.prog 31 #[strV (a ++ [43])] w (NewLB xs true w) := by
  have i1 := fun W => last_index a 43 W
  have i2 := fun W => init_slice a 43 W
  have hs : (⟨(a ++ [43]).toArray⟩ : ByteArray).size = a.length + 1 := by show (a ++ [43]).toArray.size = _; simp
  generalize a ++ [43] = l at *
  have hq : ((ps.length : Int) == 2) = false := by simpa using hn
  clear hn
  go_enter Try.func31, Try.ntmps31
  go_wp2_with (first
    | (go_at_call 30; ((with_reducible refine (KS.out _).mono ?_); rintro e w1 ⟨g, cap, rfl, hcell, hg, hb1⟩; have B1 := Lib.hid hb1; clear hcell hb1 hg KS))
    | (go_at_call 51; ((with_reducible refine (KA.out _).mono ?_); rintro e w2 ⟨rfl, hb2⟩; have B2 := Lib.hid hb2; clear hb2 KA))
    | (go_at_call 52; ((with_reducible refine (KR.out _).mono ?_); rintro e w5 ⟨A5, c5, rfl, ho5, hb5⟩; have O5 := Lib.hid ho5; have B5 := Lib.hid hb5; clear ho5 hb5)))
  go_ret2
  refine ⟨A5, c5, rfl, O5.out.less ?_, bl_trans ?_ B5.out⟩
  · refine Nat.le_trans (bl_trans B1.out B2.out).size ?_
    simp
    try omega
  · repeat (first | exact bl_trans B1.out B2.out | apply bl_alloc | (refine bl_set ?_ (by have := (bl_trans B1.out B2.out).size; simp; omega) _))
set_option maxRecDepth 100000 in
set_option maxHeartbeats 4000000 in
theorem word_nil (ps : List (List UInt8)) (w : World) (hn : (ps.length : Int) ≠ 2) (KS : Hid (∀ W, Calls Try.prog 30 #[strV [], .int .u8 45] W (CutB ps W))) (KA : Hid (∀ W, Calls Try.prog 51 #[strV []] W (HandNo W))) :
    Calls Try.prog 31 #[strV []] w (NewLB [] false w) := by
  have hs : (⟨([] : List UInt8).toArray⟩ : ByteArray).size = 0 := rfl
  have hq : ((ps.length : Int) == 2) = false := by simpa using hn
  clear hn
  go_enter Try.func31, Try.ntmps31
  go_wp2_with (first
    | (go_at_call 30; ((with_reducible refine (KS.out _).mono ?_); rintro e w1 ⟨g, cap, rfl, hcell, hg, hb1⟩; have B1 := Lib.hid hb1; clear hcell hb1 hg KS))
    | (go_at_call 51; ((with_reducible refine (KA.out _).mono ?_); rintro e w2 ⟨a1, b1, k1, rfl, hb2⟩; have B2 := Lib.hid hb2; clear hb2 KA)))
  go_ret2
  exact newLB_nil (bl_alloc (bl_trans B1.out B2.out) _)
set_option maxRecDepth 100000 in
set_option maxHeartbeats 4000000 in
theorem word_no (ps : List (List UInt8)) (a : List UInt8) (hla : a.length ≤ 2000000) (c : UInt8) (hc : c ≠ 43) (w : World) (hn : (ps.length : Int) ≠ 2) (KS : Hid (∀ W, Calls Try.prog 30 #[strV (a ++ [c]), .int .u8 45] W (CutB ps W))) (KA : Hid (∀ W, Calls Try.prog 51 #[strV (a ++ [c])] W (HandNo W))) :
    Calls Try.prog 31 #[strV (a ++ [c])] w (NewLB [] false w) := by
  have i1 := fun W => last_index a c W
  have hs : (⟨(a ++ [c]).toArray⟩ : ByteArray).size = a.length + 1 := by show (a ++ [c]).toArray.size = _; simp
  have hcc : ((c.toNat : Int) == 43) = false := by
    have : c.toNat ≠ 43 := fun e => hc (UInt8.toNat_inj.1 e)
    simp; omega
  generalize a ++ [c] = l at *
  have hq : ((ps.length : Int) == 2) = false := by simpa using hn
  clear hn
  go_enter Try.func31, Try.ntmps31
  go_wp2_with (first
    | (go_at_call 30; ((with_reducible refine (KS.out _).mono ?_); rintro e w1 ⟨g, cap, rfl, hcell, hg, hb1⟩; have B1 := Lib.hid hb1; clear hcell hb1 hg KS))
    | (go_at_call 51; ((with_reducible refine (KA.out _).mono ?_); rintro e w2 ⟨a1, b1, k1, rfl, hb2⟩; have B2 := Lib.hid hb2; clear hb2 KA)))
  go_ret2
  exact newLB_nil (bl_alloc (bl_trans B1.out B2.out) _)
set_option maxRecDepth 100000 in
set_option maxHeartbeats 4000000 in
theorem word_yes (ps : List (List UInt8)) (a : List UInt8) (hla : a.length ≤ 2000000) (c : UInt8) (hc : c ≠ 43) (a1 b1 : Int) (k1 : UInt8) (w : World) (hn : (ps.length : Int) ≠ 2) (KS : Hid (∀ W, Calls Try.prog 30 #[strV (a ++ [c]), .int .u8 45] W (CutB ps W))) (KA : Hid (∀ W, Calls Try.prog 51 #[strV (a ++ [c])] W (Fresh (.tuple #[hV a1 b1 k1, .bool true]) W))) (xs : List Int) (KR : Hid (∀ W, Calls Try.prog 52 #[.slice none 0 0, hV a1 b1 k1, hV a1 b1 k1] W (NewL xs W))) :
    Calls Try.prog 31 #[strV (a ++ [c])] w (NewLB xs true w) := by
  have i1 := fun W => last_index a c W
  have hs : (⟨(a ++ [c]).toArray⟩ : ByteArray).size = a.length + 1 := by show (a ++ [c]).toArray.size = _; simp
  have hcc : ((c.toNat : Int) == 43) = false := by
    have : c.toNat ≠ 43 := fun e => hc (UInt8.toNat_inj.1 e)
    simp; omega
  generalize a ++ [c] = l at *
  have hq : ((ps.length : Int) == 2) = false := by simpa using hn
  clear hn
  go_enter Try.func31, Try.ntmps31
  go_wp2_with (first
    | (go_at_call 30; ((with_reducible refine (KS.out _).mono ?_); rintro e w1 ⟨g, cap, rfl, hcell, hg, hb1⟩; have B1 := Lib.hid hb1; clear hcell hb1 hg KS))
    | (go_at_call 51; ((with_reducible refine (KA.out _).mono ?_); rintro e w2 ⟨rfl, hb2⟩; have B2 := Lib.hid hb2; clear hb2 KA))
    | (go_at_call 52; ((with_reducible refine (KR.out _).mono ?_); rintro e w5 ⟨A5, c5, rfl, ho5, hb5⟩; have O5 := Lib.hid ho5; have B5 := Lib.hid hb5; clear ho5 hb5)))
  go_ret2
  refine ⟨A5, c5, rfl, O5.out.less ?_, bl_trans ?_ B5.out⟩
  · refine Nat.le_trans (bl_trans B1.out B2.out).size ?_
    simp
    try omega
  · repeat (first | exact bl_trans B1.out B2.out | apply bl_alloc | (refine bl_set ?_ (by have := (bl_trans B1.out B2.out).size; simp; omega) _))
theorem minus_in {l : List UInt8} (h : (splitB 45 l).length ≠ 2) : (45 : UInt8) ∉ l ∨ ∃ a b c, l = a ++ 45 :: (b ++ 45 :: c) ∧ (45 : UInt8) ∉ a := by
  rcases minus_cases l with ⟨h1, _⟩ | ⟨a, b, _, _, h1⟩ | ⟨a, b, c, h1, h2, _⟩
  · exact .inl h1
  · rw [h1] at h; exact absurd rfl h
  · exact .inr ⟨a, b, c, h1, h2⟩
/-- A part without one minus sign alone: with a plus at its end, or without. -/
theorem rest_plus {a : List UInt8} (h : (splitB 45 (a ++ [43])).length ≠ 2) : partM (a ++ [43]) = (grpM a).map (fun g => (g, topG g)) := by
  rcases minus_in h with h1 | ⟨b, c, d, h1, h2⟩
  · exact partM_plus a (fun e => h1 (by simp [e]))
  · have h3 : (45 : UInt8) ∈ a := by
      have : (45 : UInt8) ∈ a ++ [43] := by rw [h1]; simp
      rcases List.mem_append.1 this with e | e
      · exact e
      · simp at e
    rw [h1, partM_two b c d h2, grpM_no end_45 h3]; rfl
theorem rest_word {l : List UInt8} (h : (splitB 45 l).length ≠ 2) (hp : l.getLast? ≠ some 43) : partM l = (grpM l).map (fun g => (g, g.2.1)) := by
  rcases minus_in h with h1 | ⟨b, c, d, h1, h2⟩
  · exact partM_word l h1 hp
  · have h3 : (45 : UInt8) ∈ l := by rw [h1]; simp
    rw [grpM_no end_45 h3, h1, partM_two b c d h2]; rfl
theorem top_row {g : Grp} (h : OkG g) (hp : g.1 ≠ g.2.1) (i : Int) (h1 : i ≤ topG g) : ((if g.1 = topG g then i else g.1, i, g.2.2) : Grp) = withG g i := by
  unfold withG
  have e : topG g = g.1 - 1 := by unfold topG; rw [if_neg hp]
  rw [if_neg (by omega), if_neg hp]
theorem l08Part_one (l : List UInt8) (w : World) (hl : l.length ≤ 2000000) (hn : (splitB 45 l).length ≠ 2) :
    Calls Try.prog 31 #[strV l] w (NewLB (prtR l) (prtB l) w) := by
  have KS := Lib.hid (fun W => splitB_of 45 l W hl)
  have hn' : ((splitB 45 l).length : Int) ≠ 2 := by omega
  rcases List.eq_nil_or_concat l with rfl | ⟨a, c, hac⟩
  · have e := prt_no (show partM [] = none from rfl)
    rw [e.1, e.2]
    exact word_nil _ w hn' KS (Lib.hid (fun W => hand_no [] rfl W (by simp)))
  · rw [List.concat_eq_append] at hac
    subst hac
    have hla : a.length ≤ 2000000 := by rw [List.length_append] at hl; omega
    by_cases hc : c = 43
    · subst hc
      have hp := rest_plus hn
      rcases hg : grpM a with _ | g
      · rw [hg] at hp
        have e := prt_no (show partM (a ++ [43]) = none from hp)
        rw [e.1, e.2]
        exact plus_no _ a hla w hn' KS (Lib.hid (fun W => hand_no a hg W hla))
      · rw [hg] at hp
        have e := prt_yes (show partM (a ++ [43]) = some (g, topG g) from hp)
        rw [e.1, e.2]
        have ho := grpR_ok (grpM_some hg)
        have KA := Lib.hid (fun W => hand_yes a g hg W hla)
        by_cases hpr : g.1 = g.2.1
        · have et : topG g = 12 := by unfold topG; rw [if_pos hpr]
          have ek := ho.2.2.2.1 hpr
          refine plus_pair _ a hla g.1 g.2.1 g.2.2 (beqT hpr).1 w hn' KS KA _ (Lib.hid (fun W => ?_))
          have h := between_any W (g, topG g) (ok_top ho) 12 32 (fun i _ _ => by
            rw [et, if_pos rfl]
            unfold withG
            rw [if_pos hpr, ek])
          rw [et] at h ⊢
          exact h
        · have et : topG g = g.1 - 1 := by unfold topG; rw [if_neg hpr]
          refine plus_row _ a hla g.1 g.2.1 g.2.2 (Int.le_trans ho.1 ho.2.1) ho.2.2.1 (beqF hpr).1 w hn' KS KA _ (Lib.hid (fun W => ?_))
          have h := between_any W (g, topG g) (ok_top ho) g.1 g.2.2 (fun i _ h1 => top_row ho hpr i h1)
          rw [et] at h ⊢
          exact h
    · have hp := rest_word hn (by simp [hc])
      rcases hg : grpM (a ++ [c]) with _ | g
      · rw [hg] at hp
        have e := prt_no (show partM (a ++ [c]) = none from hp)
        rw [e.1, e.2]
        exact word_no _ a hla c hc w hn' KS (Lib.hid (fun W => hand_no _ hg W hl))
      · rw [hg] at hp
        have e := prt_yes (show partM (a ++ [c]) = some (g, g.2.1) from hp)
        rw [e.1, e.2]
        have ho := grpR_ok (grpM_some hg)
        exact word_yes _ a hla c hc g.1 g.2.1 g.2.2 w hn' KS (Lib.hid (fun W => hand_yes _ g hg W hl)) _ (Lib.hid (fun W => between_any W (g, g.2.1) (ok_one ho) g.1 g.2.2 (fun i _ _ => rfl)))
theorem l08Part_any (l : List UInt8) (w : World) (hl : l.length ≤ 2000000) : Calls Try.prog 31 #[strV l] w (NewLB (prtR l) (prtB l) w) := by
  by_cases h : (splitB 45 l).length = 2
  · rcases minus_cases l with ⟨_, h1⟩ | ⟨a, b, rfl, h1, h2⟩ | ⟨_, _, _, _, _, h1⟩
    · omega
    · exact l08Part_two a b w hl h1 h2
    · omega
  · exact l08Part_one l w hl h
end Go.Proofs.Ytlpkaflmhdgmmaa
