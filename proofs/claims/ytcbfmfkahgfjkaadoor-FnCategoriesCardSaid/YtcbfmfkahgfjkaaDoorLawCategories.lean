/-
  The card of the law FnCategories: it returns true for every code.
  Condition: the variable impl.lowestStraight reads as the program lays it (the card ties it).
-/
import Derived.Test.YtcbfmfkahgfjkaaDoorDrawFive
import Derived.Test.YtcbfmfkahgfjkaaDoorBig
import Derived.Test.YtcbfmfkahgfjkaaDoorHandFns
import Derived.Test.YtcbfmfkahgfjkaaDoorCatFns
import Derived.Test.YtcbfmfkahgfjkaaDoorPartsFns
import Derived.Test.YtcbfmfkahgfjkaaDoorLike
import Derived.Test.YtcbfmfkahgfjkaaDoorVarsFrame
import Derived.Test.YtcbfmfkahgfjkaaDoorCards
import Derived.SevenTiedAt
import Derived.Lib.SmallJoins
namespace Go.Proofs.YtcbfmfkahgfjkaaDoor
open Go.ChangeShapes Go.WideShapes Go.ChangeAt Go.RowKit Go.Joins
set_option linter.unusedVariables false

/-- A number that a law draws from its code. -/
def DrawnI (w : World) (e : Ending) (w' : World) : Prop := ∃ x : Int, e = .returned (.int .i64 x) ∧ Below w.heap.size w w'
theorem below_src4 {w w1 w2 : World} {s : Nat} (hb : Below w.heap.size w w1) (hs : w.heap.size ≤ s) (hy : Only s w1 w2) : Below w.heap.size w w2 :=
  Below.grown (row := some s) hb hy hb.size (fun j hj => by injection hj with hj; omega)
set_option maxRecDepth 100000 in
set_option maxHeartbeats 1000000 in
theorem drawCategoryName_any (a : Option Addr) (L c : Nat) (zs : Nat → Int) (w : World) (hL : L ≤ 4096) (hc : CodeIn w a L zs) :
    Calls Tryd.prog 46 #[.slice a L c] w (DrawnI w) := by
  have K := Lib.hid (from_any a L c zs w hL hc)
  clear hc
  go_enter Tryd.func46, Tryd.ntmps46
  go_wp2_with (go_at_call 64; refine K.out.mono ?_; rintro e w1 ⟨rfl, hs1, hb1⟩; have S1 := Lib.hid hs1; have B1 := Lib.hid hb1; clear hs1 hb1)
  go_wp2_with (go_at_call 66; refine (next_any _ 11 _ _ _ _ _ (by decide) (by decide) S1.out).mono ?_; rintro e w2 ⟨x, rfl, x0, x1, hs2, hy⟩; have HY := Lib.hid hy; clear hy hs2)
  go_ret
  exact ⟨_, rfl, below_src4 B1.out (Nat.le_refl _) HY.out⟩
set_option maxRecDepth 100000 in
set_option maxHeartbeats 1000000 in
theorem drawCategorySize_any (a : Option Addr) (L c : Nat) (zs : Nat → Int) (w : World) (hL : L ≤ 4096) (hc : CodeIn w a L zs) :
    Calls Tryd.prog 43 #[.slice a L c] w (DrawnI w) := by
  have K := Lib.hid (drawCategoryName_any a L c zs w hL hc)
  clear hc
  go_enter Tryd.func43, Tryd.ntmps43
  go_wp2_with (go_at_call 46; refine K.out.mono ?_; rintro e w1 ⟨x, rfl, hb1⟩; have B1 := Lib.hid hb1; clear hb1)
  go_ret
  exact ⟨x, rfl, B1.out⟩
theorem value_row (w : World) (s : Nat) (x : Int) (a : Option Addr) (L c : Nat) (zs : Nat → Int) (h : Src w s a L c zs) (x0 : 0 ≤ x) (x1 : x ≤ 3341637) :
    Calls Tryd.prog 69 #[.pointer (some ⟨s, 0, none⟩), .slice (some ⟨w.heap.size, 0, none⟩) 5 5] (w.alloc (.cells #[.int .i64 (-1), .int .i64 0, .int .i64 x, .int .i64 3341636, .int .i64 3341637] 2)) (Drew (-1) 3341637 (w.alloc (.cells #[.int .i64 (-1), .int .i64 0, .int .i64 x, .int .i64 3341636, .int .i64 3341637] 2)) s a L c zs) := by
  have hs := src_lt h
  refine pick_any s w.heap.size 5 (rowOf [-1, 0, x, 3341636, 3341637]) (-1) 3341637 a L c zs _ (by omega) (by omega) (fun i hi => row_new [-1, 0, x, 3341636, 3341637] 2 w i hi) (fun i hi => ?_) (by omega) (src_alloc h _)
  match i, hi with
  | 0, _ => exact ⟨by show (-1 : Int) ≤ -1; omega, by show (-1 : Int) ≤ 3341637; omega⟩
  | 1, _ => exact ⟨by show (-1 : Int) ≤ 0; omega, by show (0 : Int) ≤ 3341637; omega⟩
  | 2, _ => exact ⟨by show (-1 : Int) ≤ x; omega, x1⟩
  | 3, _ => exact ⟨by show (-1 : Int) ≤ 3341636; omega, by show (3341636 : Int) ≤ 3341637; omega⟩
  | 4, _ => exact ⟨by show (-1 : Int) ≤ 3341637; omega, by show (3341637 : Int) ≤ 3341637; omega⟩
set_option maxRecDepth 100000 in
set_option maxHeartbeats 1000000 in
theorem drawValueParts_any (a : Option Addr) (L c : Nat) (zs : Nat → Int) (w : World) (hL : L ≤ 4096) (hc : CodeIn w a L zs) :
    Calls Tryd.prog 44 #[.slice a L c] w (DrawnI w) := by
  have K := Lib.hid (from_any a L c zs w hL hc)
  clear hc
  go_enter Tryd.func44, Tryd.ntmps44
  go_wp2_with (go_at_call 64; refine K.out.mono ?_; rintro e w1 ⟨rfl, hs1, hb1⟩; have S1 := Lib.hid hs1; have B1 := Lib.hid hb1; clear hs1 hb1)
  go_wp2_with (first
    | (go_at_call 66; (with_reducible refine (next_any _ 2 _ _ _ _ _ (by decide) (by decide) S1.out).mono ?_); rintro e w2 ⟨x, rfl, x0, x1, hs2, hy⟩; have S2 := Lib.hid hs2; have HY := Lib.hid hy; clear hy hs2)
    | (go_at_call 66; (with_reducible refine (next_any _ 3341637 _ _ _ _ _ (by decide) (by decide) S2.out).mono ?_); rintro e w3 ⟨y, rfl, y0, y1, hs3, hy3⟩; have S3 := Lib.hid hs3; have Y3 := Lib.hid (only_trans HY.out hy3); clear hs3 hy3)
    | (go_at_call 69; refine (value_row _ _ _ _ _ _ _ S3.out y0 (by omega)).mono ?_; rintro e w4 ⟨z, rfl, z0, z1, hs4, hy4⟩; have Y4 := Lib.hid (only_trans (only_alloc Y3.out _) hy4); clear hs4 hy4)
    | (go_at_call 68; refine (drawFive_any _ _ _ _ _ _ S2.out).mono ?_; rintro e w5 ⟨xs, A5, c5, rfl, ho5, hs5, hy5, hl5, hb5⟩; have Y5 := Lib.hid (only_trans HY.out hy5); have KV := Lib.hid (l04Value_any A5 c5 xs w5 ho5.rd hl5 hb5); rw [hl5]; clear ho5 hs5 hy5)
    | (go_at_call 48; refine KV.out.mono ?_; rintro e w6 ⟨rfl, hb6⟩; have Y6 := Lib.hid (only_below' Y5.out hb6); clear hb6))
  · go_ret
    exact ⟨_, rfl, below_src4 B1.out (Nat.le_refl _) Y6.out⟩
  · go_ret
    exact ⟨_, rfl, below_src4 B1.out (Nat.le_refl _) Y4.out⟩
theorem vp_cases (v : Int) : (vpL v).length ≤ 5 ∧ (vpC v = 2 ∨ (vpC v = 0 ∧ ∃ d0 d1 d2 d3 d4, vpL v = [d0, d1, d2, d3, d4] ∧ 371293 * vpA v + 28561 * d0 + 2197 * d1 + 169 * d2 + 13 * d3 + d4 = v ∧ 0 ≤ vpA v ∧ vpA v ≤ 8 ∧ (0 ≤ d0 ∧ d0 < 13) ∧ (0 ≤ d1 ∧ d1 < 13) ∧ (0 ≤ d2 ∧ d2 < 13) ∧ (0 ≤ d3 ∧ d3 < 13) ∧ 0 ≤ d4 ∧ d4 < 13)) := by
  refine ⟨vpL_len v, ?_⟩
  rcases inV (n := v) with ⟨hd, h0, h1⟩ | ⟨hd, ho⟩
  · rw [vpA_yes hd, vpL_yes hd, vpC_yes hd]
    exact .inr ⟨rfl, _, _, _, _, _, rfl, by omega, by omega, by omega, by omega, by omega, by omega, by omega, by omega⟩
  · exact .inl (vpC_no hd)
/-- The sizes so far. -/
def sumN : Nat → Int
  | 0 => 0
  | k + 1 => sumN k + sizeI k
theorem size_cat (k : Nat) (hk : k < 9) : sizeR (k : Int) = sizeI k ∧ codeS (k : Int) = 0 ∧ nameR (k : Int) = nameB k ∧ 0 ≤ sumN k ∧ sumN k ≤ 2598960 ∧ 0 ≤ sizeI k ∧ sizeI k ≤ 1302540 ∧ (nameB k).toList.isEmpty = false := by
  have h9 : k = 0 ∨ k = 1 ∨ k = 2 ∨ k = 3 ∨ k = 4 ∨ k = 5 ∨ k = 6 ∨ k = 7 ∨ k = 8 := by omega
  rcases h9 with rfl | rfl | rfl | rfl | rfl | rfl | rfl | rfl | rfl <;> exact ⟨by decide, by decide, rfl, by decide, by decide, by decide, by decide, by decide +kernel⟩
theorem parts_sum (v : Int) (h0 : 0 ≤ v) (h1 : v ≤ 3341636) : 371293 * (v / 371293) + 28561 * (v % 371293 / 28561) + 2197 * (v % 371293 / 2197 % 13) + 169 * (v % 371293 / 169 % 13) + 13 * (v % 371293 / 13 % 13) + v % 371293 % 13 = v := by omega
set_option maxRecDepth 100000 in
set_option maxHeartbeats 4000000 in
theorem walkCats_in (a : Option Addr) (L c : Nat) (zs : Nat → Int) (w : World) (hL : L ≤ 4096) (hc : CodeIn w a L zs) :
    Calls Tryd.prog 13 #[.slice a L c] w (Fresh (.bool true) w) := by
  have HC := Lib.hid hc
  clear hc
  go_enter Tryd.func13, Tryd.ntmps13
  go_wp2_with (go_at_call 34; ((with_reducible refine (big_no _ _ _ _ hL).mono ?_); rintro e w0 ⟨rfl, rfl⟩))
  go_wp2_with (go_at_call 43; ((with_reducible refine (drawCategorySize_any _ _ _ zs _ hL HC.out).mono ?_); rintro e w1 ⟨cn, rfl, hb1⟩; have B1 := Lib.hid hb1; have K1 := Lib.hid (fun W => implCategorySize_any cn W); have K2 := Lib.hid (fun W => specCategorySize_any cn W); generalize sizeR cn = sz at *; generalize codeS cn = cz at *; clear hb1))
  go_wp2_with (go_at_call 33; ((with_reducible refine (K1.out _).mono ?_); rintro e w2 ⟨rfl, hb2⟩; have B2 := Lib.hid (bl_trans B1.out hb2); clear hb2))
  go_wp2_with (go_at_call 32; ((with_reducible refine (K2.out _).mono ?_); rintro e w3 ⟨rfl, hb3⟩; have B3 := Lib.hid (bl_trans B2.out hb3); clear hb3))
  go_wp2_with (go_at_call 44; ((with_reducible refine (drawValueParts_any _ _ _ zs _ hL (codeIn_below HC.out B3.out)).mono ?_); rintro e w4 ⟨v, rfl, hb4⟩; have B4 := Lib.hid (bl_trans B3.out hb4); clear hb4; have K3 := Lib.hid (fun W => implParts_any v W); have K4 := Lib.hid (fun W => specParts_any v W); have HV := Lib.hid (vp_cases v); generalize vpA v = pa at *; generalize vpL v = pl at *; generalize vpC v = pz at *))
  go_wp2_with (go_at_call 39; ((with_reducible refine (K3.out _).mono ?_); rintro e w5 ⟨A5, c5, rfl, ho5, hb5⟩; have O5 := Lib.hid ho5.rd; have B5 := Lib.hid (bl_trans B4.out hb5); clear ho5 hb5))
  go_wp2_with (go_at_call 45; ((with_reducible refine (K4.out _).mono ?_); rintro e w6 ⟨A6, c6, rfl, ho6, hb6⟩; have O6 := Lib.hid ho6.rd; have Q5 := Lib.hid (O5.out.below hb6); have B6 := Lib.hid (bl_trans B5.out hb6); clear ho6 hb6))
  go_wp2_with (go_at_call 46; ((with_reducible refine (drawCategoryName_any _ _ _ zs _ hL (codeIn_below HC.out B6.out)).mono ?_); rintro e w7 ⟨kn, rfl, hb7⟩; have Q6 := Lib.hid (O6.out.below hb7); have R5 := Lib.hid (Q5.out.below hb7); have B7 := Lib.hid (bl_trans B6.out hb7); clear hb7; have K5 := Lib.hid (fun W => implCategoryName_any kn W); have K6 := Lib.hid (fun W => specCategoryName_any kn W); generalize nameR kn = nm at *))
  go_wp2_with (go_at_call 36; ((with_reducible refine (likeInts_same A5 A6 _ _ pl _ R5.out Q6.out (by have := HV.out.1; omega)).mono ?_); rintro e w8 ⟨rfl, hb8⟩; have S6 := Lib.hid (Q6.out.below hb8); have B8 := Lib.hid (bl_trans B7.out hb8); clear hb8))
  go_wp2_with (go_at_call 31; ((with_reducible refine (K5.out _).mono ?_); rintro e w9 ⟨rfl, hb9⟩; have T6 := Lib.hid (S6.out.below hb9); have B9 := Lib.hid (bl_trans B8.out hb9); clear hb9))
  go_wp2_with (go_at_call 30; ((with_reducible refine (K6.out _).mono ?_); rintro e w10 ⟨rfl, hb10⟩; have U6 := Lib.hid (T6.out.below hb10); have B10 := Lib.hid (bl_trans B9.out hb10); clear hb10))
  go_loopw [16, 17] (fun t i wr => ∃ k : Nat, k ≤ 9 ∧ t = .int .i64 (sumN k) ∧ i = .int .i64 k ∧ Hid (Below w10.heap.size w10 wr)) (fun _ i _ => 9 - (intOf i).toNat)
  case atStart => exact ⟨0, by omega, rfl, rfl, Lib.hid (bl_refl _)⟩
  case round =>
    obtain ⟨k, hk, rfl, rfl, hs⟩ := hrel
    by_cases hlt : k < 9
    · have hlt' : (k : Int) < 9 := by omega
      obtain ⟨e1, e2, e3, e4, e5, e6, e7, e8⟩ := size_cat k hlt
      have KS := Lib.hid (fun W => implCategorySize_any (k : Int) W)
      have KM := Lib.hid (fun W => implCategoryName_any (k : Int) W)
      rw [e1, e2] at KS
      rw [e3] at KM
      have EN : Hid (sumN (k + 1) = sumN k + sizeI k) := Lib.hid rfl
      generalize sizeI k = sk at *
      generalize nameB k = nk at *
      generalize sumN k = tk at *
      clear e1 e2 e3
      go_wp2_with (first
        | (go_at_call 33; refine (KS.out _).mono ?_; rintro e w11 ⟨rfl, hb11⟩; have H11 := Lib.hid (bl_trans hs.out hb11); clear hb11)
        | (go_at_call 31; refine (KM.out _).mono ?_; rintro e w12 ⟨rfl, hb12⟩; have H12 := Lib.hid (bl_trans H11.out hb12); clear hb12))
      go_roundw
      case rel => exact ⟨k + 1, by omega, by rw [EN.out], by go_num, H12⟩
      case measure => simp [intOf]; omega
    · obtain rfl : k = 9 := by omega
      rw [show sumN 9 = 2598960 by decide]
      have V6 := U6.out.below hs.out
      have BZ := Lib.hid (bl_trans B10.out hs.out)
      clear hs
      rcases HV.out.2 with ⟨rfl⟩ | ⟨rfl, d0, d1, d2, d3, d4, rfl, hsum, p0, p1, q0, q1, q2, q3, q4⟩
      · go_wp2_with fail
        go_quiet (fail)
        go_wp2_with fail
        go_ret
        exact ⟨rfl, bl_drewN BZ.out _⟩
      · obtain ⟨b6, off6, rfl, hcell⟩ := V6 (by simp)
        have g0 : wr.cell? ⟨b6, off6, none⟩ = some (.int .i64 d0) := hcell 0 (by simp)
        have g1 : wr.cell? ⟨b6, off6 + 1, none⟩ = some (.int .i64 d1) := hcell 1 (by simp)
        have g2 : wr.cell? ⟨b6, off6 + 2, none⟩ = some (.int .i64 d2) := hcell 2 (by simp)
        have g3 : wr.cell? ⟨b6, off6 + 3, none⟩ = some (.int .i64 d3) := hcell 3 (by simp)
        have g4 : wr.cell? ⟨b6, off6 + 4, none⟩ = some (.int .i64 d4) := hcell 4 (by simp)
        clear hcell
        go_wp2_with fail
        go_quiet (fail)
        go_wp2_with fail
        go_ret
        exact ⟨ret_bool (by simp), bl_drewN BZ.out _⟩

set_option maxRecDepth 100000 in
set_option maxHeartbeats 400000 in
theorem walkCats_big (a : Option Addr) (L c : Nat) (w : World) (hm : L ≤ maxLen) (h : 4096 < L) :
    Calls Tryd.prog 13 #[.slice a L c] w (Fresh (.bool true) w) := by
  unfold maxLen at hm
  go_enter Tryd.func13, Tryd.ntmps13
  go_wp2_with (go_at_call 34; refine (big_yes _ _ _ _ h (by omega)).mono ?_; rintro e w0 ⟨rfl, rfl⟩)
  go_ret
  exact ⟨rfl, bl_refl _⟩
theorem walkCats (a : Option Addr) (L c : Nat) (zs : Nat → Int) (w : World) (hm : L ≤ maxLen) (hc : CodeIn w a L zs) :
    Calls Tryd.prog 13 #[.slice a L c] w (Fresh (.bool true) w) := by
  by_cases h : L ≤ 4096
  · exact walkCats_in a L c zs w h hc
  · exact walkCats_big a L c w hm (by omega)

theorem fnCategories_met (os : Os) (args : Array Value) : laidMetH Tryd.prog Rows.fnCategoriesRow.laid ((World.doorLaid Tryd.prog 400 os).forCall (fun _ _ => 0) ⟨#[], args, []⟩).memory :=
  laidMetH_of_parts3 (fuel := 8) (laidMet_of_run' 8 (by kernel_rfl) (by kernel_rfl)) (by kernel_rfl) (by kernel_rfl)

set_option maxRecDepth 100000 in
theorem fnCategories_lifted (os : Os) (started : os.Started) (H : Type) (enc : TypeId × Value → H) :
    ReturnsInHanded {} Tryd.checked os 13 .any (fun w args => (Rows.fnCategoriesSpec.pre enc Tryd.prog Tryd.f13 [] false w args ∧ laidMetH Tryd.prog Rows.fnCategoriesRow.laid w) ∧ sizedMet enc Tryd.prog Tryd.f13 (OpenSpec.ofChange Rows.fnCategoriesSpec) false w args)
      (Rows.fnCategoriesSpec.post enc Tryd.prog Tryd.f13 false true false false) := by
  refine law_lifted_vars started (by kernel_rfl) Tryd.func13 (by kernel_rfl) (by kernel_rfl) (fun ds gs h hg => ?_) ?_
    (ChangeSpec.witness_shaped (enc := enc) (C := Tryd.checked) (os := os) (X := fun w _ => laidMetH Tryd.prog Rows.fnCategoriesRow.laid w) false (World.doorLaid Tryd.prog 400 os) #[.slice none 0 0] 8 rfl (World.shaped_of_RefB (by kernel_rfl) (by kernel_rfl)) (by kernel_rfl) (by kernel_rfl) (by kernel_rfl) (fnCategories_met os _)) ?_
  · match ds, h, gs, hg with
    | [d0], _, [g0], _ => rfl
  · rw [Tryd.params13]
    intro t ht
    obtain rfl : t = 35 := by simpa using ht
    exact ⟨by kernel_rfl, of_decide_eq_true (by kernel_rfl)⟩
  · intro W base args ds ps hval hA hL hSh
    rw [Tryd.params13] at hA hval
    obtain ⟨v0, d0, rfl, rfl, h0⟩ := trodAll_one hA
    obtain ⟨A0, L0, c0, zs0, rfl, m0, r0⟩ := open_code (hval 0 35 v0 rfl rfl) h0
    rw [MakeChecks.laidMetH_plain _ _ _ (by kernel_rfl)] at hL
    exact walkCats A0 L0 c0 zs0 W m0 r0

theorem fnCategories_holds : Rows.FnCategoriesSaid :=
  OpenClaim.holds_of_wide 13 Tryd.f13 rfl rfl rfl rfl rfl rfl rfl ⟨rfl, rfl, rfl, rfl, rfl⟩ rfl rfl rfl rfl rfl (by kernel_rfl) Tryd.func13 (by kernel_rfl)
    (of_decide_eq_true (by kernel_rfl)) (by unfold Func.isWrapper; first | (rw [if_pos (by decide +kernel)]; kernel_rfl) | (rw [if_neg (by decide +kernel)]; exact ⟨rfl, rfl⟩))
    (fun os started H enc _ => fnCategories_lifted os started H enc)

/-- The tied card: the sizes of all categories add up, and values are made of their parts: for every code. -/
theorem fnCategories_card : Rows.FnCategoriesCardSaid :=
  Claim7.holds_tied_plain_at .later [] [.data] true (true, "cdedf4f819e83a200a0450c4a0ed4964fb591e67028366a9d6f5d35e8d381f9b") false
    fnCategories_holds (fun _ h => by cases h) (by kernel_rfl) (fun _ h => by cases h) fnCategories_row_tie rfl ⟨rfl, rfl⟩ (by kernel_rfl) rfl
    (fun f fn hf hfn => by
      obtain rfl : f = 13 := Option.some.inj ((show Tryd.prog.funcNamed "loop.example/g00910/laws.FnCategories" = some 13 by kernel_rfl).symm.trans hf) |>.symm
      obtain rfl : fn = Tryd.f13 := (Option.some.inj (Tryd.func13.symm.trans hfn)).symm
      exact ⟨by kernel_rfl, fun j t ht => by
        rw [Tryd.params13] at ht
        have hm : t ∈ [35] := by simpa using Array.mem_of_getElem? ht
        have hall : ([35].all fun u => !Tryd.prog.wantsStandIn u) = true := by kernel_rfl
        exact (show Tryd.prog.wantsStandIn t = false by simpa using List.all_eq_true.1 hall t hm)⟩)
    (by kernel_rfl)

end Go.Proofs.YtcbfmfkahgfjkaaDoor
