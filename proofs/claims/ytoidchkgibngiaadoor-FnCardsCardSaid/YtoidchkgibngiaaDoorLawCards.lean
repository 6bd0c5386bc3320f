/-
  The card of the law FnCards: it returns true for every code, and leaves it as it was: cards are recovered from their text, and cards and the other cards are all cards.
  Condition: the table math/bits.deBruijn64tab reads as the program lays it (the card ties it).
-/
import Derived.Test.YtoidchkgibngiaaDoorAllCards
import Derived.Test.YtoidchkgibngiaaDoorDrawnText
import Derived.Test.YtoidchkgibngiaaDoorCardReadSpec
import Derived.Test.YtoidchkgibngiaaDoorLike
import Derived.Test.YtoidchkgibngiaaDoorCat
import Derived.Test.YtoidchkgibngiaaDoorTzLaid
import Derived.Test.YtoidchkgibngiaaDoorCards
import Derived.SevenTiedAt
import Derived.Lib.SmallJoins
namespace Go.Proofs.YtoidchkgibngiaaDoor
open Go.ChangeShapes Go.WideShapes Go.ChangeAt Go.RowKit Go.Joins
set_option linter.unusedVariables false

theorem readL_len (s : ByteArray) (h : s.size ≤ 2000000) : (readL s.data.toList).length ≤ 4000000 := by
  unfold readL
  split
  · rw [prs_length]
    have : s.data.toList.length = s.size := rfl
    omega
  · simp
/-- What is asked of a drawn list: it is one of cards, or not. -/
theorem cards_cases (xs : List Int) (hl : xs.length ≤ 53) :
    (∃ (l : List UInt8) (os : List Int), l.length ≤ 200 ∧ os.length ≤ 52 ∧ Hid (cardsB xs = true) ∧ Hid (textR xs = l ∧ codeC xs = 0) ∧ Hid (readL l = xs ∧ codeS l = 0) ∧ Hid (othersR xs = os) ∧ Hid (cardsB (xs ++ os) = true) ∧ xs.length + os.length = 52) ∨
    (Hid (cardsB xs = false) ∧ Hid (textR xs = [] ∧ codeC xs = 1)) := by
  by_cases h : cardsB xs = true
  · left
    refine ⟨textT xs, othersN 52 xs, by rw [textT_length]; omega, othersN_len 52 xs, Lib.hid h, Lib.hid ⟨textR_yes h, codeC_yes h⟩, Lib.hid (read_text xs h), Lib.hid (othersR_yes h), Lib.hid (all_cards xs h), others_len xs h⟩
  · have hf : cardsB xs = false := by simpa using h
    exact .inr ⟨Lib.hid hf, Lib.hid ⟨textR_no hf, codeC_no hf⟩⟩

set_option maxRecDepth 100000 in
set_option maxHeartbeats 4000000 in
theorem walkCards_in (a : Option Addr) (L c : Nat) (zs : Nat → Int) (w : World) (HT : Hid (Tz w.heap.size w)) (hL : L ≤ 4096) (hc : CodeIn w a L zs) :
    Calls Tryd.prog 3 #[.slice a L c] w (Fresh (.bool true) w) := by
  have HC := Lib.hid hc
  clear hc
  go_enter Tryd.func3, Tryd.ntmps3
  go_wp2_with (go_at_call 5; ((with_reducible refine (big_no _ _ _ _ hL).mono ?_); rintro e w0 ⟨rfl, rfl⟩))
  go_wp2_with (go_at_call 6; ((with_reducible refine (drawCardsText_any _ _ _ zs _ hL HC.out).mono ?_); rintro e w1 ⟨xs, A1, c1, rfl, hl, ho1, hb1⟩; have O1 := Lib.hid ho1; have B1 := Lib.hid hb1; clear ho1 hb1))
  have hl4 : xs.length ≤ 4000000 := by omega
  rcases cards_cases xs hl with ⟨l, os, hll, hol, HCB, HTX, HRD, HOT, HALL, hsum⟩ | ⟨HCB, HTX⟩
  · have K1 : Hid (∀ (A : Option Addr) (c : Nat) (W : World), Rd W A xs → Calls Tryd.prog 7 #[.slice A xs.length c] W (NewTC l 0 W)) := Lib.hid (fun A c W h => by have := implText_any A c xs W h hl4; rw [HTX.out.1, HTX.out.2] at this; exact this)
    have K2 : Hid (∀ (A : Option Addr) (c : Nat) (W : World), Rd W A xs → Calls Tryd.prog 8 #[.slice A xs.length c] W (NewTC l 0 W)) := Lib.hid (fun A c W h => by have := specText_any A c xs W h hl4; rw [HTX.out.1, HTX.out.2] at this; exact this)
    have K3 : Hid (∀ (A : Option Addr) (c : Nat) (W : World), Rd W A xs → Calls Tryd.prog 13 #[.slice A xs.length c] W (Same (.bool true) W)) := Lib.hid (fun A c W h => by have := implAre_any A c xs W h hl4; rw [HCB.out] at this; exact this)
    go_wp2_with (go_at_call 7; ((with_reducible refine (K1.out A1 _ _ O1.out.rd).mono ?_); rintro e w2 ⟨rfl, hb2⟩; have X2 := Lib.hid hb2; have B2 := Lib.hid (bl_trans B1.out hb2); clear hb2))
    go_wp2_with (go_at_call 8; ((with_reducible refine (K2.out A1 _ _ (O1.out.below X2.out).rd).mono ?_); rintro e w3 ⟨rfl, hb3⟩; have X3 := Lib.hid hb3; have B3 := Lib.hid (bl_trans B2.out hb3); clear hb3))
    go_wp2_with (go_at_call 9; ((with_reducible refine (drawReadCards_any _ _ _ zs _ hL (codeIn_below HC.out B3.out)).mono ?_); rintro e w4 ⟨r, rfl, hr, hb4⟩; have X4 := Lib.hid hb4; have B4 := Lib.hid (bl_trans B3.out hb4); clear hb4))
    obtain ⟨ys, ky, hyl, K4, K5⟩ : ∃ (ys : List Int) (ky : Int), ys.length ≤ 4000000 ∧ Hid (∀ (W : World), Calls Tryd.prog 10 #[.string r] W (NewLC ys ky W)) ∧ Hid (∀ (W : World), Calls Tryd.prog 11 #[.string r] W (NewLC ys ky W)) :=
      ⟨_, _, readL_len r (by omega), Lib.hid (fun W => implRead_any r W (by omega)), Lib.hid (fun W => specRead_any r W (by omega))⟩
    go_wp2_with (go_at_call 10; ((with_reducible refine (K4.out _).mono ?_); rintro e w5 ⟨A5, c5, rfl, ho5, hb5⟩; have O5 := Lib.hid ho5; have X5 := Lib.hid hb5; have B5 := Lib.hid (bl_trans B4.out hb5); clear ho5 hb5))
    go_wp2_with (go_at_call 11; ((with_reducible refine (K5.out _).mono ?_); rintro e w6 ⟨A6, c6, rfl, ho6, hb6⟩; have O6 := Lib.hid ho6; have X6 := Lib.hid hb6; have B6 := Lib.hid (bl_trans B5.out hb6); clear ho6 hb6))
    have R6 := Lib.hid (((((O1.out.below X2.out).below X3.out).below X4.out).below X5.out).below X6.out)
    go_wp2_with (go_at_call 12; ((with_reducible refine (likeInts_same A5 A6 _ _ ys _ (O5.out.below X6.out).rd O6.out.rd hyl).mono ?_); rintro e w7 ⟨rfl, hb7⟩; have X7 := Lib.hid hb7; have B7 := Lib.hid (bl_trans B6.out hb7); clear hb7))
    go_wp2_with (go_at_call 13; ((with_reducible refine (K3.out A1 _ _ (R6.out.below X7.out).rd).mono ?_); rintro e w7b ⟨rfl, rfl⟩))
    have R7 := Lib.hid (R6.out.below X7.out)
    have K6 : Hid (∀ (W : World), Calls Tryd.prog 10 #[strV l] W (NewLC xs 0 W)) := Lib.hid (fun W => by have := implRead_any ⟨l.toArray⟩ W (by show l.toArray.size ≤ 2000000; rw [List.size_toArray]; omega); rw [show (⟨l.toArray⟩ : ByteArray).data.toList = l from rfl, HRD.out.1, HRD.out.2] at this; exact this)
    have K7 : Hid (∀ (A : Option Addr) (c : Nat) (W : World), Rd W A xs → Below w.heap.size w W → Calls Tryd.prog 14 #[.slice A xs.length c] W (NewLC os 0 W)) := Lib.hid (fun A c W h hb => by have := implOther_any A c xs w.heap.size w W h hl4 HT (Lib.hid hb) (Lib.hid hb.size); rw [HOT.out, HTX.out.2] at this; exact this)
    have K8 : Hid (∀ (A : Option Addr) (c : Nat) (W : World), Rd W A xs → Calls Tryd.prog 15 #[.slice A xs.length c] W (NewLC os 0 W)) := Lib.hid (fun A c W h => by have := specOther_any A c xs W h hl4; rw [HOT.out, HTX.out.2] at this; exact this)
    have hol4 : os.length ≤ 4000000 := by omega
    have hs52 : (xs.length : Int) + (os.length : Int) = 52 := by omega
    have HS52 := Lib.hid hs52
    clear hs52
    go_wp2_with (go_at_call 10; ((with_reducible refine (K6.out _).mono ?_); rintro e w8 ⟨A8, c8, rfl, ho8, hb8⟩; have O8 := Lib.hid ho8; have X8 := Lib.hid hb8; have B8 := Lib.hid (bl_trans B7.out hb8); clear ho8 hb8))
    go_wp2_with (go_at_call 14; ((with_reducible refine (K7.out A1 _ _ (R7.out.below X8.out).rd B8.out).mono ?_); rintro e w9 ⟨A9, c9, rfl, ho9, hb9⟩; have O9 := Lib.hid ho9; have X9 := Lib.hid hb9; have B9 := Lib.hid (bl_trans B8.out hb9); clear ho9 hb9))
    go_wp2_with (go_at_call 15; ((with_reducible refine (K8.out A1 _ _ ((R7.out.below X8.out).below X9.out).rd).mono ?_); rintro e w10 ⟨A10, c10, rfl, ho10, hb10⟩; have O10 := Lib.hid ho10; have X10 := Lib.hid hb10; have B10 := Lib.hid (bl_trans B9.out hb10); clear ho10 hb10))
    have R10 := Lib.hid (((R7.out.below X8.out).below X9.out).below X10.out)
    go_wp2_with (go_at_call 12; ((with_reducible refine (likeInts_same A8 A1 _ _ xs _ ((O8.out.below X9.out).below X10.out).rd R10.out.rd hl4).mono ?_); rintro e w11 ⟨rfl, hb11⟩; have X11 := Lib.hid hb11; have B11 := Lib.hid (bl_trans B10.out hb11); clear hb11))
    have Q11 := Lib.hid ((O9.out.below X10.out).below X11.out)
    have R11 := Lib.hid (R10.out.below X11.out)
    have hs52 := HS52.out
    have HL1 : Hid (([] : List Int).length + xs.length ≤ 4000000) := Lib.hid (by simpa using hl4)
    have HL2 : Hid (∀ ws : List Int, Hid (ws = [] ++ xs) → ws.length + os.length ≤ 4000000) := Lib.hid (fun ws e => by rw [e.out, List.nil_append]; omega)
    have HL3 : Hid (∀ ws vs : List Int, Hid (ws = [] ++ xs) → Hid (vs = ws ++ os) → cardsB vs = true ∧ vs.length ≤ 4000000) := Lib.hid (fun ws vs e e' => by rw [e'.out, e.out, List.nil_append]; exact ⟨HALL.out, by rw [List.length_append]; omega⟩)
    go_wp2_with (first
      | (go_at_call 12; ((with_reducible refine (likeInts_same A9 A10 _ _ os _ Q11.out.rd (O10.out.below X11.out).rd hol4).mono ?_); rintro e w12 ⟨rfl, hb12⟩; have X12 := Lib.hid hb12; have B12 := Lib.hid (bl_trans B11.out hb12); have HE := Lib.hid (own_made w12); have HX1 := Lib.hid ((R11.out.below X12.out).below (bl_alloc (bl_refl _) (.cells #[] 2))); have HZ1 : Hid (w12.heap.size ≤ (w12.alloc (.cells #[] 2)).heap.size) := Lib.hid (by simp); clear hb12))
      | (at_builtin
         refine wpList_cat (.tmp 105) (.tmp 106) rfl rfl w12.heap.size _ (.slice (some ⟨w12.heap.size, 0, none⟩) 0 0) [] xs A1 c1 rfl HE.out rfl HX1.out HL1.out HZ1.out ?_
         intro A13 c13 ws13 w13 e13 ho13 hg13
         have G13 := Lib.hid hg13
         have O13 := Lib.hid ho13
         have Q13 := Lib.hid (own_kept_cat (Q11.out.below X12.out) hg13)
         have Z13 : Hid (w12.heap.size ≤ w13.heap.size) := Lib.hid (Nat.le_trans HZ1.out hg13.size)
         clear hg13 ho13)
      | (at_builtin
         refine wpList_cat (.tmp 107) (.tmp 108) rfl rfl w12.heap.size _ (.slice A13 ws13.length c13) ws13 os A9 c9 rfl O13.out rfl Q13.out (HL2.out _ e13) Z13.out ?_
         intro A14 c14 ws14 w14 e14 ho14 hg14
         have B14 := Lib.hid (bl_cat B12.out G13.out O13.out hg14)
         have O14 := Lib.hid ho14
         have HL4 := Lib.hid (HL3.out _ _ e13 e14)
         have K9 : Hid (∀ (c : Nat), Calls Tryd.prog 13 #[.slice A14 ws14.length c] w14 (Same (.bool true) w14)) := Lib.hid (fun c => by have := implAre_any A14 c ws14 w14 O14.out.rd HL4.out.2; rw [HL4.out.1] at this; exact this)
         clear hg14 ho14)
      | (go_at_call 13; refine (K9.out _).mono ?_; rintro e w15 ⟨rfl, rfl⟩))
    go_ret
    exact ⟨rfl, B14.out⟩
  · have K1 : Hid (∀ (A : Option Addr) (c : Nat) (W : World), Rd W A xs → Calls Tryd.prog 7 #[.slice A xs.length c] W (NewTC [] 1 W)) := Lib.hid (fun A c W h => by have := implText_any A c xs W h hl4; rw [HTX.out.1, HTX.out.2] at this; exact this)
    have K2 : Hid (∀ (A : Option Addr) (c : Nat) (W : World), Rd W A xs → Calls Tryd.prog 8 #[.slice A xs.length c] W (NewTC [] 1 W)) := Lib.hid (fun A c W h => by have := specText_any A c xs W h hl4; rw [HTX.out.1, HTX.out.2] at this; exact this)
    have K3 : Hid (∀ (A : Option Addr) (c : Nat) (W : World), Rd W A xs → Calls Tryd.prog 13 #[.slice A xs.length c] W (Same (.bool false) W)) := Lib.hid (fun A c W h => by have := implAre_any A c xs W h hl4; rw [HCB.out] at this; exact this)
    go_wp2_with (go_at_call 7; ((with_reducible refine (K1.out A1 _ _ O1.out.rd).mono ?_); rintro e w2 ⟨rfl, hb2⟩; have X2 := Lib.hid hb2; have B2 := Lib.hid (bl_trans B1.out hb2); clear hb2))
    go_wp2_with (go_at_call 8; ((with_reducible refine (K2.out A1 _ _ (O1.out.below X2.out).rd).mono ?_); rintro e w3 ⟨rfl, hb3⟩; have X3 := Lib.hid hb3; have B3 := Lib.hid (bl_trans B2.out hb3); clear hb3))
    go_wp2_with (go_at_call 9; ((with_reducible refine (drawReadCards_any _ _ _ zs _ hL (codeIn_below HC.out B3.out)).mono ?_); rintro e w4 ⟨r, rfl, hr, hb4⟩; have X4 := Lib.hid hb4; have B4 := Lib.hid (bl_trans B3.out hb4); clear hb4))
    obtain ⟨ys, ky, hyl, K4, K5⟩ : ∃ (ys : List Int) (ky : Int), ys.length ≤ 4000000 ∧ Hid (∀ (W : World), Calls Tryd.prog 10 #[.string r] W (NewLC ys ky W)) ∧ Hid (∀ (W : World), Calls Tryd.prog 11 #[.string r] W (NewLC ys ky W)) :=
      ⟨_, _, readL_len r (by omega), Lib.hid (fun W => implRead_any r W (by omega)), Lib.hid (fun W => specRead_any r W (by omega))⟩
    go_wp2_with (go_at_call 10; ((with_reducible refine (K4.out _).mono ?_); rintro e w5 ⟨A5, c5, rfl, ho5, hb5⟩; have O5 := Lib.hid ho5; have X5 := Lib.hid hb5; have B5 := Lib.hid (bl_trans B4.out hb5); clear ho5 hb5))
    go_wp2_with (go_at_call 11; ((with_reducible refine (K5.out _).mono ?_); rintro e w6 ⟨A6, c6, rfl, ho6, hb6⟩; have O6 := Lib.hid ho6; have X6 := Lib.hid hb6; have B6 := Lib.hid (bl_trans B5.out hb6); clear ho6 hb6))
    have R6 := Lib.hid (((((O1.out.below X2.out).below X3.out).below X4.out).below X5.out).below X6.out)
    go_wp2_with (go_at_call 12; ((with_reducible refine (likeInts_same A5 A6 _ _ ys _ (O5.out.below X6.out).rd O6.out.rd hyl).mono ?_); rintro e w7 ⟨rfl, hb7⟩; have X7 := Lib.hid hb7; have B7 := Lib.hid (bl_trans B6.out hb7); clear hb7))
    go_wp2_with (go_at_call 13; ((with_reducible refine (K3.out A1 _ _ (R6.out.below X7.out).rd).mono ?_); rintro e w7b ⟨rfl, rfl⟩))
    go_ret
    exact ⟨rfl, B7.out⟩

set_option maxRecDepth 100000 in
set_option maxHeartbeats 400000 in
theorem walkCards_big (a : Option Addr) (L c : Nat) (w : World) (hm : L ≤ maxLen) (h : 4096 < L) :
    Calls Tryd.prog 3 #[.slice a L c] w (Fresh (.bool true) w) := by
  unfold maxLen at hm
  go_enter Tryd.func3, Tryd.ntmps3
  go_wp2_with (go_at_call 5; refine (big_yes _ _ _ _ h (by omega)).mono ?_; rintro e w0 ⟨rfl, rfl⟩)
  go_ret
  exact ⟨rfl, bl_refl _⟩
theorem walkCards (a : Option Addr) (L c : Nat) (zs : Nat → Int) (w : World) (HT : Hid (Tz w.heap.size w)) (hm : L ≤ maxLen) (hc : CodeIn w a L zs) :
    Calls Tryd.prog 3 #[.slice a L c] w (Fresh (.bool true) w) := by
  by_cases h : L ≤ 4096
  · exact walkCards_in a L c zs w HT h hc
  · exact walkCards_big a L c w hm (by omega)

theorem fnCards_met (os : Os) (args : Array Value) : laidMetH Tryd.prog Rows.fnCardsRow.laid ((World.doorLaid Tryd.prog 400 os).forCall (fun _ _ => 0) ⟨#[], args, []⟩).memory :=
  laidMetH_of_parts3 (fuel := 8) (laidMet_of_run' 8 (by kernel_rfl) (by kernel_rfl)) (by kernel_rfl) (by kernel_rfl)

set_option maxRecDepth 100000 in
theorem fnCards_lifted (os : Os) (started : os.Started) (H : Type) (enc : TypeId × Value → H) :
    ReturnsInHanded {} Tryd.checked os 3 .any (fun w args => (Rows.fnCardsSpec.pre enc Tryd.prog Tryd.f3 [] false w args ∧ laidMetH Tryd.prog Rows.fnCardsRow.laid w) ∧ sizedMet enc Tryd.prog Tryd.f3 (OpenSpec.ofChange Rows.fnCardsSpec) false w args)
      (Rows.fnCardsSpec.post enc Tryd.prog Tryd.f3 false true false false) := by
  refine law_lifted_laid started (by kernel_rfl) Tryd.func3 (by kernel_rfl) rfl (fun ds h => ?_) ?_
    (ChangeSpec.witness_shaped (enc := enc) (C := Tryd.checked) (os := os) (X := fun w _ => laidMetH Tryd.prog Rows.fnCardsRow.laid w) false (World.doorLaid Tryd.prog 400 os) #[.slice none 0 0] 8 rfl (World.shaped_of_RefB (by kernel_rfl) (by kernel_rfl)) (by kernel_rfl) (by kernel_rfl) (by kernel_rfl) (fnCards_met os _)) ?_
  · match ds, h with
    | [d0], _ => rfl
  · rw [Tryd.params3]
    intro t ht
    obtain rfl : t = 22 := by simpa using ht
    exact ⟨by kernel_rfl, of_decide_eq_true (by kernel_rfl)⟩
  · intro W base args ds ps hval hA hL hSh
    rw [Tryd.params3] at hA hval
    obtain ⟨v0, d0, rfl, rfl, h0⟩ := trodAll_one hA
    obtain ⟨A0, L0, c0, zs0, rfl, m0, r0⟩ := open_code (hval 0 22 v0 rfl rfl) h0
    rw [MakeChecks.laidMetH_plain _ _ _ (by kernel_rfl)] at hL
    exact walkCards A0 L0 c0 zs0 W (Lib.hid (tz_of hL)) m0 r0

theorem fnCards_holds : Rows.FnCardsSaid :=
  OpenClaim.holds_of_wide 3 Tryd.f3 rfl rfl rfl rfl rfl rfl rfl ⟨rfl, rfl, rfl, rfl, rfl⟩ rfl rfl rfl rfl rfl (by kernel_rfl) Tryd.func3 (by kernel_rfl)
    (of_decide_eq_true (by kernel_rfl)) (by unfold Func.isWrapper; first | (rw [if_pos (by decide +kernel)]; kernel_rfl) | (rw [if_neg (by decide +kernel)]; exact ⟨rfl, rfl⟩))
    (fun os started H enc _ => fnCards_lifted os started H enc)

/-- The tied card: cards are recovered from their text, and cards and the other cards are all cards: for every code. -/
theorem fnCards_card : Rows.FnCardsCardSaid :=
  Claim7.holds_tied_plain_at .later [] [.data] true (true, "5f210aec3848eb413fc8e9ec8f86da42ba83a95a036f2191cf6d57b3dfa72946") false
    fnCards_holds (fun _ h => by cases h) (by kernel_rfl) (fun _ h => by cases h) fnCards_row_tie rfl ⟨rfl, rfl⟩ (by kernel_rfl) rfl
    (fun f fn hf hfn => by
      obtain rfl : f = 3 := Option.some.inj ((show Tryd.prog.funcNamed "loop.example/g00910/laws.FnCards" = some 3 by kernel_rfl).symm.trans hf) |>.symm
      obtain rfl : fn = Tryd.f3 := (Option.some.inj (Tryd.func3.symm.trans hfn)).symm
      exact ⟨by kernel_rfl, fun j t ht => by
        rw [Tryd.params3] at ht
        have hm : t ∈ [22] := by simpa using Array.mem_of_getElem? ht
        have hall : ([22].all fun u => !Tryd.prog.wantsStandIn u) = true := by kernel_rfl
        exact (show Tryd.prog.wantsStandIn t = false by simpa using List.all_eq_true.1 hall t hm)⟩)
    (by kernel_rfl)

end Go.Proofs.YtoidchkgibngiaaDoor
