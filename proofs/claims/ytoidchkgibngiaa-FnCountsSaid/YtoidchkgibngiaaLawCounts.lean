/-
  The law FnCounts returns true for every code, and leaves it as it was: ranks and suits are counted over all cards, and a card is made of its rank and its suit.
  No condition.
-/
import Derived.Test.YtoidchkgibngiaaDrawn
import Derived.Test.YtoidchkgibngiaaSum
import Derived.Test.YtoidchkgibngiaaSpecCounts
import Derived.Test.YtoidchkgibngiaaRankOf
import Derived.Test.YtoidchkgibngiaaSuitOf
import Derived.Test.YtoidchkgibngiaaCardOf
import Derived.Lib.SmallJoins
namespace Go.Proofs.Ytoidchkgibngiaa
open Go.ChangeShapes Go.WideShapes Go.ChangeAt Go.RowKit Go.Joins
set_option linter.unusedVariables false

/-- What RanksIn and SuitsIn answer, and that their sums are the length. -/
theorem list_cases (xs : List Int) (hl : xs.length ≤ 4000000) :
    (∃ ys zs : List Int, ys.length ≤ 4000000 ∧ zs.length ≤ 4000000 ∧ Hid (ranksL xs = ys ∧ suitsL xs = zs ∧ codeC xs = 0 ∧ sumI ys ys.length = (xs.length : Int) ∧ sumI zs zs.length = (xs.length : Int) ∧ (∀ i, i < ys.length → 0 ≤ nth ys i ∧ nth ys i ≤ 4000000) ∧ (∀ i, i < zs.length → 0 ≤ nth zs i ∧ nth zs i ≤ 4000000))) ∨
    (∃ ys zs : List Int, ys.length ≤ 4000000 ∧ zs.length ≤ 4000000 ∧ Hid (ranksL xs = ys ∧ suitsL xs = zs ∧ codeC xs = 1)) := by
  by_cases h : cardsB xs = true
  · left
    have hc := (cards_iff xs).1 h |>.1
    refine ⟨cntL 13 (fun x => x / 4) xs, cntL 4 (fun x => x % 4) xs, by rw [cntL_length]; omega, by rw [cntL_length]; omega, Lib.hid ⟨?_, ?_, ?_, ?_, ?_, ?_, ?_⟩⟩
    · unfold ranksL; rw [if_pos h]
    · unfold suitsL; rw [if_pos h]
    · unfold codeC; rw [if_pos h]
    · exact sum_all 13 _ xs (fun x hx => by have := hc x hx; show 0 ≤ x / 4 ∧ x / 4 < ((13 : Nat) : Int); omega)
    · exact sum_all 4 _ xs (fun x hx => by have := hc x hx; show 0 ≤ x % 4 ∧ x % 4 < ((4 : Nat) : Int); omega)
    · exact cntL_bd 13 _ xs hl
    · exact cntL_bd 4 _ xs hl
  · right
    refine ⟨[], [], by simp, by simp, Lib.hid ⟨?_, ?_, ?_⟩⟩
    · unfold ranksL; rw [if_neg h]
    · unfold suitsL; rw [if_neg h]
    · unfold codeC; rw [if_neg h]
/-- A card is made of its rank and its suit. -/
theorem card_cases (x : Int) : (∃ r s : Int, Hid (rankR x = (r, 0) ∧ suitR x = (s, 0) ∧ cardR r s = (x, 0))) ∨ Hid (rankR x = (0, 2) ∧ suitR x = (0, 2)) := by
  by_cases h : 0 ≤ x ∧ x < 52
  · left
    refine ⟨x / 4, x % 4, Lib.hid ⟨rankR_yes x h.1 h.2, suitR_yes x h.1 h.2, ?_⟩⟩
    rw [cardR_yes _ _ (by omega) (by omega) (by omega) (by omega)]
    congr 1
    omega
  · right
    exact Lib.hid ⟨rankR_no x (by omega), suitR_no x (by omega)⟩

/-- A list's contracts, as its case gives them. -/
theorem hid_lc {f : FuncId} {xs ys : List Int} {k : Int} {g : List Int → List Int} (h : ∀ (A : Option Addr) (c : Nat) (W : World), Rd W A xs → Calls Try.prog f #[.slice A xs.length c] W (NewLC (g xs) (codeC xs) W)) (e : g xs = ys) (ek : codeC xs = k) :
    Hid (∀ (A : Option Addr) (c : Nat) (W : World), Rd W A xs → Calls Try.prog f #[.slice A xs.length c] W (NewLC ys k W)) := Lib.hid (fun A c W hr => by have := h A c W hr; rw [e, ek] at this; exact this)
theorem hid_pair {f : FuncId} {args : Array Value} {p : Int × Int} {x y : Int} (h : ∀ W : World, Calls Try.prog f args W (Same (pairV p.1 p.2) W)) (e : p = (x, y)) : Hid (∀ W : World, Calls Try.prog f args W (Same (pairV x y) W)) := Lib.hid (fun W => by have := h W; rw [e] at this; exact this)

set_option maxRecDepth 100000 in
set_option maxHeartbeats 4000000 in
theorem walkCounts_in (a : Option Addr) (L c : Nat) (zs : Nat → Int) (w : World) (hL : L ≤ 4096) (hc : CodeIn w a L zs) :
    Calls Try.prog 3 #[.slice a L c] w (Fresh (.bool true) w) := by
  have HC := Lib.hid hc
  clear hc
  go_enter Try.func3, Try.ntmps3
  go_wp2_with (go_at_call 12; ((with_reducible refine (big_no _ _ _ _ hL).mono ?_); rintro e w0 ⟨rfl, rfl⟩))
  go_wp2_with (go_at_call 13; ((with_reducible refine (drawRanksIn_any _ _ _ zs _ hL HC.out).mono ?_); rintro e w1 ⟨xs, A1, c1, rfl, hl, ho1, hb1⟩; have O1 := Lib.hid ho1; have B1 := Lib.hid hb1; clear ho1 hb1))
  have hl4 : xs.length ≤ 4000000 := by omega
  rcases list_cases xs hl4 with ⟨ys, zs2, hyl, hzl, HL⟩ | ⟨ys, zs2, hyl, hzl, HL⟩
  · have K1 : Hid (∀ (A : Option Addr) (c : Nat) (W : World), Rd W A xs → Calls Try.prog 14 #[.slice A xs.length c] W (NewLC ys 0 W)) := hid_lc (g := ranksL) (fun A c W h => implRanksIn_any A c xs W h hl4) HL.out.1 HL.out.2.2.1
    have K2 : Hid (∀ (A : Option Addr) (c : Nat) (W : World), Rd W A xs → Calls Try.prog 15 #[.slice A xs.length c] W (NewLC ys 0 W)) := hid_lc (g := ranksL) (fun A c W h => specRanksIn_any A c xs W h hl4) HL.out.1 HL.out.2.2.1
    have K3 : Hid (∀ (A : Option Addr) (c : Nat) (W : World), Rd W A xs → Calls Try.prog 16 #[.slice A xs.length c] W (NewLC zs2 0 W)) := hid_lc (g := suitsL) (fun A c W h => implSuitsIn_any A c xs W h hl4) HL.out.2.1 HL.out.2.2.1
    have K4 : Hid (∀ (A : Option Addr) (c : Nat) (W : World), Rd W A xs → Calls Try.prog 17 #[.slice A xs.length c] W (NewLC zs2 0 W)) := hid_lc (g := suitsL) (fun A c W h => specSuitsIn_any A c xs W h hl4) HL.out.2.1 HL.out.2.2.1
    have K5 : Hid (∀ (A : Option Addr) (c : Nat) (W : World), Rd W A ys → Calls Try.prog 27 #[.slice A ys.length c] W (Same (.int .i64 xs.length) W)) := Lib.hid (fun A c W h => by have := sum_any A c ys W h hyl HL.out.2.2.2.2.2.1; rw [HL.out.2.2.2.1] at this; exact this)
    have K6 : Hid (∀ (A : Option Addr) (c : Nat) (W : World), Rd W A zs2 → Calls Try.prog 27 #[.slice A zs2.length c] W (Same (.int .i64 xs.length) W)) := Lib.hid (fun A c W h => by have := sum_any A c zs2 W h hzl HL.out.2.2.2.2.2.2; rw [HL.out.2.2.2.2.1] at this; exact this)
    go_wp2_with (go_at_call 14; ((with_reducible refine (K1.out A1 _ _ O1.out.rd).mono ?_); rintro e w2 ⟨A2, c2, rfl, ho2, hb2⟩; have O2 := Lib.hid ho2; have X2 := Lib.hid hb2; have B2 := Lib.hid (bl_trans B1.out hb2); clear ho2 hb2))
    go_wp2_with (go_at_call 15; ((with_reducible refine (K2.out A1 _ _ (O1.out.below X2.out).rd).mono ?_); rintro e w3 ⟨A3, c3, rfl, ho3, hb3⟩; have O3 := Lib.hid ho3; have X3 := Lib.hid hb3; have B3 := Lib.hid (bl_trans B2.out hb3); clear ho3 hb3))
    go_wp2_with (go_at_call 16; ((with_reducible refine (K3.out A1 _ _ ((O1.out.below X2.out).below X3.out).rd).mono ?_); rintro e w4 ⟨A4, c4, rfl, ho4, hb4⟩; have O4 := Lib.hid ho4; have X4 := Lib.hid hb4; have B4 := Lib.hid (bl_trans B3.out hb4); clear ho4 hb4))
    go_wp2_with (go_at_call 17; ((with_reducible refine (K4.out A1 _ _ (((O1.out.below X2.out).below X3.out).below X4.out).rd).mono ?_); rintro e w5 ⟨A5, c5, rfl, ho5, hb5⟩; have O5 := Lib.hid ho5; have X5 := Lib.hid hb5; have B5 := Lib.hid (bl_trans B4.out hb5); clear ho5 hb5))
    go_wp2_with (go_at_call 18; ((with_reducible refine (drawRankOf_any _ _ _ zs _ hL (codeIn_below HC.out B5.out)).mono ?_); rintro e w6 ⟨x, rfl, x0, x1, hb6⟩; have X6 := Lib.hid hb6; have B6 := Lib.hid (bl_trans B5.out hb6); clear hb6))
    rcases card_cases x with ⟨r, s, HX⟩ | HX
    · have Q1 := hid_pair (fun W => implRankOf_any x W) HX.out.1
      have Q2 := hid_pair (fun W => specRankOf_any x W) HX.out.1
      have Q3 := hid_pair (fun W => implSuitOf_any x W) HX.out.2.1
      have Q4 := hid_pair (fun W => specSuitOf_any x W) HX.out.2.1
      have Q5 := hid_pair (fun W => implCardOf_any r s W) HX.out.2.2
      go_wp2_with (go_at_call 19; ((with_reducible refine (Q1.out _).mono ?_); rintro e w6b ⟨rfl, rfl⟩))
      go_wp2_with (go_at_call 20; ((with_reducible refine (Q2.out _).mono ?_); rintro e w6b ⟨rfl, rfl⟩))
      go_wp2_with (go_at_call 21; ((with_reducible refine (Q3.out _).mono ?_); rintro e w6b ⟨rfl, rfl⟩))
      go_wp2_with (go_at_call 22; ((with_reducible refine (Q4.out _).mono ?_); rintro e w6b ⟨rfl, rfl⟩))
      go_wp2_with (go_at_call 23; ((with_reducible refine (drawCardOf_any _ _ _ zs _ hL (codeIn_below HC.out B6.out)).mono ?_); rintro e w7 ⟨p, q, rfl, p0, p1, q0, q1, hb7⟩; have X7 := Lib.hid hb7; have B7 := Lib.hid (bl_trans B6.out hb7); clear hb7))
      obtain ⟨cv, kv, HP⟩ : ∃ cv kv : Int, Hid (cardR p q = (cv, kv)) := ⟨_, _, Lib.hid rfl⟩
      have Q6 := hid_pair (fun W => implCardOf_any p q W) HP.out
      have Q7 := hid_pair (fun W => specCardOf_any p q W) HP.out
      go_wp2_with (go_at_call 24; ((with_reducible refine (Q6.out _).mono ?_); rintro e w7b ⟨rfl, rfl⟩))
      go_wp2_with (go_at_call 25; ((with_reducible refine (Q7.out _).mono ?_); rintro e w7c ⟨rfl, rfl⟩))
      have R2 := Lib.hid (((((O2.out.below X3.out).below X4.out).below X5.out).below X6.out).below X7.out)
      have R3 := Lib.hid ((((O3.out.below X4.out).below X5.out).below X6.out).below X7.out)
      have R4 := Lib.hid (((O4.out.below X5.out).below X6.out).below X7.out)
      have R5 := Lib.hid ((O5.out.below X6.out).below X7.out)
      go_wp2_with (go_at_call 26; ((with_reducible refine (likeInts_same A2 A3 _ _ ys _ R2.out.rd R3.out.rd hyl).mono ?_); rintro e w8 ⟨rfl, hb8⟩; have X8 := Lib.hid hb8; have B8 := Lib.hid (bl_trans B7.out hb8); clear hb8))
      go_wp2_with (go_at_call 26; ((with_reducible refine (likeInts_same A4 A5 _ _ zs2 _ (R4.out.below X8.out).rd (R5.out.below X8.out).rd hzl).mono ?_); rintro e w9 ⟨rfl, hb9⟩; have X9 := Lib.hid hb9; have B9 := Lib.hid (bl_trans B8.out hb9); clear hb9))
      go_wp2_with (go_at_call 24; ((with_reducible refine (Q5.out _).mono ?_); rintro e w9b ⟨rfl, rfl⟩))
      go_wp2_with (go_at_call 27; ((with_reducible refine (K5.out A2 _ _ ((R2.out.below X8.out).below X9.out).rd).mono ?_); rintro e w10 ⟨rfl, rfl⟩))
      go_wp2_with (go_at_call 27; ((with_reducible refine (K6.out A4 _ _ ((R4.out.below X8.out).below X9.out).rd).mono ?_); rintro e w11 ⟨rfl, rfl⟩))
      go_ret
      exact ⟨rfl, B9.out⟩
    · have Q1 := hid_pair (fun W => implRankOf_any x W) HX.out.1
      have Q2 := hid_pair (fun W => specRankOf_any x W) HX.out.1
      have Q3 := hid_pair (fun W => implSuitOf_any x W) HX.out.2
      have Q4 := hid_pair (fun W => specSuitOf_any x W) HX.out.2
      go_wp2_with (go_at_call 19; ((with_reducible refine (Q1.out _).mono ?_); rintro e w6b ⟨rfl, rfl⟩))
      go_wp2_with (go_at_call 20; ((with_reducible refine (Q2.out _).mono ?_); rintro e w6b ⟨rfl, rfl⟩))
      go_wp2_with (go_at_call 21; ((with_reducible refine (Q3.out _).mono ?_); rintro e w6b ⟨rfl, rfl⟩))
      go_wp2_with (go_at_call 22; ((with_reducible refine (Q4.out _).mono ?_); rintro e w6b ⟨rfl, rfl⟩))
      go_wp2_with (go_at_call 23; ((with_reducible refine (drawCardOf_any _ _ _ zs _ hL (codeIn_below HC.out B6.out)).mono ?_); rintro e w7 ⟨p, q, rfl, p0, p1, q0, q1, hb7⟩; have X7 := Lib.hid hb7; have B7 := Lib.hid (bl_trans B6.out hb7); clear hb7))
      obtain ⟨cv, kv, HP⟩ : ∃ cv kv : Int, Hid (cardR p q = (cv, kv)) := ⟨_, _, Lib.hid rfl⟩
      have Q6 := hid_pair (fun W => implCardOf_any p q W) HP.out
      have Q7 := hid_pair (fun W => specCardOf_any p q W) HP.out
      go_wp2_with (go_at_call 24; ((with_reducible refine (Q6.out _).mono ?_); rintro e w7b ⟨rfl, rfl⟩))
      go_wp2_with (go_at_call 25; ((with_reducible refine (Q7.out _).mono ?_); rintro e w7c ⟨rfl, rfl⟩))
      have R2 := Lib.hid (((((O2.out.below X3.out).below X4.out).below X5.out).below X6.out).below X7.out)
      have R3 := Lib.hid ((((O3.out.below X4.out).below X5.out).below X6.out).below X7.out)
      have R4 := Lib.hid (((O4.out.below X5.out).below X6.out).below X7.out)
      have R5 := Lib.hid ((O5.out.below X6.out).below X7.out)
      go_wp2_with (go_at_call 26; ((with_reducible refine (likeInts_same A2 A3 _ _ ys _ R2.out.rd R3.out.rd hyl).mono ?_); rintro e w8 ⟨rfl, hb8⟩; have X8 := Lib.hid hb8; have B8 := Lib.hid (bl_trans B7.out hb8); clear hb8))
      go_wp2_with (go_at_call 26; ((with_reducible refine (likeInts_same A4 A5 _ _ zs2 _ (R4.out.below X8.out).rd (R5.out.below X8.out).rd hzl).mono ?_); rintro e w9 ⟨rfl, hb9⟩; have X9 := Lib.hid hb9; have B9 := Lib.hid (bl_trans B8.out hb9); clear hb9))
      go_wp2_with (go_at_call 27; ((with_reducible refine (K5.out A2 _ _ ((R2.out.below X8.out).below X9.out).rd).mono ?_); rintro e w10 ⟨rfl, rfl⟩))
      go_wp2_with (go_at_call 27; ((with_reducible refine (K6.out A4 _ _ ((R4.out.below X8.out).below X9.out).rd).mono ?_); rintro e w11 ⟨rfl, rfl⟩))
      go_ret
      exact ⟨rfl, B9.out⟩
  · have K1 : Hid (∀ (A : Option Addr) (c : Nat) (W : World), Rd W A xs → Calls Try.prog 14 #[.slice A xs.length c] W (NewLC ys 1 W)) := hid_lc (g := ranksL) (fun A c W h => implRanksIn_any A c xs W h hl4) HL.out.1 HL.out.2.2
    have K2 : Hid (∀ (A : Option Addr) (c : Nat) (W : World), Rd W A xs → Calls Try.prog 15 #[.slice A xs.length c] W (NewLC ys 1 W)) := hid_lc (g := ranksL) (fun A c W h => specRanksIn_any A c xs W h hl4) HL.out.1 HL.out.2.2
    have K3 : Hid (∀ (A : Option Addr) (c : Nat) (W : World), Rd W A xs → Calls Try.prog 16 #[.slice A xs.length c] W (NewLC zs2 1 W)) := hid_lc (g := suitsL) (fun A c W h => implSuitsIn_any A c xs W h hl4) HL.out.2.1 HL.out.2.2
    have K4 : Hid (∀ (A : Option Addr) (c : Nat) (W : World), Rd W A xs → Calls Try.prog 17 #[.slice A xs.length c] W (NewLC zs2 1 W)) := hid_lc (g := suitsL) (fun A c W h => specSuitsIn_any A c xs W h hl4) HL.out.2.1 HL.out.2.2
    go_wp2_with (go_at_call 14; ((with_reducible refine (K1.out A1 _ _ O1.out.rd).mono ?_); rintro e w2 ⟨A2, c2, rfl, ho2, hb2⟩; have O2 := Lib.hid ho2; have X2 := Lib.hid hb2; have B2 := Lib.hid (bl_trans B1.out hb2); clear ho2 hb2))
    go_wp2_with (go_at_call 15; ((with_reducible refine (K2.out A1 _ _ (O1.out.below X2.out).rd).mono ?_); rintro e w3 ⟨A3, c3, rfl, ho3, hb3⟩; have O3 := Lib.hid ho3; have X3 := Lib.hid hb3; have B3 := Lib.hid (bl_trans B2.out hb3); clear ho3 hb3))
    go_wp2_with (go_at_call 16; ((with_reducible refine (K3.out A1 _ _ ((O1.out.below X2.out).below X3.out).rd).mono ?_); rintro e w4 ⟨A4, c4, rfl, ho4, hb4⟩; have O4 := Lib.hid ho4; have X4 := Lib.hid hb4; have B4 := Lib.hid (bl_trans B3.out hb4); clear ho4 hb4))
    go_wp2_with (go_at_call 17; ((with_reducible refine (K4.out A1 _ _ (((O1.out.below X2.out).below X3.out).below X4.out).rd).mono ?_); rintro e w5 ⟨A5, c5, rfl, ho5, hb5⟩; have O5 := Lib.hid ho5; have X5 := Lib.hid hb5; have B5 := Lib.hid (bl_trans B4.out hb5); clear ho5 hb5))
    go_wp2_with (go_at_call 18; ((with_reducible refine (drawRankOf_any _ _ _ zs _ hL (codeIn_below HC.out B5.out)).mono ?_); rintro e w6 ⟨x, rfl, x0, x1, hb6⟩; have X6 := Lib.hid hb6; have B6 := Lib.hid (bl_trans B5.out hb6); clear hb6))
    rcases card_cases x with ⟨r, s, HX⟩ | HX
    · have Q1 := hid_pair (fun W => implRankOf_any x W) HX.out.1
      have Q2 := hid_pair (fun W => specRankOf_any x W) HX.out.1
      have Q3 := hid_pair (fun W => implSuitOf_any x W) HX.out.2.1
      have Q4 := hid_pair (fun W => specSuitOf_any x W) HX.out.2.1
      have Q5 := hid_pair (fun W => implCardOf_any r s W) HX.out.2.2
      go_wp2_with (go_at_call 19; ((with_reducible refine (Q1.out _).mono ?_); rintro e w6b ⟨rfl, rfl⟩))
      go_wp2_with (go_at_call 20; ((with_reducible refine (Q2.out _).mono ?_); rintro e w6b ⟨rfl, rfl⟩))
      go_wp2_with (go_at_call 21; ((with_reducible refine (Q3.out _).mono ?_); rintro e w6b ⟨rfl, rfl⟩))
      go_wp2_with (go_at_call 22; ((with_reducible refine (Q4.out _).mono ?_); rintro e w6b ⟨rfl, rfl⟩))
      go_wp2_with (go_at_call 23; ((with_reducible refine (drawCardOf_any _ _ _ zs _ hL (codeIn_below HC.out B6.out)).mono ?_); rintro e w7 ⟨p, q, rfl, p0, p1, q0, q1, hb7⟩; have X7 := Lib.hid hb7; have B7 := Lib.hid (bl_trans B6.out hb7); clear hb7))
      obtain ⟨cv, kv, HP⟩ : ∃ cv kv : Int, Hid (cardR p q = (cv, kv)) := ⟨_, _, Lib.hid rfl⟩
      have Q6 := hid_pair (fun W => implCardOf_any p q W) HP.out
      have Q7 := hid_pair (fun W => specCardOf_any p q W) HP.out
      go_wp2_with (go_at_call 24; ((with_reducible refine (Q6.out _).mono ?_); rintro e w7b ⟨rfl, rfl⟩))
      go_wp2_with (go_at_call 25; ((with_reducible refine (Q7.out _).mono ?_); rintro e w7c ⟨rfl, rfl⟩))
      have R2 := Lib.hid (((((O2.out.below X3.out).below X4.out).below X5.out).below X6.out).below X7.out)
      have R3 := Lib.hid ((((O3.out.below X4.out).below X5.out).below X6.out).below X7.out)
      have R4 := Lib.hid (((O4.out.below X5.out).below X6.out).below X7.out)
      have R5 := Lib.hid ((O5.out.below X6.out).below X7.out)
      go_wp2_with (go_at_call 26; ((with_reducible refine (likeInts_same A2 A3 _ _ ys _ R2.out.rd R3.out.rd hyl).mono ?_); rintro e w8 ⟨rfl, hb8⟩; have X8 := Lib.hid hb8; have B8 := Lib.hid (bl_trans B7.out hb8); clear hb8))
      go_wp2_with (go_at_call 26; ((with_reducible refine (likeInts_same A4 A5 _ _ zs2 _ (R4.out.below X8.out).rd (R5.out.below X8.out).rd hzl).mono ?_); rintro e w9 ⟨rfl, hb9⟩; have X9 := Lib.hid hb9; have B9 := Lib.hid (bl_trans B8.out hb9); clear hb9))
      go_wp2_with (go_at_call 24; ((with_reducible refine (Q5.out _).mono ?_); rintro e w9b ⟨rfl, rfl⟩))
      go_ret
      exact ⟨rfl, B9.out⟩
    · have Q1 := hid_pair (fun W => implRankOf_any x W) HX.out.1
      have Q2 := hid_pair (fun W => specRankOf_any x W) HX.out.1
      have Q3 := hid_pair (fun W => implSuitOf_any x W) HX.out.2
      have Q4 := hid_pair (fun W => specSuitOf_any x W) HX.out.2
      go_wp2_with (go_at_call 19; ((with_reducible refine (Q1.out _).mono ?_); rintro e w6b ⟨rfl, rfl⟩))
      go_wp2_with (go_at_call 20; ((with_reducible refine (Q2.out _).mono ?_); rintro e w6b ⟨rfl, rfl⟩))
      go_wp2_with (go_at_call 21; ((with_reducible refine (Q3.out _).mono ?_); rintro e w6b ⟨rfl, rfl⟩))
      go_wp2_with (go_at_call 22; ((with_reducible refine (Q4.out _).mono ?_); rintro e w6b ⟨rfl, rfl⟩))
      go_wp2_with (go_at_call 23; ((with_reducible refine (drawCardOf_any _ _ _ zs _ hL (codeIn_below HC.out B6.out)).mono ?_); rintro e w7 ⟨p, q, rfl, p0, p1, q0, q1, hb7⟩; have X7 := Lib.hid hb7; have B7 := Lib.hid (bl_trans B6.out hb7); clear hb7))
      obtain ⟨cv, kv, HP⟩ : ∃ cv kv : Int, Hid (cardR p q = (cv, kv)) := ⟨_, _, Lib.hid rfl⟩
      have Q6 := hid_pair (fun W => implCardOf_any p q W) HP.out
      have Q7 := hid_pair (fun W => specCardOf_any p q W) HP.out
      go_wp2_with (go_at_call 24; ((with_reducible refine (Q6.out _).mono ?_); rintro e w7b ⟨rfl, rfl⟩))
      go_wp2_with (go_at_call 25; ((with_reducible refine (Q7.out _).mono ?_); rintro e w7c ⟨rfl, rfl⟩))
      have R2 := Lib.hid (((((O2.out.below X3.out).below X4.out).below X5.out).below X6.out).below X7.out)
      have R3 := Lib.hid ((((O3.out.below X4.out).below X5.out).below X6.out).below X7.out)
      have R4 := Lib.hid (((O4.out.below X5.out).below X6.out).below X7.out)
      have R5 := Lib.hid ((O5.out.below X6.out).below X7.out)
      go_wp2_with (go_at_call 26; ((with_reducible refine (likeInts_same A2 A3 _ _ ys _ R2.out.rd R3.out.rd hyl).mono ?_); rintro e w8 ⟨rfl, hb8⟩; have X8 := Lib.hid hb8; have B8 := Lib.hid (bl_trans B7.out hb8); clear hb8))
      go_wp2_with (go_at_call 26; ((with_reducible refine (likeInts_same A4 A5 _ _ zs2 _ (R4.out.below X8.out).rd (R5.out.below X8.out).rd hzl).mono ?_); rintro e w9 ⟨rfl, hb9⟩; have X9 := Lib.hid hb9; have B9 := Lib.hid (bl_trans B8.out hb9); clear hb9))
      go_ret
      exact ⟨rfl, B9.out⟩

set_option maxRecDepth 100000 in
set_option maxHeartbeats 400000 in
theorem walkCounts_big (a : Option Addr) (L c : Nat) (w : World) (hm : L ≤ maxLen) (h : 4096 < L) :
    Calls Try.prog 3 #[.slice a L c] w (Fresh (.bool true) w) := by
  unfold maxLen at hm
  go_enter Try.func3, Try.ntmps3
  go_wp2_with (go_at_call 12; refine (big_yes _ _ _ _ h (by omega)).mono ?_; rintro e w0 ⟨rfl, rfl⟩)
  go_ret
  exact ⟨rfl, bl_refl _⟩
theorem walkCounts (a : Option Addr) (L c : Nat) (zs : Nat → Int) (w : World) (hm : L ≤ maxLen) (hc : CodeIn w a L zs) :
    Calls Try.prog 3 #[.slice a L c] w (Fresh (.bool true) w) := by
  by_cases h : L ≤ 4096
  · exact walkCounts_in a L c zs w h hc
  · exact walkCounts_big a L c w hm (by omega)

set_option maxRecDepth 100000 in
theorem fnCounts_lifted (os : Os) (started : os.Started) (H : Type) (enc : TypeId × Value → H) :
    ReturnsInHanded {} Try.checked os 3 .any (Rows.fnCountsSpec.pre6 enc Try.prog Try.f3 Rows.fnCountsRow.domain false) (Rows.fnCountsSpec.post enc Try.prog Try.f3 false true false false) := by
  refine law_lifted started (by kernel_rfl) Try.func3 (by kernel_rfl) rfl (fun ds h => ?_) ?_
    (ChangeSpec.witness6 (enc := enc) (C := Try.checked) false ⟨#[], #[.slice none 0 0], []⟩ 8 (by kernel_rfl) (by kernel_rfl) (by kernel_rfl) (by kernel_rfl)) ?_
  · match ds, h with
    | [d0], _ => rfl
  · rw [Try.params3]
    intro t ht
    obtain rfl : t = 22 := by simpa using ht
    exact ⟨by kernel_rfl, of_decide_eq_true (by kernel_rfl)⟩
  · intro W base args ds ps hval hA
    rw [Try.params3] at hA hval
    obtain ⟨v0, d0, rfl, rfl, h0⟩ := trodAll_one hA
    obtain ⟨A0, L0, c0, zs0, rfl, m0, r0⟩ := open_code (hval 0 22 v0 rfl rfl) h0
    exact walkCounts A0 L0 c0 zs0 W m0 r0

/-- Ranks and suits are counted over all cards, and a card is made of its rank and its suit: for every code. -/
theorem fnCounts_holds : Rows.FnCountsSaid :=
  OpenClaim.holds_of_wide 3 Try.f3 rfl rfl rfl rfl rfl rfl rfl ⟨rfl, rfl, rfl, rfl, rfl⟩ rfl rfl rfl rfl rfl (by kernel_rfl) Try.func3 (by kernel_rfl)
    (of_decide_eq_true (by kernel_rfl)) (by unfold Func.isWrapper; first | (rw [if_pos (by decide +kernel)]; kernel_rfl) | (rw [if_neg (by decide +kernel)]; exact ⟨rfl, rfl⟩))
    (fun os started H enc _ => fnCounts_lifted os started H enc)

end Go.Proofs.Ytoidchkgibngiaa
