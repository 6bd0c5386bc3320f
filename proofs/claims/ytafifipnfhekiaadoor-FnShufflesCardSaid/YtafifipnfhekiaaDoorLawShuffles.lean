/-
  The card of the law FnShuffles: it returns true for every code, and leaves it as it was: a shuffled deck is a deck, and cutting and cutting back restores it.
  Condition: the table math/bits.deBruijn64tab reads as the program lays it (the card ties it).
-/
import Derived.Test.YtafifipnfhekiaaDoorDrawSeed
import Derived.Test.YtafifipnfhekiaaDoorDrawnCut
import Derived.Test.YtafifipnfhekiaaDoorShufImpl
import Derived.Test.YtafifipnfhekiaaDoorCutImpl
import Derived.Test.YtafifipnfhekiaaDoorSpecCut
import Derived.Test.YtafifipnfhekiaaDoorSeed
import Derived.Test.YtafifipnfhekiaaDoorLike
import Derived.Test.YtafifipnfhekiaaDoorTzLaid
import Derived.Test.YtafifipnfhekiaaDoorCards
import Derived.SevenTiedAt
import Derived.Lib.SmallJoins
namespace Go.Proofs.YtafifipnfhekiaaDoor
open Go.ChangeShapes Go.WideShapes Go.ChangeAt Go.RowKit Go.Joins
set_option linter.unusedVariables false

theorem shuf_cases (s : Int) : ∃ (ds : List Int) (kd : Int), ds.length ≤ 52 ∧ Hid (shufR s = ds ∧ codeSh s = kd) ∧ Hid ((kd = 0 ∧ deckB ds = true) ∨ kd = 2) := by
  refine ⟨_, _, shufR_len s, Lib.hid ⟨rfl, rfl⟩, Lib.hid ?_⟩
  by_cases h : inB s 1 2147483646 = true
  · rw [(shufR_yes h).1, (shufR_yes h).2]
    exact .inl ⟨rfl, shuffled_deck s⟩
  · exact .inr (shufR_no (by simpa using h)).2
theorem next_cases (x : Int) : ∃ (nx kx : Int), Hid (nextR x = (nx, kx)) ∧ Hid ((kx = 0 ∧ 1 ≤ nx ∧ nx ≤ 2147483646) ∨ kx = 2) := by
  by_cases h : inB x 1 2147483646 = true
  · obtain ⟨h0, h1⟩ := seed_bd h
    have hb := nextS_bd x
    exact ⟨_, _, Lib.hid (nextR_yes h), Lib.hid (.inl ⟨rfl, nextS_pos x h0 h1, by omega⟩)⟩
  · exact ⟨_, _, Lib.hid (nextR_no (by simpa using h)), Lib.hid (.inr rfl)⟩
theorem cut_cases (xs : List Int) (n : Int) : ∃ (cs : List Int) (kc : Int), cs.length ≤ 52 ∧ Hid (cutR xs n = cs ∧ codeD xs (inB n 0 52) = kc) ∧ Hid ((kc = 0 ∧ 0 ≤ n ∧ n ≤ 52 ∧ cutR cs (52 - n) = xs ∧ codeD cs (inB (52 - n) 0 52) = 0) ∨ (kc == 0) = false) := by
  refine ⟨_, _, cutR_len xs n, Lib.hid ⟨rfl, rfl⟩, Lib.hid ?_⟩
  by_cases hd : deckB xs = true
  · by_cases hx : inB n 0 52 = true
    · obtain ⟨h0, h1⟩ := count_bd hx
      have hl := ((deck_iff xs).1 hd).1
      have h2 : inB (52 - n) 0 52 = true := inB_yes _ _ _ (by omega) (by omega)
      have hc := cut_deck n.toNat xs hd (by omega)
      have e : (52 - n).toNat = 52 - n.toNat := by omega
      rw [cutR_yes hd hx, hx, codeD_yes hd, cutR_yes hc h2, h2, codeD_yes hc, e]
      exact .inl ⟨rfl, h0, h1, cut_back n.toNat xs hl (by omega), rfl⟩
    · have hx' : inB n 0 52 = false := by simpa using hx
      rw [hx', codeD_rng hd]
      exact .inr (by decide)
  · rw [codeD_no (by simpa using hd)]
    exact .inr (by decide)

set_option maxRecDepth 100000 in
set_option maxHeartbeats 4000000 in
theorem walkShuffles_in (a : Option Addr) (L c : Nat) (zs : Nat → Int) (w : World) (HT : Hid (Tz w.heap.size w)) (hL : L ≤ 4096) (hc : CodeIn w a L zs) :
    Calls Tryd.prog 3 #[.slice a L c] w (Fresh (.bool true) w) := by
  have HC := Lib.hid hc
  clear hc
  go_enter Tryd.func3, Tryd.ntmps3
  go_wp2_with (go_at_call 5; ((with_reducible refine (big_no _ _ _ _ hL).mono ?_); rintro e w0 ⟨rfl, rfl⟩))
  go_wp2_with (go_at_call 6; ((with_reducible refine (drawShuffledDeck_any _ _ _ zs _ hL HC.out).mono ?_); rintro e w1 ⟨s1, rfl, hb1⟩; have B1 := Lib.hid hb1; clear hb1))
  obtain ⟨ds, kd, hdl, HD, HDC⟩ := shuf_cases s1
  have K1 : Hid (∀ W : World, Below w.heap.size w W → Calls Tryd.prog 7 #[.int .i64 s1] W (NewRC ds kd W)) := Lib.hid (fun W hb => by have := implShufDeck_any s1 w.heap.size w W HT (Lib.hid hb) (Lib.hid hb.size); rw [HD.out.1, HD.out.2] at this; exact this)
  have K2 : Hid (∀ W : World, Calls Tryd.prog 8 #[.int .i64 s1] W (NewRC ds kd W)) := Lib.hid (fun W => by have := specShufDeck_any s1 W; rw [HD.out.1, HD.out.2] at this; exact this)
  go_wp2_with (go_at_call 7; ((with_reducible refine (K1.out _ B1.out).mono ?_); rintro e w2 ⟨A2, c2, rfl, ho2, hb2⟩; have O2 := Lib.hid ho2; have X2 := Lib.hid hb2; have B2 := Lib.hid (bl_trans B1.out hb2); clear ho2 hb2))
  go_wp2_with (go_at_call 8; ((with_reducible refine (K2.out _).mono ?_); rintro e w3 ⟨A3, c3, rfl, ho3, hb3⟩; have O3 := Lib.hid ho3; have X3 := Lib.hid hb3; have B3 := Lib.hid (bl_trans B2.out hb3); clear ho3 hb3))
  go_wp2_with (go_at_call 9; ((with_reducible refine (drawCutDeck_any _ _ _ zs _ hL (codeIn_below HC.out B3.out)).mono ?_); rintro e w4 ⟨xs, A4, c4, n, rfl, hl, hcap, hr4, hb4⟩; have R4 := Lib.hid hr4; have X4 := Lib.hid hb4; have B4 := Lib.hid (bl_trans B3.out hb4); clear hr4 hb4))
  have hl4 : xs.length ≤ 4000000 := by omega
  obtain ⟨cs, kc, hcl, HCR, HCC⟩ := cut_cases xs n
  have K3 : Hid (∀ (A : Option Addr) (c : Nat) (W : World), Rd W A xs → Calls Tryd.prog 10 #[.slice A xs.length c, .int .i64 n] W (NewRC cs kc W)) := Lib.hid (fun A c W h => by have := implCut_any A c xs n W h hl4; rw [HCR.out.1, HCR.out.2] at this; exact this)
  have K4 : Hid (∀ (A : Option Addr) (c : Nat) (W : World), Rd W A xs → xs.length ≤ c → Calls Tryd.prog 11 #[.slice A xs.length c, .int .i64 n] W (NewRC cs kc W)) := Lib.hid (fun A c W h hc => by have := specCut_any A c xs n W h hl4 hc; rw [HCR.out.1, HCR.out.2] at this; exact this)
  go_wp2_with (go_at_call 10; ((with_reducible refine (K3.out A4 _ _ R4.out).mono ?_); rintro e w5 ⟨A5, c5, rfl, ho5, hb5⟩; have O5 := Lib.hid ho5; have X5 := Lib.hid hb5; have B5 := Lib.hid (bl_trans B4.out hb5); clear ho5 hb5))
  go_wp2_with (go_at_call 11; ((with_reducible refine (K4.out A4 _ _ (R4.out.below X5.out) hcap).mono ?_); rintro e w6 ⟨A6, c6, rfl, ho6, hb6⟩; have O6 := Lib.hid ho6; have X6 := Lib.hid hb6; have B6 := Lib.hid (bl_trans B5.out hb6); clear ho6 hb6))
  go_wp2_with (go_at_call 12; ((with_reducible refine (drawNextSeed_any _ _ _ zs _ hL (codeIn_below HC.out B6.out)).mono ?_); rintro e w7 ⟨s2, rfl, hb7⟩; have X7 := Lib.hid hb7; have B7 := Lib.hid (bl_trans B6.out hb7); clear hb7))
  obtain ⟨nx, kx, HNR, HNC⟩ := next_cases s2
  have K5 : Hid (∀ W : World, Calls Tryd.prog 13 #[.int .i64 s2] W (Fresh (pairV nx kx) W)) := Lib.hid (fun W => by have := implNextSeed_any s2 W; rw [HNR.out] at this; exact this)
  have K6 : Hid (∀ W : World, Calls Tryd.prog 14 #[.int .i64 s2] W (Same (pairV nx kx) W)) := Lib.hid (fun W => by have := specNextSeed_any s2 W; rw [HNR.out] at this; exact this)
  go_wp2_with (go_at_call 13; ((with_reducible refine (K5.out _).mono ?_); rintro e w8 ⟨rfl, hb8⟩; have X8 := Lib.hid hb8; have B8 := Lib.hid (bl_trans B7.out hb8); clear hb8))
  go_wp2_with (go_at_call 14; ((with_reducible refine (K6.out _).mono ?_); rintro e w8b ⟨rfl, rfl⟩))
  have Q2 := Lib.hid ((((((O2.out.below X3.out).below X4.out).below X5.out).below X6.out).below X7.out).below X8.out)
  have Q3 := Lib.hid (((((O3.out.below X4.out).below X5.out).below X6.out).below X7.out).below X8.out)
  have Q4 := Lib.hid ((((R4.out.below X5.out).below X6.out).below X7.out).below X8.out)
  have Q5 := Lib.hid (((O5.out.below X6.out).below X7.out).below X8.out)
  have Q6 := Lib.hid ((O6.out.below X7.out).below X8.out)
  have hdl4 : ds.length ≤ 4000000 := by omega
  have hcl4 : cs.length ≤ 4000000 := by omega
  rcases HNC.out with ⟨rfl, hn0, hn1⟩ | rfl
  · rcases HCC.out with ⟨rfl, h0, h1, hc1, hc2⟩ | hkc
    · have K7 : Hid (∀ (A : Option Addr) (c : Nat) (W : World), Rd W A cs → Calls Tryd.prog 10 #[.slice A cs.length c, .int .i64 (52 - n)] W (NewRC xs 0 W)) := Lib.hid (fun A c W h => by have := implCut_any A c cs (52 - n) W h hcl4; rw [hc1, hc2] at this; exact this)
      clear hc1 hc2
      rcases HDC.out with ⟨rfl, hds⟩ | rfl
      · have K8 : Hid (∀ (A : Option Addr) (c : Nat) (W : World), Rd W A ds → Calls Tryd.prog 16 #[.slice A ds.length c] W (Same (.bool true) W)) := Lib.hid (fun A c W h => by have := implIsDeck_any A c ds W h hdl4; rw [hds] at this; exact this)
        clear hds
        go_wp2_with (go_at_call 15; first | ((with_reducible refine (likeInts_same A2 A3 _ _ ds _ Q2.out.rd Q3.out.rd hdl4).mono ?_); rintro e w9 ⟨rfl, hb9⟩; have X9 := Lib.hid hb9; have B9 := Lib.hid (bl_trans B8.out hb9); clear hb9))
        go_wp2_with (go_at_call 15; ((with_reducible refine (likeInts_same A5 A6 _ _ cs _ (Q5.out.below X9.out).rd (Q6.out.below X9.out).rd hcl4).mono ?_); rintro e w10 ⟨rfl, hb10⟩; have X10 := Lib.hid hb10; have B10 := Lib.hid (bl_trans B9.out hb10); clear hb10))
        have T5 := Lib.hid ((Q5.out.below X9.out).below X10.out)
        have T4 := Lib.hid ((Q4.out.below X9.out).below X10.out)
        have T2 := Lib.hid ((Q2.out.below X9.out).below X10.out)
        go_wp2_with (go_at_call 10; ((with_reducible refine (K7.out A5 _ _ T5.out.rd).mono ?_); rintro e w11 ⟨A11, c11, rfl, ho11, hb11⟩; have O11 := Lib.hid ho11; have X11 := Lib.hid hb11; have B11 := Lib.hid (bl_trans B10.out hb11); clear ho11 hb11))
        go_wp2_with (go_at_call 15; ((with_reducible refine (likeInts_same A11 A4 _ _ xs _ O11.out.rd (T4.out.below X11.out) hl4).mono ?_); rintro e w12 ⟨rfl, hb12⟩; have X12 := Lib.hid hb12; have B12 := Lib.hid (bl_trans B11.out hb12); clear hb12))
        go_wp2_with (go_at_call 16; ((with_reducible refine (K8.out A2 _ _ ((T2.out.below X11.out).below X12.out).rd).mono ?_); rintro e w13 ⟨rfl, rfl⟩))
        go_ret
        exact ⟨rfl, B12.out⟩
      · go_wp2_with (go_at_call 15; first | ((with_reducible refine (likeInts_same A2 A3 _ _ ds _ Q2.out.rd Q3.out.rd hdl4).mono ?_); rintro e w9 ⟨rfl, hb9⟩; have X9 := Lib.hid hb9; have B9 := Lib.hid (bl_trans B8.out hb9); clear hb9))
        go_wp2_with (go_at_call 15; ((with_reducible refine (likeInts_same A5 A6 _ _ cs _ (Q5.out.below X9.out).rd (Q6.out.below X9.out).rd hcl4).mono ?_); rintro e w10 ⟨rfl, hb10⟩; have X10 := Lib.hid hb10; have B10 := Lib.hid (bl_trans B9.out hb10); clear hb10))
        have T5 := Lib.hid ((Q5.out.below X9.out).below X10.out)
        have T4 := Lib.hid ((Q4.out.below X9.out).below X10.out)
        have T2 := Lib.hid ((Q2.out.below X9.out).below X10.out)
        go_wp2_with (go_at_call 10; ((with_reducible refine (K7.out A5 _ _ T5.out.rd).mono ?_); rintro e w11 ⟨A11, c11, rfl, ho11, hb11⟩; have O11 := Lib.hid ho11; have X11 := Lib.hid hb11; have B11 := Lib.hid (bl_trans B10.out hb11); clear ho11 hb11))
        go_wp2_with (go_at_call 15; ((with_reducible refine (likeInts_same A11 A4 _ _ xs _ O11.out.rd (T4.out.below X11.out) hl4).mono ?_); rintro e w12 ⟨rfl, hb12⟩; have X12 := Lib.hid hb12; have B12 := Lib.hid (bl_trans B11.out hb12); clear hb12))
        go_ret
        exact ⟨rfl, B12.out⟩
    · have hkc2 : (kc != 0) = true := by unfold bne; rw [hkc]; rfl
      rcases HDC.out with ⟨rfl, hds⟩ | rfl
      · have K8 : Hid (∀ (A : Option Addr) (c : Nat) (W : World), Rd W A ds → Calls Tryd.prog 16 #[.slice A ds.length c] W (Same (.bool true) W)) := Lib.hid (fun A c W h => by have := implIsDeck_any A c ds W h hdl4; rw [hds] at this; exact this)
        clear hds
        go_wp2_with (go_at_call 15; first | ((with_reducible refine (likeInts_same A2 A3 _ _ ds _ Q2.out.rd Q3.out.rd hdl4).mono ?_); rintro e w9 ⟨rfl, hb9⟩; have X9 := Lib.hid hb9; have B9 := Lib.hid (bl_trans B8.out hb9); clear hb9))
        go_wp2_with (go_at_call 15; ((with_reducible refine (likeInts_same A5 A6 _ _ cs _ (Q5.out.below X9.out).rd (Q6.out.below X9.out).rd hcl4).mono ?_); rintro e w10 ⟨rfl, hb10⟩; have X10 := Lib.hid hb10; have B10 := Lib.hid (bl_trans B9.out hb10); clear hb10))
        have T5 := Lib.hid ((Q5.out.below X9.out).below X10.out)
        have T4 := Lib.hid ((Q4.out.below X9.out).below X10.out)
        have T2 := Lib.hid ((Q2.out.below X9.out).below X10.out)
        go_wp2_with (go_at_call 16; ((with_reducible refine (K8.out A2 _ _ T2.out.rd).mono ?_); rintro e w13 ⟨rfl, rfl⟩))
        go_ret
        exact ⟨rfl, B10.out⟩
      · go_wp2_with (go_at_call 15; first | ((with_reducible refine (likeInts_same A2 A3 _ _ ds _ Q2.out.rd Q3.out.rd hdl4).mono ?_); rintro e w9 ⟨rfl, hb9⟩; have X9 := Lib.hid hb9; have B9 := Lib.hid (bl_trans B8.out hb9); clear hb9))
        go_wp2_with (go_at_call 15; ((with_reducible refine (likeInts_same A5 A6 _ _ cs _ (Q5.out.below X9.out).rd (Q6.out.below X9.out).rd hcl4).mono ?_); rintro e w10 ⟨rfl, hb10⟩; have X10 := Lib.hid hb10; have B10 := Lib.hid (bl_trans B9.out hb10); clear hb10))
        have T5 := Lib.hid ((Q5.out.below X9.out).below X10.out)
        have T4 := Lib.hid ((Q4.out.below X9.out).below X10.out)
        have T2 := Lib.hid ((Q2.out.below X9.out).below X10.out)
        go_ret
        exact ⟨rfl, B10.out⟩
  · rcases HCC.out with ⟨rfl, h0, h1, hc1, hc2⟩ | hkc
    · have K7 : Hid (∀ (A : Option Addr) (c : Nat) (W : World), Rd W A cs → Calls Tryd.prog 10 #[.slice A cs.length c, .int .i64 (52 - n)] W (NewRC xs 0 W)) := Lib.hid (fun A c W h => by have := implCut_any A c cs (52 - n) W h hcl4; rw [hc1, hc2] at this; exact this)
      clear hc1 hc2
      rcases HDC.out with ⟨rfl, hds⟩ | rfl
      · have K8 : Hid (∀ (A : Option Addr) (c : Nat) (W : World), Rd W A ds → Calls Tryd.prog 16 #[.slice A ds.length c] W (Same (.bool true) W)) := Lib.hid (fun A c W h => by have := implIsDeck_any A c ds W h hdl4; rw [hds] at this; exact this)
        clear hds
        go_wp2_with (go_at_call 15; first | ((with_reducible refine (likeInts_same A2 A3 _ _ ds _ Q2.out.rd Q3.out.rd hdl4).mono ?_); rintro e w9 ⟨rfl, hb9⟩; have X9 := Lib.hid hb9; have B9 := Lib.hid (bl_trans B8.out hb9); clear hb9))
        go_wp2_with (go_at_call 15; ((with_reducible refine (likeInts_same A5 A6 _ _ cs _ (Q5.out.below X9.out).rd (Q6.out.below X9.out).rd hcl4).mono ?_); rintro e w10 ⟨rfl, hb10⟩; have X10 := Lib.hid hb10; have B10 := Lib.hid (bl_trans B9.out hb10); clear hb10))
        have T5 := Lib.hid ((Q5.out.below X9.out).below X10.out)
        have T4 := Lib.hid ((Q4.out.below X9.out).below X10.out)
        have T2 := Lib.hid ((Q2.out.below X9.out).below X10.out)
        go_wp2_with (go_at_call 10; ((with_reducible refine (K7.out A5 _ _ T5.out.rd).mono ?_); rintro e w11 ⟨A11, c11, rfl, ho11, hb11⟩; have O11 := Lib.hid ho11; have X11 := Lib.hid hb11; have B11 := Lib.hid (bl_trans B10.out hb11); clear ho11 hb11))
        go_wp2_with (go_at_call 15; ((with_reducible refine (likeInts_same A11 A4 _ _ xs _ O11.out.rd (T4.out.below X11.out) hl4).mono ?_); rintro e w12 ⟨rfl, hb12⟩; have X12 := Lib.hid hb12; have B12 := Lib.hid (bl_trans B11.out hb12); clear hb12))
        go_wp2_with (go_at_call 16; ((with_reducible refine (K8.out A2 _ _ ((T2.out.below X11.out).below X12.out).rd).mono ?_); rintro e w13 ⟨rfl, rfl⟩))
        go_ret
        exact ⟨rfl, B12.out⟩
      · go_wp2_with (go_at_call 15; first | ((with_reducible refine (likeInts_same A2 A3 _ _ ds _ Q2.out.rd Q3.out.rd hdl4).mono ?_); rintro e w9 ⟨rfl, hb9⟩; have X9 := Lib.hid hb9; have B9 := Lib.hid (bl_trans B8.out hb9); clear hb9))
        go_wp2_with (go_at_call 15; ((with_reducible refine (likeInts_same A5 A6 _ _ cs _ (Q5.out.below X9.out).rd (Q6.out.below X9.out).rd hcl4).mono ?_); rintro e w10 ⟨rfl, hb10⟩; have X10 := Lib.hid hb10; have B10 := Lib.hid (bl_trans B9.out hb10); clear hb10))
        have T5 := Lib.hid ((Q5.out.below X9.out).below X10.out)
        have T4 := Lib.hid ((Q4.out.below X9.out).below X10.out)
        have T2 := Lib.hid ((Q2.out.below X9.out).below X10.out)
        go_wp2_with (go_at_call 10; ((with_reducible refine (K7.out A5 _ _ T5.out.rd).mono ?_); rintro e w11 ⟨A11, c11, rfl, ho11, hb11⟩; have O11 := Lib.hid ho11; have X11 := Lib.hid hb11; have B11 := Lib.hid (bl_trans B10.out hb11); clear ho11 hb11))
        go_wp2_with (go_at_call 15; ((with_reducible refine (likeInts_same A11 A4 _ _ xs _ O11.out.rd (T4.out.below X11.out) hl4).mono ?_); rintro e w12 ⟨rfl, hb12⟩; have X12 := Lib.hid hb12; have B12 := Lib.hid (bl_trans B11.out hb12); clear hb12))
        go_ret
        exact ⟨rfl, B12.out⟩
    · have hkc2 : (kc != 0) = true := by unfold bne; rw [hkc]; rfl
      rcases HDC.out with ⟨rfl, hds⟩ | rfl
      · have K8 : Hid (∀ (A : Option Addr) (c : Nat) (W : World), Rd W A ds → Calls Tryd.prog 16 #[.slice A ds.length c] W (Same (.bool true) W)) := Lib.hid (fun A c W h => by have := implIsDeck_any A c ds W h hdl4; rw [hds] at this; exact this)
        clear hds
        go_wp2_with (go_at_call 15; first | ((with_reducible refine (likeInts_same A2 A3 _ _ ds _ Q2.out.rd Q3.out.rd hdl4).mono ?_); rintro e w9 ⟨rfl, hb9⟩; have X9 := Lib.hid hb9; have B9 := Lib.hid (bl_trans B8.out hb9); clear hb9))
        go_wp2_with (go_at_call 15; ((with_reducible refine (likeInts_same A5 A6 _ _ cs _ (Q5.out.below X9.out).rd (Q6.out.below X9.out).rd hcl4).mono ?_); rintro e w10 ⟨rfl, hb10⟩; have X10 := Lib.hid hb10; have B10 := Lib.hid (bl_trans B9.out hb10); clear hb10))
        have T5 := Lib.hid ((Q5.out.below X9.out).below X10.out)
        have T4 := Lib.hid ((Q4.out.below X9.out).below X10.out)
        have T2 := Lib.hid ((Q2.out.below X9.out).below X10.out)
        go_wp2_with (go_at_call 16; ((with_reducible refine (K8.out A2 _ _ T2.out.rd).mono ?_); rintro e w13 ⟨rfl, rfl⟩))
        go_ret
        exact ⟨rfl, B10.out⟩
      · go_wp2_with (go_at_call 15; first | ((with_reducible refine (likeInts_same A2 A3 _ _ ds _ Q2.out.rd Q3.out.rd hdl4).mono ?_); rintro e w9 ⟨rfl, hb9⟩; have X9 := Lib.hid hb9; have B9 := Lib.hid (bl_trans B8.out hb9); clear hb9))
        go_wp2_with (go_at_call 15; ((with_reducible refine (likeInts_same A5 A6 _ _ cs _ (Q5.out.below X9.out).rd (Q6.out.below X9.out).rd hcl4).mono ?_); rintro e w10 ⟨rfl, hb10⟩; have X10 := Lib.hid hb10; have B10 := Lib.hid (bl_trans B9.out hb10); clear hb10))
        have T5 := Lib.hid ((Q5.out.below X9.out).below X10.out)
        have T4 := Lib.hid ((Q4.out.below X9.out).below X10.out)
        have T2 := Lib.hid ((Q2.out.below X9.out).below X10.out)
        go_ret
        exact ⟨rfl, B10.out⟩

set_option maxRecDepth 100000 in
set_option maxHeartbeats 400000 in
theorem walkShuffles_big (a : Option Addr) (L c : Nat) (w : World) (hm : L ≤ maxLen) (h : 4096 < L) :
    Calls Tryd.prog 3 #[.slice a L c] w (Fresh (.bool true) w) := by
  unfold maxLen at hm
  go_enter Tryd.func3, Tryd.ntmps3
  go_wp2_with (go_at_call 5; refine (big_yes _ _ _ _ h (by omega)).mono ?_; rintro e w0 ⟨rfl, rfl⟩)
  go_ret
  exact ⟨rfl, bl_refl _⟩
theorem walkShuffles (a : Option Addr) (L c : Nat) (zs : Nat → Int) (w : World) (HT : Hid (Tz w.heap.size w)) (hm : L ≤ maxLen) (hc : CodeIn w a L zs) :
    Calls Tryd.prog 3 #[.slice a L c] w (Fresh (.bool true) w) := by
  by_cases h : L ≤ 4096
  · exact walkShuffles_in a L c zs w HT h hc
  · exact walkShuffles_big a L c w hm (by omega)

theorem fnShuffles_met (os : Os) (args : Array Value) : laidMetH Tryd.prog Rows.fnShufflesRow.laid ((World.doorLaid Tryd.prog 400 os).forCall (fun _ _ => 0) ⟨#[], args, []⟩).memory :=
  laidMetH_of_parts3 (fuel := 8) (laidMet_of_run' 8 (by kernel_rfl) (by kernel_rfl)) (by kernel_rfl) (by kernel_rfl)

set_option maxRecDepth 100000 in
theorem fnShuffles_lifted (os : Os) (started : os.Started) (H : Type) (enc : TypeId × Value → H) :
    ReturnsInHanded {} Tryd.checked os 3 .any (fun w args => (Rows.fnShufflesSpec.pre enc Tryd.prog Tryd.f3 [] false w args ∧ laidMetH Tryd.prog Rows.fnShufflesRow.laid w) ∧ sizedMet enc Tryd.prog Tryd.f3 (OpenSpec.ofChange Rows.fnShufflesSpec) false w args)
      (Rows.fnShufflesSpec.post enc Tryd.prog Tryd.f3 false true false false) := by
  refine law_lifted_laid started (by kernel_rfl) Tryd.func3 (by kernel_rfl) rfl (fun ds h => ?_) ?_
    (ChangeSpec.witness_shaped (enc := enc) (C := Tryd.checked) (os := os) (X := fun w _ => laidMetH Tryd.prog Rows.fnShufflesRow.laid w) false (World.doorLaid Tryd.prog 400 os) #[.slice none 0 0] 8 rfl (World.shaped_of_RefB (by kernel_rfl) (by kernel_rfl)) (by kernel_rfl) (by kernel_rfl) (by kernel_rfl) (fnShuffles_met os _)) ?_
  · match ds, h with
    | [d0], _ => rfl
  · rw [Tryd.params3]
    intro t ht
    obtain rfl : t = 22 := by simpa using ht
    exact ⟨by kernel_rfl, of_decide_eq_true (by kernel_rfl)⟩
  · intro W base args ds ps hval hA hL hSh
    rw [Tryd.params3] at hA hval
    obtain ⟨v0, d0, rfl, rfl, h0⟩ := trodAll_one hA
    obtain ⟨A0, L0, c0, zs0, rfl, m0, r0⟩ := open_code (hval 0 22 v0 rfl rfl) h0
    rw [MakeChecks.laidMetH_plain _ _ _ (by kernel_rfl)] at hL
    exact walkShuffles A0 L0 c0 zs0 W (Lib.hid (tz_of hL)) m0 r0

theorem fnShuffles_holds : Rows.FnShufflesSaid :=
  OpenClaim.holds_of_wide 3 Tryd.f3 rfl rfl rfl rfl rfl rfl rfl ⟨rfl, rfl, rfl, rfl, rfl⟩ rfl rfl rfl rfl rfl (by kernel_rfl) Tryd.func3 (by kernel_rfl)
    (of_decide_eq_true (by kernel_rfl)) (by unfold Func.isWrapper; first | (rw [if_pos (by decide +kernel)]; kernel_rfl) | (rw [if_neg (by decide +kernel)]; exact ⟨rfl, rfl⟩))
    (fun os started H enc _ => fnShuffles_lifted os started H enc)

/-- The tied card: a shuffled deck is a deck, and cutting and cutting back restores it: for every code. -/
theorem fnShuffles_card : Rows.FnShufflesCardSaid :=
  Claim7.holds_tied_plain_at .later [] [.data] true (true, "8489bdf19e18a70905e66c0d58836eb3e758bf3a29a96d5d109d035ab782f435") false
    fnShuffles_holds (fun _ h => by cases h) (by kernel_rfl) (fun _ h => by cases h) fnShuffles_row_tie rfl ⟨rfl, rfl⟩ (by kernel_rfl) rfl
    (fun f fn hf hfn => by
      obtain rfl : f = 3 := Option.some.inj ((show Tryd.prog.funcNamed "loop.example/g00910/laws.FnShuffles" = some 3 by kernel_rfl).symm.trans hf) |>.symm
      obtain rfl : fn = Tryd.f3 := (Option.some.inj (Tryd.func3.symm.trans hfn)).symm
      exact ⟨by kernel_rfl, fun j t ht => by
        rw [Tryd.params3] at ht
        have hm : t ∈ [22] := by simpa using Array.mem_of_getElem? ht
        have hall : ([22].all fun u => !Tryd.prog.wantsStandIn u) = true := by kernel_rfl
        exact (show Tryd.prog.wantsStandIn t = false by simpa using List.all_eq_true.1 hall t hm)⟩)
    (by kernel_rfl)

end Go.Proofs.YtafifipnfhekiaaDoor
