/-
  The law FnDealt returns true for every code, and leaves it as it was: dealt hands and the rest of the deck are the whole deck, and each card is found at its place.
  No condition.
-/
import Derived.Test.YtafifipnfhekiaaDrawnDeal
import Derived.Test.YtafifipnfhekiaaDealSpec
import Derived.Test.YtafifipnfhekiaaHandsBound
import Derived.Test.YtafifipnfhekiaaLikeLists
import Derived.Test.YtafifipnfhekiaaLike
import Derived.Test.YtafifipnfhekiaaDealtPure
import Derived.Test.YtafifipnfhekiaaPlace
import Derived.Test.YtafifipnfhekiaaSpecRest
import Derived.Test.YtafifipnfhekiaaRestImpl
import Derived.Test.YtafifipnfhekiaaBig
import Derived.Lib.SmallJoins
namespace Go.Proofs.Ytafifipnfhekiaa
open Go.ChangeShapes Go.WideShapes Go.ChangeAt Go.RowKit Go.Joins
set_option linter.unusedVariables false

/-- What is asked of a deal: it is one, or not. -/
theorem deal_cases (xs : List Int) (n1 n2 : Int) : ∃ (H : Nat) (R : Nat → List Int) (kd : Int), H ≤ 4000000 ∧ Hid (∀ h, h < H → (R h).length ≤ 4000000) ∧
    Hid (handsN xs n1 n2 = H ∧ (fun j => dealt n1.toNat n2.toNat j xs) = R ∧ codeD xs (okDeal n1 n2) = kd) ∧
    Hid ((kd = 0 ∧ ∃ m : Nat, n1 = (H : Int) ∧ n2 = (m : Int) ∧ 1 ≤ H ∧ H ≤ 10 ∧ H * m ≤ 52 ∧ deckB xs = true ∧ (∀ j, R j = dealt H m j xs)) ∨ (kd != 0) = true) := by
  obtain ⟨b1, b2, b3⟩ := hands_bound xs n1 n2
  have hlen : ∀ j, (dealt n1.toNat n2.toNat j xs).length = n2.toNat := fun j => permN_length _ _ _
  refine ⟨handsN xs n1 n2, fun j => dealt n1.toNat n2.toNat j xs, codeD xs (okDeal n1 n2), by omega, Lib.hid (fun h hh => ?_), Lib.hid ⟨rfl, rfl, rfl⟩, Lib.hid ?_⟩
  · show (dealt n1.toNat n2.toNat h xs).length ≤ 4000000
    rw [hlen h]; have := b3 (by omega); omega
  · by_cases hd : deckB xs = true
    · by_cases hk : okDeal n1 n2 = true
      · left
        rw [hk, codeD_yes hd]
        have hk' := hk
        unfold okDeal inB at hk'
        simp only [Bool.and_eq_true, decide_eq_true_eq] at hk'
        obtain ⟨⟨h1, h2⟩, h3, h4⟩ := hk'
        have hm := deal_bound n1 n2 h1 h3 h4
        have hh : handsN xs n1 n2 = n1.toNat := by unfold handsN; rw [hd, hk]; rfl
        rw [hh]
        exact ⟨rfl, n2.toNat, by omega, by omega, by omega, by omega, hm, hd, fun j => rfl⟩
      · right
        rw [show okDeal n1 n2 = false by simpa using hk, codeD_rng hd]; decide
    · right
      rw [codeD_no (by simpa using hd)]; decide
theorem place_cases (ys : List Int) (x : Int) : ∃ (p q : Int), Hid (placeR ys x = p ∧ codeD ys (inB x 0 51) = q) ∧ Hid ((q = 0 ∧ ∃ k : Nat, p = (k : Int) ∧ k < ys.length ∧ nth ys k = x) ∨ (q == 0) = false) := by
  refine ⟨_, _, Lib.hid ⟨rfl, rfl⟩, Lib.hid ?_⟩
  by_cases hd : deckB ys = true
  · by_cases hx : inB x 0 51 = true
    · obtain ⟨h0, h1⟩ := card_bd hx
      have hm := deck_mem ys hd x h0 h1
      rw [placeR_yes hd hx, hx, codeD_yes hd]
      exact .inl ⟨rfl, placeOf ys x, rfl, place_lt ys x hm, place_ix ys x hm⟩
    · have hx' : inB x 0 51 = false := by simpa using hx
      rw [hx', codeD_rng hd]
      exact .inr (by decide)
  · rw [codeD_no (by simpa using hd)]
    exact .inr (by decide)
/-- The rest and all hands are a deck. -/
theorem all_dealt (xs : List Int) (H m : Nat) (hd : deckB xs = true) (h1 : 1 ≤ H) (h2 : H ≤ 10) (h3 : H * m ≤ 52) :
    restR xs ((H * m : Nat) : Int) = restAnd H m 0 xs ∧ codeD xs (inB ((H * m : Nat) : Int) 0 52) = 0 ∧ deckB (restAnd H m H xs) = true ∧ ∀ k, k ≤ H → (restAnd H m k xs).length ≤ 200 := by
  obtain ⟨hl, _⟩ := (deck_iff xs).1 hd
  have hi : inB ((H * m : Nat) : Int) 0 52 = true := inB_yes _ _ _ (by omega) (by omega)
  refine ⟨?_, ?_, restAnd_deck H m xs hd h1 h2 h3, fun k hk => ?_⟩
  · rw [restR_yes hd hi, Int.toNat_natCast, restAnd_zero H m xs hl h3]
  · rw [hi, codeD_yes hd]
  · rw [restAnd_len, placesTo_len]
    have := Nat.mul_le_mul_right m hk
    omega

set_option maxRecDepth 100000 in
set_option maxHeartbeats 4000000 in
theorem walkDealt_in (a : Option Addr) (L c : Nat) (zs : Nat → Int) (w : World) (hL : L ≤ 4096) (hc : CodeIn w a L zs) :
    Calls Try.prog 4 #[.slice a L c] w (Fresh (.bool true) w) := by
  have HC := Lib.hid hc
  clear hc
  go_enter Try.func4, Try.ntmps4
  go_wp2_with (go_at_call 13; ((with_reducible refine (big_no _ _ _ _ hL).mono ?_); rintro e w0 ⟨rfl, rfl⟩))
  go_wp2_with (go_at_call 22; ((with_reducible refine (drawDealHands_any _ _ _ zs _ hL HC.out).mono ?_); rintro e w1 ⟨xs, A1, c1, n1, n2, rfl, hl, hcap, hr1, hb1⟩; have R1 := Lib.hid hr1; have B1 := Lib.hid hb1; clear hr1 hb1))
  have hl4 : xs.length ≤ 4000000 := by omega
  obtain ⟨H, R, kd, hH, hrw, HD, HDC⟩ := deal_cases xs n1 n2
  have K1 : Hid (∀ (A : Option Addr) (c : Nat) (W : World), Rd W A xs → Calls Try.prog 23 #[.slice A xs.length c, .int .i64 n1, .int .i64 n2] W (NewFam H R kd W)) := Lib.hid (fun A c W h => by have := implDeal_any A c xs n1 n2 W h hl4; unfold DealPost at this; rw [HD.out.1, HD.out.2.1, HD.out.2.2] at this; exact this)
  have K2 : Hid (∀ (A : Option Addr) (c : Nat) (W : World), Rd W A xs → Calls Try.prog 24 #[.slice A xs.length c, .int .i64 n1, .int .i64 n2] W (NewFam H R kd W)) := Lib.hid (fun A c W h => by have := specDeal_any A c xs n1 n2 W h hl4; unfold DealPost at this; rw [HD.out.1, HD.out.2.1, HD.out.2.2] at this; exact this)
  go_wp2_with (go_at_call 23; ((with_reducible refine (K1.out A1 _ _ R1.out).mono ?_); rintro e w2 ⟨A2, c2, AA2, CC2, rfl, ho2, hb2⟩; have O2 := Lib.hid ho2; have X2 := Lib.hid hb2; have B2 := Lib.hid (bl_trans B1.out hb2); clear ho2 hb2))
  go_wp2_with (go_at_call 24; ((with_reducible refine (K2.out A1 _ _ (R1.out.below X2.out)).mono ?_); rintro e w3 ⟨A3, c3, AA3, CC3, rfl, ho3, hb3⟩; have O3 := Lib.hid ho3; have X3 := Lib.hid hb3; have B3 := Lib.hid (bl_trans B2.out hb3); clear ho3 hb3))
  go_wp2_with (go_at_call 25; ((with_reducible refine (drawPlaceOf_any _ _ _ zs _ hL (codeIn_below HC.out B3.out)).mono ?_); rintro e w4 ⟨ys, A4, c4, x, rfl, hl2, hcap2, hr4, hb4⟩; have R4 := Lib.hid hr4; have X4 := Lib.hid hb4; have B4 := Lib.hid (bl_trans B3.out hb4); clear hr4 hb4))
  have hl5 : ys.length ≤ 4000000 := by omega
  obtain ⟨p, q, HPR, HPC⟩ := place_cases ys x
  have K3 : Hid (∀ (A : Option Addr) (c : Nat) (W : World), Rd W A ys → Calls Try.prog 26 #[.slice A ys.length c, .int .i64 x] W (Same (pairV p q) W)) := Lib.hid (fun A c W h => by have := implPlace_any A c ys x W h hl5; rw [HPR.out.1, HPR.out.2] at this; exact this)
  have K4 : Hid (∀ (A : Option Addr) (c : Nat) (W : World), Rd W A ys → Calls Try.prog 27 #[.slice A ys.length c, .int .i64 x] W (Fresh (pairV p q) W)) := Lib.hid (fun A c W h => by have := specPlace_any A c ys x W h hl5; rw [HPR.out.1, HPR.out.2] at this; exact this)
  go_wp2_with (go_at_call 26; ((with_reducible refine (K3.out A4 _ _ R4.out).mono ?_); rintro e w4b ⟨rfl, rfl⟩))
  go_wp2_with (go_at_call 27; ((with_reducible refine (K4.out A4 _ _ R4.out).mono ?_); rintro e w5 ⟨rfl, hb5⟩; have X5 := Lib.hid hb5; have B5 := Lib.hid (bl_trans B4.out hb5); clear hb5))
  go_wp2_with (go_at_call 28; ((with_reducible refine (drawRestOfDeck_any _ _ _ zs _ hL (codeIn_below HC.out B5.out)).mono ?_); rintro e w6 ⟨us, A6, c6, n, rfl, hl3, hcap3, hr6, hb6⟩; have R6 := Lib.hid hr6; have X6 := Lib.hid hb6; have B6 := Lib.hid (bl_trans B5.out hb6); clear hr6 hb6))
  have hl6 : us.length ≤ 4000000 := by omega
  obtain ⟨rs, kr, hrl, K5, K6⟩ : ∃ (rs : List Int) (kr : Int), rs.length ≤ 4000000 ∧ Hid (∀ (A : Option Addr) (c : Nat) (W : World), Rd W A us → Calls Try.prog 29 #[.slice A us.length c, .int .i64 n] W (NewRC rs kr W)) ∧ Hid (∀ (A : Option Addr) (c : Nat) (W : World), Rd W A us → us.length ≤ c → Calls Try.prog 30 #[.slice A us.length c, .int .i64 n] W (NewRC rs kr W)) :=
    ⟨_, _, Nat.le_trans (restR_len us n) (by omega), Lib.hid (fun A c W h => implRest_any A c us n W h hl6), Lib.hid (fun A c W h hc => specRest_any A c us n W h hl6 hc)⟩
  go_wp2_with (go_at_call 29; ((with_reducible refine (K5.out A6 _ _ R6.out).mono ?_); rintro e w7 ⟨A7, c7, rfl, ho7, hb7⟩; have O7 := Lib.hid ho7; have X7 := Lib.hid hb7; have B7 := Lib.hid (bl_trans B6.out hb7); clear ho7 hb7))
  go_wp2_with (go_at_call 30; ((with_reducible refine (K6.out A6 _ _ (R6.out.below X7.out) hcap3).mono ?_); rintro e w8 ⟨A8, c8, rfl, ho8, hb8⟩; have O8 := Lib.hid ho8; have X8 := Lib.hid hb8; have B8 := Lib.hid (bl_trans B7.out hb8); clear ho8 hb8))
  have Q2 := Lib.hid ((((((O2.out.below X3.out).below X4.out).below X5.out).below X6.out).below X7.out).below X8.out)
  have Q3 := Lib.hid (((((O3.out.below X4.out).below X5.out).below X6.out).below X7.out).below X8.out)
  have Q1 := Lib.hid (((((((R1.out.below X2.out).below X3.out).below X4.out).below X5.out).below X6.out).below X7.out).below X8.out)
  have Q4 := Lib.hid ((((R4.out.below X5.out).below X6.out).below X7.out).below X8.out)
  go_wp2_with (go_at_call 31; ((with_reducible refine (likeFam_same A2 A3 _ _ H R AA2 AA3 CC2 CC3 _ _ _ Q2.out Q3.out hH hrw.out).mono ?_); rintro e w9 ⟨rfl, hb9⟩; have X9 := Lib.hid hb9; have B9 := Lib.hid (bl_trans B8.out hb9); clear hb9))
  rcases HPC.out with ⟨rfl, k, rfl, hk, hkx⟩ | hpq
  · have hkl : (k : Int) < ys.length := by omega
    rcases HDC.out with ⟨rfl, m, rfl, rfl, h1, h2, h3, hd, hRj⟩ | hkd
    · obtain ⟨e1, e2, e3, e4⟩ := all_dealt xs H m hd h1 h2 h3
      have K7 : Hid (∀ (A : Option Addr) (c : Nat) (W : World), Rd W A xs → Calls Try.prog 29 #[.slice A xs.length c, .int .i64 ((H * m : Nat) : Int)] W (NewRC (restAnd H m 0 xs) 0 W)) := Lib.hid (fun A c W h => by have := implRest_any A c xs ((H * m : Nat) : Int) W h hl4; rw [e1, e2] at this; exact this)
      have HE3 := Lib.hid e3
      have HE4 := Lib.hid e4
      have HSN := Lib.hid (fun k => restAnd_snoc H m k xs)
      have HRJ := Lib.hid hRj
      have hmm : (H : Int) * (m : Int) = ((H * m : Nat) : Int) := by simp
      generalize H * m = hm at *
      have hH1 : (H : Int) ≤ 10 := by omega
      clear e1 e2 e3 e4 hd hRj
      go_wp2_with (go_at_call 20; ((with_reducible refine (likeInts_same A7 A8 _ _ rs _ ((O7.out.below X8.out).below X9.out).rd (O8.out.below X9.out).rd hrl).mono ?_); rintro e w10 ⟨rfl, hb10⟩; have X10 := Lib.hid hb10; have B10 := Lib.hid (bl_trans B9.out hb10); obtain ⟨bp, op, rfl, hcp⟩ := ((Q4.out.below X9.out).below hb10).at_ (bl_refl _) k hk; rw [hkx] at hcp; clear hb10))
      have T1 := Lib.hid ((Q1.out.below X9.out).below X10.out)
      have T2 := Lib.hid ((Q2.out.below X9.out).below X10.out)
      have HL0 : Hid (([] : List Int).length + (restAnd H m 0 xs).length ≤ 4000000) := Lib.hid (by have := HE4.out 0 (by omega); simp; omega)
      go_wp2_with (first
        | (go_at_call 29; ((with_reducible refine (K7.out A1 _ _ T1.out).mono ?_); rintro e w11 ⟨A11, c11, rfl, ho11, hb11⟩; have O11 := Lib.hid ho11; have X11 := Lib.hid hb11; have B11 := Lib.hid (bl_trans B10.out hb11); have HR11 := Lib.hid ((ho11.below (bl_alloc (bl_refl _) (.cells #[] 2))).rd); have HN11 := Lib.hid (own_new w11); have HZ11 : Hid (w11.heap.size ≤ (w11.alloc (.cells #[] 2)).heap.size) := Lib.hid (by simp); clear ho11 hb11))
        | (at_builtin; refine wpList_glue (.tmp 132) (.tmp 133) rfl rfl w11.heap.size (.slice (some ⟨w11.heap.size, 0, none⟩) 0 0) [] (restAnd H m 0 xs) A11 c11 rfl HN11.out rfl HR11.out HL0.out HZ11.out ?_))
      intro A12 c12 ws12 w12 e12 ho12 hg12 _
      have e12' : ws12 = restAnd H m 0 xs := by simpa using e12.out
      have G12 : Hid (Grow w11 (restAnd H m 0 xs) (.slice A12 ws12.length c12) w12) := Lib.hid ⟨by rw [← e12']; exact ho12, bl_glue (bl_refl _) hg12⟩
      have T2b := Lib.hid (T2.out.below X11.out)
      clear ho12 hg12 e12 e12'
      go_wp2_with fail
      go_loopw [24, 25] (fun v i wr => ∃ k : Nat, k ≤ H ∧ i = .int .i64 k ∧ Hid (Grow w11 (restAnd H m k xs) v wr)) (fun _ i _ => H - (intOf i).toNat)
      case atStart => exact ⟨0, Nat.zero_le _, rfl, G12⟩
      case round =>
        obtain ⟨j, hj, rfl, hg⟩ := hrel
        obtain ⟨A', c', rfl, hO⟩ := own_form hg.out.1
        have HO := Lib.hid hO
        have F := Lib.hid (T2b.out.below hg.out.2)
        have hle := HE4.out j hj
        by_cases hlt : j < H
        · have hlt' : (j : Int) < H := by omega
          obtain ⟨gb, go, rfl, hcj⟩ := F.out.at_ (bl_refl _) j hlt
          have HRD := Lib.hid (F.out.row j hlt).rd
          have hrj := HRJ.out j
          have hle2 := HE4.out (j + 1) hlt
          have HS := Lib.hid (HSN.out j)
          have HM : Hid ((restAnd H m j xs).length + (R j).length ≤ 4000000) := Lib.hid (by rw [hrj]; have h' := congrArg List.length HS.out; rw [List.length_append] at h'; omega)
          have HS2 : Hid (restAnd H m (j + 1) xs = restAnd H m j xs ++ R j) := Lib.hid (by rw [hrj]; exact HS.out)
          generalize hq9 : restAnd H m (j + 1) xs = acc' at *
          have Q9 := Lib.hid hq9
          generalize restAnd H m j xs = acc at *
          generalize R j = rj at *
          generalize AA2 j = aj at *
          generalize CC2 j = cj at *
          clear hq9 hrj hO
          go_wp2_with (at_builtin; refine wpList_glue (.tmp 141) (.tmp 145) rfl rfl w11.heap.size (.slice A' acc.length c') acc rj aj cj rfl HO.out rfl HRD.out HM.out hg.out.2.size ?_)
          intro A13 c13 ws13 w13 e13 ho13 hg13 _
          obtain rfl : ws13 = acc' := by rw [e13.out, HS2.out]
          have HG := Lib.hid (grow_glue hg.out (bl_refl _) ho13 hg13)
          clear ho13 hg13 e13
          go_wp2_with fail
          go_roundw
          case rel => exact ⟨j + 1, by omega, by go_num, by rw [Q9.out]; exact HG⟩
          case measure => simp [intOf]; omega
        · obtain rfl : j = H := by omega
          have KD := Lib.hid (fun (c : Nat) => implIsDeck_any A' c (restAnd j m j xs) wr HO.out.rd (by omega))
          have kd := KD.out
          rw [HE3.out] at kd
          have KD2 := Lib.hid kd
          have HB := Lib.hid (bl_trans B11.out hg.out.2)
          clear kd KD hO
          go_wp2_with (go_at_call 21; refine (KD2.out _).mono ?_; rintro e w14 ⟨rfl, rfl⟩)
          go_ret
          exact ⟨rfl, HB.out⟩
    · go_wp2_with (go_at_call 20; ((with_reducible refine (likeInts_same A7 A8 _ _ rs _ ((O7.out.below X8.out).below X9.out).rd (O8.out.below X9.out).rd hrl).mono ?_); rintro e w10 ⟨rfl, hb10⟩; have X10 := Lib.hid hb10; have B10 := Lib.hid (bl_trans B9.out hb10); obtain ⟨bp, op, rfl, hcp⟩ := ((Q4.out.below X9.out).below hb10).at_ (bl_refl _) k hk; rw [hkx] at hcp; clear hb10))
      go_ret
      exact ⟨rfl, B10.out⟩
  · rcases HDC.out with ⟨rfl, m, rfl, rfl, h1, h2, h3, hd, hRj⟩ | hkd
    · obtain ⟨e1, e2, e3, e4⟩ := all_dealt xs H m hd h1 h2 h3
      have K7 : Hid (∀ (A : Option Addr) (c : Nat) (W : World), Rd W A xs → Calls Try.prog 29 #[.slice A xs.length c, .int .i64 ((H * m : Nat) : Int)] W (NewRC (restAnd H m 0 xs) 0 W)) := Lib.hid (fun A c W h => by have := implRest_any A c xs ((H * m : Nat) : Int) W h hl4; rw [e1, e2] at this; exact this)
      have HE3 := Lib.hid e3
      have HE4 := Lib.hid e4
      have HSN := Lib.hid (fun k => restAnd_snoc H m k xs)
      have HRJ := Lib.hid hRj
      have hmm : (H : Int) * (m : Int) = ((H * m : Nat) : Int) := by simp
      generalize H * m = hm at *
      have hH1 : (H : Int) ≤ 10 := by omega
      clear e1 e2 e3 e4 hd hRj
      go_wp2_with (go_at_call 20; ((with_reducible refine (likeInts_same A7 A8 _ _ rs _ ((O7.out.below X8.out).below X9.out).rd (O8.out.below X9.out).rd hrl).mono ?_); rintro e w10 ⟨rfl, hb10⟩; have X10 := Lib.hid hb10; have B10 := Lib.hid (bl_trans B9.out hb10); clear hb10))
      have T1 := Lib.hid ((Q1.out.below X9.out).below X10.out)
      have T2 := Lib.hid ((Q2.out.below X9.out).below X10.out)
      have HL0 : Hid (([] : List Int).length + (restAnd H m 0 xs).length ≤ 4000000) := Lib.hid (by have := HE4.out 0 (by omega); simp; omega)
      go_wp2_with (first
        | (go_at_call 29; ((with_reducible refine (K7.out A1 _ _ T1.out).mono ?_); rintro e w11 ⟨A11, c11, rfl, ho11, hb11⟩; have O11 := Lib.hid ho11; have X11 := Lib.hid hb11; have B11 := Lib.hid (bl_trans B10.out hb11); have HR11 := Lib.hid ((ho11.below (bl_alloc (bl_refl _) (.cells #[] 2))).rd); have HN11 := Lib.hid (own_new w11); have HZ11 : Hid (w11.heap.size ≤ (w11.alloc (.cells #[] 2)).heap.size) := Lib.hid (by simp); clear ho11 hb11))
        | (at_builtin; refine wpList_glue (.tmp 132) (.tmp 133) rfl rfl w11.heap.size (.slice (some ⟨w11.heap.size, 0, none⟩) 0 0) [] (restAnd H m 0 xs) A11 c11 rfl HN11.out rfl HR11.out HL0.out HZ11.out ?_))
      intro A12 c12 ws12 w12 e12 ho12 hg12 _
      have e12' : ws12 = restAnd H m 0 xs := by simpa using e12.out
      have G12 : Hid (Grow w11 (restAnd H m 0 xs) (.slice A12 ws12.length c12) w12) := Lib.hid ⟨by rw [← e12']; exact ho12, bl_glue (bl_refl _) hg12⟩
      have T2b := Lib.hid (T2.out.below X11.out)
      clear ho12 hg12 e12 e12'
      go_wp2_with fail
      go_loopw [24, 25] (fun v i wr => ∃ k : Nat, k ≤ H ∧ i = .int .i64 k ∧ Hid (Grow w11 (restAnd H m k xs) v wr)) (fun _ i _ => H - (intOf i).toNat)
      case atStart => exact ⟨0, Nat.zero_le _, rfl, G12⟩
      case round =>
        obtain ⟨j, hj, rfl, hg⟩ := hrel
        obtain ⟨A', c', rfl, hO⟩ := own_form hg.out.1
        have HO := Lib.hid hO
        have F := Lib.hid (T2b.out.below hg.out.2)
        have hle := HE4.out j hj
        by_cases hlt : j < H
        · have hlt' : (j : Int) < H := by omega
          obtain ⟨gb, go, rfl, hcj⟩ := F.out.at_ (bl_refl _) j hlt
          have HRD := Lib.hid (F.out.row j hlt).rd
          have hrj := HRJ.out j
          have hle2 := HE4.out (j + 1) hlt
          have HS := Lib.hid (HSN.out j)
          have HM : Hid ((restAnd H m j xs).length + (R j).length ≤ 4000000) := Lib.hid (by rw [hrj]; have h' := congrArg List.length HS.out; rw [List.length_append] at h'; omega)
          have HS2 : Hid (restAnd H m (j + 1) xs = restAnd H m j xs ++ R j) := Lib.hid (by rw [hrj]; exact HS.out)
          generalize hq9 : restAnd H m (j + 1) xs = acc' at *
          have Q9 := Lib.hid hq9
          generalize restAnd H m j xs = acc at *
          generalize R j = rj at *
          generalize AA2 j = aj at *
          generalize CC2 j = cj at *
          clear hq9 hrj hO
          go_wp2_with (at_builtin; refine wpList_glue (.tmp 141) (.tmp 145) rfl rfl w11.heap.size (.slice A' acc.length c') acc rj aj cj rfl HO.out rfl HRD.out HM.out hg.out.2.size ?_)
          intro A13 c13 ws13 w13 e13 ho13 hg13 _
          obtain rfl : ws13 = acc' := by rw [e13.out, HS2.out]
          have HG := Lib.hid (grow_glue hg.out (bl_refl _) ho13 hg13)
          clear ho13 hg13 e13
          go_wp2_with fail
          go_roundw
          case rel => exact ⟨j + 1, by omega, by go_num, by rw [Q9.out]; exact HG⟩
          case measure => simp [intOf]; omega
        · obtain rfl : j = H := by omega
          have KD := Lib.hid (fun (c : Nat) => implIsDeck_any A' c (restAnd j m j xs) wr HO.out.rd (by omega))
          have kd := KD.out
          rw [HE3.out] at kd
          have KD2 := Lib.hid kd
          have HB := Lib.hid (bl_trans B11.out hg.out.2)
          clear kd KD hO
          go_wp2_with (go_at_call 21; refine (KD2.out _).mono ?_; rintro e w14 ⟨rfl, rfl⟩)
          go_ret
          exact ⟨rfl, HB.out⟩
    · go_wp2_with (go_at_call 20; ((with_reducible refine (likeInts_same A7 A8 _ _ rs _ ((O7.out.below X8.out).below X9.out).rd (O8.out.below X9.out).rd hrl).mono ?_); rintro e w10 ⟨rfl, hb10⟩; have X10 := Lib.hid hb10; have B10 := Lib.hid (bl_trans B9.out hb10); clear hb10))
      go_ret
      exact ⟨rfl, B10.out⟩

set_option maxRecDepth 100000 in
set_option maxHeartbeats 400000 in
theorem walkDealt_big (a : Option Addr) (L c : Nat) (w : World) (hm : L ≤ maxLen) (h : 4096 < L) :
    Calls Try.prog 4 #[.slice a L c] w (Fresh (.bool true) w) := by
  unfold maxLen at hm
  go_enter Try.func4, Try.ntmps4
  go_wp2_with (go_at_call 13; refine (big_yes _ _ _ _ h (by omega)).mono ?_; rintro e w0 ⟨rfl, rfl⟩)
  go_ret
  exact ⟨rfl, bl_refl _⟩
theorem walkDealt (a : Option Addr) (L c : Nat) (zs : Nat → Int) (w : World) (hm : L ≤ maxLen) (hc : CodeIn w a L zs) :
    Calls Try.prog 4 #[.slice a L c] w (Fresh (.bool true) w) := by
  by_cases h : L ≤ 4096
  · exact walkDealt_in a L c zs w h hc
  · exact walkDealt_big a L c w hm (by omega)

set_option maxRecDepth 100000 in
theorem fnDealt_lifted (os : Os) (started : os.Started) (H : Type) (enc : TypeId × Value → H) :
    ReturnsInHanded {} Try.checked os 4 .any (Rows.fnDealtSpec.pre6 enc Try.prog Try.f4 Rows.fnDealtRow.domain false) (Rows.fnDealtSpec.post enc Try.prog Try.f4 false true false false) := by
  refine law_lifted started (by kernel_rfl) Try.func4 (by kernel_rfl) rfl (fun ds h => ?_) ?_
    (ChangeSpec.witness6 (enc := enc) (C := Try.checked) false ⟨#[], #[.slice none 0 0], []⟩ 8 (by kernel_rfl) (by kernel_rfl) (by kernel_rfl) (by kernel_rfl)) ?_
  · match ds, h with
    | [d0], _ => rfl
  · rw [Try.params4]
    intro t ht
    obtain rfl : t = 22 := by simpa using ht
    exact ⟨by kernel_rfl, of_decide_eq_true (by kernel_rfl)⟩
  · intro W base args ds ps hval hA
    rw [Try.params4] at hA hval
    obtain ⟨v0, d0, rfl, rfl, h0⟩ := trodAll_one hA
    obtain ⟨A0, L0, c0, zs0, rfl, m0, r0⟩ := open_code (hval 0 22 v0 rfl rfl) h0
    exact walkDealt A0 L0 c0 zs0 W m0 r0

/-- dealt hands and the rest of the deck are the whole deck, and each card is found at its place: for every code. -/
theorem fnDealt_holds : Rows.FnDealtSaid :=
  OpenClaim.holds_of_wide 4 Try.f4 rfl rfl rfl rfl rfl rfl rfl ⟨rfl, rfl, rfl, rfl, rfl⟩ rfl rfl rfl rfl rfl (by kernel_rfl) Try.func4 (by kernel_rfl)
    (of_decide_eq_true (by kernel_rfl)) (by unfold Func.isWrapper; first | (rw [if_pos (by decide +kernel)]; kernel_rfl) | (rw [if_neg (by decide +kernel)]; exact ⟨rfl, rfl⟩))
    (fun os started H enc _ => fnDealt_lifted os started H enc)

end Go.Proofs.Ytafifipnfhekiaa
