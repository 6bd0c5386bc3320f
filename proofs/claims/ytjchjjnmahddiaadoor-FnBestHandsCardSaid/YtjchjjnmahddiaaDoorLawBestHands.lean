/-
  The card of the law FnBestHands: it returns true for every code.
  Condition: the variable impl.lowestStraight reads as the program lays it (the card ties it).
-/
import Derived.Test.YtjchjjnmahddiaaDoorHighMore
import Derived.Test.YtjchjjnmahddiaaDoorVal
import Derived.Test.YtjchjjnmahddiaaDoorBestSpecFns
import Derived.Test.YtjchjjnmahddiaaDoorDrawHands
import Derived.Test.YtjchjjnmahddiaaDoorHasInt
import Derived.Test.YtjchjjnmahddiaaDoorLike
import Derived.Test.YtjchjjnmahddiaaDoorRows2
import Derived.Test.YtjchjjnmahddiaaDoorDraws
import Derived.Test.YtjchjjnmahddiaaDoorHand
import Derived.Test.YtjchjjnmahddiaaDoorCards
import Derived.SevenTiedAt
import Derived.Lib.SmallJoins
namespace Go.Proofs.YtjchjjnmahddiaaDoor
open Go.ChangeShapes Go.WideShapes Go.ChangeAt Go.RowKit Go.Joins
set_option linter.unusedVariables false

/-- What the law asks of five to eight cards; of another list nothing. -/
theorem best_cases (xs : List Int) : (bfR xs).length ≤ 5 ∧ (codeZ xs 5 8 = 1 ∨ (codeZ xs 5 8 = 0 ∧ 5 ≤ xs.length ∧ (bfR xs).length = 5 ∧ (∀ x ∈ bfR xs, x ∈ xs) ∧ hvR (bfR xs) = bhR xs ∧ codeZ (bfR xs) 5 5 = 0 ∧ bhR (xs.take 5) ≤ bhR xs ∧ codeZ (xs.take 5) 5 8 = 0)) := by
  refine ⟨bfR_len xs, ?_⟩
  rcases hd : sizedB xs 5 8 with _ | _
  · exact .inl (codeZ_no hd)
  · obtain ⟨h5, h8, hb⟩ := sized8 hd
    obtain ⟨f1, f2, f3, f4, f5⟩ := best_facts hd
    have hs5 : sizedB (bfS xs) 5 5 = true := sized_iff.2 ⟨by omega, by omega, f3⟩
    have hc := (cards_iff xs).1 hb
    have ht : cardsB (xs.take 5) = true := (cards_iff _).2 ⟨fun x hx => hc.1 x (List.mem_of_mem_take hx), hc.2.sublist (List.take_sublist 5 xs)⟩
    have hl : (xs.take 5).length = 5 := by rw [List.length_take]; omega
    have hst : sizedB (xs.take 5) 5 8 = true := sized_iff.2 ⟨by omega, by omega, ht⟩
    rw [codeZ_yes hd, bfR_yes hd, bhR_yes hd, hvR_yes hs5, codeZ_yes hs5, bhR_yes hst, codeZ_yes hst, best_five hl ht]
    exact .inr ⟨rfl, h5, f2, fun x hx => f1.subset hx, f4.symm, rfl, f5, rfl⟩
set_option maxRecDepth 100000 in
set_option maxHeartbeats 4000000 in
theorem walkBests_in (a : Option Addr) (L c : Nat) (zs : Nat → Int) (w : World) (HT : Hid (Low w.heap.size w)) (hL : L ≤ 4096) (hc : CodeIn w a L zs) :
    Calls Tryd.prog 8 #[.slice a L c] w (Fresh (.bool true) w) := by
  have HC := Lib.hid hc
  clear hc
  go_enter Tryd.func8, Tryd.ntmps8
  go_wp2_with (go_at_call 14; ((with_reducible refine (big_no _ _ _ _ hL).mono ?_); rintro e w0 ⟨rfl, rfl⟩))
  go_wp2_with (go_at_call 27; ((with_reducible refine (drawBestFive_any _ _ _ zs _ hL HC.out).mono ?_); rintro e w1 ⟨xs, A1, c1, rfl, h4, h10, hcap, hr1, hb1⟩; have R1 := Lib.hid hr1; have B1 := Lib.hid hb1; clear hr1 hb1))
  have hn4 : xs.length ≤ 4000000 := by omega
  have HV := Lib.hid (best_cases xs)
  have KI : Hid (∀ (A : Option Addr) (c : Nat) (ys : List Int) (W : World), Rd W A ys → ys.length ≤ 4000000 → Below w.heap.size w W → Calls Tryd.prog 34 #[.slice A ys.length c] W (Fresh (pairV (hvR ys) (codeZ ys 5 5)) W)) := Lib.hid (fun A c ys W h hn hb => implHighValue_any A c ys w.heap.size w W HT (Lib.hid hb) (Lib.hid hb.size) h hn)
  have KB : Hid (∀ (A : Option Addr) (c : Nat) (ys : List Int) (W : World), Rd W A ys → ys.length ≤ 4000000 → Below w.heap.size w W → Calls Tryd.prog 28 #[.slice A ys.length c] W (Fresh (pairV (bhR ys) (codeZ ys 5 8)) W)) := Lib.hid (fun A c ys W h hn hb => implBestHigh_any A c ys w.heap.size w W HT (Lib.hid hb) (Lib.hid hb.size) h hn)
  have KF := Lib.hid (fun (A : Option Addr) (c : Nat) (W : World) (h : Rd W A xs) (hb : Below w.heap.size w W) => implBestFive_any A c xs w.heap.size w W HT (Lib.hid hb) (Lib.hid hb.size) h hn4)
  have KG := Lib.hid (fun (A : Option Addr) (W : World) (h : Rd W A xs) => specBestFive_any A c1 xs W h hn4 hcap)
  have KH := Lib.hid (fun (A : Option Addr) (c : Nat) (W : World) (h : Rd W A xs) (hb : Below w.heap.size w W) => KB.out A c xs W h hn4 hb)
  have KS := Lib.hid (fun (A : Option Addr) (W : World) (h : Rd W A xs) => specBestHigh_any A c1 xs W h hn4 hcap)
  have KCI : Hid (∀ (A B : Option Addr) (c d : Nat) (xs ys : List Int) (W : World), Rd W A xs → xs.length ≤ 4000000 → Rd W B ys → ys.length ≤ 4000000 → Below w.heap.size w W → Calls Tryd.prog 31 #[.slice A xs.length c, .slice B ys.length d] W (Fresh (pairV (cmpR xs ys) (cmpC xs ys)) W)) := Lib.hid (fun A B c d xs ys W h1 l1 h2 l2 hb => implCompareHigh_any A c xs B d ys w.heap.size w W HT (Lib.hid hb) (Lib.hid hb.size) h1 l1 h2 l2)
  generalize hbf : bfR xs = f at *
  generalize hbh : bhR xs = v at *
  generalize codeZ xs 5 8 = cz at *
  clear hbf hbh
  go_wp2_with (go_at_call 24; ((with_reducible refine (KF.out _ _ _ R1.out B1.out).mono ?_); rintro e w2 ⟨A2, c2, rfl, ho2, hb2⟩; have O2 := Lib.hid ho2.rd; have R2 := Lib.hid (R1.out.below hb2); have B2 := Lib.hid (bl_trans B1.out hb2); clear ho2 hb2))
  go_wp2_with (go_at_call 23; ((with_reducible refine (KG.out _ _ R2.out).mono ?_); rintro e w3 ⟨A3, c3, rfl, ho3, hb3⟩; have O3 := Lib.hid ho3.rd; have Q3 := Lib.hid (O2.out.below hb3); have R3 := Lib.hid (R2.out.below hb3); have B3 := Lib.hid (bl_trans B2.out hb3); clear ho3 hb3))
  go_wp2_with (go_at_call 28; ((with_reducible refine (KH.out _ _ _ R3.out B3.out).mono ?_); rintro e w4 ⟨rfl, hb4⟩; have O4 := Lib.hid (O3.out.below hb4); have Q4 := Lib.hid (Q3.out.below hb4); have R4 := Lib.hid (R3.out.below hb4); have B4 := Lib.hid (bl_trans B3.out hb4); clear hb4))
  go_wp2_with (go_at_call 29; ((with_reducible refine (KS.out _ _ R4.out).mono ?_); rintro e w5 ⟨rfl, hb5⟩; have O5 := Lib.hid (O4.out.below hb5); have Q5 := Lib.hid (Q4.out.below hb5); have R5 := Lib.hid (R4.out.below hb5); have B5 := Lib.hid (bl_trans B4.out hb5); clear hb5))
  go_wp2_with (go_at_call 30; ((with_reducible refine (drawCompareHigh_any _ _ _ zs _ hL (codeIn_below HC.out B5.out)).mono ?_); rintro e w6 ⟨us, E1, d1, vs, E2, d2, rfl, hu10, hucap, hur, hv10, hvcap, hvr, hb6⟩; have U6 := Lib.hid hur; have V6 := Lib.hid hvr; have O6 := Lib.hid (O5.out.below hb6); have Q6 := Lib.hid (Q5.out.below hb6); have R6 := Lib.hid (R5.out.below hb6); have B6 := Lib.hid (bl_trans B5.out hb6); clear hb6 hur hvr))
  have hun : us.length ≤ 4000000 := by omega
  have hvn : vs.length ≤ 4000000 := by omega
  have KC := Lib.hid (fun (W : World) (h1 : Rd W E1 us) (h2 : Rd W E2 vs) (hb : Below w.heap.size w W) => KCI.out E1 E2 d1 d2 us vs W h1 hun h2 hvn hb)
  have KD := Lib.hid (fun (W : World) (h1 : Rd W E1 us) (h2 : Rd W E2 vs) => specCompareHigh_any E1 d1 us E2 d2 vs W h1 hun hucap h2 hvn hvcap)
  generalize cmpR us vs = cr at *
  generalize cmpC us vs = cc at *
  go_wp2_with (go_at_call 31; ((with_reducible refine (KC.out _ U6.out V6.out B6.out).mono ?_); rintro e w7 ⟨rfl, hb7⟩; have U7 := Lib.hid (U6.out.below hb7); have V7 := Lib.hid (V6.out.below hb7); have O7 := Lib.hid (O6.out.below hb7); have Q7 := Lib.hid (Q6.out.below hb7); have R7 := Lib.hid (R6.out.below hb7); have B7 := Lib.hid (bl_trans B6.out hb7); clear hb7))
  go_wp2_with (go_at_call 32; ((with_reducible refine (KD.out _ U7.out V7.out).mono ?_); rintro e w8 ⟨rfl, hb8⟩; have O8 := Lib.hid (O7.out.below hb8); have Q8 := Lib.hid (Q7.out.below hb8); have R8 := Lib.hid (R7.out.below hb8); have B8 := Lib.hid (bl_trans B7.out hb8); clear hb8))
  rcases HV.out.2 with rfl | ⟨rfl, h5, hf5, hmem, hv1, hz1, hle, hz2⟩
  · go_wp2_with (go_at_call 33; refine (likeInts_same A2 A3 _ _ f _ Q8.out O8.out (by have := HV.out.1; omega)).mono ?_; rintro e w9 ⟨rfl, hb9⟩; have Q9 := Lib.hid (Q8.out.below hb9); have R9 := Lib.hid (R8.out.below hb9); have B9 := Lib.hid (bl_trans B8.out hb9); clear hb9)
    go_ret
    exact ⟨rfl, B9.out⟩
  · have HM := Lib.hid hmem
    have HF := Lib.hid hf5
    have HL5 := Lib.hid h5
    have hc5 : (5 : Int) ≤ (c1 : Int) := by omega
    have e5 : (xs.take 5).length = 5 := by rw [List.length_take]; omega
    have K15 := Lib.hid (fun (c : Nat) (W : World) (h : Rd W A2 f) (hb : Below w.heap.size w W) => KI.out A2 c f W h (by omega) hb)
    rw [hv1, hz1] at K15
    obtain ⟨b, off, rfl, _⟩ := R8.out (by omega)
    have K16 := Lib.hid (fun (c : Nat) (W : World) (h : Rd W (some ⟨b, off, none⟩) (xs.take 5)) (hb : Below w.heap.size w W) => KB.out (some ⟨b, off, none⟩) c (xs.take 5) W h (by omega) hb)
    rw [hz2, e5] at K16
    generalize bhR (xs.take 5) = u at *
    have HLE := Lib.hid hle
    rw [hf5] at K15
    clear hmem hv1 hz1 hz2 e5
    simp only [hf5]
    have LI9 : Hid (∀ (c d : Nat) (W : World), Rd W A2 f → Rd W A3 f → Calls Tryd.prog 33 #[.slice A2 5 c, .slice A3 5 d] W (Fresh (.bool true) W)) := Lib.hid (fun c d W q1 q2 => by have := likeInts_same A2 A3 c d f W q1 q2 (by omega); rw [hf5] at this; exact this)
    go_wp2_with (first
      | (go_at_call 33; refine (LI9.out _ _ _ Q8.out O8.out).mono ?_; rintro e w9 ⟨rfl, hb9⟩; have Q9 := Lib.hid (Q8.out.below hb9); have R9 := Lib.hid (R8.out.below hb9); have B9 := Lib.hid (bl_trans B8.out hb9); clear hb9)
      | (go_at_call 34; refine (K15.out _ _ Q9.out B9.out).mono ?_; rintro e w10 ⟨rfl, hb10⟩; have Q10 := Lib.hid (Q9.out.below hb10); have R10 := Lib.hid (R9.out.below hb10); have B10 := Lib.hid (bl_trans B9.out hb10); clear hb10)
      | (go_at_call 28; refine (K16.out _ _ (rd_to (n := 5) R10.out) B10.out).mono ?_; rintro e w11 ⟨rfl, hb11⟩; have Q11 := Lib.hid (Q10.out.below hb11); have R11 := Lib.hid (R10.out.below hb11); have B11 := Lib.hid (bl_trans B10.out hb11); clear hb11))
    go_loop [22] (fun i => ∃ k : Nat, k ≤ 5 ∧ i = .int .i64 k) (fun i => 5 - (intOf i).toNat)
    case atStart => exact ⟨0, by omega, rfl⟩
    case round =>
      obtain ⟨k, hk, rfl⟩ := hrel
      by_cases hlt : k < 5
      · have hlt' : (k : Int) < 5 := by omega
        obtain ⟨b2, off2, rfl, hck⟩ := Q11.out.at_ (bl_refl _) k (by rw [HF.out]; exact hlt)
        have KM := Lib.hid (hasInt_yes (some ⟨b, off, none⟩) c1 xs (nth f k) w11 R11.out hn4 (HM.out _ (nth_mem f k (by rw [HF.out]; exact hlt))))
        generalize nth f k = y at *
        go_wp2_with (go_at_call 35; refine KM.out.mono ?_; rintro e w12 ⟨rfl, rfl⟩)
        go_round
        case rel => exact ⟨k + 1, by omega, by go_num⟩
        case measure => simp [intOf]; omega
      · obtain rfl : k = 5 := by omega
        have hle' := HLE.out
        go_wp2_with fail
        go_ret
        exact ⟨ret_bool (by simp; try omega), B11.out⟩

set_option maxRecDepth 100000 in
set_option maxHeartbeats 400000 in
theorem walkBests_big (a : Option Addr) (L c : Nat) (w : World) (hm : L ≤ maxLen) (h : 4096 < L) :
    Calls Tryd.prog 8 #[.slice a L c] w (Fresh (.bool true) w) := by
  unfold maxLen at hm
  go_enter Tryd.func8, Tryd.ntmps8
  go_wp2_with (go_at_call 14; refine (big_yes _ _ _ _ h (by omega)).mono ?_; rintro e w0 ⟨rfl, rfl⟩)
  go_ret
  exact ⟨rfl, bl_refl _⟩
theorem walkBests (a : Option Addr) (L c : Nat) (zs : Nat → Int) (w : World) (HT : Hid (Low w.heap.size w)) (hm : L ≤ maxLen) (hc : CodeIn w a L zs) :
    Calls Tryd.prog 8 #[.slice a L c] w (Fresh (.bool true) w) := by
  by_cases h : L ≤ 4096
  · exact walkBests_in a L c zs w HT h hc
  · exact walkBests_big a L c w hm (by omega)

theorem fnBestHands_met (os : Os) (args : Array Value) : laidMetH Tryd.prog Rows.fnBestHandsRow.laid ((World.doorLaid Tryd.prog 400 os).forCall (fun _ _ => 0) ⟨#[], args, []⟩).memory :=
  laidMetH_of_parts3 (fuel := 8) (laidMet_of_run' 8 (by kernel_rfl) (by kernel_rfl)) (by kernel_rfl) (by kernel_rfl)

set_option maxRecDepth 100000 in
theorem fnBestHands_lifted (os : Os) (started : os.Started) (H : Type) (enc : TypeId × Value → H) :
    ReturnsInHanded {} Tryd.checked os 8 .any (fun w args => (Rows.fnBestHandsSpec.pre enc Tryd.prog Tryd.f8 [] false w args ∧ laidMetH Tryd.prog Rows.fnBestHandsRow.laid w) ∧ sizedMet enc Tryd.prog Tryd.f8 (OpenSpec.ofChange Rows.fnBestHandsSpec) false w args)
      (Rows.fnBestHandsSpec.post enc Tryd.prog Tryd.f8 false true false false) := by
  refine law_lifted_vars started (by kernel_rfl) Tryd.func8 (by kernel_rfl) (by kernel_rfl) (fun ds gs h hg => ?_) ?_
    (ChangeSpec.witness_shaped (enc := enc) (C := Tryd.checked) (os := os) (X := fun w _ => laidMetH Tryd.prog Rows.fnBestHandsRow.laid w) false (World.doorLaid Tryd.prog 400 os) #[.slice none 0 0] 8 rfl (World.shaped_of_RefB (by kernel_rfl) (by kernel_rfl)) (by kernel_rfl) (by kernel_rfl) (by kernel_rfl) (fnBestHands_met os _)) ?_
  · match ds, h, gs, hg with
    | [d0], _, [g0], _ => rfl
  · rw [Tryd.params8]
    intro t ht
    obtain rfl : t = 31 := by simpa using ht
    exact ⟨by kernel_rfl, of_decide_eq_true (by kernel_rfl)⟩
  · intro W base args ds ps hval hA hL hSh
    rw [Tryd.params8] at hA hval
    obtain ⟨v0, d0, rfl, rfl, h0⟩ := trodAll_one hA
    obtain ⟨A0, L0, c0, zs0, rfl, m0, r0⟩ := open_code (hval 0 31 v0 rfl rfl) h0
    rw [MakeChecks.laidMetH_plain _ _ _ (by kernel_rfl)] at hL
    exact walkBests A0 L0 c0 zs0 W (Lib.hid (low_of hL)) m0 r0

theorem fnBestHands_holds : Rows.FnBestHandsSaid :=
  OpenClaim.holds_of_wide 8 Tryd.f8 rfl rfl rfl rfl rfl rfl rfl ⟨rfl, rfl, rfl, rfl, rfl⟩ rfl rfl rfl rfl rfl (by kernel_rfl) Tryd.func8 (by kernel_rfl)
    (of_decide_eq_true (by kernel_rfl)) (by unfold Func.isWrapper; first | (rw [if_pos (by decide +kernel)]; kernel_rfl) | (rw [if_neg (by decide +kernel)]; exact ⟨rfl, rfl⟩))
    (fun os started H enc _ => fnBestHands_lifted os started H enc)

/-- The tied card: the best five are among the cards and have the value, and more cards never have a smaller value: for every code. -/
theorem fnBestHands_card : Rows.FnBestHandsCardSaid :=
  Claim7.holds_tied_plain_at .later [] [.data] true (true, "5e4194de3061b7c3064284f08ef9b60cdff0d1e82afd53acd6e090163bf65dcd") false
    fnBestHands_holds (fun _ h => by cases h) (by kernel_rfl) (fun _ h => by cases h) fnBestHands_row_tie rfl ⟨rfl, rfl⟩ (by kernel_rfl) rfl
    (fun f fn hf hfn => by
      obtain rfl : f = 8 := Option.some.inj ((show Tryd.prog.funcNamed "loop.example/g00910/laws.FnBestHands" = some 8 by kernel_rfl).symm.trans hf) |>.symm
      obtain rfl : fn = Tryd.f8 := (Option.some.inj (Tryd.func8.symm.trans hfn)).symm
      exact ⟨by kernel_rfl, fun j t ht => by
        rw [Tryd.params8] at ht
        have hm : t ∈ [31] := by simpa using Array.mem_of_getElem? ht
        have hall : ([31].all fun u => !Tryd.prog.wantsStandIn u) = true := by kernel_rfl
        exact (show Tryd.prog.wantsStandIn t = false by simpa using List.all_eq_true.1 hall t hm)⟩)
    (by kernel_rfl)

end Go.Proofs.YtjchjjnmahddiaaDoor
