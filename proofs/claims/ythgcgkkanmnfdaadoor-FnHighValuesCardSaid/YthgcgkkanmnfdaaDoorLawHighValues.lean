/-
  The card of the law FnHighValues: it returns true for every code.
  Condition: the variable impl.lowestStraight reads as the program lays it (the card ties it).
-/
import Derived.Test.YthgcgkkanmnfdaaDoorHighMore
import Derived.Test.YthgcgkkanmnfdaaDoorVal
import Derived.Test.YthgcgkkanmnfdaaDoorPartsFns
import Derived.Test.YthgcgkkanmnfdaaDoorDrawHands
import Derived.Test.YthgcgkkanmnfdaaDoorDice
import Derived.Test.YthgcgkkanmnfdaaDoorLike
import Derived.Test.YthgcgkkanmnfdaaDoorRows2
import Derived.Test.YthgcgkkanmnfdaaDoorDraws
import Derived.Test.YthgcgkkanmnfdaaDoorHand
import Derived.Test.YthgcgkkanmnfdaaDoorCards
import Derived.Deep.RegionLaw
import Derived.SevenTiedAt
import Derived.Lib.SmallJoins
namespace Go.Proofs.YthgcgkkanmnfdaaDoor
open Go.ChangeShapes Go.WideShapes Go.ChangeAt Go.RowKit Go.Joins
set_option linter.unusedVariables false

theorem below_srcL {w w1 w2 : World} {s : Nat} (hb : Below w.heap.size w w1) (hs : w.heap.size ≤ s) (hy : Only s w1 w2) : Below w.heap.size w w2 :=
  Below.grown (row := some s) hb hy hb.size (fun j hj => by injection hj with hj; omega)
/-- What the law asks of five cards; of another list nothing. -/
theorem high_cases (xs : List Int) : (kickR xs).length ≤ 5 ∧ (codeZ xs 5 5 = 1 ∨ (codeZ xs 5 5 = 0 ∧ xs.length = 5 ∧ vpA (hvR xs) = catR xs ∧ vpL (hvR xs) = kickR xs ∧ vpC (hvR xs) = 0 ∧ ∀ n : Nat, hvR (xs.drop n ++ xs.take n) = hvR xs ∧ codeZ (xs.drop n ++ xs.take n) 5 5 = 0)) := by
  refine ⟨kickR_len xs, ?_⟩
  rcases hd : sizedB xs 5 5 with _ | _
  · exact .inl (codeZ_no hd)
  · obtain ⟨h5, hb⟩ := sized5 hd
    obtain ⟨v1, v2, v3⟩ := vp_hv xs hb h5
    rw [codeZ_yes hd, hvR_yes hd, catR_yes hd, kickR_yes hd]
    refine .inr ⟨rfl, h5, v1, v2, v3, fun n => ?_⟩
    have hp : (xs.drop n ++ xs.take n).Perm xs := by
      have := List.perm_append_comm (l₁ := xs.drop n) (l₂ := xs.take n)
      rwa [List.take_append_drop] at this
    have hs : sizedB (xs.drop n ++ xs.take n) 5 5 = true := sized_iff.2 ⟨by rw [hp.length_eq]; omega, by rw [hp.length_eq]; omega, cards_perm hp hb⟩
    rw [hvR_yes hs, codeZ_yes hs, hv_perm hp h5]
    exact ⟨rfl, rfl⟩
set_option maxRecDepth 100000 in
set_option maxHeartbeats 4000000 in
theorem walkHighs_in (a : Option Addr) (L c : Nat) (zs : Nat → Int) (w : World) (HT : Hid (Low w.heap.size w)) (hL : L ≤ 4096) (hc : CodeIn w a L zs) :
    Calls Tryd.prog 3 #[.slice a L c] w (Fresh (.bool true) w) := by
  have HC := Lib.hid hc
  clear hc
  go_enter Tryd.func3, Tryd.ntmps3
  go_wp2_with (go_at_call 5; ((with_reducible refine (big_no _ _ _ _ hL).mono ?_); rintro e w0 ⟨rfl, rfl⟩))
  go_wp2_with (go_at_call 6; ((with_reducible refine (drawHighValue_any _ _ _ zs _ hL HC.out).mono ?_); rintro e w1 ⟨xs, A1, c1, rfl, h4, h6, hcap, hr1, hb1⟩; have R1 := Lib.hid hr1; have B1 := Lib.hid hb1; clear hr1 hb1))
  have hn4 : xs.length ≤ 4000000 := by omega
  have hl6 : (xs.length : Int) ≤ 6 := by omega
  have HV := Lib.hid (high_cases xs)
  have KI : Hid (∀ (A : Option Addr) (c : Nat) (ys : List Int) (W : World), Rd W A ys → ys.length ≤ 4000000 → Below w.heap.size w W → Calls Tryd.prog 7 #[.slice A ys.length c] W (Fresh (pairV (hvR ys) (codeZ ys 5 5)) W)) := Lib.hid (fun A c ys W h hn hb => implHighValue_any A c ys w.heap.size w W HT (Lib.hid hb) (Lib.hid hb.size) h hn)
  have KH := Lib.hid (fun (A : Option Addr) (c : Nat) (W : World) (h : Rd W A xs) (hb : Below w.heap.size w W) => KI.out A c xs W h hn4 hb)
  have KS := Lib.hid (fun (A : Option Addr) (c : Nat) (W : World) (h : Rd W A xs) => specHighValue_any A c xs W h hn4)
  have KC := Lib.hid (fun (A : Option Addr) (c : Nat) (W : World) (h : Rd W A xs) (hb : Below w.heap.size w W) => implCategoryOf_any A c xs w.heap.size w W HT (Lib.hid hb) (Lib.hid hb.size) h hn4)
  have KD := Lib.hid (fun (A : Option Addr) (c : Nat) (W : World) (h : Rd W A xs) => specCategoryOf_any A c xs W h hn4)
  have KK := Lib.hid (fun (A : Option Addr) (c : Nat) (W : World) (h : Rd W A xs) (hb : Below w.heap.size w W) => implKickersOf_any A c xs w.heap.size w W HT (Lib.hid hb) (Lib.hid hb.size) h hn4)
  have KL := Lib.hid (fun (A : Option Addr) (c : Nat) (W : World) (h : Rd W A xs) => (specKickersOf_any A c xs W h hn4).mono fun _ _ q => newRC_of q)
  have KP := Lib.hid (fun W => implParts_any (hvR xs) W)
  generalize vpA (hvR xs) = pa at *
  generalize vpL (hvR xs) = pl at *
  generalize vpC (hvR xs) = pz at *
  generalize hvR xs = v at *
  generalize catR xs = ct at *
  generalize kickR xs = ks at *
  generalize codeZ xs 5 5 = cz at *
  go_wp2_with (go_at_call 7; ((with_reducible refine (KH.out _ _ _ R1.out B1.out).mono ?_); rintro e w2 ⟨rfl, hb2⟩; have R2 := Lib.hid (R1.out.below hb2); have B2 := Lib.hid (bl_trans B1.out hb2); clear hb2))
  go_wp2_with (go_at_call 8; ((with_reducible refine (KS.out _ _ _ R2.out).mono ?_); rintro e w3 ⟨rfl, hb3⟩; have R3 := Lib.hid (R2.out.below hb3); have B3 := Lib.hid (bl_trans B2.out hb3); clear hb3))
  go_wp2_with (go_at_call 9; ((with_reducible refine (KC.out _ _ _ R3.out B3.out).mono ?_); rintro e w4 ⟨rfl, hb4⟩; have R4 := Lib.hid (R3.out.below hb4); have B4 := Lib.hid (bl_trans B3.out hb4); clear hb4))
  go_wp2_with (go_at_call 10; ((with_reducible refine (KD.out _ _ _ R4.out).mono ?_); rintro e w5 ⟨rfl, hb5⟩; have R5 := Lib.hid (R4.out.below hb5); have B5 := Lib.hid (bl_trans B4.out hb5); clear hb5))
  go_wp2_with (go_at_call 11; ((with_reducible refine (KK.out _ _ _ R5.out B5.out).mono ?_); rintro e w6 ⟨A6, c6, rfl, ho6, hb6⟩; have O6 := Lib.hid ho6.rd; have R6 := Lib.hid (R5.out.below hb6); have B6 := Lib.hid (bl_trans B5.out hb6); clear ho6 hb6))
  go_wp2_with (go_at_call 12; ((with_reducible refine (KL.out _ _ _ R6.out).mono ?_); rintro e w7 ⟨A7, c7, rfl, ho7, hb7⟩; have O7 := Lib.hid ho7.rd; have Q6 := Lib.hid (O6.out.below hb7); have R7 := Lib.hid (R6.out.below hb7); have B7 := Lib.hid (bl_trans B6.out hb7); clear ho7 hb7))
  rcases HV.out.2 with rfl | ⟨rfl, h5, rfl, rfl, rfl, hturn⟩
  · go_wp2_with (go_at_call 13; refine (likeInts_same A6 A7 _ _ _ _ Q6.out O7.out (by have := HV.out.1; omega)).mono ?_; rintro e w8 ⟨rfl, hb8⟩; have Q8 := Lib.hid (Q6.out.below hb8); have R8 := Lib.hid (R7.out.below hb8); have B8 := Lib.hid (bl_trans B7.out hb8); have HZ7 : w7.heap.size ≤ w8.heap.size := (by have := hb8.size; exact this); clear hb8)
    go_ret
    exact ⟨rfl, B8.out⟩
  · have HTU := Lib.hid hturn
    have H5 := Lib.hid h5
    clear hturn
    obtain ⟨b, off, rfl, _⟩ := R7.out (by omega)
    rw [h5]
    have hz7 : b < w7.heap.size := R7.out.lt (by omega) rfl
    have KR := Lib.hid (fun (W : World) (h : CodeIn W a L zs) => roll_any a L c zs 401 W hL h)
    go_wp2_with (first
      | (go_at_call 13; refine (likeInts_same A6 A7 _ _ _ _ Q6.out O7.out (by have := HV.out.1; omega)).mono ?_; rintro e w8 ⟨rfl, hb8⟩; have Q8 := Lib.hid (Q6.out.below hb8); have R8 := Lib.hid (R7.out.below hb8); have B8 := Lib.hid (bl_trans B7.out hb8); have HZ7 : w7.heap.size ≤ w8.heap.size := (by have := hb8.size; exact this); clear hb8)
      | (go_at_call 14; refine (KR.out _ (codeIn_below HC.out B8.out)).mono ?_; rintro e w9 ⟨rfl, hd9, hb9⟩; have D9 := Lib.hid hd9; have B9 := Lib.hid (bl_trans B8.out hb9); have R9 := Lib.hid (R8.out.below hb9); have Q9 := Lib.hid (Q8.out.below hb9); have HZ9 := Lib.hid B8.out.size; clear hd9 hb9)
      | (go_at_call 15; refine (under_any _ 5 a L c zs _ (by omega) (by omega) D9.out).mono ?_; rintro e w10 ⟨x, rfl, x0, x5, hd10, ho10⟩; obtain ⟨n, rfl⟩ := Int.eq_ofNat_of_zero_le x0; have X10 := Lib.hid ho10; clear hd10 ho10 x0))
    have R10 := Lib.hid (Rd.grown (row := some w8.heap.size) R9.out X10.out (fun q e e' => by obtain rfl := Option.some.inj e; injection e' with e'; have e2 : w8.heap.size = b := e'; omega))
    have Q10 : Hid (Rd w10 A6 pl) := Lib.hid (fun h0 => by
      have hlt := fun q (e : A6 = some q) => Q8.out.lt h0 e
      exact Rd.grown (row := some w8.heap.size) Q9.out X10.out (fun q e e' => by injection e' with e'; have := hlt q e; omega) h0)
    have B10 := Lib.hid (below_srcL B9.out HZ9.out X10.out)
    have hn5 : n ≤ 5 := by omega
    have hsl := run_sliceFrom b off 5 c1 n hn5
    have hst := run_sliceTo b off 5 c1 n (by omega)
    have LT : Hid ((xs.take n).length = n) := Lib.hid (by rw [List.length_take]; omega)
    have LD : Hid ((xs.drop n).length = 5 - n) := Lib.hid (by rw [List.length_drop, H5.out])
    have TK := Lib.hid (fun (W : World) (hb : Below w10.heap.size w10 W) => rd_to (n := n) (R10.out.below hb))
    have DR := Lib.hid (fun (W : World) (hb : Below w10.heap.size w10 W) => rd_from (n := n) (c := c1) (R10.out.below hb) (.inl hcap))
    have S0 := Lib.hid (bl_drew (bl_alloc (bl_refl w10) (.cells #[] 2)))
    have O0 := Lib.hid (Own.below (own_new w10) (bl_drew (bl_refl _)))
    go_wp2_with fail
    go_region_law (first
      | (refine step_glue rfl (.tmp 91) (.tmp 94) rfl w10.heap.size (.slice (some ⟨w10.heap.size, 0, none⟩) 0 0) [] (xs.drop n) (fromAt b off c1 n) (c1 - n) (by simp [Act.eval]) O0.out (by rw [LD.out]; simp [Act.eval]) (DR.out _ S0.out) (by rw [LD.out]; simp; omega) S0.out.size ?_
         intro A11 c11 ws11 w11 e11 ho11 hg11 hv11
         have S11 := Lib.hid (bl_app S0.out O0.out (Nat.le_refl _) hg11)
         have L11 : Hid (ws11.length = 5 - n) := Lib.hid (by rw [e11.out, List.nil_append, LD.out]))
      | (refine step_glue rfl (.tmp 95) (.tmp 98) rfl w10.heap.size (.slice A11 ws11.length c11) ws11 (xs.take n) (some ⟨b, off, none⟩) c1 (by simp [Act.eval]) ho11 (by rw [LT.out]; simp [Act.eval]) (TK.out _ S11.out) (by rw [L11.out, LT.out]; omega) S11.out.size ?_
         intro A12 c12 ws12 w12 e12 ho12 hg12 hv12
         have S12 := Lib.hid (bl_app S11.out ho11 (Nat.le_refl _) hg12)))
    all_goals
      have E12 : Hid (ws12 = xs.drop n ++ xs.take n) := Lib.hid (by rw [e12.out, e11.out, List.nil_append])
      have B12 := Lib.hid (bl_trans B10.out S12.out)
      have Q12 := Lib.hid (Q10.out.below S12.out)
      have L12 : Hid (ws12.length ≤ 4000000) := Lib.hid (by rw [E12.out, List.length_append, LT.out, LD.out]; omega)
      have KT := Lib.hid (KI.out A12 c12 ws12 w12 ho12.rd L12.out B12.out)
      rw [E12.out] at KT
      rw [(HTU.out n).1, (HTU.out n).2, ← E12.out] at KT
      clear ho12 hg12 hv12 ho11 hg11 hv11
      go_wp2_with (first
        | (go_at_call 7; refine KT.out.mono ?_; rintro e w13 ⟨rfl, hb13⟩; have Q13 := Lib.hid (Q12.out.below hb13); have B13 := Lib.hid (bl_trans B12.out hb13); clear hb13)
        | (go_at_call 16; refine (KP.out _).mono ?_; rintro e w14 ⟨A14, c14, rfl, ho14, hb14⟩; have O14 := Lib.hid ho14.rd; have Q14 := Lib.hid (Q13.out.below hb14); have B14 := Lib.hid (bl_trans B13.out hb14); clear ho14 hb14)
        | (go_at_call 13; refine (likeInts_same A14 A6 _ _ _ _ O14.out Q14.out (by have := HV.out.1; omega)).mono ?_; rintro e w15 ⟨rfl, hb15⟩; have B15 := Lib.hid (bl_trans B14.out hb15); clear hb15))
      go_ret
      exact ⟨ret_bool (by simp), B15.out⟩

set_option maxRecDepth 100000 in
set_option maxHeartbeats 400000 in
theorem walkHighs_big (a : Option Addr) (L c : Nat) (w : World) (hm : L ≤ maxLen) (h : 4096 < L) :
    Calls Tryd.prog 3 #[.slice a L c] w (Fresh (.bool true) w) := by
  unfold maxLen at hm
  go_enter Tryd.func3, Tryd.ntmps3
  go_wp2_with (go_at_call 5; refine (big_yes _ _ _ _ h (by omega)).mono ?_; rintro e w0 ⟨rfl, rfl⟩)
  go_ret
  exact ⟨rfl, bl_refl _⟩
theorem walkHighs (a : Option Addr) (L c : Nat) (zs : Nat → Int) (w : World) (HT : Hid (Low w.heap.size w)) (hm : L ≤ maxLen) (hc : CodeIn w a L zs) :
    Calls Tryd.prog 3 #[.slice a L c] w (Fresh (.bool true) w) := by
  by_cases h : L ≤ 4096
  · exact walkHighs_in a L c zs w HT h hc
  · exact walkHighs_big a L c w hm (by omega)

theorem fnHighValues_met (os : Os) (args : Array Value) : laidMetH Tryd.prog Rows.fnHighValuesRow.laid ((World.doorLaid Tryd.prog 400 os).forCall (fun _ _ => 0) ⟨#[], args, []⟩).memory :=
  laidMetH_of_parts3 (fuel := 8) (laidMet_of_run' 8 (by kernel_rfl) (by kernel_rfl)) (by kernel_rfl) (by kernel_rfl)

set_option maxRecDepth 100000 in
theorem fnHighValues_lifted (os : Os) (started : os.Started) (H : Type) (enc : TypeId × Value → H) :
    ReturnsInHanded {} Tryd.checked os 3 .any (fun w args => (Rows.fnHighValuesSpec.pre enc Tryd.prog Tryd.f3 [] false w args ∧ laidMetH Tryd.prog Rows.fnHighValuesRow.laid w) ∧ sizedMet enc Tryd.prog Tryd.f3 (OpenSpec.ofChange Rows.fnHighValuesSpec) false w args)
      (Rows.fnHighValuesSpec.post enc Tryd.prog Tryd.f3 false true false false) := by
  refine law_lifted_vars started (by kernel_rfl) Tryd.func3 (by kernel_rfl) (by kernel_rfl) (fun ds gs h hg => ?_) ?_
    (ChangeSpec.witness_shaped (enc := enc) (C := Tryd.checked) (os := os) (X := fun w _ => laidMetH Tryd.prog Rows.fnHighValuesRow.laid w) false (World.doorLaid Tryd.prog 400 os) #[.slice none 0 0] 8 rfl (World.shaped_of_RefB (by kernel_rfl) (by kernel_rfl)) (by kernel_rfl) (by kernel_rfl) (by kernel_rfl) (fnHighValues_met os _)) ?_
  · match ds, h, gs, hg with
    | [d0], _, [g0], _ => rfl
  · rw [Tryd.params3]
    intro t ht
    obtain rfl : t = 22 := by simpa using ht
    exact ⟨by kernel_rfl, of_decide_eq_true (by kernel_rfl)⟩
  · intro W base args ds ps hval hA hL hSh
    rw [Tryd.params3] at hA hval
    obtain ⟨v0, d0, rfl, rfl, h0⟩ := trodAll_one hA
    obtain ⟨A0, L0, c0, zs0, rfl, m0, r0⟩ := open_code (hval 0 22 v0 rfl rfl) h0
    rw [MakeChecks.laidMetH_plain _ _ _ (by kernel_rfl)] at hL
    exact walkHighs A0 L0 c0 zs0 W (Lib.hid (low_of hL)) m0 r0

theorem fnHighValues_holds : Rows.FnHighValuesSaid :=
  OpenClaim.holds_of_wide 3 Tryd.f3 rfl rfl rfl rfl rfl rfl rfl ⟨rfl, rfl, rfl, rfl, rfl⟩ rfl rfl rfl rfl rfl (by kernel_rfl) Tryd.func3 (by kernel_rfl)
    (of_decide_eq_true (by kernel_rfl)) (by unfold Func.isWrapper; first | (rw [if_pos (by decide +kernel)]; kernel_rfl) | (rw [if_neg (by decide +kernel)]; exact ⟨rfl, rfl⟩))
    (fun os started H enc _ => fnHighValues_lifted os started H enc)

/-- The tied card: the value does not depend on the order of the cards, and consists of the category and the kickers: for every code. -/
theorem fnHighValues_card : Rows.FnHighValuesCardSaid :=
  Claim7.holds_tied_plain_at .later [] [.data] true (true, "2aabed4836988826a8cac1b654ea9d0ebd2d4815574b6e2692570577d3addb4f") false
    fnHighValues_holds (fun _ h => by cases h) (by kernel_rfl) (fun _ h => by cases h) fnHighValues_row_tie rfl ⟨rfl, rfl⟩ (by kernel_rfl) rfl
    (fun f fn hf hfn => by
      obtain rfl : f = 3 := Option.some.inj ((show Tryd.prog.funcNamed "loop.example/g00910/laws.FnHighValues" = some 3 by kernel_rfl).symm.trans hf) |>.symm
      obtain rfl : fn = Tryd.f3 := (Option.some.inj (Tryd.func3.symm.trans hfn)).symm
      exact ⟨by kernel_rfl, fun j t ht => by
        rw [Tryd.params3] at ht
        have hm : t ∈ [22] := by simpa using Array.mem_of_getElem? ht
        have hall : ([22].all fun u => !Tryd.prog.wantsStandIn u) = true := by kernel_rfl
        exact (show Tryd.prog.wantsStandIn t = false by simpa using List.all_eq_true.1 hall t hm)⟩)
    (by kernel_rfl)

end Go.Proofs.YthgcgkkanmnfdaaDoor
