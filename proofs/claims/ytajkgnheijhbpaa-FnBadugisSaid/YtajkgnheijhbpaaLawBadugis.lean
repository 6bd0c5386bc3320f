/-
  The law FnBadugis returns true for every code: the cards of a badugi have different ranks and suits, and their low ranks give the value.
  No condition.
-/
import Derived.Test.YtajkgnheijhbpaaDrawBads
import Derived.Test.YtajkgnheijhbpaaBadFns
import Derived.Test.YtajkgnheijhbpaaLowRanksFns
import Derived.Test.YtajkgnheijhbpaaCounts
import Derived.Test.YtajkgnheijhbpaaLike
import Derived.Test.YtajkgnheijhbpaaDraws
import Derived.Test.YtajkgnheijhbpaaMark
import Derived.Lib.SmallJoins
namespace Go.Proofs.Ytajkgnheijhbpaa
open Go.ChangeShapes Go.WideShapes Go.ChangeAt Go.RowKit Go.Joins
set_option linter.unusedVariables false

theorem cnt_apart (j : Int) : ∀ xs : List Int, xs.Pairwise apart2 → cnt (fun x => x % 4 == j) xs ≤ 1
  | [], _ => by simp [cnt]
  | x :: t, h => by
    obtain ⟨h1, h2⟩ := List.pairwise_cons.1 h
    have ih := cnt_apart j t h2
    unfold cnt at ih ⊢
    by_cases e : x % 4 = j
    · have : t.filter (fun x => x % 4 == j) = [] := List.filter_eq_nil_iff.2 (fun y hy => by
        have := (h1 y hy).2
        rw [e] at this
        simp
        exact fun q => this q.symm)
      simp [e, this]
    · simp [e]; exact ih
/-- What the law asks of four cards; of another list nothing. -/
theorem bad_cases (xs : List Int) : (bcR xs).length ≤ 8 ∧ (codeZ xs 4 4 = 1 ∨ (codeZ xs 4 4 = 0 ∧ (bcR xs).length ≤ 4 ∧ (lowR (bcR xs)).length = (bcR xs).length ∧ codeZ (bcR xs) 0 8 = 0 ∧ ranksOk (lowR (bcR xs)) ∧ bvR xs = digs (lowR (bcR xs)) + 28561 * (4 - ((bcR xs).length : Int)) ∧ codeC (bcR xs) = 0 ∧ (suitsL (bcR xs)).length = 4 ∧ ∀ i, i < 4 → nth (suitsL (bcR xs)) i ≤ 1)) := by
  refine ⟨bcR_len xs, ?_⟩
  rcases hd : sizedB xs 4 4 with _ | _
  · exact .inl (codeZ_no hd)
  · obtain ⟨h4, h4', hb⟩ := sized_iff.1 hd
    have hl : xs.length = 4 := by omega
    have hx := (cards_iff xs).1 hb
    have hf : (badS xs).length ≤ 4 ∧ (∀ y ∈ badS xs, 0 ≤ y ∧ y < 52) ∧ descR (lrs (badS xs)) = lrs (badS xs) ∧ apartB (badS xs) = true := by
      by_cases he : ∃ ys, IsBad xs ys
      · obtain ⟨ys, hy⟩ := he
        rw [badS_eq hy]
        obtain ⟨q1, q2, q3⟩ := bad_more hl hb hy
        exact ⟨q1, q2, q3, (isBad_facts (by omega) hy).2.2.1⟩
      · unfold badS
        rw [dif_neg he]
        exact ⟨by simp, by simp, falls_desc List.Pairwise.nil, rfl⟩
    rw [bcR_yes hd, bvR_yes hd, codeZ_yes hd]
    generalize badS xs = y at *
    obtain ⟨f1, f2, f3, f4⟩ := hf
    have hc : cardsB y = true := (cards_iff y).2 ⟨f2, apart_nodup f4⟩
    have hs : sizedB y 0 8 = true := sized_iff.2 ⟨by omega, by omega, hc⟩
    have hlr : lowR y = lrs y := by rw [lowR_yes hs, f3]
    have hsu : suitsL y = cntL 4 (fun x => x % 4) y := by unfold suitsL; rw [if_pos hc]
    refine .inr ⟨rfl, f1, by rw [hlr, lrs_len], codeZ_yes hs, by rw [hlr]; exact lrs_ok y, by rw [hlr]; rfl, by unfold codeC; rw [if_pos hc], by rw [hsu, cntL_length], fun i hi => ?_⟩
    rw [hsu, cntL_nth 4 _ y i hi]
    have := cnt_apart (i : Int) y (apartB_iff.1 f4)
    omega
set_option maxHeartbeats 1000000 in
theorem eightsS_any (W : World) : Calls Try.prog 22 #[] W (Same (.int .i64 57344) W) := by
  go_enter Try.func22, Try.ntmps22
  go_wp2_with fail
  go_ret
  exact ⟨rfl, rfl⟩
set_option maxHeartbeats 1000000 in
theorem eightsI_any (W : World) : Calls Try.prog 21 #[] W (Same (.int .i64 57344) W) := by
  go_enter Try.func21, Try.ntmps21
  go_wp2_with fail
  go_ret
  exact ⟨rfl, rfl⟩
set_option maxRecDepth 100000 in
set_option maxHeartbeats 4000000 in
theorem walkBadugis_in (a : Option Addr) (L c : Nat) (zs : Nat → Int) (w : World) (hL : L ≤ 4096) (hc : CodeIn w a L zs) :
    Calls Try.prog 3 #[.slice a L c] w (Fresh (.bool true) w) := by
  have HC := Lib.hid hc
  clear hc
  go_enter Try.func3, Try.ntmps3
  go_wp2_with (go_at_call 10; ((with_reducible refine (big_no _ _ _ _ hL).mono ?_); rintro e w0 ⟨rfl, rfl⟩))
  go_wp2_with (go_at_call 11; ((with_reducible refine (drawBadugiValue_any _ _ _ zs _ hL HC.out).mono ?_); rintro e w1 ⟨xs, A1, c1, rfl, h4, hcap, hr1, hb1⟩; have R1 := Lib.hid hr1; have B1 := Lib.hid hb1; clear hr1 hb1))
  have hn4 : xs.length ≤ 4000000 := by omega
  have HV := Lib.hid (bad_cases xs)
  have KV := Lib.hid (fun (A : Option Addr) (c : Nat) (W : World) (h : Rd W A xs) => implBadugiValue_any A c xs W h hn4)
  have KW := Lib.hid (fun (A : Option Addr) (W : World) (h : Rd W A xs) => specBadugiValue_any A c1 xs W h hn4 hcap)
  have KC := Lib.hid (fun (A : Option Addr) (c : Nat) (W : World) (h : Rd W A xs) => implBadugiCards_any A c xs W h hn4)
  have KD := Lib.hid (fun (A : Option Addr) (W : World) (h : Rd W A xs) => specBadugiCards_any A c1 xs W h hn4 hcap)
  have KL := Lib.hid (fun (A : Option Addr) (c : Nat) (y : List Int) (W : World) (h : Rd W A y) (hn : y.length ≤ 4000000) => implLowRanks_any A c y W h hn)
  have KM := Lib.hid (fun (A : Option Addr) (c : Nat) (y : List Int) (W : World) (h : Rd W A y) (hn : y.length ≤ 4000000) => specLowRanks_any A c y W h hn)
  generalize hbv : bvR xs = v at *
  generalize hbc : bcR xs = y at *
  generalize codeZ xs 4 4 = cz at *
  clear hbv hbc
  go_wp2_with (go_at_call 12; ((with_reducible refine (KV.out _ _ _ R1.out).mono ?_); rintro e w2 ⟨rfl, hb2⟩; have R2 := Lib.hid (R1.out.below hb2); have B2 := Lib.hid (bl_trans B1.out hb2); clear hb2))
  go_wp2_with (go_at_call 13; ((with_reducible refine (KW.out _ _ R2.out).mono ?_); rintro e w3 ⟨rfl, hb3⟩; have R3 := Lib.hid (R2.out.below hb3); have B3 := Lib.hid (bl_trans B2.out hb3); clear hb3))
  go_wp2_with (go_at_call 14; ((with_reducible refine (KC.out _ _ _ R3.out).mono ?_); rintro e w4 ⟨A4, c4, rfl, ho4, hb4⟩; have O4 := Lib.hid ho4.rd; have R4 := Lib.hid (R3.out.below hb4); have B4 := Lib.hid (bl_trans B3.out hb4); clear ho4 hb4))
  go_wp2_with (go_at_call 15; ((with_reducible refine (KD.out _ _ R4.out).mono ?_); rintro e w5 ⟨A5, c5, rfl, ho5, hb5⟩; have O5 := Lib.hid ho5.rd; have Q5 := Lib.hid (O4.out.below hb5); have B5 := Lib.hid (bl_trans B4.out hb5); clear ho5 hb5))
  go_wp2_with (go_at_call 16; ((with_reducible refine (drawLowRanks_any _ _ _ zs _ hL (codeIn_below HC.out B5.out)).mono ?_); rintro e w6 ⟨us, E1, d1, rfl, hu, hucap, hur, hb6⟩; have U6 := Lib.hid hur; have O6 := Lib.hid (O5.out.below hb6); have Q6 := Lib.hid (Q5.out.below hb6); have B6 := Lib.hid (bl_trans B5.out hb6); clear hb6 hur))
  have HUL := Lib.hid (lowR_len us)
  have KLU := Lib.hid (fun (W : World) (h : Rd W E1 us) => KL.out E1 d1 us W h (by omega))
  have KMU := Lib.hid (fun (W : World) (h : Rd W E1 us) => KM.out E1 d1 us W h (by omega))
  generalize lowR us = p at *
  generalize codeZ us 0 8 = q at *
  go_wp2_with (go_at_call 17; ((with_reducible refine (KLU.out _ U6.out).mono ?_); rintro e w7 ⟨A7, c7, rfl, ho7, hb7⟩; have O7 := Lib.hid ho7.rd; have U7 := Lib.hid (U6.out.below hb7); have P7 := Lib.hid (O6.out.below hb7); have Q7 := Lib.hid (Q6.out.below hb7); have B7 := Lib.hid (bl_trans B6.out hb7); clear ho7 hb7))
  go_wp2_with (go_at_call 18; ((with_reducible refine (KMU.out _ U7.out).mono ?_); rintro e w8 ⟨A8, c8, rfl, ho8, hb8⟩; have O8 := Lib.hid ho8.rd; have T8 := Lib.hid (O7.out.below hb8); have P8 := Lib.hid (P7.out.below hb8); have Q8 := Lib.hid (Q7.out.below hb8); have B8 := Lib.hid (bl_trans B7.out hb8); clear ho8 hb8))
  have LIY : Hid (∀ (c d : Nat) (W : World), Rd W A4 y → Rd W A5 y → Calls Try.prog 19 #[.slice A4 y.length c, .slice A5 y.length d] W (Fresh (.bool true) W)) := Lib.hid (fun c d W q1 q2 => likeInts_same A4 A5 c d y W q1 q2 (by have := HV.out.1; omega))
  have LIP : Hid (∀ (c d : Nat) (W : World), Rd W A7 p → Rd W A8 p → Calls Try.prog 19 #[.slice A7 p.length c, .slice A8 p.length d] W (Fresh (.bool true) W)) := Lib.hid (fun c d W q1 q2 => likeInts_same A7 A8 c d p W q1 q2 (by have := HUL.out; omega))
  rcases HV.out.2 with rfl | ⟨rfl, hy4, hlr, hz0, hrk, hvv, hcc, hs4, hs1⟩
  · go_wp2_with (first
      | (go_at_call 19; ((with_reducible refine (LIY.out _ _ _ Q8.out P8.out).mono ?_); rintro e w9 ⟨rfl, hb9⟩; have Q9 := Lib.hid (Q8.out.below hb9); have T9 := Lib.hid (T8.out.below hb9); have V9 := Lib.hid (O8.out.below hb9); have B9 := Lib.hid (bl_trans B8.out hb9); clear hb9))
      | (go_at_call 19; ((with_reducible refine (LIP.out _ _ _ T9.out V9.out).mono ?_); rintro e w10 ⟨rfl, hb10⟩; have Q10 := Lib.hid (Q9.out.below hb10); have B10 := Lib.hid (bl_trans B9.out hb10); clear hb10)))
    go_ret
    exact ⟨rfl, B10.out⟩
  · have HRK := Lib.hid hrk
    have HLR := Lib.hid hlr
    have HVV := Lib.hid hvv
    have HS4 := Lib.hid hs4
    have HS1 := Lib.hid hs1
    have KO := Lib.hid (fun (W : World) (h : Rd W A4 y) => KL.out A4 c4 y W h (by omega))
    have KS := Lib.hid (fun (W : World) (h : Rd W A4 y) => implSuitsIn_any A4 c4 y W h (by omega))
    rw [hz0] at KO
    rw [hcc] at KS
    generalize lowR y = r at *
    generalize suitsL y = su at *
    clear hrk hvv hs1 hz0 hcc
    go_wp2_with (first
      | (go_at_call 19; ((with_reducible refine (LIY.out _ _ _ Q8.out P8.out).mono ?_); rintro e w9 ⟨rfl, hb9⟩; have Q9 := Lib.hid (Q8.out.below hb9); have T9 := Lib.hid (T8.out.below hb9); have V9 := Lib.hid (O8.out.below hb9); have B9 := Lib.hid (bl_trans B8.out hb9); clear hb9))
      | (go_at_call 19; ((with_reducible refine (LIP.out _ _ _ T9.out V9.out).mono ?_); rintro e w10 ⟨rfl, hb10⟩; have Q10 := Lib.hid (Q9.out.below hb10); have B10 := Lib.hid (bl_trans B9.out hb10); clear hb10))
      | (go_at_call 17; refine (KO.out _ Q10.out).mono ?_; rintro e w11 ⟨A11, c11, rfl, ho11, hb11⟩; have O11 := Lib.hid ho11.rd; have Q11 := Lib.hid (Q10.out.below hb11); have B11 := Lib.hid (bl_trans B10.out hb11); clear ho11 hb11))
    try rw [hlr]
    go_loop [19, 20] (fun n i => ∃ k : Nat, k ≤ y.length ∧ i = .int .i64 k ∧ n = .int .i64 (digs (r.take k))) (fun _ i => y.length - (intOf i).toNat)
    case atStart => exact ⟨0, Nat.zero_le _, rfl, by rw [List.take_zero]; rfl⟩
    case round =>
      obtain ⟨k, hk, rfl, rfl⟩ := hrel
      by_cases hlt : k < y.length
      · have hlt' : (k : Int) < (y.length : Int) := by omega
        have hkr : k < r.length := by omega
        obtain ⟨b2, off2, rfl, hck⟩ := O11.out.at_ (bl_refl _) k hkr
        have hd := digs_bd r HRK.out k (by omega)
        have hp : (13 ^ k : Nat) ≤ 13 ^ 3 := Nat.pow_le_pow_right (by omega) (by omega)
        have hx := HRK.out (nth r k) (nth_mem r k hkr)
        have HX : Hid (digs (r.take (k + 1)) = 13 * digs (r.take k) + nth r k) := Lib.hid (by rw [take_nth r k hkr, digs_snoc])
        have hp3 : ((13 ^ k : Nat) : Int) ≤ ((13 ^ 3 : Nat) : Int) := Int.ofNat_le.2 hp
        have e3 : ((13 ^ 3 : Nat) : Int) = 2197 := by decide
        have hd1 : 0 ≤ digs (r.take k) ∧ digs (r.take k) < 2197 := ⟨hd.1, by omega⟩
        clear hp3 e3
        clear hd hp hkr
        generalize digs (r.take k) = n at *
        generalize nth r k = z at *
        have HK := Lib.hid hlt
        try rw [hlr] at hck
        go_wp2_with fail
        go_round
        case rel => exact ⟨k + 1, by have := HK.out; omega, by go_num, by rw [HX.out]⟩
        case measure => have := HK.out; simp [intOf]; omega
      · obtain rfl : k = y.length := by omega
        have HX : Hid (digs (r.take y.length) = digs r) := Lib.hid (by rw [← hlr, List.take_length])
        have hd := digs_bd r HRK.out r.length (Nat.le_refl _)
        rw [HX.out]
        rw [List.take_length] at hd
        have hp : (13 ^ r.length : Nat) ≤ 13 ^ 4 := Nat.pow_le_pow_right (by omega) (by omega)
        have hp3 : ((13 ^ r.length : Nat) : Int) ≤ ((13 ^ 4 : Nat) : Int) := Int.ofNat_le.2 hp
        have e3 : ((13 ^ 4 : Nat) : Int) = 28561 := by decide
        have hd1 : 0 ≤ digs r ∧ digs r < 28561 := ⟨hd.1, by omega⟩
        clear hp3 e3
        clear hd hp
        have HN := Lib.hid hd1
        generalize digs r = n at *
        clear hd1
        go_wp2_with (go_at_call 20; refine (KS.out _ Q11.out).mono ?_; rintro e w12 ⟨A12, c12, rfl, ho12, hb12⟩; have O12 := Lib.hid ho12.rd; have B12 := Lib.hid (bl_trans B11.out hb12); clear ho12 hb12)
        try rw [hs4]
        go_loop [23] (fun i => ∃ k : Nat, k ≤ 4 ∧ i = .int .i64 k) (fun i => 4 - (intOf i).toNat)
        case atStart => exact ⟨0, by omega, rfl⟩
        case round =>
          obtain ⟨k, hk, rfl⟩ := hrel
          by_cases hlt : k < 4
          · have hlt' : (k : Int) < 4 := by omega
            obtain ⟨b3, off3, rfl, hck⟩ := O12.out.at_ (bl_refl _) k (by omega)
            have hs1 := HS1.out k hlt
            try rw [hs4] at hck
            generalize nth su k = z at *
            go_wp2_with fail
            go_round
            case rel => exact ⟨k + 1, by omega, by go_num⟩
            case measure => simp [intOf]; omega
          · obtain rfl : k = 4 := by omega
            have hn := HN.out
            have hvv := HVV.out
            clear hlr hs4
            generalize y.length = yl at *
            go_wp2_with (first
              | (go_at_call 21; refine (eightsI_any _).mono ?_; rintro e w13 ⟨rfl, rfl⟩)
              | (go_at_call 22; refine (eightsS_any _).mono ?_; rintro e w14 ⟨rfl, rfl⟩))
            go_ret
            exact ⟨ret_bool (by simp), B12.out⟩
set_option maxRecDepth 100000 in
set_option maxHeartbeats 400000 in
theorem walkBadugis_big (a : Option Addr) (L c : Nat) (w : World) (hm : L ≤ maxLen) (h : 4096 < L) :
    Calls Try.prog 3 #[.slice a L c] w (Fresh (.bool true) w) := by
  unfold maxLen at hm
  go_enter Try.func3, Try.ntmps3
  go_wp2_with (go_at_call 10; refine (big_yes _ _ _ _ h (by omega)).mono ?_; rintro e w0 ⟨rfl, rfl⟩)
  go_ret
  exact ⟨rfl, bl_refl _⟩
theorem walkBadugis (a : Option Addr) (L c : Nat) (zs : Nat → Int) (w : World) (hm : L ≤ maxLen) (hc : CodeIn w a L zs) :
    Calls Try.prog 3 #[.slice a L c] w (Fresh (.bool true) w) := by
  by_cases h : L ≤ 4096
  · exact walkBadugis_in a L c zs w h hc
  · exact walkBadugis_big a L c w hm (by omega)

set_option maxRecDepth 100000 in
theorem fnBadugis_lifted (os : Os) (started : os.Started) (H : Type) (enc : TypeId × Value → H) :
    ReturnsInHanded {} Try.checked os 3 .any (Rows.fnBadugisSpec.pre6 enc Try.prog Try.f3 Rows.fnBadugisRow.domain false) (Rows.fnBadugisSpec.post enc Try.prog Try.f3 false true false false) := by
  refine law_lifted started (by kernel_rfl) Try.func3 (by kernel_rfl) rfl (fun ds h => ?_) ?_
    (ChangeSpec.witness6 (enc := enc) (C := Try.checked) false ⟨#[], #[.slice none 0 0], []⟩ 8 (by kernel_rfl) (by kernel_rfl) (by kernel_rfl) (by kernel_rfl)) ?_
  · match ds, h with
    | [d0], _ => rfl
  · rw [Try.params3]
    intro t ht
    obtain rfl : t = 22 := by simpa using ht
    exact ⟨by kernel_rfl, of_decide_eq_true (by kernel_rfl)⟩
  · intro W base args ds ps hval hA
    rw [Try.params3] at hA hval
    obtain ⟨v0, d0, rfl, rfl, h0⟩ := trodAll_one hA
    obtain ⟨A0, L0, c0, zs0, rfl, m0, r0⟩ := open_code (hval 0 22 v0 rfl rfl) h0
    exact walkBadugis A0 L0 c0 zs0 W m0 r0

/-- the cards of a badugi have different ranks and suits, and their low ranks give the value: for every code. -/
theorem fnBadugis_holds : Rows.FnBadugisSaid :=
  OpenClaim.holds_of_wide 3 Try.f3 rfl rfl rfl rfl rfl rfl rfl ⟨rfl, rfl, rfl, rfl, rfl⟩ rfl rfl rfl rfl rfl (by kernel_rfl) Try.func3 (by kernel_rfl)
    (of_decide_eq_true (by kernel_rfl)) (by unfold Func.isWrapper; first | (rw [if_pos (by decide +kernel)]; kernel_rfl) | (rw [if_neg (by decide +kernel)]; exact ⟨rfl, rfl⟩))
    (fun os started H enc _ => fnBadugis_lifted os started H enc)

end Go.Proofs.Ytajkgnheijhbpaa
