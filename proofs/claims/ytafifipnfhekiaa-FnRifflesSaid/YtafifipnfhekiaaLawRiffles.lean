/-
  The law FnRiffles returns true for every code, and leaves it as it was: eight riffles restore a deck, and one is undone.
  No condition.
-/
import Derived.Test.YtafifipnfhekiaaDrawnRif
import Derived.Test.YtafifipnfhekiaaSpecRif
import Derived.Test.YtafifipnfhekiaaLike
import Derived.Test.YtafifipnfhekiaaBig
import Derived.Lib.SmallJoins
namespace Go.Proofs.Ytafifipnfhekiaa
open Go.ChangeShapes Go.WideShapes Go.ChangeAt Go.RowKit Go.Joins
set_option linter.unusedVariables false

/-- What is asked of a drawn list: it is a deck, or not. -/
theorem rif_cases (xs : List Int) :
    (∃ rs : List Int, rs.length ≤ 52 ∧ Hid (xs.length = 52) ∧ Hid (deckB xs = true) ∧ Hid (rifR xs = rs ∧ codeK xs = 0) ∧ Hid (unrR rs = xs ∧ codeK rs = 0)) ∨
    (∃ rs : List Int, rs.length ≤ 52 ∧ Hid (deckB xs = false) ∧ Hid (rifR xs = rs ∧ codeK xs = 1)) := by
  by_cases hd : deckB xs = true
  case neg => exact .inr (by have hd' : deckB xs = false := (by simpa using hd); exact ⟨[], by simp, Lib.hid hd', Lib.hid ⟨rifR_no hd', codeK_no hd'⟩⟩)
  case pos =>
    have hl := ((deck_iff xs).1 hd).1
    have hr := rif_deck xs hd
    exact .inl ⟨perm rifF xs, Nat.le_of_eq (perm_length _ _), Lib.hid hl, Lib.hid hd, Lib.hid ⟨rifR_yes hd, codeK_yes hd⟩, Lib.hid ⟨by rw [unrR_yes hr, rif_back xs hl], codeK_yes hr⟩⟩
theorem riffle_next (xs : List Int) (hd : deckB xs = true) (k : Nat) : rifR (riffles k xs) = riffles (k + 1) xs ∧ codeK (riffles k xs) = 0 ∧ (riffles k xs).length = 52 := by
  have h := riffles_deck k xs hd
  exact ⟨rifR_yes h, codeK_yes h, ((deck_iff _).1 h).1⟩

set_option maxRecDepth 100000 in
set_option maxHeartbeats 2000000 in
theorem walkRiffles_in (a : Option Addr) (L c : Nat) (zs : Nat → Int) (w : World) (hL : L ≤ 4096) (hc : CodeIn w a L zs) :
    Calls Try.prog 3 #[.slice a L c] w (Fresh (.bool true) w) := by
  have HC := Lib.hid hc
  clear hc
  go_enter Try.func3, Try.ntmps3
  go_wp2_with (go_at_call 13; ((with_reducible refine (big_no _ _ _ _ hL).mono ?_); rintro e w0 ⟨rfl, rfl⟩))
  go_wp2_with (go_at_call 14; ((with_reducible refine (drawRiffleDeck_any _ _ _ zs _ hL HC.out).mono ?_); rintro e w1 ⟨xs, A1, c1, rfl, hl, hcap, hr1, hb1⟩; have R1 := Lib.hid hr1; have B1 := Lib.hid hb1; clear hr1 hb1))
  have hl4 : xs.length ≤ 4000000 := by omega
  rcases rif_cases xs with ⟨rs, hrl, HL, HD, HR, HU⟩ | ⟨rs, hrl, HD, HR⟩
  · have K1 : Hid (∀ (A : Option Addr) (c : Nat) (W : World), Rd W A xs → Calls Try.prog 15 #[.slice A xs.length c] W (NewRC rs 0 W)) := Lib.hid (fun A c W h => by have := implRiffle_any A c xs W h hl4; rw [HR.out.1, HR.out.2] at this; exact this)
    have K2 : Hid (∀ (A : Option Addr) (c : Nat) (W : World), Rd W A xs → Calls Try.prog 16 #[.slice A xs.length c] W (NewRC rs 0 W)) := Lib.hid (fun A c W h => by have := specRiffle_any A c xs W h hl4; rw [HR.out.1, HR.out.2] at this; exact this)
    have K3 : Hid (∀ (A : Option Addr) (c : Nat) (W : World), Rd W A xs → Calls Try.prog 21 #[.slice A xs.length c] W (Same (.bool true) W)) := Lib.hid (fun A c W h => by have := implIsDeck_any A c xs W h hl4; rw [HD.out] at this; exact this)
    go_wp2_with (go_at_call 15; ((with_reducible refine (K1.out A1 _ _ R1.out).mono ?_); rintro e w2 ⟨A2, c2, rfl, ho2, hb2⟩; have O2 := Lib.hid ho2; have X2 := Lib.hid hb2; have B2 := Lib.hid (bl_trans B1.out hb2); clear ho2 hb2))
    go_wp2_with (go_at_call 16; ((with_reducible refine (K2.out A1 _ _ (R1.out.below X2.out)).mono ?_); rintro e w3 ⟨A3, c3, rfl, ho3, hb3⟩; have O3 := Lib.hid ho3; have X3 := Lib.hid hb3; have B3 := Lib.hid (bl_trans B2.out hb3); clear ho3 hb3))
    go_wp2_with (go_at_call 17; ((with_reducible refine (drawUnriffleDeck_any _ _ _ zs _ hL (codeIn_below HC.out B3.out)).mono ?_); rintro e w4 ⟨ys, A4, c4, rfl, hl2, hcap2, hr4, hb4⟩; have R4 := Lib.hid hr4; have X4 := Lib.hid hb4; have B4 := Lib.hid (bl_trans B3.out hb4); clear hr4 hb4))
    have hl5 : ys.length ≤ 4000000 := by omega
    obtain ⟨us, ku, hul, K4, K5⟩ : ∃ (us : List Int) (ku : Int), us.length ≤ 4000000 ∧ Hid (∀ (A : Option Addr) (c : Nat) (W : World), Rd W A ys → Calls Try.prog 18 #[.slice A ys.length c] W (NewRC us ku W)) ∧ Hid (∀ (A : Option Addr) (c : Nat) (W : World), Rd W A ys → Calls Try.prog 19 #[.slice A ys.length c] W (NewRC us ku W)) :=
      ⟨_, _, Nat.le_trans (unrR_len ys) (by omega), Lib.hid (fun A c W h => implUnriffle_any A c ys W h hl5), Lib.hid (fun A c W h => specUnriffle_any A c ys W h hl5)⟩
    go_wp2_with (go_at_call 18; ((with_reducible refine (K4.out A4 _ _ R4.out).mono ?_); rintro e w5 ⟨A5, c5, rfl, ho5, hb5⟩; have O5 := Lib.hid ho5; have X5 := Lib.hid hb5; have B5 := Lib.hid (bl_trans B4.out hb5); clear ho5 hb5))
    go_wp2_with (go_at_call 19; ((with_reducible refine (K5.out A4 _ _ (R4.out.below X5.out)).mono ?_); rintro e w6 ⟨A6, c6, rfl, ho6, hb6⟩; have O6 := Lib.hid ho6; have X6 := Lib.hid hb6; have B6 := Lib.hid (bl_trans B5.out hb6); clear ho6 hb6))
    have Q2 := Lib.hid ((((O2.out.below X3.out).below X4.out).below X5.out).below X6.out)
    have Q3 := Lib.hid (((O3.out.below X4.out).below X5.out).below X6.out)
    have Q1 := Lib.hid (((((R1.out.below X2.out).below X3.out).below X4.out).below X5.out).below X6.out)
    go_wp2_with (go_at_call 20; ((with_reducible refine (likeInts_same A2 A3 _ _ rs _ Q2.out.rd Q3.out.rd (by omega)).mono ?_); rintro e w7 ⟨rfl, hb7⟩; have X7 := Lib.hid hb7; have B7 := Lib.hid (bl_trans B6.out hb7); clear hb7))
    go_wp2_with (go_at_call 20; ((with_reducible refine (likeInts_same A5 A6 _ _ us _ ((O5.out.below X6.out).below X7.out).rd (O6.out.below X7.out).rd hul).mono ?_); rintro e w8 ⟨rfl, hb8⟩; have X8 := Lib.hid hb8; have B8 := Lib.hid (bl_trans B7.out hb8); clear hb8))
    have T1 := Lib.hid ((Q1.out.below X7.out).below X8.out)
    go_wp2_with (go_at_call 21; ((with_reducible refine (K3.out A1 _ _ T1.out).mono ?_); rintro e w8b ⟨rfl, rfl⟩))
    have T2 := Lib.hid ((Q2.out.below X7.out).below X8.out)
    have hrl4 : rs.length ≤ 4000000 := by omega
    have K6 : Hid (∀ (A : Option Addr) (c : Nat) (W : World), Rd W A rs → Calls Try.prog 18 #[.slice A rs.length c] W (NewRC xs 0 W)) := Lib.hid (fun A c W h => by have := implUnriffle_any A c rs W h hrl4; rw [HU.out.1, HU.out.2] at this; exact this)
    have HN := Lib.hid (riffle_next xs HD.out)
    have K7 : Hid (∀ (k : Nat) (A : Option Addr) (c : Nat) (W : World), Rd W A (riffles k xs) → Calls Try.prog 15 #[.slice A 52 c] W (NewRC (riffles (k + 1) xs) 0 W)) := Lib.hid (fun k A c W h => by
      obtain ⟨e1, e2, e3⟩ := HN.out k
      have := implRiffle_any A c (riffles k xs) W h (by rw [e3]; omega)
      rw [e1, e2, e3] at this
      exact this)
    have H8 := Lib.hid (riffles8 xs HL.out)
    go_wp2_with (go_at_call 18; ((with_reducible refine (K6.out A2 _ _ T2.out.rd).mono ?_); rintro e w9 ⟨A9, c9, rfl, ho9, hb9⟩; have O9 := Lib.hid ho9; have X9 := Lib.hid hb9; have B9 := Lib.hid (bl_trans B8.out hb9); clear ho9 hb9))
    have T9 : Hid (Rd w9 A1 (riffles 0 xs)) := Lib.hid (T1.out.below X9.out)
    have Z1 := Lib.hid (T1.out.below X9.out)
    go_loopw [15, 16] (fun v i wr => ∃ (k : Nat) (A : Option Addr) (c : Nat), k ≤ 8 ∧ i = .int .i64 k ∧ v = .slice A xs.length c ∧ Hid (Rd wr A (riffles k xs)) ∧ Hid (Below w9.heap.size w9 wr)) (fun _ i _ => 8 - (intOf i).toNat)
    case atStart => exact ⟨0, A1, c1, Nat.zero_le _, rfl, rfl, T9, Lib.hid (bl_refl _)⟩
    case round =>
      obtain ⟨k, A, c', hk, rfl, rfl, hr, hb⟩ := hrel
      by_cases hlt : k < 8
      · have hlt' : (k : Int) < 8 := by omega
        have K8 := Lib.hid (fun (c : Nat) => K7.out k A c wr hr.out)
        have HN1 := Lib.hid (HN.out (k + 1)).2.2
        rw [HL.out]
        go_wp2_with (go_at_call 15; refine (K8.out _).mono ?_; rintro e w10 ⟨A10, c10, rfl, ho10, hb10⟩; have O10 := Lib.hid ho10; have B10 := Lib.hid (bl_trans hb.out hb10); clear ho10 hb10)
        go_roundw
        case rel => exact ⟨k + 1, A10, c10, by omega, by go_num, by rw [HN1.out], Lib.hid O10.out.rd, B10⟩
        case measure => simp [intOf]; omega
      · obtain rfl : k = 8 := by omega
        have hr8 := hr.out
        rw [H8.out] at hr8
        have R8 := Lib.hid hr8
        have Z9 := Lib.hid (Z1.out.below hb.out)
        have B11 := Lib.hid (bl_trans B9.out hb.out)
        have O11 := Lib.hid (O9.out.below hb.out)
        clear hr8 hr
        go_wp2_with (go_at_call 20; first | ((with_reducible refine (likeInts_same A9 A1 _ _ xs wr O11.out.rd Z9.out hl4).mono ?_); rintro e w12 ⟨rfl, hb12⟩; have X12 := Lib.hid hb12; have B12 := Lib.hid (bl_trans B11.out hb12); clear hb12) | ((with_reducible refine (likeInts_same A A1 _ _ xs w12 (R8.out.below X12.out) (Z9.out.below X12.out) hl4).mono ?_); rintro e w13 ⟨rfl, hb13⟩; have B13 := Lib.hid (bl_trans B12.out hb13); clear hb13))
        go_ret
        exact ⟨rfl, B13.out⟩
  · have K1 : Hid (∀ (A : Option Addr) (c : Nat) (W : World), Rd W A xs → Calls Try.prog 15 #[.slice A xs.length c] W (NewRC rs 1 W)) := Lib.hid (fun A c W h => by have := implRiffle_any A c xs W h hl4; rw [HR.out.1, HR.out.2] at this; exact this)
    have K2 : Hid (∀ (A : Option Addr) (c : Nat) (W : World), Rd W A xs → Calls Try.prog 16 #[.slice A xs.length c] W (NewRC rs 1 W)) := Lib.hid (fun A c W h => by have := specRiffle_any A c xs W h hl4; rw [HR.out.1, HR.out.2] at this; exact this)
    have K3 : Hid (∀ (A : Option Addr) (c : Nat) (W : World), Rd W A xs → Calls Try.prog 21 #[.slice A xs.length c] W (Same (.bool false) W)) := Lib.hid (fun A c W h => by have := implIsDeck_any A c xs W h hl4; rw [HD.out] at this; exact this)
    go_wp2_with (go_at_call 15; ((with_reducible refine (K1.out A1 _ _ R1.out).mono ?_); rintro e w2 ⟨A2, c2, rfl, ho2, hb2⟩; have O2 := Lib.hid ho2; have X2 := Lib.hid hb2; have B2 := Lib.hid (bl_trans B1.out hb2); clear ho2 hb2))
    go_wp2_with (go_at_call 16; ((with_reducible refine (K2.out A1 _ _ (R1.out.below X2.out)).mono ?_); rintro e w3 ⟨A3, c3, rfl, ho3, hb3⟩; have O3 := Lib.hid ho3; have X3 := Lib.hid hb3; have B3 := Lib.hid (bl_trans B2.out hb3); clear ho3 hb3))
    go_wp2_with (go_at_call 17; ((with_reducible refine (drawUnriffleDeck_any _ _ _ zs _ hL (codeIn_below HC.out B3.out)).mono ?_); rintro e w4 ⟨ys, A4, c4, rfl, hl2, hcap2, hr4, hb4⟩; have R4 := Lib.hid hr4; have X4 := Lib.hid hb4; have B4 := Lib.hid (bl_trans B3.out hb4); clear hr4 hb4))
    have hl5 : ys.length ≤ 4000000 := by omega
    obtain ⟨us, ku, hul, K4, K5⟩ : ∃ (us : List Int) (ku : Int), us.length ≤ 4000000 ∧ Hid (∀ (A : Option Addr) (c : Nat) (W : World), Rd W A ys → Calls Try.prog 18 #[.slice A ys.length c] W (NewRC us ku W)) ∧ Hid (∀ (A : Option Addr) (c : Nat) (W : World), Rd W A ys → Calls Try.prog 19 #[.slice A ys.length c] W (NewRC us ku W)) :=
      ⟨_, _, Nat.le_trans (unrR_len ys) (by omega), Lib.hid (fun A c W h => implUnriffle_any A c ys W h hl5), Lib.hid (fun A c W h => specUnriffle_any A c ys W h hl5)⟩
    go_wp2_with (go_at_call 18; ((with_reducible refine (K4.out A4 _ _ R4.out).mono ?_); rintro e w5 ⟨A5, c5, rfl, ho5, hb5⟩; have O5 := Lib.hid ho5; have X5 := Lib.hid hb5; have B5 := Lib.hid (bl_trans B4.out hb5); clear ho5 hb5))
    go_wp2_with (go_at_call 19; ((with_reducible refine (K5.out A4 _ _ (R4.out.below X5.out)).mono ?_); rintro e w6 ⟨A6, c6, rfl, ho6, hb6⟩; have O6 := Lib.hid ho6; have X6 := Lib.hid hb6; have B6 := Lib.hid (bl_trans B5.out hb6); clear ho6 hb6))
    have Q2 := Lib.hid ((((O2.out.below X3.out).below X4.out).below X5.out).below X6.out)
    have Q3 := Lib.hid (((O3.out.below X4.out).below X5.out).below X6.out)
    have Q1 := Lib.hid (((((R1.out.below X2.out).below X3.out).below X4.out).below X5.out).below X6.out)
    go_wp2_with (go_at_call 20; ((with_reducible refine (likeInts_same A2 A3 _ _ rs _ Q2.out.rd Q3.out.rd (by omega)).mono ?_); rintro e w7 ⟨rfl, hb7⟩; have X7 := Lib.hid hb7; have B7 := Lib.hid (bl_trans B6.out hb7); clear hb7))
    go_wp2_with (go_at_call 20; ((with_reducible refine (likeInts_same A5 A6 _ _ us _ ((O5.out.below X6.out).below X7.out).rd (O6.out.below X7.out).rd hul).mono ?_); rintro e w8 ⟨rfl, hb8⟩; have X8 := Lib.hid hb8; have B8 := Lib.hid (bl_trans B7.out hb8); clear hb8))
    have T1 := Lib.hid ((Q1.out.below X7.out).below X8.out)
    go_wp2_with (go_at_call 21; ((with_reducible refine (K3.out A1 _ _ T1.out).mono ?_); rintro e w8b ⟨rfl, rfl⟩))
    go_ret
    exact ⟨rfl, B8.out⟩

set_option maxRecDepth 100000 in
set_option maxHeartbeats 400000 in
theorem walkRiffles_big (a : Option Addr) (L c : Nat) (w : World) (hm : L ≤ maxLen) (h : 4096 < L) :
    Calls Try.prog 3 #[.slice a L c] w (Fresh (.bool true) w) := by
  unfold maxLen at hm
  go_enter Try.func3, Try.ntmps3
  go_wp2_with (go_at_call 13; refine (big_yes _ _ _ _ h (by omega)).mono ?_; rintro e w0 ⟨rfl, rfl⟩)
  go_ret
  exact ⟨rfl, bl_refl _⟩
theorem walkRiffles (a : Option Addr) (L c : Nat) (zs : Nat → Int) (w : World) (hm : L ≤ maxLen) (hc : CodeIn w a L zs) :
    Calls Try.prog 3 #[.slice a L c] w (Fresh (.bool true) w) := by
  by_cases h : L ≤ 4096
  · exact walkRiffles_in a L c zs w h hc
  · exact walkRiffles_big a L c w hm (by omega)

set_option maxRecDepth 100000 in
theorem fnRiffles_lifted (os : Os) (started : os.Started) (H : Type) (enc : TypeId × Value → H) :
    ReturnsInHanded {} Try.checked os 3 .any (Rows.fnRifflesSpec.pre6 enc Try.prog Try.f3 Rows.fnRifflesRow.domain false) (Rows.fnRifflesSpec.post enc Try.prog Try.f3 false true false false) := by
  refine law_lifted started (by kernel_rfl) Try.func3 (by kernel_rfl) rfl (fun ds h => ?_) ?_
    (ChangeSpec.witness6 (enc := enc) (C := Try.checked) false ⟨#[], #[.slice none 0 0], []⟩ 8 (by kernel_rfl) (by kernel_rfl) (by kernel_rfl) (by kernel_rfl)) ?_
  · match ds, h with
    | [d0], _ => rfl
  · rw [Try.params3]
    intro t ht
    obtain rfl : t = 22 := by simpa using ht
    exact ⟨by kernel_rfl, of_decide_eq_true (by kernel_rfl)⟩
  · intro W base args ds ps hval hA
    rw [Try.params3] at hA hval
    obtain ⟨v0, d0, rfl, rfl, h0⟩ := trodAll_one hA
    obtain ⟨A0, L0, c0, zs0, rfl, m0, r0⟩ := open_code (hval 0 22 v0 rfl rfl) h0
    exact walkRiffles A0 L0 c0 zs0 W m0 r0

/-- eight riffles restore a deck, and one is undone: for every code. -/
theorem fnRiffles_holds : Rows.FnRifflesSaid :=
  OpenClaim.holds_of_wide 3 Try.f3 rfl rfl rfl rfl rfl rfl rfl ⟨rfl, rfl, rfl, rfl, rfl⟩ rfl rfl rfl rfl rfl (by kernel_rfl) Try.func3 (by kernel_rfl)
    (of_decide_eq_true (by kernel_rfl)) (by unfold Func.isWrapper; first | (rw [if_pos (by decide +kernel)]; kernel_rfl) | (rw [if_neg (by decide +kernel)]; exact ⟨rfl, rfl⟩))
    (fun os started H enc _ => fnRiffles_lifted os started H enc)

end Go.Proofs.Ytafifipnfhekiaa
