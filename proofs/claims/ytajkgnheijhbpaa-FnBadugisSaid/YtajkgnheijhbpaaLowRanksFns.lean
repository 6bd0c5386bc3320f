/-
  LowRanks: both texts' walks.
-/
import Derived.Test.YtajkgnheijhbpaaLowSort
import Derived.Test.YtajkgnheijhbpaaSpecLow
import Derived.Test.YtajkgnheijhbpaaSortSpec
import Derived.Test.YtajkgnheijhbpaaBase
namespace Go.Proofs.Ytajkgnheijhbpaa
open Go.RowKit
set_option linter.unusedVariables false

theorem lrs_snoc (xs : List Int) (k : Nat) (h : k < xs.length) : lrs (xs.take (k + 1)) = lrs (xs.take k) ++ [lr (nth xs k)] := by
  rw [take_nth xs k h]; unfold lrs; rw [List.map_append]; rfl
set_option maxRecDepth 100000 in
set_option maxHeartbeats 2000000 in
theorem l05Ranks_any (A : Option Addr) (c : Nat) (xs : List Int) (w1 : World) (hr : Rd w1 A xs) (hl : xs.length ≤ 100) (hc : ∀ x ∈ xs, 0 ≤ x ∧ x < 52) :
    Calls Try.prog 52 #[.slice A xs.length c] w1 (NewL (lrs xs) w1) := by
  obtain ⟨i0, hi, hz0, hz1, hz2⟩ := info_parts infoInt
  have HR := Lib.hid hr
  have HC := Lib.hid hc
  clear hr hc
  go_enter Try.func52, Try.ntmps52
  go_wp2_with fail
  go_loopw [3, 4] (fun v i wr => ∃ k : Nat, k ≤ xs.length ∧ i = .int .i64 k ∧ Hid (Grow w1 (lrs (xs.take k)) v wr)) (fun _ i _ => xs.length - (intOf i).toNat)
  case atStart => exact ⟨0, Nat.zero_le _, rfl, Lib.hid (grow_start w1)⟩
  case round =>
    obtain ⟨k, hk, rfl, HG⟩ := hrel
    by_cases hlt : k < xs.length
    · have hlt' : (k : Int) < xs.length := by omega
      obtain ⟨b, off, rfl, c1⟩ := HR.out.at_ HG.out.2 k hlt
      have hx := HC.out _ (nth_mem xs k hlt)
      have KR := Lib.hid (fun W => l05Rank_any (nth xs k) W hx.1 hx.2)
      have EZ := Lib.hid (lrs_snoc xs k hlt)
      have hlen : (lrs (xs.take k)).length ≤ 100 := by rw [lrs_len, List.length_take]; omega
      generalize lrs (xs.take k) = ys at *
      generalize lr (nth xs k) = q at *
      generalize nth xs k = x at *
      go_wp2_with (first
        | (go_at_call 89; refine (KR.out _).mono ?_; rintro e w2 ⟨rfl, rfl⟩)
        | (at_builtin; refine wpList_append_own _ rfl _ _ 24 rfl w1.heap.size 2 i0 (.int .i64 0) 1 8 Try.underlying24 hi hz0 hz1 hz2 rfl (by decide) _ _ _ rfl (HG.out.1.alloc _) ⟨wr.heap.size, 0, none⟩ 1 1 [.int .i64 q] rfl rfl ?c1 ?c2 ?c3 ?c4 ?c5 ?_))
      case c1 =>
        intro j' u hj'
        match j', hj' with
        | 0, hj' => simp at hj'; subst hj'; simp [Addr.add]
      case c2 => intro u hu; simp at hu; subst hu; rfl
      case c3 => unfold maxLen; omega
      case c4 => omega
      case c5 => have := HG.out.2.size; simp; omega
      intro v' w4 hown' hgrow _
      have HG2 := Lib.hid (grow_app HG.out hown' hgrow)
      clear hown' hgrow
      go_wp2_with fail
      go_roundw
      case rel => exact ⟨k + 1, by omega, by go_num, by rw [EZ.out]; exact HG2⟩
      case measure => simp [intOf] <;> omega
    · obtain rfl : k = xs.length := by omega
      obtain ⟨A', c', rfl, hO⟩ := own_form HG.out.1
      have hO2 := hO
      rw [take_len] at hO2
      go_wp2_with fail
      go_ret
      refine ⟨A', c', ?_, hO2, HG.out.2⟩
      rw [take_len]; rfl

/-! LowRanks. -/
def lowR (xs : List Int) : List Int := if sizedB xs 0 8 = true then descR (lrs xs) else []
theorem lowR_yes {xs : List Int} (h : sizedB xs 0 8 = true) : lowR xs = descR (lrs xs) := by unfold lowR; rw [if_pos h]
theorem lowR_no {xs : List Int} (h : sizedB xs 0 8 = false) : lowR xs = [] := by unfold lowR; rw [h]; rfl
theorem lowR_len (xs : List Int) : (lowR xs).length ≤ 8 := by
  rcases h : sizedB xs 0 8 with _ | _
  · rw [lowR_no h]; simp
  · rw [lowR_yes h, descR_len, lrs_len]
    have := (sized_iff.1 h).2.1
    omega
set_option maxRecDepth 100000 in
set_option maxHeartbeats 2000000 in
theorem implLowRanks_any (A : Option Addr) (c : Nat) (xs : List Int) (w : World) (hr : Rd w A xs) (hn : xs.length ≤ 4000000) :
    Calls Try.prog 17 #[.slice A xs.length c] w (NewRC (lowR xs) (codeZ xs 0 8) w) := by
  have K := Lib.hid (fun (c : Nat) => implSized_any A c xs 0 8 w hr hn)
  rcases hd : sizedB xs 0 8 with _ | _
  · rw [lowR_no hd, codeZ_no hd]
    rw [hd] at K
    clear hd hr
    go_enter Try.func17, Try.ntmps17
    go_wp2_with (go_at_call 45; refine (K.out _).mono ?_; rintro e w1 ⟨rfl, rfl⟩)
    go_ret2
    exact ⟨none, 0, rfl, Row.nil _ _, bl_refl _⟩
  · rw [lowR_yes hd, codeZ_yes hd]
    rw [hd] at K
    obtain ⟨h0, h8, hb⟩ := sized_iff.1 hd
    have K2 := Lib.hid (fun (c : Nat) => lowRanksOf_any A c xs w hr (by omega) ((cards_iff xs).1 hb).1)
    generalize descR (lrs xs) = ys at *
    clear hd hr hb hn h0 h8
    go_enter Try.func17, Try.ntmps17
    go_wp2_with (first
      | (go_at_call 45; refine (K.out _).mono ?_; rintro e w1 ⟨rfl, rfl⟩)
      | (go_at_call 46; refine (K2.out _).mono ?_; rintro e w2 ⟨rfl, hk2, hb2⟩; have N2 := Lib.hid hk2; have B2 := Lib.hid hb2; clear hk2 hb2))
    go_ret2
    exact ⟨_, _, rfl, row_blk N2.out (Nat.le_refl _), B2.out⟩
set_option maxRecDepth 100000 in
set_option maxHeartbeats 2000000 in
theorem specLowRanks_any (A : Option Addr) (c : Nat) (xs : List Int) (w : World) (hr : Rd w A xs) (hn : xs.length ≤ 4000000) :
    Calls Try.prog 18 #[.slice A xs.length c] w (NewRC (lowR xs) (codeZ xs 0 8) w) := by
  obtain ⟨i0, hi, hz0, hz1, hz2⟩ := info_parts infoInt
  have K := Lib.hid (fun (c : Nat) => specSized_any A c xs 0 8 w hr hn)
  rcases hd : sizedB xs 0 8 with _ | _
  · rw [lowR_no hd, codeZ_no hd]
    rw [hd] at K
    clear hd hr
    go_enter Try.func18, Try.ntmps18
    go_wp2_with (go_at_call 49; refine (K.out _).mono ?_; rintro e w1 ⟨rfl, hb1⟩; have B1 := Lib.hid hb1; clear hb1)
    go_ret2
    exact ⟨none, 0, rfl, Row.nil _ _, B1.out⟩
  · rw [lowR_yes hd, codeZ_yes hd]
    rw [hd] at K
    obtain ⟨h0, h8, hb⟩ := sized_iff.1 hd
    have hl8 : xs.length ≤ 8 := by omega
    have K2 := Lib.hid (fun (c : Nat) (W : World) (h : Below w.heap.size w W) => l05Ranks_any A c xs W (hr.below h) (by omega) ((cards_iff xs).1 hb).1)
    have hrl := lrs_len xs
    have ED := Lib.hid (descR_of (rev_desc (lrs xs)).1 (rev_desc (lrs xs)).2)
    have hul := (sortA_facts (lrs xs)).1.length_eq
    have K3 := Lib.hid (fun (A1 : Option Addr) (c1 : Nat) (W : World) (h : Rd W A1 (lrs xs)) => sorted_any A1 c1 (lrs xs) W h (by rw [hrl]; omega))
    generalize descR (lrs xs) = zs at *
    generalize sortA (lrs xs) = us at *
    generalize lrs xs = rs at *
    have hu8 : us.length ≤ 8 := by omega
    clear hd hr hb hn h0 h8 hl8 hrl hul
    go_enter Try.func18, Try.ntmps18
    go_wp2_with (first
      | (go_at_call 49; refine (K.out _).mono ?_; rintro e w1 ⟨rfl, hb1⟩; have B1 := Lib.hid hb1; clear hb1)
      | (go_at_call 52; refine (K2.out _ _ B1.out).mono ?_; rintro e w2 ⟨A2, c2, rfl, ho2, hb2⟩; have R2 := Lib.hid ho2.rd; have B2 := Lib.hid (bl_trans B1.out hb2); clear ho2 hb2)
      | (go_at_call 56; refine (K3.out _ _ _ R2.out).mono ?_; rintro e w3 ⟨A3, c3, rfl, ho3, hb3⟩; have R3 := Lib.hid ho3.rd; have B3 := Lib.hid (bl_trans B2.out hb3); clear ho3 hb3))
    go_loopw [5, 6] (fun v i wr => ∃ k : Nat, k ≤ us.length ∧ i = .int .i64 ((k : Int) - 1) ∧ Hid (Grow w3 ((us.drop k).reverse) v wr)) (fun _ i _ => (intOf i + 1).toNat)
    case atStart => exact ⟨us.length, Nat.le_refl _, by go_num, by rw [List.drop_length, List.reverse_nil]; exact Lib.hid (grow_start w3)⟩
    case round =>
      obtain ⟨k0, hk, rfl, HG⟩ := hrel
      rcases k0 with _ | k
      · obtain ⟨A', c', rfl, hO⟩ := own_form HG.out.1
        have hO2 := hO
        have hB := HG.out.2
        rw [List.drop_zero, ED.out] at hO2
        go_wp2_with fail
        go_ret2
        refine ⟨A', c', ?_, Row.less (Row.of_own hO2) B3.out.size, bl_trans B3.out hB⟩
        rw [List.drop_zero, ED.out]; rfl
      · have hx : ((k + 1 : Nat) : Int) - 1 = (k : Int) := by omega
        rw [hx]
        clear hx
        have hk' : (k : Int) < us.length := by omega
        obtain ⟨b, off, rfl, c1⟩ := R3.out.at_ HG.out.2 k (by omega)
        have EZ : Hid ((us.drop k).reverse = (us.drop (k + 1)).reverse ++ [nth us k]) := Lib.hid (by
          rw [List.drop_eq_getElem_cons (by omega), List.reverse_cons, nth_eq us k (by omega)])
        have hlen : ((us.drop (k + 1)).reverse).length ≤ 100 := by rw [List.length_reverse, List.length_drop]; omega
        generalize (us.drop (k + 1)).reverse = ys at *
        generalize nth us k = q at *
        go_wp2_with (at_builtin; refine wpList_append_own _ rfl _ _ 24 rfl w3.heap.size 2 i0 (.int .i64 0) 1 8 Try.underlying24 hi hz0 hz1 hz2 rfl (by decide) _ _ _ rfl (HG.out.1.alloc _) ⟨wr.heap.size, 0, none⟩ 1 1 [.int .i64 q] rfl rfl ?c1 ?c2 ?c3 ?c4 ?c5 ?_)
        case c1 =>
          intro j' u hj'
          match j', hj' with
          | 0, hj' => simp at hj'; subst hj'; simp [Addr.add]
        case c2 => intro u hu; simp at hu; subst hu; rfl
        case c3 => unfold maxLen; omega
        case c4 => omega
        case c5 => have := HG.out.2.size; simp; omega
        intro v' w4 hown' hgrow _
        have HG2 := Lib.hid (grow_app HG.out hown' hgrow)
        clear hown' hgrow
        go_wp2_with fail
        go_roundw
        case rel => exact ⟨k, by omega, by go_num, by rw [EZ.out]; exact HG2⟩
        case measure => simp [intOf] <;> omega
end Go.Proofs.Ytajkgnheijhbpaa
