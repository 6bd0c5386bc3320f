/-
  l08Draw: a range, or another list, drawn; what the laws draw with it.
-/
import Derived.Test.YtlpkaflmhdgmmaaDrawList
import Derived.Test.YtlpkaflmhdgmmaaRngSets
namespace Go.Proofs.Ytlpkaflmhdgmmaa
open Go.RowKit
set_option linter.unusedVariables false

theorem lists_of {w w1 w2 : World} {s : Nat} {a : Option Addr} {L c : Nat} {zs : Nat → Int} {ys : List Int} {A : Option Addr} {cc : Nat} (hs1 : Src w1 s a L c zs) (ho1 : Only s w w1) (hown : Own w2 w1.heap.size (.slice A ys.length cc) ys) (hb : Below w1.heap.size w1 w2) : Lists w s a L c zs ys (.slice A ys.length cc) w2 :=
  ⟨hown.less ho1.size, hs1.below hb, only_trans ho1 (only_below hb)⟩
theorem drewL_of {w w2 : World} {s N : Nat} {a : Option Addr} {L c : Nat} {zs : Nat → Int} {ys : List Int} {v : Value} (h : Lists w s a L c zs ys v w2) (hl : ys.length ≤ N) : DrewL N w s a L c zs (.returned v) w2 := by
  obtain ⟨A, cc, rfl, ho⟩ := own_form h.own
  exact ⟨ys, A, cc, rfl, hl, ho, h.src, h.only⟩
theorem pick3_row (w : World) (s : Nat) (a : Option Addr) (L c : Nat) (zs : Nat → Int) (h : Src w s a L c zs) :
    Calls Try.prog 34 #[.pointer (some ⟨s, 0, none⟩), .slice (some ⟨w.heap.size, 0, none⟩) 3 3] (w.alloc (.cells #[.int .i64 (-1), .int .i64 0, .int .i64 169] 2)) (Drew (-1) 169 (w.alloc (.cells #[.int .i64 (-1), .int .i64 0, .int .i64 169] 2)) s a L c zs) := by
  have hs := src_lt h
  refine pick_any s w.heap.size 3 (rowOf [-1, 0, 169]) (-1) 169 a L c zs _ (by omega) (by omega) (fun i hi => row_new [-1, 0, 169] 2 w i hi) (fun i hi => ?_) (by omega) (src_alloc h _)
  match i, hi with
  | 0, _ => exact ⟨by decide, by decide⟩
  | 1, _ => exact ⟨by decide, by decide⟩
  | 2, _ => exact ⟨by decide, by decide⟩
set_option maxRecDepth 100000 in
set_option maxHeartbeats 4000000 in
theorem l08Draw_any (s : Nat) (a : Option Addr) (L c : Nat) (zs : Nat → Int) (w : World) (h : Src w s a L c zs) :
    Calls Try.prog 17 #[.pointer (some ⟨s, 0, none⟩)] w (DrewL 170 w s a L c zs) := by
  have HS := src_lt h
  have HB := Lib.hid (codeB_of h)
  have HSR := Lib.hid h
  have KO : Hid (∀ W, Calls Try.prog 35 #[.slice none 0 0] W (NewL (othersN 52 []) W)) := Lib.hid (fun W => others_any none 0 [] W (fun h => by simp at h) (by simp))
  have KR : Hid (∀ W, Calls Try.prog 36 #[.slice none 0 0] W (NewLC (othRR []) (twoC [] []) W)) := Lib.hid (fun W => specOtherRange_any none 0 [] W (fun h => by simp at h) (by simp))
  have HO52 := Lib.hid (othersN_len 52 [])
  have HRL : Hid ((othRR []).length ≤ 169) := Lib.hid (by unfold othRR; rw [(two_yes (f := fun a b => !a) rng_nil rng_nil).1]; exact clsIn_len _)
  generalize othersN 52 [] = o52 at *
  generalize othRR [] = oR at *
  generalize twoC [] [] = kR at *
  clear h
  obtain ⟨w0, rfl⟩ : ∃ w0 : World, w0 = w := ⟨w, rfl⟩
  obtain ⟨i0, hi, hz0, hz1, hz2⟩ := info_parts infoInt
  go_enter Try.func17, Try.ntmps17
  have L0 : Hid (Lists w0 s a L c zs [] (.slice (some ⟨w0.heap.size, 0, none⟩) 0 0) (w0.alloc (.cells #[] 2))) := Lib.hid ⟨(grow_start w0).1, src_alloc HSR.out _, only_alloc (only_refl _ _) _⟩
  go_wp2_with (go_at_call 25; refine (next_any s 6 a L c zs _ (by omega) (by omega) L0.out.src).mono ?_; rintro e w1 ⟨x, rfl, x0, x1, hs1, ho1⟩)
  have L1 := Lib.hid (lists_next L0.out HS hs1 ho1)
  obtain ⟨q, rfl⟩ := Int.eq_ofNat_of_zero_le x0
  clear hs1 ho1 L0
  go_loopw [3, 4] (fun v n wr => ∃ (q : Nat) (xs : List Int), q ≤ 5 ∧ n = .int .i64 q ∧ xs.length + q ≤ 5 ∧ Hid (Lists w0 s a L c zs xs v wr)) (fun _ n _ => (intOf n).toNat)
  case atStart => exact ⟨q, [], by omega, rfl, by simp; omega, L1⟩
  case round =>
    obtain ⟨q, xs, hq, rfl, hl, hs⟩ := hrel
    by_cases hlt : 0 < q
    · have hgt : decide ((0 : Int) < (q : Int)) = true := decide_eq_true (by omega)
      go_wp2_with (first
        | (go_at_call 25; refine (next_any s 169 a L c zs _ (by omega) (by omega) hs.out.src).mono ?_; rintro e w3 ⟨y, rfl, y0, y1, hs3, ho3⟩; have D3 := Lib.hid (lists_next hs.out HS hs3 ho3); clear hs3 ho3)
        | (at_builtin; refine wpList_append_own _ rfl _ _ 24 rfl w0.heap.size 2 i0 (.int .i64 0) 1 8 Try.underlying24 hi hz0 hz1 hz2 rfl (by decide) _ _ _ rfl (D3.out.own.below (bl_alloc (bl_refl _) _)) ⟨w3.heap.size, 0, none⟩ 1 1 [.int .i64 y] rfl rfl ?c1 ?c2 ?c3 ?c4 ?c5 ?_))
      case c1 =>
        intro j u hj
        match j, hj with
        | 0, hj => simp at hj; subst hj; simp [Addr.add]
      case c2 => intro u hu; simp at hu; subst hu; rfl
      case c3 => unfold maxLen; omega
      case c4 => omega
      case c5 => have := D3.out.only.size; simp; omega
      intro v' w5 hown5 hgrow5 _
      have D5 := Lib.hid (lists_app D3.out HS HB.out hown5 hgrow5)
      clear hown5 hgrow5
      go_wp2_with fail
      go_roundw
      case rel => exact ⟨q - 1, xs ++ [y], by omega, by rw [show ((q - 1 : Nat) : Int) = (q : Int) - 1 by omega], by simp; omega, D5⟩
      case measure => simp [intOf]; omega
    · obtain rfl : q = 0 := by omega
      obtain ⟨A3, c3, rfl, ho3⟩ := own_form hs.out.own
      have KL := Lib.hid (l08Range_any A3 c3 xs wr ho3.rd (by omega))
      have hrl := clsIn_len (hasB xs)
      clear ho3
      generalize clsIn (hasB xs) = rs at *
      go_wp2_with (first
        | (go_at_call 32; ((with_reducible refine (KL.out).mono ?_); rintro e w4 ⟨A4, c4, rfl, ho4, hb4⟩; have D4 := Lib.hid (lists_of hs.out.src hs.out.only ho4 hb4); clear ho4 hb4))
        | (go_at_call 25; refine (next_any s 20 a L c zs _ (by omega) (by omega) D4.out.src).mono ?_; rintro e w5 ⟨y, rfl, y0, y1, hs5, ho5⟩; have D5 := Lib.hid (lists_next D4.out HS hs5 ho5); clear hs5 ho5))
      · go_wp2_with (first
          | (go_at_call 34; refine (pick3_row _ _ _ _ _ _ D5.out.src).mono ?_; rintro e w6 ⟨z, rfl, z0, z1, hs6, ho6⟩; have D6 := Lib.hid (lists_next (lists_alloc D5.out _) HS hs6 ho6); clear hs6 ho6)
          | (at_builtin; refine wpList_append_own _ rfl _ _ 24 rfl w0.heap.size 2 i0 (.int .i64 0) 1 8 Try.underlying24 hi hz0 hz1 hz2 rfl (by decide) _ _ _ rfl (D6.out.own.below (bl_alloc (bl_refl _) _)) ⟨w6.heap.size, 0, none⟩ 1 1 [.int .i64 z] rfl rfl ?c1 ?c2 ?c3 ?c4 ?c5 ?_))
        case c1 =>
          intro j u hj
          match j, hj with
          | 0, hj => simp at hj; subst hj; simp [Addr.add]
        case c2 => intro u hu; simp at hu; subst hu; rfl
        case c3 => unfold maxLen; omega
        case c4 => omega
        case c5 => have := D6.out.only.size; simp; omega
        intro v' w7 hown7 hgrow7 _
        have D7 := Lib.hid (lists_app D6.out HS HB.out hown7 hgrow7)
        clear hown7 hgrow7
        go_wp2_with fail
        go_ret
        exact drewL_of D7.out (by simp; omega)
      · have KO5 := Lib.hid (KO.out w5)
        go_wp2_with (go_at_call 35; refine (KO5.out).mono ?_; rintro e w6 ⟨A6, c6, rfl, ho6, hb6⟩; have D6 := Lib.hid (lists_of D5.out.src D5.out.only ho6 hb6); clear ho6 hb6)
        have KL2 := Lib.hid (l08Range_any A6 c6 o52 w6 (D6.out.own).rd (by have := HO52.out; omega))
        have hrl2 := clsIn_len (hasB o52)
        generalize clsIn (hasB o52) = r2 at *
        go_wp2_with (go_at_call 32; ((with_reducible refine (KL2.out).mono ?_); rintro e w7 ⟨A7, c7, rfl, ho7, hb7⟩; have D7 := Lib.hid (lists_of D6.out.src D6.out.only ho7 hb7); clear ho7 hb7))
        go_ret
        exact drewL_of D7.out (by omega)
      · have KR5 := Lib.hid (KR.out w5)
        go_wp2_with (go_at_call 36; refine (KR5.out).mono ?_; rintro e w6 ⟨A6, c6, rfl, ho6, hb6⟩; have D6 := Lib.hid (lists_of D5.out.src D5.out.only ho6 hb6); clear ho6 hb6)
        go_ret
        exact drewL_of D6.out (by have := HRL.out; omega)
      · go_ret
        exact drewL_of D5.out (by omega)

/-- Two lists that a law draws from its code. -/
def DrawnTwo (N : Nat) (w : World) (e : Ending) (w' : World) : Prop :=
  ∃ (xs : List Int) (A : Option Addr) (c : Nat) (ys : List Int) (E : Option Addr) (d : Nat), e = .returned (.tuple #[.slice A xs.length c, .slice E ys.length d]) ∧ xs.length ≤ N ∧ ys.length ≤ N ∧ Rd w' A xs ∧ Rd w' E ys ∧ Below w.heap.size w w'
end Go.Proofs.Ytlpkaflmhdgmmaa
