/-
  ValueParts: what it answers, and the program's walk.
-/
import Derived.Test.YthgcgkkanmnfdaaDoorBase
namespace Go.Proofs.YthgcgkkanmnfdaaDoor
open Go.RowKit
set_option linter.unusedVariables false

/-- What a call leaves that returns a number, a list and a code. -/
def NewRT (a : Int) (xs : List Int) (code : Int) (w : World) (e : Ending) (w' : World) : Prop := ∃ A c, e = .returned (.tuple #[.int .i64 a, .slice A xs.length c, .int .i64 code]) ∧ Row w' w.heap.size A xs ∧ Below w.heap.size w w'
def digs5 (r : Int) : List Int := [r / 28561, r / 2197 % 13, r / 169 % 13, r / 13 % 13, r % 13]
def vpA (n : Int) : Int := if inB n 0 3341636 = true then n / 371293 else 0
def vpL (n : Int) : List Int := if inB n 0 3341636 = true then digs5 (n % 371293) else []
def vpC (n : Int) : Int := if inB n 0 3341636 = true then 0 else 2
theorem vpA_yes {n : Int} (h : inB n 0 3341636 = true) : vpA n = n / 371293 := by unfold vpA; rw [if_pos h]
theorem vpA_no {n : Int} (h : inB n 0 3341636 = false) : vpA n = 0 := by unfold vpA; rw [h]; rfl
theorem vpL_yes {n : Int} (h : inB n 0 3341636 = true) : vpL n = digs5 (n % 371293) := by unfold vpL; rw [if_pos h]
theorem vpL_no {n : Int} (h : inB n 0 3341636 = false) : vpL n = [] := by unfold vpL; rw [h]; rfl
theorem vpC_yes {n : Int} (h : inB n 0 3341636 = true) : vpC n = 0 := by unfold vpC; rw [if_pos h]
theorem vpC_no {n : Int} (h : inB n 0 3341636 = false) : vpC n = 2 := by unfold vpC; rw [h]; rfl
theorem vpL_len (n : Int) : (vpL n).length ≤ 5 := by unfold vpL; split <;> simp [digs5]
theorem inV {n : Int} : (inB n 0 3341636 = true ∧ 0 ≤ n ∧ n ≤ 3341636) ∨ (inB n 0 3341636 = false ∧ outB n 0 3341636) := by
  by_cases h : 0 ≤ n ∧ n ≤ 3341636
  · exact .inl ⟨inB_yes n _ _ h.1 h.2, h⟩
  · have ho : outB n 0 3341636 := by unfold outB; omega
    exact .inr ⟨outB_inB _ _ _ ho, ho⟩
def rs (r : Int) : Nat → Int
  | 0 => r
  | t + 1 => rs r t / 13
def pt (r : Int) : Nat → List Int
  | 0 => [0, 0, 0, 0, 0]
  | t + 1 => (pt r t).set (4 - t) (rs r t % 13)
theorem rs_bd (r : Int) (h0 : 0 ≤ r) (h1 : r < 371293) : ∀ t, 0 ≤ rs r t ∧ rs r t < 371293
  | 0 => ⟨h0, h1⟩
  | t + 1 => by have := rs_bd r h0 h1 t; unfold rs; omega
theorem pt_len (r : Int) : ∀ t, (pt r t).length = 5
  | 0 => rfl
  | t + 1 => by unfold pt; rw [List.length_set]; exact pt_len r t
theorem pt_all (r : Int) (h0 : 0 ≤ r) (h1 : r < 371293) : pt r 5 = digs5 r := by
  have e : rs r 4 % 13 = r / 28561 := by simp only [rs]; omega
  have e3 : rs r 3 % 13 = r / 2197 % 13 := by simp only [rs]; omega
  have e2 : rs r 2 % 13 = r / 169 % 13 := by simp only [rs]; omega
  have e1 : rs r 1 % 13 = r / 13 % 13 := by simp only [rs]
  have e0 : rs r 0 % 13 = r % 13 := rfl
  show (((((([0, 0, 0, 0, 0] : List Int).set 4 (rs r 0 % 13)).set 3 (rs r 1 % 13)).set 2 (rs r 2 % 13)).set 1 (rs r 3 % 13)).set 0 (rs r 4 % 13)) = digs5 r
  rw [e, e3, e2, e1, e0]
  rfl
set_option maxRecDepth 100000 in
set_option maxHeartbeats 1000000 in
theorem implParts_any (n : Int) (w : World) : Calls Tryd.prog 16 #[.int .i64 n] w (NewRT (vpA n) (vpL n) (vpC n) w) := by
  rcases inV (n := n) with ⟨hd, h0, h1⟩ | ⟨hd, ho⟩
  · rw [vpA_yes hd, vpL_yes hd, vpC_yes hd]
    have hr0 : 0 ≤ n % 371293 := by omega
    have hr1 : n % 371293 < 371293 := by omega
    have e1 : n.tmod 371293 = n % 371293 := Int.tmod_eq_emod_of_nonneg h0
    have e2 : n.tdiv 371293 = n / 371293 := Int.tdiv_eq_ediv_of_nonneg h0
    have hq : 0 ≤ n / 371293 ∧ n / 371293 < 9 := by omega
    have hlt : n < 3341637 := by omega
    have PA := Lib.hid (pt_all (n % 371293) hr0 hr1)
    have PL := Lib.hid (pt_len (n % 371293))
    have RB := Lib.hid (rs_bd (n % 371293) hr0 hr1)
    generalize hr : n % 371293 = r at *
    generalize n / 371293 = q at *
    obtain ⟨i0, hi, hz0, hz1, hz2⟩ := info_parts infoInt
    have hmk := fun W => run_make5 24 2 i0 Tryd.underlying24 hi hz0 hz1 hz2 W
    clear hd hi hz0 hz1 hz2
    obtain ⟨w0, rfl⟩ : ∃ w0 : World, w0 = w := ⟨w, rfl⟩
    go_enter Tryd.func16, Tryd.ntmps16
    go_wp2_with fail
    go_loopw [5, 7] (fun x i wr => ∃ t : Nat, t ≤ 5 ∧ x = .int .i64 (rs r t) ∧ i = .int .i64 ((4 : Int) - t) ∧ Hid (Blk wr w0.heap.size 2 (ints (pt r t)) ∧ Below w0.heap.size w0 wr)) (fun _ i _ => (intOf i + 1).toNat)
    case atStart => exact ⟨0, by omega, rfl, rfl, Lib.hid ⟨blk_new w0 2 (ints [0, 0, 0, 0, 0]), bl_alloc (bl_refl _) _⟩⟩
    case round =>
      obtain ⟨t, ht, rfl, rfl, hs⟩ := hrel
      by_cases ht5 : t < 5
      · have hb := RB.out t
        have ER : Hid (rs r (t + 1) = rs r t / 13) := Lib.hid rfl
        have EP : Hid (pt r (t + 1) = (pt r t).set (4 - t) (rs r t % 13)) := Lib.hid rfl
        obtain ⟨hcl, hfr⟩ := hs.out.1.int (4 - t) (by rw [PL.out]; omega)
        have hst := blk_setI hs.out.1 (4 - t) (rs r t % 13)
        have HB2 : Hid (Below w0.heap.size w0 (wr.setCell ⟨w0.heap.size, 4 - t, none⟩ (.int .i64 (rs r t % 13)))) := Lib.hid (bl_blk hs.out.2 hst.2 (Nat.le_refl _))
        have HS2 := Lib.hid hst.1
        have i0 : (0 : Int) ≤ 4 - (t : Int) := by omega
        have i1 : (4 : Int) - (t : Int) < 5 := by omega
        have i2 : ((4 : Int) - (t : Int)).toNat = 4 - t := by omega
        have f5 : (rs r t).tmod 13 = rs r t % 13 := Int.tmod_eq_emod_of_nonneg hb.1
        have f4 : (rs r t).tdiv 13 = rs r t / 13 := Int.tdiv_eq_ediv_of_nonneg hb.1
        generalize nth (pt r t) (4 - t) = old at *
        generalize rs r t = x at *
        clear hst
        go_wp2_with fail
        go_roundw
        case rel => exact ⟨t + 1, by omega, by rw [ER.out], by rw [show (4 : Int) - t - 1 = 4 - ((t + 1 : Nat) : Int) by omega], Lib.hid (by rw [EP.out]; exact ⟨HS2.out, HB2.out⟩)⟩
        case measure => simp [intOf]; omega
      · obtain rfl : t = 5 := by omega
        rw [show (4 : Int) - ((5 : Nat) : Int) = -1 from rfl]
        have hz := hs.out
        rw [PA.out] at hz
        have HZ := Lib.hid hz
        clear hs hz
        go_wp2_with fail
        go_ret3
        exact ⟨some ⟨w0.heap.size, 0, none⟩, 5, rfl, row_blk HZ.out.1 (Nat.le_refl _), HZ.out.2⟩
  · rw [vpA_no hd, vpL_no hd, vpC_no hd]
    unfold outB at ho
    clear hd
    by_cases hlt : n < 0
    · go_enter Tryd.func16, Tryd.ntmps16
      go_wp2_with fail
      go_ret3
      exact ⟨none, 0, rfl, Row.nil _ _, bl_refl _⟩
    · have h2 : ¬ n < 3341637 := by omega
      have h0 : 0 ≤ n := by omega
      clear ho
      go_enter Tryd.func16, Tryd.ntmps16
      go_wp2_with fail
      go_ret3
      exact ⟨none, 0, rfl, Row.nil _ _, bl_refl _⟩
end Go.Proofs.YthgcgkkanmnfdaaDoor
