/-
  The model's counts of ranks and of suits.
-/
import Derived.Test.YtcbfmfkahgfjkaaDoorCntL
namespace Go.Proofs.YtcbfmfkahgfjkaaDoor
open Go.RowKit
set_option linter.unusedVariables false

/-- A counting loop's step. -/
theorem cntL_set (n : Nat) (key : Int → Int) (xs : List Int) (x : Int) (j : Nat) (hj : j < n) (e : key x = (j : Int)) : (cntL n key xs).set j ((cnt (fun y => key y == (j : Int)) xs : Int) + 1) = cntL n key (xs ++ [x]) := by
  apply List.ext_getElem?
  intro i
  rw [List.getElem?_set, cntL_length]
  by_cases hi : i < n
  · have a : (cntL n key xs)[i]? = some (cnt (fun y => key y == (i : Int)) xs : Int) := by simp [cntL, hi]
    have b : (cntL n key (xs ++ [x]))[i]? = some (cnt (fun y => key y == (i : Int)) (xs ++ [x]) : Int) := by simp [cntL, hi]
    rw [a, b, cnt_snoc]
    by_cases h : j = i
    · subst h
      rw [if_pos rfl, if_pos hi, if_pos (by simp [e])]; rfl
    · rw [if_neg h, if_neg (by simp; omega)]; rfl
  · have a : (cntL n key xs)[i]? = none := by rw [List.getElem?_eq_none]; rw [cntL_length]; omega
    have b : (cntL n key (xs ++ [x]))[i]? = none := by rw [List.getElem?_eq_none]; rw [cntL_length]; omega
    rw [a, b, if_neg (by omega)]
theorem cntL_nil (n : Nat) (key : Int → Int) : cntL n key [] = List.replicate n 0 := by
  rw [List.eq_replicate_iff]
  exact ⟨cntL_length n key [], fun y hy => by simp [cntL, cnt_nil] at hy; exact hy.2.symm⟩
/-- The counting loop's state. -/
def Counted (w : World) (n : Nat) (key : Int → Int) (xs : List Int) (wr : World) : Prop :=
  wr.ownsRow w.heap.size 2 1 (.slice (some ⟨w.heap.size, 0, none⟩) n n) n (ints (cntL n key xs)) ∧ Below w.heap.size w wr
theorem counted_step {w wr : World} {n : Nat} {key : Int → Int} {xs : List Int} {x : Int} (h : Counted w n key xs wr) (j : Nat) (hj : j < n) (e : key x = (j : Int)) :
    Counted w n key (xs ++ [x]) (wr.setCell ⟨w.heap.size, j, none⟩ (.int .i64 ((cnt (fun y => key y == (j : Int)) xs : Int) + 1))) := by
  refine ⟨?_, h.2.setCell (Nat.le_refl _) _⟩
  have := (h.1.stored j (.int .i64 ((cnt (fun y => key y == (j : Int)) xs : Int) + 1))).1
  rwa [ints_set, cntL_set n key xs x j hj e] at this
theorem counted_cell {w wr : World} {n : Nat} {key : Int → Int} {xs : List Int} (h : Counted w n key xs wr) (j : Nat) (hj : j < n) :
    wr.cell? ⟨w.heap.size, j, none⟩ = some (.int .i64 (cnt (fun y => key y == (j : Int)) xs : Int)) ∧ wr.frozen? ⟨w.heap.size, j, none⟩ = false := by
  refine ⟨?_, h.1.frozenAt j⟩
  rw [h.1.cellAt j (by omega), ints_get _ _ (by rw [cntL_length]; exact hj), cntL_nth n key xs j hj]

set_option maxRecDepth 100000 in
set_option maxHeartbeats 1000000 in
theorem l02RankCounts_any (A : Option Addr) (c : Nat) (xs : List Int) (w : World) (hr : Rd w A xs) (hn : xs.length ≤ 4000000) (hb : cardsB xs = true) :
    Calls Tryd.prog 75 #[.slice A xs.length c] w (NewL (cntL 13 (fun x => x / 4) xs) w) := by
  obtain ⟨i0, hi, hz0, hz1, hz2⟩ := info_parts infoInt
  have HR := Lib.hid hr
  have HB := Lib.hid ((cards_iff xs).1 hb).1
  clear hr hb
  obtain ⟨w0, rfl⟩ : ∃ w0 : World, w0 = w := ⟨w, rfl⟩
  go_enter Tryd.func75, Tryd.ntmps75
  go_wp2_with (at_make; refine wpList_make_full _ rfl _ _ 22 rfl w0.heap.size 2 i0 (.int .i64 0) 1 Tryd.underlying22 hi hz0 hz1 .i64 .i64 _ _ 13 rfl rfl rfl rfl ?c1 ?c2 (Nat.le_refl _) ?_)
  case c1 => rw [hz2]; omega
  case c2 => unfold maxLen; omega
  intro w1 hown hgrow
  have HS : Hid (Counted w0 13 (fun x => x / 4) (xs.take 0) w1) := Lib.hid ⟨by
    have e : (madeCells #[Value.int .i64 0] 13).toList = ints (cntL 13 (fun x => x / 4) (xs.take 0)) := by
      rw [List.take_zero, cntL_nil, ← ints_zeros]; exact toList_madeCells_one _ _
    rwa [e] at hown, (bl_refl _).grown hgrow (Nat.le_refl _) (fun j hj => by cases hj)⟩
  clear hown hgrow
  go_wp2_with fail
  go_loopw [4] (fun i wr => ∃ k : Nat, k ≤ xs.length ∧ i = .int .i64 k ∧ Hid (Counted w0 13 (fun x => x / 4) (xs.take k) wr)) (fun i _ => xs.length - (intOf i).toNat)
  case atStart => exact ⟨0, Nat.zero_le _, rfl, HS⟩
  case round =>
    obtain ⟨k, hk, rfl, hs⟩ := hrel
    by_cases hlt : k < xs.length
    · obtain ⟨b, off, rfl, hc⟩ := HR.out.at_ hs.out.2 k hlt
      have hlt' : (k : Int) < xs.length := by omega
      have HC := Lib.hid (take_nth xs k hlt)
      have hx := HB.out _ (nth_mem xs k hlt)
      obtain ⟨x, ex⟩ : ∃ x, x = nth xs k := ⟨_, rfl⟩
      rw [← ex] at hc HC hx
      clear ex
      obtain ⟨y, rfl⟩ := Int.eq_ofNat_of_zero_le hx.1
      have hq : y / 4 < 13 := by omega
      obtain ⟨hg, hf⟩ := counted_cell hs.out (y / 4) hq
      have he : (fun x : Int => x / 4) (y : Int) = ((y / 4 : Nat) : Int) := by simp
      have HE := Lib.hid he
      clear he
      have hle : cnt (fun z => (fun x : Int => x / 4) z == ((y / 4 : Nat) : Int)) (xs.take k) ≤ 4000000 := Nat.le_trans (cnt_le _ _) (by rw [List.length_take]; omega)
      obtain ⟨q, eq⟩ : ∃ q, q = cnt (fun z => (fun x : Int => x / 4) z == ((y / 4 : Nat) : Int)) (xs.take k) := ⟨_, rfl⟩
      rw [← eq] at hg hle
      have EQ := Lib.hid eq
      clear eq
      obtain ⟨hx1, hx2⟩ := hx
      have hy : y < 52 := by omega
      clear hx1
      go_wp2_with fail
      go_roundw
      case rel => exact ⟨k + 1, by omega, by go_num, Lib.hid (by rw [HC.out]; have := counted_step hs.out (y / 4) hq HE.out; rw [← EQ.out] at this; exact this)⟩
      case measure => simp [intOf]; omega
    · obtain rfl : k = xs.length := by omega
      go_wp2_with fail
      go_ret
      have h := hs.out
      unfold Counted at h
      rw [take_len] at h
      have hl := cntL_length 13 (fun x => x / 4) xs
      refine ⟨some ⟨w0.heap.size, 0, none⟩, 13, ?_, ?_, h.2⟩
      · rw [hl]; rfl
      · unfold Own; rw [hl]; exact h.1

set_option maxRecDepth 100000 in
set_option maxHeartbeats 1000000 in
theorem l02SuitCounts_any (A : Option Addr) (c : Nat) (xs : List Int) (w : World) (hr : Rd w A xs) (hn : xs.length ≤ 4000000) (hb : cardsB xs = true) :
    Calls Tryd.prog 76 #[.slice A xs.length c] w (NewL (cntL 4 (fun x => x % 4) xs) w) := by
  obtain ⟨i0, hi, hz0, hz1, hz2⟩ := info_parts infoInt
  have HR := Lib.hid hr
  have HB := Lib.hid ((cards_iff xs).1 hb).1
  clear hr hb
  obtain ⟨w0, rfl⟩ : ∃ w0 : World, w0 = w := ⟨w, rfl⟩
  go_enter Tryd.func76, Tryd.ntmps76
  go_wp2_with (at_make; refine wpList_make_full _ rfl _ _ 22 rfl w0.heap.size 2 i0 (.int .i64 0) 1 Tryd.underlying22 hi hz0 hz1 .i64 .i64 _ _ 4 rfl rfl rfl rfl ?c1 ?c2 (Nat.le_refl _) ?_)
  case c1 => rw [hz2]; omega
  case c2 => unfold maxLen; omega
  intro w1 hown hgrow
  have HS : Hid (Counted w0 4 (fun x => x % 4) (xs.take 0) w1) := Lib.hid ⟨by
    have e : (madeCells #[Value.int .i64 0] 4).toList = ints (cntL 4 (fun x => x % 4) (xs.take 0)) := by
      rw [List.take_zero, cntL_nil, ← ints_zeros]; exact toList_madeCells_one _ _
    rwa [e] at hown, (bl_refl _).grown hgrow (Nat.le_refl _) (fun j hj => by cases hj)⟩
  clear hown hgrow
  go_wp2_with fail
  go_loopw [4] (fun i wr => ∃ k : Nat, k ≤ xs.length ∧ i = .int .i64 k ∧ Hid (Counted w0 4 (fun x => x % 4) (xs.take k) wr)) (fun i _ => xs.length - (intOf i).toNat)
  case atStart => exact ⟨0, Nat.zero_le _, rfl, HS⟩
  case round =>
    obtain ⟨k, hk, rfl, hs⟩ := hrel
    by_cases hlt : k < xs.length
    · obtain ⟨b, off, rfl, hc⟩ := HR.out.at_ hs.out.2 k hlt
      have hlt' : (k : Int) < xs.length := by omega
      have HC := Lib.hid (take_nth xs k hlt)
      have hx := HB.out _ (nth_mem xs k hlt)
      obtain ⟨x, ex⟩ : ∃ x, x = nth xs k := ⟨_, rfl⟩
      rw [← ex] at hc HC hx
      clear ex
      obtain ⟨y, rfl⟩ := Int.eq_ofNat_of_zero_le hx.1
      have hq : y % 4 < 4 := by omega
      obtain ⟨hg, hf⟩ := counted_cell hs.out (y % 4) hq
      have he : (fun x : Int => x % 4) (y : Int) = ((y % 4 : Nat) : Int) := by simp
      have HE := Lib.hid he
      clear he
      have hle : cnt (fun z => (fun x : Int => x % 4) z == ((y % 4 : Nat) : Int)) (xs.take k) ≤ 4000000 := Nat.le_trans (cnt_le _ _) (by rw [List.length_take]; omega)
      obtain ⟨q, eq⟩ : ∃ q, q = cnt (fun z => (fun x : Int => x % 4) z == ((y % 4 : Nat) : Int)) (xs.take k) := ⟨_, rfl⟩
      rw [← eq] at hg hle
      have EQ := Lib.hid eq
      clear eq
      obtain ⟨hx1, hx2⟩ := hx
      have hy : y < 52 := by omega
      clear hx1
      go_wp2_with fail
      go_roundw
      case rel => exact ⟨k + 1, by omega, by go_num, Lib.hid (by rw [HC.out]; have := counted_step hs.out (y % 4) hq HE.out; rw [← EQ.out] at this; exact this)⟩
      case measure => simp [intOf]; omega
    · obtain rfl : k = xs.length := by omega
      go_wp2_with fail
      go_ret
      have h := hs.out
      unfold Counted at h
      rw [take_len] at h
      have hl := cntL_length 4 (fun x => x % 4) xs
      refine ⟨some ⟨w0.heap.size, 0, none⟩, 4, ?_, ?_, h.2⟩
      · rw [hl]; rfl
      · unfold Own; rw [hl]; exact h.1

end Go.Proofs.YtcbfmfkahgfjkaaDoor
