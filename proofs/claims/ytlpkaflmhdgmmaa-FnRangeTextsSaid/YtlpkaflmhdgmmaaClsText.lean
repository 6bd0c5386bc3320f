/-
  The text of a class: the program's and the model's.
-/
import Derived.Test.YtlpkaflmhdgmmaaCls
import Derived.Laws.BytesArg
import Derived.Laws.Concat
import Derived.RegionTactic
import Derived.ChangeAlike
import Derived.WalkSpells
namespace Go.Proofs.Ytlpkaflmhdgmmaa
open Go.RowKit
set_option linter.unusedVariables false

theorem ret_strC {a b : ByteArray} (h : a = b) : Ending.returned (.string a) = .returned (.string b) := by rw [h]
set_option maxRecDepth 100000 in
theorem index_rk (r : Nat) (hr : r < 13) (W : World) : (Instr.index 9 (.string ⟨#[50, 51, 52, 53, 54, 55, 56, 57, 84, 74, 81, 75, 65]⟩) (.int .i64 r)).run Try.prog W = .ok (.int .u8 (rankCh r).toNat) W := by
  match r, hr with
  | 0, _ => rfl
  | 1, _ => rfl
  | 2, _ => rfl
  | 3, _ => rfl
  | 4, _ => rfl
  | 5, _ => rfl
  | 6, _ => rfl
  | 7, _ => rfl
  | 8, _ => rfl
  | 9, _ => rfl
  | 10, _ => rfl
  | 11, _ => rfl
  | 12, _ => rfl
theorem u8_back (b : UInt8) : UInt8.ofNat ((b.toNat : Int)).toNat = b := by simp
set_option maxRecDepth 100000 in
theorem conv_row (W : World) (b : Nat) (l : List UInt8) (h : ∀ i, i < l.length → W.cell? ⟨b, i, none⟩ = some (.int .u8 ((l.getD i 0).toNat : Nat))) :
    (convert 22 9 (.slice (some ⟨b, 0, none⟩) l.length l.length)).run Try.prog W = .ok (strV l) W := by
  have := run_convert_bytes_arg W 22 5 Try.underlying22 Try.underlying5 b 0 l.length l.length (l.map (fun b => (b.toNat : Int))) (by simp) (fun i hi => by
    rw [Nat.zero_add, h i hi]
    simp [hi]) 9 Try.underlying9
  rw [this]
  congr 2
  unfold strOfNums
  have e : (fun n : Int => UInt8.ofNat n.toNat) ∘ (fun b : UInt8 => (b.toNat : Int)) = id := by funext b; simp
  rw [List.map_map, e, List.map_id]
set_option maxRecDepth 100000 in
theorem conv2_new (w : World) (x y : UInt8) : (convert 22 9 (.slice (some ⟨w.heap.size, 0, none⟩) 2 2)).run Try.prog (w.alloc (.cells #[.int .u8 x.toNat, .int .u8 y.toNat] 5)) = .ok (strV [x, y]) (w.alloc (.cells #[.int .u8 x.toNat, .int .u8 y.toNat] 5)) :=
  conv_row _ _ [x, y] (fun i hi => match i, hi with
    | 0, _ => by simp [go_sem]
    | 1, _ => by simp [go_sem])
set_option maxRecDepth 100000 in
theorem conv2_drew (w : World) (x y : UInt8) : (convert 22 9 (.slice (some ⟨w.heap.size, 0, none⟩) 2 2)).run Try.prog (w.alloc (.cells #[.int .u8 x.toNat, .int .u8 y.toNat] 5)).drew = .ok (strV [x, y]) (w.alloc (.cells #[.int .u8 x.toNat, .int .u8 y.toNat] 5)).drew :=
  conv_row _ _ [x, y] (fun i hi => match i, hi with
    | 0, _ => by simp [go_sem]
    | 1, _ => by simp [go_sem])
set_option maxRecDepth 100000 in
theorem conv3_new (w : World) (x y : UInt8) (z : Int) (hz : z = 115 ∨ z = 111) : (convert 22 9 (.slice (some ⟨w.heap.size, 0, none⟩) 3 3)).run Try.prog (w.alloc (.cells #[.int .u8 x.toNat, .int .u8 y.toNat, .int .u8 z] 5)) = .ok (strV [x, y, UInt8.ofNat z.toNat]) (w.alloc (.cells #[.int .u8 x.toNat, .int .u8 y.toNat, .int .u8 z] 5)) := by
  rcases hz with rfl | rfl
  · exact conv_row _ _ [x, y, 115] (fun i hi => match i, hi with
      | 0, _ => by simp [go_sem]
      | 1, _ => by simp [go_sem]
      | 2, _ => by simp [go_sem])
  · exact conv_row _ _ [x, y, 111] (fun i hi => match i, hi with
      | 0, _ => by simp [go_sem]
      | 1, _ => by simp [go_sem]
      | 2, _ => by simp [go_sem])
set_option maxRecDepth 100000 in
theorem conv3_drew (w : World) (x y : UInt8) (z : Int) (hz : z = 115 ∨ z = 111) : (convert 22 9 (.slice (some ⟨w.heap.size, 0, none⟩) 3 3)).run Try.prog (w.alloc (.cells #[.int .u8 x.toNat, .int .u8 y.toNat, .int .u8 z] 5)).drew = .ok (strV [x, y, UInt8.ofNat z.toNat]) (w.alloc (.cells #[.int .u8 x.toNat, .int .u8 y.toNat, .int .u8 z] 5)).drew := by
  rcases hz with rfl | rfl
  · exact conv_row _ _ [x, y, 115] (fun i hi => match i, hi with
      | 0, _ => by simp [go_sem]
      | 1, _ => by simp [go_sem]
      | 2, _ => by simp [go_sem])
  · exact conv_row _ _ [x, y, 111] (fun i hi => match i, hi with
      | 0, _ => by simp [go_sem]
      | 1, _ => by simp [go_sem]
      | 2, _ => by simp [go_sem])

/-- The three kinds of classes, by the two digits of their number. -/
theorem cls_digits (k : Int) (h0 : 0 ≤ k) (h1 : k < 169) : ∃ r s : Nat, r < 13 ∧ s < 13 ∧ k / 13 = (r : Int) ∧ k % 13 = (s : Int) :=
  ⟨(k / 13).toNat, (k % 13).toNat, by omega, by omega, by omega, by omega⟩
theorem clsT_pair {k : Int} {r s : Nat} (e1 : k / 13 = (r : Int)) (e2 : k % 13 = (s : Int)) (h : r = s) : clsT k = [rankCh r, rankCh r] := by
  unfold clsT rkC; rw [e1, e2, if_pos (by omega)]; simp
theorem clsT_suited {k : Int} {r s : Nat} (e1 : k / 13 = (r : Int)) (e2 : k % 13 = (s : Int)) (h : s < r) : clsT k = [rankCh r, rankCh s, 115] := by
  unfold clsT rkC; rw [e1, e2, if_neg (by omega), if_pos (by omega)]; simp
theorem clsT_off {k : Int} {r s : Nat} (e1 : k / 13 = (r : Int)) (e2 : k % 13 = (s : Int)) (h : r < s) : clsT k = [rankCh s, rankCh r, 111] := by
  unfold clsT rkC; rw [e1, e2, if_neg (by omega), if_neg (by omega)]; simp

set_option maxRecDepth 100000 in
set_option maxHeartbeats 1000000 in
theorem l07Text_any (k : Int) (w : World) (h0 : 0 ≤ k) (h1 : k < 169) : Calls Try.prog 48 #[.int .i64 k] w (Fresh (strV (clsT k)) w) := by
  obtain ⟨r, s, hr, hs, e1, e2⟩ := cls_digits k h0 h1
  have e3 : k.tdiv 13 = (r : Int) := by rw [Int.tdiv_eq_ediv_of_nonneg h0]; exact e1
  have e4 : k.tmod 13 = (s : Int) := by rw [Int.tmod_eq_emod_of_nonneg h0]; exact e2
  by_cases hp : r = s
  · have HT := Lib.hid (clsT_pair e1 e2 hp)
    subst hp
    have i1 := index_rk r hr
    have c2 := conv2_new
    have c2' := conv2_drew
    generalize clsT k = l at *
    go_enter Try.func48, Try.ntmps48
    go_wp2_with fail
    go_region
    all_goals
      go_wp2_with fail
      go_ret
      exact ⟨ret_strC (by rw [HT.out]), by repeat (first | exact bl_refl _ | apply bl_alloc | apply bl_drewN | apply bl_drew)⟩
  · have i1 := index_rk r hr
    have i2 := index_rk s hs
    have d1 : ((r : Int) == (s : Int)) = false := by simp; omega
    by_cases hl : s < r
    · have HT := Lib.hid (clsT_suited e1 e2 hl)
      have c3 := fun w x y => conv3_new w x y 115 (.inl rfl)
      have c3' := fun w x y => conv3_drew w x y 115 (.inl rfl)
      have d2 : (s : Int) < (r : Int) := by omega
      clear hp hl
      generalize clsT k = l at *
      go_enter Try.func48, Try.ntmps48
      go_wp2_with fail
      go_region
      all_goals
        go_wp2_with fail
        go_ret
        exact ⟨ret_strC (by rw [HT.out]), by repeat (first | exact bl_refl _ | apply bl_alloc | apply bl_drewN | apply bl_drew)⟩
    · have HT := Lib.hid (clsT_off e1 e2 (by omega))
      have c3 := fun w x y => conv3_new w x y 111 (.inr rfl)
      have c3' := fun w x y => conv3_drew w x y 111 (.inr rfl)
      have d2 : (r : Int) < (s : Int) := by omega
      clear hp hl
      generalize clsT k = l at *
      go_enter Try.func48, Try.ntmps48
      go_wp2_with fail
      go_region
      all_goals
        go_wp2_with fail
        go_ret
        exact ⟨ret_strC (by rw [HT.out]), by repeat (first | exact bl_refl _ | apply bl_alloc | apply bl_drewN | apply bl_drew)⟩

/-! the program's -/
def maxI' (a b : Int) : Int := if a < b then b else a
def minI' (a b : Int) : Int := if b < a then b else a
set_option maxHeartbeats 400000 in
theorem max_two (a b : Int) (w : World) : Calls Try.prog 38 #[.int .i64 a, .int .i64 b] w (Same (.int .i64 (maxI' a b)) w) := by
  by_cases h : a < b
  · have H : Hid (maxI' a b = b) := Lib.hid (if_pos h)
    go_enter Try.func38, Try.ntmps38
    go_wp2
    go_ret
    exact ⟨ret_int H.out.symm, rfl⟩
  · have H : Hid (maxI' a b = a) := Lib.hid (if_neg h)
    go_enter Try.func38, Try.ntmps38
    go_wp2
    go_ret
    exact ⟨ret_int H.out.symm, rfl⟩
set_option maxHeartbeats 400000 in
theorem min_two (a b : Int) (w : World) : Calls Try.prog 41 #[.int .i64 a, .int .i64 b] w (Same (.int .i64 (minI' a b)) w) := by
  by_cases h : b < a
  · have H : Hid (minI' a b = b) := Lib.hid (if_pos h)
    go_enter Try.func41, Try.ntmps41
    go_wp2
    go_ret
    exact ⟨ret_int H.out.symm, rfl⟩
  · have H : Hid (minI' a b = a) := Lib.hid (if_neg h)
    go_enter Try.func41, Try.ntmps41
    go_wp2
    go_ret
    exact ⟨ret_int H.out.symm, rfl⟩
set_option maxRecDepth 100000 in
theorem add_suf (x y z : UInt8) (W : World) (b : ByteArray) (hb : b = ⟨#[z]⟩) : (Op.stringOp .add (⟨[x, y].toArray⟩ : ByteArray) b).run Try.prog W = .ok (strV [x, y, z]) W := by
  subst hb
  rw [run_string_add_sum W _ _ (by simp [ByteArray.size])]
  rfl

set_option maxRecDepth 100000 in
set_option maxHeartbeats 2000000 in
theorem implText_cls (k : Int) (w : World) (h0 : 0 ≤ k) (h1 : k < 169) : Calls Try.prog 20 #[.int .i64 k] w (Fresh (strV (clsT k)) w) := by
  obtain ⟨r, s, hr, hs, e1, e2⟩ := cls_digits k h0 h1
  have KR := Lib.hid (fun W => row_cls k W h0 h1)
  have KC := Lib.hid (fun W => col_cls k W h0 h1)
  have KP := Lib.hid (fun W => pair_cls k W h0 h1)
  have KS := Lib.hid (fun W => suited_cls k W h0 h1)
  have KX := Lib.hid (fun W => max_two (r : Int) (s : Int) W)
  have KN := Lib.hid (fun W => min_two (r : Int) (s : Int) W)
  rw [e1] at KR
  rw [e2] at KC
  have c2 := conv2_new
  have c2' := conv2_drew
  rcases Nat.lt_trichotomy r s with hl | hl | hl
  · have HT := Lib.hid (clsT_off e1 e2 hl)
    have p1 : pairB k = false := by unfold pairB; rw [e1, e2]; exact decide_eq_false (by omega)
    have p2 : suitedB k = false := by unfold suitedB; rw [e1, e2]; exact decide_eq_false (by omega)
    have p3 : maxI' r s = (s : Nat) := if_pos (by omega)
    have p4 : minI' r s = (r : Nat) := if_neg (by omega)
    rw [p1] at KP
    rw [p2] at KS
    rw [p3] at KX
    rw [p4] at KN
    have i1 := index_rk r hr
    have i2 := index_rk s hs
    have q := add_suf (rankCh s) (rankCh r) 111
    clear p1 p2 p3 p4 e1 e2 hl
    generalize clsT k = l at *
    go_enter Try.func20, Try.ntmps20
    go_wp2_with (first | (go_at_call 39; refine (KR.out _).mono ?_; rintro e w1 ⟨rfl, rfl⟩) | (go_at_call 40; refine (KC.out _).mono ?_; rintro e w1 ⟨rfl, rfl⟩) | (go_at_call 38; refine (KX.out _).mono ?_; rintro e w1 ⟨rfl, rfl⟩) | (go_at_call 41; refine (KN.out _).mono ?_; rintro e w1 ⟨rfl, rfl⟩))
    go_region
    all_goals
      go_wp2_with (first | (go_at_call 42; refine (KP.out _).mono ?_; rintro e w1 ⟨rfl, rfl⟩) | (go_at_call 43; refine (KS.out _).mono ?_; rintro e w1 ⟨rfl, rfl⟩))
      go_ret
      exact ⟨ret_strC (by rw [HT.out]), by repeat (first | exact bl_refl _ | apply bl_alloc | apply bl_drewN | apply bl_drew)⟩
  · have HT := Lib.hid (clsT_pair e1 e2 hl)
    have p1 : pairB k = true := by unfold pairB; rw [e1, e2]; exact decide_eq_true (by omega)
    have p2 : suitedB k = false := by unfold suitedB; rw [e1, e2]; exact decide_eq_false (by omega)
    have p3 : maxI' r s = (r : Nat) := if_neg (by omega)
    have p4 : minI' r s = (r : Nat) := if_neg (by omega)
    rw [p1] at KP
    rw [p2] at KS
    rw [p3] at KX
    rw [p4] at KN
    have i1 := index_rk r hr
    clear p1 p2 p3 p4 e1 e2 hl
    generalize clsT k = l at *
    go_enter Try.func20, Try.ntmps20
    go_wp2_with (first | (go_at_call 39; refine (KR.out _).mono ?_; rintro e w1 ⟨rfl, rfl⟩) | (go_at_call 40; refine (KC.out _).mono ?_; rintro e w1 ⟨rfl, rfl⟩) | (go_at_call 38; refine (KX.out _).mono ?_; rintro e w1 ⟨rfl, rfl⟩) | (go_at_call 41; refine (KN.out _).mono ?_; rintro e w1 ⟨rfl, rfl⟩))
    go_region
    all_goals
      go_wp2_with (first | (go_at_call 42; refine (KP.out _).mono ?_; rintro e w1 ⟨rfl, rfl⟩) | (go_at_call 43; refine (KS.out _).mono ?_; rintro e w1 ⟨rfl, rfl⟩))
      go_ret
      exact ⟨ret_strC (by rw [HT.out]), by repeat (first | exact bl_refl _ | apply bl_alloc | apply bl_drewN | apply bl_drew)⟩
  · have HT := Lib.hid (clsT_suited e1 e2 hl)
    have p1 : pairB k = false := by unfold pairB; rw [e1, e2]; exact decide_eq_false (by omega)
    have p2 : suitedB k = true := by unfold suitedB; rw [e1, e2]; exact decide_eq_true (by omega)
    have p3 : maxI' r s = (r : Nat) := if_neg (by omega)
    have p4 : minI' r s = (s : Nat) := if_pos (by omega)
    rw [p1] at KP
    rw [p2] at KS
    rw [p3] at KX
    rw [p4] at KN
    have i1 := index_rk r hr
    have i2 := index_rk s hs
    have q := add_suf (rankCh r) (rankCh s) 115
    clear p1 p2 p3 p4 e1 e2 hl
    generalize clsT k = l at *
    go_enter Try.func20, Try.ntmps20
    go_wp2_with (first | (go_at_call 39; refine (KR.out _).mono ?_; rintro e w1 ⟨rfl, rfl⟩) | (go_at_call 40; refine (KC.out _).mono ?_; rintro e w1 ⟨rfl, rfl⟩) | (go_at_call 38; refine (KX.out _).mono ?_; rintro e w1 ⟨rfl, rfl⟩) | (go_at_call 41; refine (KN.out _).mono ?_; rintro e w1 ⟨rfl, rfl⟩))
    go_region
    all_goals
      go_wp2_with (first | (go_at_call 42; refine (KP.out _).mono ?_; rintro e w1 ⟨rfl, rfl⟩) | (go_at_call 43; refine (KS.out _).mono ?_; rintro e w1 ⟨rfl, rfl⟩))
      go_ret
      exact ⟨ret_strC (by rw [HT.out]), by repeat (first | exact bl_refl _ | apply bl_alloc | apply bl_drewN | apply bl_drew)⟩
end Go.Proofs.Ytlpkaflmhdgmmaa
