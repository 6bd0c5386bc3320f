/-
  The text of a class: the program's and the model's.
-/
import Derived.Test.YtjmfecjgomkofabDoorCls
import Derived.Laws.BytesArg
import Derived.Laws.Concat
import Derived.RegionTactic
import Derived.ChangeAlike
import Derived.WalkSpells
namespace Go.Proofs.YtjmfecjgomkofabDoor
open Go.RowKit
set_option linter.unusedVariables false

theorem ret_strC {a b : ByteArray} (h : a = b) : Ending.returned (.string a) = .returned (.string b) := by rw [h]
set_option maxRecDepth 100000 in
theorem index_rk (r : Nat) (hr : r < 13) (W : World) : (Instr.index 9 (.string ⟨#[50, 51, 52, 53, 54, 55, 56, 57, 84, 74, 81, 75, 65]⟩) (.int .i64 r)).run Tryd.prog W = .ok (.int .u8 (rankCh r).toNat) W := by
  match r, hr with
  | 0, _ => rfl
  | 1, _ => rfl
  | 2, _ => rfl
  | 3, _ => rfl
  | 4, _ => rfl
  | 5, _ => rfl
  | 6, _ => rfl
  | 7, _ => rfl
  | 8, _ => rfl
  | 9, _ => rfl
  | 10, _ => rfl
  | 11, _ => rfl
  | 12, _ => rfl
theorem u8_back (b : UInt8) : UInt8.ofNat ((b.toNat : Int)).toNat = b := by simp
set_option maxRecDepth 100000 in
theorem conv_row (W : World) (b : Nat) (l : List UInt8) (h : ∀ i, i < l.length → W.cell? ⟨b, i, none⟩ = some (.int .u8 ((l.getD i 0).toNat : Nat))) :
    (convert 22 9 (.slice (some ⟨b, 0, none⟩) l.length l.length)).run Tryd.prog W = .ok (strV l) W := by
  have := run_convert_bytes_arg W 22 5 Tryd.underlying22 Tryd.underlying5 b 0 l.length l.length (l.map (fun b => (b.toNat : Int))) (by simp) (fun i hi => by
    rw [Nat.zero_add, h i hi]
    simp [hi]) 9 Tryd.underlying9
  rw [this]
  congr 2
  unfold strOfNums
  have e : (fun n : Int => UInt8.ofNat n.toNat) ∘ (fun b : UInt8 => (b.toNat : Int)) = id := by funext b; simp
  rw [List.map_map, e, List.map_id]
set_option maxRecDepth 100000 in
theorem conv2_new (w : World) (x y : UInt8) : (convert 22 9 (.slice (some ⟨w.heap.size, 0, none⟩) 2 2)).run Tryd.prog (w.alloc (.cells #[.int .u8 x.toNat, .int .u8 y.toNat] 5)) = .ok (strV [x, y]) (w.alloc (.cells #[.int .u8 x.toNat, .int .u8 y.toNat] 5)) :=
  conv_row _ _ [x, y] (fun i hi => match i, hi with
    | 0, _ => by simp [go_sem]
    | 1, _ => by simp [go_sem])
set_option maxRecDepth 100000 in
theorem conv2_drew (w : World) (x y : UInt8) : (convert 22 9 (.slice (some ⟨w.heap.size, 0, none⟩) 2 2)).run Tryd.prog (w.alloc (.cells #[.int .u8 x.toNat, .int .u8 y.toNat] 5)).drew = .ok (strV [x, y]) (w.alloc (.cells #[.int .u8 x.toNat, .int .u8 y.toNat] 5)).drew :=
  conv_row _ _ [x, y] (fun i hi => match i, hi with
    | 0, _ => by simp [go_sem]
    | 1, _ => by simp [go_sem])
set_option maxRecDepth 100000 in
theorem conv3_new (w : World) (x y : UInt8) (z : Int) (hz : z = 115 ∨ z = 111) : (convert 22 9 (.slice (some ⟨w.heap.size, 0, none⟩) 3 3)).run Tryd.prog (w.alloc (.cells #[.int .u8 x.toNat, .int .u8 y.toNat, .int .u8 z] 5)) = .ok (strV [x, y, UInt8.ofNat z.toNat]) (w.alloc (.cells #[.int .u8 x.toNat, .int .u8 y.toNat, .int .u8 z] 5)) := by
  rcases hz with rfl | rfl
  · exact conv_row _ _ [x, y, 115] (fun i hi => match i, hi with
      | 0, _ => by simp [go_sem]
      | 1, _ => by simp [go_sem]
      | 2, _ => by simp [go_sem])
  · exact conv_row _ _ [x, y, 111] (fun i hi => match i, hi with
      | 0, _ => by simp [go_sem]
      | 1, _ => by simp [go_sem]
      | 2, _ => by simp [go_sem])
set_option maxRecDepth 100000 in
theorem conv3_drew (w : World) (x y : UInt8) (z : Int) (hz : z = 115 ∨ z = 111) : (convert 22 9 (.slice (some ⟨w.heap.size, 0, none⟩) 3 3)).run Tryd.prog (w.alloc (.cells #[.int .u8 x.toNat, .int .u8 y.toNat, .int .u8 z] 5)).drew = .ok (strV [x, y, UInt8.ofNat z.toNat]) (w.alloc (.cells #[.int .u8 x.toNat, .int .u8 y.toNat, .int .u8 z] 5)).drew := by
  rcases hz with rfl | rfl
  · exact conv_row _ _ [x, y, 115] (fun i hi => match i, hi with
      | 0, _ => by simp [go_sem]
      | 1, _ => by simp [go_sem]
      | 2, _ => by simp [go_sem])
  · exact conv_row _ _ [x, y, 111] (fun i hi => match i, hi with
      | 0, _ => by simp [go_sem]
      | 1, _ => by simp [go_sem]
      | 2, _ => by simp [go_sem])

/-- The three kinds of classes, by the two digits of their number. -/
theorem cls_digits (k : Int) (h0 : 0 ≤ k) (h1 : k < 169) : ∃ r s : Nat, r < 13 ∧ s < 13 ∧ k / 13 = (r : Int) ∧ k % 13 = (s : Int) :=
  ⟨(k / 13).toNat, (k % 13).toNat, by omega, by omega, by omega, by omega⟩
theorem clsT_pair {k : Int} {r s : Nat} (e1 : k / 13 = (r : Int)) (e2 : k % 13 = (s : Int)) (h : r = s) : clsT k = [rankCh r, rankCh r] := by
  unfold clsT rkC; rw [e1, e2, if_pos (by omega)]; simp
theorem clsT_suited {k : Int} {r s : Nat} (e1 : k / 13 = (r : Int)) (e2 : k % 13 = (s : Int)) (h : s < r) : clsT k = [rankCh r, rankCh s, 115] := by
  unfold clsT rkC; rw [e1, e2, if_neg (by omega), if_pos (by omega)]; simp
theorem clsT_off {k : Int} {r s : Nat} (e1 : k / 13 = (r : Int)) (e2 : k % 13 = (s : Int)) (h : r < s) : clsT k = [rankCh s, rankCh r, 111] := by
  unfold clsT rkC; rw [e1, e2, if_neg (by omega), if_neg (by omega)]; simp

/-! the program's -/
def maxI' (a b : Int) : Int := if a < b then b else a
def minI' (a b : Int) : Int := if b < a then b else a
set_option maxHeartbeats 400000 in
theorem max_two (a b : Int) (w : World) : Calls Tryd.prog 94 #[.int .i64 a, .int .i64 b] w (Same (.int .i64 (maxI' a b)) w) := by
  by_cases h : a < b
  · have H : Hid (maxI' a b = b) := Lib.hid (if_pos h)
    go_enter Tryd.func94, Tryd.ntmps94
    go_wp2
    go_ret
    exact ⟨ret_int H.out.symm, rfl⟩
  · have H : Hid (maxI' a b = a) := Lib.hid (if_neg h)
    go_enter Tryd.func94, Tryd.ntmps94
    go_wp2
    go_ret
    exact ⟨ret_int H.out.symm, rfl⟩
set_option maxHeartbeats 400000 in
theorem min_two (a b : Int) (w : World) : Calls Tryd.prog 115 #[.int .i64 a, .int .i64 b] w (Same (.int .i64 (minI' a b)) w) := by
  by_cases h : b < a
  · have H : Hid (minI' a b = b) := Lib.hid (if_pos h)
    go_enter Tryd.func115, Tryd.ntmps115
    go_wp2
    go_ret
    exact ⟨ret_int H.out.symm, rfl⟩
  · have H : Hid (minI' a b = a) := Lib.hid (if_neg h)
    go_enter Tryd.func115, Tryd.ntmps115
    go_wp2
    go_ret
    exact ⟨ret_int H.out.symm, rfl⟩
set_option maxRecDepth 100000 in
theorem add_suf (x y z : UInt8) (W : World) (b : ByteArray) (hb : b = ⟨#[z]⟩) : (Op.stringOp .add (⟨[x, y].toArray⟩ : ByteArray) b).run Tryd.prog W = .ok (strV [x, y, z]) W := by
  subst hb
  rw [run_string_add_sum W _ _ (by simp [ByteArray.size])]
  rfl

end Go.Proofs.YtjmfecjgomkofabDoor
