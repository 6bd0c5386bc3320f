/-
  The program's hand at a choice of hole cards and a choice of the board's.
-/
import Derived.Test.YtlpkaflmhdgmmaaGreatDoorIterC
import Derived.Test.YtlpkaflmhdgmmaaGreatDoorAggI
namespace Go.Proofs.YtlpkaflmhdgmmaaGreatDoor
open Go.RowKit
set_option linter.unusedVariables false

/-- The first k of five, and zeros. -/
def hand0 (a : List Int) (k : Nat) : List Int := a.take k ++ List.replicate (5 - k) 0
theorem hand0_step (a : List Int) (k : Nat) (h5 : a.length = 5) (hk : k < 5) : (hand0 a k).set k (nth a k) = hand0 a (k + 1) := by
  unfold hand0
  have hl : (a.take k).length = k := by rw [List.length_take]; omega
  rw [List.set_append_right _ _ (by omega), hl, Nat.sub_self, take_nth a k (by omega)]
  have e : List.replicate (5 - k) (0 : Int) = 0 :: List.replicate (5 - (k + 1)) 0 := by
    rw [← List.replicate_succ]; congr 1; omega
  rw [e, List.set_cons_zero, List.append_assoc]
  rfl
theorem hand0_all (a : List Int) (h5 : a.length = 5) : hand0 a 5 = a := by
  unfold hand0; rw [List.take_of_length_le (by omega)]; simp
theorem hand0_len (a : List Int) (k : Nat) (h5 : a.length = 5) (hk : k ≤ 5) : (hand0 a k).length = 5 := by
  unfold hand0; rw [List.length_append, List.length_take, List.length_replicate]; omega
theorem nth_left (a b : List Int) (k : Nat) (h : k < a.length) : nth (a ++ b) k = nth a k := by
  rw [nth_eq _ _ (by rw [List.length_append]; omega), nth_eq a k h, List.getElem_append_left h]
theorem nth_right (a b : List Int) (k : Nat) (h : k < b.length) : nth (a ++ b) (a.length + k) = nth b k := by
  rw [nth_eq _ _ (by rw [List.length_append]; omega), nth_eq b k h]
  rw [List.getElem_append_right (by omega)]
  congr 1
  omega
theorem uFC : Tryz.prog.underlying 58 = some (.array 5 2) := by kernel_rfl
theorem iFC : (Tryz.prog.info? 58).map (·.size) = some 5 := by kernel_rfl
/-- What the walk keeps: two boxes, and what was there. -/
def HFSt (w : World) (a : List Int) (k : Nat) (W : World) : Prop :=
  Blk W w.heap.size 58 (ints [0, 0, 0, 0, 0]) ∧ Blk W (w.heap.size + 1) 58 (ints (hand0 a k)) ∧ Below w.heap.size w W
theorem HFSt.set {w W : World} {a : List Int} {k : Nat} (h : HFSt w a k W) (h5 : a.length = 5) (hk : k < 5) : HFSt w a (k + 1) (W.setCell ⟨w.heap.size + 1, k, none⟩ (.int .i64 (nth a k))) := by
  obtain ⟨h1, h2, h3⟩ := h
  have hs := blk_setI h2 k (nth a k)
  rw [hand0_step a k h5 hk] at hs
  exact ⟨h1.grown hs.2 (fun e => by have := Option.some.inj e; omega), hs.1, bl_blk h3 hs.2 (Nat.le_succ _)⟩
set_option maxRecDepth 100000 in
set_option maxHeartbeats 4000000 in
theorem handFrom_any (A : Option Addr) (c : Nat) (hcs : List Int) (g1 s1 : Nat) (c1 : List Int) (A2 : Option Addr) (cb : Nat) (bs : List Int) (g2 s2 : Nat) (c2 : List Int) (w : World)
    (hr : Rd w A hcs) (hn : hcs.length ≤ 8) (k1 : Blk w g1 3 (ints c1)) (l1 : c1.length = s1) (b1 : ∀ y ∈ c1, 0 ≤ y ∧ y < (hcs.length : Int))
    (hr2 : Rd w A2 bs) (hn2 : bs.length ≤ 8) (k2 : Blk w g2 3 (ints c2)) (l2 : c2.length = s2) (b2 : ∀ y ∈ c2, 0 ≤ y ∧ y < (bs.length : Int)) (h5 : s1 + s2 = 5) :
    Calls Tryz.prog 52 #[.slice A hcs.length c, .slice (some ⟨g1, 0, none⟩) s1 s1, .slice A2 bs.length cb, .slice (some ⟨g2, 0, none⟩) s2 s2] w (Fresh (aggI (pickL hcs c1 ++ pickL bs c2)) w) := by
  have HR := Lib.hid hr
  have HR2 := Lib.hid hr2
  have HK1 := Lib.hid k1
  have HK2 := Lib.hid k2
  have HB1 := Lib.hid b1
  have HB2 := Lib.hid b2
  have L1 := Lib.hid l1
  have L2 := Lib.hid l2
  have LA : Hid ((pickL hcs c1 ++ pickL bs c2).length = 5) := Lib.hid (by rw [List.length_append, pickL_len, pickL_len]; omega)
  have EL : Hid (∀ k, k < s1 → nth (pickL hcs c1 ++ pickL bs c2) k = nth hcs (nth c1 k).toNat) := Lib.hid (fun k hk => by
    rw [nth_left _ _ k (by rw [pickL_len]; omega), pickL_nth hcs c1 k (by omega)])
  have ER : Hid (∀ k, k < s2 → nth (pickL hcs c1 ++ pickL bs c2) (s1 + k) = nth bs (nth c2 k).toNat) := Lib.hid (fun k hk => by
    have := nth_right (pickL hcs c1) (pickL bs c2) k (by rw [pickL_len]; omega)
    rw [pickL_len, l1] at this
    rw [this, pickL_nth bs c2 k (by omega)])
  clear hr hr2 k1 k2 b1 b2 l1 l2
  unfold aggI
  generalize pickL hcs c1 ++ pickL bs c2 = a at *
  obtain ⟨w0, rfl⟩ : ∃ w0 : World, w0 = w := ⟨w, rfl⟩
  have HS0 : Hid (HFSt w0 a 0 ((w0.alloc (.cells #[.int .i64 0, .int .i64 0, .int .i64 0, .int .i64 0, .int .i64 0] 58)).alloc (.cells #[.int .i64 0, .int .i64 0, .int .i64 0, .int .i64 0, .int .i64 0] 58))) := Lib.hid (by
    have n1 := blk_new (w0.alloc (.cells #[.int .i64 0, .int .i64 0, .int .i64 0, .int .i64 0, .int .i64 0] 58)) 58 (ints [0, 0, 0, 0, 0])
    rw [World.size_alloc] at n1
    exact ⟨(blk_new w0 58 (ints [0, 0, 0, 0, 0])).below (bl_alloc (bl_refl _) _), n1, bl_alloc (bl_alloc (bl_refl w0) _) _⟩)
  have hs1 : (s1 : Int) ≤ 5 := by omega
  have hs2 : (s2 : Int) ≤ 5 := by omega
  go_enter Tryz.func52, Tryz.ntmps52
  go_wp2_with fail
  go_loopw [10, 11, 16] (fun _ _ i wr => ∃ k : Nat, k ≤ s1 ∧ i = .int .i64 k ∧ Hid (HFSt w0 a k wr)) (fun _ _ i _ => s1 - (intOf i).toNat)
  case atStart => exact ⟨0, by omega, rfl, HS0⟩
  case round =>
    obtain ⟨k, hk, rfl, hs⟩ := hrel
    by_cases hlt : k < s1
    · have hlt' : (k : Int) < (s1 : Int) := by omega
      obtain ⟨q1, _⟩ := (HK1.out.below hs.out.2.2).int k (by rw [L1.out]; exact hlt)
      have hx := HB1.out _ (nth_mem c1 k (by rw [L1.out]; exact hlt))
      obtain ⟨x, ex⟩ := Int.eq_ofNat_of_zero_le hx.1
      have he := EL.out k hlt
      rw [ex] at he
      have he' : nth a k = nth hcs x := he
      obtain ⟨b, off, rfl, q2⟩ := HR.out.at_ hs.out.2.2 x (by omega)
      obtain ⟨q3, f3⟩ := hs.out.2.1.int k (by rw [hand0_len a k LA.out (by omega)]; omega)
      have HP := Lib.hid (hs.out.set LA.out (by omega : k < 5))
      rw [he'] at HP
      rw [ex] at q1 hx
      have hxl : (x : Int) < (hcs.length : Int) := hx.2
      have hk5 : (k : Int) < 5 := by omega
      generalize nth hcs x = y at *
      generalize nth (hand0 a k) k = z at *
      clear he he' ex hx
      go_wp2_with fail
      go_roundw
      case rel => exact ⟨k + 1, by omega, by go_num, HP⟩
      case measure => simp [intOf]; omega
    · obtain rfl : k = s1 := by omega
      have HS1 := Lib.hid hs.out
      clear hs
      go_wp2_with fail
      go_loopw [12, 13, 30] (fun _ _ i wr => ∃ j : Nat, j ≤ s2 ∧ i = .int .i64 j ∧ Hid (HFSt w0 a (k + j) wr)) (fun _ _ i _ => s2 - (intOf i).toNat)
      case atStart => exact ⟨0, by omega, rfl, HS1⟩
      case round =>
        obtain ⟨j, hj, rfl, hs⟩ := hrel
        by_cases hlt : j < s2
        · have hlt' : (j : Int) < (s2 : Int) := by omega
          obtain ⟨q1, _⟩ := (HK2.out.below hs.out.2.2).int j (by rw [L2.out]; exact hlt)
          have hx := HB2.out _ (nth_mem c2 j (by rw [L2.out]; exact hlt))
          obtain ⟨x, ex⟩ := Int.eq_ofNat_of_zero_le hx.1
          have he := ER.out j hlt
          rw [ex] at he
          have he' : nth a (k + j) = nth bs x := he
          obtain ⟨b, off, rfl, q2⟩ := HR2.out.at_ hs.out.2.2 x (by omega)
          obtain ⟨q3, f3⟩ := hs.out.2.1.int (k + j) (by rw [hand0_len a (k + j) LA.out (by omega)]; omega)
          have HP := Lib.hid (hs.out.set LA.out (by omega : k + j < 5))
          rw [he'] at HP
          rw [ex] at q1 hx
          have hxl : (x : Int) < (bs.length : Int) := hx.2
          have hk5 : (k : Int) + (j : Int) < 5 := by omega
          have htn : ((k : Int) + (j : Int)).toNat = k + j := by omega
          generalize nth bs x = y at *
          generalize nth (hand0 a (k + j)) (k + j) = z at *
          clear he he' ex hx
          go_wp2_with fail
          go_roundw
          case rel => exact ⟨j + 1, by omega, by go_num, HP⟩
          case measure => simp [intOf]; omega
        · obtain rfl : j = s2 := by omega
          have h := hs.out
          rw [h5] at h
          obtain ⟨e1, e2, e3⟩ := h
          rw [hand0_all a LA.out] at e2
          have E1 := Lib.hid e1
          have E2 := Lib.hid e2
          have E3 := Lib.hid e3
          have LV : Hid ((ints a).length = 5) := Lib.hid (by rw [ints_length]; exact LA.out)
          clear hs e1 e2 e3
          go_wp2_with (first
            | (with_reducible refine wpList_load_blk 58 _ 5 rfl (.tmp 9) rfl uFC rfl iFC (w0.heap.size + 1) 0 rfl (ints a) LV.out E2.out.range ?_)
            | (refine wpList_store_blk 58 5 rfl (.tmp 8) (.tmp 45) rfl iFC w0.heap.size rfl (ints a) rfl LV.out (ints_one a) _ E1.out rfl ?_))
          intro w8 hb8 hg8
          have B8 := Lib.hid hb8
          have D8 := Lib.hid (bl_blk E3.out hg8 (Nat.le_refl _))
          clear hb8 hg8
          go_wp2_with fail
          exact bodyPost_ret (results_cell_row Tryz.results52 _ _ w0.heap.size _ _ _ _ rfl B8.out uFC rfl (by rw [List.size_toArray, LV.out]; exact iFC)) rfl ⟨rfl, D8.out⟩
end Go.Proofs.YtlpkaflmhdgmmaaGreatDoor
