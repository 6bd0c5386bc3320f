/-
  The sum of a table's stacks: the model's and the program's.
-/
import Derived.Test.YtimdgaclmejjhaaImplTab
import Derived.Test.YtimdgaclmejjhaaSpecTab
namespace Go.Proofs.Ytimdgaclmejjhaa
open Go.RowKit
set_option linter.unusedVariables false

set_option maxRecDepth 100000 in
set_option maxHeartbeats 1000000 in
theorem l01Sum_any (A : Option Addr) (c : Nat) (xs : List Int) (w : World) (hr : Rd w A xs) (hn : xs.length ≤ 4000000) (hb : ∀ i, i < xs.length → 0 ≤ nth xs i ∧ nth xs i ≤ 100000) :
    Calls Try.prog 27 #[.slice A xs.length c] w (Same (.int .i64 (sumT xs xs.length)) w) := by
  have HR := Lib.hid hr
  have HB := Lib.hid (sumT_bd xs hb)
  have HE := Lib.hid hb
  clear hr hb
  go_enter Try.func27, Try.ntmps27
  go_wp2_with fail
  go_loop [3, 4] (fun s i => ∃ k : Nat, k ≤ xs.length ∧ i = .int .i64 k ∧ s = .int .i64 (sumT xs k)) (fun _ i => xs.length - (intOf i).toNat)
  case atStart => exact ⟨0, Nat.zero_le _, rfl, rfl⟩
  case round =>
    obtain ⟨k, hk, rfl, rfl⟩ := hrel
    by_cases hlt : k < xs.length
    · obtain ⟨b, off, rfl, hc⟩ := HR.out.at_ (bl_refl _) k hlt
      have hlt' : (k : Int) < xs.length := by omega
      have h1 := HB.out k hk
      have h2 := HE.out k hlt
      have HS : Hid (sumT xs (k + 1) = sumT xs k + nth xs k) := Lib.hid rfl
      obtain ⟨q, eq⟩ : ∃ q, q = sumT xs k := ⟨_, rfl⟩
      rw [← eq] at h1 HS ⊢
      clear eq
      generalize nth xs k = x at *
      go_wp2_with fail
      go_round
      case rel => exact ⟨k + 1, by omega, by go_num, by rw [HS.out]⟩
      case measure => simp [intOf]; omega
    · obtain rfl : k = xs.length := by omega
      go_wp2_with fail
      go_ret
      exact ⟨rfl, rfl⟩
set_option maxRecDepth 100000 in
set_option maxHeartbeats 1000000 in
theorem sumOfT_any (A : Option Addr) (c : Nat) (xs : List Int) (w : World) (hr : Rd w A xs) (hn : xs.length ≤ 4000000) (hb : ∀ i, i < xs.length → 0 ≤ nth xs i ∧ nth xs i ≤ 100000) :
    Calls Try.prog 26 #[.slice A xs.length c] w (Same (.int .i64 (sumT xs xs.length)) w) := by
  have HR := Lib.hid hr
  have HB := Lib.hid (sumT_bd xs hb)
  have HE := Lib.hid hb
  clear hr hb
  go_enter Try.func26, Try.ntmps26
  go_wp2_with fail
  go_loop [3, 8] (fun s i => ∃ k : Nat, k ≤ xs.length ∧ i = .int .i64 k ∧ s = .int .i64 (sumT xs k)) (fun _ i => xs.length - (intOf i).toNat)
  case atStart => exact ⟨0, Nat.zero_le _, rfl, rfl⟩
  case round =>
    obtain ⟨k, hk, rfl, rfl⟩ := hrel
    by_cases hlt : k < xs.length
    · obtain ⟨b, off, rfl, hc⟩ := HR.out.at_ (bl_refl _) k hlt
      have hlt' : (k : Int) < xs.length := by omega
      have h1 := HB.out k hk
      have h2 := HE.out k hlt
      have HS : Hid (sumT xs (k + 1) = sumT xs k + nth xs k) := Lib.hid rfl
      obtain ⟨q, eq⟩ : ∃ q, q = sumT xs k := ⟨_, rfl⟩
      rw [← eq] at h1 HS ⊢
      clear eq
      generalize nth xs k = x at *
      go_wp2_with fail
      go_round
      case rel => exact ⟨k + 1, by omega, by go_num, by rw [HS.out]⟩
      case measure => simp [intOf]; omega
    · obtain rfl : k = xs.length := by omega
      go_wp2_with fail
      go_ret
      exact ⟨rfl, rfl⟩
theorem ch_no {xs : List Int} {b s g a l : Int} (h : tabB xs b s g a l = false) : chX xs b s g a l = 0 := by unfold chX; rw [h]; rfl
theorem ch_yes {xs : List Int} {b s g a l : Int} (h : tabB xs b s g a l = true) : chX xs b s g a l = sumT xs xs.length := if_pos h
set_option maxRecDepth 100000 in
set_option maxHeartbeats 1000000 in
theorem specChips_any (A : Option Addr) (c : Nat) (xs : List Int) (b s g a l : Int) (w : World) (hr : Rd w A xs) (hn : xs.length ≤ 4000000) :
    Calls Try.prog 10 #[tV A xs.length c b s g a l] w (Fresh (pairV (chX xs b s g a l) (tabC xs b s g a l)) w) := by
  have KV := Lib.hid (fun (W : World) (h : Below w.heap.size w W) => specIsTable_any A c xs b s g a l W (hr.below h) hn)
  have n0 := blk_new w 26 [.slice A xs.length c, .int .i64 b, .int .i64 s, .int .i64 g, .int .i64 a, .int .i64 l]
  have N0 := Lib.hid n0
  have B := Lib.hid (bl_alloc (bl_refl w) (.cells ([.slice A xs.length c, .int .i64 b, .int .i64 s, .int .i64 g, .int .i64 a, .int .i64 l] : List Value).toArray 26))
  clear n0
  rcases hv : tabB xs b s g a l with _ | _
  · rw [ch_no hv, tabC_no hv]
    rw [hv] at KV
    clear hv
    unfold tV at *
    go_enter Try.func10, Try.ntmps10
    go_wp2_with (first
    | (go_at_call 23; refine (KV.out _ B.out).mono ?_; rintro e wn ⟨rfl, hb⟩; have N0a := Lib.hid (N0.out.below hb); clear N0; have N0 := N0a; clear N0a; have Ba := Lib.hid (bl_trans B.out hb); clear B hb; have B := Ba; clear Ba; obtain ⟨q0_0, _⟩ := N0.out.cell 0 _ rfl; obtain ⟨q0_1, _⟩ := N0.out.cell 1 _ rfl; obtain ⟨q0_2, _⟩ := N0.out.cell 2 _ rfl; obtain ⟨q0_3, _⟩ := N0.out.cell 3 _ rfl; obtain ⟨q0_4, _⟩ := N0.out.cell 4 _ rfl; obtain ⟨q0_5, _⟩ := N0.out.cell 5 _ rfl))
    go_ret2
    exact ⟨rfl, B.out⟩
  · rw [ch_yes hv, tabC_yes hv]
    have t := tab_iff.1 hv
    have KS := Lib.hid (fun (W : World) (h : Below w.heap.size w W) => l01Sum_any A c xs W (hr.below h) hn (fun i hi => ⟨by have := t.2.2.1 i hi; omega, (t.2.2.1 i hi).2⟩))
    rw [hv] at KV
    clear hv t hr
    unfold tV at *
    generalize sumT xs xs.length = r at *
    go_enter Try.func10, Try.ntmps10
    go_wp2_with (first
    | (go_at_call 23; refine (KV.out _ B.out).mono ?_; rintro e wn ⟨rfl, hb⟩; have N0a := Lib.hid (N0.out.below hb); clear N0; have N0 := N0a; clear N0a; have Ba := Lib.hid (bl_trans B.out hb); clear B hb; have B := Ba; clear Ba; obtain ⟨q0_0, _⟩ := N0.out.cell 0 _ rfl; obtain ⟨q0_1, _⟩ := N0.out.cell 1 _ rfl; obtain ⟨q0_2, _⟩ := N0.out.cell 2 _ rfl; obtain ⟨q0_3, _⟩ := N0.out.cell 3 _ rfl; obtain ⟨q0_4, _⟩ := N0.out.cell 4 _ rfl; obtain ⟨q0_5, _⟩ := N0.out.cell 5 _ rfl)
    | (go_at_call 27; refine (KS.out _ B.out).mono ?_; rintro e wz ⟨rfl, rfl⟩))
    go_ret2
    exact ⟨rfl, B.out⟩
set_option maxRecDepth 100000 in
set_option maxHeartbeats 1000000 in
theorem implChips_any (A : Option Addr) (c : Nat) (xs : List Int) (b s g a l : Int) (w : World) (hr : Rd w A xs) (hn : xs.length ≤ 4000000) :
    Calls Try.prog 9 #[tV A xs.length c b s g a l] w (Fresh (pairV (chX xs b s g a l) (tabC xs b s g a l)) w) := by
  have KV := Lib.hid (fun (W : World) (h : Below w.heap.size w W) => implIsTable_any A c xs b s g a l W (hr.below h) hn)
  have n0 := blk_new w 26 [.slice A xs.length c, .int .i64 b, .int .i64 s, .int .i64 g, .int .i64 a, .int .i64 l]
  have N0 := Lib.hid n0
  have B := Lib.hid (bl_alloc (bl_refl w) (.cells ([.slice A xs.length c, .int .i64 b, .int .i64 s, .int .i64 g, .int .i64 a, .int .i64 l] : List Value).toArray 26))
  clear n0
  rcases hv : tabB xs b s g a l with _ | _
  · rw [ch_no hv, tabC_no hv]
    rw [hv] at KV
    clear hv
    unfold tV at *
    go_enter Try.func9, Try.ntmps9
    go_wp2_with (first
    | (go_at_call 13; refine (KV.out _ B.out).mono ?_; rintro e wn ⟨rfl, hb⟩; have N0a := Lib.hid (N0.out.below hb); clear N0; have N0 := N0a; clear N0a; have Ba := Lib.hid (bl_trans B.out hb); clear B hb; have B := Ba; clear Ba; obtain ⟨q0_0, _⟩ := N0.out.cell 0 _ rfl; obtain ⟨q0_1, _⟩ := N0.out.cell 1 _ rfl; obtain ⟨q0_2, _⟩ := N0.out.cell 2 _ rfl; obtain ⟨q0_3, _⟩ := N0.out.cell 3 _ rfl; obtain ⟨q0_4, _⟩ := N0.out.cell 4 _ rfl; obtain ⟨q0_5, _⟩ := N0.out.cell 5 _ rfl))
    go_ret2
    exact ⟨rfl, B.out⟩
  · rw [ch_yes hv, tabC_yes hv]
    have t := tab_iff.1 hv
    have KS := Lib.hid (fun (W : World) (h : Below w.heap.size w W) => sumOfT_any A c xs W (hr.below h) hn (fun i hi => ⟨by have := t.2.2.1 i hi; omega, (t.2.2.1 i hi).2⟩))
    rw [hv] at KV
    clear hv t hr
    unfold tV at *
    generalize sumT xs xs.length = r at *
    go_enter Try.func9, Try.ntmps9
    go_wp2_with (first
    | (go_at_call 13; refine (KV.out _ B.out).mono ?_; rintro e wn ⟨rfl, hb⟩; have N0a := Lib.hid (N0.out.below hb); clear N0; have N0 := N0a; clear N0a; have Ba := Lib.hid (bl_trans B.out hb); clear B hb; have B := Ba; clear Ba; obtain ⟨q0_0, _⟩ := N0.out.cell 0 _ rfl; obtain ⟨q0_1, _⟩ := N0.out.cell 1 _ rfl; obtain ⟨q0_2, _⟩ := N0.out.cell 2 _ rfl; obtain ⟨q0_3, _⟩ := N0.out.cell 3 _ rfl; obtain ⟨q0_4, _⟩ := N0.out.cell 4 _ rfl; obtain ⟨q0_5, _⟩ := N0.out.cell 5 _ rfl)
    | (go_at_call 26; refine (KS.out _ B.out).mono ?_; rintro e wz ⟨rfl, rfl⟩))
    go_ret2
    exact ⟨rfl, B.out⟩
end Go.Proofs.Ytimdgaclmejjhaa
