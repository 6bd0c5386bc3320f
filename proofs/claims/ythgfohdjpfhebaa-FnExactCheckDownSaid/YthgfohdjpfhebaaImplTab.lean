/-
  The program's functions of tables: valid ones, blinds, the first seat, the sum of the stacks.
-/
import Derived.Test.YthgfohdjpfhebaaTab
import Derived.Test.YthgfohdjpfhebaaSpecTab
import Derived.Deep.RegionWith
namespace Go.Proofs.Ythgfohdjpfhebaa
open Go.RowKit
set_option linter.unusedVariables false

set_option maxRecDepth 100000 in
set_option maxHeartbeats 400000 in
theorem isSeatCount_any (x : Int) (w : World) : Calls Try.prog 144 #[.int .i64 x] w (Same (.bool (inB x 2 6)) w) := by
  by_cases h : x < 2
  · have H := Lib.hid (inB_lo x 2 6 h)
    go_enter Try.func144, Try.ntmps144
    go_wp2
    go_ret
    exact ⟨ret_bool (by rw [H.out]), rfl⟩
  · by_cases h2 : 6 < x
    · have H := Lib.hid (inB_hi x 2 6 h2)
      go_enter Try.func144, Try.ntmps144
      go_wp2
      go_ret
      exact ⟨ret_bool (by rw [H.out]; exact decide_eq_false (by omega)), rfl⟩
    · have H := Lib.hid (inB_yes x 2 6 (by omega) (by omega))
      go_enter Try.func144, Try.ntmps144
      go_wp2
      go_ret
      exact ⟨ret_bool (by rw [H.out]), rfl⟩
set_option maxRecDepth 100000 in
set_option maxHeartbeats 400000 in
theorem isStack_any (x : Int) (w : World) : Calls Try.prog 88 #[.int .i64 x] w (Same (.bool (inB x 1 100000)) w) := by
  by_cases h : x < 1
  · have H := Lib.hid (inB_lo x 1 100000 h)
    go_enter Try.func88, Try.ntmps88
    go_wp2
    go_ret
    exact ⟨ret_bool (by rw [H.out]), rfl⟩
  · by_cases h2 : 100000 < x
    · have H := Lib.hid (inB_hi x 1 100000 h2)
      go_enter Try.func88, Try.ntmps88
      go_wp2
      go_ret
      exact ⟨ret_bool (by rw [H.out]; exact decide_eq_false (by omega)), rfl⟩
    · have H := Lib.hid (inB_yes x 1 100000 (by omega) (by omega))
      go_enter Try.func88, Try.ntmps88
      go_wp2
      go_ret
      exact ⟨ret_bool (by rw [H.out]), rfl⟩
set_option maxRecDepth 100000 in
set_option maxHeartbeats 400000 in
theorem isChips_any (x : Int) (w : World) : Calls Try.prog 175 #[.int .i64 x] w (Same (.bool (inB x 0 100000)) w) := by
  by_cases h : x < 0
  · have H := Lib.hid (inB_lo x 0 100000 h)
    go_enter Try.func175, Try.ntmps175
    go_wp2
    go_ret
    exact ⟨ret_bool (by rw [H.out]), rfl⟩
  · by_cases h2 : 100000 < x
    · have H := Lib.hid (inB_hi x 0 100000 h2)
      go_enter Try.func175, Try.ntmps175
      go_wp2
      go_ret
      exact ⟨ret_bool (by rw [H.out]; exact decide_eq_false (by omega)), rfl⟩
    · have H := Lib.hid (inB_yes x 0 100000 (by omega) (by omega))
      go_enter Try.func175, Try.ntmps175
      go_wp2
      go_ret
      exact ⟨ret_bool (by rw [H.out]), rfl⟩
set_option maxRecDepth 100000 in
set_option maxHeartbeats 400000 in
theorem isLimit_any (x : Int) (w : World) : Calls Try.prog 89 #[.int .i64 x] w (Same (.bool (inB x 0 2)) w) := by
  by_cases h0 : x = 0
  · subst h0
    go_enter Try.func89, Try.ntmps89
    go_wp2
    go_ret
    exact ⟨rfl, rfl⟩
  by_cases h1 : x = 1
  · subst h1
    go_enter Try.func89, Try.ntmps89
    go_wp2
    go_ret
    exact ⟨rfl, rfl⟩
  have H : Hid (inB x 0 2 = (x == 2)) := Lib.hid (by
    unfold inB
    by_cases h2 : x = 2
    · subst h2; rfl
    · rw [decide_eq_false (by omega)]; simpa using h2)
  have d0 : (x == 0) = false := by simpa using h0
  have d1 : (x == 1) = false := by simpa using h1
  clear h0 h1
  go_enter Try.func89, Try.ntmps89
  go_wp2
  go_ret
  exact ⟨ret_bool (by rw [H.out]), rfl⟩
/-- All numbers of a list lie in a range. -/
def rngT (lo : Int) (xs : List Int) : Bool := decide (∀ i, i < xs.length → lo ≤ nth xs i ∧ nth xs i ≤ 100000)
theorem rngT_iff {lo : Int} {xs : List Int} : rngT lo xs = true ↔ ∀ i, i < xs.length → lo ≤ nth xs i ∧ nth xs i ≤ 100000 := by unfold rngT; exact decide_eq_true_iff
theorem rngT_no {lo : Int} {xs : List Int} (k : Nat) (hk : k < xs.length) (h : ¬ (lo ≤ nth xs k ∧ nth xs k ≤ 100000)) : rngT lo xs = false := by
  unfold rngT; exact decide_eq_false fun hh => h (hh k hk)
set_option maxRecDepth 100000 in
set_option maxHeartbeats 1000000 in
theorem areStacks_any (A : Option Addr) (c : Nat) (xs : List Int) (w : World) (hr : Rd w A xs) (hn : xs.length ≤ 4000000) :
    Calls Try.prog 146 #[.slice A xs.length c, .func (.func 88) #[] #[]] w (Same (.bool (rngT 1 xs)) w) := by
  have HR := Lib.hid hr
  have KS := Lib.hid (fun (x : Int) (W : World) => isStack_any x W)
  have HT : Hid (∀ k, k < xs.length → inB (nth xs k) 1 100000 = false → rngT 1 xs = false) := Lib.hid (fun k hk h => rngT_no k hk (fun q => by rw [inB_yes _ _ _ q.1 q.2] at h; cases h))
  clear hr
  go_enter Try.func146, Try.ntmps146
  go_wp2_with fail
  go_loop [9] (fun i => ∃ k : Nat, k ≤ xs.length ∧ i = .int .i64 k ∧ Hid (∀ j, j < k → 1 ≤ nth xs j ∧ nth xs j ≤ 100000)) (fun i => xs.length - (intOf i).toNat)
  case atStart => exact ⟨0, Nat.zero_le _, rfl, Lib.hid (fun j hj => by omega)⟩
  case round =>
    obtain ⟨k, hk, rfl, hs⟩ := hrel
    by_cases hlt : k < xs.length
    · obtain ⟨bA, oA, rfl, hc⟩ := HR.out.at_ (bl_refl _) k hlt
      have hlt' : (k : Int) < xs.length := by omega
      have KX := Lib.hid (fun W => KS.out (nth xs k) W)
      rcases hb : inB (nth xs k) 1 100000 with _ | _
      · have HF := Lib.hid (HT.out k hlt hb)
        rw [hb] at KX
        clear hs hb
        generalize nth xs k = x at *
        go_wp2_with (go_at_call 88; refine (KX.out _).mono ?_; rintro e wn ⟨rfl, rfl⟩)
        go_ret
        exact ⟨ret_bool HF.out.symm, rfl⟩
      · have HN : Hid (∀ j, j < k + 1 → 1 ≤ nth xs j ∧ nth xs j ≤ 100000) := Lib.hid (fun j hj => by
          by_cases e : j = k
          · subst e; unfold inB at hb; exact of_decide_eq_true hb
          · exact hs.out j (by omega))
        rw [hb] at KX
        clear hs hb
        generalize nth xs k = x at KX hc
        go_wp2_with (go_at_call 88; refine (KX.out _).mono ?_; rintro e wn ⟨rfl, rfl⟩)
        go_round
        case rel => exact ⟨k + 1, by omega, by go_num, HN⟩
        case measure => simp [intOf]; omega
    · obtain rfl : k = xs.length := by omega
      have HF := Lib.hid (rngT_iff.2 hs.out)
      clear hs
      go_wp2_with fail
      go_ret
      exact ⟨ret_bool HF.out.symm, rfl⟩
set_option maxRecDepth 100000 in
set_option maxHeartbeats 1000000 in
theorem areChips_any (A : Option Addr) (c : Nat) (xs : List Int) (w : World) (hr : Rd w A xs) (hn : xs.length ≤ 4000000) :
    Calls Try.prog 146 #[.slice A xs.length c, .func (.func 175) #[] #[]] w (Same (.bool (rngT 0 xs)) w) := by
  have HR := Lib.hid hr
  have KS := Lib.hid (fun (x : Int) (W : World) => isChips_any x W)
  have HT : Hid (∀ k, k < xs.length → inB (nth xs k) 0 100000 = false → rngT 0 xs = false) := Lib.hid (fun k hk h => rngT_no k hk (fun q => by rw [inB_yes _ _ _ q.1 q.2] at h; cases h))
  clear hr
  go_enter Try.func146, Try.ntmps146
  go_wp2_with fail
  go_loop [9] (fun i => ∃ k : Nat, k ≤ xs.length ∧ i = .int .i64 k ∧ Hid (∀ j, j < k → 0 ≤ nth xs j ∧ nth xs j ≤ 100000)) (fun i => xs.length - (intOf i).toNat)
  case atStart => exact ⟨0, Nat.zero_le _, rfl, Lib.hid (fun j hj => by omega)⟩
  case round =>
    obtain ⟨k, hk, rfl, hs⟩ := hrel
    by_cases hlt : k < xs.length
    · obtain ⟨bA, oA, rfl, hc⟩ := HR.out.at_ (bl_refl _) k hlt
      have hlt' : (k : Int) < xs.length := by omega
      have KX := Lib.hid (fun W => KS.out (nth xs k) W)
      rcases hb : inB (nth xs k) 0 100000 with _ | _
      · have HF := Lib.hid (HT.out k hlt hb)
        rw [hb] at KX
        clear hs hb
        generalize nth xs k = x at *
        go_wp2_with (go_at_call 175; refine (KX.out _).mono ?_; rintro e wn ⟨rfl, rfl⟩)
        go_ret
        exact ⟨ret_bool HF.out.symm, rfl⟩
      · have HN : Hid (∀ j, j < k + 1 → 0 ≤ nth xs j ∧ nth xs j ≤ 100000) := Lib.hid (fun j hj => by
          by_cases e : j = k
          · subst e; unfold inB at hb; exact of_decide_eq_true hb
          · exact hs.out j (by omega))
        rw [hb] at KX
        clear hs hb
        generalize nth xs k = x at KX hc
        go_wp2_with (go_at_call 175; refine (KX.out _).mono ?_; rintro e wn ⟨rfl, rfl⟩)
        go_round
        case rel => exact ⟨k + 1, by omega, by go_num, HN⟩
        case measure => simp [intOf]; omega
    · obtain rfl : k = xs.length := by omega
      have HF := Lib.hid (rngT_iff.2 hs.out)
      clear hs
      go_wp2_with fail
      go_ret
      exact ⟨ret_bool HF.out.symm, rfl⟩
set_option maxRecDepth 100000 in
set_option maxHeartbeats 400000 in
theorem leftOf_any (s n : Int) (w : World) (h0 : 0 ≤ s) (h1 : s ≤ 4000000) (hn : 0 < n) (hn1 : n ≤ 4000000) :
    Calls Try.prog 99 #[.int .i64 s, .int .i64 n] w (Same (.int .i64 (leftI s n)) w) := by
  have hb := left_bd s n hn
  unfold leftI at *
  have hz : n ≠ 0 := by omega
  go_enter Try.func99, Try.ntmps99
  go_wp2_with fail
  go_ret
  exact ⟨rfl, rfl⟩
set_option maxRecDepth 100000 in
set_option maxHeartbeats 400000 in
theorem seatCount_any (A : Option Addr) (n c : Nat) (b s g a l : Int) (w : World) : Calls Try.prog 111 #[tV A n c b s g a l] w (Fresh (.int .i64 n) w) := by
  have n0 := blk_new w 49 [.slice A n c, .int .i64 b, .int .i64 s, .int .i64 g, .int .i64 a, .int .i64 l]
  have N0 := Lib.hid n0
  have B := Lib.hid (bl_alloc (bl_refl w) (.cells ([.slice A n c, .int .i64 b, .int .i64 s, .int .i64 g, .int .i64 a, .int .i64 l] : List Value).toArray 49))
  clear n0
  unfold tV
  go_enter Try.func111, Try.ntmps111
  go_wp2_with fail
  go_ret
  exact ⟨rfl, B.out⟩
def seatB (n t : Int) : Bool := decide (0 ≤ t ∧ t < n)
set_option maxRecDepth 100000 in
set_option maxHeartbeats 1000000 in
theorem isSeat_any (A : Option Addr) (c : Nat) (xs : List Int) (b s g a l : Int) (t : Int) (w : World) : Calls Try.prog 161 #[tV A xs.length c b s g a l, .int .i64 t] w (Fresh (.bool (seatB xs.length t)) w) := by
  have KN := Lib.hid (fun (W : World) => seatCount_any A xs.length c b s g a l W)
  have n0 := blk_new w 49 [.slice A xs.length c, .int .i64 b, .int .i64 s, .int .i64 g, .int .i64 a, .int .i64 l]
  have N0 := Lib.hid n0
  have B := Lib.hid (bl_alloc (bl_refl w) (.cells ([.slice A xs.length c, .int .i64 b, .int .i64 s, .int .i64 g, .int .i64 a, .int .i64 l] : List Value).toArray 49))
  clear n0
  unfold tV at *
  by_cases h : 0 ≤ t
  · have H : Hid (seatB xs.length t = decide (t < xs.length)) := Lib.hid (by unfold seatB; simp [h])
    have d : decide (0 ≤ t) = true := decide_eq_true h
    go_enter Try.func161, Try.ntmps161
    go_wp2_with (first
    | (go_at_call 111; refine (KN.out _).mono ?_; rintro e wn ⟨rfl, hb⟩; have N0a := Lib.hid (N0.out.below hb); clear N0; have N0 := N0a; clear N0a; have Ba := Lib.hid (bl_trans B.out hb); clear B hb; have B := Ba; clear Ba; obtain ⟨q0_0, _⟩ := N0.out.cell 0 _ rfl; obtain ⟨q0_1, _⟩ := N0.out.cell 1 _ rfl; obtain ⟨q0_2, _⟩ := N0.out.cell 2 _ rfl; obtain ⟨q0_3, _⟩ := N0.out.cell 3 _ rfl; obtain ⟨q0_4, _⟩ := N0.out.cell 4 _ rfl; obtain ⟨q0_5, _⟩ := N0.out.cell 5 _ rfl))
    go_ret
    exact ⟨ret_bool H.out.symm, B.out⟩
  · have H : Hid (seatB xs.length t = false) := Lib.hid (decide_eq_false (fun q => h q.1))
    have d : decide (0 ≤ t) = false := decide_eq_false h
    go_enter Try.func161, Try.ntmps161
    go_wp2_with fail
    go_ret
    exact ⟨ret_bool H.out.symm, B.out⟩
/-- The blinds, the ante and the limit are those of a valid table. -/
def stakesB (s g a l : Int) : Bool := decide (1 ≤ g ∧ g ≤ 100000 ∧ 0 ≤ s ∧ s ≤ g ∧ 0 ≤ a ∧ a ≤ 100000 ∧ 0 ≤ l ∧ l ≤ 2)
theorem stakes_no {s g a l : Int} (h : ¬ (1 ≤ g ∧ g ≤ 100000 ∧ 0 ≤ s ∧ s ≤ g ∧ 0 ≤ a ∧ a ≤ 100000 ∧ 0 ≤ l ∧ l ≤ 2)) : stakesB s g a l = false := by unfold stakesB; exact decide_eq_false h
set_option maxRecDepth 100000 in
set_option maxHeartbeats 2000000 in
theorem hasStakes_any (A : Option Addr) (c : Nat) (xs : List Int) (b s g a l : Int) (w : World) : Calls Try.prog 162 #[tV A xs.length c b s g a l] w (Fresh (.bool (stakesB s g a l)) w) := by
  have n0 := blk_new w 49 [.slice A xs.length c, .int .i64 b, .int .i64 s, .int .i64 g, .int .i64 a, .int .i64 l]
  have N0 := Lib.hid n0
  have B := Lib.hid (bl_alloc (bl_refl w) (.cells ([.slice A xs.length c, .int .i64 b, .int .i64 s, .int .i64 g, .int .i64 a, .int .i64 l] : List Value).toArray 49))
  clear n0
  unfold tV at *
  have e1 := Lib.hid (fun W : World => isStack_any g W)
  have e2 := Lib.hid (fun W : World => isChips_any a W)
  have e3 := Lib.hid (fun W : World => isLimit_any l W)
  by_cases c0 : 1 ≤ g ∧ g ≤ 100000
  rotate_left
  · have HB : Hid (stakesB s g a l = false) := Lib.hid (stakes_no (by omega))
    rw [show inB g 1 100000 = false from decide_eq_false c0] at e1
    clear c0
    go_enter Try.func162, Try.ntmps162
    go_wp2_with (first
    | (go_at_call 88; refine (e1.out _).mono ?_; rintro e wn ⟨rfl, rfl⟩))
    go_ret
    exact ⟨ret_bool HB.out.symm, B.out⟩
  by_cases c1 : 0 ≤ s
  rotate_left
  · have HB : Hid (stakesB s g a l = false) := Lib.hid (stakes_no (by omega))
    rw [show inB g 1 100000 = true from inB_yes _ _ _ c0.1 c0.2] at e1
    have d1 : decide (0 ≤ s) = false := decide_eq_false c1
    clear c0 c1
    go_enter Try.func162, Try.ntmps162
    go_wp2_with (first
    | (go_at_call 88; refine (e1.out _).mono ?_; rintro e wn ⟨rfl, rfl⟩))
    go_ret
    exact ⟨ret_bool HB.out.symm, B.out⟩
  by_cases c2 : s ≤ g
  rotate_left
  · have HB : Hid (stakesB s g a l = false) := Lib.hid (stakes_no (by omega))
    rw [show inB g 1 100000 = true from inB_yes _ _ _ c0.1 c0.2] at e1
    have d1 : decide (0 ≤ s) = true := decide_eq_true c1
    have d2 : decide (s ≤ g) = false := decide_eq_false c2
    clear c0 c1 c2
    go_enter Try.func162, Try.ntmps162
    go_wp2_with (first
    | (go_at_call 88; refine (e1.out _).mono ?_; rintro e wn ⟨rfl, rfl⟩))
    go_ret
    exact ⟨ret_bool HB.out.symm, B.out⟩
  by_cases c3 : 0 ≤ a ∧ a ≤ 100000
  rotate_left
  · have HB : Hid (stakesB s g a l = false) := Lib.hid (stakes_no (by omega))
    rw [show inB g 1 100000 = true from inB_yes _ _ _ c0.1 c0.2] at e1
    have d1 : decide (0 ≤ s) = true := decide_eq_true c1
    have d2 : decide (s ≤ g) = true := decide_eq_true c2
    rw [show inB a 0 100000 = false from decide_eq_false c3] at e2
    clear c0 c1 c2 c3
    go_enter Try.func162, Try.ntmps162
    go_wp2_with (first
    | (go_at_call 88; refine (e1.out _).mono ?_; rintro e wn ⟨rfl, rfl⟩)
    | (go_at_call 175; refine (e2.out _).mono ?_; rintro e wn ⟨rfl, rfl⟩))
    go_ret
    exact ⟨ret_bool HB.out.symm, B.out⟩
  by_cases c4 : 0 ≤ l ∧ l ≤ 2
  rotate_left
  · have HB : Hid (stakesB s g a l = false) := Lib.hid (stakes_no (by omega))
    rw [show inB g 1 100000 = true from inB_yes _ _ _ c0.1 c0.2] at e1
    have d1 : decide (0 ≤ s) = true := decide_eq_true c1
    have d2 : decide (s ≤ g) = true := decide_eq_true c2
    rw [show inB a 0 100000 = true from inB_yes _ _ _ c3.1 c3.2] at e2
    rw [show inB l 0 2 = false from decide_eq_false c4] at e3
    clear c0 c1 c2 c3 c4
    go_enter Try.func162, Try.ntmps162
    go_wp2_with (first
    | (go_at_call 88; refine (e1.out _).mono ?_; rintro e wn ⟨rfl, rfl⟩)
    | (go_at_call 175; refine (e2.out _).mono ?_; rintro e wn ⟨rfl, rfl⟩)
    | (go_at_call 89; refine (e3.out _).mono ?_; rintro e wn ⟨rfl, rfl⟩))
    go_ret
    exact ⟨ret_bool HB.out.symm, B.out⟩
  · have HB : Hid (stakesB s g a l = true) := Lib.hid (by unfold stakesB; exact decide_eq_true ⟨c0.1, c0.2, c1, c2, c3.1, c3.2, c4.1, c4.2⟩)
    rw [show inB g 1 100000 = true from inB_yes _ _ _ c0.1 c0.2] at e1
    have d1 : decide (0 ≤ s) = true := decide_eq_true c1
    have d2 : decide (s ≤ g) = true := decide_eq_true c2
    rw [show inB a 0 100000 = true from inB_yes _ _ _ c3.1 c3.2] at e2
    rw [show inB l 0 2 = true from inB_yes _ _ _ c4.1 c4.2] at e3
    clear c0 c1 c2 c3 c4
    go_enter Try.func162, Try.ntmps162
    go_wp2_with (first
    | (go_at_call 88; refine (e1.out _).mono ?_; rintro e wn ⟨rfl, rfl⟩)
    | (go_at_call 175; refine (e2.out _).mono ?_; rintro e wn ⟨rfl, rfl⟩)
    | (go_at_call 89; refine (e3.out _).mono ?_; rintro e wn ⟨rfl, rfl⟩))
    go_ret
    exact ⟨ret_bool HB.out.symm, B.out⟩
theorem tabB_parts {xs : List Int} {b s g a l : Int} : tabB xs b s g a l = (inB xs.length 2 6 && (rngT 1 xs && (seatB xs.length b && stakesB s g a l))) := by
  unfold tabB inB rngT seatB stakesB
  rw [← Bool.decide_and, ← Bool.decide_and, ← Bool.decide_and]
  exact decide_eq_decide.2 ⟨fun h => ⟨⟨by omega, by omega⟩, h.2.2.1, ⟨by omega, by omega⟩, by omega, by omega, by omega, by omega, by omega, by omega, by omega, by omega⟩, fun h => ⟨by omega, by omega, h.2.1, by omega, by omega, by omega, by omega, by omega, by omega, by omega, by omega, by omega, by omega⟩⟩
set_option maxRecDepth 100000 in
set_option maxHeartbeats 2000000 in
theorem implIsTable_any (A : Option Addr) (c : Nat) (xs : List Int) (b s g a l : Int) (w : World) (hr : Rd w A xs) (hn : xs.length ≤ 4000000) :
    Calls Try.prog 110 #[tV A xs.length c b s g a l] w (Fresh (.bool (tabB xs b s g a l)) w) := by
  have KN := Lib.hid (fun (W : World) => seatCount_any A xs.length c b s g a l W)
  have KC := Lib.hid (fun W : World => isSeatCount_any xs.length W)
  have KA := Lib.hid (fun (W : World) (h : Below w.heap.size w W) => areStacks_any A c xs W (hr.below h) hn)
  have KB := Lib.hid (fun (W : World) => isSeat_any A c xs b s g a l b W)
  have KH := Lib.hid (fun (W : World) => hasStakes_any A c xs b s g a l W)
  have n0 := blk_new w 49 [.slice A xs.length c, .int .i64 b, .int .i64 s, .int .i64 g, .int .i64 a, .int .i64 l]
  have N0 := Lib.hid n0
  have B := Lib.hid (bl_alloc (bl_refl w) (.cells ([.slice A xs.length c, .int .i64 b, .int .i64 s, .int .i64 g, .int .i64 a, .int .i64 l] : List Value).toArray 49))
  clear n0
  have HB := Lib.hid (tabB_parts (xs := xs) (b := b) (s := s) (g := g) (a := a) (l := l))
  clear hr hn
  unfold tV at *
  generalize tabB xs b s g a l = r at *
  generalize inB xs.length 2 6 = r0 at *
  generalize rngT 1 xs = r1 at *
  generalize seatB xs.length b = r2 at *
  generalize stakesB s g a l = r3 at *
  cases r0
  · go_enter Try.func110, Try.ntmps110
    go_wp2_with (first
    | (go_at_call 111; refine (KN.out _).mono ?_; rintro e wn ⟨rfl, hb⟩; have N0a := Lib.hid (N0.out.below hb); clear N0; have N0 := N0a; clear N0a; have Ba := Lib.hid (bl_trans B.out hb); clear B hb; have B := Ba; clear Ba; obtain ⟨q0_0, _⟩ := N0.out.cell 0 _ rfl; obtain ⟨q0_1, _⟩ := N0.out.cell 1 _ rfl; obtain ⟨q0_2, _⟩ := N0.out.cell 2 _ rfl; obtain ⟨q0_3, _⟩ := N0.out.cell 3 _ rfl; obtain ⟨q0_4, _⟩ := N0.out.cell 4 _ rfl; obtain ⟨q0_5, _⟩ := N0.out.cell 5 _ rfl)
    | (go_at_call 144; refine (KC.out _).mono ?_; rintro e wn ⟨rfl, rfl⟩))
    go_ret
    exact ⟨ret_bool (by rw [HB.out]; rfl), B.out⟩
  cases r1
  · go_enter Try.func110, Try.ntmps110
    go_wp2_with (first
    | (go_at_call 111; refine (KN.out _).mono ?_; rintro e wn ⟨rfl, hb⟩; have N0a := Lib.hid (N0.out.below hb); clear N0; have N0 := N0a; clear N0a; have Ba := Lib.hid (bl_trans B.out hb); clear B hb; have B := Ba; clear Ba; obtain ⟨q0_0, _⟩ := N0.out.cell 0 _ rfl; obtain ⟨q0_1, _⟩ := N0.out.cell 1 _ rfl; obtain ⟨q0_2, _⟩ := N0.out.cell 2 _ rfl; obtain ⟨q0_3, _⟩ := N0.out.cell 3 _ rfl; obtain ⟨q0_4, _⟩ := N0.out.cell 4 _ rfl; obtain ⟨q0_5, _⟩ := N0.out.cell 5 _ rfl)
    | (go_at_call 144; refine (KC.out _).mono ?_; rintro e wn ⟨rfl, rfl⟩)
    | (go_at_call 146; refine (KA.out _ B.out).mono ?_; rintro e wn ⟨rfl, rfl⟩))
    go_ret
    exact ⟨ret_bool (by rw [HB.out]; rfl), B.out⟩
  cases r2
  · go_enter Try.func110, Try.ntmps110
    go_wp2_with (first
    | (go_at_call 111; refine (KN.out _).mono ?_; rintro e wn ⟨rfl, hb⟩; have N0a := Lib.hid (N0.out.below hb); clear N0; have N0 := N0a; clear N0a; have Ba := Lib.hid (bl_trans B.out hb); clear B hb; have B := Ba; clear Ba; obtain ⟨q0_0, _⟩ := N0.out.cell 0 _ rfl; obtain ⟨q0_1, _⟩ := N0.out.cell 1 _ rfl; obtain ⟨q0_2, _⟩ := N0.out.cell 2 _ rfl; obtain ⟨q0_3, _⟩ := N0.out.cell 3 _ rfl; obtain ⟨q0_4, _⟩ := N0.out.cell 4 _ rfl; obtain ⟨q0_5, _⟩ := N0.out.cell 5 _ rfl)
    | (go_at_call 144; refine (KC.out _).mono ?_; rintro e wn ⟨rfl, rfl⟩)
    | (go_at_call 146; refine (KA.out _ B.out).mono ?_; rintro e wn ⟨rfl, rfl⟩)
    | (go_at_call 161; refine (KB.out _).mono ?_; rintro e wn ⟨rfl, hb⟩; have N0a := Lib.hid (N0.out.below hb); clear N0; have N0 := N0a; clear N0a; have Ba := Lib.hid (bl_trans B.out hb); clear B hb; have B := Ba; clear Ba; obtain ⟨q0_0, _⟩ := N0.out.cell 0 _ rfl; obtain ⟨q0_1, _⟩ := N0.out.cell 1 _ rfl; obtain ⟨q0_2, _⟩ := N0.out.cell 2 _ rfl; obtain ⟨q0_3, _⟩ := N0.out.cell 3 _ rfl; obtain ⟨q0_4, _⟩ := N0.out.cell 4 _ rfl; obtain ⟨q0_5, _⟩ := N0.out.cell 5 _ rfl))
    go_ret
    exact ⟨ret_bool (by rw [HB.out]; rfl), B.out⟩
  · go_enter Try.func110, Try.ntmps110
    go_wp2_with (first
    | (go_at_call 111; refine (KN.out _).mono ?_; rintro e wn ⟨rfl, hb⟩; have N0a := Lib.hid (N0.out.below hb); clear N0; have N0 := N0a; clear N0a; have Ba := Lib.hid (bl_trans B.out hb); clear B hb; have B := Ba; clear Ba; obtain ⟨q0_0, _⟩ := N0.out.cell 0 _ rfl; obtain ⟨q0_1, _⟩ := N0.out.cell 1 _ rfl; obtain ⟨q0_2, _⟩ := N0.out.cell 2 _ rfl; obtain ⟨q0_3, _⟩ := N0.out.cell 3 _ rfl; obtain ⟨q0_4, _⟩ := N0.out.cell 4 _ rfl; obtain ⟨q0_5, _⟩ := N0.out.cell 5 _ rfl)
    | (go_at_call 144; refine (KC.out _).mono ?_; rintro e wn ⟨rfl, rfl⟩)
    | (go_at_call 146; refine (KA.out _ B.out).mono ?_; rintro e wn ⟨rfl, rfl⟩)
    | (go_at_call 161; refine (KB.out _).mono ?_; rintro e wn ⟨rfl, hb⟩; have N0a := Lib.hid (N0.out.below hb); clear N0; have N0 := N0a; clear N0a; have Ba := Lib.hid (bl_trans B.out hb); clear B hb; have B := Ba; clear Ba; obtain ⟨q0_0, _⟩ := N0.out.cell 0 _ rfl; obtain ⟨q0_1, _⟩ := N0.out.cell 1 _ rfl; obtain ⟨q0_2, _⟩ := N0.out.cell 2 _ rfl; obtain ⟨q0_3, _⟩ := N0.out.cell 3 _ rfl; obtain ⟨q0_4, _⟩ := N0.out.cell 4 _ rfl; obtain ⟨q0_5, _⟩ := N0.out.cell 5 _ rfl)
    | (go_at_call 162; refine (KH.out _).mono ?_; rintro e wn ⟨rfl, hb⟩; have N0a := Lib.hid (N0.out.below hb); clear N0; have N0 := N0a; clear N0a; have Ba := Lib.hid (bl_trans B.out hb); clear B hb; have B := Ba; clear Ba; obtain ⟨q0_0, _⟩ := N0.out.cell 0 _ rfl; obtain ⟨q0_1, _⟩ := N0.out.cell 1 _ rfl; obtain ⟨q0_2, _⟩ := N0.out.cell 2 _ rfl; obtain ⟨q0_3, _⟩ := N0.out.cell 3 _ rfl; obtain ⟨q0_4, _⟩ := N0.out.cell 4 _ rfl; obtain ⟨q0_5, _⟩ := N0.out.cell 5 _ rfl))
    go_ret
    exact ⟨ret_bool (by rw [HB.out]; rfl), B.out⟩
set_option maxRecDepth 100000 in
set_option maxHeartbeats 400000 in
theorem minT_any (a b : Int) (w : World) :
    Calls Try.prog 142 #[.int .i64 a, .int .i64 b] w (Same (.int .i64 (minT a b)) w) := by
  by_cases h : b < a
  · have H : Hid (minT a b = b) := Lib.hid (minT_lt a b h)
    go_enter Try.func142, Try.ntmps142
    go_wp2_with fail
    go_ret
    exact ⟨ret_int H.out.symm, rfl⟩
  · have H : Hid (minT a b = a) := Lib.hid (minT_ge a b h)
    go_enter Try.func142, Try.ntmps142
    go_wp2_with fail
    go_ret
    exact ⟨ret_int H.out.symm, rfl⟩
end Go.Proofs.Ythgfohdjpfhebaa
