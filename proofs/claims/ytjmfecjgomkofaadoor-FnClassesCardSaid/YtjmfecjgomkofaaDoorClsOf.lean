/-
  The class of two cards: the walks of the program's and of the model's function; ClassOf.
-/
import Derived.Test.YtjmfecjgomkofaaDoorClsText
import Derived.Test.YtjmfecjgomkofaaDoorBase
import Derived.BigQuiet
import Derived.Deep.QuietTactic
namespace Go.Proofs.YtjmfecjgomkofaaDoor
open Go.RowKit
set_option linter.unusedVariables false

theorem cls_same {x y : Int} (h : x % 4 = y % 4) : clsI x y = 13 * hiR x y + loR x y := if_pos (.inl h)
theorem cls_rank {x y : Int} (h : x / 4 = y / 4) : clsI x y = 13 * hiR x y + loR x y := if_pos (.inr h)
theorem cls_diff {x y : Int} (h : x % 4 ≠ y % 4) : clsI x y = 13 * loR x y + hiR x y := by
  unfold clsI
  by_cases e : x / 4 = y / 4
  · rw [if_pos (.inr e)]; unfold hiR loR; rw [e]
  · rw [if_neg (by intro h'; rcases h' with h' | h'; exact h h'; exact e h')]
theorem hi_max (x y : Int) : maxI' (x / 4) (y / 4) = hiR x y := by unfold maxI' hiR; split <;> split <;> omega
theorem lo_min (x y : Int) : minI' (x / 4) (y / 4) = loR x y := by unfold minI' loR; split <;> split <;> omega
set_option maxHeartbeats 400000 in
theorem classAt_any (p q : Int) (w : World) (h0 : 0 ≤ p) (h1 : p ≤ 12) (g0 : 0 ≤ q) (g1 : q ≤ 12) :
    Calls Tryd.prog 39 #[.int .i64 p, .int .i64 q] w (Same (.int .i64 (p * 13 + q)) w) := by
  go_enter Tryd.func39, Tryd.ntmps39
  go_wp2_with fail
  go_ret
  exact ⟨rfl, rfl⟩
set_option maxRecDepth 100000 in
set_option maxHeartbeats 1000000 in
theorem class_any (x y : Int) (w : World) (hx : 0 ≤ x) (hx' : x < 52) (hy : 0 ≤ y) (hy' : y < 52) :
    Calls Tryd.prog 21 #[.agg #[.int .i64 x, .int .i64 y]] w (Fresh (.int .i64 (clsI x y)) w) := by
  have KX := Lib.hid (fun W => rank_any x W hx hx')
  have KY := Lib.hid (fun W => rank_any y W hy hy')
  have SX := Lib.hid (fun W => suit_any x W hx hx')
  have SY := Lib.hid (fun W => suit_any y W hy hy')
  have KM := Lib.hid (fun W => max_two (x / 4) (y / 4) W)
  have KN := Lib.hid (fun W => min_two (x / 4) (y / 4) W)
  rw [hi_max] at KM
  rw [lo_min] at KN
  have hb := hi_lo x y hx hx' hy hy'
  have E1 := Lib.hid (fun h => @cls_same x y h)
  have E2 := Lib.hid (fun h => @cls_diff x y h)
  generalize clsI x y = r at *
  generalize hiR x y = p at *
  generalize loR x y = q at *
  generalize x / 4 = a at *
  generalize y / 4 = b at *
  generalize x % 4 = s at *
  generalize y % 4 = t at *
  by_cases h : s = t
  · have q1 : (s != t) = false := by simpa using h
    have HE := Lib.hid (E1.out h)
    clear h hx hx' hy hy'
    go_enter Tryd.func21, Tryd.ntmps21
    go_wp2_with fail
    go_quiet (fail)
    go_wp2_with (first
      | (go_at_call 36; ((with_reducible refine (KX.out _).mono ?_); rintro e w1 ⟨rfl, rfl⟩))
      | (go_at_call 36; ((with_reducible refine (KY.out _).mono ?_); rintro e w1 ⟨rfl, rfl⟩))
      | (go_at_call 38; ((with_reducible refine (SX.out _).mono ?_); rintro e w1 ⟨rfl, rfl⟩))
      | (go_at_call 38; ((with_reducible refine (SY.out _).mono ?_); rintro e w1 ⟨rfl, rfl⟩))
      | (go_at_call 35; ((with_reducible refine (KM.out _).mono ?_); rintro e w1 ⟨rfl, rfl⟩))
      | (go_at_call 37; ((with_reducible refine (KN.out _).mono ?_); rintro e w1 ⟨rfl, rfl⟩))
      | (go_at_call 39; refine (classAt_any _ _ _ (by omega) (by omega) (by omega) (by omega)).mono ?_; rintro e w1 ⟨rfl, rfl⟩))
    go_ret
    exact ⟨ret_int (by rw [HE.out]; omega), by repeat (first | exact bl_refl _ | apply bl_alloc | apply bl_drewN | apply bl_drew)⟩
  · have q1 : (s != t) = true := by simpa using h
    have HE := Lib.hid (E2.out h)
    clear h hx hx' hy hy'
    go_enter Tryd.func21, Tryd.ntmps21
    go_wp2_with fail
    go_quiet (fail)
    go_wp2_with (first
      | (go_at_call 36; ((with_reducible refine (KX.out _).mono ?_); rintro e w1 ⟨rfl, rfl⟩))
      | (go_at_call 36; ((with_reducible refine (KY.out _).mono ?_); rintro e w1 ⟨rfl, rfl⟩))
      | (go_at_call 38; ((with_reducible refine (SX.out _).mono ?_); rintro e w1 ⟨rfl, rfl⟩))
      | (go_at_call 38; ((with_reducible refine (SY.out _).mono ?_); rintro e w1 ⟨rfl, rfl⟩))
      | (go_at_call 35; ((with_reducible refine (KM.out _).mono ?_); rintro e w1 ⟨rfl, rfl⟩))
      | (go_at_call 37; ((with_reducible refine (KN.out _).mono ?_); rintro e w1 ⟨rfl, rfl⟩))
      | (go_at_call 39; refine (classAt_any _ _ _ (by omega) (by omega) (by omega) (by omega)).mono ?_; rintro e w1 ⟨rfl, rfl⟩))
    go_ret
    exact ⟨ret_int (by rw [HE.out]; omega), by repeat (first | exact bl_refl _ | apply bl_alloc | apply bl_drewN | apply bl_drew)⟩

set_option maxRecDepth 100000 in
set_option maxHeartbeats 1000000 in
theorem l07Class_any (x y : Int) (w : World) (hx : 0 ≤ x) (hx' : x < 52) (hy : 0 ≤ y) (hy' : y < 52) :
    Calls Tryd.prog 23 #[.int .i64 x, .int .i64 y] w (Same (.int .i64 (clsI x y)) w) := by
  go_enter Tryd.func23, Tryd.ntmps23
  go_wp2_with fail
  all_goals
    go_ret
    refine ⟨ret_int ?_, rfl⟩
    try simp only [beq_iff_eq, beq_eq_false_iff_ne, ne_eq] at *
    unfold clsI hiR loR
    repeat' split
    all_goals omega

theorem list_two (xs : List Int) (h : xs.length = 2) : ∃ x y, xs = [x, y] := by
  match xs, h with
  | [x, y], _ => exact ⟨x, y, rfl⟩
/-- What ClassOf answers. -/
def clsR (xs : List Int) : Int := if sizedB xs 2 2 = true then clsI (nth xs 0) (nth xs 1) else 0
theorem clsR_yes {xs : List Int} (h : sizedB xs 2 2 = true) : clsR xs = clsI (nth xs 0) (nth xs 1) := by unfold clsR; rw [if_pos h]
theorem clsR_no {xs : List Int} (h : sizedB xs 2 2 = false) : clsR xs = 0 := by unfold clsR; rw [h]; rfl
theorem run_arrayAt2 (b off c : Nat) (w : World) : (Instr.arrayAt 45 (.slice (some ⟨b, off, none⟩) 2 c)).run Tryd.prog w = .ok (.pointer (some ⟨b, off, none⟩)) w := by
  kernel_rfl
set_option maxRecDepth 100000 in
set_option maxHeartbeats 1000000 in
theorem implClassOf_any (A : Option Addr) (c : Nat) (xs : List Int) (w : World) (hr : Rd w A xs) (hn : xs.length ≤ 4000000) :
    Calls Tryd.prog 6 #[.slice A xs.length c] w (Fresh (pairV (clsR xs) (codeZ xs 2 2)) w) := by
  have K := Lib.hid (fun (c : Nat) => implSized_any A c xs 2 2 w hr hn)
  by_cases h : sizedB xs 2 2 = true
  · rw [clsR_yes h, codeZ_yes h]
    rw [h] at K
    obtain ⟨h1, h2, h3⟩ := sized_iff.1 h
    obtain ⟨x, y, rfl⟩ := list_two xs (by omega)
    have hc := ((cards_iff _).1 h3).1
    have hx := hc x (by simp)
    have hy := hc y (by simp)
    obtain ⟨b, off, rfl, hcell⟩ := hr (by simp)
    have c0 : w.cell? ⟨b, off, none⟩ = some (.int .i64 x) := hcell 0 (by simp)
    have c1 : w.cell? ⟨b, off + 1, none⟩ = some (.int .i64 y) := hcell 1 (by simp)
    have KC := Lib.hid (fun W => class_any x y W hx.1 hx.2 hy.1 hy.2)
    have e : clsI (nth [x, y] 0) (nth [x, y] 1) = clsI x y := rfl
    rw [e]
    generalize clsI x y = r at *
    have hsa := fun (c : Nat) (W : World) => run_arrayAt2 b off c W
    clear hc hx hy h h1 h2 h3 hr hcell e
    simp only [List.length_cons, List.length_nil, Nat.zero_add, Nat.reduceAdd] at K ⊢
    go_enter Tryd.func6, Tryd.ntmps6
    go_wp2_with (first
      | (go_at_call 20; refine (K.out _).mono ?_; rintro e w1 ⟨rfl, rfl⟩)
      | (go_at_call 21; refine (KC.out _).mono ?_; rintro e w2 ⟨rfl, hb2⟩))
    go_ret2
    exact ⟨rfl, hb2⟩
  · have hf : sizedB xs 2 2 = false := by simpa using h
    rw [clsR_no hf, codeZ_no hf]
    rw [hf] at K
    clear hr h hf
    go_enter Tryd.func6, Tryd.ntmps6
    go_wp2_with (go_at_call 20; refine (K.out _).mono ?_; rintro e w1 ⟨rfl, rfl⟩)
    go_ret2
    exact ⟨rfl, bl_refl _⟩
set_option maxRecDepth 100000 in
set_option maxHeartbeats 1000000 in
theorem specClassOf_any (A : Option Addr) (c : Nat) (xs : List Int) (w : World) (hr : Rd w A xs) (hn : xs.length ≤ 4000000) :
    Calls Tryd.prog 7 #[.slice A xs.length c] w (Fresh (pairV (clsR xs) (codeZ xs 2 2)) w) := by
  have K := Lib.hid (fun (c : Nat) => specSized_any A c xs 2 2 w hr hn)
  by_cases h : sizedB xs 2 2 = true
  · rw [clsR_yes h, codeZ_yes h]
    rw [h] at K
    obtain ⟨h1, h2, h3⟩ := sized_iff.1 h
    obtain ⟨x, y, rfl⟩ := list_two xs (by omega)
    have hc := ((cards_iff _).1 h3).1
    have hx := hc x (by simp)
    have hy := hc y (by simp)
    obtain ⟨b, off, rfl, hcell⟩ := hr (by simp)
    have HR : Hid (∀ W, Below w.heap.size w W → W.cell? ⟨b, off, none⟩ = some (.int .i64 x) ∧ W.cell? ⟨b, off + 1, none⟩ = some (.int .i64 y)) := Lib.hid (fun W hb => by
      have k0 : w.cell? ⟨b, off, none⟩ = some (.int .i64 x) := hcell 0 (by simp)
      have k1 : w.cell? ⟨b, off + 1, none⟩ = some (.int .i64 y) := hcell 1 (by simp)
      have hl := World.block_lt_of_cell? w _ k0
      exact ⟨((bcell hb).1 b off hl).trans k0, ((bcell hb).1 b (off + 1) hl).trans k1⟩)
    have KC := Lib.hid (fun W => l07Class_any x y W hx.1 hx.2 hy.1 hy.2)
    have e : clsI (nth [x, y] 0) (nth [x, y] 1) = clsI x y := rfl
    rw [e]
    generalize clsI x y = r at *
    clear hc hx hy h h1 h2 h3 hr hcell e
    simp only [List.length_cons, List.length_nil, Nat.zero_add, Nat.reduceAdd] at K ⊢
    go_enter Tryd.func7, Tryd.ntmps7
    go_wp2_with (go_at_call 22; refine (K.out _).mono ?_; rintro e w1 ⟨rfl, hb1⟩; have X1 := HR.out _ (by first | exact hb1 | exact bl_refl _); obtain ⟨c0, c1⟩ := X1)
    go_quiet ((go_at_call 23; exact quiet_left (KC.out _)))
    go_wp2_with fail
    go_ret2
    exact ⟨rfl, bl_drewN hb1 _⟩
  · have hf : sizedB xs 2 2 = false := by simpa using h
    rw [clsR_no hf, codeZ_no hf]
    rw [hf] at K
    clear hr h hf
    go_enter Tryd.func7, Tryd.ntmps7
    go_wp2_with (go_at_call 22; refine (K.out _).mono ?_; rintro e w1 ⟨rfl, hb1⟩)
    go_ret2
    exact ⟨rfl, by first | exact hb1 | exact bl_refl _⟩
end Go.Proofs.YtjmfecjgomkofaaDoor
