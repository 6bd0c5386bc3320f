/-
  The model's l06Low: the first of the hands with the least low value, and its value.
-/
import Derived.Test.YtlpkaflmhdgmmaaGreatDoorSpecHigh6
import Derived.Test.YtlpkaflmhdgmmaaGreatDoorVarFns
namespace Go.Proofs.YtlpkaflmhdgmmaaGreatDoor
open Go.RowKit
set_option linter.unusedVariables false

/-- The least of the first n values (-1 of none), and which is the first of such. -/
def lowT (V : Nat → Int) : Nat → Int
  | 0 => -1
  | n + 1 => if lowT V n < 0 ∨ V n < lowT V n then V n else lowT V n
def lowI (V : Nat → Int) : Nat → Nat
  | 0 => 0
  | n + 1 => if lowT V n < 0 ∨ V n < lowT V n then n else lowI V n
theorem lowT_yes {V : Nat → Int} {n : Nat} (h : lowT V n < 0 ∨ V n < lowT V n) : lowT V (n + 1) = V n ∧ lowI V (n + 1) = n := by rw [lowT, lowI, if_pos h, if_pos h]; exact ⟨rfl, rfl⟩
theorem lowT_no {V : Nat → Int} {n : Nat} (h : ¬ (lowT V n < 0 ∨ V n < lowT V n)) : lowT V (n + 1) = lowT V n ∧ lowI V (n + 1) = lowI V n := by rw [lowT, lowI, if_neg h, if_neg h]; exact ⟨rfl, rfl⟩
/-- What the rounds keep: the variant. -/
def LSt (w : World) (h l m b : Int) (hi : Bool) (lo : Int) (W : World) : Prop := Below w.heap.size w W ∧ Blk W w.heap.size 25 [.int .i64 h, .int .i64 l, .int .i64 m, .int .i64 b, .bool hi, .int .i64 lo]
set_option maxRecDepth 100000 in
set_option maxHeartbeats 4000000 in
theorem l06Low_ace (h l m b : Int) (hi : Bool) (lo : Int) (hl : lo ≠ 3) (A : Option Addr) (c n0 H : Nat) (R : Nat → List Int) (AA : Nat → Option Addr) (CC : Nat → Nat) (VA V : Nat → Int) (w : World) (hf : Fam w n0 A H R AA CC) (h5 : ∀ k, k < H → (R k).length = 5) (hH : H ≤ 4000000)
    (hA : ∀ k, k < H → ∀ W, Below w.heap.size w W → Calls Tryz.prog 59 #[.slice (AA k) 5 (CC k)] W (Fresh (.int .i64 (V k)) W)) :
    Calls Tryz.prog 34 #[vV h l m b hi lo, .slice A H c] w (Fresh (.tuple #[.int .i64 (lowI V H : Nat), .int .i64 (lowT V H)]) w) := by
  have HF := Lib.hid hf
  have KA := Lib.hid hA
  have H5 := Lib.hid h5
  have hd : (lo == 3) = false := by simp [hl]
  clear hf h5 hA
  have HY := Lib.hid (fun n => @lowT_yes V n)
  have HN := Lib.hid (fun n => @lowT_no V n)
  have HZ : Hid (lowT V 0 = -1 ∧ lowI V 0 = 0) := Lib.hid ⟨rfl, rfl⟩
  generalize lowT V = TV at *
  generalize lowI V = TI at *
  obtain ⟨w0, rfl⟩ : ∃ w0 : World, w0 = w := ⟨w, rfl⟩
  have S0 : Hid (LSt w0 h l m b hi lo (w0.alloc (.cells #[.int .i64 h, .int .i64 l, .int .i64 m, .int .i64 b, .bool hi, .int .i64 lo] 25))) := Lib.hid ⟨bl_alloc (bl_refl _) _, blk_new w0 25 [.int .i64 h, .int .i64 l, .int .i64 m, .int .i64 b, .bool hi, .int .i64 lo]⟩
  unfold vV
  go_enter Tryz.func34, Tryz.ntmps34
  go_wp2_with fail
  go_loopw [6, 7, 8] (fun b' v i wr => ∃ q : Nat, q ≤ H ∧ i = .int .i64 q ∧ b' = .int .i64 (TI q : Nat) ∧ v = .int .i64 (TV q) ∧ Hid (LSt w0 h l m b hi lo wr)) (fun _ _ i _ => H - (intOf i).toNat)
  case atStart => exact ⟨0, by omega, rfl, by rw [HZ.out.2]; rfl, by rw [HZ.out.1], S0⟩
  case round =>
    obtain ⟨q, hq, rfl, rfl, rfl, S⟩ := hrel
    by_cases hlt : q < H
    · have hlt' : (q : Int) < H := by omega
      have q5' := (S.out.2.cell 5 _ rfl).1
      obtain ⟨g, o, eg, hck⟩ := HF.out.at_ S.out.1 q hlt
      cases eg
      rw [H5.out q hlt] at hck
      have K1 := Lib.hid (KA.out q hlt)
      by_cases h0 : TV q < 0
      · have ht : decide (TV q < 0) = true := decide_eq_true h0
        have E := Lib.hid (HY.out q (.inl h0))
        generalize V q = y at *
        generalize hT : TV q = t at *
        clear hT
        generalize hI : TI q = ti at *
        clear hI
        go_wp2_with (first
          | (go_at_call 59; refine (K1.out wr S.out.1).mono ?_; rintro e w3 ⟨rfl, hb3⟩; have S3 : Hid (LSt w0 h l m b hi lo w3) := Lib.hid ⟨bl_trans S.out.1 hb3, S.out.2.below hb3⟩; clear hb3; have q5 := (S3.out.2.cell 5 _ rfl).1))
        go_roundw
        case rel => exact ⟨q + 1, by omega, by go_num, by rw [E.out.2], by rw [E.out.1], S3⟩
        case measure => simp [intOf]; omega
      · by_cases hx : V q < TV q
        · have ht : decide (TV q < 0) = false := decide_eq_false h0
          have ht2 : decide (V q < TV q) = true := decide_eq_true hx
          have E := Lib.hid (HY.out q (.inr hx))
          generalize V q = y at *
          generalize hT : TV q = t at *
          clear hT
          generalize hI : TI q = ti at *
          clear hI
          go_wp2_with (first
            | (go_at_call 59; refine (K1.out wr S.out.1).mono ?_; rintro e w3 ⟨rfl, hb3⟩; have S3 : Hid (LSt w0 h l m b hi lo w3) := Lib.hid ⟨bl_trans S.out.1 hb3, S.out.2.below hb3⟩; clear hb3; have q5 := (S3.out.2.cell 5 _ rfl).1))
          go_roundw
          case rel => exact ⟨q + 1, by omega, by go_num, by rw [E.out.2], by rw [E.out.1], S3⟩
          case measure => simp [intOf]; omega
        · have ht : decide (TV q < 0) = false := decide_eq_false h0
          have ht2 : decide (V q < TV q) = false := decide_eq_false hx
          have E := Lib.hid (HN.out q (fun h => h.elim h0 hx))
          generalize V q = y at *
          generalize hT : TV q = t at *
          clear hT
          generalize hI : TI q = ti at *
          clear hI
          go_wp2_with (first
            | (go_at_call 59; refine (K1.out wr S.out.1).mono ?_; rintro e w3 ⟨rfl, hb3⟩; have S3 : Hid (LSt w0 h l m b hi lo w3) := Lib.hid ⟨bl_trans S.out.1 hb3, S.out.2.below hb3⟩; clear hb3; have q5 := (S3.out.2.cell 5 _ rfl).1))
          go_roundw
          case rel => exact ⟨q + 1, by omega, by go_num, by rw [E.out.2], by rw [E.out.1], S3⟩
          case measure => simp [intOf]; omega
    · obtain rfl : q = H := by omega
      go_wp2_with fail
      go_ret2
      exact ⟨rfl, S.out.1⟩
set_option maxRecDepth 100000 in
set_option maxHeartbeats 4000000 in
theorem l06Low_deu (h l m b : Int) (hi : Bool) (lo : Int) (hl : lo = 3) (A : Option Addr) (c n0 H : Nat) (R : Nat → List Int) (AA : Nat → Option Addr) (CC : Nat → Nat) (VA V : Nat → Int) (w : World) (hf : Fam w n0 A H R AA CC) (h5 : ∀ k, k < H → (R k).length = 5) (hH : H ≤ 4000000)
    (hA : ∀ k, k < H → ∀ W, Below w.heap.size w W → Calls Tryz.prog 59 #[.slice (AA k) 5 (CC k)] W (Fresh (.int .i64 (VA k)) W))
    (hD : ∀ k, k < H → ∀ W, Below w.heap.size w W → Calls Tryz.prog 60 #[.slice (AA k) 5 (CC k)] W (Fresh (.int .i64 (V k)) W)) :
    Calls Tryz.prog 34 #[vV h l m b hi lo, .slice A H c] w (Fresh (.tuple #[.int .i64 (lowI V H : Nat), .int .i64 (lowT V H)]) w) := by
  have HF := Lib.hid hf
  have KA := Lib.hid hA
  have KD := Lib.hid hD
  have H5 := Lib.hid h5
  subst hl
  clear hf h5 hA hD
  have HY := Lib.hid (fun n => @lowT_yes V n)
  have HN := Lib.hid (fun n => @lowT_no V n)
  have HZ : Hid (lowT V 0 = -1 ∧ lowI V 0 = 0) := Lib.hid ⟨rfl, rfl⟩
  generalize lowT V = TV at *
  generalize lowI V = TI at *
  obtain ⟨w0, rfl⟩ : ∃ w0 : World, w0 = w := ⟨w, rfl⟩
  have S0 : Hid (LSt w0 h l m b hi 3 (w0.alloc (.cells #[.int .i64 h, .int .i64 l, .int .i64 m, .int .i64 b, .bool hi, .int .i64 3] 25))) := Lib.hid ⟨bl_alloc (bl_refl _) _, blk_new w0 25 [.int .i64 h, .int .i64 l, .int .i64 m, .int .i64 b, .bool hi, .int .i64 3]⟩
  unfold vV
  go_enter Tryz.func34, Tryz.ntmps34
  go_wp2_with fail
  go_loopw [6, 7, 8] (fun b' v i wr => ∃ q : Nat, q ≤ H ∧ i = .int .i64 q ∧ b' = .int .i64 (TI q : Nat) ∧ v = .int .i64 (TV q) ∧ Hid (LSt w0 h l m b hi 3 wr)) (fun _ _ i _ => H - (intOf i).toNat)
  case atStart => exact ⟨0, by omega, rfl, by rw [HZ.out.2]; rfl, by rw [HZ.out.1], S0⟩
  case round =>
    obtain ⟨q, hq, rfl, rfl, rfl, S⟩ := hrel
    by_cases hlt : q < H
    · have hlt' : (q : Int) < H := by omega
      have q5' := (S.out.2.cell 5 _ rfl).1
      obtain ⟨g, o, eg, hck⟩ := HF.out.at_ S.out.1 q hlt
      cases eg
      rw [H5.out q hlt] at hck
      have K1 := Lib.hid (KA.out q hlt)
      have K2 := Lib.hid (KD.out q hlt)
      by_cases h0 : TV q < 0
      · have ht : decide (TV q < 0) = true := decide_eq_true h0
        have E := Lib.hid (HY.out q (.inl h0))
        generalize V q = y at *
        generalize hT : TV q = t at *
        clear hT
        generalize hI : TI q = ti at *
        clear hI
        go_wp2_with (first
          | (go_at_call 59; refine (K1.out wr S.out.1).mono ?_; rintro e w3 ⟨rfl, hb3⟩; have S3 : Hid (LSt w0 h l m b hi 3 w3) := Lib.hid ⟨bl_trans S.out.1 hb3, S.out.2.below hb3⟩; clear hb3; have q5 := (S3.out.2.cell 5 _ rfl).1; have hck := HF.out.at_ S3.out.1 q hlt; obtain ⟨g3, o3, eq3, hck3⟩ := hck; cases eq3; rw [H5.out q hlt] at hck3)
          | (go_at_call 60; refine (K2.out w3 S3.out.1).mono ?_; rintro e w4 ⟨rfl, hb4⟩; have S4 : Hid (LSt w0 h l m b hi 3 w4) := Lib.hid ⟨bl_trans S3.out.1 hb4, S3.out.2.below hb4⟩; clear hb4))
        go_roundw
        case rel => exact ⟨q + 1, by omega, by go_num, by rw [E.out.2], by rw [E.out.1], S4⟩
        case measure => simp [intOf]; omega
      · by_cases hx : V q < TV q
        · have ht : decide (TV q < 0) = false := decide_eq_false h0
          have ht2 : decide (V q < TV q) = true := decide_eq_true hx
          have E := Lib.hid (HY.out q (.inr hx))
          generalize V q = y at *
          generalize hT : TV q = t at *
          clear hT
          generalize hI : TI q = ti at *
          clear hI
          go_wp2_with (first
            | (go_at_call 59; refine (K1.out wr S.out.1).mono ?_; rintro e w3 ⟨rfl, hb3⟩; have S3 : Hid (LSt w0 h l m b hi 3 w3) := Lib.hid ⟨bl_trans S.out.1 hb3, S.out.2.below hb3⟩; clear hb3; have q5 := (S3.out.2.cell 5 _ rfl).1; have hck := HF.out.at_ S3.out.1 q hlt; obtain ⟨g3, o3, eq3, hck3⟩ := hck; cases eq3; rw [H5.out q hlt] at hck3)
            | (go_at_call 60; refine (K2.out w3 S3.out.1).mono ?_; rintro e w4 ⟨rfl, hb4⟩; have S4 : Hid (LSt w0 h l m b hi 3 w4) := Lib.hid ⟨bl_trans S3.out.1 hb4, S3.out.2.below hb4⟩; clear hb4))
          go_roundw
          case rel => exact ⟨q + 1, by omega, by go_num, by rw [E.out.2], by rw [E.out.1], S4⟩
          case measure => simp [intOf]; omega
        · have ht : decide (TV q < 0) = false := decide_eq_false h0
          have ht2 : decide (V q < TV q) = false := decide_eq_false hx
          have E := Lib.hid (HN.out q (fun h => h.elim h0 hx))
          generalize V q = y at *
          generalize hT : TV q = t at *
          clear hT
          generalize hI : TI q = ti at *
          clear hI
          go_wp2_with (first
            | (go_at_call 59; refine (K1.out wr S.out.1).mono ?_; rintro e w3 ⟨rfl, hb3⟩; have S3 : Hid (LSt w0 h l m b hi 3 w3) := Lib.hid ⟨bl_trans S.out.1 hb3, S.out.2.below hb3⟩; clear hb3; have q5 := (S3.out.2.cell 5 _ rfl).1; have hck := HF.out.at_ S3.out.1 q hlt; obtain ⟨g3, o3, eq3, hck3⟩ := hck; cases eq3; rw [H5.out q hlt] at hck3)
            | (go_at_call 60; refine (K2.out w3 S3.out.1).mono ?_; rintro e w4 ⟨rfl, hb4⟩; have S4 : Hid (LSt w0 h l m b hi 3 w4) := Lib.hid ⟨bl_trans S3.out.1 hb4, S3.out.2.below hb4⟩; clear hb4))
          go_roundw
          case rel => exact ⟨q + 1, by omega, by go_num, by rw [E.out.2], by rw [E.out.1], S4⟩
          case measure => simp [intOf]; omega
    · obtain rfl : q = H := by omega
      go_wp2_with fail
      go_ret2
      exact ⟨rfl, S.out.1⟩
end Go.Proofs.YtlpkaflmhdgmmaaGreatDoor
