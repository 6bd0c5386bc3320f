/-
  The model's l06High: the first of the best hands, and its value.
-/
import Derived.Test.YtlpkaflmhdgmmaaGreatDoorRows2
namespace Go.Proofs.YtlpkaflmhdgmmaaGreatDoor
open Go.RowKit
set_option linter.unusedVariables false

/-- The greatest of the first n values (-1 of none), and which is the first of such. -/
def topV (V : Nat → Int) : Nat → Int
  | 0 => -1
  | n + 1 => if topV V n < V n then V n else topV V n
def topI (V : Nat → Int) : Nat → Nat
  | 0 => 0
  | n + 1 => if topV V n < V n then n else topI V n
theorem top_yes {V : Nat → Int} {n : Nat} (h : topV V n < V n) : topV V (n + 1) = V n ∧ topI V (n + 1) = n := by rw [topV, topI, if_pos h, if_pos h]; exact ⟨rfl, rfl⟩
theorem top_no {V : Nat → Int} {n : Nat} (h : V n ≤ topV V n) : topV V (n + 1) = topV V n ∧ topI V (n + 1) = topI V n := by
  have h : ¬ topV V n < V n := by omega
  rw [topV, topI, if_neg h, if_neg h]; exact ⟨rfl, rfl⟩
theorem topI_lt (V : Nat → Int) : ∀ n, 0 < n → topI V n < n
  | n + 1, _ => by
    rw [topI]
    split
    · omega
    · by_cases h : 0 < n
      · have := topI_lt V n h; omega
      · obtain rfl : n = 0 := by omega
        simp [topI]
set_option maxRecDepth 100000 in
set_option maxHeartbeats 2000000 in
theorem l06High_of (A : Option Addr) (c lo H : Nat) (R : Nat → List Int) (AA : Nat → Option Addr) (CC : Nat → Nat) (V : Nat → Int) (w : World) (hf : Fam w lo A H R AA CC) (h5 : ∀ k, k < H → (R k).length = 5) (hH : H ≤ 4000000)
    (hK : ∀ k, k < H → ∀ W, Below w.heap.size w W → Calls Tryz.prog 58 #[.slice (AA k) 5 (CC k)] W (Fresh (.int .i64 (V k)) W)) :
    Calls Tryz.prog 33 #[.slice A H c] w (Fresh (.tuple #[.int .i64 (topI V H : Nat), .int .i64 (topV V H)]) w) := by
  have HF := Lib.hid hf
  have KV := Lib.hid hK
  have H5 := Lib.hid h5
  clear hf h5 hK
  have HY := Lib.hid (fun n => @top_yes V n)
  have HN := Lib.hid (fun n => @top_no V n)
  have HZ : Hid (topV V 0 = -1 ∧ topI V 0 = 0) := Lib.hid ⟨rfl, rfl⟩
  generalize topV V = TV at *
  generalize topI V = TI at *
  obtain ⟨w0, rfl⟩ : ∃ w0 : World, w0 = w := ⟨w, rfl⟩
  go_enter Tryz.func33, Tryz.ntmps33
  go_wp2_with fail
  go_loopw [4, 5, 6] (fun b v i wr => ∃ q : Nat, q ≤ H ∧ i = .int .i64 q ∧ b = .int .i64 (TI q : Nat) ∧ v = .int .i64 (TV q) ∧ Hid (Below w0.heap.size w0 wr)) (fun _ _ i _ => H - (intOf i).toNat)
  case atStart => exact ⟨0, by omega, rfl, by rw [HZ.out.2]; rfl, by rw [HZ.out.1], Lib.hid (bl_refl _)⟩
  case round =>
    obtain ⟨q, hq, rfl, rfl, rfl, hb⟩ := hrel
    by_cases hlt : q < H
    · have hlt' : (q : Int) < H := by omega
      obtain ⟨g, o, rfl, hck⟩ := HF.out.at_ hb.out q hlt
      rw [H5.out q hlt] at hck
      have K1 := Lib.hid (KV.out q hlt wr hb.out)
      by_cases hx : TV q < V q
      · have E := Lib.hid (HY.out q hx)
        generalize V q = y at *
        generalize hT : TV q = t at *
        clear hT
        generalize hI : TI q = ti at *
        clear hI
        go_wp2_with (go_at_call 58; refine (K1.out).mono ?_; rintro e w3 ⟨rfl, hb3⟩; have HB3 := Lib.hid (bl_trans hb.out hb3); clear hb3)
        go_roundw
        case rel => exact ⟨q + 1, by omega, by go_num, by rw [E.out.2], by rw [E.out.1], HB3⟩
        case measure => simp [intOf]; omega
      · have E := Lib.hid (HN.out q (by omega))
        have hx' : ¬ V q > TV q := by omega
        generalize V q = y at *
        generalize hT : TV q = t at *
        clear hT
        generalize hI : TI q = ti at *
        clear hI
        go_wp2_with (go_at_call 58; refine (K1.out).mono ?_; rintro e w3 ⟨rfl, hb3⟩; have HB3 := Lib.hid (bl_trans hb.out hb3); clear hb3)
        go_roundw
        case rel => exact ⟨q + 1, by omega, by go_num, by rw [E.out.2], by rw [E.out.1], HB3⟩
        case measure => simp [intOf]; omega
    · obtain rfl : q = H := by omega
      go_wp2_with fail
      go_ret2
      exact ⟨rfl, hb.out⟩
end Go.Proofs.YtlpkaflmhdgmmaaGreatDoor
