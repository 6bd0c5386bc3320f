/-
  VariantNamed: the program's walk and the model's.
-/
import Derived.Test.YtjchjjnmahddiaaDoorStdFns
namespace Go.Proofs.YtjchjjnmahddiaaDoor
open Go.RowKit
set_option linter.unusedVariables false

/-- The first of the names from k on that is s. -/
def srch (s : ByteArray) : Nat → Nat → Option Nat
  | 0, _ => none
  | f + 1, k => if sN k = s then some k else srch s f (k + 1)
theorem srch_yes {s : ByteArray} {f k : Nat} (hf : 0 < f) (h : sN k = s) : srch s f k = some k := by
  cases f with
  | zero => omega
  | succ f => unfold srch; rw [if_pos h]
theorem srch_no {s : ByteArray} {f k : Nat} (hf : 0 < f) (h : ¬ sN k = s) : srch s f k = srch s (f - 1) (k + 1) := by
  cases f with
  | zero => omega
  | succ f => rw [srch, if_neg h]; rfl
theorem text_ne {s t : ByteArray} (h : ¬ t = s) : (t.toList == s.toList) = false := by
  rw [beq_eq_false_iff_ne]
  intro e
  rw [ByteArray.toList_eq, ByteArray.toList_eq] at e
  apply h
  cases s; cases t
  exact congrArg ByteArray.mk (Array.toList_inj.1 e)
def vnI (s : ByteArray) : Int := match srch s 8 0 with | some k => k | none => 0
def vnB (s : ByteArray) : Bool := (srch s 8 0).isSome
theorem i8N : (Tryd.prog.info? 59).map (·.size) = some 56 := by kernel_rfl
theorem i7N : (Tryd.prog.info? 58).map (·.size) = some 7 := by kernel_rfl
set_option maxRecDepth 100000 in
set_option maxHeartbeats 4000000 in
theorem run_indexS (k : Nat) (hk : k < 8) (W : World) : (Instr.index 59 (.agg sCells.toArray) (.int .i64 k)).run Tryd.prog W = .ok (.agg #[.string (sN k), .int .i64 (sH k), .int .i64 (sL k), .int .i64 (sM k), .int .i64 (sB k), .bool (sI k), .int .i64 (sO k)]) W := by
  obtain ⟨i0, hi, hz⟩ : ∃ i, Tryd.prog.info? 58 = some i ∧ i.size = 7 := by
    cases h : Tryd.prog.info? 58 with
    | none => have := i7N; rw [h] at this; cases this
    | some i => have := i7N; rw [h] at this; exact ⟨i, rfl, Option.some.inj this⟩
  have h9 : k = 0 ∨ k = 1 ∨ k = 2 ∨ k = 3 ∨ k = 4 ∨ k = 5 ∨ k = 6 ∨ k = 7 := by omega
  rcases h9 with rfl | rfl | rfl | rfl | rfl | rfl | rfl | rfl <;>
    simp [Instr.index, run_underlying Tryd.underlying59, go_sem, sizeOf, typeInfo, hi, hz, part, isAgg, run_underlying Tryd.underlying58, sCells, sRow, List.range, List.range.loop, sN, sH, sL, sM, sB, sI, sO]
set_option maxRecDepth 100000 in
set_option maxHeartbeats 4000000 in
theorem implNamed_any (s : ByteArray) (B : Nat) (wt w : World) (ht : Hid (Std B wt)) (hB : Hid (Below B wt w)) (hBw : Hid (B ≤ w.heap.size)) :
    Calls Tryd.prog 13 #[.string s] w (Fresh (.tuple #[.int .i64 (vnI s), .bool (vnB s)]) w) := by
  have HR := Lib.hid (std_range ht.out hB.out)
  go_enter Tryd.func13, Tryd.ntmps13
  go_wp2_with (refine wpList_load_blk 59 _ 56 rfl (.global 0) rfl Tryd.underlying59 rfl i8N 0 0 rfl sCells rfl HR.out ?_)
  go_loopw [4, 5, 7] (fun _ _ i wr => ∃ k : Nat, k ≤ 8 ∧ i = .int .i64 k ∧ Hid (srch s 8 0 = srch s (8 - k) k ∧ Below w.heap.size w wr)) (fun _ _ i _ => 8 - (intOf i).toNat)
  case atStart => exact ⟨0, by omega, rfl, Lib.hid ⟨rfl, bl_refl _⟩⟩
  case round =>
    obtain ⟨k, hk, rfl, hs⟩ := hrel
    by_cases hlt : k < 8
    · have hlt' : (k : Int) < 8 := by omega
      have hidx := fun W => run_indexS k hlt W
      have hsr := hs.out.1
      have HB := Lib.hid hs.out.2
      by_cases he : sN k = s
      · have e1 : Hid (vnI s = k ∧ vnB s = true) := Lib.hid (by unfold vnI vnB; rw [hsr, srch_yes (by omega) he]; exact ⟨rfl, rfl⟩)
        clear hs hsr
        rw [e1.out.1, e1.out.2]
        rw [he] at hidx
        generalize sH k = x1 at *
        generalize sL k = x2 at *
        generalize sM k = x3 at *
        generalize sB k = x4 at *
        generalize sI k = x5 at *
        generalize sO k = x6 at *
        clear he
        go_wp2_with fail
        go_ret2
        exact ⟨rfl, bl_alloc HB.out _⟩
      · have e1 : Hid (srch s 8 0 = srch s (8 - (k + 1)) (k + 1)) := Lib.hid (by rw [hsr, srch_no (by omega) he, Nat.sub_sub])
        clear hs hsr
        generalize sN k = t at *
        generalize sH k = x1 at *
        generalize sL k = x2 at *
        generalize sM k = x3 at *
        generalize sB k = x4 at *
        generalize sI k = x5 at *
        generalize sO k = x6 at *
        have hne : (t.toList == s.toList) = false := text_ne he
        go_wp2_with fail
        go_roundw
        case rel => exact ⟨k + 1, by omega, by go_num, Lib.hid ⟨e1.out, bl_alloc HB.out _⟩⟩
        case measure => simp [intOf]; omega
    · obtain rfl : k = 8 := by omega
      have e1 : Hid (vnI s = 0 ∧ vnB s = false) := Lib.hid (by unfold vnI vnB; rw [hs.out.1]; exact ⟨rfl, rfl⟩)
      have HB := Lib.hid hs.out.2
      clear hs
      rw [show ((8 : Nat) : Int) = 8 from rfl]
      go_wp2_with fail
      go_ret2
      exact ⟨by rw [e1.out.1, e1.out.2]; rfl, HB.out⟩
def namesV : List Value := [.string ⟨#[104, 111, 108, 100, 101, 109]⟩, .string ⟨#[111, 109, 97, 104, 97]⟩, .string ⟨#[111, 109, 97, 104, 97, 32, 101, 105, 103, 104, 116]⟩, .string ⟨#[115, 116, 117, 100]⟩, .string ⟨#[115, 116, 117, 100, 32, 101, 105, 103, 104, 116]⟩, .string ⟨#[114, 97, 122, 122]⟩, .string ⟨#[100, 114, 97, 119]⟩, .string ⟨#[100, 101, 117, 99, 101, 32, 116, 111, 32, 115, 101, 118, 101, 110]⟩]
theorem namesV_at (k : Nat) (hk : k < 8) : namesV[k]? = some (.string (sN k)) := by
  have h1 : k = 0 ∨ k = 1 ∨ k = 2 ∨ k = 3 ∨ k = 4 ∨ k = 5 ∨ k = 6 ∨ k = 7 := by omega
  rcases h1 with rfl | rfl | rfl | rfl | rfl | rfl | rfl | rfl <;> rfl
set_option maxRecDepth 100000 in
set_option maxHeartbeats 4000000 in
theorem specNames_any (w : World) : Calls Tryd.prog 38 #[] w fun e w' => e = .returned (.slice (some ⟨w.heap.size, 0, none⟩) 8 8) ∧ Blk w' w.heap.size 9 namesV ∧ Below w.heap.size w w' := by
  go_enter Tryd.func38, Tryd.ntmps38
  go_wp2_with fail
  go_ret
  exact ⟨rfl, blk_new w 9 namesV, bl_alloc (bl_refl _) _⟩
set_option maxRecDepth 100000 in
set_option maxHeartbeats 4000000 in
theorem specNamed_any (s : ByteArray) (w : World) :
    Calls Tryd.prog 12 #[.string s] w (Fresh (.tuple #[.int .i64 (vnI s), .bool (vnB s)]) w) := by
  have KN := Lib.hid specNames_any
  go_enter Tryd.func12, Tryd.ntmps12
  go_wp2_with (go_at_call 38; refine (KN.out _).mono ?_; rintro e w1 ⟨rfl, hk1, hb1⟩; have HK := Lib.hid hk1; have HB := Lib.hid hb1; clear hk1 hb1)
  go_loopw [5] (fun i wr => ∃ k : Nat, k ≤ 8 ∧ i = .int .i64 k ∧ wr = w1 ∧ Hid (srch s 8 0 = srch s (8 - k) k)) (fun i _ => 8 - (intOf i).toNat)
  case atStart => exact ⟨0, by omega, rfl, rfl, Lib.hid rfl⟩
  case round =>
    obtain ⟨k, hk, rfl, rfl, hs⟩ := hrel
    by_cases hlt : k < 8
    · have hlt' : (k : Int) < 8 := by omega
      obtain ⟨hc, _⟩ := HK.out.cell k _ (namesV_at k hlt)
      have hsr := hs.out
      by_cases he : sN k = s
      · have e1 : Hid (vnI s = k ∧ vnB s = true) := Lib.hid (by unfold vnI vnB; rw [hsr, srch_yes (by omega) he]; exact ⟨rfl, rfl⟩)
        clear hs hsr
        rw [e1.out.1, e1.out.2]
        rw [he] at hc
        clear he
        go_wp2_with fail
        go_ret2
        exact ⟨rfl, HB.out⟩
      · have e1 : Hid (srch s 8 0 = srch s (8 - (k + 1)) (k + 1)) := Lib.hid (by rw [hsr, srch_no (by omega) he, Nat.sub_sub])
        clear hs hsr
        generalize sN k = t at *
        have hne : (t.toList == s.toList) = false := text_ne he
        go_wp2_with fail
        go_roundw
        case rel => exact ⟨k + 1, by omega, by go_num, trivial, e1⟩
        case measure => simp [intOf]; omega
    · obtain rfl : k = 8 := by omega
      have e1 : Hid (vnI s = 0 ∧ vnB s = false) := Lib.hid (by unfold vnI vnB; rw [hs.out]; exact ⟨rfl, rfl⟩)
      clear hs
      rw [show ((8 : Nat) : Int) = 8 from rfl]
      go_wp2_with fail
      go_ret2
      exact ⟨by rw [e1.out.1, e1.out.2]; rfl, HB.out⟩
end Go.Proofs.YtjchjjnmahddiaaDoor
