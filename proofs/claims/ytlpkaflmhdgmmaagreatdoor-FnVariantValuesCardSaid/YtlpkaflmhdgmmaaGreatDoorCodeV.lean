/-
  The program's iterator of a variant's hands; the first error that the functions of a variant share.
-/
import Derived.Test.YtlpkaflmhdgmmaaGreatDoorRows2
import Derived.Test.YtlpkaflmhdgmmaaGreatDoorSpecH
import Derived.Test.YtlpkaflmhdgmmaaGreatDoorBase
import Derived.Test.YtlpkaflmhdgmmaaGreatDoorVarFns
import Derived.Lib.AppendZerosOnto
namespace Go.Proofs.YtlpkaflmhdgmmaaGreatDoor
open Go.RowKit
set_option linter.unusedVariables false

set_option maxRecDepth 100000 in
set_option maxHeartbeats 400000 in
theorem handsOf_any (h l m b : Int) (hi : Bool) (lo : Int) (A : Option Addr) (c n : Nat) (A2 : Option Addr) (c2 n2 : Nat) (w : World) :
    Calls Tryz.prog 26 #[vV h l m b hi lo, .slice A n c, .slice A2 n2 c2] w fun e w' =>
      e = .returned (.func (.func 50) #[] #[.pointer (some ⟨w.heap.size, 0, none⟩), .pointer (some ⟨w.heap.size + 1, 0, none⟩), .pointer (some ⟨w.heap.size + 1 + 1, 0, none⟩)]) ∧
      Blk w' w.heap.size 25 [.int .i64 h, .int .i64 l, .int .i64 m, .int .i64 b, .bool hi, .int .i64 lo] ∧ Blk w' (w.heap.size + 1) 26 [.slice A n c] ∧ Blk w' (w.heap.size + 1 + 1) 26 [.slice A2 n2 c2] ∧ Below w.heap.size w w' := by
  unfold vV
  have n1 := blk_new w 25 [.int .i64 h, .int .i64 l, .int .i64 m, .int .i64 b, .bool hi, .int .i64 lo]
  have n2' := blk_new (w.alloc (.cells #[.int .i64 h, .int .i64 l, .int .i64 m, .int .i64 b, .bool hi, .int .i64 lo] 25)) 26 [.slice A n c]
  have n3 := blk_new ((w.alloc (.cells #[.int .i64 h, .int .i64 l, .int .i64 m, .int .i64 b, .bool hi, .int .i64 lo] 25)).alloc (.cells #[.slice A n c] 26)) 26 [.slice A2 n2 c2]
  rw [World.size_alloc] at n2'
  rw [World.size_alloc, World.size_alloc] at n3
  have N1 := Lib.hid ((n1.below (bl_alloc (bl_refl _) (.cells #[.slice A n c] 26))).below (bl_alloc (bl_refl _) (.cells #[.slice A2 n2 c2] 26)))
  have N2 := Lib.hid (n2'.below (bl_alloc (bl_refl _) (.cells #[.slice A2 n2 c2] 26)))
  have N3 := Lib.hid n3
  clear n1 n2' n3
  go_enter Tryz.func26, Tryz.ntmps26
  go_wp2_with fail
  go_ret
  exact ⟨rfl, N1.out, N2.out, N3.out, bl_alloc (bl_alloc (bl_alloc (bl_refl w) _) _) _⟩

set_option maxRecDepth 100000 in
set_option maxHeartbeats 1000000 in
theorem grow_any (n : Nat) (w : World) (h0 : 0 < n) (hn : n ≤ 4000000) :
    Calls Tryz.prog 74 #[.slice none 0 0, .int .i64 n] w fun e w' => ∃ G, e = .returned (.slice (some ⟨w.heap.size, 0, none⟩) 0 G) ∧ Own w' w.heap.size (.slice (some ⟨w.heap.size, 0, none⟩) 0 G) [] ∧ Below w.heap.size w w' := by
  obtain ⟨i0, hi, hz0, hz1, hz2⟩ := info_parts infoInt
  have hrz : ∀ ty, (Builtin.append_ #[26, 3] ty #[.slice none 0 0, .int .i64 n]).run Tryz.prog w =
      .ok (.slice (some ⟨w.heap.size, 0, none⟩) n (grownCap w n 0 2)) (w.drew.alloc (.cells (([] : List Value).toArray ++ Builtin.zeroCells (Value.int .i64 0).cells n ++ Builtin.zeroCells (Value.int .i64 0).cells (grownCap w n 0 2 - n)) 2)) := fun ty => by
    have h := Lib.run_append_grow_zeros w 26 3 ty 2 i0 (.int .i64 0) .i64 .i64 Tryz.underlying26 Tryz.underlying3 hi hz0 none 0 0 [] (run_firstCells_none w.drew i0.size 0 0 0) n (by omega) (by omega) (by omega) (by omega) (by rw [hz2]; omega) (by rw [hz2]; exact growslice_fits (by omega) (by omega))
    rw [Nat.zero_add] at h
    exact h
  have hGn : n ≤ grownCap w n 0 2 := grownCap_ge w _ _ _
  have hG63 : grownCap w n 0 2 ≤ 9223372036854775807 := by
    have := grownCap_le_maxLen w n 0 2 (by unfold maxLen; omega)
    unfold maxLen at this
    omega
  have HM := Lib.hid (grownCap_le_maxLen w n 0 2 (by unfold maxLen; omega))
  generalize grownCap w n 0 2 = G at *
  have hst := run_sliceTo w.heap.size 0 n G 0 (by omega)
  clear hi hz0 hz1 hz2
  go_enter Tryz.func74, Tryz.ntmps74
  go_wp2_with (at_builtin; refine Lib.wpList_append_run _ rfl _ _ _ _ rfl _ _ rfl rfl _ _ (hrz _) ?_)
  all_goals go_ret
  refine ⟨G, rfl, World.ownsRow_made w _ G (Nat.le_refl _) HM.out ?_, bl_drew (bl_alloc (bl_refl w) _)⟩
  rw [Array.size_append, size_zeroCells, size_zeroCells]
  show n * 1 + (G - n) * 1 = G * 1
  omega
/-- The parts of two lists. -/
def catK (xs ys : List Int) (k : Nat) : List Int := if k = 0 then [] else if k = 1 then xs else xs ++ ys
def lenK (xs ys : List Int) (k : Nat) : Nat := if k = 0 then 0 else if k = 1 then xs.length else xs.length + ys.length
set_option maxRecDepth 100000 in
set_option maxHeartbeats 600000 in
theorem concat_any (g : Nat) (A : Option Addr) (c : Nat) (xs : List Int) (A2 : Option Addr) (c2 : Nat) (ys : List Int) (w : World) (hg : Blk w g 26 [.slice A xs.length c, .slice A2 ys.length c2]) (hr : Rd w A xs) (hr2 : Rd w A2 ys) (h0 : 0 < xs.length + ys.length) (hx : xs.length ≤ 100) (hy : ys.length ≤ 100) :
    Calls Tryz.prog 49 #[.slice (some ⟨g, 0, none⟩) 2 2] w (NewL (xs ++ ys) w) := by
  obtain ⟨w0, rfl⟩ : ∃ w0 : World, w0 = w := ⟨w, rfl⟩
  have KG := Lib.hid (fun W => grow_any (xs.length + ys.length) W h0 (by omega))
  have HR := Lib.hid hr
  have HR2 := Lib.hid hr2
  have GB := Lib.hid hg
  have hx' : (xs.length : Int) ≤ 100 := by omega
  have hy' : (ys.length : Int) ≤ 100 := by omega
  have H0 := Lib.hid h0
  clear hr hr2 hg h0
  go_enter Tryz.func49, Tryz.ntmps49
  go_wp2_with fail
  go_loopw [3, 11] (fun s i wr => ∃ k : Nat, k ≤ 2 ∧ i = .int .i64 k ∧ s = .int .i64 (lenK xs ys k) ∧ wr = w0) (fun _ i _ => 2 - (intOf i).toNat)
  case atStart => exact ⟨0, by omega, rfl, rfl, rfl⟩
  case round =>
    obtain ⟨k, hk, rfl, rfl, hw⟩ := hrel
    obtain rfl := hw.symm
    have cg0 := (GB.out.cell 0 _ rfl).1
    have cg1 := (GB.out.cell 1 _ rfl).1
    obtain rfl | rfl | rfl : k = 0 ∨ k = 1 ∨ k = 2 := by omega
    · have e : ((lenK xs ys 0 : Nat) : Int) = 0 := rfl
      rw [e]
      clear e
      go_wp2_with fail
      go_roundw
      case rel => exact ⟨1, by omega, by go_num, rfl, trivial⟩
      case measure => simp [intOf]
    · have e : ((lenK xs ys 1 : Nat) : Int) = (xs.length : Int) := rfl
      rw [e]
      clear e
      go_wp2_with fail
      go_roundw
      case rel => exact ⟨2, by omega, by go_num, by simp [lenK], trivial⟩
      case measure => simp [intOf]
    · have e : ((lenK xs ys 2 : Nat) : Int) = ((xs.length + ys.length : Nat) : Int) := rfl
      rw [e]
      obtain ⟨z, ez⟩ : ∃ z : Nat, z = xs.length + ys.length := ⟨_, rfl⟩
      rw [← ez] at KG ⊢
      have EZ := Lib.hid ez
      clear e cg0 cg1 ez
      go_wp2_with (go_at_call 74; refine (KG.out _).mono ?_; rintro e w1 ⟨G, rfl, ho1, hb1⟩; have O1 := Lib.hid ho1; have B1 := Lib.hid hb1; clear ho1 hb1)
      have HZ := Lib.hid B1.out.size
      go_loopw [6, 27] (fun v i wr => ∃ k : Nat, k ≤ 2 ∧ i = .int .i64 k ∧ Hid (Grow w0 (catK xs ys k) v wr)) (fun _ i _ => 2 - (intOf i).toNat)
      case atStart => exact ⟨0, by omega, rfl, Lib.hid ⟨O1.out, B1.out⟩⟩
      case round =>
        obtain ⟨k, hk, rfl, hs⟩ := hrel
        have CG := Lib.hid (GB.out.below hs.out.2)
        obtain rfl | rfl | rfl : k = 0 ∨ k = 1 ∨ k = 2 := by omega
        · have cg := (CG.out.cell 0 _ rfl).1
          have HO : Hid (Own wr w0.heap.size u6 []) := Lib.hid hs.out.1
          have HX := Lib.hid (HR.out.below hs.out.2)
          have HB : Hid (([] : List Int).length + xs.length ≤ 4000000) := Lib.hid (by simp; omega)
          have HL := Lib.hid hs.out.2.size
          go_wp2_with (at_builtin; refine wpList_glue (.tmp 31) (.tmp 32) rfl rfl w0.heap.size u6 [] xs A c rfl HO.out rfl HX.out HB.out HL.out ?_)
          intro A' c' ws w' e ho hg' _
          have HN := Lib.hid (grow_glue (ys := []) hs.out (bl_refl _) ho hg')
          clear ho hg'
          rw [e.out] at HN ⊢
          clear e
          go_wp2_with fail
          go_roundw
          case rel => exact ⟨1, by omega, by go_num, HN⟩
          case measure => simp [intOf]
        · have cg := (CG.out.cell 1 _ rfl).1
          have HO : Hid (Own wr w0.heap.size u6 xs) := Lib.hid hs.out.1
          have HX := Lib.hid (HR2.out.below hs.out.2)
          have HB : Hid ((xs : List Int).length + ys.length ≤ 4000000) := Lib.hid (by omega)
          have HL := Lib.hid hs.out.2.size
          go_wp2_with (at_builtin; refine wpList_glue (.tmp 31) (.tmp 32) rfl rfl w0.heap.size u6 xs ys A2 c2 rfl HO.out rfl HX.out HB.out HL.out ?_)
          intro A' c' ws w' e ho hg' _
          have HN := Lib.hid (grow_glue (ys := xs) hs.out (bl_refl _) ho hg')
          clear ho hg'
          rw [e.out] at HN ⊢
          clear e
          go_wp2_with fail
          go_roundw
          case rel => exact ⟨2, by omega, by go_num, HN⟩
          case measure => simp [intOf]
        · obtain ⟨A', c', rfl, ho⟩ := own_form hs.out.1
          have HO := Lib.hid ho
          have HB := Lib.hid hs.out.2
          clear hs ho
          go_wp2_with fail
          go_ret
          exact ⟨A', c', rfl, HO.out, HB.out⟩
end Go.Proofs.YtlpkaflmhdgmmaaGreatDoor
