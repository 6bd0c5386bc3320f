/-
  classSetOf and list: a range as a set of classes and back.
-/
import Derived.Test.YtlpkaflmhdgmmaaClsSet
import Derived.Maps.AppendAt
namespace Go.Proofs.Ytlpkaflmhdgmmaa
open Go.RowKit
set_option linter.unusedVariables false

/-- What a function leaves that returns a set of classes. -/
def SetR (p : Int → Bool) (w : World) (e : Ending) (w' : World) : Prop := e = .returned (setVal p) ∧ Below w.heap.size w w'
/-- What the marking loop keeps. -/
def SetSt (w : World) (p : Int → Bool) (wr : World) : Prop :=
  Blk wr (w.heap.size + 1) 50 (setL p) ∧ (∃ old, wr.heap[w.heap.size]? = some (.cells old 50 (0, 0)) ∧ old.size = 169) ∧ Below w.heap.size w wr
theorem setSt_start {w : World} {z : Array Value} (hz : z = (List.replicate 169 (Value.bool false)).toArray) :
    SetSt w (fun _ => false) ((w.alloc (.cells z 50)).alloc (.cells z 50)) := by
  subst hz
  refine ⟨?_, ⟨(List.replicate 169 (Value.bool false)).toArray, ?_, by rw [List.size_toArray, List.length_replicate]⟩, bl_alloc (bl_alloc (bl_refl w) _) _⟩
  · have := blk_new (w.alloc (.cells (List.replicate 169 (Value.bool false)).toArray 50)) 50 (List.replicate 169 (Value.bool false))
    rw [setL_none]
    simpa using this
  · rw [Below.heap_alloc _ _ _ (by simp)]
    exact heap_alloc_new w _
theorem setSt_step {w wr : World} {p : Int → Bool} (h : SetSt w p wr) (i : Nat) (hi : i < 169) (b : Bool) : SetSt w (putP p (i : Int) b) (wr.setCell ⟨w.heap.size + 1, i, none⟩ (.bool b)) := by
  obtain ⟨h1, ⟨old, ho, hs⟩, hb⟩ := h
  obtain ⟨g1, g2⟩ := blk_set h1 i (.bool b)
  rw [setL_set p i b hi] at g1
  exact ⟨g1, ⟨old, (g2.block _ (Array.getElem?_eq_some_iff.1 ho).1 (by intro e; injection e; omega)).trans ho, hs⟩, hb.setCell (by simp) _⟩
theorem setSt_cell {w wr : World} {p : Int → Bool} (h : SetSt w p wr) (i : Nat) (hi : i < 169) : wr.cell? ⟨w.heap.size + 1, i, none⟩ = some (.bool (p (i : Int))) ∧ wr.frozen? ⟨w.heap.size + 1, i, none⟩ = false := h.1.cell i _ (setL_get p i hi)

theorem run_indexSet (p : Int → Bool) (i : Nat) (hi : i < 169) (w : World) : (Instr.index 50 (.agg (setL p).toArray) (.int .i64 (i : Int))).run Try.prog w = .ok (.bool (p (i : Int))) w := by
  have h0 : (0 : Int) ≤ i := by omega
  have h2 := setL_get p i hi
  simp [Instr.index, run_underlying uSet, go_sem, h0, h2]
  intro h1
  omega
set_option maxRecDepth 100000 in
set_option maxHeartbeats 2000000 in
theorem setList_any (p : Int → Bool) (w : World) :
    Calls Try.prog 29 #[.agg (setL p).toArray] w (NewL (clsIn p) w) := by
  obtain ⟨i0, hi, hz0, hz1, hz2⟩ := info_parts infoInt
  have HI := Lib.hid (fun (i : Nat) (h : i < 169) (W : World) => run_indexSet p i h W)
  have HP := Lib.hid (setL_len p)
  have HA : Hid (Blk (w.alloc (.cells (setL p).toArray 50)) w.heap.size 50 (setL p)) := Lib.hid (blk_new w _ _)
  have HB0 := Lib.hid (bl_alloc (bl_refl w) (.cells (setL p).toArray 50))
  generalize setL p = vs at *
  obtain ⟨w0, rfl⟩ : ∃ w0 : World, w0 = w := ⟨w, rfl⟩
  go_enter Try.func29, Try.ntmps29
  go_wp2_with (with_reducible refine wpList_load_blk 50 _ 169 rfl (.tmp 1) rfl uSet rfl iSet w0.heap.size 0 rfl vs HP.out (Blk.range HA.out) ?_)
  go_loopw [3, 7] (fun v i wr => ∃ k : Nat, k ≤ 169 ∧ i = .int .i64 k ∧ Hid (Own wr w0.heap.size v (clsInN k p) ∧ Below w0.heap.size w0 wr)) (fun _ i _ => 169 - (intOf i).toNat)
  case atStart => exact ⟨0, Nat.zero_le _, rfl, Lib.hid ⟨Own.nil _ _, HB0.out⟩⟩
  case round =>
    obtain ⟨k, hk, rfl, HS⟩ := hrel
    by_cases hlt : k < 169
    · have hlt' : (k : Int) < 169 := by omega
      have hix := HI.out k hlt
      have hl := clsInN_len k p
      rcases hb : p (k : Int) with _ | _
      · have HO := Lib.hid (clsInN_no k p hb)
        rw [hb] at hix
        clear hb
        go_wp2_with fail
        go_roundw
        case rel => exact ⟨k + 1, by omega, by go_num, by rw [HO.out]; exact HS⟩
        case measure => simp [intOf]; omega
      · have HO := Lib.hid (clsInN_yes k p hb)
        rw [hb] at hix
        clear hb
        go_wp2_with (at_builtin; refine wpList_append_own _ rfl _ _ 24 rfl w0.heap.size 2 i0 (.int .i64 0) 1 8 Try.underlying24 hi hz0 hz1 hz2 rfl (by decide) _ _ _ rfl (World.ownsRow.alloc HS.out.1 _) ⟨wr.heap.size, 0, none⟩ 1 1 [.int .i64 k] rfl rfl ?c1 ?c2 ?c3 ?c4 ?c5 ?_)
        case c1 =>
          intro j u hj
          match j, hj with
          | 0, hj => simp at hj; subst hj; simp [Addr.add]
        case c2 => intro u hu; simp at hu; subst hu; rfl
        case c3 => unfold maxLen; omega
        case c4 => omega
        case c5 => have := HS.out.2.size; simp; omega
        intro v' w1 hown' hgrow _
        have HG := Lib.hid (grow_app (w := w0) HS.out hown' hgrow)
        clear hown' hgrow
        go_wp2_with fail
        go_roundw
        case rel => exact ⟨k + 1, by omega, by go_num, by rw [HO.out]; exact HG⟩
        case measure => simp [intOf]; omega
    · obtain rfl : k = 169 := by omega
      obtain ⟨A', c', rfl, hO⟩ := own_form HS.out.1
      have HO := Lib.hid hO
      clear hO
      go_wp2_with fail
      go_ret
      exact ⟨_, _, rfl, HO.out, HS.out.2⟩
end Go.Proofs.Ytlpkaflmhdgmmaa
