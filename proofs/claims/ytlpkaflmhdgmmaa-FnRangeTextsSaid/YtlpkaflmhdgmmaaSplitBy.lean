/-
  l01Split: a text split at a byte: the walk.
-/
import Derived.Test.YtlpkaflmhdgmmaaSplitByPure
import Derived.Test.YtlpkaflmhdgmmaaCls
import Derived.Lib.Strings
namespace Go.Proofs.Ytlpkaflmhdgmmaa
open Go.RowKit
set_option linter.unusedVariables false

theorem infoStrB : (Try.prog.info? 9).map (fun i => (i.zero, i.size, i.bytes)) = some (some (.string ByteArray.empty), 1, 16) := by kernel_rfl

/-- The pieces as values. -/
def strsB (ps : List (List UInt8)) : List Value := ps.map strV
theorem strsB_length (ps : List (List UInt8)) : (strsB ps).length = ps.length := by simp [strsB]
theorem strsB_snoc (ps : List (List UInt8)) (p : List UInt8) : strsB (ps ++ [p]) = strsB ps ++ [strV p] := by simp [strsB]

/-- What the loop keeps at place k. -/
def SplitByAt (b : UInt8) (l : List UInt8) (w : World) (k : Nat) (v : Value) (wr : World) : Prop :=
  wr.ownsRow w.heap.size 9 1 v (pcsB b l k).length (strsB (pcsB b l k)) ∧ Below w.heap.size w wr

theorem splitBy_start (b : UInt8) (l : List UInt8) (w : World) : SplitByAt b l w 0 (.slice (some ⟨w.heap.size, 0, none⟩) 0 0) (w.alloc (.cells #[] 9)) := by
  unfold SplitByAt
  rw [pcsB_zero]
  exact ⟨World.ownsRow_made w #[] 0 (Nat.le_refl _) (by unfold maxLen; omega) rfl, bl_alloc (bl_refl _) _⟩
theorem splitBy_keep {b : UInt8} {l : List UInt8} {w wr : World} {k : Nat} {v : Value} (h : SplitByAt b l w k v wr) (hk : k < l.length) (hc : l[k] ≠ b) : SplitByAt b l w (k + 1) v wr := by
  unfold SplitByAt at h ⊢
  rw [(stepB_keep b l k hk hc).1]; exact h
theorem splitBy_app {b : UInt8} {l : List UInt8} {w wr w1 : World} {k : Nat} {v v' : Value} {o : Obj} {p : List UInt8} (h : SplitByAt b l w k v wr) (hp : pcsB b l (k + 1) = pcsB b l k ++ [p])
    (hown : w1.ownsRow w.heap.size 9 1 v' ((pcsB b l k).length + 1) (strsB (pcsB b l k) ++ [strV p])) (hgrow : (wr.alloc o).grownBy w1 v.ownBlock) : SplitByAt b l w (k + 1) v' w1 := by
  unfold SplitByAt at h ⊢
  rw [hp, strsB_snoc]
  exact ⟨by simpa using hown, (bl_alloc h.2 o).grown hgrow (by simp; exact Nat.le_succ_of_le h.2.size) (fun j hj => (h.1.lt j hj).1)⟩
theorem extB_eq (s : ByteArray) (f k : Nat) (h : f ≤ k) : s.extract f k = ⟨((s.data.toList.drop f).take (k - f)).toArray⟩ := Lib.extract_eq s f k
theorem byte_is (c b : UInt8) (h : ((c.toNat : Int) == (b.toNat : Int)) = true) : c = b := UInt8.toNat_inj.1 (by simp only [beq_iff_eq] at h; omega)
theorem byte_not (c b : UInt8) (h : ((c.toNat : Int) == (b.toNat : Int)) = false) : c ≠ b := fun e => by subst e; simp at h

set_option maxRecDepth 100000 in
set_option maxHeartbeats 1000000 in
theorem splitBy_any (b : UInt8) (s : ByteArray) (w : World) (hs : s.size ≤ 2000000) :
    Calls Try.prog 30 #[.string s, .int .u8 b.toNat] w fun e w' => ∃ v, e = .returned v ∧ SplitByAt b s.data.toList w (s.data.toList.length + 1) v w' := by
  obtain ⟨i0, hi, hz0, hz1, hz2⟩ := info_parts infoStrB
  go_enter Try.func30, Try.ntmps30
  go_wp2
  go_loopw [5, 6, 7] (fun v f i wr => ∃ k : Nat, k ≤ s.size + 1 ∧ i = .int .i64 k ∧ f = .int .i64 (frmB b s.data.toList k) ∧ SplitByAt b s.data.toList w k v wr) (fun _ _ i _ => s.size + 2 - (intOf i).toNat)
  case atStart => exact ⟨0, by omega, rfl, by rw [frmB_zero]; rfl, splitBy_start _ _ _⟩
  case round =>
    obtain ⟨k, hk, rfl, rfl, hS⟩ := hrel
    obtain ⟨f, hf⟩ : ∃ f, f = frmB b s.data.toList k := ⟨_, rfl⟩
    rw [← hf]
    have HF := Lib.hid hf
    have HS := Lib.hid hS
    clear hf hS
    by_cases hlt : k < s.size
    · have hfk : f ≤ k := by rw [HF.out]; exact frmB_le _ _ _ (by show k ≤ s.size; omega)
      have hpl := pcsB_len b s.data.toList k (by show k ≤ s.size; omega)
      have hk0 : ((k : Int) == (s.size : Int)) = false := by simp; omega
      rcases hb : ((s[k].toNat : Int) == (b.toNat : Int)) with _ | _
      · have HC := Lib.hid (byte_not _ _ hb)
        go_wp2_with fail
        go_roundw
        case rel => exact ⟨k + 1, by omega, by go_num, by rw [(stepB_keep b s.data.toList k hlt HC.out).2, ← HF.out], splitBy_keep HS.out hlt HC.out⟩
        case measure => simp [intOf]; omega
      · have HC := Lib.hid (byte_is _ _ hb)
        go_wp2_with (at_builtin; refine wpList_append_own _ rfl _ _ 38 rfl w.heap.size 9 i0 (.string ByteArray.empty) 1 16 Try.underlying38 hi hz0 hz1 hz2 rfl (by decide) _ _ _ rfl (HS.out.1.alloc _) ⟨wr.heap.size, 0, none⟩ 1 1 [.string (s.extract f k)] rfl rfl ?c1 ?c2 ?c3 ?c4 ?c5 ?_)
        case c1 =>
          intro j u hj
          match j, hj with
          | 0, hj => simp at hj; subst hj; simp [Addr.add]
        case c2 => intro u hu; simp at hu; subst hu; rfl
        case c3 => unfold maxLen; omega
        case c4 => omega
        case c5 => have := HS.out.2.size; simp; omega
        intro v' w1 hown' hgrow _
        have HO := Lib.hid hown'
        have HG := Lib.hid hgrow
        clear hown' hgrow
        go_wp2_with fail
        go_roundw
        case rel => exact ⟨k + 1, by omega, by go_num, by rw [(stepB_cut b s.data.toList k hlt HC.out).2]; go_num, splitBy_app HS.out (stepB_cut b s.data.toList k hlt HC.out).1 (by rw [← HF.out]; have := HO.out; rw [extB_eq s f k hfk] at this; exact this) HG.out⟩
        case measure => simp [intOf]; omega
    · by_cases hek : k = s.size
      · subst hek
        have hfk : f ≤ s.size := by rw [HF.out]; exact frmB_le _ _ _ (Nat.le_refl _)
        have hpl := pcsB_len b s.data.toList s.size (Nat.le_refl _)
        go_wp2_with (at_builtin; refine wpList_append_own _ rfl _ _ 38 rfl w.heap.size 9 i0 (.string ByteArray.empty) 1 16 Try.underlying38 hi hz0 hz1 hz2 rfl (by decide) _ _ _ rfl (HS.out.1.alloc _) ⟨wr.heap.size, 0, none⟩ 1 1 [.string (s.extract f s.size)] rfl rfl ?d1 ?d2 ?d3 ?d4 ?d5 ?_)
        case d1 =>
          intro j u hj
          match j, hj with
          | 0, hj => simp at hj; subst hj; simp [Addr.add]
        case d2 => intro u hu; simp at hu; subst hu; rfl
        case d3 => unfold maxLen; omega
        case d4 => omega
        case d5 => have := HS.out.2.size; simp; omega
        intro v' w1 hown' hgrow _
        have HO := Lib.hid hown'
        have HG := Lib.hid hgrow
        clear hown' hgrow
        go_wp2_with fail
        go_roundw
        case rel => exact ⟨s.size + 1, by omega, by go_num, by rw [show s.size = s.data.toList.length from rfl, (stepB_end b s.data.toList).2]; go_num, splitBy_app HS.out (stepB_end b s.data.toList).1 (by rw [show frmB b s.data.toList s.data.toList.length = f from HF.out.symm]; have := HO.out; rw [extB_eq s f s.size hfk] at this; exact this) HG.out⟩
        case measure => simp [intOf]
      · obtain rfl : k = s.size + 1 := by omega
        go_wp2_with fail
        go_ret
        exact ⟨_, rfl, HS.out⟩
end Go.Proofs.Ytlpkaflmhdgmmaa
