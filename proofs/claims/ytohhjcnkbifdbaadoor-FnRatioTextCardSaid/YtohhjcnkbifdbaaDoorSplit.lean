/-
  l01Split: a text split at its slashes: the walk.
-/
import Derived.Test.YtohhjcnkbifdbaaDoorSplitPure
import Derived.Test.YtohhjcnkbifdbaaDoorDec
import Derived.Lib.Strings
namespace Go.Proofs.YtohhjcnkbifdbaaDoor
open Go.RowKit
set_option linter.unusedVariables false

theorem infoString : (Tryd.prog.info? 9).map (fun i => (i.zero, i.size, i.bytes)) = some (some (.string ByteArray.empty), 1, 16) := by kernel_rfl

/-- The pieces as values. -/
def strs (ps : List (List UInt8)) : List Value := ps.map strV
theorem strs_length (ps : List (List UInt8)) : (strs ps).length = ps.length := by simp [strs]
theorem strs_snoc (ps : List (List UInt8)) (p : List UInt8) : strs (ps ++ [p]) = strs ps ++ [strV p] := by simp [strs]

/-- What the loop keeps at place k. -/
def SplitAt (l : List UInt8) (w : World) (k : Nat) (v : Value) (wr : World) : Prop :=
  wr.ownsRow w.heap.size 9 1 v (pcs l k).length (strs (pcs l k)) ∧ Below w.heap.size w wr

theorem split_start (l : List UInt8) (w : World) : SplitAt l w 0 (.slice (some ⟨w.heap.size, 0, none⟩) 0 0) (w.alloc (.cells #[] 9)) := by
  unfold SplitAt
  rw [pcs_zero]
  exact ⟨World.ownsRow_made w #[] 0 (Nat.le_refl _) (by unfold maxLen; omega) rfl, bl_alloc (bl_refl _) _⟩
theorem split_keep {l : List UInt8} {w wr : World} {k : Nat} {v : Value} (h : SplitAt l w k v wr) (hk : k < l.length) (hc : l[k] ≠ 47) : SplitAt l w (k + 1) v wr := by
  unfold SplitAt at h ⊢
  rw [(step_keep l k hk hc).1]; exact h
theorem split_app {l : List UInt8} {w wr w1 : World} {k : Nat} {v v' : Value} {o : Obj} {p : List UInt8} (h : SplitAt l w k v wr) (hp : pcs l (k + 1) = pcs l k ++ [p])
    (hown : w1.ownsRow w.heap.size 9 1 v' ((pcs l k).length + 1) (strs (pcs l k) ++ [strV p])) (hgrow : (wr.alloc o).grownBy w1 v.ownBlock) : SplitAt l w (k + 1) v' w1 := by
  unfold SplitAt at h ⊢
  rw [hp, strs_snoc]
  exact ⟨by simpa using hown, (bl_alloc h.2 o).grown hgrow (by simp; exact Nat.le_succ_of_le h.2.size) (fun j hj => (h.1.lt j hj).1)⟩
theorem ext_eq (s : ByteArray) (f k : Nat) (h : f ≤ k) : s.extract f k = ⟨((s.data.toList.drop f).take (k - f)).toArray⟩ := Lib.extract_eq s f k
theorem dig_47 (c : UInt8) (h : ((c.toNat : Int) == 47) = true) : c = 47 := UInt8.toNat_inj.1 (by simp at h; show c.toNat = 47; omega)
theorem dig_not (c : UInt8) (h : ((c.toNat : Int) == 47) = false) : c ≠ 47 := fun e => by subst e; exact absurd h (by decide)

set_option maxRecDepth 100000 in
set_option maxHeartbeats 1000000 in
theorem split_any (s : ByteArray) (w : World) (hs : s.size ≤ 2000000) :
    Calls Tryd.prog 29 #[.string s, .int .u8 47] w fun e w' => ∃ v, e = .returned v ∧ SplitAt s.data.toList w (s.data.toList.length + 1) v w' := by
  obtain ⟨i0, hi, hz0, hz1, hz2⟩ := info_parts infoString
  go_enter Tryd.func29, Tryd.ntmps29
  go_wp2
  go_loopw [5, 6, 7] (fun v f i wr => ∃ k : Nat, k ≤ s.size + 1 ∧ i = .int .i64 k ∧ f = .int .i64 (frm s.data.toList k) ∧ SplitAt s.data.toList w k v wr) (fun _ _ i _ => s.size + 2 - (intOf i).toNat)
  case atStart => exact ⟨0, by omega, rfl, by rw [frm_zero]; rfl, split_start _ _⟩
  case round =>
    obtain ⟨k, hk, rfl, rfl, hS⟩ := hrel
    obtain ⟨f, hf⟩ : ∃ f, f = frm s.data.toList k := ⟨_, rfl⟩
    rw [← hf]
    have HF := Lib.hid hf
    have HS := Lib.hid hS
    clear hf hS
    by_cases hlt : k < s.size
    · have hfk : f ≤ k := by rw [HF.out]; exact frm_le _ _ (by show k ≤ s.size; omega)
      have hpl := pcs_len s.data.toList k (by show k ≤ s.size; omega)
      have hk0 : ((k : Int) == (s.size : Int)) = false := by simp; omega
      rcases hb : ((s[k].toNat : Int) == 47) with _ | _
      · have HC := Lib.hid (dig_not _ hb)
        go_wp2_with fail
        go_roundw
        case rel => exact ⟨k + 1, by omega, by go_num, by rw [(step_keep s.data.toList k hlt HC.out).2, ← HF.out], split_keep HS.out hlt HC.out⟩
        case measure => simp [intOf]; omega
      · have HC := Lib.hid (dig_47 _ hb)
        go_wp2_with (at_builtin; refine wpList_append_own _ rfl _ _ 54 rfl w.heap.size 9 i0 (.string ByteArray.empty) 1 16 Tryd.underlying54 hi hz0 hz1 hz2 rfl (by decide) _ _ _ rfl (HS.out.1.alloc _) ⟨wr.heap.size, 0, none⟩ 1 1 [.string (s.extract f k)] rfl rfl ?c1 ?c2 ?c3 ?c4 ?c5 ?_)
        case c1 =>
          intro j u hj
          match j, hj with
          | 0, hj => simp at hj; subst hj; simp [Addr.add]
        case c2 => intro u hu; simp at hu; subst hu; rfl
        case c3 => unfold maxLen; omega
        case c4 => omega
        case c5 => have := HS.out.2.size; simp; omega
        intro v' w1 hown' hgrow _
        have HO := Lib.hid hown'
        have HG := Lib.hid hgrow
        clear hown' hgrow
        go_wp2_with fail
        go_roundw
        case rel => exact ⟨k + 1, by omega, by go_num, by rw [(step_cut s.data.toList k hlt HC.out).2]; go_num, split_app HS.out (step_cut s.data.toList k hlt HC.out).1 (by rw [← HF.out]; have := HO.out; rw [ext_eq s f k hfk] at this; exact this) HG.out⟩
        case measure => simp [intOf]; omega
    · by_cases hek : k = s.size
      · subst hek
        have hfk : f ≤ s.size := by rw [HF.out]; exact frm_le _ _ (Nat.le_refl _)
        have hpl := pcs_len s.data.toList s.size (Nat.le_refl _)
        go_wp2_with (at_builtin; refine wpList_append_own _ rfl _ _ 54 rfl w.heap.size 9 i0 (.string ByteArray.empty) 1 16 Tryd.underlying54 hi hz0 hz1 hz2 rfl (by decide) _ _ _ rfl (HS.out.1.alloc _) ⟨wr.heap.size, 0, none⟩ 1 1 [.string (s.extract f s.size)] rfl rfl ?d1 ?d2 ?d3 ?d4 ?d5 ?_)
        case d1 =>
          intro j u hj
          match j, hj with
          | 0, hj => simp at hj; subst hj; simp [Addr.add]
        case d2 => intro u hu; simp at hu; subst hu; rfl
        case d3 => unfold maxLen; omega
        case d4 => omega
        case d5 => have := HS.out.2.size; simp; omega
        intro v' w1 hown' hgrow _
        have HO := Lib.hid hown'
        have HG := Lib.hid hgrow
        clear hown' hgrow
        go_wp2_with fail
        go_roundw
        case rel => exact ⟨s.size + 1, by omega, by go_num, by rw [show s.size = s.data.toList.length from rfl, (step_end s.data.toList).2]; go_num, split_app HS.out (step_end s.data.toList).1 (by rw [show frm s.data.toList s.data.toList.length = f from HF.out.symm]; have := HO.out; rw [ext_eq s f s.size hfk] at this; exact this) HG.out⟩
        case measure => simp [intOf]
      · obtain rfl : k = s.size + 1 := by omega
        go_wp2_with fail
        go_ret
        exact ⟨_, rfl, HS.out⟩
end Go.Proofs.YtohhjcnkbifdbaaDoor
