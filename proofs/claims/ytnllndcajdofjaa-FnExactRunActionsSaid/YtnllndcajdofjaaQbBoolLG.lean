/-
  Put together, what this law needs of: BoolL, TabPure, BetPure, SpecH, Tab, ImplTab.
-/
import Derived.Test.YtnllndcajdofjaaQbBaseG
import Derived.Deep.Grids
import Derived.Maps.AppendAt
import Derived.Deep.Fields
import Derived.Lib.SmallJoins
import Derived.Deep.RegionWith
namespace Go.Proofs.Ytnllndcajdofjaa
open Go.ChangeShapes Go.WideShapes Go.ChangeAt Go.RowKit Go.Joins Go.Deep
set_option linter.unusedVariables false

theorem take_snocB : ∀ (xs : List Bool) (k : Nat) (h : k < xs.length), xs.take (k + 1) = xs.take k ++ [xs[k]]
  | [], k, h => absurd h (Nat.not_lt_zero _)
  | x :: xs, 0, _ => rfl
  | x :: xs, k + 1, h => by
    show x :: xs.take (k + 1) = x :: (xs.take k ++ [xs[k]'(Nat.lt_of_succ_lt_succ h)])
    rw [take_snocB xs k (Nat.lt_of_succ_lt_succ h)]
/-- The i-th of a list of bools; false past its end. -/
def nthB (xs : List Bool) (i : Nat) : Bool := xs.getD i false
theorem nthB_eq (xs : List Bool) (i : Nat) (h : i < xs.length) : nthB xs i = xs[i] := by unfold nthB; rw [List.getD_eq_getElem?_getD, List.getElem?_eq_getElem h]; rfl
theorem take_nthB (xs : List Bool) (k : Nat) (h : k < xs.length) : xs.take (k + 1) = xs.take k ++ [nthB xs k] := by rw [nthB_eq xs k h]; exact take_snocB xs k h
/-- Numbers as values. -/
def bools (xs : List Bool) : List Value := xs.map (Value.bool)
theorem bools_length (xs : List Bool) : (bools xs).length = xs.length := by simp [bools]
theorem bools_append (xs ys : List Bool) : bools (xs ++ ys) = bools xs ++ bools ys := by simp [bools]
theorem bools_get (xs : List Bool) (i : Nat) (h : i < xs.length) : (bools xs)[i]? = some (.bool (nthB xs i)) := by simp [bools, h, nthB_eq xs i h]
theorem bools_set (xs : List Bool) (i : Nat) (x : Bool) : (bools xs).set i (.bool x) = bools (xs.set i x) := by simp [bools, List.map_set]
theorem bools_zeros (n : Nat) : List.replicate n (Value.bool false) = bools (List.replicate n false) := by simp [bools]

/-- A slice at A reads as the list. -/
def RdB (w : World) (A : Option Addr) (xs : List Bool) : Prop := 0 < xs.length → ∃ b off, A = some ⟨b, off, none⟩ ∧ ∀ i, i < xs.length → w.cell? ⟨b, off + i, none⟩ = some (.bool (nthB xs i))
theorem RdB.below {w w' : World} {A : Option Addr} {xs : List Bool} (h : RdB w A xs) (hb : Below w.heap.size w w') : RdB w' A xs := by
  intro h0
  obtain ⟨b, off, rfl, hc⟩ := h h0
  exact ⟨b, off, rfl, fun i hi => (hb.cell (p := ⟨b, off + i, none⟩) (World.block_lt_of_cell? w _ (hc i hi))).trans (hc i hi)⟩
theorem RdB.at_ {w w' : World} {A : Option Addr} {xs : List Bool} (h : RdB w A xs) (hb : Below w.heap.size w w') (k : Nat) (hk : k < xs.length) : ∃ b off, A = some ⟨b, off, none⟩ ∧ w'.cell? ⟨b, off + k, none⟩ = some (.bool (nthB xs k)) := by
  obtain ⟨b, off, rfl, hc⟩ := (h.below hb) (by omega)
  exact ⟨b, off, rfl, hc k hk⟩
/-- A row of numbers of the call's own: none of its blocks lies below lo. -/
def OwnB (w : World) (lo : Nat) (v : Value) (xs : List Bool) : Prop := w.ownsRow lo 4 1 v xs.length (bools xs)
theorem OwnB.lo_le {w : World} {lo : Nat} {A : Option Addr} {c n : Nat} {xs : List Bool} (h : OwnB w lo (.slice A n c) xs) (a : Addr) (e : A = some a) : lo ≤ a.block ∧ a.block < w.heap.size := by
  subst e
  exact World.ownsRow.lt h a.block rfl
theorem OwnB.below {w w' : World} {lo : Nat} {v : Value} {xs : List Bool} (h : OwnB w lo v xs) (hb : Below w.heap.size w w') : OwnB w' lo v xs := by
  refine ⟨h.1, ?_⟩
  rcases h.2 with hn | ⟨g, cap, cur, rfl, hl, hgg, rest⟩
  · exact .inl hn
  · exact .inr ⟨g, cap, cur, rfl, hl, (hb.block g (Array.getElem?_eq_some_iff.1 hgg).1).trans hgg, rest⟩
theorem OwnB.less {w : World} {lo lo' : Nat} {v : Value} {xs : List Bool} (h : OwnB w lo v xs) (hl : lo' ≤ lo) : OwnB w lo' v xs := by
  refine ⟨h.1, ?_⟩
  rcases h.2 with hn | ⟨g, cap, cur, rfl, hlo, rest⟩
  · exact .inl hn
  · exact .inr ⟨g, cap, cur, rfl, Nat.le_trans hl hlo, rest⟩
theorem OwnB.grown {w w' : World} {lo : Nat} {v : Value} {xs : List Bool} {row : Option Nat} (h : OwnB w lo v xs) (hg : w.grownBy w' row) (hne : v.ownBlock = none ∨ v.ownBlock ≠ row) : OwnB w' lo v xs := World.ownsRow.kept h hg hne
theorem OwnB.nil (w : World) (lo : Nat) : OwnB w lo (.slice none 0 0) [] := World.ownsRow_nil w lo 4 1
def NewLB (xs : List Bool) (w : World) (e : Ending) (w' : World) : Prop := ∃ A c, e = .returned (.slice A xs.length c) ∧ OwnB w' w.heap.size (.slice A xs.length c) xs ∧ Below w.heap.size w w'
set_option maxRecDepth 100000 in
theorem infoBoolL : (Try.prog.info? 4).map (fun i => (i.zero, i.size, i.bytes)) = some (some (.bool false), 1, 1) := by kernel_rfl
/-- A row of the call's own: its block does not lie below lo. -/
def RowB (w : World) (lo : Nat) (A : Option Addr) (xs : List Bool) : Prop :=
  (∀ a, A = some a → lo ≤ a.block ∧ a.block < w.heap.size) ∧
  (0 < xs.length → ∃ g off, A = some ⟨g, off, none⟩ ∧ ∀ i, i < xs.length → w.cell? ⟨g, off + i, none⟩ = some (.bool (nthB xs i)) ∧ w.frozen? ⟨g, off + i, none⟩ = false)
theorem RowB.rd {w : World} {lo : Nat} {A : Option Addr} {xs : List Bool} (h : RowB w lo A xs) : RdB w A xs := fun h0 => by
  obtain ⟨g, off, e, hc⟩ := h.2 h0
  exact ⟨g, off, e, fun i hi => (hc i hi).1⟩
theorem RowB.less {w : World} {lo lo' : Nat} {A : Option Addr} {xs : List Bool} (h : RowB w lo A xs) (hl : lo' ≤ lo) : RowB w lo' A xs :=
  ⟨fun a e => ⟨Nat.le_trans hl (h.1 a e).1, (h.1 a e).2⟩, h.2⟩
theorem RowB.grown {w w' : World} {lo : Nat} {A : Option Addr} {xs : List Bool} {row : Option Nat} (h : RowB w lo A xs) (hg : w.grownBy w' row) (hne : ∀ a, A = some a → some a.block ≠ row) : RowB w' lo A xs := by
  refine ⟨fun a e => ⟨(h.1 a e).1, Nat.lt_of_lt_of_le (h.1 a e).2 hg.size⟩, fun h0 => ?_⟩
  obtain ⟨g, off, rfl, hc⟩ := h.2 h0
  have hb := hg.block g (h.1 _ rfl).2 (hne _ rfl)
  exact ⟨g, off, rfl, fun i hi => ⟨(World.cell?_of_block (a := ⟨g, off + i, none⟩) hb).trans (hc i hi).1, (World.frozen?_of_block (a := ⟨g, off + i, none⟩) hb).trans (hc i hi).2⟩⟩
theorem RowB.below {w w' : World} {lo : Nat} {A : Option Addr} {xs : List Bool} (h : RowB w lo A xs) (hb : Below w.heap.size w w') : RowB w' lo A xs :=
  RowB.grown (row := none) h ⟨hb.os, hb.tape, hb.output, hb.size, fun k hk _ => hb.block k hk⟩ (fun _ _ => by simp)
theorem RowB.of_own {w : World} {lo : Nat} {A : Option Addr} {c : Nat} {xs : List Bool} (h : OwnB w lo (.slice A xs.length c) xs) : RowB w lo A xs := by
  refine ⟨fun a e => h.lo_le a e, fun h0 => ?_⟩
  rcases h.2 with ⟨_, hn⟩ | ⟨g, cap, cur, hv, _⟩
  · omega
  · injection hv with hA _ hc
    subst hA hc
    refine ⟨g, 0, rfl, fun i hi => ?_⟩
    rw [Nat.zero_add]
    exact ⟨by rw [World.ownsRow.cellAt h i (by omega), bools_get xs i hi], World.ownsRow.frozenAt h i⟩
/-- What a copying loop has written after k rounds. -/
def mixB (xs : List Bool) (k : Nat) : List Bool := xs.take k ++ List.replicate (xs.length - k) false
theorem mix_lengthB (xs : List Bool) (k : Nat) (h : k ≤ xs.length) : (mixB xs k).length = xs.length := by simp [mixB]; omega
theorem mix_zeroB (xs : List Bool) : mixB xs 0 = List.replicate xs.length false := by simp [mixB]
theorem mix_allB (xs : List Bool) : mixB xs xs.length = xs := by simp [mixB]
theorem mix_setB (xs : List Bool) (k : Nat) (h : k < xs.length) : (mixB xs k).set k (nthB xs k) = mixB xs (k + 1) := by
  have hl : (xs.take k).length = k := by rw [List.length_take]; omega
  unfold mixB
  rw [List.set_append_right _ _ (by omega), hl, Nat.sub_self, take_nthB xs k h, List.append_assoc]
  congr 1
  have : xs.length - k = (xs.length - (k + 1)) + 1 := by omega
  rw [this, List.replicate_succ]
  rfl
/-- The copying loop's state. -/
def CopiedB (w : World) (xs : List Bool) (k : Nat) (wr : World) : Prop :=
  wr.ownsRow w.heap.size 4 1 (.slice (some ⟨w.heap.size, 0, none⟩) xs.length xs.length) xs.length (bools (mixB xs k)) ∧ Below w.heap.size w wr
theorem copied_stepB {w wr : World} {xs : List Bool} {k : Nat} (h : CopiedB w xs k wr) (hk : k < xs.length) (n : Nat) :
    CopiedB w xs (k + 1) ((wr.drewN n).setCell ⟨w.heap.size, k, none⟩ (.bool (nthB xs k))) := by
  have h1 : (wr.drewN n).ownsRow w.heap.size 4 1 (.slice (some ⟨w.heap.size, 0, none⟩) xs.length xs.length) xs.length (bools (mixB xs k)) := h.1
  refine ⟨?_, (bl_drewN h.2 n).setCell (Nat.le_refl _) _⟩
  have := (h1.stored k (.bool (nthB xs k))).1
  rwa [bools_set, mix_setB xs k hk] at this
theorem copied_cellB {w wr : World} {xs : List Bool} {k : Nat} (h : CopiedB w xs k wr) (hk : k < xs.length) :
    wr.cell? ⟨w.heap.size, k, none⟩ = some (.bool (nthB (mixB xs k) k)) ∧ wr.frozen? ⟨w.heap.size, k, none⟩ = false := by
  refine ⟨?_, h.1.frozenAt k⟩
  rw [h.1.cellAt k (by omega), bools_get _ _ (by rw [mix_lengthB xs k (by omega)]; exact hk)]

set_option maxRecDepth 100000 in
set_option maxHeartbeats 1000000 in
theorem toBools_any (A : Option Addr) (c : Nat) (xs : List Bool) (w : World) (hr : RdB w A xs) (hn : xs.length ≤ 1048576) :
    Calls Try.prog 126 #[.slice A xs.length c] w (NewLB xs w) := by
  obtain ⟨i0, hi, hz0, hz1, hz2⟩ := info_parts infoBoolL
  have HR := Lib.hid hr
  clear hr
  obtain ⟨w0, rfl⟩ : ∃ w0 : World, w0 = w := ⟨w, rfl⟩
  go_enter Try.func126, Try.ntmps126
  go_wp2_with (at_make; refine wpList_make_full _ rfl _ _ 25 rfl w0.heap.size 4 i0 (.bool false) 1 Try.underlying25 hi hz0 hz1 .i64 .i64 _ _ xs.length rfl rfl rfl rfl ?c1 ?c2 (Nat.le_refl _) ?_)
  case c1 => rw [hz2]; omega
  case c2 => unfold maxLen; omega
  intro w1 hown hgrow
  have HS : Hid (CopiedB w0 xs 0 w1) := Lib.hid ⟨by
    have e : (madeCells #[Value.bool false] xs.length).toList = bools (mixB xs 0) := by
      rw [mix_zeroB, ← bools_zeros]; exact toList_madeCells_one _ _
    rwa [e] at hown, (bl_refl _).grown hgrow (Nat.le_refl _) (fun j hj => by cases hj)⟩
  clear hown hgrow
  go_wp2_with fail
  go_loopw [4] (fun i wr => ∃ k : Nat, k ≤ xs.length ∧ i = .int .i64 k ∧ Hid (CopiedB w0 xs k wr)) (fun i _ => xs.length - (intOf i).toNat)
  case atStart => exact ⟨0, Nat.zero_le _, rfl, HS⟩
  case round =>
    obtain ⟨k, hk, rfl, hs⟩ := hrel
    by_cases hlt : k < xs.length
    · obtain ⟨b, off, rfl, hc⟩ := HR.out.at_ hs.out.2 k hlt
      obtain ⟨hg, hf⟩ := copied_cellB hs.out hlt
      have hlt' : (k : Int) < xs.length := by omega
      go_wp2_with fail
      go_roundw
      case rel => exact ⟨k + 1, by omega, by go_num, Lib.hid (copied_stepB hs.out hlt 0)⟩
      case measure => simp [intOf]; omega
    · obtain rfl : k = xs.length := by omega
      go_wp2_with fail
      go_ret
      have h := hs.out
      unfold CopiedB at h
      rw [mix_allB] at h
      exact ⟨_, _, rfl, h.1, h.2⟩
set_option maxRecDepth 100000 in
set_option maxHeartbeats 1000000 in
/-- Two lists that read alike are found alike. -/
theorem eqBools_same (A B : Option Addr) (c d : Nat) (xs : List Bool) (w : World) (hr : RdB w A xs) (hq : RdB w B xs) (hn : xs.length ≤ 4000000) :
    Calls Try.prog 120 #[.slice A xs.length c, .slice B xs.length d] w (Fresh (.bool true) w) := by
  have HR := Lib.hid hr
  have HQ := Lib.hid hq
  clear hr hq
  obtain ⟨w0, rfl⟩ : ∃ w0 : World, w0 = w := ⟨w, rfl⟩
  go_enter Try.func120, Try.ntmps120
  go_wp2_with fail
  go_loopw [5] (fun i wr => ∃ k : Nat, k ≤ xs.length ∧ i = .int .i64 k ∧ Hid (Below w0.heap.size w0 wr)) (fun i _ => xs.length - (intOf i).toNat)
  case atStart => exact ⟨0, Nat.zero_le _, rfl, Lib.hid (bl_refl _)⟩
  case round =>
    obtain ⟨k, hk, rfl, hs⟩ := hrel
    by_cases hlt : k < xs.length
    · obtain ⟨b, off, rfl, hc⟩ := HR.out.at_ hs.out k hlt
      obtain ⟨b', off', rfl, hc'⟩ := HQ.out.at_ hs.out k hlt
      have hlt' : (k : Int) < xs.length := by omega
      go_wp2_with fail
      go_quiet (fail)
      go_wp2_with fail
      go_roundw
      case rel => exact ⟨k + 1, by omega, by go_num, Lib.hid (bl_drewN hs.out _)⟩
      case measure => simp [intOf]; omega
    · obtain rfl : k = xs.length := by omega
      go_wp2_with fail
      go_ret
      exact ⟨rfl, hs.out⟩

/-- The marks of bools: k0, k0 + 1, .. that three divides. -/
def mk3 (k : Int) : Bool := k % 3 == 0
def marksB (k0 : Int) (n : Nat) : List Bool := (List.range n).map (fun i : Nat => mk3 (k0 + i))
theorem marksB_length (k0 : Int) (n : Nat) : (marksB k0 n).length = n := by simp [marksB]
theorem marksB_nth (k0 : Int) (n i : Nat) (h : i < n) : nthB (marksB k0 n) i = mk3 (k0 + i) := by rw [nthB_eq _ _ (by rw [marksB_length]; exact h)]; simp [marksB]
/-- What a marking loop has written after k rounds. -/
def markedB (k0 : Int) (xs : List Bool) (k : Nat) : List Bool := marksB k0 k ++ xs.drop k
theorem marked_lengthB (k0 : Int) (xs : List Bool) (k : Nat) (h : k ≤ xs.length) : (markedB k0 xs k).length = xs.length := by simp [markedB, marksB_length]; omega
theorem marked_zeroB (k0 : Int) (xs : List Bool) : markedB k0 xs 0 = xs := by simp [markedB, marksB]
theorem marked_allB (k0 : Int) (xs : List Bool) : markedB k0 xs xs.length = marksB k0 xs.length := by simp [markedB]
theorem marked_setB (k0 : Int) (xs : List Bool) (k : Nat) (h : k < xs.length) : (markedB k0 xs k).set k (mk3 (k0 + k)) = markedB k0 xs (k + 1) := by
  unfold markedB
  have e : marksB k0 (k + 1) = marksB k0 k ++ [mk3 (k0 + k)] := by simp [marksB, List.range_succ]
  rw [List.set_append_right _ _ (by rw [marksB_length]; exact Nat.le_refl _), marksB_length, Nat.sub_self, e, List.append_assoc, List.drop_eq_getElem_cons h]
  rfl
theorem nthB_set_same (xs : List Bool) (k : Nat) (x : Bool) (h : k < xs.length) : nthB (xs.set k x) k = x := by
  rw [nthB_eq _ _ (by rw [List.length_set]; exact h)]; simp
theorem nthB_set_other (xs : List Bool) (k i : Nat) (x : Bool) (h : k ≠ i) : nthB (xs.set k x) i = nthB xs i := by
  unfold nthB; rw [List.getD_eq_getElem?_getD, List.getD_eq_getElem?_getD, List.getElem?_set_ne h]
/-- The marking loop's state. -/
def MarkedRB (w : World) (lo : Nat) (k0 : Int) (A : Option Addr) (c : Nat) (xs : List Bool) (k : Nat) (wr : World) : Prop :=
  RowB wr lo A (markedB k0 xs k) ∧ w.grownBy wr (Value.slice A xs.length c).ownBlock
theorem markedR_stepB {w wr : World} {lo g off : Nat} {k0 : Int} {c : Nat} {xs : List Bool} {k : Nat} (h : MarkedRB w lo k0 (some ⟨g, off, none⟩) c xs k wr) (hk : k < xs.length) :
    MarkedRB w lo k0 (some ⟨g, off, none⟩) c xs (k + 1) (wr.setCell ⟨g, off + k, none⟩ (.bool (mk3 (k0 + k)))) := by
  have hl := marked_lengthB k0 xs k (by omega)
  obtain ⟨hr, hg⟩ := h
  have hlt := (hr.1 _ rfl)
  refine ⟨⟨fun a e => ?_, fun h0 => ⟨g, off, rfl, fun i hi => ?_⟩⟩, World.grownBy.trans hg ⟨rfl, rfl, rfl, by simp [World.setCell], fun j hj hne => Below.heap_setCell wr ⟨g, off + k, none⟩ _ j (fun e => hne (by rw [e]; rfl))⟩⟩
  · obtain ⟨h1, h2⟩ := hr.1 a e
    exact ⟨h1, by simpa [World.setCell] using h2⟩
  · rw [← marked_setB k0 xs k hk] at hi ⊢
    rw [List.length_set, hl] at hi
    obtain ⟨g', off', e, hc⟩ := hr.2 (by omega)
    injection e with e
    injection e with e1 e2
    subst e1 e2
    have hci := hc i (by omega)
    have hck := hc k (by omega)
    refine ⟨?_, by simp [go_sem, hci.2]⟩
    by_cases e : k = i
    · subst e
      rw [nthB_set_same _ _ _ (by omega)]
      exact World.cell?_setCell_same wr _ _ hck.1
    · rw [nthB_set_other _ _ _ _ e, World.cell?_setCell_other wr _ _ _ (by intro q; injection q with _ q; omega)]
      exact hci.1
theorem markedR_atB {w wr : World} {lo : Nat} {k0 : Int} {A : Option Addr} {c : Nat} {xs : List Bool} {k : Nat} (h : MarkedRB w lo k0 A c xs k wr) (hk : k < xs.length) :
    ∃ g off, A = some ⟨g, off, none⟩ ∧ wr.cell? ⟨g, off + k, none⟩ = some (.bool (nthB (markedB k0 xs k) k)) ∧ wr.frozen? ⟨g, off + k, none⟩ = false := by
  have hl := marked_lengthB k0 xs k (by omega)
  obtain ⟨g, off, e, hc⟩ := h.1.2 (by omega)
  exact ⟨g, off, e, hc k (by omega)⟩
/-- What marking leaves. -/
def MarkPostRB (w : World) (lo : Nat) (k0 : Int) (A : Option Addr) (c : Nat) (n : Nat) (e : Ending) (w' : World) : Prop :=
  e = .returned (.int .i64 (k0 + n)) ∧ RowB w' lo A (marksB k0 n) ∧ w.grownBy w' (Value.slice A n c).ownBlock

set_option maxRecDepth 100000 in
set_option maxHeartbeats 1000000 in
theorem markRow_anyB (A : Option Addr) (c lo : Nat) (xs : List Bool) (k0 : Int) (w : World) (h : RowB w lo A xs) (hn : xs.length ≤ 4000000) (h0 : 0 ≤ k0) (h1 : k0 ≤ 100000000) :
    Calls Try.prog 122 #[.slice A xs.length c, .int .i64 k0] w (MarkPostRB w lo k0 A c xs.length) := by
  have HS : Hid (MarkedRB w lo k0 A c xs 0 w) := Lib.hid ⟨by rw [marked_zeroB]; exact h, World.grownBy.refl w _⟩
  clear h
  obtain ⟨w0, rfl⟩ : ∃ w0 : World, w0 = w := ⟨w, rfl⟩
  go_enter Try.func122, Try.ntmps122
  go_wp2_with fail
  go_loopw [1, 5] (fun q i wr => ∃ k : Nat, k ≤ xs.length ∧ i = .int .i64 k ∧ q = .int .i64 (k0 + k) ∧ Hid (MarkedRB w0 lo k0 A c xs k wr)) (fun _ i _ => xs.length - (intOf i).toNat)
  case atStart => exact ⟨0, Nat.zero_le _, rfl, by go_num, HS⟩
  case round =>
    obtain ⟨k, hk, rfl, rfl, hs⟩ := hrel
    by_cases hlt : k < xs.length
    · obtain ⟨g, off, rfl, hc, hf⟩ := markedR_atB hs.out hlt
      have hlt' : (k : Int) < xs.length := by omega
      go_wp2_with fail
      go_roundw
      case rel => exact ⟨k + 1, by omega, by go_num, by go_num, Lib.hid (markedR_stepB hs.out hlt)⟩
      case measure => simp [intOf]; omega
    · obtain rfl : k = xs.length := by omega
      go_wp2_with fail
      go_ret
      have h := hs.out
      unfold MarkedRB at h
      rw [marked_allB] at h
      exact ⟨rfl, h.1, h.2⟩

set_option maxRecDepth 100000 in
set_option maxHeartbeats 1000000 in
theorem held_anyB (A : Option Addr) (c : Nat) (k0 : Int) (n : Nat) (w : World) (h : RdB w A (marksB k0 n)) (hn : n ≤ 4000000) (h0 : 0 ≤ k0) (h1 : k0 ≤ 100000000) :
    Calls Try.prog 124 #[.slice A n c, .int .i64 k0] w (Same (.int .i64 (k0 + n)) w) := by
  have HR := Lib.hid h
  clear h
  go_enter Try.func124, Try.ntmps124
  go_wp2_with fail
  go_loop [1, 5] (fun q i => ∃ k : Nat, k ≤ n ∧ i = .int .i64 k ∧ q = .int .i64 (k0 + k)) (fun _ i => n - (intOf i).toNat)
  case atStart => exact ⟨0, Nat.zero_le _, rfl, by go_num⟩
  case round =>
    obtain ⟨k, hk, rfl, rfl⟩ := hrel
    by_cases hlt : k < n
    · obtain ⟨b, off, rfl, hc⟩ := HR.out.at_ (bl_refl _) k (by rw [marksB_length]; exact hlt)
      rw [marksB_nth k0 n k hlt] at hc
      unfold mk3 at hc
      have hlt' : (k : Int) < n := by omega
      go_wp2_with fail
      go_round
      case rel => exact ⟨k + 1, by omega, by go_num, by go_num⟩
      case measure => simp [intOf]; omega
    · obtain rfl : k = n := by omega
      go_wp2_with fail
      go_ret
      exact ⟨rfl, rfl⟩

set_option maxRecDepth 100000 in
set_option maxHeartbeats 400000 in
theorem szBools_any (A : Option Addr) (n c : Nat) (q : Int) (w : World) (h0 : 0 ≤ q) (h1 : q ≤ 2000000) (hn : n ≤ 9223372036854775807) :
    Calls Try.prog 125 #[.slice A n c, .int .i64 q] w (Same (.int .i64 (if q - n < 0 then -1 else q - n)) w) := by
  by_cases hq : q - n < 0
  · rw [if_pos hq]
    go_enter Try.func125, Try.ntmps125
    go_wp2_with fail
    go_ret
    exact ⟨rfl, rfl⟩
  · rw [if_neg hq]
    go_enter Try.func125, Try.ntmps125
    go_wp2_with fail
    go_ret
    exact ⟨rfl, rfl⟩
/-- A list of bools in a law's argument. -/
theorem bools_of {H : Type} {enc : TypeId × Value → H} {W : World} {cs : List Value} {fuel : Nat} {x : DataW H × List MemPlace} {v : Value} (hv : cs = [v])
    (h : DataW.trod enc Try.prog W 0 (fun _ => true) true fuel 25 cs = some x) :
    ∃ (A : Option Addr) (c : Nat) (xs : List Bool), v = .slice A xs.length c ∧ xs.length ≤ maxLen ∧ RdB W A xs := by
  rcases open_bools Try.underlying25 Try.underlying4 (by kernel_rfl) h with ⟨hcs, hx⟩ | ⟨a, len, cap, B, hcs, _, hl, hm, hx, hcell⟩
  · rw [hv] at hcs
    obtain rfl : v = _ := by simpa using hcs
    exact ⟨none, 0, [], rfl, by unfold maxLen; simp, fun h => by simp at h⟩
  · rw [hv] at hcs
    obtain rfl : v = _ := by simpa using hcs
    have hlen : ((List.range len).map B).length = len := by simp
    refine ⟨some a, cap, (List.range len).map B, by rw [hlen], by rw [hlen]; omega, fun h0 => ?_⟩
    rw [hlen] at h0
    obtain ⟨b, off, spot⟩ := a
    have hspot : spot = none := by simpa [Addr.add] using World.cell?_spot (hcell 0 (by omega))
    subst hspot
    refine ⟨b, off, rfl, fun i hi => ?_⟩
    rw [hlen] at hi
    rw [nthB_eq _ _ (by rw [hlen]; exact hi)]
    have := hcell i (by omega)
    rw [Go.WideShapes.add_plain] at this
    simpa using this
theorem ints_of {H : Type} {enc : TypeId × Value → H} {W : World} {cs : List Value} {fuel : Nat} {x : DataW H × List MemPlace} {v : Value} (hv : cs = [v])
    (h : DataW.trod enc Try.prog W 0 (fun _ => true) true fuel 24 cs = some x) :
    ∃ (A : Option Addr) (c : Nat) (xs : List Int), v = .slice A xs.length c ∧ xs.length ≤ maxLen ∧ Rd W A xs := by
  rcases open_ints Try.underlying24 Try.underlying2 (by kernel_rfl) h with ⟨hcs, hx⟩ | ⟨a, len', cap', zs, hcs, _, hl, hm, hz, hx, hcell, hwz⟩
  · rw [hv] at hcs
    obtain rfl : v = _ := by simpa using hcs
    exact ⟨none, 0, [], rfl, by unfold maxLen; simp, fun h => by simp at h⟩
  · rw [hv] at hcs
    obtain rfl : v = _ := by simpa using hcs
    have hlen : len' ≤ zs.length := by rw [hz]; simp; exact hl
    have ht : (zs.take len').length = len' := by rw [List.length_take]; omega
    refine ⟨some a, cap', zs.take len', by rw [ht], by rw [ht]; omega, fun h0 => ?_⟩
    rw [ht] at h0
    obtain ⟨b, off, rfl, hc⟩ := ints_at hcell (by omega)
    refine ⟨b, off, rfl, fun i hi => ?_⟩
    rw [ht] at hi
    rw [hc i (by omega)]
    congr 2
    unfold nth
    rw [List.getD_eq_getElem?_getD, List.getD_eq_getElem?_getD, List.getElem?_take, if_pos hi]
end Go.Proofs.Ytnllndcajdofjaa

namespace Go.Proofs.Ytnllndcajdofjaa
open Go.RowKit
set_option linter.unusedVariables false

/-- The seat left of a seat. -/
def leftI (s n : Int) : Int := (s + 1) % n
theorem left_bd (s n : Int) (h : 0 < n) : 0 ≤ leftI s n ∧ leftI s n < n := ⟨Int.emod_nonneg _ (by omega), Int.emod_lt_of_pos _ h⟩
/-- The smaller one of two. -/
def minT (a b : Int) : Int := if b < a then b else a
theorem minT_le (a b : Int) : minT a b ≤ a ∧ minT a b ≤ b ∧ (minT a b = a ∨ minT a b = b) := by unfold minT; split <;> omega
theorem minT_lt (a b : Int) (h : b < a) : minT a b = b := if_pos h
theorem minT_ge (a b : Int) (h : ¬ b < a) : minT a b = a := if_neg h
/-- The k-th seat from a seat on. -/
def seatAt (n s : Int) (k : Nat) : Int := (s + k) % n
theorem seatAt_zero (n s : Int) (h0 : 0 ≤ s) (h : s < n) : seatAt n s 0 = s := by unfold seatAt; simpa using Int.emod_eq_of_lt h0 h
theorem seatAt_bd (n s : Int) (k : Nat) (h : 0 < n) : 0 ≤ seatAt n s k ∧ seatAt n s k < n := ⟨Int.emod_nonneg _ (by omega), Int.emod_lt_of_pos _ h⟩
theorem seatAt_next (n s : Int) (k : Nat) : leftI (seatAt n s k) n = seatAt n s (k + 1) := by
  unfold leftI seatAt
  rw [Int.emod_add_emod]
  congr 1
  omega
/-- The sum of the first k numbers. -/
def sumT (xs : List Int) : Nat → Int
  | 0 => 0
  | k + 1 => sumT xs k + nth xs k
end Go.Proofs.Ytnllndcajdofjaa

namespace Go.Proofs.Ytnllndcajdofjaa
open Go.RowKit
set_option linter.unusedVariables false

/-- A betting round. -/
structure Bt where
  st : List Int
  bt : List Int
  pd : List Int
  fo : List Bool
  ac : List Bool
  tu : Int
  un : Int
  ra : Int
  li : Int
/-- Where its lists lie. -/
structure At5 where
  a1 : Option Addr
  a2 : Option Addr
  a3 : Option Addr
  a4 : Option Addr
  a5 : Option Addr
  c1 : Nat
  c2 : Nat
  c3 : Nat
  c4 : Nat
  c5 : Nat
abbrev btL (L : At5) (b : Bt) : List Value := [.slice L.a1 b.st.length L.c1, .slice L.a2 b.bt.length L.c2, .slice L.a3 b.pd.length L.c3, .slice L.a4 b.fo.length L.c4, .slice L.a5 b.ac.length L.c5, .int .i64 b.tu, .int .i64 b.un, .int .i64 b.ra, .int .i64 b.li]
def bV (L : At5) (b : Bt) : Value := .agg #[.slice L.a1 b.st.length L.c1, .slice L.a2 b.bt.length L.c2, .slice L.a3 b.pd.length L.c3, .slice L.a4 b.fo.length L.c4, .slice L.a5 b.ac.length L.c5, .int .i64 b.tu, .int .i64 b.un, .int .i64 b.ra, .int .i64 b.li]
/-- Its lists read so. -/
structure Rd5 (w : World) (L : At5) (b : Bt) : Prop where
  r1 : Rd w L.a1 b.st
  r2 : Rd w L.a2 b.bt
  r3 : Rd w L.a3 b.pd
  r4 : RdB w L.a4 b.fo
  r5 : RdB w L.a5 b.ac
theorem Rd5.below {w w' : World} {L : At5} {b : Bt} (h : Rd5 w L b) (hb : Below w.heap.size w w') : Rd5 w' L b := ⟨h.r1.below hb, h.r2.below hb, h.r3.below hb, h.r4.below hb, h.r5.below hb⟩

/-- All chips of a round. -/
def potI (b : Bt) : Int := sumT b.bt b.bt.length + sumT b.pd b.pd.length
def allI (b : Bt) : Int := sumT b.st b.st.length + potI b
def inC (xs : List Int) : Prop := ∀ i, i < xs.length → 0 ≤ nth xs i ∧ nth xs i ≤ 600000
/-- A valid round. -/
structure Ok (b : Bt) : Prop where
  n2 : 2 ≤ b.st.length
  n6 : b.st.length ≤ 6
  t0 : 0 ≤ b.tu
  t1 : b.tu < b.st.length
  l2 : b.bt.length = b.st.length
  l3 : b.pd.length = b.st.length
  l4 : b.fo.length = b.st.length
  l5 : b.ac.length = b.st.length
  live : ∃ i, i < b.st.length ∧ nthB b.fo i = false
  s1 : inC b.st
  s2 : inC b.bt
  s3 : inC b.pd
  sum : allI b ≤ 600000
  u0 : 1 ≤ b.un
  u1 : b.un ≤ 100000
  r0 : 0 ≤ b.ra
  r1 : b.ra ≤ 4
  i0 : 0 ≤ b.li
  i1 : b.li ≤ 2
noncomputable def okB (b : Bt) : Bool := @decide (Ok b) (Classical.propDecidable _)
theorem ok_yes {b : Bt} (h : Ok b) : okB b = true := by unfold okB; simpa using h
theorem ok_no {b : Bt} (h : ¬ Ok b) : okB b = false := by unfold okB; simpa using h
theorem ok_of {b : Bt} (h : okB b = true) : Ok b := by unfold okB at h; simpa using h
theorem sumT_bdC (xs : List Int) (h : inC xs) : ∀ k, k ≤ xs.length → 0 ≤ sumT xs k ∧ sumT xs k ≤ k * 600000
  | 0, _ => ⟨Int.le_refl _, by simp [sumT]⟩
  | k + 1, hk => by
    have ih := sumT_bdC xs h k (by omega)
    have hb := h k (by omega)
    unfold sumT
    omega
theorem sumT_mono (xs : List Int) (h : inC xs) : ∀ k j, j ≤ k → k ≤ xs.length → sumT xs j ≤ sumT xs k
  | 0, j, hj, _ => by obtain rfl : j = 0 := by omega
                      exact Int.le_refl _
  | k + 1, j, hj, hk => by
    by_cases e : j = k + 1
    · subst e; exact Int.le_refl _
    · have h1 := sumT_mono xs h k j (by omega) (by omega)
      have hb := h k (by omega)
      have e1 : sumT xs (k + 1) = sumT xs k + nth xs k := rfl
      omega
theorem nth_le_sum (xs : List Int) (h : inC xs) (i : Nat) (hi : i < xs.length) : nth xs i ≤ sumT xs xs.length := by
  have h1 := sumT_mono xs h xs.length (i + 1) (by omega) (by omega)
  have h2 := sumT_bdC xs h i (by omega)
  have e1 : sumT xs (i + 1) = sumT xs i + nth xs i := rfl
  omega

/-- A seat can act. -/
def canB (b : Bt) (i : Nat) : Bool := !nthB b.fo i && decide (0 < nth b.st i)
/-- How many of the first k can act. -/
def cntK (b : Bt) : Nat → Int
  | 0 => 0
  | k + 1 => cntK b k + (if canB b k = true then 1 else 0)
theorem cntK_bd (b : Bt) : ∀ k, 0 ≤ cntK b k ∧ cntK b k ≤ k
  | 0 => ⟨Int.le_refl _, by simp [cntK]⟩
  | k + 1 => by
    have := cntK_bd b k
    unfold cntK
    split <;> omega
def cntI (b : Bt) : Int := cntK b b.st.length
/-- The greatest of the first k, and 0. -/
def maxK (xs : List Int) : Nat → Int
  | 0 => 0
  | k + 1 => if maxK xs k < nth xs k then nth xs k else maxK xs k
theorem maxK_ge (xs : List Int) : ∀ k i, i < k → nth xs i ≤ maxK xs k
  | 0, i, h => by omega
  | k + 1, i, h => by
    unfold maxK
    by_cases e : i = k
    · subst e; split <;> omega
    · have := maxK_ge xs k i (by omega)
      split <;> omega
theorem maxK_bd (xs : List Int) (h : inC xs) : ∀ k, k ≤ xs.length → 0 ≤ maxK xs k ∧ maxK xs k ≤ 600000
  | 0, _ => by simp [maxK]
  | k + 1, hk => by
    have := maxK_bd xs h k (by omega)
    have := h k (by omega)
    unfold maxK
    split <;> omega
/-- The bet to match. -/
def topI (b : Bt) : Int := maxK b.bt b.bt.length
/-- Another seat can act. -/
def anoB (b : Bt) (i : Nat) : Bool := !decide (∀ j, j < b.st.length → j ≠ i → canB b j = false)
theorem ano_yes {b : Bt} {i : Nat} (j : Nat) (hj : j < b.st.length) (hne : j ≠ i) (h : canB b j = true) : anoB b i = true := by
  unfold anoB
  rw [decide_eq_false (fun q => by have := q j hj hne; rw [h] at this; cases this)]
  rfl
theorem ano_no {b : Bt} {i : Nat} (h : ∀ j, j < b.st.length → j ≠ i → canB b j = false) : anoB b i = false := by
  unfold anoB
  rw [decide_eq_true h]
  rfl
theorem cntK_one (b : Bt) (i : Nat) (hc : canB b i = true) (h : ∀ j, j < b.st.length → j ≠ i → canB b j = false) : ∀ k, k ≤ b.st.length → cntK b k = if i < k then 1 else 0
  | 0, _ => by simp [cntK]
  | k + 1, hk => by
    have ih := cntK_one b i hc h k (by omega)
    unfold cntK
    rw [ih]
    by_cases e : k = i
    · subst e; rw [hc]; simp
    · rw [h k (by omega) e]
      have : (i < k) ↔ (i < k + 1) := by omega
      simp [this]
theorem cntK_mono (b : Bt) : ∀ k j, j ≤ k → cntK b j ≤ cntK b k
  | 0, j, hj => by obtain rfl : j = 0 := by omega
                   exact Int.le_refl _
  | k + 1, j, hj => by
    by_cases e : j = k + 1
    · subst e; exact Int.le_refl _
    · have h1 := cntK_mono b k j (by omega)
      have e1 : cntK b (k + 1) = cntK b k + (if canB b k = true then 1 else 0) := rfl
      rw [e1]
      split <;> omega
theorem cntK_two (b : Bt) (i j : Nat) (hij : i < j) (hi : canB b i = true) (hj : canB b j = true) (k : Nat) (hk : j < k) : 2 ≤ cntK b k := by
  have h1 := cntK_mono b k (j + 1) (by omega)
  have h2 := cntK_mono b j (i + 1) (by omega)
  have h3 := (cntK_bd b i).1
  have e1 : cntK b (j + 1) = cntK b j + 1 := by show cntK b j + _ = _; rw [hj]; rfl
  have e2 : cntK b (i + 1) = cntK b i + 1 := by show cntK b i + _ = _; rw [hi]; rfl
  omega
theorem ano_cnt (b : Bt) (i : Nat) (hi : i < b.st.length) (hc : canB b i = true) : anoB b i = decide (1 < cntI b) := by
  rcases ha : anoB b i with _ | _
  · have h : ∀ j, j < b.st.length → j ≠ i → canB b j = false := by
      unfold anoB at ha
      simpa using ha
    have := cntK_one b i hc h b.st.length (Nat.le_refl _)
    rw [if_pos hi] at this
    unfold cntI
    rw [this]; rfl
  · obtain ⟨j, hj, hne, hcj⟩ : ∃ j, j < b.st.length ∧ j ≠ i ∧ canB b j = true := by
      refine Classical.byContradiction fun q => ?_
      rw [ano_no (fun j hj hne => by
        rcases hh : canB b j with _ | _
        · rfl
        · exact absurd ⟨j, hj, hne, hh⟩ q)] at ha
      cases ha
    have : 2 ≤ cntI b := by
      unfold cntI
      rcases Nat.lt_or_gt_of_ne hne with h | h
      · exact cntK_two b j i h hcj hc _ hi
      · exact cntK_two b i j h hc hcj _ hj
    exact (decide_eq_true (by omega)).symm
/-- A seat has to act. -/
def mustB (b : Bt) (i : Nat) : Bool := canB b i && (decide (nth b.bt i < topI b) || (!nthB b.ac i && anoB b i))
def openB (b : Bt) : Bool := mustB b b.tu.toNat
noncomputable def codeB (b : Bt) : Int := if okB b = true then (if openB b = true then 0 else 5) else 1
theorem codeB_no {b : Bt} (h : okB b = false) : codeB b = 1 := by unfold codeB; rw [h]; rfl
theorem codeB_shut {b : Bt} (h : okB b = true) (h2 : openB b = false) : codeB b = 5 := by unfold codeB; rw [h, h2]; rfl
theorem codeB_open {b : Bt} (h : okB b = true) (h2 : openB b = true) : codeB b = 0 := by unfold codeB; rw [h, h2]; rfl

/-- The choices. -/
def missI (b : Bt) : Int := topI b - nth b.bt b.tu.toNat
def callI (b : Bt) : Int := minT (missI b) (nth b.st b.tu.toNat)
def mayB (b : Bt) : Bool := !nthB b.ac b.tu.toNat && decide (missI b < nth b.st b.tu.toNat) && anoB b b.tu.toNat && (!(b.li == 2) || decide (b.ra < 4))
def allIn (b : Bt) : Int := nth b.bt b.tu.toNat + nth b.st b.tu.toNat
def mostR (b : Bt) : Int := if b.li = 1 then minT (allIn b) (topI b + potI b + missI b) else if b.li = 2 then minT (allIn b) (topI b + b.un) else allIn b
def mostI (b : Bt) : Int := if mayB b = true then mostR b else 0
def leastI (b : Bt) : Int := if mayB b = true then minT (mostR b) (topI b + b.un) else 0
def checkB (b : Bt) : Bool := missI b == 0
def chV (c : Bool) (k l m : Int) : Value := .agg #[.bool c, .int .i64 k, .int .i64 l, .int .i64 m]
/-- An action is one of the choices. -/
def legB (b : Bt) (k x : Int) : Bool :=
  if k = 0 then x == 0 else if k = 1 then x == 0 && checkB b else if k = 2 then x == 0 && decide (0 < callI b) else if k = 3 then decide (0 < mostI b) && decide (leastI b ≤ x) && decide (x ≤ mostI b) else false
/-- The next seat that has to act. -/
def hopN (b : Bt) : Nat := (List.range b.st.length).findIdx (fun k => mustB b (seatAt b.st.length (leftI b.tu b.st.length) k).toNat)
def nxtI (b : Bt) : Int := if hopN b < b.st.length then seatAt b.st.length (leftI b.tu b.st.length) (hopN b) else b.tu
theorem hopN_before (b : Bt) (k : Nat) (h : k < hopN b) (hk : k < b.st.length) : mustB b (seatAt b.st.length (leftI b.tu b.st.length) k).toNat = false := by
  have := List.not_of_lt_findIdx h
  simpa using this
theorem hopN_at (b : Bt) (h : hopN b < b.st.length) : mustB b (seatAt b.st.length (leftI b.tu b.st.length) (hopN b)).toNat = true := by
  have := List.findIdx_getElem (p := fun k => mustB b (seatAt b.st.length (leftI b.tu b.st.length) k).toNat) (xs := List.range b.st.length) (w := by rw [List.length_range]; exact h)
  simpa [hopN] using this
/-- The round behind an action, its turn where it was; then with the next turn. -/
def setAc (b : Bt) : Bt := { b with ac := b.ac.set b.tu.toNat true }
def more (b : Bt) (d : Int) : Bt := { b with st := b.st.set b.tu.toNat (nth b.st b.tu.toNat - d), bt := b.bt.set b.tu.toNat (nth b.bt b.tu.toNat + d) }
def foldB (b : Bt) : Bt := { b with fo := b.fo.set b.tu.toNat true }
def fullB (b : Bt) (x : Int) : Bool := decide (b.un ≤ x - topI b)
def raiseB (b : Bt) (x : Int) : Bt :=
  let c := more b (x - nth b.bt b.tu.toNat)
  { c with ra := minT (b.ra + 1) 4, un := if fullB b x = true then x - topI b else b.un, ac := if fullB b x = true then List.replicate b.ac.length false else b.ac }
def actB (b : Bt) (k x : Int) : Bt := if k = 0 then foldB b else if k = 1 then b else if k = 2 then more b (callI b) else raiseB b x
def turnB (b : Bt) : Bt := { b with tu := nxtI b }
def appB (b : Bt) (k x : Int) : Bt := turnB (setAc (actB b k x))
end Go.Proofs.Ytnllndcajdofjaa


/-! The model's straights and digits. -/
namespace Go.Proofs.Ytnllndcajdofjaa
open Go.RowKit
set_option linter.unusedVariables false

end Go.Proofs.Ytnllndcajdofjaa

/-! Ranks of cards: below 13, each at most four times. -/
namespace Go.Proofs.Ytnllndcajdofjaa
set_option linter.unusedVariables false

end Go.Proofs.Ytnllndcajdofjaa

/-! l01Has, l02Others: the cards that are not in a list, in order; and an own row that is appended to. -/
namespace Go.Proofs.Ytnllndcajdofjaa
open Go.RowKit
set_option linter.unusedVariables false

theorem own_form {w : World} {lo : Nat} {v : Value} {xs : List Int} (h : Own w lo v xs) : ∃ A c, v = .slice A xs.length c ∧ Own w lo (.slice A xs.length c) xs := by
  have h' := h
  rcases h.2 with ⟨rfl, hn⟩ | ⟨g, cap, cur, rfl, _⟩
  · exact ⟨none, 0, by rw [hn], by rw [hn]; exact h'⟩
  · exact ⟨_, _, rfl, h'⟩
end Go.Proofs.Ytnllndcajdofjaa

/-! The model's kickers, and numbers to the base 13. -/
namespace Go.Proofs.Ytnllndcajdofjaa
open Go.RowKit
set_option linter.unusedVariables false

/-! Numbers to the base 13. -/
/-! The kickers. -/
end Go.Proofs.Ytnllndcajdofjaa

/-! How often each number occurs among the counts of ranks. -/
namespace Go.Proofs.Ytnllndcajdofjaa
open Go.RowKit
set_option linter.unusedVariables false

end Go.Proofs.Ytnllndcajdofjaa

namespace Go.Proofs.Ytnllndcajdofjaa
open Go.Joins Go.ChangeShapes Go.WideShapes Go.ChangeAt Go.RowKit Go.Deep
set_option linter.unusedVariables false

section
variable {H : Type} {enc : TypeId × Value → H} {P : Program} {w : World} {base : Nat} {spare : Nat → Bool} {held : Bool}
/-- A struct of one-cell fields: its cells, each as its field reads it. -/
theorem fields_ofT {r : Reach} {b0 : Nat} {t : TypeId} {fs : Array Field} {v : Value} {d : DataW H} {p : List MemPlace} (hs : P.underlying t = some (.struct fs)) (hone : oneCellFields P fs = true)
    (hv : Value.okWide P w r b0 t v) (h : DataW.Trod enc P w base spare held t v d p) :
    ∃ cs : List Value, v = .agg cs.toArray ∧ cs.length = P.cellsOf t ∧ ∀ j f, fs[j]? = some f → ∃ n y, DataW.trod enc P w base spare held n f.type ((cs.drop j).take 1) = some y := by
  obtain ⟨⟨cs⟩, rfl, hsz⟩ := okWide_struct hs hv
  obtain ⟨fuel, hf⟩ := h
  obtain ⟨xs, n, _, _, _, hlen, hg⟩ := DataW.trod_struct hs hf
  refine ⟨cs, rfl, hsz, fun j f hj => ?_⟩
  obtain ⟨ho, hk⟩ := hone_of hone j f hj
  have hl : j < xs.length := by rw [hlen]; exact (Array.getElem?_eq_some_iff.1 hj).1
  refine ⟨n, xs[j], ?_⟩
  have := hg j f hj
  rw [ho, hk, List.getElem?_eq_getElem hl] at this
  simpa [Value.cells] using this
end
/-- An int64's range. -/
def i64T (x : Int) : Prop := -9223372036854775808 ≤ x ∧ x ≤ 9223372036854775807
theorem i64T_of_wf {x : Int} (h : (Lit.int .i64 x).wf = true) : i64T x := by
  unfold Lit.wf at h
  rw [Bool.and_eq_true, decide_eq_true_eq, decide_eq_true_eq] at h
  exact h
end Go.Proofs.Ytnllndcajdofjaa

namespace Go.Proofs.Ytnllndcajdofjaa
open Go.RowKit
set_option linter.unusedVariables false

set_option maxRecDepth 100000 in
set_option maxHeartbeats 400000 in
theorem isSeatCount_any (x : Int) (w : World) : Calls Try.prog 138 #[.int .i64 x] w (Same (.bool (inB x 2 6)) w) := by
  by_cases h : x < 2
  · have H := Lib.hid (inB_lo x 2 6 h)
    go_enter Try.func138, Try.ntmps138
    go_wp2
    go_ret
    exact ⟨ret_bool (by rw [H.out]), rfl⟩
  · by_cases h2 : 6 < x
    · have H := Lib.hid (inB_hi x 2 6 h2)
      go_enter Try.func138, Try.ntmps138
      go_wp2
      go_ret
      exact ⟨ret_bool (by rw [H.out]; exact decide_eq_false (by omega)), rfl⟩
    · have H := Lib.hid (inB_yes x 2 6 (by omega) (by omega))
      go_enter Try.func138, Try.ntmps138
      go_wp2
      go_ret
      exact ⟨ret_bool (by rw [H.out]), rfl⟩
set_option maxRecDepth 100000 in
set_option maxHeartbeats 400000 in
theorem isStack_any (x : Int) (w : World) : Calls Try.prog 77 #[.int .i64 x] w (Same (.bool (inB x 1 100000)) w) := by
  by_cases h : x < 1
  · have H := Lib.hid (inB_lo x 1 100000 h)
    go_enter Try.func77, Try.ntmps77
    go_wp2
    go_ret
    exact ⟨ret_bool (by rw [H.out]), rfl⟩
  · by_cases h2 : 100000 < x
    · have H := Lib.hid (inB_hi x 1 100000 h2)
      go_enter Try.func77, Try.ntmps77
      go_wp2
      go_ret
      exact ⟨ret_bool (by rw [H.out]; exact decide_eq_false (by omega)), rfl⟩
    · have H := Lib.hid (inB_yes x 1 100000 (by omega) (by omega))
      go_enter Try.func77, Try.ntmps77
      go_wp2
      go_ret
      exact ⟨ret_bool (by rw [H.out]), rfl⟩
set_option maxRecDepth 100000 in
set_option maxHeartbeats 400000 in
theorem isLimit_any (x : Int) (w : World) : Calls Try.prog 78 #[.int .i64 x] w (Same (.bool (inB x 0 2)) w) := by
  by_cases h0 : x = 0
  · subst h0
    go_enter Try.func78, Try.ntmps78
    go_wp2
    go_ret
    exact ⟨rfl, rfl⟩
  by_cases h1 : x = 1
  · subst h1
    go_enter Try.func78, Try.ntmps78
    go_wp2
    go_ret
    exact ⟨rfl, rfl⟩
  have H : Hid (inB x 0 2 = (x == 2)) := Lib.hid (by
    unfold inB
    by_cases h2 : x = 2
    · subst h2; rfl
    · rw [decide_eq_false (by omega)]; simpa using h2)
  have d0 : (x == 0) = false := by simpa using h0
  have d1 : (x == 1) = false := by simpa using h1
  clear h0 h1
  go_enter Try.func78, Try.ntmps78
  go_wp2
  go_ret
  exact ⟨ret_bool (by rw [H.out]), rfl⟩
set_option maxRecDepth 100000 in
set_option maxHeartbeats 400000 in
theorem leftOf_any (s n : Int) (w : World) (h0 : 0 ≤ s) (h1 : s ≤ 4000000) (hn : 0 < n) (hn1 : n ≤ 4000000) :
    Calls Try.prog 88 #[.int .i64 s, .int .i64 n] w (Same (.int .i64 (leftI s n)) w) := by
  have hb := left_bd s n hn
  unfold leftI at *
  have hz : n ≠ 0 := by omega
  go_enter Try.func88, Try.ntmps88
  go_wp2_with fail
  go_ret
  exact ⟨rfl, rfl⟩
set_option maxRecDepth 100000 in
set_option maxHeartbeats 400000 in
theorem minT_any (a b : Int) (w : World) :
    Calls Try.prog 136 #[.int .i64 a, .int .i64 b] w (Same (.int .i64 (minT a b)) w) := by
  by_cases h : b < a
  · have H : Hid (minT a b = b) := Lib.hid (minT_lt a b h)
    go_enter Try.func136, Try.ntmps136
    go_wp2_with fail
    go_ret
    exact ⟨ret_int H.out.symm, rfl⟩
  · have H : Hid (minT a b = a) := Lib.hid (minT_ge a b h)
    go_enter Try.func136, Try.ntmps136
    go_wp2_with fail
    go_ret
    exact ⟨ret_int H.out.symm, rfl⟩
end Go.Proofs.Ytnllndcajdofjaa
