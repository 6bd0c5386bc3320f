/-
  Rows of bools in memory, as rows of numbers (List, ListLaw, MarkLaw, RowMark): how a slice reads, a row of the call's own, the laws' own helpers.
-/
import Derived.Test.YtlcimofhpphefaaMark
import Derived.Deep.Grids
namespace Go.Proofs.Ytlcimofhpphefaa
open Go.ChangeShapes Go.WideShapes Go.ChangeAt Go.RowKit Go.Joins Go.Deep
set_option linter.unusedVariables false

theorem take_snocB : ∀ (xs : List Bool) (k : Nat) (h : k < xs.length), xs.take (k + 1) = xs.take k ++ [xs[k]]
  | [], k, h => absurd h (Nat.not_lt_zero _)
  | x :: xs, 0, _ => rfl
  | x :: xs, k + 1, h => by
    show x :: xs.take (k + 1) = x :: (xs.take k ++ [xs[k]'(Nat.lt_of_succ_lt_succ h)])
    rw [take_snocB xs k (Nat.lt_of_succ_lt_succ h)]
/-- The i-th of a list of bools; false past its end. -/
def nthB (xs : List Bool) (i : Nat) : Bool := xs.getD i false
theorem nthB_eq (xs : List Bool) (i : Nat) (h : i < xs.length) : nthB xs i = xs[i] := by unfold nthB; rw [List.getD_eq_getElem?_getD, List.getElem?_eq_getElem h]; rfl
theorem nthB_mem (xs : List Bool) (i : Nat) (h : i < xs.length) : nthB xs i ∈ xs := by rw [nthB_eq xs i h]; exact List.getElem_mem h
theorem take_nthB (xs : List Bool) (k : Nat) (h : k < xs.length) : xs.take (k + 1) = xs.take k ++ [nthB xs k] := by rw [nthB_eq xs k h]; exact take_snocB xs k h
/-- Numbers as values. -/
def bools (xs : List Bool) : List Value := xs.map (Value.bool)
theorem bools_length (xs : List Bool) : (bools xs).length = xs.length := by simp [bools]
theorem bools_snoc (xs : List Bool) (x : Bool) : bools (xs ++ [x]) = bools xs ++ [.bool x] := by simp [bools]
theorem bools_append (xs ys : List Bool) : bools (xs ++ ys) = bools xs ++ bools ys := by simp [bools]
theorem bools_get (xs : List Bool) (i : Nat) (h : i < xs.length) : (bools xs)[i]? = some (.bool (nthB xs i)) := by simp [bools, h, nthB_eq xs i h]
theorem bools_set (xs : List Bool) (i : Nat) (x : Bool) : (bools xs).set i (.bool x) = bools (xs.set i x) := by simp [bools, List.map_set]
theorem bools_zeros (n : Nat) : List.replicate n (Value.bool false) = bools (List.replicate n false) := by simp [bools]

/-- A slice at A reads as the list. -/
def RdB (w : World) (A : Option Addr) (xs : List Bool) : Prop := 0 < xs.length → ∃ b off, A = some ⟨b, off, none⟩ ∧ ∀ i, i < xs.length → w.cell? ⟨b, off + i, none⟩ = some (.bool (nthB xs i))
theorem RdB.keep {w w' : World} {A : Option Addr} {xs : List Bool} (h : RdB w A xs) (hk : ∀ a : Addr, A = some a → w'.heap[a.block]? = w.heap[a.block]?) : RdB w' A xs := by
  intro h0
  obtain ⟨b, off, rfl, hc⟩ := h h0
  exact ⟨b, off, rfl, fun i hi => (World.cell?_of_block (w := w) (a := ⟨b, off + i, none⟩) (hk ⟨b, off, none⟩ rfl)).trans (hc i hi)⟩
theorem RdB.lt {w : World} {A : Option Addr} {xs : List Bool} (h : RdB w A xs) (h0 : 0 < xs.length) {a : Addr} (e : A = some a) : a.block < w.heap.size := by
  obtain ⟨b, off, rfl, hc⟩ := h h0
  injection e with e
  subst e
  exact World.block_lt_of_cell? w _ (hc 0 h0)
theorem RdB.below {w w' : World} {A : Option Addr} {xs : List Bool} (h : RdB w A xs) (hb : Below w.heap.size w w') : RdB w' A xs := by
  intro h0
  obtain ⟨b, off, rfl, hc⟩ := h h0
  exact ⟨b, off, rfl, fun i hi => (hb.cell (p := ⟨b, off + i, none⟩) (World.block_lt_of_cell? w _ (hc i hi))).trans (hc i hi)⟩
theorem RdB.at_ {w w' : World} {A : Option Addr} {xs : List Bool} (h : RdB w A xs) (hb : Below w.heap.size w w') (k : Nat) (hk : k < xs.length) : ∃ b off, A = some ⟨b, off, none⟩ ∧ w'.cell? ⟨b, off + k, none⟩ = some (.bool (nthB xs k)) := by
  obtain ⟨b, off, rfl, hc⟩ := (h.below hb) (by omega)
  exact ⟨b, off, rfl, hc k hk⟩
/-- A list that differs from what has been written. -/
theorem RdB.grown {w w' : World} {A : Option Addr} {xs : List Bool} {row : Option Nat} (h : RdB w A xs) (hg : w.grownBy w' row) (hne : ∀ a, A = some a → row ≠ some a.block) : RdB w' A xs := by
  intro h0
  have hlt := fun a e => h.lt h0 (a := a) e
  exact (h.keep fun a e => hg.block a.block (hlt a e) (fun e' => hne a e e'.symm)) h0

/-- A row of numbers of the call's own: none of its blocks lies below lo. -/
def OwnB (w : World) (lo : Nat) (v : Value) (xs : List Bool) : Prop := w.ownsRow lo 4 1 v xs.length (bools xs)
theorem OwnB.rd {w : World} {lo : Nat} {A : Option Addr} {c : Nat} {xs : List Bool} (h : OwnB w lo (.slice A xs.length c) xs) : RdB w A xs := by
  intro h0
  rcases h.2 with ⟨e, hn⟩ | ⟨g, cap, cur, hv, hb, hg, hnc, _⟩
  · omega
  · have hv' := hv
    injection hv' with hA _ hc
    subst hA hc
    refine ⟨g, 0, rfl, fun i hi => ?_⟩
    rw [Nat.zero_add, World.ownsRow.cellAt h i (by omega), bools_get xs i hi]
theorem OwnB.lo_le {w : World} {lo : Nat} {A : Option Addr} {c n : Nat} {xs : List Bool} (h : OwnB w lo (.slice A n c) xs) (a : Addr) (e : A = some a) : lo ≤ a.block ∧ a.block < w.heap.size := by
  subst e
  exact World.ownsRow.lt h a.block rfl
theorem OwnB.below {w w' : World} {lo : Nat} {v : Value} {xs : List Bool} (h : OwnB w lo v xs) (hb : Below w.heap.size w w') : OwnB w' lo v xs := by
  refine ⟨h.1, ?_⟩
  rcases h.2 with hn | ⟨g, cap, cur, rfl, hl, hgg, rest⟩
  · exact .inl hn
  · exact .inr ⟨g, cap, cur, rfl, hl, (hb.block g (Array.getElem?_eq_some_iff.1 hgg).1).trans hgg, rest⟩
theorem OwnB.less {w : World} {lo lo' : Nat} {v : Value} {xs : List Bool} (h : OwnB w lo v xs) (hl : lo' ≤ lo) : OwnB w lo' v xs := by
  refine ⟨h.1, ?_⟩
  rcases h.2 with hn | ⟨g, cap, cur, rfl, hlo, rest⟩
  · exact .inl hn
  · exact .inr ⟨g, cap, cur, rfl, Nat.le_trans hl hlo, rest⟩
theorem OwnB.grown {w w' : World} {lo : Nat} {v : Value} {xs : List Bool} {row : Option Nat} (h : OwnB w lo v xs) (hg : w.grownBy w' row) (hne : v.ownBlock = none ∨ v.ownBlock ≠ row) : OwnB w' lo v xs := World.ownsRow.kept h hg hne
theorem OwnB.nil (w : World) (lo : Nat) : OwnB w lo (.slice none 0 0) [] := World.ownsRow_nil w lo 4 1
def NewLB (xs : List Bool) (w : World) (e : Ending) (w' : World) : Prop := ∃ A c, e = .returned (.slice A xs.length c) ∧ OwnB w' w.heap.size (.slice A xs.length c) xs ∧ Below w.heap.size w w'
set_option maxRecDepth 100000 in
theorem infoBoolL : (Try.prog.info? 4).map (fun i => (i.zero, i.size, i.bytes)) = some (some (.bool false), 1, 1) := by kernel_rfl
/-- A row of the call's own: its block does not lie below lo. -/
def RowB (w : World) (lo : Nat) (A : Option Addr) (xs : List Bool) : Prop :=
  (∀ a, A = some a → lo ≤ a.block ∧ a.block < w.heap.size) ∧
  (0 < xs.length → ∃ g off, A = some ⟨g, off, none⟩ ∧ ∀ i, i < xs.length → w.cell? ⟨g, off + i, none⟩ = some (.bool (nthB xs i)) ∧ w.frozen? ⟨g, off + i, none⟩ = false)
theorem RowB.rd {w : World} {lo : Nat} {A : Option Addr} {xs : List Bool} (h : RowB w lo A xs) : RdB w A xs := fun h0 => by
  obtain ⟨g, off, e, hc⟩ := h.2 h0
  exact ⟨g, off, e, fun i hi => (hc i hi).1⟩
theorem RowB.less {w : World} {lo lo' : Nat} {A : Option Addr} {xs : List Bool} (h : RowB w lo A xs) (hl : lo' ≤ lo) : RowB w lo' A xs :=
  ⟨fun a e => ⟨Nat.le_trans hl (h.1 a e).1, (h.1 a e).2⟩, h.2⟩
theorem RowB.grown {w w' : World} {lo : Nat} {A : Option Addr} {xs : List Bool} {row : Option Nat} (h : RowB w lo A xs) (hg : w.grownBy w' row) (hne : ∀ a, A = some a → some a.block ≠ row) : RowB w' lo A xs := by
  refine ⟨fun a e => ⟨(h.1 a e).1, Nat.lt_of_lt_of_le (h.1 a e).2 hg.size⟩, fun h0 => ?_⟩
  obtain ⟨g, off, rfl, hc⟩ := h.2 h0
  have hb := hg.block g (h.1 _ rfl).2 (hne _ rfl)
  exact ⟨g, off, rfl, fun i hi => ⟨(World.cell?_of_block (a := ⟨g, off + i, none⟩) hb).trans (hc i hi).1, (World.frozen?_of_block (a := ⟨g, off + i, none⟩) hb).trans (hc i hi).2⟩⟩
theorem RowB.below {w w' : World} {lo : Nat} {A : Option Addr} {xs : List Bool} (h : RowB w lo A xs) (hb : Below w.heap.size w w') : RowB w' lo A xs :=
  RowB.grown (row := none) h ⟨hb.os, hb.tape, hb.output, hb.size, fun k hk _ => hb.block k hk⟩ (fun _ _ => by simp)
theorem RowB.nil (w : World) (lo : Nat) : RowB w lo none [] := ⟨(fun a e => by cases e), (fun h => by simp at h)⟩
theorem RowB.of_own {w : World} {lo : Nat} {A : Option Addr} {c : Nat} {xs : List Bool} (h : OwnB w lo (.slice A xs.length c) xs) : RowB w lo A xs := by
  refine ⟨fun a e => h.lo_le a e, fun h0 => ?_⟩
  rcases h.2 with ⟨_, hn⟩ | ⟨g, cap, cur, hv, _⟩
  · omega
  · injection hv with hA _ hc
    subst hA hc
    refine ⟨g, 0, rfl, fun i hi => ?_⟩
    rw [Nat.zero_add]
    exact ⟨by rw [World.ownsRow.cellAt h i (by omega), bools_get xs i hi], World.ownsRow.frozenAt h i⟩
theorem own_capB {w : World} {lo : Nat} {A : Option Addr} {c : Nat} {xs : List Bool} (h : OwnB w lo (.slice A xs.length c) xs) : xs.length ≤ c := by
  rcases h.2 with ⟨e, hn⟩ | ⟨g, cap, cur, hv, _, _, hnc, _⟩
  · omega
  · injection hv with _ _ hc
    omega
/-- What a copying loop has written after k rounds. -/
def mixB (xs : List Bool) (k : Nat) : List Bool := xs.take k ++ List.replicate (xs.length - k) false
theorem mix_lengthB (xs : List Bool) (k : Nat) (h : k ≤ xs.length) : (mixB xs k).length = xs.length := by simp [mixB]; omega
theorem mix_zeroB (xs : List Bool) : mixB xs 0 = List.replicate xs.length false := by simp [mixB]
theorem mix_allB (xs : List Bool) : mixB xs xs.length = xs := by simp [mixB]
theorem mix_setB (xs : List Bool) (k : Nat) (h : k < xs.length) : (mixB xs k).set k (nthB xs k) = mixB xs (k + 1) := by
  have hl : (xs.take k).length = k := by rw [List.length_take]; omega
  unfold mixB
  rw [List.set_append_right _ _ (by omega), hl, Nat.sub_self, take_nthB xs k h, List.append_assoc]
  congr 1
  have : xs.length - k = (xs.length - (k + 1)) + 1 := by omega
  rw [this, List.replicate_succ]
  rfl
/-- The copying loop's state. -/
def CopiedB (w : World) (xs : List Bool) (k : Nat) (wr : World) : Prop :=
  wr.ownsRow w.heap.size 4 1 (.slice (some ⟨w.heap.size, 0, none⟩) xs.length xs.length) xs.length (bools (mixB xs k)) ∧ Below w.heap.size w wr
theorem copied_stepB {w wr : World} {xs : List Bool} {k : Nat} (h : CopiedB w xs k wr) (hk : k < xs.length) (n : Nat) :
    CopiedB w xs (k + 1) ((wr.drewN n).setCell ⟨w.heap.size, k, none⟩ (.bool (nthB xs k))) := by
  have h1 : (wr.drewN n).ownsRow w.heap.size 4 1 (.slice (some ⟨w.heap.size, 0, none⟩) xs.length xs.length) xs.length (bools (mixB xs k)) := h.1
  refine ⟨?_, (bl_drewN h.2 n).setCell (Nat.le_refl _) _⟩
  have := (h1.stored k (.bool (nthB xs k))).1
  rwa [bools_set, mix_setB xs k hk] at this
theorem copied_cellB {w wr : World} {xs : List Bool} {k : Nat} (h : CopiedB w xs k wr) (hk : k < xs.length) :
    wr.cell? ⟨w.heap.size, k, none⟩ = some (.bool (nthB (mixB xs k) k)) ∧ wr.frozen? ⟨w.heap.size, k, none⟩ = false := by
  refine ⟨?_, h.1.frozenAt k⟩
  rw [h.1.cellAt k (by omega), bools_get _ _ (by rw [mix_lengthB xs k (by omega)]; exact hk)]

set_option maxRecDepth 100000 in
set_option maxHeartbeats 1000000 in
theorem toBools_any (A : Option Addr) (c : Nat) (xs : List Bool) (w : World) (hr : RdB w A xs) (hn : xs.length ≤ 1048576) :
    Calls Try.prog 14 #[.slice A xs.length c] w (NewLB xs w) := by
  obtain ⟨i0, hi, hz0, hz1, hz2⟩ := info_parts infoBoolL
  have HR := Lib.hid hr
  clear hr
  obtain ⟨w0, rfl⟩ : ∃ w0 : World, w0 = w := ⟨w, rfl⟩
  go_enter Try.func14, Try.ntmps14
  go_wp2_with (at_make; refine wpList_make_full _ rfl _ _ 23 rfl w0.heap.size 4 i0 (.bool false) 1 Try.underlying23 hi hz0 hz1 .i64 .i64 _ _ xs.length rfl rfl rfl rfl ?c1 ?c2 (Nat.le_refl _) ?_)
  case c1 => rw [hz2]; omega
  case c2 => unfold maxLen; omega
  intro w1 hown hgrow
  have HS : Hid (CopiedB w0 xs 0 w1) := Lib.hid ⟨by
    have e : (madeCells #[Value.bool false] xs.length).toList = bools (mixB xs 0) := by
      rw [mix_zeroB, ← bools_zeros]; exact toList_madeCells_one _ _
    rwa [e] at hown, (bl_refl _).grown hgrow (Nat.le_refl _) (fun j hj => by cases hj)⟩
  clear hown hgrow
  go_wp2_with fail
  go_loopw [4] (fun i wr => ∃ k : Nat, k ≤ xs.length ∧ i = .int .i64 k ∧ Hid (CopiedB w0 xs k wr)) (fun i _ => xs.length - (intOf i).toNat)
  case atStart => exact ⟨0, Nat.zero_le _, rfl, HS⟩
  case round =>
    obtain ⟨k, hk, rfl, hs⟩ := hrel
    by_cases hlt : k < xs.length
    · obtain ⟨b, off, rfl, hc⟩ := HR.out.at_ hs.out.2 k hlt
      obtain ⟨hg, hf⟩ := copied_cellB hs.out hlt
      have hlt' : (k : Int) < xs.length := by omega
      go_wp2_with fail
      go_roundw
      case rel => exact ⟨k + 1, by omega, by go_num, Lib.hid (copied_stepB hs.out hlt 0)⟩
      case measure => simp [intOf]; omega
    · obtain rfl : k = xs.length := by omega
      go_wp2_with fail
      go_ret
      have h := hs.out
      unfold CopiedB at h
      rw [mix_allB] at h
      exact ⟨_, _, rfl, h.1, h.2⟩
set_option maxRecDepth 100000 in
set_option maxHeartbeats 1000000 in
/-- Two lists that read alike are found alike. -/
theorem eqBools_same (A B : Option Addr) (c d : Nat) (xs : List Bool) (w : World) (hr : RdB w A xs) (hq : RdB w B xs) (hn : xs.length ≤ 4000000) :
    Calls Try.prog 17 #[.slice A xs.length c, .slice B xs.length d] w (Fresh (.bool true) w) := by
  have HR := Lib.hid hr
  have HQ := Lib.hid hq
  clear hr hq
  obtain ⟨w0, rfl⟩ : ∃ w0 : World, w0 = w := ⟨w, rfl⟩
  go_enter Try.func17, Try.ntmps17
  go_wp2_with fail
  go_loopw [5] (fun i wr => ∃ k : Nat, k ≤ xs.length ∧ i = .int .i64 k ∧ Hid (Below w0.heap.size w0 wr)) (fun i _ => xs.length - (intOf i).toNat)
  case atStart => exact ⟨0, Nat.zero_le _, rfl, Lib.hid (bl_refl _)⟩
  case round =>
    obtain ⟨k, hk, rfl, hs⟩ := hrel
    by_cases hlt : k < xs.length
    · obtain ⟨b, off, rfl, hc⟩ := HR.out.at_ hs.out k hlt
      obtain ⟨b', off', rfl, hc'⟩ := HQ.out.at_ hs.out k hlt
      have hlt' : (k : Int) < xs.length := by omega
      go_wp2_with fail
      go_quiet (fail)
      go_wp2_with fail
      go_roundw
      case rel => exact ⟨k + 1, by omega, by go_num, Lib.hid (bl_drewN hs.out _)⟩
      case measure => simp [intOf]; omega
    · obtain rfl : k = xs.length := by omega
      go_wp2_with fail
      go_ret
      exact ⟨rfl, hs.out⟩

/-- The marks of bools: k0, k0 + 1, .. that three divides. -/
def mk3 (k : Int) : Bool := k % 3 == 0
def marksB (k0 : Int) (n : Nat) : List Bool := (List.range n).map (fun i : Nat => mk3 (k0 + i))
theorem marksB_length (k0 : Int) (n : Nat) : (marksB k0 n).length = n := by simp [marksB]
theorem marksB_nth (k0 : Int) (n i : Nat) (h : i < n) : nthB (marksB k0 n) i = mk3 (k0 + i) := by rw [nthB_eq _ _ (by rw [marksB_length]; exact h)]; simp [marksB]
/-- What a marking loop has written after k rounds. -/
def markedB (k0 : Int) (xs : List Bool) (k : Nat) : List Bool := marksB k0 k ++ xs.drop k
theorem marked_lengthB (k0 : Int) (xs : List Bool) (k : Nat) (h : k ≤ xs.length) : (markedB k0 xs k).length = xs.length := by simp [markedB, marksB_length]; omega
theorem marked_zeroB (k0 : Int) (xs : List Bool) : markedB k0 xs 0 = xs := by simp [markedB, marksB]
theorem marked_allB (k0 : Int) (xs : List Bool) : markedB k0 xs xs.length = marksB k0 xs.length := by simp [markedB]
theorem marked_setB (k0 : Int) (xs : List Bool) (k : Nat) (h : k < xs.length) : (markedB k0 xs k).set k (mk3 (k0 + k)) = markedB k0 xs (k + 1) := by
  unfold markedB
  have e : marksB k0 (k + 1) = marksB k0 k ++ [mk3 (k0 + k)] := by simp [marksB, List.range_succ]
  rw [List.set_append_right _ _ (by rw [marksB_length]; exact Nat.le_refl _), marksB_length, Nat.sub_self, e, List.append_assoc, List.drop_eq_getElem_cons h]
  rfl
theorem nthB_set_same (xs : List Bool) (k : Nat) (x : Bool) (h : k < xs.length) : nthB (xs.set k x) k = x := by
  rw [nthB_eq _ _ (by rw [List.length_set]; exact h)]; simp
theorem nthB_set_other (xs : List Bool) (k i : Nat) (x : Bool) (h : k ≠ i) : nthB (xs.set k x) i = nthB xs i := by
  unfold nthB; rw [List.getD_eq_getElem?_getD, List.getD_eq_getElem?_getD, List.getElem?_set_ne h]
/-- The marking loop's state. -/
def MarkedRB (w : World) (lo : Nat) (k0 : Int) (A : Option Addr) (c : Nat) (xs : List Bool) (k : Nat) (wr : World) : Prop :=
  RowB wr lo A (markedB k0 xs k) ∧ w.grownBy wr (Value.slice A xs.length c).ownBlock
theorem markedR_stepB {w wr : World} {lo g off : Nat} {k0 : Int} {c : Nat} {xs : List Bool} {k : Nat} (h : MarkedRB w lo k0 (some ⟨g, off, none⟩) c xs k wr) (hk : k < xs.length) :
    MarkedRB w lo k0 (some ⟨g, off, none⟩) c xs (k + 1) (wr.setCell ⟨g, off + k, none⟩ (.bool (mk3 (k0 + k)))) := by
  have hl := marked_lengthB k0 xs k (by omega)
  obtain ⟨hr, hg⟩ := h
  have hlt := (hr.1 _ rfl)
  refine ⟨⟨fun a e => ?_, fun h0 => ⟨g, off, rfl, fun i hi => ?_⟩⟩, World.grownBy.trans hg ⟨rfl, rfl, rfl, by simp [World.setCell], fun j hj hne => Below.heap_setCell wr ⟨g, off + k, none⟩ _ j (fun e => hne (by rw [e]; rfl))⟩⟩
  · obtain ⟨h1, h2⟩ := hr.1 a e
    exact ⟨h1, by simpa [World.setCell] using h2⟩
  · rw [← marked_setB k0 xs k hk] at hi ⊢
    rw [List.length_set, hl] at hi
    obtain ⟨g', off', e, hc⟩ := hr.2 (by omega)
    injection e with e
    injection e with e1 e2
    subst e1 e2
    have hci := hc i (by omega)
    have hck := hc k (by omega)
    refine ⟨?_, by simp [go_sem, hci.2]⟩
    by_cases e : k = i
    · subst e
      rw [nthB_set_same _ _ _ (by omega)]
      exact World.cell?_setCell_same wr _ _ hck.1
    · rw [nthB_set_other _ _ _ _ e, World.cell?_setCell_other wr _ _ _ (by intro q; injection q with _ q; omega)]
      exact hci.1
theorem markedR_atB {w wr : World} {lo : Nat} {k0 : Int} {A : Option Addr} {c : Nat} {xs : List Bool} {k : Nat} (h : MarkedRB w lo k0 A c xs k wr) (hk : k < xs.length) :
    ∃ g off, A = some ⟨g, off, none⟩ ∧ wr.cell? ⟨g, off + k, none⟩ = some (.bool (nthB (markedB k0 xs k) k)) ∧ wr.frozen? ⟨g, off + k, none⟩ = false := by
  have hl := marked_lengthB k0 xs k (by omega)
  obtain ⟨g, off, e, hc⟩ := h.1.2 (by omega)
  exact ⟨g, off, e, hc k (by omega)⟩
/-- What marking leaves. -/
def MarkPostRB (w : World) (lo : Nat) (k0 : Int) (A : Option Addr) (c : Nat) (n : Nat) (e : Ending) (w' : World) : Prop :=
  e = .returned (.int .i64 (k0 + n)) ∧ RowB w' lo A (marksB k0 n) ∧ w.grownBy w' (Value.slice A n c).ownBlock

set_option maxRecDepth 100000 in
set_option maxHeartbeats 1000000 in
theorem markRow_anyB (A : Option Addr) (c lo : Nat) (xs : List Bool) (k0 : Int) (w : World) (h : RowB w lo A xs) (hn : xs.length ≤ 4000000) (h0 : 0 ≤ k0) (h1 : k0 ≤ 100000000) :
    Calls Try.prog 24 #[.slice A xs.length c, .int .i64 k0] w (MarkPostRB w lo k0 A c xs.length) := by
  have HS : Hid (MarkedRB w lo k0 A c xs 0 w) := Lib.hid ⟨by rw [marked_zeroB]; exact h, World.grownBy.refl w _⟩
  clear h
  obtain ⟨w0, rfl⟩ : ∃ w0 : World, w0 = w := ⟨w, rfl⟩
  go_enter Try.func24, Try.ntmps24
  go_wp2_with fail
  go_loopw [1, 5] (fun q i wr => ∃ k : Nat, k ≤ xs.length ∧ i = .int .i64 k ∧ q = .int .i64 (k0 + k) ∧ Hid (MarkedRB w0 lo k0 A c xs k wr)) (fun _ i _ => xs.length - (intOf i).toNat)
  case atStart => exact ⟨0, Nat.zero_le _, rfl, by go_num, HS⟩
  case round =>
    obtain ⟨k, hk, rfl, rfl, hs⟩ := hrel
    by_cases hlt : k < xs.length
    · obtain ⟨g, off, rfl, hc, hf⟩ := markedR_atB hs.out hlt
      have hlt' : (k : Int) < xs.length := by omega
      go_wp2_with fail
      go_roundw
      case rel => exact ⟨k + 1, by omega, by go_num, by go_num, Lib.hid (markedR_stepB hs.out hlt)⟩
      case measure => simp [intOf]; omega
    · obtain rfl : k = xs.length := by omega
      go_wp2_with fail
      go_ret
      have h := hs.out
      unfold MarkedRB at h
      rw [marked_allB] at h
      exact ⟨rfl, h.1, h.2⟩

/-- A list of bools in a law's argument. -/
theorem bools_of {H : Type} {enc : TypeId × Value → H} {W : World} {cs : List Value} {fuel : Nat} {x : DataW H × List MemPlace} {v : Value} (hv : cs = [v])
    (h : DataW.trod enc Try.prog W 0 (fun _ => true) true fuel 23 cs = some x) :
    ∃ (A : Option Addr) (c : Nat) (xs : List Bool), v = .slice A xs.length c ∧ xs.length ≤ maxLen ∧ RdB W A xs := by
  rcases open_bools Try.underlying23 Try.underlying4 (by kernel_rfl) h with ⟨hcs, hx⟩ | ⟨a, len, cap, B, hcs, _, hl, hm, hx, hcell⟩
  · rw [hv] at hcs
    obtain rfl : v = _ := by simpa using hcs
    exact ⟨none, 0, [], rfl, by unfold maxLen; simp, fun h => by simp at h⟩
  · rw [hv] at hcs
    obtain rfl : v = _ := by simpa using hcs
    have hlen : ((List.range len).map B).length = len := by simp
    refine ⟨some a, cap, (List.range len).map B, by rw [hlen], by rw [hlen]; omega, fun h0 => ?_⟩
    rw [hlen] at h0
    obtain ⟨b, off, spot⟩ := a
    have hspot : spot = none := by simpa [Addr.add] using World.cell?_spot (hcell 0 (by omega))
    subst hspot
    refine ⟨b, off, rfl, fun i hi => ?_⟩
    rw [hlen] at hi
    rw [nthB_eq _ _ (by rw [hlen]; exact hi)]
    have := hcell i (by omega)
    rw [Go.WideShapes.add_plain] at this
    simpa using this
theorem ints_of {H : Type} {enc : TypeId × Value → H} {W : World} {cs : List Value} {fuel : Nat} {x : DataW H × List MemPlace} {v : Value} (hv : cs = [v])
    (h : DataW.trod enc Try.prog W 0 (fun _ => true) true fuel 22 cs = some x) :
    ∃ (A : Option Addr) (c : Nat) (xs : List Int), v = .slice A xs.length c ∧ xs.length ≤ maxLen ∧ Rd W A xs := by
  rcases open_ints Try.underlying22 Try.underlying2 (by kernel_rfl) h with ⟨hcs, hx⟩ | ⟨a, len', cap', zs, hcs, _, hl, hm, hz, hx, hcell, hwz⟩
  · rw [hv] at hcs
    obtain rfl : v = _ := by simpa using hcs
    exact ⟨none, 0, [], rfl, by unfold maxLen; simp, fun h => by simp at h⟩
  · rw [hv] at hcs
    obtain rfl : v = _ := by simpa using hcs
    have hlen : len' ≤ zs.length := by rw [hz]; simp; exact hl
    have ht : (zs.take len').length = len' := by rw [List.length_take]; omega
    refine ⟨some a, cap', zs.take len', by rw [ht], by rw [ht]; omega, fun h0 => ?_⟩
    rw [ht] at h0
    obtain ⟨b, off, rfl, hc⟩ := ints_at hcell (by omega)
    refine ⟨b, off, rfl, fun i hi => ?_⟩
    rw [ht] at hi
    rw [hc i (by omega)]
    congr 2
    unfold nth
    rw [List.getD_eq_getElem?_getD, List.getD_eq_getElem?_getD, List.getElem?_take, if_pos hi]
end Go.Proofs.Ytlcimofhpphefaa
