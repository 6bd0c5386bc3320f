/-
  The program's low ranks of cards, sorted; cards sorted by low ranks.
-/
import Derived.Test.YtlpkaflmhdgmmaaGreatDoorLowPure
import Derived.Test.YtlpkaflmhdgmmaaGreatDoorCmpS
import Derived.Test.YtlpkaflmhdgmmaaGreatDoorBase
namespace Go.Proofs.YtlpkaflmhdgmmaaGreatDoor
open Go.RowKit Go.Sort Go.Lib Go.Shelf
set_option linter.unusedVariables false

set_option maxHeartbeats 400000 in
theorem lowRank_any (x : Int) (w : World) (h0 : 0 ≤ x) (h1 : x < 52) :
    Calls Tryz.prog 149 #[.int .i64 x] w (Same (.int .i64 (lr x)) w) := by
  have K := Lib.hid (fun W => rank_any x W h0 h1)
  have e : (x / 4 + 1).tmod 13 = (x / 4 + 1) % 13 := Int.tmod_eq_emod_of_nonneg (by omega)
  have hq : 0 ≤ x / 4 ∧ x / 4 < 13 := by omega
  go_enter Tryz.func149, Tryz.ntmps149
  go_wp2_with (go_at_call 95; refine (K.out _).mono ?_; rintro e w1 ⟨rfl, rfl⟩)
  go_ret
  exact ⟨ret_int rfl, rfl⟩
/-- A slice of some length is made. -/
theorem run_makeN (t e : TypeId) (i0 : TypeInfo) (hu : Tryz.prog.underlying t = some (.slice e)) (hi : Tryz.prog.info? e = some i0) (hz0 : i0.zero = some (.int .i64 0)) (hz1 : i0.size = 1) (hz2 : i0.bytes = 8) (n : Nat) (hn : n ≤ 100) (W : World) :
    (Instr.makeSlice t (.int .i64 n) (.int .i64 n)).run Tryz.prog W = .ok (.slice (some ⟨W.heap.size, 0, none⟩) n n) (W.alloc (.cells (ints (List.replicate n 0)).toArray e)) := by
  have h := run_makeSlice (P := Tryz.prog) W t e i0 (.int .i64 0) hu hi hz0 .i64 .i64 n n (by omega) (by omega) (by rw [hz1]; omega) (by rw [hz2]; omega) (by omega)
  rw [hz1] at h
  have em : madeCells (Value.int .i64 0).cells (Int.toNat n * 1) = (ints (List.replicate n 0)).toArray := Array.toList_inj.1 (by
    show (madeCells #[Value.int .i64 0] ((Int.toNat n) * 1)).toList = _
    rw [toList_madeCells_one, Nat.mul_one, ← ints_zeros]; simp)
  rw [em] at h
  exact h

/-! The sorts. -/
theorem sortWorld_blkG {α : Type} [Inhabited α] (enc : α → Value) (v : α → Int) (he : ∀ x, enc x = .int .i64 (v x)) (w : World) (blk n : Nat) (t : TypeId) (xs : List Int) (d : List α) (os : Array Obj) (h : Blk w blk t (ints xs)) (hl : d.length = xs.length) : Blk (sortWorld enc w blk 0 n d.toArray os) blk t (ints (d.map v)) := by
  have hlt := h.lt
  unfold Blk at h ⊢
  unfold sortWorld grow putRow mapBlock Sort.ahead
  simp only
  rw [Array.getElem?_append_left (by simpa using hlt), Array.getElem?_modify, if_pos rfl, h, Option.map_some]
  unfold onCells
  simp only
  congr 2
  apply Array.ext_getElem?
  intro i
  unfold putCells
  rw [Array.getElem?_mapIdx]
  by_cases hi : i < xs.length
  · rw [List.getElem?_toArray, ints_get xs i hi]
    simp only [Option.map_some, List.size_toArray, Nat.zero_add, Nat.zero_le, true_and, hl, hi, if_true, Nat.sub_zero]
    rw [List.getElem?_toArray]
    unfold ints
    simp only [List.map_map, List.getElem?_map]
    rw [List.getElem?_eq_getElem (by omega)]
    simp [he, hl, hi]
  · rw [List.getElem?_toArray, List.getElem?_toArray, List.getElem?_eq_none (by rw [ints_length]; omega), List.getElem?_eq_none (by rw [ints_length, List.length_map]; omega)]
    rfl
theorem holdsG {α : Type} [Inhabited α] (enc : α → Value) (v : α → Int) (he : ∀ x, enc x = .int .i64 (v x)) {w : World} {g : Nat} {t : TypeId} {xs : List Int} (hg : Blk w g t (ints xs)) (d : List α) (hd : d.map v = xs) : Holds enc w g 0 d.toArray := by
  intro j hj
  have hj2 : j < d.length := by simpa using hj
  have hl : d.length = xs.length := by rw [← hd, List.length_map]
  have hj' : j < xs.length := by omega
  rw [Nat.zero_add]
  refine ⟨?_, (hg.int j hj').2⟩
  rw [(hg.int j hj').1]
  have e1 : d.toArray[j]! = d[j] := by simp [hj2]
  rw [e1, he, nth_eq xs j hj']
  congr 2
  have : (d.map v)[j]'(by simpa using hj2) = v d[j] := by simp
  rw [← this]
  simp only [hd]
/-- What a sort leaves: a block with other numbers. -/
def SortedB (g : Nat) (t : TypeId) (w : World) (p : List Int → Prop) (e : Ending) (w' : World) : Prop := e = .returned (.tuple #[]) ∧ (∃ K, p K ∧ Blk w' g t (ints K)) ∧ w.grownBy w' (some g)

/-- By decreasing numbers. -/
def descR (rs : List Int) : List Int := rs.mergeSort (fun x y => decide (y ≤ x))
theorem descR_perm (rs : List Int) : (descR rs).Perm rs := List.mergeSort_perm ..
theorem descR_sorted (rs : List Int) : (descR rs).Pairwise (fun a b => b ≤ a) := by
  have := List.pairwise_mergeSort (le := fun x y : Int => decide (y ≤ x)) (fun a b c h1 h2 => by simp only [decide_eq_true_eq] at *; omega) (fun a b => by simp only [Bool.or_eq_true, decide_eq_true_eq]; omega) rs
  exact this.imp (fun h => by simpa using h)
theorem descR_of {rs L : List Int} (hp : L.Perm rs) (hs : L.Pairwise (fun a b => b ≤ a)) : L = descR rs :=
  List.Perm.eq_of_pairwise (fun a b _ _ h1 h2 => by omega) hs (descR_sorted rs) (hp.trans (descR_perm rs).symm)
theorem descR_len (rs : List Int) : (descR rs).length = rs.length := (descR_perm rs).length_eq
set_option maxHeartbeats 400000 in
theorem lowCmp_any (a b : Int) (w : World) :
    Calls Tryz.prog 150 #[.int .i64 a, .int .i64 b] w (Same (.int .i64 (cmpI b a)) w) := by
  have K := Lib.hid compare_any
  go_enter Tryz.func150, Tryz.ntmps150
  go_wp2_with (go_at_call 102; refine (K.out _ _ _).mono ?_; rintro e w1 ⟨rfl, rfl⟩)
  go_ret
  exact ⟨rfl, rfl⟩
def cfD (x y : Int) : Int := cmpI y x
theorem ltD (x y : Int) : ltOf cfD x y = decide (y < x) := by
  unfold ltOf cfD cmpI
  rw [decide_eq_decide]
  repeat' split
  all_goals omega
theorem swoD : SWO (ltOf cfD) where
  irrefl x := by rw [ltD]; simp
  trans x y z h1 h2 := by rw [ltD] at *; simp only [decide_eq_true_eq] at *; omega
  ntrans x y z h1 h2 := by rw [ltD] at *; simp only [decide_eq_false_iff_not] at *; omega
theorem totD (x y : Int) (h1 : ltOf cfD x y = false) (h2 : ltOf cfD y x = false) : x = y := by
  rw [ltD] at *; simp only [decide_eq_false_iff_not] at *; omega
theorem sortLow_any (g cap : Nat) (t : TypeId) (rs : List Int) (w : World) (hl : rs.length ≤ 100) (hg : Blk w g t (ints rs)) :
    Calls Tryz.prog 99 #[.slice (some ⟨g, 0, none⟩) rs.length cap, .func (.func 150) #[] #[]] w (SortedB g t w (fun K => K = descR rs)) := by
  have eg : ∀ args w, (callFunc 150 args).run Tryz.prog w = .ok (.enter 150 args) w := enters_of Tryz.func150 (by kernel_rfl) rfl
  have hH := holdsG (Value.int .i64) (fun x => x) (fun x => rfl) hg rs (List.map_id' _)
  have hC : CmpLays1 Tryz.prog 150 #[] (Value.int .i64) cfD g 0 rs.toArray.size w := by
    intro m os dk hs x y
    refine (lowCmp_any x y _).mono ?_
    rintro e w' ⟨he, hw⟩
    exact ⟨he, 0, #[], by rw [grow_empty]; exact hw.symm⟩
  have hS := Tryz.slices_SortFunc_total (Value.int .i64) (fun _ => rfl) cfD swoD 150 #[] g 0 cap rs.toArray w eg hC hH hg.lt (by simp; omega) totD
  have e0 : rs.toArray.size = rs.length := by simp
  rw [e0] at hS
  refine hS.mono ?_
  rintro e w' ⟨he, n, os, rfl⟩
  refine ⟨he, ⟨descR rs, rfl, ?_⟩, sortWorld_grown ..⟩
  have hle : (fun x y : Int => !(ltOf cfD) y x) = fun x y : Int => decide (y ≤ x) := by
    funext x y
    rw [ltD, Bool.eq_iff_iff]
    simp
  have := sortWorld_blkG (Value.int .i64) (fun x => x) (fun x => rfl) w g n t rs (descR rs) os hg (descR_len rs)
  rw [List.map_id'] at this
  show Blk (sortWorld _ w g 0 n (rs.toArray.toList.mergeSort _).toArray os) _ _ _
  rw [hle]
  exact this

/-- The low ranks of the first k cards, and zeros. -/
def lr0 (xs : List Int) (k : Nat) : List Int := lrs (xs.take k) ++ List.replicate (xs.length - k) 0
theorem lr0_zero (xs : List Int) : lr0 xs 0 = List.replicate xs.length 0 := by unfold lr0 lrs; simp
theorem lr0_len (xs : List Int) (k : Nat) (hk : k ≤ xs.length) : (lr0 xs k).length = xs.length := by
  unfold lr0; rw [List.length_append, lrs_len, List.length_take, List.length_replicate]; omega
theorem lr0_step (xs : List Int) (k : Nat) (hk : k < xs.length) : (lr0 xs k).set k (lr (nth xs k)) = lr0 xs (k + 1) := by
  unfold lr0
  have hl : (lrs (xs.take k)).length = k := by rw [lrs_len, List.length_take]; omega
  rw [List.set_append_right _ _ (by omega), hl, Nat.sub_self, take_nth xs k hk]
  have e : List.replicate (xs.length - k) (0 : Int) = 0 :: List.replicate (xs.length - (k + 1)) 0 := by
    rw [← List.replicate_succ]; congr 1; omega
  rw [e, List.set_cons_zero]
  unfold lrs
  rw [List.map_append, List.append_assoc]
  rfl
theorem lr0_all (xs : List Int) : lr0 xs xs.length = lrs xs := by unfold lr0; rw [take_len]; simp
/-- A new block of numbers, as a slice. -/
def NewB (ys : List Int) (w : World) (e : Ending) (w' : World) : Prop := e = .returned (.slice (some ⟨w.heap.size, 0, none⟩) ys.length ys.length) ∧ Blk w' w.heap.size 2 (ints ys) ∧ Below w.heap.size w w'
set_option maxRecDepth 100000 in
set_option maxHeartbeats 2000000 in
theorem lowRanksOf_any (A : Option Addr) (c : Nat) (xs : List Int) (w : World) (hr : Rd w A xs) (hl : xs.length ≤ 100) (hc : ∀ x ∈ xs, 0 ≤ x ∧ x < 52) :
    Calls Tryz.prog 147 #[.slice A xs.length c] w (NewB (descR (lrs xs)) w) := by
  have HR := Lib.hid hr
  have HC := Lib.hid hc
  clear hr hc
  obtain ⟨i0, hi, hz0, hz1, hz2⟩ := info_parts infoInt
  have hmk := fun W => run_makeN 26 2 i0 Tryz.underlying26 hi hz0 hz1 hz2 xs.length hl W
  clear hi hz0 hz1 hz2
  obtain ⟨w0, rfl⟩ : ∃ w0 : World, w0 = w := ⟨w, rfl⟩
  have HS : Hid (Blk (w0.alloc (.cells (ints (List.replicate xs.length 0)).toArray 2)) w0.heap.size 2 (ints (lr0 xs 0)) ∧ Below w0.heap.size w0 (w0.alloc (.cells (ints (List.replicate xs.length 0)).toArray 2))) := Lib.hid ⟨by rw [lr0_zero]; exact blk_new w0 2 _, bl_alloc (bl_refl w0) _⟩
  go_enter Tryz.func147, Tryz.ntmps147
  go_wp2_with fail
  go_loopw [11] (fun i wr => ∃ k : Nat, k ≤ xs.length ∧ i = .int .i64 k ∧ Hid (Blk wr w0.heap.size 2 (ints (lr0 xs k)) ∧ Below w0.heap.size w0 wr)) (fun i _ => xs.length - (intOf i).toNat)
  case atStart => exact ⟨0, by omega, rfl, HS⟩
  case round =>
    obtain ⟨k, hk, rfl, hs⟩ := hrel
    by_cases hlt : k < xs.length
    · have hlt' : (k : Int) < xs.length := by omega
      obtain ⟨b, off, rfl, c1⟩ := HR.out.at_ hs.out.2 k hlt
      have hx := HC.out _ (nth_mem xs k hlt)
      have KR := Lib.hid (fun W => lowRank_any (nth xs k) W hx.1 hx.2)
      obtain ⟨c3, f3⟩ := hs.out.1.int k (by rw [lr0_len xs k hk]; exact hlt)
      have hset := blk_setI hs.out.1 k (lr (nth xs k))
      rw [lr0_step xs k hlt] at hset
      have HP := Lib.hid (And.intro hset.1 (bl_blk hs.out.2 hset.2 (Nat.le_refl _)))
      generalize lr (nth xs k) = y at *
      generalize nth (lr0 xs k) k = z at *
      generalize nth xs k = x at *
      clear hset
      go_wp2_with (go_at_call 149; refine (KR.out _).mono ?_; rintro e w1 ⟨rfl, rfl⟩)
      go_roundw
      case rel => exact ⟨k + 1, by omega, by go_num, HP⟩
      case measure => simp [intOf]; omega
    · obtain rfl : k = xs.length := by omega
      have h := hs.out
      rw [lr0_all] at h
      have LL : (lrs xs).length = xs.length := lrs_len xs
      have KS := Lib.hid (sortLow_any w0.heap.size xs.length 2 (lrs xs) wr (by omega) h.1)
      rw [LL] at KS
      have HB := Lib.hid h.2
      clear h hs
      go_wp2_with (go_at_call 99; refine KS.out.mono ?_; rintro e w2 ⟨rfl, ⟨K, rfl, hk2⟩, hg2⟩; have B2 := Lib.hid (bl_blk HB.out hg2 (Nat.le_refl _)); have K2 := Lib.hid hk2; clear hk2 hg2)
      go_ret
      exact ⟨by rw [descR_len, LL]; rfl, K2.out, B2.out⟩
end Go.Proofs.YtlpkaflmhdgmmaaGreatDoor
