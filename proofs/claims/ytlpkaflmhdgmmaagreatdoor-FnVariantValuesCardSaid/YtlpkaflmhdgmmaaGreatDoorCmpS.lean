/-
  Put together: CmpImpl, SortImpl, ShapeImpl
-/
import Derived.Test.YtlpkaflmhdgmmaaGreatDoorSpecH
import Derived.Test.YtlpkaflmhdgmmaaGreatDoorCmpNum
import Derived.Deep.RegionWith
import Derived.Sort.Grow
import Derived.Test.YtlpkaflmhdgmmaaGreatDoorShelf
import Derived.Test.YtlpkaflmhdgmmaaGreatDoorBase
import Derived.Shelf.GgSortFunc.SW
import Derived.StillTailTactics
import Derived.Test.YtlpkaflmhdgmmaaGreatDoorAggI

/-! cmp.Compare, cmp.Or, and the order of ranks that the program sorts by. -/
namespace Go.Proofs.YtlpkaflmhdgmmaaGreatDoor
open Go.RowKit
set_option linter.unusedVariables false

set_option maxRecDepth 100000 in
set_option maxHeartbeats 1000000 in
theorem or_any (b : Nat) (p q : Int) (w : World) (h0 : w.cell? ⟨b, 0, none⟩ = some (.int .i64 p)) (h1 : w.cell? ⟨b, 1, none⟩ = some (.int .i64 q)) :
    Calls Tryz.prog 101 #[.slice (some ⟨b, 0, none⟩) 2 2] w (Same (.int .i64 (orI p q)) w) := by
  by_cases hp : p = 0
  · by_cases hq : q = 0
    · have H : Hid (orI p q = 0) := Lib.hid (by unfold orI; rw [if_pos hp, hq])
      subst hp hq
      go_enter Tryz.func101, Tryz.ntmps101
      go_wp2_with fail
      go_loop [8] (fun i => ∃ k : Nat, k ≤ 2 ∧ i = .int .i64 k) (fun i => 2 - (intOf i).toNat)
      case atStart => exact ⟨0, by omega, rfl⟩
      case round =>
        obtain ⟨k, hk, rfl⟩ := hrel
        rcases k with _ | _ | _ | k
        · go_wp2_with fail
          go_round
          case rel => exact ⟨1, by omega, by go_num⟩
          case measure => simp [intOf]
        · go_wp2_with fail
          go_round
          case rel => exact ⟨2, by omega, by go_num⟩
          case measure => simp [intOf]
        · go_wp2_with fail
          go_ret
          exact ⟨ret_int H.out.symm, rfl⟩
        · omega
    · have H : Hid (orI p q = q) := Lib.hid (by unfold orI; rw [if_pos hp])
      have hq' : (q != 0) = true := by simpa using hq
      have hq2 : (q == 0) = false := by simpa using hq
      subst hp
      clear hq
      go_enter Tryz.func101, Tryz.ntmps101
      go_wp2_with fail
      go_loop [8] (fun i => ∃ k : Nat, k ≤ 1 ∧ i = .int .i64 k) (fun i => 2 - (intOf i).toNat)
      case atStart => exact ⟨0, by omega, rfl⟩
      case round =>
        obtain ⟨k, hk, rfl⟩ := hrel
        rcases k with _ | _ | k
        · go_wp2_with fail
          go_round
          case rel => exact ⟨1, by omega, by go_num⟩
          case measure => simp [intOf]
        · go_wp2_with fail
          go_ret
          exact ⟨ret_int H.out.symm, rfl⟩
        · omega
  · have H : Hid (orI p q = p) := Lib.hid (by unfold orI; rw [if_neg hp])
    have hp' : (p != 0) = true := by simpa using hp
    have hp2 : (p == 0) = false := by simpa using hp
    clear hp
    go_enter Tryz.func101, Tryz.ntmps101
    go_wp2_with fail
    go_loop [8] (fun i => i = .int .i64 0) (fun i => 0)
    case atStart => rfl
    case round =>
      subst hrel
      go_wp2_with fail
      go_ret
      exact ⟨ret_int H.out.symm, rfl⟩

/-- The order of ranks: how often they occur, then the ranks. -/
def ordF (f : Int → Int) (x y : Int) : Int := orI (cmpI (f y) (f x)) (cmpI y x)
/-- What the order leaves: a new row of two numbers. -/
def Ordered (v : Int) (w : World) (e : Ending) (w' : World) : Prop := e = .returned (.int .i64 v) ∧ ∃ q os, w' = Go.Sort.grow (w.drewN q) os

set_option maxRecDepth 100000 in
set_option maxHeartbeats 2000000 in
theorem order_any (g : Nat) (f : Int → Int) (x y : Nat) (w : World) (hx : x < 13) (hy : y < 13) (hg : g < w.heap.size) (hc : ∀ j : Nat, j < 13 → w.cell? ⟨g, j, none⟩ = some (.int .i64 (f (j : Int)))) :
    Calls Tryz.prog 100 #[.int .i64 x, .int .i64 y, .pointer (some ⟨g, 0, none⟩)] w (Ordered (ordF f x y) w) := by
  have hcx := hc x hx
  have hcy := hc y hy
  have KC := Lib.hid compare_any
  have EO : Hid (ordF f x y = orI (cmpI (f y) (f x)) (cmpI y x)) := Lib.hid rfl
  generalize f (x : Int) = fx at *
  generalize f (y : Int) = fy at *
  clear hc
  go_enter Tryz.func100, Tryz.ntmps100
  go_wp2_with fail
  go_region_with ((first
    | (go_at_call 102; refine (KC.out _ _ _).mono ?_; rintro e w1 ⟨rfl, rfl⟩)
    | (go_at_call 101; refine (or_any _ _ _ _ (by simp [go_sem]; rfl) (by simp [go_sem]; rfl)).mono ?_; rintro e w2 ⟨rfl, rfl⟩)))
  all_goals
    go_wp2_with fail
    go_ret
    exact ⟨ret_int EO.out.symm, 1, #[_], by rw [← Go.Sort.alloc_eq_grow]; rfl⟩
end Go.Proofs.YtlpkaflmhdgmmaaGreatDoor

/-! slices.SortFunc at five ranks, by the program's order. -/
namespace Go.Proofs.YtlpkaflmhdgmmaaGreatDoor
open Go.RowKit Go.Sort Go.Lib Go.Shelf
set_option linter.unusedVariables false

/-- A rank of a card. -/
abbrev R13 := { x : Int // 0 ≤ x ∧ x < 13 }
instance : Inhabited R13 := ⟨⟨0, by omega⟩⟩
def encR (x : R13) : Value := .int .i64 x.1
def upR (rs : List Int) (h : ∀ r ∈ rs, 0 ≤ r ∧ r < 13) : List R13 := rs.pmap (fun r hr => (⟨r, hr⟩ : R13)) h
theorem upR_val (rs : List Int) (h : ∀ r ∈ rs, 0 ≤ r ∧ r < 13) : (upR rs h).map (·.1) = rs := by
  unfold upR
  rw [List.map_pmap]
  simp
instance leK_dec (rs : List Int) (x y : Int) : Decidable (leK rs x y) := by unfold leK; infer_instance
theorem upR_len (rs : List Int) (h : ∀ r ∈ rs, 0 ≤ r ∧ r < 13) : (upR rs h).length = rs.length := by
  have := congrArg List.length (upR_val rs h)
  simpa using this
/-- The order, at ranks. -/
def cfR (f : Int → Int) (x y : R13) : Int := ordF f x.1 y.1
theorem ltR (f : Int → Int) (x y : R13) : ltOf (cfR f) x y = decide (f y.1 < f x.1 ∨ (f x.1 = f y.1 ∧ y.1 < x.1)) := by
  unfold ltOf cfR ordF orI cmpI
  rw [decide_eq_decide]
  repeat' split
  all_goals omega
theorem swoR (f : Int → Int) : SWO (ltOf (cfR f)) where
  irrefl x := by rw [ltR]; simp
  trans x y z h1 h2 := by rw [ltR] at *; simp only [decide_eq_true_eq] at *; omega
  ntrans x y z h1 h2 := by rw [ltR] at *; simp only [decide_eq_false_iff_not] at *; omega
theorem totR (f : Int → Int) (x y : R13) (h1 : ltOf (cfR f) x y = false) (h2 : ltOf (cfR f) y x = false) : x = y := by
  rw [ltR] at *; simp only [decide_eq_false_iff_not] at *
  exact Subtype.ext (by omega)

/-- What the sort leaves of the ranks. -/
theorem sorted_kk (rs : List Int) (h : ∀ r ∈ rs, 0 ≤ r ∧ r < 13) (h4 : ∀ r, occ rs r ≤ 4) :
    ((upR rs h).mergeSort (fun x y => !(ltOf (cfR (fun r => (occ rs r : Int)))) y x)).map (·.1) = kk rs := by
  have hle : (fun x y : R13 => !(ltOf (cfR (fun r => (occ rs r : Int)))) y x) = fun x y : R13 => decide (leK rs x.1 y.1) := by
    funext x y
    rw [ltR]
    rw [Bool.eq_iff_iff]
    simp only [Bool.not_eq_true', decide_eq_false_iff_not, decide_eq_true_eq]
    unfold leK
    omega
  rw [hle]
  have hp := List.mergeSort_perm (upR rs h) (fun x y : R13 => decide (leK rs x.1 y.1))
  have hs := List.pairwise_mergeSort (le := fun x y : R13 => decide (leK rs x.1 y.1))
    (fun a b c h1 h2 => by simp only [decide_eq_true_eq] at *; unfold leK at *; omega) (fun a b => by simp only [Bool.or_eq_true, decide_eq_true_eq]; unfold leK; omega) (upR rs h)
  refine kk_unique rs _ h h4 ?_ ?_
  · have := hp.map (·.1)
    rw [upR_val] at this
    exact this
  · rw [List.pairwise_map]
    exact hs.imp (fun h => by simpa using h)

theorem sortWorld_heap {α : Type} [Inhabited α] (enc : α → Value) (w : World) (blk off n : Nat) (d : Array α) (os : Array Obj) (k : Nat) (hk : k < w.heap.size) (hne : k ≠ blk) : (sortWorld enc w blk off n d os).heap[k]? = w.heap[k]? := by
  unfold sortWorld grow putRow mapBlock Sort.ahead
  simp only
  rw [Array.getElem?_append_left (by simpa using hk), Array.getElem?_modify, if_neg (fun e => hne e.symm)]
theorem sortWorld_grown {α : Type} [Inhabited α] (enc : α → Value) (w : World) (blk off n : Nat) (d : Array α) (os : Array Obj) : w.grownBy (sortWorld enc w blk off n d os) (some blk) :=
  ⟨rfl, rfl, rfl, by unfold sortWorld grow putRow mapBlock Sort.ahead; simp, fun k hk hne => sortWorld_heap enc w blk off n d os k hk (fun e => hne (by rw [e]))⟩
theorem sortWorld_blk (w : World) (blk n : Nat) (t : TypeId) (xs : List Int) (d : List R13) (os : Array Obj) (h : Blk w blk t (ints xs)) (hl : d.length = xs.length) : Blk (sortWorld encR w blk 0 n d.toArray os) blk t (ints (d.map (·.1))) := by
  have hlt := h.lt
  unfold Blk at h ⊢
  unfold sortWorld grow putRow mapBlock Sort.ahead
  simp only
  rw [Array.getElem?_append_left (by simpa using hlt), Array.getElem?_modify, if_pos rfl, h, Option.map_some]
  unfold onCells
  simp only
  congr 2
  apply Array.ext_getElem?
  intro i
  unfold putCells
  rw [Array.getElem?_mapIdx]
  by_cases hi : i < xs.length
  · rw [List.getElem?_toArray, ints_get xs i hi]
    simp only [Option.map_some, List.size_toArray, Nat.zero_add, Nat.zero_le, true_and, hl, hi, if_true, Nat.sub_zero]
    rw [List.getElem?_toArray]
    unfold ints
    simp only [List.map_map, List.getElem?_map]
    rw [List.getElem?_eq_getElem (by omega)]
    simp [encR, hl, hi]
  · rw [List.getElem?_toArray, List.getElem?_toArray, List.getElem?_eq_none (by rw [ints_length]; omega), List.getElem?_eq_none (by rw [ints_length, List.length_map]; omega)]
    rfl

/-- What the sort leaves. -/
def Sorted5 (g : Nat) (t : TypeId) (K : List Int) (w : World) (e : Ending) (w' : World) : Prop := e = .returned (.tuple #[]) ∧ Blk w' g t (ints K) ∧ w.grownBy w' (some g)

theorem order_lays (g c : Nat) (f : Int → Int) (t tc : TypeId) (xs cs : List Int) (w : World) (hc : Blk w c tc (ints cs)) (hl : cs.length = 13) (hcs : ∀ j : Nat, j < 13 → nth cs j = f (j : Int)) (hne : c ≠ g) (size : Nat) :
    CmpLays1 Tryz.prog 100 #[.pointer (some ⟨c, 0, none⟩)] encR (cfR f) g 0 size w := by
  intro m os dk hs x y
  have hlt := hc.lt
  have hg := (sortWorld_grown encR w g 0 m dk os)
  have hb : Blk (sortWorld encR w g 0 m dk os) c tc (ints cs) := hc.grown hg (fun e => hne (Option.some.inj e))
  obtain ⟨x, hx⟩ := x
  obtain ⟨y, hy⟩ := y
  obtain ⟨a, rfl⟩ := Int.eq_ofNat_of_zero_le hx.1
  obtain ⟨b, rfl⟩ := Int.eq_ofNat_of_zero_le hy.1
  have := order_any c f a b (sortWorld encR w g 0 m dk os) (by omega) (by omega) hb.lt (fun j hj => by rw [(hb.int j (by omega)).1, hcs j hj])
  exact this
theorem sort_any (g c cap : Nat) (t tc : TypeId) (rs cs : List Int) (w : World) (h : ∀ r ∈ rs, 0 ≤ r ∧ r < 13) (h4 : ∀ r, occ rs r ≤ 4) (h5 : rs.length = 5) (hg : Blk w g t (ints rs)) (hc : Blk w c tc (ints cs)) (hl : cs.length = 13) (hcs : ∀ j : Nat, j < 13 → nth cs j = (occ rs (j : Int) : Int)) (hne : c ≠ g) :
    Calls Tryz.prog 99 #[.slice (some ⟨g, 0, none⟩) 5 cap, .func (.func 100) #[] #[.pointer (some ⟨c, 0, none⟩)]] w (Sorted5 g t (kk rs) w) := by
  have hsz : (upR rs h).toArray.size = 5 := by rw [List.size_toArray, upR_len, h5]
  have eg : ∀ args w, (callFunc 100 args).run Tryz.prog w = .ok (.enter 100 args) w := enters_of Tryz.func100 (by kernel_rfl) rfl
  have hH : Holds encR w g 0 (upR rs h).toArray := by
    intro j hj
    rw [hsz] at hj
    have hj' : j < rs.length := by omega
    rw [Nat.zero_add]
    refine ⟨?_, (hg.int j hj').2⟩
    rw [(hg.int j hj').1]
    have hu : j < (upR rs h).length := by rw [upR_len]; omega
    have : ((upR rs h).toArray[j]!).1 = nth rs j := by
      rw [nth_eq rs j hj']
      have e := upR_val rs h
      have : (upR rs h).toArray[j]! = (upR rs h)[j] := by simp [hu]
      rw [this]
      have e2 : ((upR rs h).map (·.1))[j]'(by simpa using hu) = rs[j] := by simp only [e]
      simpa using e2
    unfold encR
    rw [this]
  have hS := Tryz.slices_SortFunc_total encR (fun _ => rfl) (cfR (fun r => (occ rs r : Int))) (swoR _) 100 #[.pointer (some ⟨c, 0, none⟩)] g 0 cap (upR rs h).toArray w eg
    (order_lays g c _ t tc rs cs w hc hl hcs hne _) hH hg.lt (by rw [hsz]; omega) (totR _)
  rw [hsz] at hS
  refine hS.mono ?_
  rintro e w' ⟨he, n, os, rfl⟩
  refine ⟨he, ?_, sortWorld_grown ..⟩
  have hlen := (List.mergeSort_perm (upR rs h) (fun x y : R13 => !(ltOf (cfR (fun r => (occ rs r : Int)))) y x)).length_eq
  have := sortWorld_blk w g n t rs _ os hg (by rw [hlen, upR_len])
  rw [sorted_kk rs h h4] at this
  exact this
end Go.Proofs.YtlpkaflmhdgmmaaGreatDoor

/-! The shape of five ranks: how often they occur, and the sort. -/
namespace Go.Proofs.YtlpkaflmhdgmmaaGreatDoor
open Go.RowKit
set_option linter.unusedVariables false

/-- Five numbers by value; a shape by value. -/
def shapeL (K : List Int) (m n : Int) (o : Bool) : List Value := ints K ++ [.int .i64 m, .int .i64 n, .bool o]
theorem shapeL_length (K : List Int) (m n : Int) (o : Bool) : (shapeL K m n o).length = K.length + 3 := by simp [shapeL, ints_length]
theorem u53 : Tryz.prog.underlying 93 = some (.array 5 2) := by kernel_rfl
theorem i53 : (Tryz.prog.info? 93).map (·.size) = some 5 := by kernel_rfl
theorem i55 : (Tryz.prog.info? 95).map (·.size) = some 8 := by kernel_rfl
theorem shapeL_one (K : List Int) (m n : Int) (o : Bool) : ∀ v ∈ shapeL K m n o, v.oneCell' = true := fun v hv => by
  unfold shapeL at hv
  rcases List.mem_append.1 hv with h | h
  · unfold ints at h; obtain ⟨z, _, rfl⟩ := List.mem_map.1 h; rfl
  · simp at h; rcases h with rfl | rfl | rfl <;> rfl
theorem u51 : Tryz.prog.underlying 58 = some (.array 5 2) := by kernel_rfl
theorem i51 : (Tryz.prog.info? 58).map (·.size) = some 5 := by kernel_rfl

/-- A number at a variable index of an array by value. -/
theorem run_indexI (t : TypeId) (n k : Nat) (xs : List Int) (W : World) (hu : Tryz.prog.underlying t = some (.array n 2)) (hl : xs.length = n) (hk : k < n) :
    (Instr.index t (.agg (ints xs).toArray) (.int .i64 k)).run Tryz.prog W = .ok (.int .i64 (nth xs k)) W := by
  have h1 : (0 : Int) ≤ (k : Int) ∧ (k : Int) < n := by omega
  have hg : (ints xs)[k]? = some (.int .i64 (nth xs k)) := ints_get xs k (by omega)
  obtain ⟨i0, hi, hz0, hz1, hz2⟩ := info_parts infoInt
  simp [Instr.index, run_underlying hu, go_sem, h1, sizeOf, typeInfo, hi, hz1, part, isAgg, run_underlying Tryz.underlying2, hg]
  intro h; omega
/-- Counting ranks one by one. -/
theorem occL_snoc (rs : List Int) (x : Nat) (hx : x < 13) : (occL rs).set x ((occ rs (x : Int) : Int) + 1) = occL (rs ++ [(x : Int)]) := by
  apply List.ext_getElem?
  intro i
  rw [List.getElem?_set, occL_length]
  by_cases hi : i < 13
  · have a : (occL rs)[i]? = some (occ rs (i : Int) : Int) := by simp [occL, hi]
    have b : (occL (rs ++ [(x : Int)]))[i]? = some (occ (rs ++ [(x : Int)]) (i : Int) : Int) := by simp [occL, hi]
    rw [a, b]
    unfold occ
    rw [cnt_snoc]
    by_cases h : x = i
    · subst h; rw [if_pos rfl, if_pos hi, if_pos (by simp)]; rfl
    · rw [if_neg h, if_neg (by simp; omega)]; rfl
  · have a : (occL rs)[i]? = none := by rw [List.getElem?_eq_none]; rw [occL_length]; omega
    have b : (occL (rs ++ [(x : Int)]))[i]? = none := by rw [List.getElem?_eq_none]; rw [occL_length]; omega
    rw [a, b, if_neg (by omega)]
theorem occL_nil : occL [] = List.replicate 13 0 := by decide
/-- The counting loop's state. -/
def CountSt (w : World) (rs : List Int) (k : Nat) (wr : World) : Prop :=
  Blk wr w.heap.size 93 (ints rs) ∧ Blk wr (w.heap.size + 1) 95 (shapeL [0, 0, 0, 0, 0] 0 0 false) ∧ Blk wr (w.heap.size + 1 + 1) 119 (ints (occL (rs.take k))) ∧ Below w.heap.size w wr
theorem countSt_start (w : World) (rs : List Int) : CountSt w rs 0 (((w.alloc (.cells (ints rs).toArray 93)).alloc (.cells (shapeL [0, 0, 0, 0, 0] 0 0 false).toArray 95)).alloc (.cells (ints (List.replicate 13 0)).toArray 119)) := by
  refine ⟨((blk_new w _ _).below (bl_alloc (bl_refl _) _)).below (bl_alloc (bl_refl _) _), ?_, ?_, bl_alloc (bl_alloc (bl_alloc (bl_refl _) _) _) _⟩
  · have := (blk_new (w.alloc (.cells (ints rs).toArray 93)) 95 (shapeL [0, 0, 0, 0, 0] 0 0 false)).below (bl_alloc (bl_refl _) (.cells (ints (List.replicate 13 0)).toArray 119))
    rwa [World.size_alloc] at this
  · rw [List.take_zero, occL_nil]
    have := blk_new ((w.alloc (.cells (ints rs).toArray 93)).alloc (.cells (shapeL [0, 0, 0, 0, 0] 0 0 false).toArray 95)) 119 (ints (List.replicate 13 0))
    rwa [World.size_alloc, World.size_alloc] at this
theorem countSt_step {w wr : World} {rs : List Int} {k x : Nat} (h : CountSt w rs k wr) (hk : k < rs.length) (hx : x < 13) (e : nth rs k = (x : Int)) :
    CountSt w rs (k + 1) (wr.setCell ⟨w.heap.size + 1 + 1, x, none⟩ (.int .i64 ((occ (rs.take k) (x : Int) : Int) + 1))) := by
  obtain ⟨h1, h2, h3, h4⟩ := h
  have hs := blk_setI h3 x ((occ (rs.take k) (x : Int) : Int) + 1)
  refine ⟨h1.grown hs.2 (by simp; omega), h2.grown hs.2 (by simp), ?_, bl_blk h4 hs.2 (by omega)⟩
  rw [take_nth rs k hk, e, ← occL_snoc _ _ hx]
  exact hs.1
/-- What the shape reads behind the sort. -/
theorem kk_facts (rs : List Int) (h : ranksOk rs) (h4 : ∀ r, occ rs r ≤ 4) (h5 : rs.length = 5) :
    ∃ a m b n : Nat, a < 13 ∧ b < 13 ∧ m < 5 ∧ n < 5 ∧ nth (kk rs) 0 = (a : Int) ∧ nth (kk rs) m = (b : Int) ∧ occ rs (a : Int) = m ∧ occ rs (b : Int) = n ∧ mostK (kk rs) = m ∧ nextK (kk rs) = n ∧ (kk rs).length = 5 := by
  have hp := kk_perm rs h h4
  have hl : (kk rs).length = 5 := by rw [hp.length_eq, h5]
  have hb : ∀ i, i < 5 → ∃ x : Nat, nth (kk rs) i = (x : Int) ∧ x < 13 := fun i hi => by
    have := h _ (hp.subset (nth_mem (kk rs) i (by omega)))
    exact ⟨(nth (kk rs) i).toNat, by omega, by omega⟩
  obtain ⟨a, ea, ha⟩ := hb 0 (by omega)
  have hm := h4 (a : Int)
  obtain ⟨b, eb, hb'⟩ := hb (occ rs (a : Int)) (by omega)
  have e1 : mostK (kk rs) = occ rs (a : Int) := by
    unfold mostK
    rw [occ_perm hp]
    show occ rs (nth (kk rs) 0) = _
    rw [ea]
  have hn := h4 (b : Int)
  refine ⟨a, occ rs (a : Int), b, occ rs (b : Int), ha, hb', by omega, by omega, ea, eb, rfl, rfl, e1, ?_, hl⟩
  unfold nextK
  rw [occ_perm hp, e1]
  show occ rs (nth (kk rs) _) = _
  rw [eb]
/-- What shape leaves: a struct by value. -/
def ShapeOf (K : List Int) (m n : Int) (o : Bool) (w : World) (e : Ending) (w' : World) : Prop := e = .returned (.agg (shapeL K m n o).toArray) ∧ Below w.heap.size w w'

set_option maxRecDepth 100000 in
set_option maxHeartbeats 4000000 in
theorem ranksShape_any (rs : List Int) (w : World) (h : ranksOk rs) (h4 : ∀ r, occ rs r ≤ 4) (h5 : rs.length = 5) :
    Calls Tryz.prog 97 #[aggI rs] w (ShapeOf (kk rs) (mostK (kk rs)) (nextK (kk rs)) false w) := by
  have HN := Lib.hid (ranks_nth rs h)
  have H5 := Lib.hid h5
  have KS := Lib.hid (fun (cap : Nat) (W : World) (hg : Blk W w.heap.size 93 (ints rs)) (hc : Blk W (w.heap.size + 1 + 1) 119 (ints (occL rs))) =>
    sort_any w.heap.size (w.heap.size + 1 + 1) cap _ _ rs (occL rs) W h h4 h5 hg hc (occL_length rs) (fun j hj => occL_nth rs j hj) (by omega))
  obtain ⟨a, m, b, n, ha, hb, hm, hn, ea, eb, oa, ob, em, en, hkl⟩ := kk_facts rs h h4 h5
  rw [em, en]
  have EA := Lib.hid ea
  have EB := Lib.hid eb
  have OA := Lib.hid oa
  have OB := Lib.hid ob
  have KL := Lib.hid hkl
  clear h h4 h5 em en ea eb oa ob
  generalize kk rs = K at *
  obtain ⟨k0, k1, k2, k3, k4, rfl⟩ := list_five K hkl
  clear hkl
  obtain ⟨w0, rfl⟩ : ∃ w0 : World, w0 = w := ⟨w, rfl⟩
  unfold aggI
  go_enter Tryz.func97, Tryz.ntmps97
  go_wp2_with (with_reducible refine wpList_load_blk 93 _ 5 rfl (.tmp 1) rfl u53 rfl i53 w0.heap.size 0 rfl (ints rs) (by rw [ints_length, H5.out]) ?hc ?_)
  case hc => exact (countSt_start w0 rs).1.range
  have HS := Lib.hid (countSt_start w0 rs)
  go_wp2_with fail
  go_loopw [8] (fun i wr => ∃ k : Nat, k ≤ 5 ∧ i = .int .i64 k ∧ Hid (CountSt w0 rs k wr)) (fun i _ => 5 - (intOf i).toNat)
  case atStart => exact ⟨0, by omega, rfl, HS⟩
  case round =>
    obtain ⟨k, hk, rfl, hs⟩ := hrel
    by_cases hlt : k < 5
    · have hlt' : (k : Int) < 5 := by omega
      have hx := HN.out k (by rw [H5.out]; exact hlt)
      obtain ⟨x, ex⟩ := Int.eq_ofNat_of_zero_le hx.1
      have hx13 : x < 13 := by omega
      have HE := Lib.hid ex
      have hget := ints_get rs k (by rw [H5.out]; exact hlt)
      rw [ex] at hget
      obtain ⟨hc, hf⟩ := hs.out.2.2.1.int x (by rw [occL_length]; exact hx13)
      rw [occL_nth _ x hx13] at hc
      have hle := occ_le (rs.take k) (x : Int)
      have hle2 : (rs.take k).length ≤ 5 := by rw [List.length_take]; omega
      have HP := Lib.hid (countSt_step hs.out (by rw [H5.out]; exact hlt) hx13 ex)
      generalize occ (rs.take k) (x : Int) = p at *
      have hidx := fun W => run_indexI 93 5 k rs W u53 H5.out hlt
      rw [ex] at hidx
      clear ex hx hget
      go_wp2_with fail
      go_roundw
      case rel => exact ⟨k + 1, by omega, by go_num, HP⟩
      case measure => simp [intOf]; omega
    · obtain rfl : k = 5 := by omega
      have hs := hs.out
      unfold CountSt at hs
      rw [List.take_of_length_le (by rw [H5.out]; omega)] at hs
      obtain ⟨s1, s2, s3, s4⟩ := hs
      have K5 := Lib.hid (KS.out 5 wr s1 s3)
      have S2 := Lib.hid s2
      have S3 := Lib.hid s3
      have S4 := Lib.hid s4
      clear s1 s2 s3 s4 KS
      have e5 : ((5 : Nat) : Int) = 5 := rfl
      rw [e5]
      clear e5
      go_upto_region 8 with (go_at_call 99; refine K5.out.mono ?_; rintro e w5 ⟨rfl, hk5, hg5⟩; have B5 := Lib.hid hk5; have G5 := Lib.hid hg5; clear hk5 hg5)
      have T3 := Lib.hid (S3.out.grown G5.out (by simp; omega))
      have T2 := Lib.hid (S2.out.grown G5.out (by simp))
      have T4 := Lib.hid (bl_blk S4.out G5.out (Nat.le_refl _))
      have c1 : w5.cell? ⟨w0.heap.size, 0, none⟩ = some (.int .i64 k0) := (B5.out.int 0 (by simp)).1
      have ek : k0 = (a : Int) := EA.out
      subst ek
      have q1 : w5.cell? ⟨w0.heap.size, 1, none⟩ = some (.int .i64 k1) := (B5.out.int 1 (by simp)).1
      have q2 : w5.cell? ⟨w0.heap.size, 2, none⟩ = some (.int .i64 k2) := (B5.out.int 2 (by simp)).1
      have q3 : w5.cell? ⟨w0.heap.size, 3, none⟩ = some (.int .i64 k3) := (B5.out.int 3 (by simp)).1
      have q4 : w5.cell? ⟨w0.heap.size, 4, none⟩ = some (.int .i64 k4) := (B5.out.int 4 (by simp)).1
      have c2 := (B5.out.int m (by rw [KL.out]; omega)).1
      rw [EB.out] at c2
      have c3 := (T3.out.int a (by rw [occL_length]; omega)).1
      rw [occL_nth _ a ha, OA.out] at c3
      have c4 := (T3.out.int b (by rw [occL_length]; omega)).1
      rw [occL_nth _ b hb, OB.out] at c4
      have ha' : (a : Int) < 13 := by omega
      have hb' : (b : Int) < 13 := by omega
      have hm' : (m : Int) < 5 := by omega
      go_wp2_with fail
      go_still_tail 8, (by kernel_rfl)
      have hd : ({ heap := w5.heap, tape := w5.tape, drawn := w5.drawn + 1, os := w5.os, output := w5.output } : World) = w5.drew := rfl
      rw [hd]
      clear hd c1 c2 c3 c4 q1 q2 q3 q4
      have T6 : Hid (Blk w5.drew (w0.heap.size + 1) 95 (shapeL [0, 0, 0, 0, 0] 0 0 false)) := Lib.hid T2.out
      have D6 := Lib.hid (bl_drew T4.out)
      generalize w5.drew = w6 at *
      refine wpList_store_blk 95 8 rfl (.tmp 2) (.tmp 31) rfl i55 (w0.heap.size + 1) rfl (shapeL [↑a, k1, k2, k3, k4] ↑m ↑n false) rfl rfl (shapeL_one _ _ _ _) _ T6.out rfl ?_
      intro w7 hb7 hg7
      have B7 := Lib.hid hb7
      have D7 := Lib.hid (bl_blk D6.out hg7 (by omega))
      clear hb7 hg7
      go_wp2_with fail
      exact bodyPost_ret (results_cell_row Tryz.results97 _ _ (w0.heap.size + 1) _ _ _ _ rfl B7.out Tryz.underlying95 rfl i55) rfl ⟨rfl, D7.out⟩
end Go.Proofs.YtlpkaflmhdgmmaaGreatDoor
