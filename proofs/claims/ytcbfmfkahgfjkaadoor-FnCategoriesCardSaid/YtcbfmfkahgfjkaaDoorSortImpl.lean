/-
  slices.SortFunc at five ranks, by the program's order.
-/
import Derived.Test.YtcbfmfkahgfjkaaDoorCmpImpl
import Derived.Test.YtcbfmfkahgfjkaaDoorShelf
import Derived.Test.YtcbfmfkahgfjkaaDoorBlk
import Derived.Shelf.GgSortFunc.SW
namespace Go.Proofs.YtcbfmfkahgfjkaaDoor
open Go.RowKit Go.Sort Go.Lib Go.Shelf
set_option linter.unusedVariables false

/-- A rank of a card. -/
abbrev R13 := { x : Int // 0 ≤ x ∧ x < 13 }
instance : Inhabited R13 := ⟨⟨0, by omega⟩⟩
def encR (x : R13) : Value := .int .i64 x.1
def upR (rs : List Int) (h : ∀ r ∈ rs, 0 ≤ r ∧ r < 13) : List R13 := rs.pmap (fun r hr => (⟨r, hr⟩ : R13)) h
theorem upR_val (rs : List Int) (h : ∀ r ∈ rs, 0 ≤ r ∧ r < 13) : (upR rs h).map (·.1) = rs := by
  unfold upR
  rw [List.map_pmap]
  simp
instance leK_dec (rs : List Int) (x y : Int) : Decidable (leK rs x y) := by unfold leK; infer_instance
theorem upR_len (rs : List Int) (h : ∀ r ∈ rs, 0 ≤ r ∧ r < 13) : (upR rs h).length = rs.length := by
  have := congrArg List.length (upR_val rs h)
  simpa using this
/-- The order, at ranks. -/
def cfR (f : Int → Int) (x y : R13) : Int := ordF f x.1 y.1
theorem ltR (f : Int → Int) (x y : R13) : ltOf (cfR f) x y = decide (f y.1 < f x.1 ∨ (f x.1 = f y.1 ∧ y.1 < x.1)) := by
  unfold ltOf cfR ordF orI cmpI
  rw [decide_eq_decide]
  repeat' split
  all_goals omega
theorem swoR (f : Int → Int) : SWO (ltOf (cfR f)) where
  irrefl x := by rw [ltR]; simp
  trans x y z h1 h2 := by rw [ltR] at *; simp only [decide_eq_true_eq] at *; omega
  ntrans x y z h1 h2 := by rw [ltR] at *; simp only [decide_eq_false_iff_not] at *; omega
theorem totR (f : Int → Int) (x y : R13) (h1 : ltOf (cfR f) x y = false) (h2 : ltOf (cfR f) y x = false) : x = y := by
  rw [ltR] at *; simp only [decide_eq_false_iff_not] at *
  exact Subtype.ext (by omega)

/-- What the sort leaves of the ranks. -/
theorem sorted_kk (rs : List Int) (h : ∀ r ∈ rs, 0 ≤ r ∧ r < 13) (h4 : ∀ r, occ rs r ≤ 4) :
    ((upR rs h).mergeSort (fun x y => !(ltOf (cfR (fun r => (occ rs r : Int)))) y x)).map (·.1) = kk rs := by
  have hle : (fun x y : R13 => !(ltOf (cfR (fun r => (occ rs r : Int)))) y x) = fun x y : R13 => decide (leK rs x.1 y.1) := by
    funext x y
    rw [ltR]
    rw [Bool.eq_iff_iff]
    simp only [Bool.not_eq_true', decide_eq_false_iff_not, decide_eq_true_eq]
    unfold leK
    omega
  rw [hle]
  have hp := List.mergeSort_perm (upR rs h) (fun x y : R13 => decide (leK rs x.1 y.1))
  have hs := List.pairwise_mergeSort (le := fun x y : R13 => decide (leK rs x.1 y.1))
    (fun a b c h1 h2 => by simp only [decide_eq_true_eq] at *; unfold leK at *; omega) (fun a b => by simp only [Bool.or_eq_true, decide_eq_true_eq]; unfold leK; omega) (upR rs h)
  refine kk_unique rs _ h h4 ?_ ?_
  · have := hp.map (·.1)
    rw [upR_val] at this
    exact this
  · rw [List.pairwise_map]
    exact hs.imp (fun h => by simpa using h)

theorem sortWorld_heap {α : Type} [Inhabited α] (enc : α → Value) (w : World) (blk off n : Nat) (d : Array α) (os : Array Obj) (k : Nat) (hk : k < w.heap.size) (hne : k ≠ blk) : (sortWorld enc w blk off n d os).heap[k]? = w.heap[k]? := by
  unfold sortWorld grow putRow mapBlock Sort.ahead
  simp only
  rw [Array.getElem?_append_left (by simpa using hk), Array.getElem?_modify, if_neg (fun e => hne e.symm)]
theorem sortWorld_grown {α : Type} [Inhabited α] (enc : α → Value) (w : World) (blk off n : Nat) (d : Array α) (os : Array Obj) : w.grownBy (sortWorld enc w blk off n d os) (some blk) :=
  ⟨rfl, rfl, rfl, by unfold sortWorld grow putRow mapBlock Sort.ahead; simp, fun k hk hne => sortWorld_heap enc w blk off n d os k hk (fun e => hne (by rw [e]))⟩
theorem sortWorld_blk (w : World) (blk n : Nat) (t : TypeId) (xs : List Int) (d : List R13) (os : Array Obj) (h : Blk w blk t (ints xs)) (hl : d.length = xs.length) : Blk (sortWorld encR w blk 0 n d.toArray os) blk t (ints (d.map (·.1))) := by
  have hlt := h.lt
  unfold Blk at h ⊢
  unfold sortWorld grow putRow mapBlock Sort.ahead
  simp only
  rw [Array.getElem?_append_left (by simpa using hlt), Array.getElem?_modify, if_pos rfl, h, Option.map_some]
  unfold onCells
  simp only
  congr 2
  apply Array.ext_getElem?
  intro i
  unfold putCells
  rw [Array.getElem?_mapIdx]
  by_cases hi : i < xs.length
  · rw [List.getElem?_toArray, ints_get xs i hi]
    simp only [Option.map_some, List.size_toArray, Nat.zero_add, Nat.zero_le, true_and, hl, hi, if_true, Nat.sub_zero]
    rw [List.getElem?_toArray]
    unfold ints
    simp only [List.map_map, List.getElem?_map]
    rw [List.getElem?_eq_getElem (by omega)]
    simp [encR, hl, hi]
  · rw [List.getElem?_toArray, List.getElem?_toArray, List.getElem?_eq_none (by rw [ints_length]; omega), List.getElem?_eq_none (by rw [ints_length, List.length_map]; omega)]
    rfl

/-- What the sort leaves. -/
def Sorted5 (g : Nat) (t : TypeId) (K : List Int) (w : World) (e : Ending) (w' : World) : Prop := e = .returned (.tuple #[]) ∧ Blk w' g t (ints K) ∧ w.grownBy w' (some g)

theorem order_lays (g c : Nat) (f : Int → Int) (t tc : TypeId) (xs cs : List Int) (w : World) (hc : Blk w c tc (ints cs)) (hl : cs.length = 13) (hcs : ∀ j : Nat, j < 13 → nth cs j = f (j : Int)) (hne : c ≠ g) (size : Nat) :
    CmpLays1 Tryd.prog 106 #[.pointer (some ⟨c, 0, none⟩)] encR (cfR f) g 0 size w := by
  intro m os dk hs x y
  have hlt := hc.lt
  have hg := (sortWorld_grown encR w g 0 m dk os)
  have hb : Blk (sortWorld encR w g 0 m dk os) c tc (ints cs) := hc.grown hg (fun e => hne (Option.some.inj e))
  obtain ⟨x, hx⟩ := x
  obtain ⟨y, hy⟩ := y
  obtain ⟨a, rfl⟩ := Int.eq_ofNat_of_zero_le hx.1
  obtain ⟨b, rfl⟩ := Int.eq_ofNat_of_zero_le hy.1
  have := order_any c f a b (sortWorld encR w g 0 m dk os) (by omega) (by omega) hb.lt (fun j hj => by rw [(hb.int j (by omega)).1, hcs j hj])
  exact this
theorem sort_any (g c cap : Nat) (t tc : TypeId) (rs cs : List Int) (w : World) (h : ∀ r ∈ rs, 0 ≤ r ∧ r < 13) (h4 : ∀ r, occ rs r ≤ 4) (h5 : rs.length = 5) (hg : Blk w g t (ints rs)) (hc : Blk w c tc (ints cs)) (hl : cs.length = 13) (hcs : ∀ j : Nat, j < 13 → nth cs j = (occ rs (j : Int) : Int)) (hne : c ≠ g) :
    Calls Tryd.prog 105 #[.slice (some ⟨g, 0, none⟩) 5 cap, .func (.func 106) #[] #[.pointer (some ⟨c, 0, none⟩)]] w (Sorted5 g t (kk rs) w) := by
  have hsz : (upR rs h).toArray.size = 5 := by rw [List.size_toArray, upR_len, h5]
  have eg : ∀ args w, (callFunc 106 args).run Tryd.prog w = .ok (.enter 106 args) w := enters_of Tryd.func106 (by kernel_rfl) rfl
  have hH : Holds encR w g 0 (upR rs h).toArray := by
    intro j hj
    rw [hsz] at hj
    have hj' : j < rs.length := by omega
    rw [Nat.zero_add]
    refine ⟨?_, (hg.int j hj').2⟩
    rw [(hg.int j hj').1]
    have hu : j < (upR rs h).length := by rw [upR_len]; omega
    have : ((upR rs h).toArray[j]!).1 = nth rs j := by
      rw [nth_eq rs j hj']
      have e := upR_val rs h
      have : (upR rs h).toArray[j]! = (upR rs h)[j] := by simp [hu]
      rw [this]
      have e2 : ((upR rs h).map (·.1))[j]'(by simpa using hu) = rs[j] := by simp only [e]
      simpa using e2
    unfold encR
    rw [this]
  have hS := Tryd.slices_SortFunc_total encR (fun _ => rfl) (cfR (fun r => (occ rs r : Int))) (swoR _) 106 #[.pointer (some ⟨c, 0, none⟩)] g 0 cap (upR rs h).toArray w eg
    (order_lays g c _ t tc rs cs w hc hl hcs hne _) hH hg.lt (by rw [hsz]; omega) (totR _)
  rw [hsz] at hS
  refine hS.mono ?_
  rintro e w' ⟨he, n, os, rfl⟩
  refine ⟨he, ?_, sortWorld_grown ..⟩
  have hlen := (List.mergeSort_perm (upR rs h) (fun x y : R13 => !(ltOf (cfR (fun r => (occ rs r : Int)))) y x)).length_eq
  have := sortWorld_blk w g n t rs _ os hg (by rw [hlen, upR_len])
  rw [sorted_kk rs h h4] at this
  exact this
end Go.Proofs.YtcbfmfkahgfjkaaDoor
