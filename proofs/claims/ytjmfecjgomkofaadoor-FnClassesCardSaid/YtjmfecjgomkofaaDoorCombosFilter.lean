/-
  CombosOf, CombosWithout: the model's functions.
-/
import Derived.Test.YtjmfecjgomkofaaDoorCombosSpec
import Derived.Test.YtjmfecjgomkofaaDoorBase
namespace Go.Proofs.YtjmfecjgomkofaaDoor
open Go.RowKit
set_option linter.unusedVariables false

theorem combos_nil (k : Int) : combosP k [] = clsP k := by
  unfold combosP clsP
  generalize pairsOf all52 = L
  have : L.filter (fun q => !hasB [] q.1 && !hasB [] q.2) = L := List.filter_eq_self.2 (fun q _ => by simp [hasB])
  rw [this]
theorem combos_sel (k : Int) (dead : List Int) : combosP k dead = (clsP k).filter (fun q => !hasB dead q.1 && !hasB dead q.2) := combosP_dead k dead
/-- Which of the first n are taken. -/
def sel (pr : Int × Int → Bool) (P : List (Int × Int)) (n : Nat) : List Nat := (List.range n).filter (fun i => pr (P.getD i (0, 0)))
theorem sel_yes {pr : Int × Int → Bool} {P : List (Int × Int)} {n : Nat} (h : pr (P.getD n (0, 0)) = true) : sel pr P (n + 1) = sel pr P n ++ [n] := by
  unfold sel; rw [List.range_succ, List.filter_append]; simp only [List.filter_cons, h, if_true, List.filter_nil]
theorem sel_no {pr : Int × Int → Bool} {P : List (Int × Int)} {n : Nat} (h : pr (P.getD n (0, 0)) = false) : sel pr P (n + 1) = sel pr P n := by
  unfold sel; rw [List.range_succ, List.filter_append]; simp only [List.filter_cons, h, List.filter_nil]; simp
theorem sel_lt (pr : Int × Int → Bool) (P : List (Int × Int)) (n : Nat) : ∀ i ∈ sel pr P n, i < n := fun i hi => List.mem_range.1 (List.mem_filter.1 hi).1
theorem sel_nodup (pr : Int × Int → Bool) (P : List (Int × Int)) (n : Nat) : (sel pr P n).Nodup := List.nodup_range.filter _
theorem sel_len (pr : Int × Int → Bool) (P : List (Int × Int)) (n : Nat) : (sel pr P n).length ≤ n := by
  have := List.length_filter_le (fun i => pr (P.getD i (0, 0))) (List.range n); unfold sel; simpa using this
theorem sel_all (pr : Int × Int → Bool) (P : List (Int × Int)) : (sel pr P P.length).map (fun i => P.getD i (0, 0)) = P.filter pr := by
  have e : (List.range P.length).map (fun i => P.getD i (0, 0)) = P := by
    apply List.ext_getElem
    · simp
    · intro i h1 h2
      simp [h2]
  have : P.filter pr = ((List.range P.length).map (fun i => P.getD i (0, 0))).filter pr := by rw [e]
  rw [this, List.filter_map]
  rfl
/-- Slices of rows that lie there are hung to a new row of slices. -/
structure SelSt (w1 : World) (AA : Nat → Option Addr) (CC : Nat → Nat) (js : List Nat) (v : Value) (wr : World) : Prop where
  out : wr.ownsRow w1.heap.size 24 1 v js.length (js.map (fun i => .slice (AA i) 2 (CC i)))
  below : Below w1.heap.size w1 wr
theorem sel_start (w1 : World) (AA : Nat → Option Addr) (CC : Nat → Nat) : SelSt w1 AA CC [] (.slice (some ⟨w1.heap.size, 0, none⟩) 0 0) (w1.alloc (.cells #[] 24)) :=
  ⟨World.ownsRow_made w1 #[] 0 (Nat.le_refl _) (by unfold maxLen; omega) rfl, bl_alloc (bl_refl _) _⟩
theorem SelSt.next {w1 wr w' : World} {AA : Nat → Option Addr} {CC : Nat → Nat} {js : List Nat} {v : Value} (h : SelSt w1 AA CC js v wr) (hb : Below wr.heap.size wr w') : SelSt w1 AA CC js v w' :=
  ⟨World.ownsRow.kept h.out (toGrown hb none) (by cases v.ownBlock <;> simp), bl_trans h.below hb⟩
theorem SelSt.add {w1 wr w' : World} {AA : Nat → Option Addr} {CC : Nat → Nat} {js : List Nat} {v v' : Value} {j : Nat} {o : Obj} (h : SelSt w1 AA CC js v wr)
    (hown : w'.ownsRow w1.heap.size 24 1 v' (js.length + 1) (js.map (fun i => .slice (AA i) 2 (CC i)) ++ [.slice (AA j) 2 (CC j)])) (hg : (wr.alloc o).grownBy w' v.ownBlock) : SelSt w1 AA CC (js ++ [j]) v' w' := by
  refine ⟨by rw [List.length_append, List.map_append]; exact hown, ?_⟩
  have h2 := h.next (bl_alloc (bl_refl wr) o)
  exact h2.below.grown hg h2.below.size (fun q hq => (World.ownsRow.lt h.out q hq).1)
theorem Fam.congr {w : World} {lo : Nat} {A : Option Addr} {H : Nat} {R R' : Nat → List Int} {AA : Nat → Option Addr} {CC : Nat → Nat} (h : Fam w lo A H R AA CC) (he : ∀ j, j < H → R j = R' j) : Fam w lo A H R' AA CC :=
  ⟨fun h0 => by
    obtain ⟨g, off, e, hg, hc⟩ := h.outer h0
    exact ⟨g, off, e, hg, fun j hj => by rw [hc j hj, he j hj]⟩, fun j hj => by rw [← he j hj]; exact h.row j hj, h.lo, h.off, h.apart⟩
theorem SelSt.fam {w1 wr : World} {lo H : Nat} {A : Option Addr} {R : Nat → List Int} {AA : Nat → Option Addr} {CC : Nat → Nat} {js : List Nat} {v : Value} (h : SelSt w1 AA CC js v wr) (hf : Fam w1 lo A H R AA CC) (hl : lo ≤ w1.heap.size) (h2 : ∀ j, j < H → (R j).length = 2) (hj : ∀ i ∈ js, i < H) (hn : js.Nodup) :
    ∃ A' c', v = .slice A' js.length c' ∧ Fam wr lo A' js.length (fun j => R (js.getD j 0)) (fun j => AA (js.getD j 0)) (fun j => CC (js.getD j 0)) := by
  have hget : ∀ k, k < js.length → js.getD k 0 < H := fun k hk => by
    rw [List.getD_eq_getElem?_getD, List.getElem?_eq_getElem hk]
    exact hj _ (List.getElem_mem hk)
  have hb : Fam wr lo A H R AA CC := hf.below h.below
  rcases h.out.2 with ⟨rfl, h0⟩ | ⟨g, cap, cur, rfl, _⟩
  · refine ⟨none, 0, by rw [h0], ?_⟩
    rw [h0]
    exact ⟨(fun h => by omega), (fun _ h => by omega), (fun a e => by cases e), (fun _ h => by omega), (fun _ h => by omega)⟩
  · have hlt := World.ownsRow.lt h.out g rfl
    have hrow : ∀ k, k < H → ∀ a, AA k = some a → a.block < w1.heap.size := fun k hk a e => ((hf.row k hk).1 a e).2
    refine ⟨_, _, rfl, fun _ => ⟨g, 0, rfl, hlt.2, fun k hk => ?_⟩, fun k hk => hb.row _ (hget k hk), fun a e => ?_, fun k hk a e b e' => ?_, fun i hi k hk hne a e b e' => ?_⟩
    · rw [Nat.zero_add, World.ownsRow.cellAt h.out k (by omega)]
      rw [h2 _ (hget k hk), List.getElem?_map, List.getElem?_eq_getElem hk, List.getD_eq_getElem?_getD, List.getElem?_eq_getElem hk]
      rfl
    · obtain rfl := Option.some.inj e; exact ⟨Nat.le_trans hl hlt.1, hlt.2⟩
    · obtain rfl := Option.some.inj e'
      have := hrow _ (hget k hk) a e
      show a.block ≠ g
      have := hlt.1
      omega
    · refine hf.apart _ (hget i hi) _ (hget k hk) (fun q => hne ?_) a e b e'
      rw [List.getD_eq_getElem?_getD, List.getElem?_eq_getElem hi, List.getD_eq_getElem?_getD, List.getElem?_eq_getElem hk] at q
      exact (List.getElem_inj hn).1 q
theorem newFam1_of {w w' : World} {H : Nat} {R : Nat → List Int} {A : Option Addr} {c : Nat} {AA : Nat → Option Addr} {CC : Nat → Nat} {k : Int} (hf : Fam w' w.heap.size A H R AA CC) (hb : Below w.heap.size w w') : NewFam H R k w (.returned (.tuple #[.slice A H c, .int .i64 k])) w' := ⟨A, c, AA, CC, rfl, hf, hb⟩

end Go.Proofs.YtjmfecjgomkofaaDoor
