/-
  A list of lists that is made at once and filled row by row: what is kept.
-/
import Derived.Test.YtjmfecjgomkofabDoorRows2
import Derived.Test.YtjmfecjgomkofabDoorMark
namespace Go.Proofs.YtjmfecjgomkofabDoor
open Go.RowKit
set_option linter.unusedVariables false

/-- The slices of the first K rows; the rest is nil. -/
def cellsD (H K : Nat) (AA : Nat → Option Addr) (n : Nat) : List Value := (List.range H).map (fun h => if h < K then .slice (AA h) n n else .slice none 0 0)
theorem cellsD_len (H K : Nat) (AA : Nat → Option Addr) (n : Nat) : (cellsD H K AA n).length = H := by simp [cellsD]
theorem cellsD_get (H K : Nat) (AA : Nat → Option Addr) (n h : Nat) (hh : h < H) : (cellsD H K AA n)[h]? = some (if h < K then .slice (AA h) n n else .slice none 0 0) := by simp [cellsD, hh]
theorem cellsD_zero (H : Nat) (AA : Nat → Option Addr) (n : Nat) : cellsD H 0 AA n = List.replicate H (.slice none 0 0) := by
  rw [List.eq_replicate_iff]
  exact ⟨cellsD_len .., fun b hb => by simp [cellsD] at hb; exact hb.2.symm⟩
def updR (R : Nat → List Int) (k : Nat) (xs : List Int) : Nat → List Int := fun h => if h = k then xs else R h
theorem cellsD_set (H k : Nat) (AA : Nat → Option Addr) (n : Nat) (a : Option Addr) (hk : k < H) : (cellsD H k AA n).set k (.slice a n n) = cellsD H (k + 1) (updA AA k a) n := by
  apply List.ext_getElem?
  intro i
  rw [List.getElem?_set, cellsD_len]
  by_cases hi : i < H
  · rw [cellsD_get _ _ _ _ _ hi, cellsD_get _ _ _ _ _ hi]
    by_cases e : k = i
    · subst e
      rw [if_pos rfl, if_pos hi, if_pos (by omega)]
      simp [updA]
    · rw [if_neg e]
      have : ¬ i = k := fun q => e q.symm
      by_cases h2 : i < k
      · rw [if_pos h2, if_pos (by omega)]; simp [updA, this]
      · rw [if_neg h2, if_neg (by omega)]
  · have a1 : (cellsD H k AA n)[i]? = none := by rw [List.getElem?_eq_none]; rw [cellsD_len]; omega
    have a2 : (cellsD H (k + 1) (updA AA k a) n)[i]? = none := by rw [List.getElem?_eq_none]; rw [cellsD_len]; omega
    rw [a1, a2, if_neg (by omega)]
/-- What the dealing loops keep. -/
structure Dealing (w : World) (g H n K : Nat) (R : Nat → List Int) (AA : Nat → Option Addr) (wr : World) : Prop where
  out : wr.ownsRow w.heap.size 24 1 (.slice (some ⟨g, 0, none⟩) H H) H (cellsD H K AA n)
  row : ∀ h, h < K → Row wr w.heap.size (AA h) (R h)
  len : ∀ h, h < K → (R h).length = n
  off : ∀ h, h < K → ∀ a, AA h = some a → a.block ≠ g
  apart : ∀ h, h < K → ∀ k, k < K → h ≠ k → ∀ a, AA h = some a → ∀ b, AA k = some b → a.block ≠ b.block
  below : Below w.heap.size w wr
  lg : g < wr.heap.size
theorem Dealing.cell {w wr : World} {g H n K : Nat} {R : Nat → List Int} {AA : Nat → Option Addr} (h : Dealing w g H n K R AA wr) (k : Nat) (hk : k < H) : wr.cell? ⟨g, k, none⟩ = some (if k < K then .slice (AA k) n n else .slice none 0 0) ∧ wr.frozen? ⟨g, k, none⟩ = false :=
  ⟨by rw [h.out.cellAt k (by omega), cellsD_get _ _ _ _ _ hk], h.out.frozenAt k⟩
theorem Dealing.drewN {w wr : World} {g H n K : Nat} {R : Nat → List Int} {AA : Nat → Option Addr} (h : Dealing w g H n K R AA wr) : Dealing w g H n K R AA wr.drew :=
  ⟨h.out, h.row, h.len, h.off, h.apart, bl_drew h.below, h.lg⟩
/-- A new row is laid in. -/
theorem Dealing.add {w wr w1 : World} {g H n k : Nat} {R : Nat → List Int} {AA : Nat → Option Addr} {xs : List Int} (h : Dealing w g H n k R AA wr) (hk : k < H) (hx : xs.length = n) (hg : wr.grownBy w1 none) (hn : Row w1 wr.heap.size (some ⟨wr.heap.size, 0, none⟩) xs) :
    Dealing w g H n (k + 1) (updR R k xs) (updA AA k (some ⟨wr.heap.size, 0, none⟩)) (w1.setCell ⟨g, k, none⟩ (.slice (some ⟨wr.heap.size, 0, none⟩) n n)) := by
  have hb1 : Below wr.heap.size wr w1 := (bl_refl wr).grown hg (Nat.le_refl _) (fun j hj => by cases hj)
  have hle : ∀ j, j < k → ∀ a, AA j = some a → a.block < wr.heap.size := fun j hj a e => ((h.row j hj).1 a e).2
  have hlo : w.heap.size ≤ wr.heap.size := h.below.size
  have hlg := (World.ownsRow.lt h.out g rfl).1
  have hout : w1.ownsRow w.heap.size 24 1 (.slice (some ⟨g, 0, none⟩) H H) H (cellsD H k AA n) := World.ownsRow.kept h.out hg (.inr (by simp [Value.ownBlock]))
  have hst := hout.stored k (.slice (some ⟨wr.heap.size, 0, none⟩) n n)
  rw [cellsD_set H k AA n _ hk] at hst
  have hz : (w1.setCell ⟨g, k, none⟩ (.slice (some ⟨wr.heap.size, 0, none⟩) n n)).heap.size = w1.heap.size := by simp [World.setCell]
  refine ⟨hst.1, fun j hj => ?_, fun j hj => ?_, fun j hj a e => ?_, fun i hi j hj hne a e b e' => ?_, (bl_trans h.below hb1).setCell hlg _, by rw [hz]; exact Nat.lt_of_lt_of_le h.lg hb1.size⟩
  · by_cases e : j = k
    · subst e
      have := (hn.less (lo' := w.heap.size) hlo).grown hst.2 (fun a ha => by
        obtain rfl := Option.some.inj ha
        intro q; injection q with q; have := h.lg; simp at q; omega)
      simpa [updA, updR] using this
    · have hj' : j < k := by omega
      have := ((h.row j hj').below hb1).grown hst.2 (fun a ha => by
        intro q; injection q with q; exact h.off j hj' a ha q)
      simpa [updA, updR, e] using this
  · by_cases e : j = k
    · subst e; simpa [updR] using hx
    · simpa [updR, e] using h.len j (by omega)
  · by_cases q : j = k
    · subst q
      simp [updA] at e
      subst e
      have := h.lg
      show wr.heap.size ≠ g
      omega
    · simp [updA, q] at e
      exact h.off j (by omega) a e
  · by_cases q : i = k
    · subst q
      simp [updA] at e
      subst e
      have hji : ¬ j = i := fun q => hne q.symm
      simp [updA, hji] at e'
      have := hle j (by omega) b e'
      show wr.heap.size ≠ b.block
      omega
    · simp [updA, q] at e
      by_cases q2 : j = k
      · subst q2
        simp [updA] at e'
        subst e'
        have := hle i (by omega) a e
        show a.block ≠ wr.heap.size
        omega
      · simp [updA, q2] at e'
        exact h.apart i (by omega) j (by omega) hne a e b e'
/-- A number is written into the last row. -/
theorem Dealing.put {w wr : World} {g H n k gk t : Nat} {R : Nat → List Int} {AA : Nat → Option Addr} {y : Int} (h : Dealing w g H n (k + 1) R AA wr) (hA : AA k = some ⟨gk, 0, none⟩) (ht : t < n) :
    Dealing w g H n (k + 1) (updR R k ((R k).set t y)) AA (wr.setCell ⟨gk, t, none⟩ (.int .i64 y)) := by
  have hgr : wr.grownBy (wr.setCell ⟨gk, t, none⟩ (.int .i64 y)) (some gk) := ⟨rfl, rfl, rfl, by simp [World.setCell], fun j hj hne => Below.heap_setCell wr ⟨gk, t, none⟩ _ j (fun e => hne (by rw [e]))⟩
  have hne : g ≠ gk := fun e => h.off k (by omega) _ hA e.symm
  have hrk := h.row k (by omega)
  have hgk : w.heap.size ≤ gk := (hrk.1 _ hA).1
  have hlk := h.len k (by omega)
  refine ⟨World.ownsRow.kept h.out hgr (.inr (by simp [Value.ownBlock]; exact hne)), fun j hj => ?_, fun j hj => ?_, h.off, h.apart, h.below.setCell hgk _, by simpa [World.setCell] using h.lg⟩
  · by_cases e : j = k
    · subst e
      rw [hA] at hrk ⊢
      refine ⟨fun a ha => by have := hrk.1 a ha; exact ⟨this.1, by simpa [World.setCell] using this.2⟩, fun h0 => ⟨gk, 0, rfl, fun i hi => ?_⟩⟩
      simp only [updR, if_true] at hi ⊢
      rw [List.length_set] at hi
      obtain ⟨g', o', e', hc⟩ := hrk.2 (by omega)
      injection e' with e'
      injection e' with e1 e2
      subst e1 e2
      have hci := hc i hi
      have hct := hc t (by omega)
      rw [Nat.zero_add] at hci hct ⊢
      refine ⟨?_, by simp [go_sem, hci.2]⟩
      by_cases q : t = i
      · subst q
        rw [nth_set_same _ _ _ (by omega)]
        exact World.cell?_setCell_same wr _ _ hct.1
      · rw [nth_set_other _ _ _ _ q, World.cell?_setCell_other wr _ _ _ (by intro q2; injection q2 with _ q2; omega)]
        exact hci.1
    · have := (h.row j hj).grown hgr (fun a ha => by
        intro q; injection q with q
        exact h.apart j hj k (by omega) e a ha _ hA q)
      simpa [updR, e] using this
  · by_cases e : j = k
    · subst e; simp [updR, hlk]
    · simpa [updR, e] using h.len j hj
/-- The deal is done. -/
theorem Dealing.fam {w wr : World} {g H n : Nat} {R R' : Nat → List Int} {AA : Nat → Option Addr} (h : Dealing w g H n H R AA wr) (he : ∀ j, j < H → R j = R' j) : Fam wr w.heap.size (some ⟨g, 0, none⟩) H R' AA (fun _ => n) := by
  refine ⟨fun h0 => ⟨g, 0, rfl, h.lg, fun k hk => ?_⟩, fun k hk => by rw [← he k hk]; exact h.row k hk, fun a e => ?_, fun k hk a e b e' => ?_, h.apart⟩
  · rw [Nat.zero_add, (h.cell k hk).1, if_pos hk, ← he k hk, h.len k hk]
  · obtain rfl := Option.some.inj e
    exact ⟨(World.ownsRow.lt h.out g rfl).1, h.lg⟩
  · obtain rfl := Option.some.inj e'
    exact h.off k hk a e

end Go.Proofs.YtjmfecjgomkofabDoor
