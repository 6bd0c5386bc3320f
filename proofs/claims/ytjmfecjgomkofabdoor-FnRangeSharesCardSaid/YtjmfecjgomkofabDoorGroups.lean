/-
  A map from classes to rows of two cards, filled in a loop: what is kept.
-/
import Derived.Test.YtjmfecjgomkofabDoorMapF
import Derived.Test.YtjmfecjgomkofabDoorComboPure
import Derived.Test.YtjmfecjgomkofabDoorBase
import Derived.Maps.AppendAt
namespace Go.Proofs.YtjmfecjgomkofabDoor
open Go.RowKit
set_option linter.unusedVariables false

/-- The cells of pairs. -/
def cells2 (l : List (Int × Int)) : List Value := l.flatMap (fun q => [.int .i64 q.1, .int .i64 q.2])
theorem cells2_snoc (l : List (Int × Int)) (q : Int × Int) : cells2 (l ++ [q]) = cells2 l ++ [.int .i64 q.1, .int .i64 q.2] := by
  unfold cells2; rw [List.flatMap_append]; simp
theorem cells2_len : ∀ l : List (Int × Int), (cells2 l).length = 2 * l.length
  | [] => rfl
  | q :: l => by
    have := cells2_len l
    unfold cells2 at this ⊢
    rw [List.flatMap_cons, List.length_append, this, List.length_cons]
    simp; omega
theorem cells2_at : ∀ (l : List (Int × Int)) (i : Nat) (h : i < l.length), (cells2 l)[2 * i]? = some (.int .i64 l[i].1) ∧ (cells2 l)[2 * i + 1]? = some (.int .i64 l[i].2)
  | [], i, h => by simp at h
  | q :: l, 0, h => by unfold cells2; simp
  | q :: l, i + 1, h => by
    have := cells2_at l i (by simpa using h)
    unfold cells2 at this ⊢
    rw [List.flatMap_cons]
    have e1 : 2 * (i + 1) = 2 * i + 1 + 1 := by omega
    have e2 : 2 * (i + 1) + 1 = 2 * i + 1 + 1 + 1 := by omega
    rw [e2, e1]
    simp only [List.cons_append, List.nil_append, List.getElem?_cons_succ, List.getElem_cons_succ]
    exact this
theorem infoTwo : (Tryd.prog.info? 107).map (fun i => (i.zero, i.size, i.bytes)) = some (some (.agg #[.int .i64 0, .int .i64 0]), 2, 16) := by kernel_rfl
theorem lawCls : Go.Maps.Keyed Tryd.prog 66 := Go.Maps.int_keyed Tryd.underlying66
theorem zeroGrp (w : World) : (zeroValue 73).run Tryd.prog w = .ok (.slice none 0 0) w := by kernel_rfl
theorem toGrown {w w' : World} (h : Below w.heap.size w w') (row : Option Nat) : w.grownBy w' row := ⟨h.os, h.tape, h.output, h.size, fun i hi _ => h.block i hi⟩

/-- The rows by class, in memory: a row that pairs are in, of the call's own, for each class; no two in one block. -/
def OwnG (w : World) (b : Nat) (v : Value) (l : List (Int × Int)) : Prop := w.ownsRow b 107 2 v l.length (cells2 l)
def MapG (w : World) (B n : Nat) (f : Int → Value) : Prop := MapF Tryd.prog 66 .i64 (.slice none 0 0) w B n f
structure Grps (w0 w1 : World) (B : Nat) (ps : List (Int × Int)) (f : Int → Value) (w : World) : Prop where
  map : MapG w B ps.length f
  rows : ∀ c, 0 ≤ c → c < 169 → OwnG w w1.heap.size (f c) (ofCls c ps)
  apart : ∀ c d, 0 ≤ c → c < 169 → 0 ≤ d → d < 169 → c ≠ d → (f c).ownBlock = none ∨ (f c).ownBlock ≠ (f d).ownBlock
  kept : ∀ g, g < w1.heap.size → g ≠ B → w.heap[g]? = w1.heap[g]?
  size : w1.heap.size ≤ w.heap.size
  below : Below w0.heap.size w0 w
  lo : w0.heap.size ≤ B
  hi : B < w1.heap.size

theorem MapG.below {w w' : World} {B n : Nat} {f : Int → Value} (h : MapG w B n f) (hb : Below w.heap.size w w') : MapG w' B n f := MapF.below h hb
theorem OwnG.below {w w' : World} {b : Nat} {v : Value} {l : List (Int × Int)} (h : OwnG w b v l) (hb : Below w.heap.size w w') : OwnG w' b v l :=
  World.ownsRow.kept h (toGrown hb none) (by cases v.ownBlock <;> simp)
theorem grps_start {w0 w w1 : World} {B : Nat} (hm : MapG w B 0 (fun _ => .slice none 0 0)) (h01 : Below w0.heap.size w0 w) (hb : Below w.heap.size w w1) (hlo : w0.heap.size ≤ B) :
    Grps w0 w1 B [] (fun _ => .slice none 0 0) w1 := by
  have hlt : B < w.heap.size := MapF.lt hm
  exact ⟨hm.below hb, fun c _ _ => World.ownsRow_nil _ _ _ _, fun c d _ _ _ _ _ => .inl rfl, fun g _ _ => rfl, Nat.le_refl _, h01.trans (hb.mono h01.size), hlo, Nat.lt_of_lt_of_le hlt hb.size⟩
theorem Grps.grow {w0 w1 w w' : World} {B : Nat} {ps : List (Int × Int)} {f : Int → Value} (h : Grps w0 w1 B ps f w) (hb : Below w.heap.size w w') : Grps w0 w1 B ps f w' :=
  ⟨h.map.below hb, fun c h0 h1 => (h.rows c h0 h1).below hb, h.apart, fun g hg hne => (hb.block g (Nat.lt_of_lt_of_le hg h.size)).trans (h.kept g hg hne), Nat.le_trans h.size hb.size, h.below.trans (hb.mono h.below.size), h.lo, h.hi⟩
/-- A row is no block below its base, nor the map. -/
theorem Grps.row_ne {w0 w1 w : World} {B : Nat} {ps : List (Int × Int)} {f : Int → Value} (h : Grps w0 w1 B ps f w) {c : Int} (h0 : 0 ≤ c) (h1 : c < 169) : ∀ k, (f c).ownBlock = some k → w1.heap.size ≤ k ∧ k < w.heap.size := World.ownsRow.lt (h.rows c h0 h1)
/-- A pair appended to its class's row, and the row stored. -/
theorem Grps.put {w0 w1 w wa wb wc : World} {B : Nat} {ps : List (Int × Int)} {f : Int → Value} (h : Grps w0 w1 B ps f w) {q : Int × Int} {k : Int} (hk : clsI q.1 q.2 = k) (h0 : 0 ≤ k) (h1 : k < 169) {v' : Value}
    (hg : w.grownBy wa (f k).ownBlock) (hv : OwnG wa w1.heap.size v' (ofCls k ps ++ [q])) (hl : v'.ownBlock = (f k).ownBlock ∨ ∃ g, v'.ownBlock = some g ∧ w.heap.size ≤ g)
    (hb : Below wa.heap.size wa wb) (hm : MapG wc B (ps.length + 1) (putF f k v')) (hc : wb.grownBy wc (some B)) : Grps w0 w1 B (ps ++ [q]) (putF f k v') wc := by
  have hne : ∀ c, 0 ≤ c → c < 169 → (f c).ownBlock ≠ some B := fun c c0 c1 e => by
    have := h.row_ne c0 c1 B e
    have := h.hi
    omega
  have hv1 : OwnG wb w1.heap.size v' (ofCls k ps ++ [q]) := hv.below hb
  have hvB : v'.ownBlock ≠ some B := fun e => by
    have := World.ownsRow.lt hv B e
    have := h.hi
    omega
  have hwB : w.heap.size ≤ wb.heap.size := Nat.le_trans hg.size hb.size
  have hkey : ∀ k', some k' ≠ (f k).ownBlock → k' ≠ B → k' < w.heap.size → wc.heap[k']? = w.heap[k']? := fun k' e1 e2 hlt => by
    rw [hc.block k' (Nat.lt_of_lt_of_le hlt hwB) (fun e => e2 (Option.some.inj e)), hb.block k' (Nat.lt_of_lt_of_le hlt hg.size), hg.block k' hlt e1]
  refine ⟨by rw [List.length_append]; exact hm, fun c c0 c1 => ?_, fun c d c0 c1 d0 d1 hcd => ?_, fun g hg1 hgB => ?_, Nat.le_trans h.size (Nat.le_trans hwB hc.size), ?_, h.lo, h.hi⟩
  · by_cases e : c = k
    · subst e
      rw [putF_same, ofCls_snoc_yes hk]
      exact World.ownsRow.kept hv1 hc (.inr hvB)
    · rw [putF_other e, ofCls_snoc_no (fun e2 => e (e2.symm.trans hk))]
      have r1 := World.ownsRow.kept (h.rows c c0 c1) hg (h.apart c k c0 c1 h0 h1 e)
      have r2 : OwnG wb w1.heap.size (f c) (ofCls c ps) := OwnG.below r1 hb
      exact World.ownsRow.kept r2 hc (.inr (hne c c0 c1))
  · have new : ∀ x, 0 ≤ x → x < 169 → x ≠ k → (f x).ownBlock = none ∨ (f x).ownBlock ≠ v'.ownBlock := fun x x0 x1 hx => by
      rcases hl with hl | ⟨g, hl, hgl⟩
      · rw [hl]; exact h.apart x k x0 x1 h0 h1 hx
      · right
        intro e
        rw [hl] at e
        have := (h.row_ne x0 x1 g e).2
        omega
    by_cases e : c = k
    · subst e
      rw [putF_same, putF_other (fun e => hcd e.symm)]
      rcases new d d0 d1 (fun e => hcd e.symm) with e1 | e1
      · by_cases e2 : v'.ownBlock = none
        · exact .inl e2
        · right; rw [e1]; exact e2
      · exact .inr (fun e2 => e1 e2.symm)
    · by_cases e' : d = k
      · subst e'
        rw [putF_same, putF_other e]
        exact new c c0 c1 e
      · rw [putF_other e, putF_other e']
        exact h.apart c d c0 c1 d0 d1 hcd
  · rw [hkey g (fun e => by have := (h.row_ne h0 h1 g e.symm).1; omega) hgB (Nat.lt_of_lt_of_le hg1 h.size)]
    exact h.kept g hg1 hgB
  · have b1 : Below w0.heap.size w0 wa := h.below.grown hg h.below.size (fun j hj => by have := (h.row_ne h0 h1 j hj).1; have := h.hi; have := h.lo; omega)
    have b2 := b1.trans (hb.mono b1.size)
    exact b2.grown hc b2.size (fun j hj => by cases hj; exact h.lo)
end Go.Proofs.YtjmfecjgomkofabDoor
