/-
  The program's shape and value of five cards, and its test of a list of cards.
-/
import Derived.Test.YtcbfmfkahgfjkaaDoorValImpl
import Derived.Test.YtcbfmfkahgfjkaaDoorSetOf
namespace Go.Proofs.YtcbfmfkahgfjkaaDoor
open Go.RowKit
set_option linter.unusedVariables false

/-- A shape by value, literally, as a result. -/
def ShapeLit (k0 k1 k2 k3 k4 m n : Int) (o : Bool) (w : World) (e : Ending) (w' : World) : Prop := e = .returned (shp k0 k1 k2 k3 k4 m n o) ∧ Below w.heap.size w w'
theorem shapeLit_of {K : List Int} {k0 k1 k2 k3 k4 m n : Int} {o : Bool} {w : World} {e : Ending} {w' : World} (h : ShapeOf K m n o w e w') (hK : K = [k0, k1, k2, k3, k4]) : ShapeLit k0 k1 k2 k3 k4 m n o w e w' := by subst hK; exact h
/-- What the program's shape is: kickers, most, next, one suit. -/
theorem shape_facts (xs : List Int) (hb : cardsB xs = true) (h5 : xs.length = 5) :
    ∃ (k0 k1 k2 k3 k4 : Int) (m n : Nat), lowK (kk (rk xs)) = [k0, k1, k2, k3, k4] ∧ mostK (kk (rk xs)) = m ∧ nextK (kk (rk xs)) = n ∧ ranksOk [k0, k1, k2, k3, k4] ∧ kickS (rk xs) = [k0, k1, k2, k3, k4] ∧
      catI [k0, k1, k2, k3, k4] m n (flushB xs) = catS (rk xs) (flushB xs) := by
  obtain ⟨hrk, h4⟩ := rk_facts xs hb
  have h5' : (rk xs).length = 5 := by unfold rk; rw [List.length_map]; exact h5
  have hp := kk_perm (rk xs) hrk h4
  obtain ⟨k0, k1, k2, k3, k4, e⟩ := list_five (lowK (kk (rk xs))) (lowK_len _ (by rw [hp.length_eq]; exact h5'))
  refine ⟨k0, k1, k2, k3, k4, mostK (kk (rk xs)), nextK (kk (rk xs)), e, rfl, rfl, ?_, ?_, ?_⟩
  · rw [← e]
    intro r hr
    unfold lowK at hr
    split at hr
    · simp at hr; omega
    · exact hrk r (hp.subset hr)
  · rw [← (five_facts (rk xs) hrk h4 h5').2.1]; exact e
  · rw [← e]; exact cat_same (rk xs) (flushB xs) hrk h4 h5'

set_option maxRecDepth 100000 in
set_option maxHeartbeats 4000000 in
theorem highShape_any (xs : List Int) (k0 k1 k2 k3 k4 m n : Int) (o : Bool) (B : Nat) (wt w : World) (ht : Hid (Low B wt)) (hB : Hid (Below B wt w)) (hBw : Hid (B ≤ w.heap.size)) (h5 : xs.length = 5)
    (K1 : Hid (∀ W, ∃ j0 j1 j2 j3 j4 : Int, lowK [j0, j1, j2, j3, j4] = [k0, k1, k2, k3, k4] ∧ Calls Tryd.prog 78 #[aggI xs] W (ShapeLit j0 j1 j2 j3 j4 m n o W))) :
    Calls Tryd.prog 52 #[aggI xs] w (ShapeLit k0 k1 k2 k3 k4 m n o w) := by
  have b1 := (bl_alloc (bl_alloc (bl_refl w) (.cells (ints xs).toArray 51)) (.cells #[.int .i64 0, .int .i64 0, .int .i64 0, .int .i64 0, .int .i64 0, .int .i64 0, .int .i64 0, .bool false] 55))
  have hx := ((blk_new w 51 (ints xs)).below (bl_alloc (bl_refl _) (.cells #[.int .i64 0, .int .i64 0, .int .i64 0, .int .i64 0, .int .i64 0, .int .i64 0, .int .i64 0, .bool false] 55)))
  have hy := blk_new (w.alloc (.cells (ints xs).toArray 51)) 55 [.int .i64 0, .int .i64 0, .int .i64 0, .int .i64 0, .int .i64 0, .int .i64 0, .int .i64 0, .bool false]
  rw [World.size_alloc] at hy
  obtain ⟨W1, eW⟩ : ∃ W1, W1 = (w.alloc (.cells (ints xs).toArray 51)).alloc (.cells #[.int .i64 0, .int .i64 0, .int .i64 0, .int .i64 0, .int .i64 0, .int .i64 0, .int .i64 0, .bool false] 55) := ⟨_, rfl⟩
  change Blk ((w.alloc (.cells (ints xs).toArray 51)).alloc (.cells #[.int .i64 0, .int .i64 0, .int .i64 0, .int .i64 0, .int .i64 0, .int .i64 0, .int .i64 0, .bool false] 55)) _ _ _ at hy
  rw [← eW] at b1 hx hy
  have B1 := Lib.hid b1
  have HX := Lib.hid hx
  have HY := Lib.hid hy
  have EW := Lib.hid eW
  have L5 : Hid ((ints xs).length = 5) := Lib.hid (by rw [ints_length]; exact h5)
  obtain ⟨j0, j1, j2, j3, j4, ej, hk1⟩ := K1.out W1
  have EJ := Lib.hid ej
  have K2 := Lib.hid hk1
  have K3 := Lib.hid (fun (W : World) (hb : Below w.heap.size w W) => below_any j0 j1 j2 j3 j4 m n o B wt W ht (Lib.hid (hB.out.trans (hb.mono hBw.out))) (Lib.hid (Nat.le_trans hBw.out hb.size)))
  clear b1 hx hy eW h5 K1 ej hk1 ht hB hBw
  unfold aggI
  go_enter Tryd.func52, Tryd.ntmps52
  go_upto_region 1 with fail
  rw [← EW.out]
  clear EW
  unfold aggI at K2
  go_wp2_with (first
    | (with_reducible refine wpList_load_blk 51 _ 5 rfl (.tmp 1) rfl u51 rfl i51 w.heap.size 0 rfl (ints xs) L5.out HX.out.range ?_)
    | (go_at_call 78; refine K2.out.mono ?_; rintro e w5 ⟨rfl, hb5⟩; have B5 := Lib.hid (bl_trans B1.out hb5); have Y5 := Lib.hid (HY.out.below hb5); clear hb5)
    | (go_at_call 79; refine (K3.out _ B5.out).mono ?_; rintro e w6 hr6; obtain ⟨rfl, hb6⟩ := shapeLit_of hr6 EJ.out; have B6 := Lib.hid (bl_trans B5.out hb6); have Y6 := Lib.hid (Y5.out.below hb6); clear hb6 hr6)
    | (refine wpList_store_blk 55 8 rfl (.tmp 2) (.tmp 5) rfl i55 (w.heap.size + 1) rfl (shapeL [k0, k1, k2, k3, k4] m n o) rfl rfl (shapeL_one _ _ _ _) _ Y6.out rfl ?_))
  intro w8 hb8 hg8
  have B8 := Lib.hid hb8
  have D8 := Lib.hid (bl_blk B6.out hg8 (by omega))
  clear hb8 hg8
  go_wp2_with fail
  exact bodyPost_ret (results_cell_row Tryd.results52 _ _ (w.heap.size + 1) _ _ _ _ rfl B8.out Tryd.underlying55 rfl i55) rfl ⟨rfl, D8.out⟩

/-- The shape of five cards, whole. -/
theorem highShape_of (xs : List Int) (hb : cardsB xs = true) (h5 : xs.length = 5) (k0 k1 k2 k3 k4 : Int) (m n : Nat) (e1 : lowK (kk (rk xs)) = [k0, k1, k2, k3, k4]) (e2 : mostK (kk (rk xs)) = m) (e3 : nextK (kk (rk xs)) = n)
    (B : Nat) (wt w : World) (ht : Hid (Low B wt)) (hB : Hid (Below B wt w)) (hBw : Hid (B ≤ w.heap.size)) :
    Calls Tryd.prog 52 #[aggI xs] w (ShapeLit k0 k1 k2 k3 k4 m n (flushB xs) w) := by
  obtain ⟨hrk, h4⟩ := rk_facts xs hb
  have h5' : (rk xs).length = 5 := by unfold rk; rw [List.length_map]; exact h5
  have hp := kk_perm (rk xs) hrk h4
  obtain ⟨j0, j1, j2, j3, j4, e⟩ := list_five (kk (rk xs)) (by rw [hp.length_eq]; exact h5')
  refine highShape_any xs k0 k1 k2 k3 k4 m n (flushB xs) B wt w ht hB hBw h5 (Lib.hid fun W => ⟨j0, j1, j2, j3, j4, by rw [← e]; exact e1, ?_⟩)
  have := cardsShape_any xs W hb h5 h4 hrk
  rw [e2, e3] at this
  exact this.mono fun _ _ h => shapeLit_of h e

set_option maxRecDepth 100000 in
set_option maxHeartbeats 4000000 in
theorem fiveValue_any (xs : List Int) (hb : cardsB xs = true) (h5 : xs.length = 5) (B : Nat) (wt w : World) (ht : Hid (Low B wt)) (hB : Hid (Below B wt w)) (hBw : Hid (B ≤ w.heap.size)) :
    Calls Tryd.prog 50 #[aggI xs] w (Fresh (.int .i64 (hv xs)) w) := by
  obtain ⟨k0, k1, k2, k3, k4, m, n, e1, e2, e3, hr, e4, e5⟩ := shape_facts xs hb h5
  have EV : Hid (hv xs = 371293 * catI [k0, k1, k2, k3, k4] m n (flushB xs) + digs [k0, k1, k2, k3, k4]) := Lib.hid (by unfold hv; rw [e4, e5])
  have K1 := Lib.hid (fun (W : World) (hb' : Below w.heap.size w W) => highShape_of xs hb h5 k0 k1 k2 k3 k4 m n e1 e2 e3 B wt W ht (Lib.hid (hB.out.trans (hb'.mono hBw.out))) (Lib.hid (Nat.le_trans hBw.out hb'.size)))
  have K2 := Lib.hid (fun (W : World) (hb' : Below w.heap.size w W) => value_any k0 k1 k2 k3 k4 m n (flushB xs) B wt W ht (Lib.hid (hB.out.trans (hb'.mono hBw.out))) (Lib.hid (Nat.le_trans hBw.out hb'.size)) hr)
  have B1 := Lib.hid (bl_alloc (bl_refl w) (.cells (ints xs).toArray 51))
  have HX := Lib.hid (blk_new w 51 (ints xs))
  have L5 : Hid ((ints xs).length = 5) := Lib.hid (by rw [ints_length]; exact h5)
  generalize flushB xs = fl at *
  clear hb h5 e1 e2 e3 hr e4 e5 ht hB hBw
  unfold aggI at *
  go_enter Tryd.func50, Tryd.ntmps50
  go_wp2_with (first
    | (with_reducible refine wpList_load_blk 51 _ 5 rfl (.tmp 1) rfl u51 rfl i51 w.heap.size 0 rfl (ints xs) L5.out HX.out.range ?_)
    | (go_at_call 52; refine (K1.out _ B1.out).mono ?_; rintro e w5 ⟨rfl, hb5⟩; have B5 := Lib.hid (bl_trans B1.out hb5); clear hb5)
    | (go_at_call 74; refine (K2.out _ B5.out).mono ?_; rintro e w6 ⟨rfl, hb6⟩; have B6 := Lib.hid (bl_trans B5.out hb6); clear hb6))
  go_ret
  exact ⟨ret_int EV.out.symm, B6.out⟩
end Go.Proofs.YtcbfmfkahgfjkaaDoor
