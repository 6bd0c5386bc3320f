/-
  l02DrawList, l02DrawCard and what the laws draw with them.
-/
import Derived.Test.YtjmfecjgomkofabDoorDraws
namespace Go.Proofs.YtjmfecjgomkofabDoor
open Go.RowKit
set_option linter.unusedVariables false

theorem drewL_mono {N M : Nat} {w : World} {s : Nat} {a : Option Addr} {L c : Nat} {zs : Nat → Int} {e : Ending} {w' : World} (h : DrewL N w s a L c zs e w') (hm : N ≤ M) : DrewL M w s a L c zs e w' := by
  obtain ⟨xs, A, cc, he, hl, rest⟩ := h
  exact ⟨xs, A, cc, he, Nat.le_trans hl hm, rest⟩
/-- What holds between the draws of a list. -/
structure Lists (w : World) (s : Nat) (a : Option Addr) (L c : Nat) (zs : Nat → Int) (xs : List Int) (v : Value) (wr : World) : Prop where
  own : Own wr w.heap.size v xs
  src : Src wr s a L c zs
  only : Only s w wr
theorem lists_next {w wr w1 : World} {s : Nat} {a : Option Addr} {L c : Nat} {zs : Nat → Int} {xs : List Int} {v : Value} (h : Lists w s a L c zs xs v wr) (hs : s < w.heap.size) (hsrc : Src w1 s a L c zs) (ho : Only s wr w1) : Lists w s a L c zs xs v w1 :=
  ⟨own_only h.own ho hs, hsrc, only_trans h.only ho⟩
theorem lists_alloc {w wr : World} {s : Nat} {a : Option Addr} {L c : Nat} {zs : Nat → Int} {xs : List Int} {v : Value} (h : Lists w s a L c zs xs v wr) (o : Obj) : Lists w s a L c zs xs v (wr.alloc o) :=
  ⟨h.own.below (bl_alloc (bl_refl _) _), src_alloc h.src o, only_alloc h.only o⟩
theorem lists_app {w w1 w2 : World} {s : Nat} {a : Option Addr} {L c : Nat} {zs : Nat → Int} {xs : List Int} {v v' : Value} {y : Int} {o : Obj} (h : Lists w s a L c zs xs v w1) (hs : s < w.heap.size) (hB : CodeB w.heap.size a L)
    (hown : w2.ownsRow w.heap.size 2 1 v' (xs.length + 1) (ints xs ++ [.int .i64 y])) (hgrow : (w1.alloc o).grownBy w2 v.ownBlock) : Lists w s a L c zs (xs ++ [y]) v' w2 := by
  have hr : ∀ j, v.ownBlock = some j → w.heap.size ≤ j := fun j hj => (World.ownsRow.lt h.own j hj).1
  exact ⟨own_app hown, src_grown (src_alloc h.src o) hgrow hr hs hB, only_grown (only_alloc h.only o) hgrow hr⟩
theorem bl_trans' {w w1 w2 : World} {s : Nat} (hb : Below w.heap.size w w1) (hs : w.heap.size ≤ s) (hy : Only s w1 w2) : Below w.heap.size w w2 := by
  refine Below.grown (row := some s) hb hy hb.size (fun j hj => ?_)
  injection hj with hj
  omega
theorem pair_row (w : World) (s : Nat) (a : Option Addr) (L c : Nat) (zs : Nat → Int) (h : Src w s a L c zs) :
    Calls Tryd.prog 74 #[.pointer (some ⟨s, 0, none⟩), .slice (some ⟨w.heap.size, 0, none⟩) 2 2] (w.alloc (.cells #[.int .i64 (-1), .int .i64 52] 2)) (Drew (-1) 52 (w.alloc (.cells #[.int .i64 (-1), .int .i64 52] 2)) s a L c zs) := by
  have hs := src_lt h
  refine pick_any s w.heap.size 2 (rowOf [-1, 52]) (-1) 52 a L c zs _ (by omega) (by omega) (fun i hi => row_new [-1, 52] 2 w i hi) (fun i hi => ?_) (by omega) (src_alloc h _)
  match i, hi with
  | 0, _ => exact ⟨by decide, by decide⟩
  | 1, _ => exact ⟨by decide, by decide⟩
set_option maxRecDepth 100000 in
set_option maxHeartbeats 2000000 in
theorem drawList_any (s : Nat) (m : Int) (a : Option Addr) (L c : Nat) (zs : Nat → Int) (w : World) (hm0 : 0 ≤ m) (hm : m ≤ 900) (h : Src w s a L c zs) :
    Calls Tryd.prog 43 #[.pointer (some ⟨s, 0, none⟩), .int .i64 m] w (DrewL 53 w s a L c zs) := by
  have HS := src_lt h
  have HB := Lib.hid (codeB_of h)
  have KN := Lib.hid (next_pos s (m + 1) a L c zs w (by omega) (by omega) h)
  clear h
  obtain ⟨w0, rfl⟩ : ∃ w0 : World, w0 = w := ⟨w, rfl⟩
  obtain ⟨i0, hi, hz0, hz1, hz2⟩ := info_parts infoInt
  go_enter Tryd.func43, Tryd.ntmps43
  go_wp2_with (go_at_call 73; refine KN.out.mono ?_; rintro e w1 ⟨x, rfl, x0, x1, hs1, ho1⟩)
  go_wp2_with (go_at_call 75; refine (deal_nil _ _ _ _ _ _ _ (by omega) (by omega) hs1).mono ?_; rintro e w2 ⟨xs, A1, c1, rfl, hl, ho2, hs2, hy2⟩; have D2 : Hid (Lists w0 s a L c zs xs (.slice A1 xs.length c1) w2) := Lib.hid ⟨ho2.less ho1.size, hs2, only_trans ho1 hy2⟩; clear ho2 hs2 hy2)
  by_cases hpos : 0 < xs.length
  · obtain ⟨g, rfl, _, _, _, _⟩ := own_some D2.out.own hpos
    go_wp2_with (first
      | (go_at_call 73; refine (next_any _ 24 _ _ _ _ _ (by omega) (by omega) D2.out.src).mono ?_; rintro e w3 ⟨y, rfl, y0, y1, hs3, ho3⟩; have D3 : Hid (Lists w0 s a L c zs xs (.slice (some ⟨g, 0, none⟩) xs.length c1) w3) := Lib.hid (lists_next D2.out HS hs3 ho3); have hc3 := own_cell D3.out.own 0 hpos; clear hs3 ho3)
      | (at_builtin; refine wpList_append_own _ rfl _ _ 24 rfl w0.heap.size 2 i0 (.int .i64 0) 1 8 Tryd.underlying24 hi hz0 hz1 hz2 rfl (by decide) _ _ _ rfl (D3.out.own.below (bl_alloc (bl_refl _) _)) ⟨w3.heap.size, 0, none⟩ 1 1 [.int .i64 (nth xs 0)] rfl rfl ?c1 ?c2 ?c3 ?c4 ?c5 ?_))
    case c1 =>
      intro j u hj
      match j, hj with
      | 0, hj => simp at hj; subst hj; simp [Addr.add]
    case c2 => intro u hu; simp at hu; subst hu; rfl
    case c3 => unfold maxLen; omega
    case c4 => omega
    case c5 => have := D3.out.only.size; simp; omega
    · go_wp2_with (first
        | (go_at_call 74; refine (pair_row _ _ _ _ _ _ D3.out.src).mono ?_; rintro e w4 ⟨z, rfl, z0, z1, hs4, ho4⟩; have D4 := Lib.hid (lists_next (lists_alloc D3.out _) HS hs4 ho4); clear hs4 ho4)
        | (at_builtin; refine wpList_append_own _ rfl _ _ 24 rfl w0.heap.size 2 i0 (.int .i64 0) 1 8 Tryd.underlying24 hi hz0 hz1 hz2 rfl (by decide) _ _ _ rfl (D4.out.own.below (bl_alloc (bl_refl _) _)) ⟨w4.heap.size, 0, none⟩ 1 1 [.int .i64 z] rfl rfl ?c1 ?c2 ?c3 ?c4 ?c5 ?_))
      case c1 =>
        intro j u hj
        match j, hj with
        | 0, hj => simp at hj; subst hj; simp [Addr.add]
      case c2 => intro u hu; simp at hu; subst hu; rfl
      case c3 => unfold maxLen; omega
      case c4 => omega
      case c5 => have := D4.out.only.size; simp; omega
      intro v' w5 hown5 hgrow5 _
      have D5 := Lib.hid (lists_app D4.out HS HB.out hown5 hgrow5)
      clear hown5 hgrow5
      go_wp2_with fail
      obtain ⟨A5, c5, rfl, hO⟩ := own_form D5.out.own
      have HO := Lib.hid hO
      clear hO
      go_ret
      exact ⟨_, A5, c5, rfl, by simp; omega, HO.out, D5.out.src, D5.out.only⟩
    · intro v' w5 hown5 hgrow5 _
      have D5 := Lib.hid (lists_app D3.out HS HB.out hown5 hgrow5)
      clear hown5 hgrow5
      go_wp2_with fail
      obtain ⟨A5, c5, rfl, hO⟩ := own_form D5.out.own
      have HO := Lib.hid hO
      clear hO
      go_ret
      exact ⟨_, A5, c5, rfl, by simp; omega, HO.out, D5.out.src, D5.out.only⟩
    · go_wp2_with (go_at_call 75; refine (deal_nil _ _ _ _ _ _ _ (by omega) (by omega) D3.out.src).mono ?_; rintro e w4 ⟨ys, A4, c4, rfl, hl4, ho4, hs4, hy4⟩)
      go_ret
      exact ⟨ys, A4, c4, rfl, by omega, ho4.less D3.out.only.size, hs4, only_trans D3.out.only hy4⟩
    · go_ret
      exact ⟨xs, (some ⟨g, 0, none⟩), c1, rfl, by omega, D3.out.own, D3.out.src, D3.out.only⟩
  · have hneg : (xs.length : Int) ≤ 0 := by omega
    go_wp2_with (go_at_call 73; refine (next_any _ 24 _ _ _ _ _ (by omega) (by omega) D2.out.src).mono ?_; rintro e w3 ⟨y, rfl, y0, y1, hs3, ho3⟩; have D3 : Hid (Lists w0 s a L c zs xs (.slice A1 xs.length c1) w3) := Lib.hid (lists_next D2.out HS hs3 ho3); clear hs3 ho3)
    · go_wp2_with (first
        | (go_at_call 74; refine (pair_row _ _ _ _ _ _ D3.out.src).mono ?_; rintro e w4 ⟨z, rfl, z0, z1, hs4, ho4⟩; have D4 := Lib.hid (lists_next (lists_alloc D3.out _) HS hs4 ho4); clear hs4 ho4)
        | (at_builtin; refine wpList_append_own _ rfl _ _ 24 rfl w0.heap.size 2 i0 (.int .i64 0) 1 8 Tryd.underlying24 hi hz0 hz1 hz2 rfl (by decide) _ _ _ rfl (D4.out.own.below (bl_alloc (bl_refl _) _)) ⟨w4.heap.size, 0, none⟩ 1 1 [.int .i64 z] rfl rfl ?c1 ?c2 ?c3 ?c4 ?c5 ?_))
      case c1 =>
        intro j u hj
        match j, hj with
        | 0, hj => simp at hj; subst hj; simp [Addr.add]
      case c2 => intro u hu; simp at hu; subst hu; rfl
      case c3 => unfold maxLen; omega
      case c4 => omega
      case c5 => have := D4.out.only.size; simp; omega
      intro v' w5 hown5 hgrow5 _
      have D5 := Lib.hid (lists_app D4.out HS HB.out hown5 hgrow5)
      clear hown5 hgrow5
      go_wp2_with fail
      obtain ⟨A5, c5, rfl, hO⟩ := own_form D5.out.own
      have HO := Lib.hid hO
      clear hO
      go_ret
      exact ⟨_, A5, c5, rfl, by simp; omega, HO.out, D5.out.src, D5.out.only⟩
    · go_ret
      exact ⟨xs, A1, c1, rfl, by omega, D3.out.own, D3.out.src, D3.out.only⟩
    · go_wp2_with (go_at_call 75; refine (deal_nil _ _ _ _ _ _ _ (by omega) (by omega) D3.out.src).mono ?_; rintro e w4 ⟨ys, A4, c4, rfl, hl4, ho4, hs4, hy4⟩)
      go_ret
      exact ⟨ys, A4, c4, rfl, by omega, ho4.less D3.out.only.size, hs4, only_trans D3.out.only hy4⟩
    · go_ret
      exact ⟨xs, A1, c1, rfl, by omega, D3.out.own, D3.out.src, D3.out.only⟩

/-- A list that a law draws from its code. -/
def DrawnL (N : Nat) (w : World) (e : Ending) (w' : World) : Prop :=
  ∃ (xs : List Int) (A : Option Addr) (cc : Nat), e = .returned (.slice A xs.length cc) ∧ xs.length ≤ N ∧ Own w' w.heap.size (.slice A xs.length cc) xs ∧ Below w.heap.size w w'
theorem drawnL_of {N : Nat} {w w1 w2 : World} {s : Nat} {a : Option Addr} {L c : Nat} {zs : Nat → Int} {e : Ending} (hb : Below w.heap.size w w1) (hs : w.heap.size ≤ s) (h : DrewL N w1 s a L c zs e w2) : DrawnL N w e w2 := by
  obtain ⟨xs, A, cc, he, hl, ho, _, hy⟩ := h
  exact ⟨xs, A, cc, he, hl, ho.less hb.size, bl_trans' hb hs hy⟩

end Go.Proofs.YtjmfecjgomkofabDoor
