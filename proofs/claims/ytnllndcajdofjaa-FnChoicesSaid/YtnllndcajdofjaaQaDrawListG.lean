/-
  Put together, what this law needs of: DrawList, DrawTab, DrawTabV.
-/
import Derived.Test.YtnllndcajdofjaaQaDraws
import Derived.Test.YtnllndcajdofjaaQaBoolLG
import Derived.Test.YtnllndcajdofjaaQaBetDG
namespace Go.Proofs.Ytnllndcajdofjaa
open Go.RowKit
set_option linter.unusedVariables false

/-- What holds between the draws of a list. -/
structure Lists (w : World) (s : Nat) (a : Option Addr) (L c : Nat) (zs : Nat → Int) (xs : List Int) (v : Value) (wr : World) : Prop where
  own : Own wr w.heap.size v xs
  src : Src wr s a L c zs
  only : Only s w wr
theorem lists_next {w wr w1 : World} {s : Nat} {a : Option Addr} {L c : Nat} {zs : Nat → Int} {xs : List Int} {v : Value} (h : Lists w s a L c zs xs v wr) (hs : s < w.heap.size) (hsrc : Src w1 s a L c zs) (ho : Only s wr w1) : Lists w s a L c zs xs v w1 :=
  ⟨own_only h.own ho hs, hsrc, only_trans h.only ho⟩
theorem lists_alloc {w wr : World} {s : Nat} {a : Option Addr} {L c : Nat} {zs : Nat → Int} {xs : List Int} {v : Value} (h : Lists w s a L c zs xs v wr) (o : Obj) : Lists w s a L c zs xs v (wr.alloc o) :=
  ⟨h.own.below (bl_alloc (bl_refl _) _), src_alloc h.src o, only_alloc h.only o⟩
theorem lists_app {w w1 w2 : World} {s : Nat} {a : Option Addr} {L c : Nat} {zs : Nat → Int} {xs : List Int} {v v' : Value} {y : Int} {o : Obj} (h : Lists w s a L c zs xs v w1) (hs : s < w.heap.size) (hB : CodeB w.heap.size a L)
    (hown : w2.ownsRow w.heap.size 2 1 v' (xs.length + 1) (ints xs ++ [.int .i64 y])) (hgrow : (w1.alloc o).grownBy w2 v.ownBlock) : Lists w s a L c zs (xs ++ [y]) v' w2 := by
  have hr : ∀ j, v.ownBlock = some j → w.heap.size ≤ j := fun j hj => (World.ownsRow.lt h.own j hj).1
  exact ⟨own_app hown, src_grown (src_alloc h.src o) hgrow hr hs hB, only_grown (only_alloc h.only o) hgrow hr⟩
theorem bl_trans' {w w1 w2 : World} {s : Nat} (hb : Below w.heap.size w w1) (hs : w.heap.size ≤ s) (hy : Only s w1 w2) : Below w.heap.size w w2 := by
  refine Below.grown (row := some s) hb hy hb.size (fun j hj => ?_)
  injection hj with hj
  omega
end Go.Proofs.Ytnllndcajdofjaa

namespace Go.Proofs.Ytnllndcajdofjaa
open Go.RowKit
set_option linter.unusedVariables false

theorem pickT_row (ys : List Int) (n : Nat) (w : World) (s : Nat) (a : Option Addr) (L c : Nat) (zs : Nat → Int) (h : Src w s a L c zs) (hN : ys.length = n) (h1 : 1 < n) (h2 : n ≤ 100) (lo hi : Int) (hb : ∀ y ∈ ys, lo ≤ y ∧ y ≤ hi) :
    Calls Try.prog 74 #[.pointer (some ⟨s, 0, none⟩), .slice (some ⟨w.heap.size, 0, none⟩) n n] (w.alloc (.cells (ys.map (Value.int .i64)).toArray 2)) (Drew lo hi (w.alloc (.cells (ys.map (Value.int .i64)).toArray 2)) s a L c zs) := by
  have hs := src_lt h
  exact pick_any s w.heap.size n (rowOf ys) lo hi a L c zs _ (by omega) (by omega) (fun i hi => row_new ys 2 w i (by omega)) (fun i hi => hb _ (by
    unfold rowOf
    rw [List.getD_eq_getElem?_getD, List.getElem?_eq_getElem (by omega)]
    exact List.getElem_mem _)) (by omega) (src_alloc h _)
theorem own_ne_blkT {W : World} {lo g : Nat} {v : Value} {ys : List Int} {vs : List Value} {t : TypeId} (ho : Own W lo v ys) (hb : Blk W g t vs) (ht : t ≠ 2) : some g ≠ v.ownBlock := by
  intro e
  rcases ho.2 with ⟨rfl, _⟩ | ⟨g', cap, cur, rfl, _, hh, _⟩
  · cases e
  · have : g = g' := by injection e
    subst this
    have hb' : W.heap[g]? = some (.cells vs.toArray t) := hb
    rw [hh] at hb'
    injection hb' with q
    injection q with _ q2
    exact ht q2.symm
/-- A box of the call's own beside the source. -/
theorem blk_only {w w' : World} {g s : Nat} {t : TypeId} {vs : List Value} (h : Blk w g t vs) (ho : Only s w w') (hne : g ≠ s) : Blk w' g t vs := h.grown ho (fun e => hne (Option.some.inj e))
end Go.Proofs.Ytnllndcajdofjaa

namespace Go.Proofs.Ytnllndcajdofjaa
open Go.RowKit
set_option linter.unusedVariables false

/-- A drawn table that is valid, its list a row of the call's own. -/
def TabV (lo : Nat) (w : World) (s : Nat) (a : Option Addr) (L c : Nat) (zs : Nat → Int) (e : Ending) (w' : World) : Prop :=
  ∃ (A : Option Addr) (k : Nat) (xs : List Int) (b p g t l : Int), e = .returned (.agg #[.slice A xs.length k, .int .i64 b, .int .i64 p, .int .i64 g, .int .i64 t, .int .i64 l]) ∧ tabB xs b p g t l = true ∧ Own w' lo (.slice A xs.length k) xs ∧ Src w' s a L c zs ∧ Only s w w'
theorem rng_snoc {xs : List Int} {z lo hi : Int} (h : ∀ j, j < xs.length → lo ≤ nth xs j ∧ nth xs j ≤ hi) (hz : lo ≤ z ∧ z ≤ hi) : ∀ j, j < (xs ++ [z]).length → lo ≤ nth (xs ++ [z]) j ∧ nth (xs ++ [z]) j ≤ hi := fun j hj => by
  rw [List.length_append, List.length_singleton] at hj
  by_cases e : j < xs.length
  · have : nth (xs ++ [z]) j = nth xs j := by unfold nth; rw [List.getD_eq_getElem?_getD, List.getD_eq_getElem?_getD, List.getElem?_append_left e]
    rw [this]; exact h j e
  · have e2 : j = xs.length := by omega
    subst e2
    have : nth (xs ++ [z]) xs.length = z := by unfold nth; simp
    rw [this]; exact hz
set_option maxRecDepth 100000 in
set_option maxHeartbeats 1000000 in
theorem validTV_any (s : Nat) (a : Option Addr) (L c : Nat) (zs : Nat → Int) (w : World) (h : Src w s a L c zs) :
    Calls Try.prog 96 #[.pointer (some ⟨s, 0, none⟩)] w (TabV w.heap.size w s a L c zs) := by
  have HS := src_lt h
  have HB := Lib.hid (codeB_of h)
  have iT : (Try.prog.info? 49).map (·.size) = some 6 := by kernel_rfl
  obtain ⟨i0, hi, hz0, hz1, hz2⟩ := info_parts infoInt
  obtain ⟨w0, rfl⟩ : ∃ w0 : World, w0 = w := ⟨w, rfl⟩
  obtain ⟨W1, e1⟩ : ∃ W1, W1 = w0.alloc (.cells (([.slice none 0 0, .int .i64 0, .int .i64 0, .int .i64 0, .int .i64 0, .int .i64 0] : List Value)).toArray 49) := ⟨_, rfl⟩
  have N1 : Hid (Blk W1 w0.heap.size 49 [.slice none 0 0, .int .i64 0, .int .i64 0, .int .i64 0, .int .i64 0, .int .i64 0]) := Lib.hid (by rw [e1]; exact blk_new w0 _ _)
  have S1 : Hid (Src W1 s a L c zs) := Lib.hid (by rw [e1]; exact src_alloc h _)
  have Y1 : Hid (Only s w0 W1) := Lib.hid (by rw [e1]; exact only_alloc (only_refl _ _) _)
  have z1 : W1.heap.size = w0.heap.size + 1 := by rw [e1]; exact World.size_alloc _ _
  clear h
  subst e1
  go_enter Try.func96, Try.ntmps96
  go_wp2_with (go_at_call 72; (with_reducible refine (next_any _ 5 _ _ _ _ _ (by omega) (by omega) S1.out).mono ?_); rintro e w2 ⟨x, rfl, x0, x1, hs2, ho2⟩; have N2 := Lib.hid (blk_only N1.out ho2 (by omega)); have Y2 := Lib.hid (only_trans Y1.out ho2); have S2 := Lib.hid hs2; clear hs2 ho2 N1 Y1 S1)
  have D3 : Hid (Lists w0 s a L c zs [] (.slice (some ⟨w2.heap.size, 0, none⟩) 0 0) (w2.alloc (.cells #[] 2))) := Lib.hid ⟨Own.less (show Own (w2.alloc (.cells #[] 2)) w2.heap.size (.slice (some ⟨w2.heap.size, 0, none⟩) 0 0) [] from World.ownsRow_made w2 #[] 0 (Nat.le_refl _) (by unfold maxLen; omega) rfl) Y2.out.size, src_alloc S2.out _, only_alloc Y2.out _⟩
  have N3 := Lib.hid (N2.out.below (bl_alloc (bl_refl w2) (.cells #[] 2)))
  obtain ⟨m, hm⟩ : ∃ m : Nat, 2 + x = (m : Int) := Int.eq_ofNat_of_zero_le (by omega)
  clear Y2 S2 N2
  rw [hm]
  have hm2 : 2 ≤ m := by omega
  have hm6 : m ≤ 6 := by omega
  clear hm x0 x1
  go_loopw [4, 5] (fun v i wr => ∃ (k : Nat) (xs : List Int), k ≤ m ∧ xs.length = k ∧ i = .int .i64 k ∧ Hid (∀ j, j < xs.length → 1 ≤ nth xs j ∧ nth xs j ≤ 200) ∧ Hid (Lists w0 s a L c zs xs v wr) ∧ Hid (Blk wr w0.heap.size 49 [.slice none 0 0, .int .i64 0, .int .i64 0, .int .i64 0, .int .i64 0, .int .i64 0])) (fun _ i _ => m - (intOf i).toNat)
  case atStart => exact ⟨0, [], Nat.zero_le _, rfl, rfl, Lib.hid (fun j hj => by simp at hj), D3, N3⟩
  case round =>
    obtain ⟨k, xs, hk, hxl, rfl, HX2, D, NR⟩ := hrel
    have HXL := Lib.hid hxl
    have hxl6 : xs.length ≤ 6 := by omega
    clear hxl
    by_cases hlt : k < m
    · have hlt' : (k : Int) < m := by omega
      go_wp2_with (go_at_call 72; (with_reducible refine (next_any _ 5 _ _ _ _ _ (by omega) (by omega) D.out.src).mono ?_); rintro e w3 ⟨y1, rfl, y10, y11, hs3, ho3⟩; have D4 := Lib.hid (lists_next D.out HS hs3 ho3); have NR4 := Lib.hid (blk_only NR.out ho3 (by omega)); clear hs3 ho3)
      go_wp2_with (go_at_call 72; (with_reducible refine (next_any _ 30 _ _ _ _ _ (by omega) (by omega) D4.out.src).mono ?_); rintro e w4 ⟨y2, rfl, y20, y21, hs3, ho3⟩; have D5 := Lib.hid (lists_next D4.out HS hs3 ho3); have NR5 := Lib.hid (blk_only NR4.out ho3 (by omega)); clear hs3 ho3)
      go_wp2_with (go_at_call 72; (with_reducible refine (next_any _ 160 _ _ _ _ _ (by omega) (by omega) D5.out.src).mono ?_); rintro e w5 ⟨y3, rfl, y30, y31, hs3, ho3⟩; have D6 := Lib.hid (lists_next D5.out HS hs3 ho3); have NR6 := Lib.hid (blk_only NR5.out ho3 (by omega)); clear hs3 ho3 D4 D5 NR4 NR5)
      have KP := Lib.hid (pickT_row [1, 2 + y1, 10 + y2, 40 + y3, 100] 5 w5 s a L c zs D6.out.src rfl (by omega) (by omega) 1 200 (by intro y hy; simp at hy; omega))
      simp only [List.map_cons, List.map_nil] at KP
      have hxl7 : xs.length ≤ 7 := by omega
      clear hxl6
      go_wp2_with (first
        | (go_at_call 74; (refine (KP.out).mono ?_; rintro e w6 ⟨z, rfl, z0, z1, hs4, ho4⟩; have D7 := Lib.hid (lists_next (lists_alloc D6.out _) HS hs4 ho4); have NR7 := Lib.hid (blk_only (NR6.out.below (bl_alloc (bl_refl w5) _)) ho4 (by omega)); clear hs4 ho4))
        | (at_builtin; refine wpList_append_own _ rfl _ _ 24 rfl w0.heap.size 2 i0 (.int .i64 0) 1 8 Try.underlying24 hi hz0 hz1 hz2 rfl (by decide) _ _ _ rfl (D7.out.own.below (bl_alloc (bl_refl _) _)) ⟨w6.heap.size, 0, none⟩ 1 1 [.int .i64 z] rfl rfl ?c1 ?c2 ?c3 ?c4 ?c5 ?_))
      case c1 =>
        intro j u hj
        match j, hj with
        | 0, hj => simp at hj; subst hj; simp [Addr.add]
      case c2 => intro u hu; simp at hu; subst hu; rfl
      case c3 => unfold maxLen; omega
      case c4 => omega
      case c5 => have := D7.out.only.size; simp; omega
      intro v' w7 hown hgrow _
      have D8 := Lib.hid (lists_app D7.out HS HB.out hown hgrow)
      have NA7 := NR7.out.below (bl_alloc (bl_refl w6) (.cells #[.int .i64 z] 2))
      have NR8 := Lib.hid (NA7.grown hgrow (own_ne_blkT (D7.out.own.below (bl_alloc (bl_refl w6) (.cells #[.int .i64 z] 2))) NA7 (by decide)))
      clear NA7
      clear hown hgrow
      go_wp2_with fail
      go_roundw
      case rel => exact ⟨k + 1, xs ++ [z], by omega, by rw [List.length_append, HXL.out]; rfl, by go_num, Lib.hid (rng_snoc HX2.out ⟨z0, z1⟩), D8, NR8⟩
      case measure => simp [intOf]; omega
    · obtain rfl : k = m := by omega
      have KP := Lib.hid (pickT_row [1, 2, 2, 4, 10] 5 wr s a L c zs D.out.src rfl (by omega) (by omega) 1 10 (by intro y hy; simp at hy; omega))
      simp only [List.map_cons, List.map_nil] at KP
      go_wp2_with (go_at_call 74; (refine (KP.out).mono ?_; rintro e w3 ⟨bg, rfl, bg0, bg1, hs4, ho4⟩; have D4 := Lib.hid (lists_next (lists_alloc D.out _) HS hs4 ho4); have NR4 := Lib.hid (blk_only (NR.out.below (bl_alloc (bl_refl wr) _)) ho4 (by omega)); clear hs4 ho4))
      go_wp2_with (go_at_call 72; ((with_reducible refine (next_any _ k _ _ _ _ _ (by omega) (by omega) D4.out.src).mono ?_); rintro e w4 ⟨y1, rfl, y10, y11, hs3, ho3⟩; have D5 := Lib.hid (lists_next D4.out HS hs3 ho3); have NR5 := Lib.hid (blk_only NR4.out ho3 (by omega)); clear hs3 ho3))
      have KP2 := Lib.hid (pickT_row [0, 0, 1, 3] 4 w4 s a L c zs D5.out.src rfl (by omega) (by omega) 0 3 (by intro y hy; simp at hy; omega))
      simp only [List.map_cons, List.map_nil] at KP2
      go_wp2_with (go_at_call 74; (refine (KP2.out).mono ?_; rintro e w5 ⟨t, rfl, t0, t1, hs4, ho4⟩; have D6 := Lib.hid (lists_next (lists_alloc D5.out _) HS hs4 ho4); have NR6 := Lib.hid (blk_only (NR5.out.below (bl_alloc (bl_refl w4) _)) ho4 (by omega)); clear hs4 ho4))
      obtain ⟨A9, c9, rfl, hO9⟩ := own_form D6.out.own
      clear hO9
      go_wp2_with (first
        | (go_at_call 72; ((with_reducible refine (next_any _ 3 _ _ _ _ _ (by omega) (by omega) D6.out.src).mono ?_); rintro e w6 ⟨l, rfl, l0, l1, hs3, ho3⟩; have D7 := Lib.hid (lists_next D6.out HS hs3 ho3); have NR7 := Lib.hid (blk_only NR6.out ho3 (by omega)); clear hs3 ho3))
        | (refine wpList_store_blk 49 6 rfl (.tmp 2) (.tmp 46) rfl iT w0.heap.size rfl [.slice A9 xs.length c9, .int .i64 y1, .int .i64 (bg / 2), .int .i64 bg, .int .i64 t, .int .i64 l] rfl rfl (by simp [Value.oneCell']) _ NR7.out rfl ?_; intro w9 k9 g9))
      have hne : ∀ j, (Value.slice A9 xs.length c9).ownBlock = some j → (some w0.heap.size : Option Nat) ≠ some j := fun j hj e => own_ne_blkT D7.out.own NR7.out (by decide) (e.trans hj.symm)
      have HO9 : Hid (Own w9 w0.heap.size (.slice A9 xs.length c9) xs) := Lib.hid (World.ownsRow.kept D7.out.own g9 (by
        rcases hq : (Value.slice A9 xs.length c9).ownBlock with _ | j
        · exact .inl rfl
        · exact .inr (fun e => hne j hq e.symm)))
      have HS9 := Lib.hid (src_grown (B := w0.heap.size) D7.out.src g9 (fun j e => by injection e with e; omega) HS HB.out)
      have HY9 := Lib.hid (only_grown D7.out.only g9 (fun j e => by injection e with e; omega))
      have HX := HXL.out
      obtain ⟨z0, _⟩ := Blk.cell k9 0 _ rfl
      obtain ⟨z1, _⟩ := Blk.cell k9 1 _ rfl
      obtain ⟨z2, _⟩ := Blk.cell k9 2 _ rfl
      obtain ⟨z3, _⟩ := Blk.cell k9 3 _ rfl
      obtain ⟨z4, _⟩ := Blk.cell k9 4 _ rfl
      obtain ⟨z5, _⟩ := Blk.cell k9 5 _ rfl
      exact bodyPost_ret (v := .agg #[.slice A9 xs.length c9, .int .i64 y1, .int .i64 (bg / 2), .int .i64 bg, .int .i64 t, .int .i64 l]) (by simp [results, Try.results96, go_sem, z0, z1, z2, z3, z4, z5]) rfl ⟨A9, c9, xs, y1, bg / 2, bg, t, l, rfl, tab_iff.2 ⟨by omega, by omega, fun i hi => by have := HX2.out i hi; omega, by omega, by omega, by omega, by omega, by omega, by omega, by omega, by omega, by omega, by omega⟩, HO9.out, HS9.out, HY9.out⟩
end Go.Proofs.Ytnllndcajdofjaa
