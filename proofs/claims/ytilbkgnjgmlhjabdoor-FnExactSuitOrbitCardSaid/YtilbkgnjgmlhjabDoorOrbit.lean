/-
  The program's SuitOrbit.
-/
import Derived.Test.YtilbkgnjgmlhjabDoorSuitExs
import Derived.Test.YtilbkgnjgmlhjabDoorSetMap
import Derived.Test.YtilbkgnjgmlhjabDoorBase
namespace Go.Proofs.YtilbkgnjgmlhjabDoor
open Go.RowKit
open Go.Maps (Keyed)
set_option linter.unusedVariables false

/-- An exchange by its number, what a list becomes by it, how many sets there are. -/
def xch (k : Nat) : List Int := (exN 256).getD k []
def orbF (xs : List Int) (k : Nat) : Int := (maskOf (img (xch k) (sortA xs)) : Nat)
def orbC (xs : List Int) : Int := if cardsB xs = true then (distN (orbF xs) 24 : Nat) else 0
theorem xch_is {k : Nat} (h : k < 24) : IsX (xch k) := by
  have hl : k < (exN 256).length := by rw [exN_len]; exact h
  refine isX_mem (n := 256) (Nat.le_refl _) ?_
  unfold xch
  rw [List.getD_eq_getElem?_getD, List.getElem?_eq_getElem hl]
  exact List.getElem_mem hl
theorem cards_sort {xs : List Int} (h : cardsB xs = true) : cardsB (sortA xs) = true := by
  obtain ⟨p, _⟩ := sortA_facts xs
  obtain ⟨c1, c2⟩ := (cards_iff xs).1 h
  exact (cards_iff _).2 ⟨fun x hx => c1 x (p.mem_iff.1 hx), p.nodup_iff.2 c2⟩
theorem bitsI_mask {xs : List Int} (h : cardsB xs = true) : bitsI (maskOf xs) = sortA xs := order_mask h
theorem orbF_wf {xs : List Int} (h : cardsB xs = true) (k : Nat) (hk : k < 24) : 0 ≤ orbF xs k ∧ orbF xs k < 4503599627370496 := by
  have := mask_lt _ (img_cards (xch_is hk) (cards_sort h))
  unfold orbF; omega
theorem cells4_at : ∀ (l : List (List Int)), (∀ e ∈ l, e.length = 4) → ∀ k i, k < l.length → i < 4 → (cells4 l)[4 * k + i]? = some (.int .i64 (nth (l.getD k []) i))
  | [], _, k, i, hk, hi => by simp at hk
  | e :: l, h, 0, i, hk, hi => by
    have he := h e (by simp)
    have : (cells4 (e :: l))[4 * 0 + i]? = (ints e ++ cells4 l)[i]? := by simp [cells4]
    rw [this, List.getElem?_append_left (by rw [ints_length, he]; exact hi), ints_get e i (by omega)]
    rfl
  | e :: l, h, k + 1, i, hk, hi => by
    have he := h e (by simp)
    have hc : cells4 (e :: l) = ints e ++ cells4 l := by simp [cells4]
    rw [hc, List.getElem?_append_right (by rw [ints_length, he]; omega), ints_length, he, show 4 * (k + 1) + i - 4 = 4 * k + i by omega]
    exact cells4_at l (fun x hx => h x (by simp [hx])) k i (by simp at hk; omega) hi
/-- The exchanges as the program has them in memory. -/
structure Xs (w : World) (g : Nat) : Prop where
  ex : ∃ cur : Array Value, w.heap[g]? = some (.cells cur 38 (0, 0)) ∧ cur.toList.take 96 = cells4 (exN 256)
theorem Xs.cell {w : World} {g : Nat} (h : Xs w g) (k : Nat) (hk : k < 24) (i : Nat) (hi : i < 4) : w.cell? ⟨g, k * 4 + i, none⟩ = some (.int .i64 (nth (xch k) i)) := by
  obtain ⟨cur, h1, h2⟩ := h.ex
  rw [cell_of_row w g _ _ _ _ h1]
  have h3 := cells4_at (exN 256) (fun e he => (isX_mem (n := 256) (Nat.le_refl _) he).1) k i (by rw [exN_len]; exact hk) hi
  rw [← h2, List.getElem?_take, if_pos (by omega), Nat.mul_comm 4 k] at h3
  simpa [xch] using h3
theorem Xs.grown {w w' : World} {g B : Nat} (h : Xs w g) (hg : w.grownBy w' (some B)) (hne : g ≠ B) : Xs w' g := by
  obtain ⟨cur, h1, h2⟩ := h.ex
  exact ⟨cur, (hg.block g (Array.getElem?_eq_some_iff.1 h1).1 (by simp; exact hne)).trans h1, h2⟩
theorem Xs.below {w w' : World} {g : Nat} (h : Xs w g) (hb : Below w.heap.size w w') : Xs w' g := by
  obtain ⟨cur, h1, h2⟩ := h.ex
  exact ⟨cur, (hb.block g (Array.getElem?_eq_some_iff.1 h1).1).trans h1, h2⟩
theorem xs_of {w : World} {b : Nat} {v : Value} (h : OwnX w b v (exN 256)) : ∃ g cap, v = .slice (some ⟨g, 0, none⟩) 24 cap ∧ b ≤ g ∧ Xs w g := by
  obtain ⟨g, cap, cur, h1, h2, h3, h4, h5, h6⟩ := ownX_form h (by rw [exN_len]; omega)
  rw [exN_len] at h1 h6
  exact ⟨g, cap, h1, h2, ⟨cur, h3, h6⟩⟩
/-- What the loop over the exchanges keeps: the map in block B, the exchanges in block g. -/
structure Orb (w0 : World) (B g : Nat) (f : Nat → Int) (k : Nat) (wr : World) : Prop where
  map : SetM Tryd.prog 31 .u64 wr B k f
  xs : Xs wr g
  below : Below w0.heap.size w0 wr
theorem Orb.next {w0 wr w' : World} {B g k : Nat} {f : Nat → Int} (h : Orb w0 B g f k wr) (hb : Below wr.heap.size wr w') : Orb w0 B g f k w' := ⟨h.map.below hb, h.xs.below hb, bl_trans h.below hb⟩
set_option maxRecDepth 100000 in
theorem run_makeMapS (w : World) : (Instr.makeMap 34 none).run Tryd.prog w = .ok (.map (some w.heap.size)) (w.alloc (.map #[] 0)) := by
  first | rfl | simp [Instr.makeMap, go_sem]
theorem lawSet : Keyed Tryd.prog 31 := Go.Maps.int_keyed Tryd.underlying31

set_option maxRecDepth 100000 in
set_option maxHeartbeats 2000000 in
theorem implOrbit_yes (A : Option Addr) (c : Nat) (xs : List Int) (B : Nat) (wt w : World) (hr : Rd w A xs) (hn : xs.length ≤ 4000000) (hd : cardsB xs = true) (ht : Hid (Tz B wt)) (hB : Hid (Below B wt w)) (hBw : Hid (B ≤ w.heap.size)) :
    Calls Tryd.prog 6 #[.slice A xs.length c] w (Fresh (.tuple #[.int .i64 (distN (orbF xs) 24 : Nat), .int .i64 0]) w) := by
  have KS := Lib.hid (fun (c : Nat) => setOf_any A c xs w hr hn)
  unfold setV at KS
  rw [setI_yes hd, hd] at KS
  have hm := mask_lt xs hd
  have KX := Lib.hid exchanges_any
  have hmm := run_makeMapS
  have HIS := Lib.hid (fun k (h : k < 24) => xch_is h)
  have HWF : Hid (∀ k, k < 24 → (Lit.int .u64 (orbF xs k)).wf = true) := Lib.hid (fun k hk => by have := orbF_wf hd k hk; exact WalkArith.wf_u64 (by omega))
  have KF : Hid (∀ (k : Nat) (W : World), k < 24 → Hid (Below B wt W) → Hid (B ≤ W.heap.size) → Calls Tryd.prog 13 #[.agg (ints (xch k)).toArray, .int .u64 (maskOf xs)] W (Fresh (.int .u64 (orbF xs k)) W)) := Lib.hid (fun k W hk hb hw => by
    have := setFor_any (xch k) (maskOf xs) B wt W (xch_is hk) hm (by rw [bitsI_mask hd]; exact cards_sort hd) ht hb hw
    rwa [bitsI_mask hd] at this)
  have HRR := Lib.hid hr
  clear hm hd hr
  generalize orbF xs = f at *
  generalize maskOf xs = m at *
  obtain ⟨w0, rfl⟩ : ∃ w0 : World, w0 = w := ⟨w, rfl⟩
  go_enter Tryd.func6, Tryd.ntmps6
  have HM : Hid (SetM Tryd.prog 31 .u64 (w0.alloc (.map #[] 0)) w0.heap.size 0 f) := Lib.hid (setM_made _ _ _ _ _)
  go_wp2_with (first
    | (go_at_call 11; refine (KS.out _).mono ?_; rintro e w1 ⟨rfl, rfl⟩)
    | (go_at_call 12; refine (KX.out _).mono ?_; rintro e w1 ⟨v, rfl, hox, hbx⟩
       obtain ⟨g, cap, rfl, hgb, hxs⟩ := xs_of hox
       have HGB : Hid (w0.heap.size < g) := Lib.hid (by simp at hgb; omega)
       have HO : Hid (Orb w0 w0.heap.size g f 0 w1) := Lib.hid ⟨HM.out.below hbx, hxs, bl_trans (bl_alloc (bl_refl w0) _) hbx⟩
       clear hox hbx hgb hxs))
  clear KS HM HRR
  go_loopw [19] (fun i wr => ∃ k : Nat, k ≤ 24 ∧ i = .int .i64 k ∧ Hid (Orb w0 w0.heap.size g f k wr)) (fun i _ => 24 - (intOf i).toNat)
  case atStart => exact ⟨0, by omega, rfl, HO⟩
  case round =>
    obtain ⟨k, hk, rfl, hs⟩ := hrel
    by_cases hlt : k < 24
    · have hlt' : (k : Int) < 24 := by omega
      have cb0 := hs.out.xs.cell k hlt 0 (by omega)
      have cb1 := hs.out.xs.cell k hlt 1 (by omega)
      have cb2 := hs.out.xs.cell k hlt 2 (by omega)
      have cb3 := hs.out.xs.cell k hlt 3 (by omega)
      have hix := HIS.out k hlt
      have K1 := Lib.hid (fun (W : World) => KF.out k W hlt)
      generalize xch k = e at *
      obtain ⟨a, b, c1, d, rfl, _⟩ := isX_four hix
      clear hix
      simp only [nth, List.getD_cons_zero, List.getD_cons_succ, Nat.add_zero] at cb0 cb1 cb2 cb3
      simp only [ints, List.map_cons, List.map_nil] at K1
      have K2 := Lib.hid (K1.out (wr.alloc (.cells #[.int .i64 a, .int .i64 b, .int .i64 c1, .int .i64 d] 38)) (Lib.hid (hB.out.trans ((bl_alloc hs.out.below _).mono hBw.out))) (Lib.hid (by have := hBw.out; have := hs.out.below.size; simp; omega)))
      have HN := Lib.hid (hs.out.next (bl_alloc (bl_refl wr) (.cells #[.int .i64 a, .int .i64 b, .int .i64 c1, .int .i64 d] 38)))
      clear K1
      go_wp2_with (first
        | (go_at_call 13; refine (K2.out).mono ?_; rintro e w5 ⟨rfl, hb5⟩; have HN5 := Lib.hid (HN.out.next hb5); clear hb5)
        | (with_reducible refine wpList_setM rfl (.tmp 23) (.tmp 26) (.const (.bool true)) 34 rfl 4 lawSet Tryd.underlying31 Tryd.underlying34 rfl HN5.out.map (by unfold maxLen; omega) (fun j hj => HWF.out j (by omega)) _ rfl rfl ?_))
      intro w6 hm6 hg6
      have HN6 : Hid (Orb w0 w0.heap.size g f (k + 1) w6) := Lib.hid ⟨hm6, HN5.out.xs.grown hg6 (by have := HGB.out; omega), bl_blk HN5.out.below hg6 (Nat.le_refl _)⟩
      clear hm6 hg6
      go_wp2_with fail
      go_roundw
      case rel => exact ⟨k + 1, by omega, by go_num, HN6⟩
      case measure => simp [intOf]; omega
    · obtain rfl : k = 24 := by omega
      have hlen := hs.out.map.len Tryd.underlying34
      go_wp2_with fail
      go_ret2
      exact ⟨rfl, hs.out.below⟩
set_option maxRecDepth 100000 in
set_option maxHeartbeats 1000000 in
theorem implOrbit_any (A : Option Addr) (c : Nat) (xs : List Int) (B : Nat) (wt w : World) (hr : Rd w A xs) (hn : xs.length ≤ 4000000) (ht : Hid (Tz B wt)) (hB : Hid (Below B wt w)) (hBw : Hid (B ≤ w.heap.size)) :
    Calls Tryd.prog 6 #[.slice A xs.length c] w (Fresh (.tuple #[.int .i64 (orbC xs), .int .i64 (codeC xs)]) w) := by
  by_cases hd : cardsB xs = true
  · have e1 : orbC xs = (distN (orbF xs) 24 : Nat) := by unfold orbC; rw [if_pos hd]
    have e2 : codeC xs = 0 := by unfold codeC; rw [if_pos hd]
    rw [e1, e2]
    exact implOrbit_yes A c xs B wt w hr hn hd ht hB hBw
  · have hf : cardsB xs = false := by simpa using hd
    have e1 : orbC xs = 0 := by unfold orbC; rw [if_neg hd]
    have e2 : codeC xs = 1 := by unfold codeC; rw [if_neg hd]
    rw [e1, e2]
    have KS := Lib.hid (fun (c : Nat) => setOf_any A c xs w hr hn)
    unfold setV at KS
    rw [setI_no hf, hf] at KS
    clear hr hd hf e1 e2
    go_enter Tryd.func6, Tryd.ntmps6
    go_wp2_with (go_at_call 11; refine (KS.out _).mono ?_; rintro e w1 ⟨rfl, rfl⟩)
    go_ret2
    exact ⟨rfl, bl_refl _⟩
end Go.Proofs.YtilbkgnjgmlhjabDoor
