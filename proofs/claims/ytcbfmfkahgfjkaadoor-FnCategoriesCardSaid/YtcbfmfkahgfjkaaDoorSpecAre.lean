/-
  The model's AreCards: a row of marks.
-/
import Derived.Test.YtcbfmfkahgfjkaaDoorList
import Derived.Test.YtcbfmfkahgfjkaaDoorIsCard
namespace Go.Proofs.YtcbfmfkahgfjkaaDoor
open Go.RowKit
set_option linter.unusedVariables false

/-- The marks of the cards that have been met. -/
def seenOf (xs : List Int) : List Value := (List.range 52).map (fun i : Nat => Value.bool (xs.contains (i : Int)))
theorem seen_length (xs : List Int) : (seenOf xs).length = 52 := by simp [seenOf]
theorem seen_get (xs : List Int) (i : Nat) (h : i < 52) : (seenOf xs)[i]? = some (.bool (xs.contains (i : Int))) := by simp [seenOf, h]
theorem seen_nil : seenOf [] = List.replicate 52 (Value.bool false) := by
  rw [List.eq_replicate_iff]
  exact ⟨seen_length [], fun b hb => by simp [seenOf] at hb; exact hb.2.symm⟩
theorem seen_set (xs : List Int) (x : Int) (h0 : 0 ≤ x) (h1 : x < 52) : (seenOf xs).set x.toNat (.bool true) = seenOf (xs ++ [x]) := by
  apply List.ext_getElem?
  intro i
  rw [List.getElem?_set, seen_length]
  by_cases hi : i < 52
  · rw [seen_get _ i hi, seen_get _ i hi]
    by_cases e : x.toNat = i
    · have : x = (i : Int) := by omega
      rw [if_pos e, if_pos (by omega), this]; simp
    · have : ¬ (i : Int) = x := by omega
      rw [if_neg e]; simp [this]
  · have a : (seenOf xs)[i]? = none := by rw [List.getElem?_eq_none]; rw [seen_length]; omega
    have b : (seenOf (xs ++ [x]))[i]? = none := by rw [List.getElem?_eq_none]; rw [seen_length]; omega
    rw [a, b, if_neg (by omega)]
theorem infoBool : (Tryd.prog.info? 4).map (fun i => (i.zero, i.size, i.bytes)) = some (some (.bool false), 1, 1) := by kernel_rfl
/-- The loop's state. -/
def Seen (w : World) (xs : List Int) (wr : World) : Prop :=
  wr.ownsRow w.heap.size 4 1 (.slice (some ⟨w.heap.size, 0, none⟩) 52 52) 52 (seenOf xs) ∧ Below w.heap.size w wr
theorem seen_step {w wr : World} {xs : List Int} {x : Int} (h : Seen w xs wr) (h0 : 0 ≤ x) (h1 : x < 52) : Seen w (xs ++ [x]) (wr.setCell ⟨w.heap.size, x.toNat, none⟩ (.bool true)) := by
  refine ⟨?_, h.2.setCell (Nat.le_refl _) _⟩
  have := (h.1.stored x.toNat (.bool true)).1
  rwa [seen_set xs x h0 h1] at this
theorem seen_cell {w wr : World} {xs : List Int} {x : Int} (h : Seen w xs wr) (h0 : 0 ≤ x) (h1 : x < 52) :
    wr.cell? ⟨w.heap.size, x.toNat, none⟩ = some (.bool (xs.contains x)) ∧ wr.frozen? ⟨w.heap.size, x.toNat, none⟩ = false := by
  refine ⟨?_, h.1.frozenAt x.toNat⟩
  rw [h.1.cellAt x.toNat (by omega), seen_get _ _ (by omega)]
  have : ((x.toNat : Nat) : Int) = x := by omega
  rw [this]

set_option maxRecDepth 100000 in
set_option maxHeartbeats 1000000 in
theorem specAre_any (A : Option Addr) (c : Nat) (xs : List Int) (w : World) (hr : Rd w A xs) (hn : xs.length ≤ 4000000) :
    Calls Tryd.prog 71 #[.slice A xs.length c] w (Fresh (.bool (cardsB xs)) w) := by
  obtain ⟨i0, hi, hz0, hz1, hz2⟩ := info_parts infoBool
  have HR := Lib.hid hr
  clear hr
  obtain ⟨w0, rfl⟩ : ∃ w0 : World, w0 = w := ⟨w, rfl⟩
  go_enter Tryd.func71, Tryd.ntmps71
  go_wp2_with (at_make; refine wpList_make_full _ rfl _ _ 89 rfl w0.heap.size 4 i0 (.bool false) 1 Tryd.underlying89 hi hz0 hz1 .i64 .i64 _ _ 52 rfl rfl rfl rfl ?c1 ?c2 (Nat.le_refl _) ?_)
  case c1 => rw [hz2]; omega
  case c2 => unfold maxLen; omega
  intro w1 hown hgrow
  have HS : Hid (Seen w0 (xs.take 0) w1) := Lib.hid ⟨by
    have e : (madeCells #[Value.bool false] 52).toList = seenOf (xs.take 0) := by
      rw [List.take_zero, seen_nil]; exact toList_madeCells_one _ _
    rwa [e] at hown, (bl_refl _).grown hgrow (Nat.le_refl _) (fun j hj => by cases hj)⟩
  clear hown hgrow
  go_wp2_with fail
  go_loopw [4] (fun i wr => ∃ k : Nat, k ≤ xs.length ∧ i = .int .i64 k ∧ Hid (Seen w0 (xs.take k) wr) ∧ Hid (cardsB (xs.take k) = true)) (fun i _ => xs.length - (intOf i).toNat)
  case atStart => exact ⟨0, Nat.zero_le _, rfl, HS, Lib.hid (by rw [List.take_zero]; exact cards_nil)⟩
  case round =>
    obtain ⟨k, hk, rfl, hs, hc0⟩ := hrel
    by_cases hlt : k < xs.length
    · obtain ⟨b, off, rfl, hc⟩ := HR.out.at_ hs.out.2 k hlt
      have hlt' : (k : Int) < xs.length := by omega
      have hmem := nth_mem xs k hlt
      have HT : Hid (nth xs k ∈ xs.take k → cardsB xs = false) := Lib.hid (fun h => by rw [nth_eq xs k hlt] at h; exact cards_no_twice xs k hlt h)
      have HC := Lib.hid (take_nth xs k hlt)
      obtain ⟨x, ex⟩ : ∃ x, x = nth xs k := ⟨_, rfl⟩
      rw [← ex] at hc HC hmem HT
      clear ex
      by_cases hx : 0 ≤ x ∧ x < 52
      · obtain ⟨h0, h1⟩ := hx
        obtain ⟨hg, hf⟩ := seen_cell hs.out h0 h1
        by_cases hin : x ∈ xs.take k
        · have HN := Lib.hid (HT.out hin)
          have q : (xs.take k).contains x = true := by simpa using hin
          rw [q] at hg
          clear hin hmem HC q
          go_wp2_with (go_at_call 94; refine (specCard_yes _ _ h0 h1).mono ?_; rintro e w1 ⟨rfl, rfl⟩)
          go_ret
          exact ⟨ret_bool HN.out.symm, hs.out.2⟩
        · have q : (xs.take k).contains x = false := by simpa using hin
          rw [q] at hg
          have HN : Hid (cardsB (xs.take (k + 1)) = true) := Lib.hid (by rw [HC.out]; exact cards_snoc _ _ hc0.out h0 h1 hin)
          clear hin hmem q
          go_wp2_with (go_at_call 94; refine (specCard_yes _ _ h0 h1).mono ?_; rintro e w1 ⟨rfl, rfl⟩)
          go_roundw
          case rel => exact ⟨k + 1, by omega, by go_num, Lib.hid (by rw [HC.out]; exact seen_step hs.out h0 h1), HN⟩
          case measure => simp [intOf]; omega
      · have hx' : x < 0 ∨ 52 ≤ x := by omega
        have HN := Lib.hid (cards_no_out xs x hmem hx)
        have HO := Lib.hid hx'
        clear hx hx' hmem
        go_wp2_with (go_at_call 94; refine (specCard_no _ _ HO.out).mono ?_; rintro e w1 ⟨rfl, rfl⟩)
        go_ret
        exact ⟨ret_bool HN.out.symm, hs.out.2⟩
    · obtain rfl : k = xs.length := by omega
      have HF := hc0.out
      rw [take_len] at HF
      have HN := Lib.hid HF
      clear HF
      go_wp2_with fail
      go_ret
      exact ⟨ret_bool HN.out.symm, hs.out.2⟩

end Go.Proofs.YtcbfmfkahgfjkaaDoor
