/-
  The model's category and value of five cards.
-/
import Derived.Test.YtcbfmfkahgfjkaaDoorKickSpec
import Derived.Test.YtcbfmfkahgfjkaaDoorSpecAre
import Derived.Deep.RegionHeld3
import Derived.Deep.RegionWith
import Derived.Deep.DeepCutAuto
namespace Go.Proofs.YtcbfmfkahgfjkaaDoor
open Go.RowKit
set_option linter.unusedVariables false

/-- All cards have the suit of the first one. -/
def flushB (xs : List Int) : Bool := decide (cnt (fun x => x % 4 == nth xs 0 % 4) xs = 5)
/-- The category, out of the numbers. -/
def cat9 (s one : Bool) (m4 m3 m2 : Nat) : Int :=
  if (s && one) = true then 8 else if m4 = 1 then 7 else if m3 = 1 ∧ m2 = 1 then 6 else if one = true then 5 else if s = true then 4
  else if m3 = 1 then 3 else if m2 = 2 then 2 else if m2 = 1 then 1 else 0
/-- How often each number occurs among the counts of ranks. -/
theorem many_cnt (rs : List Int) (n : Nat) : cnt (fun x => (fun y : Int => y) x == (n : Int)) (occL rs) = many rs n := by
  unfold cnt many occL
  rw [List.filter_map, List.length_map]
  congr 1
  apply List.filter_congr
  intro r _
  simp only [Function.comp]
  rw [Bool.eq_iff_iff]
  simp only [beq_iff_eq]
  omega
theorem occL_bd (rs : List Int) (h4 : ∀ r, occ rs r ≤ 4) (k : Nat) (hk : k < 13) : ∃ y : Nat, nth (occL rs) k = (y : Int) ∧ y < 5 := by
  rw [occL_nth rs k hk]
  exact ⟨_, rfl, by have := h4 (k : Int); omega⟩
/-- The numbers of the model's category, as they lie in a row. -/
def ManyAt (w : World) (g : Nat) (rs : List Int) : Prop := w.cell? ⟨g, 2, none⟩ = some (.int .i64 (many rs 2 : Int)) ∧ w.cell? ⟨g, 3, none⟩ = some (.int .i64 (many rs 3 : Int)) ∧ w.cell? ⟨g, 4, none⟩ = some (.int .i64 (many rs 4 : Int))
theorem manyAt_of {w wr : World} {rs : List Int} (h : Counted w 5 (fun y => y) (occL rs) wr) : ManyAt wr w.heap.size rs := by
  refine ⟨?_, ?_, ?_⟩
  · rw [(counted_cell h 2 (by omega)).1, many_cnt]
  · rw [(counted_cell h 3 (by omega)).1, many_cnt]
  · rw [(counted_cell h 4 (by omega)).1, many_cnt]
theorem ManyAt.keep {w w' : World} {g : Nat} {rs : List Int} (h : ManyAt w g rs) (hb : Below w.heap.size w w') : ManyAt w' g rs :=
  ⟨(hb.cell (p := ⟨g, 2, none⟩) (World.block_lt_of_cell? _ _ h.1)).trans h.1, (hb.cell (p := ⟨g, 3, none⟩) (World.block_lt_of_cell? _ _ h.2.1)).trans h.2.1, (hb.cell (p := ⟨g, 4, none⟩) (World.block_lt_of_cell? _ _ h.2.2)).trans h.2.2⟩

/-- What the counting of suits leaves: the count of the first card's suit lies in a new row. -/
def CntS (n y : Nat) (w : World) (e : Ending) (w' : World) : Prop := ∃ b c, e = .returned (.slice (some ⟨b, 0, none⟩) 4 c) ∧ w'.cell? ⟨b, y, none⟩ = some (.int .i64 (n : Int)) ∧ b < w'.heap.size ∧ Below w.heap.size w w'
theorem cntS_any (A : Option Addr) (c : Nat) (xs : List Int) (y : Nat) (w : World) (hr : Rd w A xs) (hn : xs.length ≤ 4000000) (hb : cardsB xs = true) (hy : y < 4) :
    Calls Tryd.prog 76 #[.slice A xs.length c] w (CntS (cnt (fun x => x % 4 == (y : Int)) xs) y w) := by
  refine (l02SuitCounts_any A c xs w hr hn hb).mono ?_
  rintro e w' ⟨A', c', he, ho, hb'⟩
  have hrd := ho.rd
  have hl := cntL_length 4 (fun x => x % 4) xs
  rw [hl] at he
  obtain ⟨b, off, rfl, hc⟩ := hrd (by rw [hl]; omega)
  have h0 : off = 0 := by
    rcases ho.2 with ⟨hv, _⟩ | ⟨g, cap, cur, hv, _⟩
    · cases hv
    · injection hv with hv; injection hv with hv; injection hv
  subst h0
  have := hc y (by rw [hl]; omega)
  rw [Nat.zero_add, cntL_nth 4 _ xs y hy] at this
  exact ⟨b, c', he, this, World.block_lt_of_cell? _ _ this, hb'⟩

set_option maxRecDepth 100000 in
set_option maxHeartbeats 4000000 in
theorem l04Category_any (A : Option Addr) (c : Nat) (xs : List Int) (w : World) (hr : Rd w A xs) (hn : xs.length = 5) (hb : cardsB xs = true) (h4 : ∀ r, occ (rk xs) r ≤ 4) :
    Calls Tryd.prog 51 #[.slice A 5 c] w (Fresh (.int .i64 (catS (rk xs) (flushB xs))) w) := by
  obtain ⟨i0, hi, hz0, hz1, hz2⟩ := info_parts infoInt
  have K1 := Lib.hid (cnt13_any A c xs w hr (by omega) hb)
  have x0 := ((cards_iff xs).1 hb).1 (nth xs 0) (nth_mem xs 0 (by omega))
  obtain ⟨y, ey⟩ : ∃ y : Nat, nth xs 0 = (y : Int) := ⟨(nth xs 0).toNat, by omega⟩
  have hy : y < 52 := by omega
  have KS := Lib.hid (fun (W : World) (h : Below w.heap.size w W) => cntS_any A c xs (y % 4) W (hr.below h) (by omega) hb (by omega))
  have EF : Hid (flushB xs = decide (cnt (fun x => x % 4 == ((y % 4 : Nat) : Int)) xs = 5)) := Lib.hid (by unfold flushB; rw [ey]; rfl)
  obtain ⟨b0, off0, rfl, hc0⟩ := hr (by omega)
  have hc0 := hc0 0 (by omega)
  rw [ey, Nat.add_zero] at hc0
  have HO := Lib.hid (occL_bd (rk xs) h4)
  rw [hn] at K1 KS
  generalize flushB xs = fl at *
  generalize cnt (fun x => x % 4 == ((y % 4 : Nat) : Int)) xs = nf at *
  generalize rk xs = rs at *
  clear hr hb h4 x0 ey
  have KT := Lib.hid (fun (A1 : Option Addr) (c1 : Nat) (W : World) (h : Rd W A1 (occL rs)) => l04Straight_any A1 c1 rs W h)
  have ES : Hid (catS rs fl = catS rs fl) := Lib.hid rfl
  have HC0 := Lib.hid hc0
  clear hc0
  go_enter Tryd.func51, Tryd.ntmps51
  go_wp2_with (first
    | (go_at_call 75; refine K1.out.mono ?_; rintro e w1 ⟨A1, c1, rfl, hr1, hb1⟩; have R1 := Lib.hid hr1; have B1 := Lib.hid hb1; clear hr1 hb1)
    | (at_make; refine wpList_make_full _ rfl _ _ 22 rfl w1.heap.size 2 i0 (.int .i64 0) 1 Tryd.underlying22 hi hz0 hz1 .i64 .i64 _ _ 5 rfl rfl rfl rfl ?c1 ?c2 (Nat.le_refl _) ?_))
  case c1 => rw [hz2]; omega
  case c2 => unfold maxLen; omega
  intro w2 hown hgrow
  have HS : Hid (Counted w1 5 (fun y => y) ((occL rs).take 0) w2) := Lib.hid ⟨by
    have e : (madeCells #[Value.int .i64 0] 5).toList = ints (cntL 5 (fun y => y) ((occL rs).take 0)) := by
      rw [List.take_zero, cntL_nil, ← ints_zeros]; exact toList_madeCells_one _ _
    rwa [e] at hown, (bl_refl _).grown hgrow (Nat.le_refl _) (fun j hj => by cases hj)⟩
  clear hown hgrow
  go_wp2_with fail
  go_loopw [5] (fun i wr => ∃ k : Nat, k ≤ 13 ∧ i = .int .i64 k ∧ Hid (Counted w1 5 (fun y => y) ((occL rs).take k) wr)) (fun i _ => 13 - (intOf i).toNat)
  case atStart => exact ⟨0, Nat.zero_le _, rfl, HS⟩
  case round =>
    obtain ⟨k, hk, rfl, hs⟩ := hrel
    by_cases hlt : k < 13
    · obtain ⟨b, off, rfl, hc⟩ := R1.out.at_ hs.out.2 k (by rw [occL_length]; exact hlt)
      have hlt' : (k : Int) < 13 := by omega
      have HC := Lib.hid (take_nth (occL rs) k (by rw [occL_length]; exact hlt))
      obtain ⟨q, eq, hq⟩ := HO.out k hlt
      rw [eq] at hc HC
      clear eq
      obtain ⟨hg, hf⟩ := counted_cell hs.out q hq
      have hle : cnt (fun z => (fun y : Int => y) z == (q : Int)) ((occL rs).take k) ≤ 13 := Nat.le_trans (cnt_le _ _) (by rw [List.length_take]; omega)
      obtain ⟨p, ep⟩ : ∃ p, p = cnt (fun z => (fun y : Int => y) z == (q : Int)) ((occL rs).take k) := ⟨_, rfl⟩
      rw [← ep] at hg hle
      have EP := Lib.hid ep
      clear ep
      go_wp2_with fail
      go_roundw
      case rel => exact ⟨k + 1, by omega, by go_num, Lib.hid (by rw [HC.out]; have := counted_step hs.out q hq rfl; rw [← EP.out] at this; exact this)⟩
      case measure => simp [intOf]; omega
    · obtain rfl : k = 13 := by omega
      have hs := hs.out
      rw [List.take_of_length_le (by rw [occL_length]; omega)] at hs
      have HM := Lib.hid (manyAt_of hs)
      have B2 := Lib.hid (bl_trans B1.out hs.2)
      have R2 := Lib.hid (R1.out.below hs.2)
      clear hs
      have hc1 := (B2.out.cell (p := ⟨b0, off0, none⟩) (World.block_lt_of_cell? _ _ HC0.out)).trans HC0.out
      have e1 : (y : Int).tmod 4 = ((y % 4 : Nat) : Int) := by rw [Int.tmod_eq_emod_of_nonneg (by omega)]; rfl
      have e2 : (((y % 4 : Nat) : Int)).toNat = y % 4 := rfl
      have e3 : ((y % 4 : Nat) : Int) < 4 := by omega
      have hb0 : b0 < wr.heap.size := World.block_lt_of_cell? _ _ hc1
      clear i0 hi hz0 hz1 hz2
      have e13 : ((13 : Nat) : Int) = 13 := rfl
      rw [e13]
      clear e13
      go_wp2_with fail
      go_cut [6] from 24 to 32 (fun v W => v = .bool fl ∧ Hid (Below wr.heap.size wr W))
      case first =>
        go_region_with ((go_at_call 76; (first | (with_reducible refine (KS.out _ B2.out).mono ?_) | (with_reducible refine (KS.out _ (bl_drew B2.out)).mono ?_) | (with_reducible refine (KS.out _ (bl_drewN B2.out _)).mono ?_)); rintro e w3 ⟨b3, c3, rfl, hc3, hz3, hb3⟩; have hc4 := (hb3.cell (p := ⟨b0, off0, none⟩) hb0).trans hc1))
        all_goals
          go_wp2_with fail
          go_meet
          exact ⟨congrArg Value.bool (by rw [EF.out, Bool.eq_iff_iff]; simp; omega), Lib.hid (bl_trans (bl_drew (bl_refl _)) hb3)⟩
      case rest =>
        obtain ⟨rfl, hb3⟩ := hcut
        obtain ⟨g2, g3, g4⟩ := HM.out.keep hb3.out
        have HB := Lib.hid (bl_trans B2.out hb3.out)
        have R3 := Lib.hid (R2.out.below hb3.out)
        have CS : Hid (catS rs fl = cat9 (decide (0 ≤ strT rs)) fl (many rs 4) (many rs 3) (many rs 2)) := Lib.hid rfl
        generalize many rs 2 = m2 at *
        generalize many rs 3 = m3 at *
        generalize many rs 4 = m4 at *
        generalize catS rs fl = z at *
        clear hb3 EF HC0 hc1 KS hb0 e1 e2 e3
        obtain ⟨st, est⟩ : ∃ st, st = strT rs := ⟨_, rfl⟩
        rw [← est] at KT CS
        clear est
        by_cases hst : 0 ≤ st
        all_goals
          cases fl
          all_goals
            go_wp2_with (go_at_call 77; refine (KT.out A1 c1 _ R3.out).mono ?_; rintro e w4 ⟨rfl, rfl⟩)
            all_goals
              go_ret
              refine ⟨ret_int ?_, HB.out⟩
              rw [CS.out]
              clear CS HB K1 HO HS HM B2 R2 R3 KT R1 B1 ES
              unfold cat9
              try simp only [beq_eq_false_iff_ne, ne_eq, beq_iff_eq] at *
              simp only [Bool.and_true, Bool.and_false, decide_eq_true_eq, Bool.false_eq_true, ↓reduceIte]
              repeat' split
              all_goals first | rfl | omega
end Go.Proofs.YtcbfmfkahgfjkaaDoor
