/-
  l05DrawFour: four numbers, rarely three.
-/
import Derived.Test.YtajkgnheijhbpaaDrawSome
namespace Go.Proofs.Ytajkgnheijhbpaa
open Go.RowKit
set_option linter.unusedVariables false

/-- A drawn list of three or four numbers. -/
def FourD (w : World) (s : Nat) (a : Option Addr) (L c : Nat) (zs : Nat → Int) (e : Ending) (w' : World) : Prop :=
  ∃ (xs : List Int) (A : Option Addr) (cc : Nat), e = .returned (.slice A xs.length cc) ∧ xs.length ≤ 4 ∧ xs.length ≤ cc ∧ Rd w' A xs ∧ (∀ b, A = some b → w.heap.size ≤ b.block) ∧ Src w' s a L c zs ∧ Only s w w'
theorem four_len {xs bs rs : List Int} {n : Nat} (hn : bs.length + n = 4) (hp : (xs ++ rs).Perm (othersN 52 bs)) (hl : xs.length = n ∨ ((othersN 52 bs).length ≤ n ∧ xs.length = (othersN 52 bs).length)) : (bs ++ xs).length = 4 := by
  obtain ⟨_, _, f3⟩ := others_facts bs
  rw [List.length_append]
  omega
theorem list_four (xs : List Int) (h : xs.length = 4) : ∃ a b c d, xs = [a, b, c, d] := by
  match xs, h with
  | [a, b, c, d], _ => exact ⟨a, b, c, d, rfl⟩
set_option maxRecDepth 100000 in
set_option maxHeartbeats 8000000 in
theorem drawFour_any (s : Nat) (a : Option Addr) (L c : Nat) (zs : Nat → Int) (w : World) (h : Src w s a L c zs) :
    Calls Try.prog 43 #[.pointer (some ⟨s, 0, none⟩)] w (FourD w s a L c zs) := by
  have HS := src_lt h
  have H := Lib.hid h
  have HB := Lib.hid (codeB_of h)
  clear h
  obtain ⟨w0, rfl⟩ : ∃ w0 : World, w0 = w := ⟨w, rfl⟩
  go_enter Try.func43, Try.ntmps43
  go_wp2_with (go_at_call 53; ((with_reducible refine (next_any s 13 a L c zs _ (by decide) (by decide) H.out).mono ?_); rintro e w1 ⟨R, rfl, r0, r1, hs1, ho1⟩; have S1 := Lib.hid hs1; have Y1 := Lib.hid ho1; clear hs1 ho1))
  go_wp2_with (go_at_call 53; ((with_reducible refine (next_any s 4 a L c zs _ (by decide) (by decide) S1.out).mono ?_); rintro e w3 ⟨U, rfl, u0, u1, hs3, ho3⟩; have S3 := Lib.hid hs3; have Y3 := Lib.hid (only_trans Y1.out ho3); clear hs3 ho3))
  have eU : (U + 1).tmod 4 = (U + 1) % 4 := Int.tmod_eq_emod_of_nonneg (by omega)
  go_wp2_with (go_at_call 53; ((with_reducible refine (next_any s 6 a L c zs _ (by decide) (by decide) (S3.out.below (bl_alloc (bl_refl _) _))).mono ?_); rintro e w4 ⟨V, rfl, v0, v1, hs4, ho4⟩; have S4 := Lib.hid hs4; have Y4 := Lib.hid (only_trans (only_alloc Y3.out (.cells #[] 2)) ho4); have G4 := Lib.hid (own_only (own_new w3) ho4 (Nat.lt_of_lt_of_le HS Y3.out.size)); have Z4 := Lib.hid (only_trans (only_alloc (only_refl s w3) (.cells #[] 2)) ho4); have LW4 : Hid (w3.heap.size ≤ w4.heap.size) := Lib.hid (Nat.le_trans (by simp) ho4.size); clear hs4 ho4))
  · have HW : Hid (w0.heap.size ≤ w4.heap.size) := Lib.hid Y4.out.size
    have LW : Hid (w4.heap.size ≤ (w4.alloc (.cells (ints [4 * R + U, 4 * R + (U + 1) % 4]).toArray 2)).heap.size) := Lib.hid (by simp)
    have G5 := Lib.hid (own_lit w4 [4 * R + U, 4 * R + (U + 1) % 4] (by simp))
    have S5 := Lib.hid (S4.out.below (bl_alloc (bl_refl w4) (.cells (ints [4 * R + U, 4 * R + (U + 1) % 4]).toArray 2)))
    have Y5 := Lib.hid (only_alloc Y4.out (.cells (ints [4 * R + U, 4 * R + (U + 1) % 4]).toArray 2))
    go_wp2_with (first
      | (go_at_call 54; refine (deal_perm s 2 (some ⟨w4.heap.size, 0, none⟩) 2 [4 * R + U, 4 * R + (U + 1) % 4] a L c zs _ (by omega) G5.out.rd (by simp) S5.out).mono ?_; rintro e wd ⟨ys, A5, c5, rfl, ho5, hs5, hy5, ⟨rs5, hp5⟩, hl5⟩; have FC : Hid (([4 * R + U, 4 * R + (U + 1) % 4] ++ ys).length = 4) := Lib.hid (four_len (n := 2) rfl hp5 (by simpa using hl5)); have SD := Lib.hid hs5; have YD := Lib.hid (only_trans Y5.out hy5); have OD := Lib.hid (own_only G5.out hy5 (Nat.lt_of_lt_of_le HS HW.out)); have ZD := Lib.hid (Nat.le_trans LW.out hy5.size); have R5 := Lib.hid ho5.rd; have LY : Hid (([4 * R + U, 4 * R + (U + 1) % 4]).length + ys.length ≤ 4000000) := Lib.hid (by have := FC.out; rw [List.length_append] at this; omega); clear ho5 hs5 hy5 hp5 hl5)
      | (at_builtin; refine wpList_glue (.tmp 78) (.tmp 84) rfl rfl w4.heap.size (.slice (some ⟨w4.heap.size, 0, none⟩) ([4 * R + U, 4 * R + (U + 1) % 4]).length 2) [4 * R + U, 4 * R + (U + 1) % 4] ys A5 c5 rfl OD.out rfl R5.out LY.out ZD.out ?_; intro A6 c6 ws6 w6 e6 ho6 hg6 hv6; have O6 := Lib.hid ho6; have S6 := Lib.hid (src_grown SD.out hg6 (fun j hj => Nat.le_trans HW.out (World.ownsRow.lt OD.out j hj).1) HS HB.out); have Y6 := Lib.hid (only_grown YD.out hg6 (fun j hj => Nat.le_trans HW.out (World.ownsRow.lt OD.out j hj).1)); have F6 : Hid (ws6.length = 4) := Lib.hid (by rw [e6.out]; exact FC.out); clear ho6 hg6 hv6)
      | (go_at_call 74; refine (pickList_any s A6 c6 ws6 a L c zs _ O6.out.rd (fun x hx => by have := (O6.out.lo_le x hx).1; have := HW.out; omega) (by have := F6.out; omega) S6.out).mono ?_; rintro e w7 ⟨xs7, A7, c7, rfl, ho7, hs7, hy7, hp7⟩; have O7 := Lib.hid ho7; have S7 := Lib.hid hs7; have Y7 := Lib.hid (only_trans Y6.out hy7); have W7 : Hid (w0.heap.size ≤ w6.heap.size) := Lib.hid Y6.out.size; have L7 : Hid (xs7.length = 4) := Lib.hid (by rw [hp7.length_eq]; exact F6.out); clear ho7 hs7 hy7 hp7))
    obtain ⟨y0, y1, y2, y3, ey⟩ := list_four xs7 L7.out
    have OX := O7.out
    rw [ey] at OX
    obtain ⟨g, eg, hg0, hg1, hcap, _⟩ := own_some OX (by simp)
    subst eg
    have HG : Hid (w0.heap.size ≤ g) := Lib.hid (Nat.le_trans W7.out hg0)
    have hcap' : 4 ≤ c7 := hcap
    have OZ := Lib.hid OX
    rw [show xs7.length = 4 from L7.out]
    clear OX hcap hg0 hg1 ey
    go_wp2_with (go_at_call 53; ((with_reducible refine (next_any s 24 a L c zs _ (by decide) (by decide) S7.out).mono ?_); rintro e w8 ⟨X, rfl, x0, x1, hs8, ho8⟩; have S8 := Lib.hid hs8; have Y8 := Lib.hid (only_trans Y7.out ho8); have O8 := Lib.hid (own_only OZ.out ho8 (Nat.lt_of_lt_of_le HS W7.out)); have d0 := own_cell O8.out 0 (by simp); have d1 := own_cell O8.out 1 (by simp); have f0 := World.ownsRow.frozenAt O8.out 0; change w8.cell? ⟨g, 0, none⟩ = some (.int .i64 y0) at d0; change w8.cell? ⟨g, 1, none⟩ = some (.int .i64 y1) at d1; clear hs8 ho8))
    · go_ret
      have hne : ¬ c7 = 1 := by omega
      have q := rd_from (n := 1) (c := c7) O8.out.rd (.inr hne)
      have e1 : fromAt g 0 c7 1 = some ⟨g, 1, none⟩ := by unfold fromAt; rw [if_neg hne]
      rw [e1] at q
      exact ⟨[y1, y2, y3], some ⟨g, 1, none⟩, c7 - 1, rfl, by simp, by simp; omega, q, fun b e => by obtain rfl := Option.some.inj e; exact HG.out, S8.out, Y8.out⟩
    · go_ret
      obtain ⟨P1, P2⟩ := own_set O8.out 0 y1
      have hr4 : ∀ j, some g = some j → w0.heap.size ≤ j := fun j e => by obtain rfl := Option.some.inj e; exact HG.out
      exact ⟨[y1, y1, y2, y3], some ⟨g, 0, none⟩, c7, rfl, by simp, by simpa using hcap', P1.rd, fun b e => by obtain rfl := Option.some.inj e; exact HG.out, src_grown S8.out P2 hr4 HS HB.out, only_grown Y8.out P2 hr4⟩
    · go_ret
      exact ⟨[y0, y1, y2, y3], some ⟨g, 0, none⟩, c7, rfl, by simp, by simpa using hcap', O8.out.rd, fun b e => by obtain rfl := Option.some.inj e; exact HG.out, S8.out, Y8.out⟩
  · rename_i h0 h1
    simp only [h0, h1]
    have HP0 : Hid (Picks w3 s a L c zs [] (.slice (some ⟨w3.heap.size, 0, none⟩) 0 0) w4) := Lib.hid ⟨G4.out, S4.out, Z4.out⟩
    have HS3 := Nat.lt_of_lt_of_le HS Y3.out.size
    have HB3 : Hid (CodeB w3.heap.size a L) := Lib.hid (fun b off e h0 => Nat.lt_of_lt_of_le (HB.out b off e h0) Y3.out.size)
    go_loopw [5, 6] (fun v i wr => ∃ (k : Nat) (os : List Int) (A' : Option Addr) (c' : Nat), k ≤ 4 ∧ os.length = k ∧ v = .slice A' k c' ∧ i = .int .i64 k ∧ Hid (Picks w3 s a L c zs os (.slice A' os.length c') wr)) (fun _ i _ => 4 - (intOf i).toNat)
    case atStart => exact ⟨0, [], some ⟨w3.heap.size, 0, none⟩, 0, by omega, rfl, rfl, rfl, HP0⟩
    case round =>
      obtain ⟨k, os, A', c', hk, hl, rfl, rfl, hp⟩ := hrel
      by_cases hlt : k < 4
      · have hlt' : (k : Int) < 4 := by omega
        have eM : (R + (k : Int)).tmod 13 = (R + (k : Int)) % 13 := Int.tmod_eq_emod_of_nonneg (by omega)
        have hX : 0 ≤ (R + (k : Int)) % 13 ∧ (R + (k : Int)) % 13 < 13 := by omega
        have eQ : (U + (k : Int)).tmod 4 = (U + (k : Int)) % 4 := Int.tmod_eq_emod_of_nonneg (by omega)
        have hQ : 0 ≤ (U + (k : Int)) % 4 ∧ (U + (k : Int)) % 4 < 4 := by omega
        generalize (R + (k : Int)) % 13 = X at *
        generalize (U + (k : Int)) % 4 = Q at *
        have P5 := Lib.hid hp.out
        go_wp2_with (at_builtin; refine wpList_glue (.tmp 34) (.tmp 45) rfl rfl w3.heap.size (.slice A' os.length c') os [4 * X + Q] (some ⟨wr.heap.size, 0, none⟩) 1 (by rw [hl]; rfl) (P5.out.out.below (bl_alloc (bl_refl _) _)) rfl (rd_new1 wr _) (by rw [hl]; simp; omega) (Nat.le_trans P5.out.only.size (by simp)) ?_)
        intro A6 c6 ws6 w6 e6 ho6 hg6 _
        have hrow : ∀ j, (Value.slice A' k c').ownBlock = some j → w3.heap.size ≤ j := fun j hj => (World.ownsRow.lt P5.out.out j (by rw [hl]; exact hj)).1
        have P6 : Hid (Picks w3 s a L c zs ws6 (.slice A6 ws6.length c6) w6) := Lib.hid ⟨ho6, src_grown (src_alloc P5.out.src _) hg6 hrow HS3 HB3.out, only_grown (only_alloc P5.out.only _) hg6 hrow⟩
        have L6 : Hid (ws6.length = k + 1) := Lib.hid (by rw [e6.out, List.length_append, hl]; rfl)
        rw [L6.out]
        clear ho6 hg6 hrow
        go_wp2_with fail
        go_roundw
        case rel =>
          exact ⟨k + 1, ws6, A6, c6, by omega, L6.out, rfl, by go_num, P6⟩
        case measure => simp [intOf]; omega
      · obtain rfl : k = 4 := by omega
        obtain ⟨x0, x1, x2, x3, rfl⟩ := list_four os hl
        have HW : Hid (w0.heap.size ≤ w3.heap.size) := Lib.hid Y3.out.size
        have LW : Hid (w3.heap.size ≤ wr.heap.size) := Lib.hid hp.out.only.size
        have G5 := Lib.hid hp.out.out
        have S5 := Lib.hid hp.out.src
        have Y5 := Lib.hid (only_trans Y3.out hp.out.only)
        clear hp hl
        go_wp2_with (first
          | (go_at_call 54; refine (deal_perm s 0 A' c' [x0, x1, x2, x3] a L c zs _ (by omega) G5.out.rd (by simp) S5.out).mono ?_; rintro e wd ⟨ys, A5, c5, rfl, ho5, hs5, hy5, ⟨rs5, hp5⟩, hl5⟩; have FC : Hid (([x0, x1, x2, x3] ++ ys).length = 4) := Lib.hid (four_len (n := 0) rfl hp5 (by simpa using hl5)); have SD := Lib.hid hs5; have YD := Lib.hid (only_trans Y5.out hy5); have OD := Lib.hid (own_only G5.out hy5 (Nat.lt_of_lt_of_le HS HW.out)); have ZD := Lib.hid (Nat.le_trans LW.out hy5.size); have R5 := Lib.hid ho5.rd; have LY : Hid (([x0, x1, x2, x3]).length + ys.length ≤ 4000000) := Lib.hid (by have := FC.out; rw [List.length_append] at this; omega); clear ho5 hs5 hy5 hp5 hl5)
          | (at_builtin; refine wpList_glue (.tmp 78) (.tmp 84) rfl rfl w3.heap.size (.slice A' ([x0, x1, x2, x3]).length c') [x0, x1, x2, x3] ys A5 c5 rfl OD.out rfl R5.out LY.out ZD.out ?_; intro A6 c6 ws6 w6 e6 ho6 hg6 hv6; have O6 := Lib.hid ho6; have S6 := Lib.hid (src_grown SD.out hg6 (fun j hj => Nat.le_trans HW.out (World.ownsRow.lt OD.out j hj).1) HS HB.out); have Y6 := Lib.hid (only_grown YD.out hg6 (fun j hj => Nat.le_trans HW.out (World.ownsRow.lt OD.out j hj).1)); have F6 : Hid (ws6.length = 4) := Lib.hid (by rw [e6.out]; exact FC.out); clear ho6 hg6 hv6)
          | (go_at_call 74; refine (pickList_any s A6 c6 ws6 a L c zs _ O6.out.rd (fun x hx => by have := (O6.out.lo_le x hx).1; have := HW.out; omega) (by have := F6.out; omega) S6.out).mono ?_; rintro e w7 ⟨xs7, A7, c7, rfl, ho7, hs7, hy7, hp7⟩; have O7 := Lib.hid ho7; have S7 := Lib.hid hs7; have Y7 := Lib.hid (only_trans Y6.out hy7); have W7 : Hid (w0.heap.size ≤ w6.heap.size) := Lib.hid Y6.out.size; have L7 : Hid (xs7.length = 4) := Lib.hid (by rw [hp7.length_eq]; exact F6.out); clear ho7 hs7 hy7 hp7))
        obtain ⟨y0, y1, y2, y3, ey⟩ := list_four xs7 L7.out
        have OX := O7.out
        rw [ey] at OX
        obtain ⟨g, eg, hg0, hg1, hcap, _⟩ := own_some OX (by simp)
        subst eg
        have HG : Hid (w0.heap.size ≤ g) := Lib.hid (Nat.le_trans W7.out hg0)
        have hcap' : 4 ≤ c7 := hcap
        have OZ := Lib.hid OX
        rw [show xs7.length = 4 from L7.out]
        clear OX hcap hg0 hg1 ey
        go_wp2_with (go_at_call 53; ((with_reducible refine (next_any s 24 a L c zs _ (by decide) (by decide) S7.out).mono ?_); rintro e w8 ⟨X, rfl, x0, x1, hs8, ho8⟩; have S8 := Lib.hid hs8; have Y8 := Lib.hid (only_trans Y7.out ho8); have O8 := Lib.hid (own_only OZ.out ho8 (Nat.lt_of_lt_of_le HS W7.out)); have d0 := own_cell O8.out 0 (by simp); have d1 := own_cell O8.out 1 (by simp); have f0 := World.ownsRow.frozenAt O8.out 0; change w8.cell? ⟨g, 0, none⟩ = some (.int .i64 y0) at d0; change w8.cell? ⟨g, 1, none⟩ = some (.int .i64 y1) at d1; clear hs8 ho8))
        · go_ret
          have hne : ¬ c7 = 1 := by omega
          have q := rd_from (n := 1) (c := c7) O8.out.rd (.inr hne)
          have e1 : fromAt g 0 c7 1 = some ⟨g, 1, none⟩ := by unfold fromAt; rw [if_neg hne]
          rw [e1] at q
          exact ⟨[y1, y2, y3], some ⟨g, 1, none⟩, c7 - 1, rfl, by simp, by simp; omega, q, fun b e => by obtain rfl := Option.some.inj e; exact HG.out, S8.out, Y8.out⟩
        · go_ret
          obtain ⟨P1, P2⟩ := own_set O8.out 0 y1
          have hr4 : ∀ j, some g = some j → w0.heap.size ≤ j := fun j e => by obtain rfl := Option.some.inj e; exact HG.out
          exact ⟨[y1, y1, y2, y3], some ⟨g, 0, none⟩, c7, rfl, by simp, by simpa using hcap', P1.rd, fun b e => by obtain rfl := Option.some.inj e; exact HG.out, src_grown S8.out P2 hr4 HS HB.out, only_grown Y8.out P2 hr4⟩
        · go_ret
          exact ⟨[y0, y1, y2, y3], some ⟨g, 0, none⟩, c7, rfl, by simp, by simpa using hcap', O8.out.rd, fun b e => by obtain rfl := Option.some.inj e; exact HG.out, S8.out, Y8.out⟩
  · rename_i h0 h1 h2
    simp only [h0, h1, h2]
    have HP0 : Hid (Picks w3 s a L c zs [] (.slice (some ⟨w3.heap.size, 0, none⟩) 0 0) w4) := Lib.hid ⟨G4.out, S4.out, Z4.out⟩
    have HS3 := Nat.lt_of_lt_of_le HS Y3.out.size
    have HB3 : Hid (CodeB w3.heap.size a L) := Lib.hid (fun b off e h0 => Nat.lt_of_lt_of_le (HB.out b off e h0) Y3.out.size)
    go_loopw [5, 7] (fun v i wr => ∃ (k : Nat) (os : List Int) (A' : Option Addr) (c' : Nat), k ≤ 4 ∧ os.length = k ∧ v = .slice A' k c' ∧ i = .int .i64 k ∧ Hid (Picks w3 s a L c zs os (.slice A' os.length c') wr)) (fun _ i _ => 4 - (intOf i).toNat)
    case atStart => exact ⟨0, [], some ⟨w3.heap.size, 0, none⟩, 0, by omega, rfl, rfl, rfl, HP0⟩
    case round =>
      obtain ⟨k, os, A', c', hk, hl, rfl, rfl, hp⟩ := hrel
      by_cases hlt : k < 4
      · have hlt' : (k : Int) < 4 := by omega
        have eM : (R + (k : Int)).tmod 13 = (R + (k : Int)) % 13 := Int.tmod_eq_emod_of_nonneg (by omega)
        have hX : 0 ≤ (R + (k : Int)) % 13 ∧ (R + (k : Int)) % 13 < 13 := by omega
        have eQ : (U + (k : Int)).tmod 4 = (U + (k : Int)) % 4 := Int.tmod_eq_emod_of_nonneg (by omega)
        have hQ : 0 ≤ (U + (k : Int)) % 4 ∧ (U + (k : Int)) % 4 < 4 := by omega
        generalize (R + (k : Int)) % 13 = X at *
        generalize (U + (k : Int)) % 4 = Q at *
        have P5 := Lib.hid hp.out
        go_wp2_with (at_builtin; refine wpList_glue (.tmp 53) (.tmp 61) rfl rfl w3.heap.size (.slice A' os.length c') os [4 * X + U] (some ⟨wr.heap.size, 0, none⟩) 1 (by rw [hl]; rfl) (P5.out.out.below (bl_alloc (bl_refl _) _)) rfl (rd_new1 wr _) (by rw [hl]; simp; omega) (Nat.le_trans P5.out.only.size (by simp)) ?_)
        intro A6 c6 ws6 w6 e6 ho6 hg6 _
        have hrow : ∀ j, (Value.slice A' k c').ownBlock = some j → w3.heap.size ≤ j := fun j hj => (World.ownsRow.lt P5.out.out j (by rw [hl]; exact hj)).1
        have P6 : Hid (Picks w3 s a L c zs ws6 (.slice A6 ws6.length c6) w6) := Lib.hid ⟨ho6, src_grown (src_alloc P5.out.src _) hg6 hrow HS3 HB3.out, only_grown (only_alloc P5.out.only _) hg6 hrow⟩
        have L6 : Hid (ws6.length = k + 1) := Lib.hid (by rw [e6.out, List.length_append, hl]; rfl)
        rw [L6.out]
        clear ho6 hg6 hrow
        go_wp2_with fail
        go_roundw
        case rel =>
          exact ⟨k + 1, ws6, A6, c6, by omega, L6.out, rfl, by go_num, P6⟩
        case measure => simp [intOf]; omega
      · obtain rfl : k = 4 := by omega
        obtain ⟨x0, x1, x2, x3, rfl⟩ := list_four os hl
        have HW : Hid (w0.heap.size ≤ w3.heap.size) := Lib.hid Y3.out.size
        have LW : Hid (w3.heap.size ≤ wr.heap.size) := Lib.hid hp.out.only.size
        have G5 := Lib.hid hp.out.out
        have S5 := Lib.hid hp.out.src
        have Y5 := Lib.hid (only_trans Y3.out hp.out.only)
        clear hp hl
        go_wp2_with (first
          | (go_at_call 54; refine (deal_perm s 0 A' c' [x0, x1, x2, x3] a L c zs _ (by omega) G5.out.rd (by simp) S5.out).mono ?_; rintro e wd ⟨ys, A5, c5, rfl, ho5, hs5, hy5, ⟨rs5, hp5⟩, hl5⟩; have FC : Hid (([x0, x1, x2, x3] ++ ys).length = 4) := Lib.hid (four_len (n := 0) rfl hp5 (by simpa using hl5)); have SD := Lib.hid hs5; have YD := Lib.hid (only_trans Y5.out hy5); have OD := Lib.hid (own_only G5.out hy5 (Nat.lt_of_lt_of_le HS HW.out)); have ZD := Lib.hid (Nat.le_trans LW.out hy5.size); have R5 := Lib.hid ho5.rd; have LY : Hid (([x0, x1, x2, x3]).length + ys.length ≤ 4000000) := Lib.hid (by have := FC.out; rw [List.length_append] at this; omega); clear ho5 hs5 hy5 hp5 hl5)
          | (at_builtin; refine wpList_glue (.tmp 78) (.tmp 84) rfl rfl w3.heap.size (.slice A' ([x0, x1, x2, x3]).length c') [x0, x1, x2, x3] ys A5 c5 rfl OD.out rfl R5.out LY.out ZD.out ?_; intro A6 c6 ws6 w6 e6 ho6 hg6 hv6; have O6 := Lib.hid ho6; have S6 := Lib.hid (src_grown SD.out hg6 (fun j hj => Nat.le_trans HW.out (World.ownsRow.lt OD.out j hj).1) HS HB.out); have Y6 := Lib.hid (only_grown YD.out hg6 (fun j hj => Nat.le_trans HW.out (World.ownsRow.lt OD.out j hj).1)); have F6 : Hid (ws6.length = 4) := Lib.hid (by rw [e6.out]; exact FC.out); clear ho6 hg6 hv6)
          | (go_at_call 74; refine (pickList_any s A6 c6 ws6 a L c zs _ O6.out.rd (fun x hx => by have := (O6.out.lo_le x hx).1; have := HW.out; omega) (by have := F6.out; omega) S6.out).mono ?_; rintro e w7 ⟨xs7, A7, c7, rfl, ho7, hs7, hy7, hp7⟩; have O7 := Lib.hid ho7; have S7 := Lib.hid hs7; have Y7 := Lib.hid (only_trans Y6.out hy7); have W7 : Hid (w0.heap.size ≤ w6.heap.size) := Lib.hid Y6.out.size; have L7 : Hid (xs7.length = 4) := Lib.hid (by rw [hp7.length_eq]; exact F6.out); clear ho7 hs7 hy7 hp7))
        obtain ⟨y0, y1, y2, y3, ey⟩ := list_four xs7 L7.out
        have OX := O7.out
        rw [ey] at OX
        obtain ⟨g, eg, hg0, hg1, hcap, _⟩ := own_some OX (by simp)
        subst eg
        have HG : Hid (w0.heap.size ≤ g) := Lib.hid (Nat.le_trans W7.out hg0)
        have hcap' : 4 ≤ c7 := hcap
        have OZ := Lib.hid OX
        rw [show xs7.length = 4 from L7.out]
        clear OX hcap hg0 hg1 ey
        go_wp2_with (go_at_call 53; ((with_reducible refine (next_any s 24 a L c zs _ (by decide) (by decide) S7.out).mono ?_); rintro e w8 ⟨X, rfl, x0, x1, hs8, ho8⟩; have S8 := Lib.hid hs8; have Y8 := Lib.hid (only_trans Y7.out ho8); have O8 := Lib.hid (own_only OZ.out ho8 (Nat.lt_of_lt_of_le HS W7.out)); have d0 := own_cell O8.out 0 (by simp); have d1 := own_cell O8.out 1 (by simp); have f0 := World.ownsRow.frozenAt O8.out 0; change w8.cell? ⟨g, 0, none⟩ = some (.int .i64 y0) at d0; change w8.cell? ⟨g, 1, none⟩ = some (.int .i64 y1) at d1; clear hs8 ho8))
        · go_ret
          have hne : ¬ c7 = 1 := by omega
          have q := rd_from (n := 1) (c := c7) O8.out.rd (.inr hne)
          have e1 : fromAt g 0 c7 1 = some ⟨g, 1, none⟩ := by unfold fromAt; rw [if_neg hne]
          rw [e1] at q
          exact ⟨[y1, y2, y3], some ⟨g, 1, none⟩, c7 - 1, rfl, by simp, by simp; omega, q, fun b e => by obtain rfl := Option.some.inj e; exact HG.out, S8.out, Y8.out⟩
        · go_ret
          obtain ⟨P1, P2⟩ := own_set O8.out 0 y1
          have hr4 : ∀ j, some g = some j → w0.heap.size ≤ j := fun j e => by obtain rfl := Option.some.inj e; exact HG.out
          exact ⟨[y1, y1, y2, y3], some ⟨g, 0, none⟩, c7, rfl, by simp, by simpa using hcap', P1.rd, fun b e => by obtain rfl := Option.some.inj e; exact HG.out, src_grown S8.out P2 hr4 HS HB.out, only_grown Y8.out P2 hr4⟩
        · go_ret
          exact ⟨[y0, y1, y2, y3], some ⟨g, 0, none⟩, c7, rfl, by simp, by simpa using hcap', O8.out.rd, fun b e => by obtain rfl := Option.some.inj e; exact HG.out, S8.out, Y8.out⟩
  · have HW : Hid (w0.heap.size ≤ w4.heap.size) := Lib.hid Y4.out.size
    have LW : Hid (w4.heap.size ≤ (w4.alloc (.cells (ints [4 * R, 4 * R + 1, 4 * R + 2, 4 * R + 3]).toArray 2)).heap.size) := Lib.hid (by simp)
    have G5 := Lib.hid (own_lit w4 [4 * R, 4 * R + 1, 4 * R + 2, 4 * R + 3] (by simp))
    have S5 := Lib.hid (S4.out.below (bl_alloc (bl_refl w4) (.cells (ints [4 * R, 4 * R + 1, 4 * R + 2, 4 * R + 3]).toArray 2)))
    have Y5 := Lib.hid (only_alloc Y4.out (.cells (ints [4 * R, 4 * R + 1, 4 * R + 2, 4 * R + 3]).toArray 2))
    go_wp2_with (first
      | (go_at_call 54; refine (deal_perm s 0 (some ⟨w4.heap.size, 0, none⟩) 4 [4 * R, 4 * R + 1, 4 * R + 2, 4 * R + 3] a L c zs _ (by omega) G5.out.rd (by simp) S5.out).mono ?_; rintro e wd ⟨ys, A5, c5, rfl, ho5, hs5, hy5, ⟨rs5, hp5⟩, hl5⟩; have FC : Hid (([4 * R, 4 * R + 1, 4 * R + 2, 4 * R + 3] ++ ys).length = 4) := Lib.hid (four_len (n := 0) rfl hp5 (by simpa using hl5)); have SD := Lib.hid hs5; have YD := Lib.hid (only_trans Y5.out hy5); have OD := Lib.hid (own_only G5.out hy5 (Nat.lt_of_lt_of_le HS HW.out)); have ZD := Lib.hid (Nat.le_trans LW.out hy5.size); have R5 := Lib.hid ho5.rd; have LY : Hid (([4 * R, 4 * R + 1, 4 * R + 2, 4 * R + 3]).length + ys.length ≤ 4000000) := Lib.hid (by have := FC.out; rw [List.length_append] at this; omega); clear ho5 hs5 hy5 hp5 hl5)
      | (at_builtin; refine wpList_glue (.tmp 78) (.tmp 84) rfl rfl w4.heap.size (.slice (some ⟨w4.heap.size, 0, none⟩) ([4 * R, 4 * R + 1, 4 * R + 2, 4 * R + 3]).length 4) [4 * R, 4 * R + 1, 4 * R + 2, 4 * R + 3] ys A5 c5 rfl OD.out rfl R5.out LY.out ZD.out ?_; intro A6 c6 ws6 w6 e6 ho6 hg6 hv6; have O6 := Lib.hid ho6; have S6 := Lib.hid (src_grown SD.out hg6 (fun j hj => Nat.le_trans HW.out (World.ownsRow.lt OD.out j hj).1) HS HB.out); have Y6 := Lib.hid (only_grown YD.out hg6 (fun j hj => Nat.le_trans HW.out (World.ownsRow.lt OD.out j hj).1)); have F6 : Hid (ws6.length = 4) := Lib.hid (by rw [e6.out]; exact FC.out); clear ho6 hg6 hv6)
      | (go_at_call 74; refine (pickList_any s A6 c6 ws6 a L c zs _ O6.out.rd (fun x hx => by have := (O6.out.lo_le x hx).1; have := HW.out; omega) (by have := F6.out; omega) S6.out).mono ?_; rintro e w7 ⟨xs7, A7, c7, rfl, ho7, hs7, hy7, hp7⟩; have O7 := Lib.hid ho7; have S7 := Lib.hid hs7; have Y7 := Lib.hid (only_trans Y6.out hy7); have W7 : Hid (w0.heap.size ≤ w6.heap.size) := Lib.hid Y6.out.size; have L7 : Hid (xs7.length = 4) := Lib.hid (by rw [hp7.length_eq]; exact F6.out); clear ho7 hs7 hy7 hp7))
    obtain ⟨y0, y1, y2, y3, ey⟩ := list_four xs7 L7.out
    have OX := O7.out
    rw [ey] at OX
    obtain ⟨g, eg, hg0, hg1, hcap, _⟩ := own_some OX (by simp)
    subst eg
    have HG : Hid (w0.heap.size ≤ g) := Lib.hid (Nat.le_trans W7.out hg0)
    have hcap' : 4 ≤ c7 := hcap
    have OZ := Lib.hid OX
    rw [show xs7.length = 4 from L7.out]
    clear OX hcap hg0 hg1 ey
    go_wp2_with (go_at_call 53; ((with_reducible refine (next_any s 24 a L c zs _ (by decide) (by decide) S7.out).mono ?_); rintro e w8 ⟨X, rfl, x0, x1, hs8, ho8⟩; have S8 := Lib.hid hs8; have Y8 := Lib.hid (only_trans Y7.out ho8); have O8 := Lib.hid (own_only OZ.out ho8 (Nat.lt_of_lt_of_le HS W7.out)); have d0 := own_cell O8.out 0 (by simp); have d1 := own_cell O8.out 1 (by simp); have f0 := World.ownsRow.frozenAt O8.out 0; change w8.cell? ⟨g, 0, none⟩ = some (.int .i64 y0) at d0; change w8.cell? ⟨g, 1, none⟩ = some (.int .i64 y1) at d1; clear hs8 ho8))
    · go_ret
      have hne : ¬ c7 = 1 := by omega
      have q := rd_from (n := 1) (c := c7) O8.out.rd (.inr hne)
      have e1 : fromAt g 0 c7 1 = some ⟨g, 1, none⟩ := by unfold fromAt; rw [if_neg hne]
      rw [e1] at q
      exact ⟨[y1, y2, y3], some ⟨g, 1, none⟩, c7 - 1, rfl, by simp, by simp; omega, q, fun b e => by obtain rfl := Option.some.inj e; exact HG.out, S8.out, Y8.out⟩
    · go_ret
      obtain ⟨P1, P2⟩ := own_set O8.out 0 y1
      have hr4 : ∀ j, some g = some j → w0.heap.size ≤ j := fun j e => by obtain rfl := Option.some.inj e; exact HG.out
      exact ⟨[y1, y1, y2, y3], some ⟨g, 0, none⟩, c7, rfl, by simp, by simpa using hcap', P1.rd, fun b e => by obtain rfl := Option.some.inj e; exact HG.out, src_grown S8.out P2 hr4 HS HB.out, only_grown Y8.out P2 hr4⟩
    · go_ret
      exact ⟨[y0, y1, y2, y3], some ⟨g, 0, none⟩, c7, rfl, by simp, by simpa using hcap', O8.out.rd, fun b e => by obtain rfl := Option.some.inj e; exact HG.out, S8.out, Y8.out⟩
  · have HW : Hid (w0.heap.size ≤ w3.heap.size) := Lib.hid Y3.out.size
    have LW : Hid (w3.heap.size ≤ w4.heap.size) := Lib.hid LW4.out
    go_wp2_with (first
      | (go_at_call 54; refine (deal_perm s 4 (some ⟨w3.heap.size, 0, none⟩) 0 ([] : List Int) a L c zs _ (by omega) G4.out.rd (by simp) S4.out).mono ?_; rintro e wd ⟨ys, A5, c5, rfl, ho5, hs5, hy5, ⟨rs5, hp5⟩, hl5⟩; have FC : Hid ((([] : List Int) ++ ys).length = 4) := Lib.hid (four_len (n := 4) rfl hp5 (by simpa using hl5)); have SD := Lib.hid hs5; have YD := Lib.hid (only_trans Y4.out hy5); have OD := Lib.hid (own_only G4.out hy5 (Nat.lt_of_lt_of_le HS HW.out)); have ZD := Lib.hid (Nat.le_trans LW.out hy5.size); have R5 := Lib.hid ho5.rd; have LY : Hid ((([] : List Int)).length + ys.length ≤ 4000000) := Lib.hid (by have := FC.out; rw [List.length_append] at this; omega); clear ho5 hs5 hy5 hp5 hl5)
      | (at_builtin; refine wpList_glue (.tmp 78) (.tmp 84) rfl rfl w3.heap.size (.slice (some ⟨w3.heap.size, 0, none⟩) (([] : List Int)).length 0) ([] : List Int) ys A5 c5 rfl OD.out rfl R5.out LY.out ZD.out ?_; intro A6 c6 ws6 w6 e6 ho6 hg6 hv6; have O6 := Lib.hid ho6; have S6 := Lib.hid (src_grown SD.out hg6 (fun j hj => Nat.le_trans HW.out (World.ownsRow.lt OD.out j hj).1) HS HB.out); have Y6 := Lib.hid (only_grown YD.out hg6 (fun j hj => Nat.le_trans HW.out (World.ownsRow.lt OD.out j hj).1)); have F6 : Hid (ws6.length = 4) := Lib.hid (by rw [e6.out]; exact FC.out); clear ho6 hg6 hv6)
      | (go_at_call 74; refine (pickList_any s A6 c6 ws6 a L c zs _ O6.out.rd (fun x hx => by have := (O6.out.lo_le x hx).1; have := HW.out; omega) (by have := F6.out; omega) S6.out).mono ?_; rintro e w7 ⟨xs7, A7, c7, rfl, ho7, hs7, hy7, hp7⟩; have O7 := Lib.hid ho7; have S7 := Lib.hid hs7; have Y7 := Lib.hid (only_trans Y6.out hy7); have W7 : Hid (w0.heap.size ≤ w6.heap.size) := Lib.hid Y6.out.size; have L7 : Hid (xs7.length = 4) := Lib.hid (by rw [hp7.length_eq]; exact F6.out); clear ho7 hs7 hy7 hp7))
    obtain ⟨y0, y1, y2, y3, ey⟩ := list_four xs7 L7.out
    have OX := O7.out
    rw [ey] at OX
    obtain ⟨g, eg, hg0, hg1, hcap, _⟩ := own_some OX (by simp)
    subst eg
    have HG : Hid (w0.heap.size ≤ g) := Lib.hid (Nat.le_trans W7.out hg0)
    have hcap' : 4 ≤ c7 := hcap
    have OZ := Lib.hid OX
    rw [show xs7.length = 4 from L7.out]
    clear OX hcap hg0 hg1 ey
    go_wp2_with (go_at_call 53; ((with_reducible refine (next_any s 24 a L c zs _ (by decide) (by decide) S7.out).mono ?_); rintro e w8 ⟨X, rfl, x0, x1, hs8, ho8⟩; have S8 := Lib.hid hs8; have Y8 := Lib.hid (only_trans Y7.out ho8); have O8 := Lib.hid (own_only OZ.out ho8 (Nat.lt_of_lt_of_le HS W7.out)); have d0 := own_cell O8.out 0 (by simp); have d1 := own_cell O8.out 1 (by simp); have f0 := World.ownsRow.frozenAt O8.out 0; change w8.cell? ⟨g, 0, none⟩ = some (.int .i64 y0) at d0; change w8.cell? ⟨g, 1, none⟩ = some (.int .i64 y1) at d1; clear hs8 ho8))
    · go_ret
      have hne : ¬ c7 = 1 := by omega
      have q := rd_from (n := 1) (c := c7) O8.out.rd (.inr hne)
      have e1 : fromAt g 0 c7 1 = some ⟨g, 1, none⟩ := by unfold fromAt; rw [if_neg hne]
      rw [e1] at q
      exact ⟨[y1, y2, y3], some ⟨g, 1, none⟩, c7 - 1, rfl, by simp, by simp; omega, q, fun b e => by obtain rfl := Option.some.inj e; exact HG.out, S8.out, Y8.out⟩
    · go_ret
      obtain ⟨P1, P2⟩ := own_set O8.out 0 y1
      have hr4 : ∀ j, some g = some j → w0.heap.size ≤ j := fun j e => by obtain rfl := Option.some.inj e; exact HG.out
      exact ⟨[y1, y1, y2, y3], some ⟨g, 0, none⟩, c7, rfl, by simp, by simpa using hcap', P1.rd, fun b e => by obtain rfl := Option.some.inj e; exact HG.out, src_grown S8.out P2 hr4 HS HB.out, only_grown Y8.out P2 hr4⟩
    · go_ret
      exact ⟨[y0, y1, y2, y3], some ⟨g, 0, none⟩, c7, rfl, by simp, by simpa using hcap', O8.out.rd, fun b e => by obtain rfl := Option.some.inj e; exact HG.out, S8.out, Y8.out⟩
end Go.Proofs.Ytajkgnheijhbpaa
