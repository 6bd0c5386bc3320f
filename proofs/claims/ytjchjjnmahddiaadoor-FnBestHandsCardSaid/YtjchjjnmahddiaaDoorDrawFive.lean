/-
  l04DrawFive: five different cards.
-/
import Derived.Test.YtjchjjnmahddiaaDoorDraws
import Derived.Test.YtjchjjnmahddiaaDoorHigh
namespace Go.Proofs.YtjchjjnmahddiaaDoor
open Go.RowKit
set_option linter.unusedVariables false

/-- Five different cards, new. -/
def FiveD (w : World) (s : Nat) (a : Option Addr) (L c : Nat) (zs : Nat → Int) (e : Ending) (w' : World) : Prop :=
  ∃ (xs : List Int) (A : Option Addr) (cc : Nat), e = .returned (.slice A xs.length cc) ∧ Own w' w.heap.size (.slice A xs.length cc) xs ∧ Src w' s a L c zs ∧ Only s w w' ∧ xs.length = 5 ∧ cardsB xs = true
theorem nodup_le : ∀ (l bs : List Int), l.Nodup → (∀ x ∈ l, x ∈ bs) → l.length ≤ bs.length
  | [], _, _, _ => Nat.zero_le _
  | x :: l, bs, hn, hs => by
    have hx := hs x (by simp)
    have h2 := List.nodup_cons.1 hn
    have ih := nodup_le l (bs.erase x) h2.2 (fun y hy => (List.mem_erase_of_ne (fun e => h2.1 (by rw [← e]; exact hy))).2 (hs y (by simp [hy])))
    rw [List.length_erase_of_mem hx] at ih
    have : 0 < bs.length := List.length_pos_of_mem hx
    simp only [List.length_cons]
    omega
theorem filt_split (p : Int → Bool) : ∀ l : List Int, (l.filter p).length + (l.filter (fun x => !p x)).length = l.length
  | [] => rfl
  | x :: l => by
    have ih := filt_split p l
    by_cases h : p x = true
    · simp [h]; omega
    · simp [h]; omega
theorem others_facts (bs : List Int) : (othersN 52 bs).Nodup ∧ (∀ x ∈ othersN 52 bs, (0 ≤ x ∧ x < 52) ∧ x ∉ bs) ∧ 52 ≤ (othersN 52 bs).length + bs.length := by
  have hnd : ((List.range 52).map (fun i : Nat => (i : Int))).Nodup := by decide
  refine ⟨hnd.sublist (List.filter_sublist), fun x hx => ⟨othersN_rng 52 bs x hx, ?_⟩, ?_⟩
  · have h := (List.mem_filter.1 hx).2
    unfold hasB at h
    simpa using h
  · have h1 := filt_split (fun c => hasB bs c) ((List.range 52).map (fun i : Nat => (i : Int)))
    have h2 := nodup_le (((List.range 52).map (fun i : Nat => (i : Int))).filter (fun c => hasB bs c)) bs (hnd.sublist List.filter_sublist) (fun x hx => by
      have h := (List.mem_filter.1 hx).2
      unfold hasB at h
      simpa using h)
    have h3 : ((List.range 52).map (fun i : Nat => (i : Int))).length = 52 := by simp
    unfold othersN
    omega
/-- Cards whose ranks go up by d. -/
def Inv (d R : Int) (k : Nat) (os : List Int) : Prop := os.length = k ∧ cardsB os = true ∧ ∀ x ∈ os, ∃ j : Nat, j < k ∧ x / 4 = (R + d * j) % 13
theorem inv_step {d R q : Int} {k : Nat} {os : List Int} (h : Inv d R k os) (hk : k < 5) (hd : d = 1 ∨ d = 2) (h0 : 0 ≤ q) (h4 : q < 4) : Inv d R (k + 1) (os ++ [4 * ((R + d * k) % 13) + q]) := by
  obtain ⟨h1, h2, h3⟩ := h
  have hr : 0 ≤ (R + d * k) % 13 ∧ (R + d * k) % 13 < 13 := by omega
  refine ⟨by simp [h1], cards_snoc _ _ h2 (by omega) (by omega) (fun hm => ?_), fun x hx => ?_⟩
  · obtain ⟨j, hj, e⟩ := h3 _ hm
    rcases hd with rfl | rfl <;> omega
  · rcases List.mem_append.1 hx with hx | hx
    · obtain ⟨j, hj, e⟩ := h3 x hx
      exact ⟨j, by omega, e⟩
    · obtain rfl : x = 4 * ((R + d * k) % 13) + q := by simpa using hx
      exact ⟨k, by omega, by omega⟩
theorem five_cards {xs bs : List Int} {rs : List Int} (hb : cardsB bs = true) (h5 : bs.length ≤ 5) (hp : (xs ++ rs).Perm (othersN 52 bs)) (hl : xs.length = 5 - bs.length ∨ ((othersN 52 bs).length ≤ 5 - bs.length ∧ xs.length = (othersN 52 bs).length)) : (bs ++ xs).length = 5 ∧ cardsB (bs ++ xs) = true := by
  obtain ⟨f1, f2, f3⟩ := others_facts bs
  have hc := (cards_iff bs).1 hb
  have hnd := hp.nodup_iff.2 f1
  have hm : ∀ x ∈ xs, x ∈ othersN 52 bs := fun x hx => hp.mem_iff.1 (List.mem_append.2 (.inl hx))
  constructor
  · rw [List.length_append]; omega
  · refine (cards_iff _).2 ⟨fun x hx => ?_, ?_⟩
    · rcases List.mem_append.1 hx with hx | hx
      · exact hc.1 x hx
      · exact (f2 x (hm x hx)).1
    · exact List.nodup_append.2 ⟨hc.2, (List.nodup_append.1 hnd).1, fun x hx y hy e => (f2 y (hm y hy)).2 (e ▸ hx)⟩
theorem perm_cards {xs ys : List Int} (h : ys.Perm xs) (hb : cardsB xs = true) : cardsB ys = true := by
  have hc := (cards_iff xs).1 hb
  exact (cards_iff ys).2 ⟨fun x hx => hc.1 x (h.mem_iff.1 hx), h.nodup_iff.2 hc.2⟩
theorem own_lit (w : World) (xs : List Int) (hl : xs.length ≤ 100) : Own (w.alloc (.cells (ints xs).toArray 2)) w.heap.size (.slice (some ⟨w.heap.size, 0, none⟩) xs.length xs.length) xs :=
  ⟨by rw [ints_length, Nat.mul_one], .inr ⟨w.heap.size, xs.length, (ints xs).toArray, rfl, Nat.le_refl _, heap_alloc_new w _, Nat.le_refl _, by unfold maxLen; omega, by simp [ints_length], by simp [← ints_length xs]⟩⟩
set_option maxRecDepth 100000 in
set_option maxHeartbeats 8000000 in
theorem drawFive_any (s : Nat) (a : Option Addr) (L c : Nat) (zs : Nat → Int) (w : World) (h : Src w s a L c zs) :
    Calls Tryd.prog 74 #[.pointer (some ⟨s, 0, none⟩)] w (FiveD w s a L c zs) := by
  have HS := src_lt h
  have H := Lib.hid h
  have HB := Lib.hid (codeB_of h)
  clear h
  obtain ⟨w0, rfl⟩ : ∃ w0 : World, w0 = w := ⟨w, rfl⟩
  go_enter Tryd.func74, Tryd.ntmps74
  go_wp2_with (go_at_call 40; ((with_reducible refine (next_any s 13 a L c zs _ (by decide) (by decide) H.out).mono ?_); rintro e w1 ⟨R, rfl, r0, r1, hs1, ho1⟩; have S1 := Lib.hid hs1; have Y1 := Lib.hid ho1; clear hs1 ho1))
  go_wp2_with (go_at_call 40; ((with_reducible refine (next_any s 4 a L c zs _ (by decide) (by decide) S1.out).mono ?_); rintro e w2 ⟨U, rfl, u0, u1, hs2, ho2⟩; have S2 := Lib.hid hs2; have Y2 := Lib.hid (only_trans Y1.out ho2); clear hs2 ho2))
  go_wp2_with (go_at_call 40; ((with_reducible refine (next_any s 12 a L c zs _ (by decide) (by decide) S2.out).mono ?_); rintro e w3 ⟨N, rfl, n0, n1, hs3, ho3⟩; have S3 := Lib.hid hs3; have Y3 := Lib.hid (only_trans Y2.out ho3); clear hs3 ho3; have eO : (R + 1 + N).tmod 13 = (R + 1 + N) % 13 := Int.tmod_eq_emod_of_nonneg (by omega); have hO : 0 ≤ (R + 1 + N) % 13 ∧ (R + 1 + N) % 13 < 13 ∧ (R + 1 + N) % 13 ≠ R := (by omega); generalize (R + 1 + N) % 13 = O at *))
  go_wp2_with (go_at_call 40; ((with_reducible refine (next_any s 8 a L c zs _ (by decide) (by decide) (S3.out.below (bl_alloc (bl_refl _) _))).mono ?_); rintro e w4 ⟨V, rfl, v0, v1, hs4, ho4⟩; have S4 := Lib.hid hs4; have Y4 := Lib.hid (only_trans (only_alloc Y3.out (.cells #[] 2)) ho4); have G4 := Lib.hid (own_only (own_new w3) ho4 (Nat.lt_of_lt_of_le HS Y3.out.size)); have Z4 := Lib.hid (only_trans (only_alloc (only_refl s w3) (.cells #[] 2)) ho4); have LW4 : Hid (w3.heap.size ≤ w4.heap.size) := Lib.hid (Nat.le_trans (by simp) ho4.size); clear hs4 ho4))
  · rename_i h0
    simp only [h0]
    have HI0 : Hid (Inv 1 R 0 []) := Lib.hid ⟨rfl, cards_nil, fun x hx => by simp at hx⟩
    have HP0 : Hid (Picks w3 s a L c zs [] (.slice (some ⟨w3.heap.size, 0, none⟩) 0 0) w4) := Lib.hid ⟨G4.out, S4.out, Z4.out⟩
    have HS3 := Nat.lt_of_lt_of_le HS Y3.out.size
    have HB3 : Hid (CodeB w3.heap.size a L) := Lib.hid (fun b off e h0 => Nat.lt_of_lt_of_le (HB.out b off e h0) Y3.out.size)
    go_loopw [6, 7] (fun v i wr => ∃ (k : Nat) (os : List Int) (A' : Option Addr) (c' : Nat), k ≤ 5 ∧ os.length = k ∧ v = .slice A' k c' ∧ i = .int .i64 k ∧ Hid (Picks w3 s a L c zs os (.slice A' os.length c') wr) ∧ Hid (Inv 1 R k os)) (fun _ i _ => 5 - (intOf i).toNat)
    case atStart => exact ⟨0, [], some ⟨w3.heap.size, 0, none⟩, 0, by omega, rfl, rfl, rfl, HP0, HI0⟩
    case round =>
      obtain ⟨k, os, A', c', hk, hl, rfl, rfl, hp, hi⟩ := hrel
      by_cases hlt : k < 5
      · have hlt' : (k : Int) < 5 := by omega
        have eM : (R + 1 * (k : Int)).tmod 13 = (R + 1 * (k : Int)) % 13 := Int.tmod_eq_emod_of_nonneg (by omega)
        have hX : 0 ≤ (R + 1 * (k : Int)) % 13 ∧ (R + 1 * (k : Int)) % 13 < 13 := by omega
        have HST := Lib.hid (fun (q : Int) (h0 : 0 ≤ q) (h4 : q < 4) => inv_step hi.out hlt (by omega) h0 h4)
        generalize (R + 1 * (k : Int)) % 13 = X at *
        rw [Int.one_mul] at eM
        go_wp2_with (first
          | (go_at_call 40; refine (next_any s 4 a L c zs _ (by decide) (by decide) hp.out.src).mono ?_; rintro e w5 ⟨Q, rfl, q0, q1, hs5, ho5⟩; have P5 := Lib.hid (hp.out.next HS3 hs5 ho5); clear hs5 ho5)
          | (at_builtin; refine wpList_glue (.tmp 29) (.tmp 38) rfl rfl w3.heap.size (.slice A' os.length c') os [4 * X + Q] (some ⟨w5.heap.size, 0, none⟩) 1 (by rw [hl]; rfl) (P5.out.out.below (bl_alloc (bl_refl _) _)) rfl (rd_new1 w5 _) (by rw [hl]; simp; omega) (Nat.le_trans P5.out.only.size (by simp)) ?_))
        intro A6 c6 ws6 w6 e6 ho6 hg6 _
        have hrow : ∀ j, (Value.slice A' k c').ownBlock = some j → w3.heap.size ≤ j := fun j hj => (World.ownsRow.lt P5.out.out j (by rw [hl]; exact hj)).1
        have P6 : Hid (Picks w3 s a L c zs ws6 (.slice A6 ws6.length c6) w6) := Lib.hid ⟨ho6, src_grown (src_alloc P5.out.src _) hg6 hrow HS3 HB3.out, only_grown (only_alloc P5.out.only _) hg6 hrow⟩
        have I6 : Hid (Inv 1 R (k + 1) ws6) := Lib.hid (by rw [e6.out]; exact HST.out Q (by omega) (by omega))
        have L6 : Hid (ws6.length = k + 1) := Lib.hid I6.out.1
        rw [L6.out]
        clear ho6 hg6 hrow
        go_wp2_with fail
        go_roundw
        case rel =>
          exact ⟨k + 1, ws6, A6, c6, by omega, L6.out, rfl, by go_num, P6, I6⟩
        case measure => simp [intOf]; omega
      · obtain rfl : k = 5 := by omega
        obtain ⟨x0, x1, x2, x3, x4, rfl⟩ := list_five os hl
        have CB := hi.out.2.1
        have HW : Hid (w0.heap.size ≤ w3.heap.size) := Lib.hid Y3.out.size
        have LW : Hid (w3.heap.size ≤ wr.heap.size) := Lib.hid hp.out.only.size
        have G5 := Lib.hid hp.out.out
        have S5 := Lib.hid hp.out.src
        have Y5 := Lib.hid (only_trans Y3.out hp.out.only)
        clear hp hi hl
        go_wp2_with (first
          | (go_at_call 75; refine (deal_perm s 0 A' c' [x0, x1, x2, x3, x4] a L c zs _ (by omega) G5.out.rd (by simp) S5.out).mono ?_; rintro e wd ⟨ys, A5, c5, rfl, ho5, hs5, hy5, ⟨rs5, hp5⟩, hl5⟩; have FC := Lib.hid (five_cards (bs := [x0, x1, x2, x3, x4]) CB (by simp) hp5 (by simpa using hl5)); have SD := Lib.hid hs5; have YD := Lib.hid (only_trans Y5.out hy5); have OD := Lib.hid (own_only G5.out hy5 (Nat.lt_of_lt_of_le HS HW.out)); have ZD := Lib.hid (Nat.le_trans LW.out hy5.size); have R5 := Lib.hid ho5.rd; have LY : Hid (([x0, x1, x2, x3, x4]).length + ys.length ≤ 4000000) := Lib.hid (by have := FC.out.1; rw [List.length_append] at this; omega); clear ho5 hs5 hy5 hp5 hl5)
          | (at_builtin; refine wpList_glue (.tmp 163) (.tmp 169) rfl rfl w3.heap.size (.slice A' ([x0, x1, x2, x3, x4]).length c') [x0, x1, x2, x3, x4] ys A5 c5 rfl OD.out rfl R5.out LY.out ZD.out ?_; intro A6 c6 ws6 w6 e6 ho6 hg6 hv6; have O6 := Lib.hid ho6; have S6 := Lib.hid (src_grown SD.out hg6 (fun j hj => Nat.le_trans HW.out (World.ownsRow.lt OD.out j hj).1) HS HB.out); have Y6 := Lib.hid (only_grown YD.out hg6 (fun j hj => Nat.le_trans HW.out (World.ownsRow.lt OD.out j hj).1)); have F6 : Hid (ws6.length = 5 ∧ cardsB ws6 = true) := Lib.hid (by rw [e6.out]; exact FC.out); clear ho6 hg6 hv6)
          | (go_at_call 57; refine (pickList_any s A6 c6 ws6 a L c zs _ O6.out.rd (fun x hx => by have := (O6.out.lo_le x hx).1; have := HW.out; omega) (by have := F6.out.1; omega) S6.out).mono ?_; rintro e w7 ⟨xs7, A7, c7, rfl, ho7, hs7, hy7, hp7⟩; have O7 := Lib.hid ho7; have S7 := Lib.hid hs7; have Y7 := Lib.hid (only_trans Y6.out hy7); have P7 := Lib.hid hp7; clear ho7 hs7 hy7 hp7))
        go_ret
        exact ⟨xs7, A7, c7, rfl, O7.out.less Y6.out.size, S7.out, Y7.out, by rw [P7.out.length_eq]; exact F6.out.1, perm_cards P7.out F6.out.2⟩
  · rename_i h0 h1
    simp only [h0, h1]
    have HI0 : Hid (Inv 1 R 0 []) := Lib.hid ⟨rfl, cards_nil, fun x hx => by simp at hx⟩
    have HP0 : Hid (Picks w3 s a L c zs [] (.slice (some ⟨w3.heap.size, 0, none⟩) 0 0) w4) := Lib.hid ⟨G4.out, S4.out, Z4.out⟩
    have HS3 := Nat.lt_of_lt_of_le HS Y3.out.size
    have HB3 : Hid (CodeB w3.heap.size a L) := Lib.hid (fun b off e h0 => Nat.lt_of_lt_of_le (HB.out b off e h0) Y3.out.size)
    go_loopw [6, 8] (fun v i wr => ∃ (k : Nat) (os : List Int) (A' : Option Addr) (c' : Nat), k ≤ 5 ∧ os.length = k ∧ v = .slice A' k c' ∧ i = .int .i64 k ∧ Hid (Picks w3 s a L c zs os (.slice A' os.length c') wr) ∧ Hid (Inv 1 R k os)) (fun _ i _ => 5 - (intOf i).toNat)
    case atStart => exact ⟨0, [], some ⟨w3.heap.size, 0, none⟩, 0, by omega, rfl, rfl, rfl, HP0, HI0⟩
    case round =>
      obtain ⟨k, os, A', c', hk, hl, rfl, rfl, hp, hi⟩ := hrel
      by_cases hlt : k < 5
      · have hlt' : (k : Int) < 5 := by omega
        have eM : (R + 1 * (k : Int)).tmod 13 = (R + 1 * (k : Int)) % 13 := Int.tmod_eq_emod_of_nonneg (by omega)
        have hX : 0 ≤ (R + 1 * (k : Int)) % 13 ∧ (R + 1 * (k : Int)) % 13 < 13 := by omega
        have HST := Lib.hid (fun (q : Int) (h0 : 0 ≤ q) (h4 : q < 4) => inv_step hi.out hlt (by omega) h0 h4)
        generalize (R + 1 * (k : Int)) % 13 = X at *
        rw [Int.one_mul] at eM
        have P5 := Lib.hid hp.out
        go_wp2_with (first
          | (at_builtin; refine wpList_glue (.tmp 46) (.tmp 54) rfl rfl w3.heap.size (.slice A' os.length c') os [4 * X + U] (some ⟨wr.heap.size, 0, none⟩) 1 (by rw [hl]; rfl) (P5.out.out.below (bl_alloc (bl_refl _) _)) rfl (rd_new1 wr _) (by rw [hl]; simp; omega) (Nat.le_trans P5.out.only.size (by simp)) ?_))
        intro A6 c6 ws6 w6 e6 ho6 hg6 _
        have hrow : ∀ j, (Value.slice A' k c').ownBlock = some j → w3.heap.size ≤ j := fun j hj => (World.ownsRow.lt P5.out.out j (by rw [hl]; exact hj)).1
        have P6 : Hid (Picks w3 s a L c zs ws6 (.slice A6 ws6.length c6) w6) := Lib.hid ⟨ho6, src_grown (src_alloc P5.out.src _) hg6 hrow HS3 HB3.out, only_grown (only_alloc P5.out.only _) hg6 hrow⟩
        have I6 : Hid (Inv 1 R (k + 1) ws6) := Lib.hid (by rw [e6.out]; exact HST.out U (by omega) (by omega))
        have L6 : Hid (ws6.length = k + 1) := Lib.hid I6.out.1
        rw [L6.out]
        clear ho6 hg6 hrow
        go_wp2_with fail
        go_roundw
        case rel =>
          exact ⟨k + 1, ws6, A6, c6, by omega, L6.out, rfl, by go_num, P6, I6⟩
        case measure => simp [intOf]; omega
      · obtain rfl : k = 5 := by omega
        obtain ⟨x0, x1, x2, x3, x4, rfl⟩ := list_five os hl
        have CB := hi.out.2.1
        have HW : Hid (w0.heap.size ≤ w3.heap.size) := Lib.hid Y3.out.size
        have LW : Hid (w3.heap.size ≤ wr.heap.size) := Lib.hid hp.out.only.size
        have G5 := Lib.hid hp.out.out
        have S5 := Lib.hid hp.out.src
        have Y5 := Lib.hid (only_trans Y3.out hp.out.only)
        clear hp hi hl
        go_wp2_with (first
          | (go_at_call 75; refine (deal_perm s 0 A' c' [x0, x1, x2, x3, x4] a L c zs _ (by omega) G5.out.rd (by simp) S5.out).mono ?_; rintro e wd ⟨ys, A5, c5, rfl, ho5, hs5, hy5, ⟨rs5, hp5⟩, hl5⟩; have FC := Lib.hid (five_cards (bs := [x0, x1, x2, x3, x4]) CB (by simp) hp5 (by simpa using hl5)); have SD := Lib.hid hs5; have YD := Lib.hid (only_trans Y5.out hy5); have OD := Lib.hid (own_only G5.out hy5 (Nat.lt_of_lt_of_le HS HW.out)); have ZD := Lib.hid (Nat.le_trans LW.out hy5.size); have R5 := Lib.hid ho5.rd; have LY : Hid (([x0, x1, x2, x3, x4]).length + ys.length ≤ 4000000) := Lib.hid (by have := FC.out.1; rw [List.length_append] at this; omega); clear ho5 hs5 hy5 hp5 hl5)
          | (at_builtin; refine wpList_glue (.tmp 163) (.tmp 169) rfl rfl w3.heap.size (.slice A' ([x0, x1, x2, x3, x4]).length c') [x0, x1, x2, x3, x4] ys A5 c5 rfl OD.out rfl R5.out LY.out ZD.out ?_; intro A6 c6 ws6 w6 e6 ho6 hg6 hv6; have O6 := Lib.hid ho6; have S6 := Lib.hid (src_grown SD.out hg6 (fun j hj => Nat.le_trans HW.out (World.ownsRow.lt OD.out j hj).1) HS HB.out); have Y6 := Lib.hid (only_grown YD.out hg6 (fun j hj => Nat.le_trans HW.out (World.ownsRow.lt OD.out j hj).1)); have F6 : Hid (ws6.length = 5 ∧ cardsB ws6 = true) := Lib.hid (by rw [e6.out]; exact FC.out); clear ho6 hg6 hv6)
          | (go_at_call 57; refine (pickList_any s A6 c6 ws6 a L c zs _ O6.out.rd (fun x hx => by have := (O6.out.lo_le x hx).1; have := HW.out; omega) (by have := F6.out.1; omega) S6.out).mono ?_; rintro e w7 ⟨xs7, A7, c7, rfl, ho7, hs7, hy7, hp7⟩; have O7 := Lib.hid ho7; have S7 := Lib.hid hs7; have Y7 := Lib.hid (only_trans Y6.out hy7); have P7 := Lib.hid hp7; clear ho7 hs7 hy7 hp7))
        go_ret
        exact ⟨xs7, A7, c7, rfl, O7.out.less Y6.out.size, S7.out, Y7.out, by rw [P7.out.length_eq]; exact F6.out.1, perm_cards P7.out F6.out.2⟩
  · have HW : Hid (w0.heap.size ≤ w4.heap.size) := Lib.hid Y4.out.size
    have G5 := Lib.hid (own_lit w4 [4 * R, 4 * R + 1, 4 * R + 2, 4 * R + 3, 4 * O + U] (by simp))
    have S5 := Lib.hid (S4.out.below (bl_alloc (bl_refl w4) (.cells (ints [4 * R, 4 * R + 1, 4 * R + 2, 4 * R + 3, 4 * O + U]).toArray 2)))
    have Y5 := Lib.hid (only_alloc Y4.out (.cells (ints [4 * R, 4 * R + 1, 4 * R + 2, 4 * R + 3, 4 * O + U]).toArray 2))
    have CB : Hid (cardsB [4 * R, 4 * R + 1, 4 * R + 2, 4 * R + 3, 4 * O + U] = true) := Lib.hid (by rw [cards_iff]; simp; omega)
    go_wp2_with (go_at_call 57; refine (pickList_any s (some ⟨w4.heap.size, 0, none⟩) 5 [4 * R, 4 * R + 1, 4 * R + 2, 4 * R + 3, 4 * O + U] a L c zs _ G5.out.rd (fun x hx => by obtain rfl := Option.some.inj hx; have := HW.out; show w4.heap.size ≠ s; omega) (by simp) S5.out).mono ?_; rintro e w7 ⟨xs7, A7, c7, rfl, ho7, hs7, hy7, hp7⟩; have O7 := Lib.hid ho7; have S7 := Lib.hid hs7; have Y7 := Lib.hid (only_trans Y5.out hy7); have P7 := Lib.hid hp7; clear ho7 hs7 hy7 hp7)
    go_ret
    exact ⟨xs7, A7, c7, rfl, O7.out.less Y5.out.size, S7.out, Y7.out, by rw [P7.out.length_eq]; rfl, perm_cards P7.out CB.out⟩
  · go_wp2_with (go_at_call 40; refine (next_any s 2 a L c zs _ (by decide) (by decide) S4.out).mono ?_; rintro e w5 ⟨Q, rfl, q0, q1, hs5, ho5⟩; have SX := Lib.hid hs5; have YX := Lib.hid (only_trans Y4.out ho5); clear hs5 ho5)
    have HW : Hid (w0.heap.size ≤ w5.heap.size) := Lib.hid YX.out.size
    have G5 := Lib.hid (own_lit w5 [4 * R, 4 * R + 1 + Q, 4 * R + 3, 4 * O + U, 4 * O + (U + 1) % 4] (by simp))
    have S5 := Lib.hid (SX.out.below (bl_alloc (bl_refl w5) (.cells (ints [4 * R, 4 * R + 1 + Q, 4 * R + 3, 4 * O + U, 4 * O + (U + 1) % 4]).toArray 2)))
    have Y5 := Lib.hid (only_alloc YX.out (.cells (ints [4 * R, 4 * R + 1 + Q, 4 * R + 3, 4 * O + U, 4 * O + (U + 1) % 4]).toArray 2))
    have CB : Hid (cardsB [4 * R, 4 * R + 1 + Q, 4 * R + 3, 4 * O + U, 4 * O + (U + 1) % 4] = true) := Lib.hid (by rw [cards_iff]; simp; omega)
    go_wp2_with (go_at_call 57; refine (pickList_any s (some ⟨w5.heap.size, 0, none⟩) 5 [4 * R, 4 * R + 1 + Q, 4 * R + 3, 4 * O + U, 4 * O + (U + 1) % 4] a L c zs _ G5.out.rd (fun x hx => by obtain rfl := Option.some.inj hx; have := HW.out; show w5.heap.size ≠ s; omega) (by simp) S5.out).mono ?_; rintro e w7 ⟨xs7, A7, c7, rfl, ho7, hs7, hy7, hp7⟩; have O7 := Lib.hid ho7; have S7 := Lib.hid hs7; have Y7 := Lib.hid (only_trans Y5.out hy7); have P7 := Lib.hid hp7; clear ho7 hs7 hy7 hp7)
    go_ret
    exact ⟨xs7, A7, c7, rfl, O7.out.less Y5.out.size, S7.out, Y7.out, by rw [P7.out.length_eq]; rfl, perm_cards P7.out CB.out⟩
  · rename_i h0 h1 h2 h3 h4
    simp only [h0, h1, h2, h3, h4]
    have HI0 : Hid (Inv 2 R 0 []) := Lib.hid ⟨rfl, cards_nil, fun x hx => by simp at hx⟩
    have HP0 : Hid (Picks w3 s a L c zs [] (.slice (some ⟨w3.heap.size, 0, none⟩) 0 0) w4) := Lib.hid ⟨G4.out, S4.out, Z4.out⟩
    have HS3 := Nat.lt_of_lt_of_le HS Y3.out.size
    have HB3 : Hid (CodeB w3.heap.size a L) := Lib.hid (fun b off e h0 => Nat.lt_of_lt_of_le (HB.out b off e h0) Y3.out.size)
    go_loopw [6, 9] (fun v i wr => ∃ (k : Nat) (os : List Int) (A' : Option Addr) (c' : Nat), k ≤ 5 ∧ os.length = k ∧ v = .slice A' k c' ∧ i = .int .i64 k ∧ Hid (Picks w3 s a L c zs os (.slice A' os.length c') wr) ∧ Hid (Inv 2 R k os)) (fun _ i _ => 5 - (intOf i).toNat)
    case atStart => exact ⟨0, [], some ⟨w3.heap.size, 0, none⟩, 0, by omega, rfl, rfl, rfl, HP0, HI0⟩
    case round =>
      obtain ⟨k, os, A', c', hk, hl, rfl, rfl, hp, hi⟩ := hrel
      by_cases hlt : k < 5
      · have hlt' : (k : Int) < 5 := by omega
        have eM : (R + 2 * (k : Int)).tmod 13 = (R + 2 * (k : Int)) % 13 := Int.tmod_eq_emod_of_nonneg (by omega)
        have hX : 0 ≤ (R + 2 * (k : Int)) % 13 ∧ (R + 2 * (k : Int)) % 13 < 13 := by omega
        have HST := Lib.hid (fun (q : Int) (h0 : 0 ≤ q) (h4 : q < 4) => inv_step hi.out hlt (by omega) h0 h4)
        generalize (R + 2 * (k : Int)) % 13 = X at *
        skip
        have P5 := Lib.hid hp.out
        go_wp2_with (first
          | (at_builtin; refine wpList_glue (.tmp 109) (.tmp 118) rfl rfl w3.heap.size (.slice A' os.length c') os [4 * X + U] (some ⟨wr.heap.size, 0, none⟩) 1 (by rw [hl]; rfl) (P5.out.out.below (bl_alloc (bl_refl _) _)) rfl (rd_new1 wr _) (by rw [hl]; simp; omega) (Nat.le_trans P5.out.only.size (by simp)) ?_))
        intro A6 c6 ws6 w6 e6 ho6 hg6 _
        have hrow : ∀ j, (Value.slice A' k c').ownBlock = some j → w3.heap.size ≤ j := fun j hj => (World.ownsRow.lt P5.out.out j (by rw [hl]; exact hj)).1
        have P6 : Hid (Picks w3 s a L c zs ws6 (.slice A6 ws6.length c6) w6) := Lib.hid ⟨ho6, src_grown (src_alloc P5.out.src _) hg6 hrow HS3 HB3.out, only_grown (only_alloc P5.out.only _) hg6 hrow⟩
        have I6 : Hid (Inv 2 R (k + 1) ws6) := Lib.hid (by rw [e6.out]; exact HST.out U (by omega) (by omega))
        have L6 : Hid (ws6.length = k + 1) := Lib.hid I6.out.1
        rw [L6.out]
        clear ho6 hg6 hrow
        go_wp2_with fail
        go_roundw
        case rel =>
          exact ⟨k + 1, ws6, A6, c6, by omega, L6.out, rfl, by go_num, P6, I6⟩
        case measure => simp [intOf]; omega
      · obtain rfl : k = 5 := by omega
        obtain ⟨x0, x1, x2, x3, x4, rfl⟩ := list_five os hl
        have CB := hi.out.2.1
        have HW : Hid (w0.heap.size ≤ w3.heap.size) := Lib.hid Y3.out.size
        have LW : Hid (w3.heap.size ≤ wr.heap.size) := Lib.hid hp.out.only.size
        have G5 := Lib.hid hp.out.out
        have S5 := Lib.hid hp.out.src
        have Y5 := Lib.hid (only_trans Y3.out hp.out.only)
        clear hp hi hl
        go_wp2_with (first
          | (go_at_call 75; refine (deal_perm s 0 A' c' [x0, x1, x2, x3, x4] a L c zs _ (by omega) G5.out.rd (by simp) S5.out).mono ?_; rintro e wd ⟨ys, A5, c5, rfl, ho5, hs5, hy5, ⟨rs5, hp5⟩, hl5⟩; have FC := Lib.hid (five_cards (bs := [x0, x1, x2, x3, x4]) CB (by simp) hp5 (by simpa using hl5)); have SD := Lib.hid hs5; have YD := Lib.hid (only_trans Y5.out hy5); have OD := Lib.hid (own_only G5.out hy5 (Nat.lt_of_lt_of_le HS HW.out)); have ZD := Lib.hid (Nat.le_trans LW.out hy5.size); have R5 := Lib.hid ho5.rd; have LY : Hid (([x0, x1, x2, x3, x4]).length + ys.length ≤ 4000000) := Lib.hid (by have := FC.out.1; rw [List.length_append] at this; omega); clear ho5 hs5 hy5 hp5 hl5)
          | (at_builtin; refine wpList_glue (.tmp 163) (.tmp 169) rfl rfl w3.heap.size (.slice A' ([x0, x1, x2, x3, x4]).length c') [x0, x1, x2, x3, x4] ys A5 c5 rfl OD.out rfl R5.out LY.out ZD.out ?_; intro A6 c6 ws6 w6 e6 ho6 hg6 hv6; have O6 := Lib.hid ho6; have S6 := Lib.hid (src_grown SD.out hg6 (fun j hj => Nat.le_trans HW.out (World.ownsRow.lt OD.out j hj).1) HS HB.out); have Y6 := Lib.hid (only_grown YD.out hg6 (fun j hj => Nat.le_trans HW.out (World.ownsRow.lt OD.out j hj).1)); have F6 : Hid (ws6.length = 5 ∧ cardsB ws6 = true) := Lib.hid (by rw [e6.out]; exact FC.out); clear ho6 hg6 hv6)
          | (go_at_call 57; refine (pickList_any s A6 c6 ws6 a L c zs _ O6.out.rd (fun x hx => by have := (O6.out.lo_le x hx).1; have := HW.out; omega) (by have := F6.out.1; omega) S6.out).mono ?_; rintro e w7 ⟨xs7, A7, c7, rfl, ho7, hs7, hy7, hp7⟩; have O7 := Lib.hid ho7; have S7 := Lib.hid hs7; have Y7 := Lib.hid (only_trans Y6.out hy7); have P7 := Lib.hid hp7; clear ho7 hs7 hy7 hp7))
        go_ret
        exact ⟨xs7, A7, c7, rfl, O7.out.less Y6.out.size, S7.out, Y7.out, by rw [P7.out.length_eq]; exact F6.out.1, perm_cards P7.out F6.out.2⟩
  · have HW : Hid (w0.heap.size ≤ w4.heap.size) := Lib.hid Y4.out.size
    have LW : Hid (w4.heap.size ≤ (w4.alloc (.cells (ints [4 * R + U, 4 * R + (U + 1) % 4, 4 * O + U, 4 * O + (U + 2) % 4]).toArray 2)).heap.size) := Lib.hid (by simp)
    have G5 := Lib.hid (own_lit w4 [4 * R + U, 4 * R + (U + 1) % 4, 4 * O + U, 4 * O + (U + 2) % 4] (by simp))
    have S5 := Lib.hid (S4.out.below (bl_alloc (bl_refl w4) (.cells (ints [4 * R + U, 4 * R + (U + 1) % 4, 4 * O + U, 4 * O + (U + 2) % 4]).toArray 2)))
    have Y5 := Lib.hid (only_alloc Y4.out (.cells (ints [4 * R + U, 4 * R + (U + 1) % 4, 4 * O + U, 4 * O + (U + 2) % 4]).toArray 2))
    have CB : cardsB [4 * R + U, 4 * R + (U + 1) % 4, 4 * O + U, 4 * O + (U + 2) % 4] = true := by rw [cards_iff]; simp; omega
    go_wp2_with (first
      | (go_at_call 75; refine (deal_perm s 1 (some ⟨w4.heap.size, 0, none⟩) 4 [4 * R + U, 4 * R + (U + 1) % 4, 4 * O + U, 4 * O + (U + 2) % 4] a L c zs _ (by omega) G5.out.rd (by simp) S5.out).mono ?_; rintro e wd ⟨ys, A5, c5, rfl, ho5, hs5, hy5, ⟨rs5, hp5⟩, hl5⟩; have FC := Lib.hid (five_cards (bs := [4 * R + U, 4 * R + (U + 1) % 4, 4 * O + U, 4 * O + (U + 2) % 4]) CB (by simp) hp5 (by simpa using hl5)); have SD := Lib.hid hs5; have YD := Lib.hid (only_trans Y5.out hy5); have OD := Lib.hid (own_only G5.out hy5 (Nat.lt_of_lt_of_le HS HW.out)); have ZD := Lib.hid (Nat.le_trans LW.out hy5.size); have R5 := Lib.hid ho5.rd; have LY : Hid (([4 * R + U, 4 * R + (U + 1) % 4, 4 * O + U, 4 * O + (U + 2) % 4]).length + ys.length ≤ 4000000) := Lib.hid (by have := FC.out.1; rw [List.length_append] at this; omega); clear ho5 hs5 hy5 hp5 hl5)
      | (at_builtin; refine wpList_glue (.tmp 163) (.tmp 169) rfl rfl w4.heap.size (.slice (some ⟨w4.heap.size, 0, none⟩) ([4 * R + U, 4 * R + (U + 1) % 4, 4 * O + U, 4 * O + (U + 2) % 4]).length 4) [4 * R + U, 4 * R + (U + 1) % 4, 4 * O + U, 4 * O + (U + 2) % 4] ys A5 c5 rfl OD.out rfl R5.out LY.out ZD.out ?_; intro A6 c6 ws6 w6 e6 ho6 hg6 hv6; have O6 := Lib.hid ho6; have S6 := Lib.hid (src_grown SD.out hg6 (fun j hj => Nat.le_trans HW.out (World.ownsRow.lt OD.out j hj).1) HS HB.out); have Y6 := Lib.hid (only_grown YD.out hg6 (fun j hj => Nat.le_trans HW.out (World.ownsRow.lt OD.out j hj).1)); have F6 : Hid (ws6.length = 5 ∧ cardsB ws6 = true) := Lib.hid (by rw [e6.out]; exact FC.out); clear ho6 hg6 hv6)
      | (go_at_call 57; refine (pickList_any s A6 c6 ws6 a L c zs _ O6.out.rd (fun x hx => by have := (O6.out.lo_le x hx).1; have := HW.out; omega) (by have := F6.out.1; omega) S6.out).mono ?_; rintro e w7 ⟨xs7, A7, c7, rfl, ho7, hs7, hy7, hp7⟩; have O7 := Lib.hid ho7; have S7 := Lib.hid hs7; have Y7 := Lib.hid (only_trans Y6.out hy7); have P7 := Lib.hid hp7; clear ho7 hs7 hy7 hp7))
    go_ret
    exact ⟨xs7, A7, c7, rfl, O7.out.less Y6.out.size, S7.out, Y7.out, by rw [P7.out.length_eq]; exact F6.out.1, perm_cards P7.out F6.out.2⟩
  · have HW : Hid (w0.heap.size ≤ w4.heap.size) := Lib.hid Y4.out.size
    have LW : Hid (w4.heap.size ≤ (w4.alloc (.cells (ints [4 * R + U, 4 * R + (U + 1) % 4, 4 * R + (U + 2) % 4]).toArray 2)).heap.size) := Lib.hid (by simp)
    have G5 := Lib.hid (own_lit w4 [4 * R + U, 4 * R + (U + 1) % 4, 4 * R + (U + 2) % 4] (by simp))
    have S5 := Lib.hid (S4.out.below (bl_alloc (bl_refl w4) (.cells (ints [4 * R + U, 4 * R + (U + 1) % 4, 4 * R + (U + 2) % 4]).toArray 2)))
    have Y5 := Lib.hid (only_alloc Y4.out (.cells (ints [4 * R + U, 4 * R + (U + 1) % 4, 4 * R + (U + 2) % 4]).toArray 2))
    have CB : cardsB [4 * R + U, 4 * R + (U + 1) % 4, 4 * R + (U + 2) % 4] = true := by rw [cards_iff]; simp; omega
    go_wp2_with (first
      | (go_at_call 75; refine (deal_perm s 2 (some ⟨w4.heap.size, 0, none⟩) 3 [4 * R + U, 4 * R + (U + 1) % 4, 4 * R + (U + 2) % 4] a L c zs _ (by omega) G5.out.rd (by simp) S5.out).mono ?_; rintro e wd ⟨ys, A5, c5, rfl, ho5, hs5, hy5, ⟨rs5, hp5⟩, hl5⟩; have FC := Lib.hid (five_cards (bs := [4 * R + U, 4 * R + (U + 1) % 4, 4 * R + (U + 2) % 4]) CB (by simp) hp5 (by simpa using hl5)); have SD := Lib.hid hs5; have YD := Lib.hid (only_trans Y5.out hy5); have OD := Lib.hid (own_only G5.out hy5 (Nat.lt_of_lt_of_le HS HW.out)); have ZD := Lib.hid (Nat.le_trans LW.out hy5.size); have R5 := Lib.hid ho5.rd; have LY : Hid (([4 * R + U, 4 * R + (U + 1) % 4, 4 * R + (U + 2) % 4]).length + ys.length ≤ 4000000) := Lib.hid (by have := FC.out.1; rw [List.length_append] at this; omega); clear ho5 hs5 hy5 hp5 hl5)
      | (at_builtin; refine wpList_glue (.tmp 163) (.tmp 169) rfl rfl w4.heap.size (.slice (some ⟨w4.heap.size, 0, none⟩) ([4 * R + U, 4 * R + (U + 1) % 4, 4 * R + (U + 2) % 4]).length 3) [4 * R + U, 4 * R + (U + 1) % 4, 4 * R + (U + 2) % 4] ys A5 c5 rfl OD.out rfl R5.out LY.out ZD.out ?_; intro A6 c6 ws6 w6 e6 ho6 hg6 hv6; have O6 := Lib.hid ho6; have S6 := Lib.hid (src_grown SD.out hg6 (fun j hj => Nat.le_trans HW.out (World.ownsRow.lt OD.out j hj).1) HS HB.out); have Y6 := Lib.hid (only_grown YD.out hg6 (fun j hj => Nat.le_trans HW.out (World.ownsRow.lt OD.out j hj).1)); have F6 : Hid (ws6.length = 5 ∧ cardsB ws6 = true) := Lib.hid (by rw [e6.out]; exact FC.out); clear ho6 hg6 hv6)
      | (go_at_call 57; refine (pickList_any s A6 c6 ws6 a L c zs _ O6.out.rd (fun x hx => by have := (O6.out.lo_le x hx).1; have := HW.out; omega) (by have := F6.out.1; omega) S6.out).mono ?_; rintro e w7 ⟨xs7, A7, c7, rfl, ho7, hs7, hy7, hp7⟩; have O7 := Lib.hid ho7; have S7 := Lib.hid hs7; have Y7 := Lib.hid (only_trans Y6.out hy7); have P7 := Lib.hid hp7; clear ho7 hs7 hy7 hp7))
    go_ret
    exact ⟨xs7, A7, c7, rfl, O7.out.less Y6.out.size, S7.out, Y7.out, by rw [P7.out.length_eq]; exact F6.out.1, perm_cards P7.out F6.out.2⟩
  · have HW : Hid (w0.heap.size ≤ w3.heap.size) := Lib.hid Y3.out.size
    have LW : Hid (w3.heap.size ≤ w4.heap.size) := Lib.hid LW4.out
    go_wp2_with (first
      | (go_at_call 75; refine (deal_perm s 5 (some ⟨w3.heap.size, 0, none⟩) 0 ([] : List Int) a L c zs _ (by omega) G4.out.rd (by simp) S4.out).mono ?_; rintro e wd ⟨ys, A5, c5, rfl, ho5, hs5, hy5, ⟨rs5, hp5⟩, hl5⟩; have FC := Lib.hid (five_cards (bs := ([] : List Int)) cards_nil (by simp) hp5 (by simpa using hl5)); have SD := Lib.hid hs5; have YD := Lib.hid (only_trans Y4.out hy5); have OD := Lib.hid (own_only G4.out hy5 (Nat.lt_of_lt_of_le HS HW.out)); have ZD := Lib.hid (Nat.le_trans LW.out hy5.size); have R5 := Lib.hid ho5.rd; have LY : Hid ((([] : List Int)).length + ys.length ≤ 4000000) := Lib.hid (by have := FC.out.1; rw [List.length_append] at this; omega); clear ho5 hs5 hy5 hp5 hl5)
      | (at_builtin; refine wpList_glue (.tmp 163) (.tmp 169) rfl rfl w3.heap.size (.slice (some ⟨w3.heap.size, 0, none⟩) (([] : List Int)).length 0) ([] : List Int) ys A5 c5 rfl OD.out rfl R5.out LY.out ZD.out ?_; intro A6 c6 ws6 w6 e6 ho6 hg6 hv6; have O6 := Lib.hid ho6; have S6 := Lib.hid (src_grown SD.out hg6 (fun j hj => Nat.le_trans HW.out (World.ownsRow.lt OD.out j hj).1) HS HB.out); have Y6 := Lib.hid (only_grown YD.out hg6 (fun j hj => Nat.le_trans HW.out (World.ownsRow.lt OD.out j hj).1)); have F6 : Hid (ws6.length = 5 ∧ cardsB ws6 = true) := Lib.hid (by rw [e6.out]; exact FC.out); clear ho6 hg6 hv6)
      | (go_at_call 57; refine (pickList_any s A6 c6 ws6 a L c zs _ O6.out.rd (fun x hx => by have := (O6.out.lo_le x hx).1; have := HW.out; omega) (by have := F6.out.1; omega) S6.out).mono ?_; rintro e w7 ⟨xs7, A7, c7, rfl, ho7, hs7, hy7, hp7⟩; have O7 := Lib.hid ho7; have S7 := Lib.hid hs7; have Y7 := Lib.hid (only_trans Y6.out hy7); have P7 := Lib.hid hp7; clear ho7 hs7 hy7 hp7))
    go_ret
    exact ⟨xs7, A7, c7, rfl, O7.out.less Y6.out.size, S7.out, Y7.out, by rw [P7.out.length_eq]; exact F6.out.1, perm_cards P7.out F6.out.2⟩
end Go.Proofs.YtjchjjnmahddiaaDoor
