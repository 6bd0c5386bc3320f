/-
  Lists that the laws of chapters 4 and 5 draw: five cards, rarely another list; five to eight cards, rarely another list.
-/
import Derived.Test.YtjchjjnmahddiaaDoorDrawFive
namespace Go.Proofs.YtjchjjnmahddiaaDoor
open Go.RowKit
set_option linter.unusedVariables false

/-- A drawn list of at most N numbers. -/
def SomeD (N : Nat) (w : World) (s : Nat) (a : Option Addr) (L c : Nat) (zs : Nat → Int) (e : Ending) (w' : World) : Prop :=
  ∃ (xs : List Int) (A : Option Addr) (cc : Nat), e = .returned (.slice A xs.length cc) ∧ 4 ≤ xs.length ∧ xs.length ≤ N ∧ xs.length ≤ cc ∧ Rd w' A xs ∧ (∀ b, A = some b → w.heap.size ≤ b.block) ∧ Src w' s a L c zs ∧ Only s w w'
theorem own_set {w : World} {lo g c : Nat} {xs : List Int} (h : Own w lo (.slice (some ⟨g, 0, none⟩) xs.length c) xs) (i : Nat) (x : Int) :
    Own (w.setCell ⟨g, i, none⟩ (.int .i64 x)) lo (.slice (some ⟨g, 0, none⟩) (xs.set i x).length c) (xs.set i x) ∧ w.grownBy (w.setCell ⟨g, i, none⟩ (.int .i64 x)) (some g) := by
  unfold Own at h ⊢
  have h2 := h.stored i (.int .i64 x)
  rw [ints_set] at h2
  rw [List.length_set]
  exact h2
theorem rd_onlyM {w w' : World} {s lo : Nat} {A : Option Addr} {xs : List Int} (h : Rd w A xs) (ho : Only s w w') (hs : s < lo) (hA : ∀ b, A = some b → lo ≤ b.block) : Rd w' A xs :=
  Rd.grown (row := some s) h ho (fun a e e' => by have := hA a e; injection e' with e'; omega)
theorem pick3_row (w : World) (s : Nat) (x : Int) (a : Option Addr) (L c : Nat) (zs : Nat → Int) (h : Src w s a L c zs) (x0 : 0 ≤ x) (x1 : x < 52) :
    Calls Tryd.prog 76 #[.pointer (some ⟨s, 0, none⟩), .slice (some ⟨w.heap.size, 0, none⟩) 3 3] (w.alloc (.cells #[.int .i64 (-1), .int .i64 x, .int .i64 52] 2)) (Drew (-1) 52 (w.alloc (.cells #[.int .i64 (-1), .int .i64 x, .int .i64 52] 2)) s a L c zs) := by
  have hs := src_lt h
  refine pick_any s w.heap.size 3 (rowOf [-1, x, 52]) (-1) 52 a L c zs _ (by omega) (by omega) (fun i hi => row_new [-1, x, 52] 2 w i hi) (fun i hi => ?_) (by omega) (src_alloc h _)
  match i, hi with
  | 0, _ => exact ⟨by show (-1 : Int) ≤ -1; omega, by show (-1 : Int) ≤ 52; omega⟩
  | 1, _ => exact ⟨by show (-1 : Int) ≤ x; omega, by show x ≤ 52; omega⟩
  | 2, _ => exact ⟨by show (-1 : Int) ≤ 52; omega, by show (52 : Int) ≤ 52; omega⟩
theorem more_cards {xs five ys rs : List Int} (hb : cardsB five = true) (hp : (ys ++ rs).Perm (othersN 52 five)) (hx : xs.Perm (five ++ ys)) : ∀ x ∈ xs, 0 ≤ x ∧ x < 52 := fun x hm => by
  rcases List.mem_append.1 (hx.mem_iff.1 hm) with h | h
  · exact ((cards_iff five).1 hb).1 x h
  · exact ((others_facts five).2.1 x (hp.mem_iff.1 (List.mem_append.2 (.inl h)))).1
set_option maxRecDepth 100000 in
set_option maxHeartbeats 4000000 in
theorem drawMore_any (s : Nat) (a : Option Addr) (L c : Nat) (zs : Nat → Int) (w : World) (h : Src w s a L c zs) :
    Calls Tryd.prog 56 #[.pointer (some ⟨s, 0, none⟩)] w (SomeD 10 w s a L c zs) := by
  have HS := src_lt h
  have H := Lib.hid h
  have HB := Lib.hid (codeB_of h)
  clear h
  obtain ⟨w0, rfl⟩ : ∃ w0 : World, w0 = w := ⟨w, rfl⟩
  go_enter Tryd.func56, Tryd.ntmps56
  go_wp2_with (go_at_call 74; refine (drawFive_any s a L c zs _ H.out).mono ?_; rintro e w1 ⟨xs, A1, c1, rfl, ho1, hs1, hy1, hl1, hb1⟩; obtain ⟨x0, x1, x2, x3, x4, rfl⟩ := list_five xs hl1; obtain ⟨g, rfl, hg0, hg1, hcap, _⟩ := own_some ho1 (by simp); have O1 := Lib.hid ho1; have S1 := Lib.hid hs1; have Y1 := Lib.hid hy1; have CB := Lib.hid hb1; clear ho1 hs1 hy1 hl1 hb1)
  have hcap' : 5 ≤ c1 := hcap
  have HG : Hid (w0.heap.size ≤ g) := Lib.hid hg0
  clear hcap hg0 hg1
  go_wp2_with (first
    | (go_at_call 40; ((with_reducible refine (next_any s 4 a L c zs _ (by decide) (by decide) S1.out).mono ?_); rintro e w2 ⟨x, rfl, v0, v1, hs2, ho2⟩; obtain ⟨n, rfl⟩ := Int.eq_ofNat_of_zero_le v0; have S2 := Lib.hid hs2; have Y2 := Lib.hid (only_trans Y1.out ho2); have O2 := Lib.hid (own_only O1.out ho2 HS); clear hs2 ho2 v0))
    | (go_at_call 75; refine (deal_perm s n (some ⟨g, 0, none⟩) c1 [x0, x1, x2, x3, x4] a L c zs _ (by omega) O2.out.rd (by simp) S2.out).mono ?_; rintro e w3 ⟨ys, A3, c3, rfl, ho3, hs3, hy3, ⟨rs3, hp3⟩, hl3⟩; have S3 := Lib.hid hs3; have Y3 := Lib.hid (only_trans Y2.out hy3); have O3 := Lib.hid (own_only O2.out hy3 HS); have R3 := Lib.hid ho3.rd; have LY : Hid (ys.length ≤ 3) := Lib.hid (by omega); have LL : Hid (([x0, x1, x2, x3, x4] : List Int).length + ys.length ≤ 4000000) := Lib.hid (by have := LY.out; simp; omega); have MC := Lib.hid (fun (xs : List Int) (hx : xs.Perm ([x0, x1, x2, x3, x4] ++ ys)) => more_cards CB.out hp3 hx); clear ho3 hs3 hy3 hp3 hl3)
    | (at_builtin; refine wpList_glue (.tmp 8) (.tmp 13) rfl rfl w0.heap.size (.slice (some ⟨g, 0, none⟩) ([x0, x1, x2, x3, x4] : List Int).length c1) [x0, x1, x2, x3, x4] ys A3 c3 rfl O3.out rfl R3.out LL.out Y3.out.size ?_; intro A4 c4 ws4 w4 e4 ho4 hg4 hv4; have O4 := Lib.hid ho4; have hr4 : ∀ j, (Value.slice (some ⟨g, 0, none⟩) ([x0, x1, x2, x3, x4] : List Int).length c1).ownBlock = some j → w0.heap.size ≤ j := (fun j e => by obtain rfl := Option.some.inj e; exact HG.out); have S4 := Lib.hid (src_grown S3.out hg4 hr4 HS HB.out); have Y4 := Lib.hid (only_grown Y3.out hg4 hr4); have L4 : Hid (5 ≤ ws4.length ∧ ws4.length ≤ 8) := Lib.hid (by have := LY.out; rw [e4.out, List.length_append]; simp; omega); have E4 := Lib.hid e4.out; clear ho4 hg4 hv4 hr4 e4)
    | (go_at_call 57; refine (pickList_any s A4 c4 ws4 a L c zs _ O4.out.rd (fun x hx => by have := (O4.out.lo_le x hx).1; omega) (by have := L4.out; omega) S4.out).mono ?_; rintro e w5 ⟨xs, A5, c5, rfl, ho5, hs5, hy5, hp5⟩; have L5 : Hid (5 ≤ xs.length ∧ xs.length ≤ 8) := Lib.hid (by rw [hp5.length_eq]; exact L4.out); have MX := Lib.hid (MC.out xs (by rw [← E4.out]; exact hp5)); obtain ⟨g5, rfl, hg0, hg1, hcap5, _⟩ := own_some ho5 (by have := L5.out; omega); have O5 := Lib.hid (Own.less ho5 Y4.out.size); have S5 := Lib.hid hs5; have Y5 := Lib.hid (only_trans Y4.out hy5); clear ho5 hs5 hy5 hp5 hg0 hg1))
  have hl5 := L5.out
  have HG5 : Hid (w0.heap.size ≤ g5) := Lib.hid (O5.out.lo_le ⟨g5, 0, none⟩ rfl).1
  have bx1 := MX.out _ (nth_mem xs 1 (by omega))
  have BX1 := Lib.hid bx1
  have hi1 : (1 : Int) < (xs.length : Int) := by omega
  have hi0 : (0 : Int) < (xs.length : Int) := by omega
  have hi4 : (4 : Int) ≤ (c5 : Int) := by omega
  go_wp2_with (first
    | (go_at_call 40; ((with_reducible refine (next_any s 24 a L c zs _ (by decide) (by decide) S5.out).mono ?_); rintro e w6 ⟨V, rfl, v0, v2, hs6, ho6⟩; have S6 := Lib.hid hs6; have Y6 := Lib.hid (only_trans Y5.out ho6); have O6 := Lib.hid (own_only O5.out ho6 HS); have d1 := own_cell O6.out 1 (by omega); obtain ⟨y, ey⟩ : ∃ y, y = nth xs 1 := ⟨_, rfl⟩; rw [← ey] at d1 BX1; have EY := Lib.hid ey; clear hs6 ho6 ey bx1))
    | (go_at_call 75; refine (deal_perm s 2 (some ⟨g5, 0, none⟩) c5 xs a L c zs _ (by omega) O6.out.rd (by omega) S6.out).mono ?_; rintro e w7 ⟨us, A7, c7, rfl, ho7, hs7, hy7, hp7, hl7⟩; have S7 := Lib.hid hs7; have Y7 := Lib.hid (only_trans Y6.out hy7); have O7 := Lib.hid (own_only O6.out hy7 HS); have R7 := Lib.hid ho7.rd; have LU : Hid (us.length ≤ 2) := Lib.hid (by omega); have LM : Hid (xs.length + us.length ≤ 4000000) := Lib.hid (by have := LU.out; omega); clear ho7 hs7 hy7 hp7 hl7)
    | (at_builtin; refine wpList_glue (.tmp 20) (.tmp 23) rfl rfl w0.heap.size (.slice (some ⟨g5, 0, none⟩) xs.length c5) xs us A7 c7 rfl O7.out rfl R7.out LM.out Y7.out.size ?_; intro A8 c8 ws8 w8 e8 ho8 hg8 hv8; have O8 := Lib.hid ho8; have hr8 : ∀ j, (Value.slice (some ⟨g5, 0, none⟩) xs.length c5).ownBlock = some j → w0.heap.size ≤ j := (fun j e => by obtain rfl := Option.some.inj e; exact HG5.out); have S8 := Lib.hid (src_grown S7.out hg8 hr8 HS HB.out); have Y8 := Lib.hid (only_grown Y7.out hg8 hr8); have L8 : Hid (4 ≤ ws8.length ∧ ws8.length ≤ 10) := Lib.hid (by have := LU.out; rw [e8.out, List.length_append]; omega); clear ho8 hg8 hv8 hr8 e8)
    | (go_at_call 76; refine (pick3_row _ _ _ _ _ _ _ S6.out BX1.out.1 BX1.out.2).mono ?_; rintro e w9 ⟨z, rfl, z0, z1, hs9, hy9⟩; have S9 := Lib.hid hs9; have Y9 := Lib.hid (only_trans (only_alloc Y6.out _) hy9); have O9 := Lib.hid (own_only (O6.out.below (bl_alloc (bl_refl _) _)) hy9 HS); have d9 := own_cell O9.out 0 (by omega); have f9 := World.ownsRow.frozenAt O9.out 0; clear hs9 hy9))
  · go_ret
    exact ⟨ws8, A8, c8, rfl, L8.out.1, L8.out.2, own_cap O8.out, O8.out.rd, fun b e => (O8.out.lo_le b e).1, S8.out, Y8.out⟩
  · go_ret
    have e4 : (xs.take 4).length = 4 := by rw [List.length_take]; omega
    exact ⟨xs.take 4, some ⟨g5, 0, none⟩, c5, by rw [e4]; rfl, by omega, by omega, by omega, rd_to O6.out.rd, fun b e => by obtain rfl := Option.some.inj e; exact HG5.out, S6.out, Y6.out⟩
  · go_ret
    obtain ⟨P1, P2⟩ := own_set O9.out 0 z
    have hr4 : ∀ j, some g5 = some j → w0.heap.size ≤ j := fun j e => by obtain rfl := Option.some.inj e; exact HG5.out
    exact ⟨xs.set 0 z, some ⟨g5, 0, none⟩, c5, by rw [List.length_set]; rfl, by rw [List.length_set]; omega, by rw [List.length_set]; omega, by rw [List.length_set]; exact hcap5, P1.rd, fun b e => by obtain rfl := Option.some.inj e; exact HG5.out, src_grown S9.out P2 hr4 HS HB.out, only_grown Y9.out P2 hr4⟩
  · go_ret
    exact ⟨xs, some ⟨g5, 0, none⟩, c5, rfl, by omega, by omega, hcap5, O6.out.rd, fun b e => by obtain rfl := Option.some.inj e; exact HG5.out, S6.out, Y6.out⟩
end Go.Proofs.YtjchjjnmahddiaaDoor
