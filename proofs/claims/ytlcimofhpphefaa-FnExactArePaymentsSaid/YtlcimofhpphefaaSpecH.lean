/-
  Put together: StrSpec, RkFacts, Others, KickSpec, ManyAt
-/
import Derived.Test.YtlcimofhpphefaaBase
import Derived.Test.YtlcimofhpphefaaHigh
import Derived.Maps.AppendAt

/-! The model's straights and digits. -/
namespace Go.Proofs.Ytlcimofhpphefaa
open Go.RowKit
set_option linter.unusedVariables false

/-- The ranks of cards, and their counts. -/
def rk (xs : List Int) : List Int := xs.map (fun x => x / 4)
def occL (rs : List Int) : List Int := (List.range 13).map (fun j : Nat => (occ rs (j : Int) : Int))
theorem occL_length (rs : List Int) : (occL rs).length = 13 := by simp [occL]
theorem occL_nth (rs : List Int) (j : Nat) (h : j < 13) : nth (occL rs) j = (occ rs (j : Int) : Int) := by
  rw [nth_eq _ _ (by rw [occL_length]; exact h)]; simp [occL]
theorem occ_rk (xs : List Int) (r : Int) : occ (rk xs) r = cnt (fun x => x / 4 == r) xs := by
  unfold occ cnt rk
  rw [List.filter_map, List.length_map]
  rfl
theorem cntL_occ (xs : List Int) : cntL 13 (fun x => x / 4) xs = occL (rk xs) := by
  unfold cntL occL
  simp only [occ_rk]
theorem occL_at {w : World} {A : Option Addr} {rs : List Int} (h : Rd w A (occL rs)) : ∃ b off, A = some ⟨b, off, none⟩ ∧ ∀ j : Nat, j < 13 → w.cell? ⟨b, off + j, none⟩ = some (.int .i64 (occ rs (j : Int) : Int)) := by
  obtain ⟨b, off, e, hc⟩ := h (by rw [occL_length]; omega)
  exact ⟨b, off, e, fun j hj => by rw [hc j (by rw [occL_length]; exact hj), occL_nth rs j hj]⟩

/-- The first of five numbers that is not 1. -/
theorem ones_or (x0 x1 x2 x3 x4 : Int) : (x0 = 1 ∧ x1 = 1 ∧ x2 = 1 ∧ x3 = 1 ∧ x4 = 1) ∨ ((x0 == 1) = false) ∨ (x0 = 1 ∧ (x1 == 1) = false) ∨ (x0 = 1 ∧ x1 = 1 ∧ (x2 == 1) = false) ∨ (x0 = 1 ∧ x1 = 1 ∧ x2 = 1 ∧ (x3 == 1) = false) ∨ (x0 = 1 ∧ x1 = 1 ∧ x2 = 1 ∧ x3 = 1 ∧ (x4 == 1) = false) := by
  simp only [beq_eq_false_iff_ne]; omega
theorem hit_yes {rs : List Int} {u : Nat} (h : (occ rs ((u + 4 : Nat) : Int) : Int) = 1 ∧ (occ rs ((u + 3 : Nat) : Int) : Int) = 1 ∧ (occ rs ((u + 2 : Nat) : Int) : Int) = 1 ∧ (occ rs ((u + 1 : Nat) : Int) : Int) = 1 ∧ (occ rs ((u : Nat) : Int) : Int) = 1) : strFrom rs (u + 1) = (u : Int) + 4 := by
  unfold strFrom
  rw [if_pos]
  unfold hit
  rw [decide_eq_true_eq]
  obtain ⟨h0, h1, h2, h3, h4⟩ := h
  have e1 : (u : Int) + 4 - 1 = ((u + 3 : Nat) : Int) := by omega
  have e2 : (u : Int) + 4 - 2 = ((u + 2 : Nat) : Int) := by omega
  have e3 : (u : Int) + 4 - 3 = ((u + 1 : Nat) : Int) := by omega
  have e4 : (u : Int) + 4 - 4 = ((u : Nat) : Int) := by omega
  have e0 : (u : Int) + 4 = ((u + 4 : Nat) : Int) := by omega
  rw [e1, e2, e3, e4, e0]
  omega
theorem hit_no {rs : List Int} {u : Nat} (h : ¬ ((occ rs ((u + 4 : Nat) : Int) : Int) = 1 ∧ (occ rs ((u + 3 : Nat) : Int) : Int) = 1 ∧ (occ rs ((u + 2 : Nat) : Int) : Int) = 1 ∧ (occ rs ((u + 1 : Nat) : Int) : Int) = 1 ∧ (occ rs ((u : Nat) : Int) : Int) = 1)) : strFrom rs (u + 1) = strFrom rs u := by
  rw [strFrom, if_neg]
  unfold hit
  rw [decide_eq_true_eq]
  have e1 : (u : Int) + 4 - 1 = ((u + 3 : Nat) : Int) := by omega
  have e2 : (u : Int) + 4 - 2 = ((u + 2 : Nat) : Int) := by omega
  have e3 : (u : Int) + 4 - 3 = ((u + 1 : Nat) : Int) := by omega
  have e4 : (u : Int) + 4 - 4 = ((u : Nat) : Int) := by omega
  have e0 : (u : Int) + 4 = ((u + 4 : Nat) : Int) := by omega
  rw [e1, e2, e3, e4, e0]
  omega
theorem str_zero_yes {rs : List Int} (h : (occ rs ((0 : Nat) : Int) : Int) = 1 ∧ (occ rs ((1 : Nat) : Int) : Int) = 1 ∧ (occ rs ((2 : Nat) : Int) : Int) = 1 ∧ (occ rs ((3 : Nat) : Int) : Int) = 1 ∧ (occ rs ((12 : Nat) : Int) : Int) = 1) : strFrom rs 0 = 3 := by
  unfold strFrom wheel
  rw [if_pos]
  rw [decide_eq_true_eq]
  obtain ⟨h0, h1, h2, h3, h4⟩ := h
  exact ⟨by exact_mod_cast h0, by exact_mod_cast h1, by exact_mod_cast h2, by exact_mod_cast h3, by exact_mod_cast h4⟩
theorem str_zero_no {rs : List Int} (h : ¬ ((occ rs ((0 : Nat) : Int) : Int) = 1 ∧ (occ rs ((1 : Nat) : Int) : Int) = 1 ∧ (occ rs ((2 : Nat) : Int) : Int) = 1 ∧ (occ rs ((3 : Nat) : Int) : Int) = 1 ∧ (occ rs ((12 : Nat) : Int) : Int) = 1)) : strFrom rs 0 = -1 := by
  unfold strFrom wheel
  rw [if_neg]
  rw [decide_eq_true_eq]
  rintro ⟨h0, h1, h2, h3, h4⟩
  exact h ⟨by exact_mod_cast h0, by exact_mod_cast h1, by exact_mod_cast h2, by exact_mod_cast h3, by exact_mod_cast h4⟩

end Go.Proofs.Ytlcimofhpphefaa

/-! Ranks of cards: below 13, each at most four times. -/
namespace Go.Proofs.Ytlcimofhpphefaa
set_option linter.unusedVariables false

/-- Ranks of five cards: below 13, each at most four times. -/
theorem rk_facts (xs : List Int) (hb : cardsB xs = true) : ranksOk (rk xs) ∧ ∀ r, occ (rk xs) r ≤ 4 := by
  have hc := (cards_iff xs).1 hb
  constructor
  · intro r hr
    unfold rk at hr
    obtain ⟨x, hx, rfl⟩ := List.mem_map.1 hr
    have := hc.1 x hx
    omega
  · intro r
    rw [occ_rk]
    by_cases h : 0 ≤ r ∧ r < 13
    · obtain ⟨j, rfl⟩ := Int.eq_ofNat_of_zero_le h.1
      unfold cnt
      have hs : (xs.filter (fun x => x / 4 == (j : Int))).Nodup := hc.2.sublist List.filter_sublist
      have hsub : ∀ x ∈ xs.filter (fun x => x / 4 == (j : Int)), x ∈ [4 * (j : Int), 4 * (j : Int) + 1, 4 * (j : Int) + 2, 4 * (j : Int) + 3] := by
        intro x hx
        have := (List.mem_filter.1 hx).2
        simp at this
        simp
        omega
      have := List.Nodup.length_le_of_subset hs hsub
      simpa using this
    · have : cnt (fun x => x / 4 == r) xs = 0 := by
        unfold cnt
        rw [List.length_eq_zero_iff, List.filter_eq_nil_iff]
        intro x hx hq
        have h1 := hc.1 x hx
        simp at hq
        omega
      omega
end Go.Proofs.Ytlcimofhpphefaa

/-! l01Has, l02Others: the cards that are not in a list, in order; and an own row that is appended to. -/
namespace Go.Proofs.Ytlcimofhpphefaa
open Go.RowKit
set_option linter.unusedVariables false

/-- Whether a list has a number. -/
def hasB (xs : List Int) (x : Int) : Bool := xs.contains x
theorem own_form {w : World} {lo : Nat} {v : Value} {xs : List Int} (h : Own w lo v xs) : ∃ A c, v = .slice A xs.length c ∧ Own w lo (.slice A xs.length c) xs := by
  have h' := h
  rcases h.2 with ⟨rfl, hn⟩ | ⟨g, cap, cur, rfl, _⟩
  · exact ⟨none, 0, by rw [hn], by rw [hn]; exact h'⟩
  · exact ⟨_, _, rfl, h'⟩
/-- A row of the call's own, and nothing that was there written. -/
def Grow (w : World) (ys : List Int) (v : Value) (wr : World) : Prop := Own wr w.heap.size v ys ∧ Below w.heap.size w wr
theorem grow_start (w : World) : Grow w [] (.slice (some ⟨w.heap.size, 0, none⟩) 0 0) (w.alloc (.cells #[] 2)) :=
  ⟨World.ownsRow_made w #[] 0 (Nat.le_refl _) (by unfold maxLen; omega) rfl, bl_alloc (bl_refl _) _⟩
theorem own_app {ys : List Int} {lo : Nat} {w1 : World} {v' : Value} {x : Int} (hown : w1.ownsRow lo 2 1 v' (ys.length + 1) (ints ys ++ [.int .i64 x])) : Own w1 lo v' (ys ++ [x]) := by
  unfold Own
  rw [ints_snoc, List.length_append]
  exact hown
theorem grow_app {ys : List Int} {w wr w1 : World} {v v' : Value} {o : Obj} {x : Int} (h : Grow w ys v wr) (hown : w1.ownsRow w.heap.size 2 1 v' (ys.length + 1) (ints ys ++ [.int .i64 x])) (hgrow : (wr.alloc o).grownBy w1 v.ownBlock) : Grow w (ys ++ [x]) v' w1 :=
  ⟨own_app hown, (bl_alloc h.2 o).grown hgrow (by simp; exact Nat.le_succ_of_le h.2.size) (fun j hj => (World.ownsRow.lt h.1 j hj).1)⟩

set_option maxRecDepth 100000 in
set_option maxHeartbeats 1000000 in
theorem has_any (A : Option Addr) (c : Nat) (xs : List Int) (x : Int) (w : World) (hr : Rd w A xs) (hn : xs.length ≤ 4000000) :
    Calls Try.prog 55 #[.slice A xs.length c, .int .i64 x] w (Same (.bool (hasB xs x)) w) := by
  have HR := Lib.hid hr
  clear hr
  go_enter Try.func55, Try.ntmps55
  go_wp2_with fail
  go_loop [5] (fun i => ∃ k : Nat, k ≤ xs.length ∧ i = .int .i64 k ∧ Hid (hasB (xs.take k) x = false)) (fun i => xs.length - (intOf i).toNat)
  case atStart => exact ⟨0, Nat.zero_le _, rfl, Lib.hid (by unfold hasB; simp)⟩
  case round =>
    obtain ⟨k, hk, rfl, hs⟩ := hrel
    by_cases hlt : k < xs.length
    · obtain ⟨b, off, rfl, hc⟩ := HR.out.at_ (bl_refl _) k hlt
      have hlt' : (k : Int) < xs.length := by omega
      have HC := Lib.hid (take_nth xs k hlt)
      have HM := Lib.hid (nth_mem xs k hlt)
      obtain ⟨y, ey⟩ : ∃ y, y = nth xs k := ⟨_, rfl⟩
      rw [← ey] at hc HC HM
      clear ey
      by_cases hxy : y = x
      · subst hxy
        have HN : Hid (hasB xs y = true) := Lib.hid (by unfold hasB; simpa using HM.out)
        go_wp2_with fail
        go_ret
        exact ⟨ret_bool HN.out.symm, rfl⟩
      · have q : (y == x) = false := by simpa using hxy
        have HN : Hid (hasB (xs.take (k + 1)) x = false) := Lib.hid (by
          have h1 := hs.out
          rw [HC.out]
          unfold hasB at h1 ⊢
          simp at h1 ⊢
          exact ⟨h1, fun e => hxy e.symm⟩)
        clear hxy
        go_wp2_with fail
        go_round
        case rel => exact ⟨k + 1, by omega, by go_num, HN⟩
        case measure => simp [intOf]; omega
    · obtain rfl : k = xs.length := by omega
      have HF := hs.out
      rw [take_len] at HF
      have HN := Lib.hid HF
      clear HF
      go_wp2_with fail
      go_ret
      exact ⟨ret_bool HN.out.symm, rfl⟩

/-- The first n cards that are not in a list. -/
def othersN (n : Nat) (xs : List Int) : List Int := ((List.range n).map (fun i : Nat => (i : Int))).filter (fun c => !hasB xs c)
theorem othersN_zero (xs : List Int) : othersN 0 xs = [] := rfl
theorem othersN_in (n : Nat) (xs : List Int) (h : hasB xs (n : Int) = true) : othersN (n + 1) xs = othersN n xs := by
  unfold othersN
  rw [List.range_succ, List.map_append, List.filter_append]
  have : (List.map (fun i : Nat => (i : Int)) [n]).filter (fun c => !hasB xs c) = [] := by
    show [(n : Int)].filter _ = []
    rw [List.filter_cons, h]; rfl
  rw [this, List.append_nil]
theorem othersN_out (n : Nat) (xs : List Int) (h : hasB xs (n : Int) = false) : othersN (n + 1) xs = othersN n xs ++ [(n : Int)] := by
  unfold othersN
  rw [List.range_succ, List.map_append, List.filter_append]
  have : (List.map (fun i : Nat => (i : Int)) [n]).filter (fun c => !hasB xs c) = [(n : Int)] := by
    show [(n : Int)].filter _ = _
    rw [List.filter_cons, h]; rfl
  rw [this]
theorem othersN_len (n : Nat) (xs : List Int) : (othersN n xs).length ≤ n := by
  unfold othersN
  refine Nat.le_trans (List.length_filter_le ..) ?_
  simp

theorem othersN_rng (n : Nat) (xs : List Int) : ∀ x ∈ othersN n xs, 0 ≤ x ∧ x < n := fun x hx => by
  obtain ⟨h, _⟩ := List.mem_filter.1 hx
  obtain ⟨i, hi, rfl⟩ := List.mem_map.1 h
  have : i < n := by simpa using hi
  omega
end Go.Proofs.Ytlcimofhpphefaa

/-! The model's kickers, and numbers to the base 13. -/
namespace Go.Proofs.Ytlcimofhpphefaa
open Go.RowKit
set_option linter.unusedVariables false

/-! Numbers to the base 13. -/
def digs (L : List Int) : Int := L.foldl (fun n d => 13 * n + d) 0
theorem digs_snoc (L : List Int) (x : Int) : digs (L ++ [x]) = 13 * digs L + x := by unfold digs; rw [List.foldl_append]; rfl
theorem digs_bd (L : List Int) (h : ranksOk L) : ∀ k, k ≤ L.length → 0 ≤ digs (L.take k) ∧ digs (L.take k) < ((13 ^ k : Nat) : Int)
  | 0, _ => by rw [List.take_zero]; decide
  | k + 1, hk => by
    have ih := digs_bd L h k (by omega)
    have hx := h L[k] (List.getElem_mem _)
    rw [take_snocI L k (by omega), digs_snoc, Nat.pow_succ]
    generalize digs (L.take k) = q at *
    generalize L[k] = x at *
    generalize (13 ^ k : Nat) = p at *
    have : ((p * 13 : Nat) : Int) = (p : Int) * 13 := by rw [Int.natCast_mul]; rfl
    rw [this]
    omega
theorem digs_le (L : List Int) (h : ranksOk L) (hl : L.length = 5) (k : Nat) (hk : k ≤ 5) : 0 ≤ digs (L.take k) ∧ digs (L.take k) ≤ 371292 := by
  have := digs_bd L h k (by omega)
  have h2 : 13 ^ k ≤ 13 ^ 5 := Nat.pow_le_pow_right (by omega) hk
  have e : (13 ^ 5 : Nat) = 371293 := by decide
  omega
theorem ranks_nth (L : List Int) (h : ranksOk L) (k : Nat) (hk : k < L.length) : 0 ≤ nth L k ∧ nth L k < 13 := h _ (nth_mem L k hk)

/-! The kickers. -/
theorem runK_succ (rs : List Int) (m : Nat) (n r : Nat) (h : steps[m]? = some (n, r)) : runK rs (m + 1) = runK rs m ++ piece rs (n, r) := by
  unfold runK
  rw [List.take_add_one, h, List.flatMap_append]
  simp
theorem steps_at : ∀ j : Fin 4, ∀ q : Fin 13, steps[(4 - (j.val + 1)) * 13 + (13 - (q.val + 1))]? = some (j.val + 1, q.val) := by decide
theorem runK_step (rs : List Int) (j q : Nat) (hj : j < 4) (hq : q < 13) : runK rs ((4 - (j + 1)) * 13 + (13 - q)) = runK rs ((4 - (j + 1)) * 13 + (13 - (q + 1))) ++ piece rs (j + 1, q) := by
  have e : (4 - (j + 1)) * 13 + (13 - q) = (4 - (j + 1)) * 13 + (13 - (q + 1)) + 1 := by omega
  rw [e]
  exact runK_succ rs _ (j + 1) q (steps_at ⟨j, hj⟩ ⟨q, hq⟩)
theorem piece_len (rs : List Int) (p : Nat × Nat) : (piece rs p).length ≤ p.1 := by
  unfold piece; split <;> simp
theorem steps_le : ∀ p ∈ steps, p.1 ≤ 4 := by decide
theorem runK_len (rs : List Int) (m : Nat) : (runK rs m).length ≤ 4 * 52 := by
  unfold runK
  have : ∀ l : List (Nat × Nat), (∀ p ∈ l, p.1 ≤ 4) → (l.flatMap (piece rs)).length ≤ 4 * l.length := by
    intro l
    induction l with
    | nil => intro _; simp
    | cons p l ih =>
      intro h
      rw [List.flatMap_cons, List.length_append, List.length_cons]
      have h1 := piece_len rs p
      have h2 := h p (List.mem_cons_self ..)
      have h3 := ih (fun q hq => h q (List.mem_cons_of_mem _ hq))
      omega
  have h1 := this (steps.take m) (fun p hp => steps_le p (List.mem_of_mem_take hp))
  have h2 : (steps.take m).length ≤ 52 := by rw [List.length_take, steps_len]; omega
  omega
theorem piece_yes (rs : List Int) (n r : Nat) (h : occ rs (r : Int) = n) : piece rs (n, r) = List.replicate n (r : Int) := by unfold piece; rw [if_pos h]
theorem piece_no (rs : List Int) (n r : Nat) (h : ¬ occ rs (r : Int) = n) : piece rs (n, r) = [] := by unfold piece; rw [if_neg h]
theorem rep_snoc (k : Nat) (x : Int) : List.replicate (k + 1) x = List.replicate k x ++ [x] := List.replicate_succ'

/-- What the counting of ranks leaves. -/
def Cnt13 (rs : List Int) (w : World) (e : Ending) (w' : World) : Prop := ∃ A c, e = .returned (.slice A 13 c) ∧ Rd w' A (occL rs) ∧ Below w.heap.size w w'
theorem low_made (w : World) : NewL [3, 2, 1, 0, 12] w (.returned (.slice (some ⟨w.heap.size, 0, none⟩) 5 5)) (w.alloc (.cells #[.int .i64 3, .int .i64 2, .int .i64 1, .int .i64 0, .int .i64 12] 2)) :=
  ⟨some ⟨w.heap.size, 0, none⟩, 5, rfl, World.ownsRow_lit w #[.int .i64 3, .int .i64 2, .int .i64 1, .int .i64 0, .int .i64 12] 5 (Nat.le_refl _) (by unfold maxLen; omega) rfl, bl_alloc (bl_refl _) _⟩
theorem newL_trans {xs : List Int} {w w1 : World} {e : Ending} {w' : World} (hb : Below w.heap.size w w1) (h : NewL xs w1 e w') : NewL xs w e w' := by
  obtain ⟨A, c, he, ho, hb'⟩ := h
  exact ⟨A, c, he, ho.less hb.size, bl_trans hb hb'⟩

end Go.Proofs.Ytlcimofhpphefaa

/-! How often each number occurs among the counts of ranks. -/
namespace Go.Proofs.Ytlcimofhpphefaa
open Go.RowKit
set_option linter.unusedVariables false

/-- How often each number occurs among the counts of ranks. -/
theorem many_cnt (rs : List Int) (n : Nat) : cnt (fun x => (fun y : Int => y) x == (n : Int)) (occL rs) = many rs n := by
  unfold cnt many occL
  rw [List.filter_map, List.length_map]
  congr 1
  apply List.filter_congr
  intro r _
  simp only [Function.comp]
  rw [Bool.eq_iff_iff]
  simp only [beq_iff_eq]
  omega
theorem occL_bd (rs : List Int) (h4 : ∀ r, occ rs r ≤ 4) (k : Nat) (hk : k < 13) : ∃ y : Nat, nth (occL rs) k = (y : Int) ∧ y < 5 := by
  rw [occL_nth rs k hk]
  exact ⟨_, rfl, by have := h4 (k : Int); omega⟩
/-- The numbers of the model's category, as they lie in a row. -/
def ManyAt (w : World) (g : Nat) (rs : List Int) : Prop := w.cell? ⟨g, 2, none⟩ = some (.int .i64 (many rs 2 : Int)) ∧ w.cell? ⟨g, 3, none⟩ = some (.int .i64 (many rs 3 : Int)) ∧ w.cell? ⟨g, 4, none⟩ = some (.int .i64 (many rs 4 : Int))
theorem manyAt_of {w wr : World} {rs : List Int} (h : Counted w 5 (fun y => y) (occL rs) wr) : ManyAt wr w.heap.size rs := by
  refine ⟨?_, ?_, ?_⟩
  · rw [(counted_cell h 2 (by omega)).1, many_cnt]
  · rw [(counted_cell h 3 (by omega)).1, many_cnt]
  · rw [(counted_cell h 4 (by omega)).1, many_cnt]
theorem ManyAt.keep {w w' : World} {g : Nat} {rs : List Int} (h : ManyAt w g rs) (hb : Below w.heap.size w w') : ManyAt w' g rs :=
  ⟨(hb.cell (p := ⟨g, 2, none⟩) (World.block_lt_of_cell? _ _ h.1)).trans h.1, (hb.cell (p := ⟨g, 3, none⟩) (World.block_lt_of_cell? _ _ h.2.1)).trans h.2.1, (hb.cell (p := ⟨g, 4, none⟩) (World.block_lt_of_cell? _ _ h.2.2)).trans h.2.2⟩

end Go.Proofs.Ytlcimofhpphefaa
