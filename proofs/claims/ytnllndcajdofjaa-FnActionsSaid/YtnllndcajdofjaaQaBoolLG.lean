/-
  Put together, what this law needs of: BoolL, TabPure, BetPure, SpecH, Tab, SpecTab, ImplTab.
-/
import Derived.Test.YtnllndcajdofjaaQaAnySG
import Derived.Deep.Grids
import Derived.Maps.AppendAt
import Derived.Deep.Fields
import Derived.Lib.SmallJoins
import Derived.Deep.RegionWith
namespace Go.Proofs.Ytnllndcajdofjaa
open Go.ChangeShapes Go.WideShapes Go.ChangeAt Go.RowKit Go.Joins Go.Deep
set_option linter.unusedVariables false

/-- The i-th of a list of bools; false past its end. -/
def nthB (xs : List Bool) (i : Nat) : Bool := xs.getD i false
theorem nthB_eq (xs : List Bool) (i : Nat) (h : i < xs.length) : nthB xs i = xs[i] := by unfold nthB; rw [List.getD_eq_getElem?_getD, List.getElem?_eq_getElem h]; rfl
/-- Numbers as values. -/
def bools (xs : List Bool) : List Value := xs.map (Value.bool)
theorem bools_length (xs : List Bool) : (bools xs).length = xs.length := by simp [bools]
theorem bools_append (xs ys : List Bool) : bools (xs ++ ys) = bools xs ++ bools ys := by simp [bools]
theorem bools_get (xs : List Bool) (i : Nat) (h : i < xs.length) : (bools xs)[i]? = some (.bool (nthB xs i)) := by simp [bools, h, nthB_eq xs i h]
theorem bools_zeros (n : Nat) : List.replicate n (Value.bool false) = bools (List.replicate n false) := by simp [bools]

/-- A slice at A reads as the list. -/
def RdB (w : World) (A : Option Addr) (xs : List Bool) : Prop := 0 < xs.length → ∃ b off, A = some ⟨b, off, none⟩ ∧ ∀ i, i < xs.length → w.cell? ⟨b, off + i, none⟩ = some (.bool (nthB xs i))
theorem RdB.below {w w' : World} {A : Option Addr} {xs : List Bool} (h : RdB w A xs) (hb : Below w.heap.size w w') : RdB w' A xs := by
  intro h0
  obtain ⟨b, off, rfl, hc⟩ := h h0
  exact ⟨b, off, rfl, fun i hi => (hb.cell (p := ⟨b, off + i, none⟩) (World.block_lt_of_cell? w _ (hc i hi))).trans (hc i hi)⟩
theorem RdB.at_ {w w' : World} {A : Option Addr} {xs : List Bool} (h : RdB w A xs) (hb : Below w.heap.size w w') (k : Nat) (hk : k < xs.length) : ∃ b off, A = some ⟨b, off, none⟩ ∧ w'.cell? ⟨b, off + k, none⟩ = some (.bool (nthB xs k)) := by
  obtain ⟨b, off, rfl, hc⟩ := (h.below hb) (by omega)
  exact ⟨b, off, rfl, hc k hk⟩
/-- A row of numbers of the call's own: none of its blocks lies below lo. -/
def OwnB (w : World) (lo : Nat) (v : Value) (xs : List Bool) : Prop := w.ownsRow lo 4 1 v xs.length (bools xs)
theorem OwnB.lo_le {w : World} {lo : Nat} {A : Option Addr} {c n : Nat} {xs : List Bool} (h : OwnB w lo (.slice A n c) xs) (a : Addr) (e : A = some a) : lo ≤ a.block ∧ a.block < w.heap.size := by
  subst e
  exact World.ownsRow.lt h a.block rfl
theorem OwnB.below {w w' : World} {lo : Nat} {v : Value} {xs : List Bool} (h : OwnB w lo v xs) (hb : Below w.heap.size w w') : OwnB w' lo v xs := by
  refine ⟨h.1, ?_⟩
  rcases h.2 with hn | ⟨g, cap, cur, rfl, hl, hgg, rest⟩
  · exact .inl hn
  · exact .inr ⟨g, cap, cur, rfl, hl, (hb.block g (Array.getElem?_eq_some_iff.1 hgg).1).trans hgg, rest⟩
theorem OwnB.less {w : World} {lo lo' : Nat} {v : Value} {xs : List Bool} (h : OwnB w lo v xs) (hl : lo' ≤ lo) : OwnB w lo' v xs := by
  refine ⟨h.1, ?_⟩
  rcases h.2 with hn | ⟨g, cap, cur, rfl, hlo, rest⟩
  · exact .inl hn
  · exact .inr ⟨g, cap, cur, rfl, Nat.le_trans hl hlo, rest⟩
theorem OwnB.grown {w w' : World} {lo : Nat} {v : Value} {xs : List Bool} {row : Option Nat} (h : OwnB w lo v xs) (hg : w.grownBy w' row) (hne : v.ownBlock = none ∨ v.ownBlock ≠ row) : OwnB w' lo v xs := World.ownsRow.kept h hg hne
theorem OwnB.nil (w : World) (lo : Nat) : OwnB w lo (.slice none 0 0) [] := World.ownsRow_nil w lo 4 1
def NewLB (xs : List Bool) (w : World) (e : Ending) (w' : World) : Prop := ∃ A c, e = .returned (.slice A xs.length c) ∧ OwnB w' w.heap.size (.slice A xs.length c) xs ∧ Below w.heap.size w w'
set_option maxRecDepth 100000 in
theorem infoBoolL : (Try.prog.info? 4).map (fun i => (i.zero, i.size, i.bytes)) = some (some (.bool false), 1, 1) := by kernel_rfl
/-- A row of the call's own: its block does not lie below lo. -/
def RowB (w : World) (lo : Nat) (A : Option Addr) (xs : List Bool) : Prop :=
  (∀ a, A = some a → lo ≤ a.block ∧ a.block < w.heap.size) ∧
  (0 < xs.length → ∃ g off, A = some ⟨g, off, none⟩ ∧ ∀ i, i < xs.length → w.cell? ⟨g, off + i, none⟩ = some (.bool (nthB xs i)) ∧ w.frozen? ⟨g, off + i, none⟩ = false)
theorem RowB.rd {w : World} {lo : Nat} {A : Option Addr} {xs : List Bool} (h : RowB w lo A xs) : RdB w A xs := fun h0 => by
  obtain ⟨g, off, e, hc⟩ := h.2 h0
  exact ⟨g, off, e, fun i hi => (hc i hi).1⟩
theorem RowB.less {w : World} {lo lo' : Nat} {A : Option Addr} {xs : List Bool} (h : RowB w lo A xs) (hl : lo' ≤ lo) : RowB w lo' A xs :=
  ⟨fun a e => ⟨Nat.le_trans hl (h.1 a e).1, (h.1 a e).2⟩, h.2⟩
theorem RowB.grown {w w' : World} {lo : Nat} {A : Option Addr} {xs : List Bool} {row : Option Nat} (h : RowB w lo A xs) (hg : w.grownBy w' row) (hne : ∀ a, A = some a → some a.block ≠ row) : RowB w' lo A xs := by
  refine ⟨fun a e => ⟨(h.1 a e).1, Nat.lt_of_lt_of_le (h.1 a e).2 hg.size⟩, fun h0 => ?_⟩
  obtain ⟨g, off, rfl, hc⟩ := h.2 h0
  have hb := hg.block g (h.1 _ rfl).2 (hne _ rfl)
  exact ⟨g, off, rfl, fun i hi => ⟨(World.cell?_of_block (a := ⟨g, off + i, none⟩) hb).trans (hc i hi).1, (World.frozen?_of_block (a := ⟨g, off + i, none⟩) hb).trans (hc i hi).2⟩⟩
theorem RowB.below {w w' : World} {lo : Nat} {A : Option Addr} {xs : List Bool} (h : RowB w lo A xs) (hb : Below w.heap.size w w') : RowB w' lo A xs :=
  RowB.grown (row := none) h ⟨hb.os, hb.tape, hb.output, hb.size, fun k hk _ => hb.block k hk⟩ (fun _ _ => by simp)
theorem RowB.of_own {w : World} {lo : Nat} {A : Option Addr} {c : Nat} {xs : List Bool} (h : OwnB w lo (.slice A xs.length c) xs) : RowB w lo A xs := by
  refine ⟨fun a e => h.lo_le a e, fun h0 => ?_⟩
  rcases h.2 with ⟨_, hn⟩ | ⟨g, cap, cur, hv, _⟩
  · omega
  · injection hv with hA _ hc
    subst hA hc
    refine ⟨g, 0, rfl, fun i hi => ?_⟩
    rw [Nat.zero_add]
    exact ⟨by rw [World.ownsRow.cellAt h i (by omega), bools_get xs i hi], World.ownsRow.frozenAt h i⟩
theorem nthB_set_same (xs : List Bool) (k : Nat) (x : Bool) (h : k < xs.length) : nthB (xs.set k x) k = x := by
  rw [nthB_eq _ _ (by rw [List.length_set]; exact h)]; simp
theorem nthB_set_other (xs : List Bool) (k i : Nat) (x : Bool) (h : k ≠ i) : nthB (xs.set k x) i = nthB xs i := by
  unfold nthB; rw [List.getD_eq_getElem?_getD, List.getD_eq_getElem?_getD, List.getElem?_set_ne h]
end Go.Proofs.Ytnllndcajdofjaa

namespace Go.Proofs.Ytnllndcajdofjaa
open Go.RowKit
set_option linter.unusedVariables false

/-- A table is valid: stacks, button, small blind, big blind, ante, limit. -/
def tabB (xs : List Int) (b s g a l : Int) : Bool :=
  decide (2 ≤ xs.length ∧ xs.length ≤ 6 ∧ (∀ i, i < xs.length → 1 ≤ nth xs i ∧ nth xs i ≤ 100000) ∧ 0 ≤ b ∧ b < xs.length ∧ 1 ≤ g ∧ g ≤ 100000 ∧ 0 ≤ s ∧ s ≤ g ∧ 0 ≤ a ∧ a ≤ 100000 ∧ 0 ≤ l ∧ l ≤ 2)
theorem tab_iff {xs : List Int} {b s g a l : Int} : tabB xs b s g a l = true ↔ (2 ≤ xs.length ∧ xs.length ≤ 6 ∧ (∀ i, i < xs.length → 1 ≤ nth xs i ∧ nth xs i ≤ 100000) ∧ 0 ≤ b ∧ b < xs.length ∧ 1 ≤ g ∧ g ≤ 100000 ∧ 0 ≤ s ∧ s ≤ g ∧ 0 ≤ a ∧ a ≤ 100000 ∧ 0 ≤ l ∧ l ≤ 2) := by
  unfold tabB; exact decide_eq_true_iff
/-- The seat left of a seat. -/
def leftI (s n : Int) : Int := (s + 1) % n
theorem left_bd (s n : Int) (h : 0 < n) : 0 ≤ leftI s n ∧ leftI s n < n := ⟨Int.emod_nonneg _ (by omega), Int.emod_lt_of_pos _ h⟩
/-- The seats of the blinds. -/
def smallI (n b : Int) : Int := if n = 2 then b else leftI b n
def bigI (n b : Int) : Int := leftI (smallI n b) n
theorem small_bd (n b : Int) (h : 0 < n) (h0 : 0 ≤ b) (h1 : b < n) : 0 ≤ smallI n b ∧ smallI n b < n := by
  unfold smallI; split
  · exact ⟨h0, h1⟩
  · exact left_bd _ _ h
theorem big_bd (n b : Int) (h : 0 < n) : 0 ≤ bigI n b ∧ bigI n b < n := left_bd _ _ h
/-- The smaller one of two. -/
def minT (a b : Int) : Int := if b < a then b else a
theorem minT_le (a b : Int) : minT a b ≤ a ∧ minT a b ≤ b ∧ (minT a b = a ∨ minT a b = b) := by unfold minT; split <;> omega
theorem minT_lt (a b : Int) (h : b < a) : minT a b = b := if_pos h
theorem minT_ge (a b : Int) (h : ¬ b < a) : minT a b = a := if_neg h
/-- The antes. -/
def anteL (xs : List Int) (a : Int) : List Int := xs.map (minT a)
theorem anteL_len (xs : List Int) (a : Int) : (anteL xs a).length = xs.length := by simp [anteL]
theorem anteL_nth (xs : List Int) (a : Int) (i : Nat) (h : i < xs.length) : nth (anteL xs a) i = minT a (nth xs i) := by
  rw [nth_eq _ _ (by rw [anteL_len]; exact h), nth_eq _ _ h]; simp [anteL]
theorem anteL_take (xs : List Int) (a : Int) (k : Nat) (h : k < xs.length) : (anteL xs a).take (k + 1) = (anteL xs a).take k ++ [minT a (nth xs k)] := by
  rw [take_nth _ k (by rw [anteL_len]; exact h), anteL_nth xs a k h]
/-- What a seat bets as its blind. -/
def blindV (xs : List Int) (a v : Int) (i : Int) : Int := minT v (nth xs i.toNat - minT a (nth xs i.toNat))
/-- The blinds. -/
def blindL (xs : List Int) (b s g a : Int) : List Int :=
  ((List.replicate xs.length (0 : Int)).set (smallI xs.length b).toNat (blindV xs a s (smallI xs.length b))).set (bigI xs.length b).toNat (blindV xs a g (bigI xs.length b))
theorem blindL_len (xs : List Int) (b s g a : Int) : (blindL xs b s g a).length = xs.length := by simp [blindL]
/-- The seat that acts first in a street. -/
def firstI (n b street : Int) : Int := if street = 0 then leftI (bigI n b) n else leftI b n

/-- The k-th seat from a seat on. -/
def seatAt (n s : Int) (k : Nat) : Int := (s + k) % n
theorem seatAt_zero (n s : Int) (h0 : 0 ≤ s) (h : s < n) : seatAt n s 0 = s := by unfold seatAt; simpa using Int.emod_eq_of_lt h0 h
theorem seatAt_bd (n s : Int) (k : Nat) (h : 0 < n) : 0 ≤ seatAt n s k ∧ seatAt n s k < n := ⟨Int.emod_nonneg _ (by omega), Int.emod_lt_of_pos _ h⟩
theorem seatAt_next (n s : Int) (k : Nat) : leftI (seatAt n s k) n = seatAt n s (k + 1) := by
  unfold leftI seatAt
  rw [Int.emod_add_emod]
  congr 1
  omega
/-- The sum of the first k numbers. -/
def sumT (xs : List Int) : Nat → Int
  | 0 => 0
  | k + 1 => sumT xs k + nth xs k
theorem sumT_bd (xs : List Int) (h : ∀ i, i < xs.length → 0 ≤ nth xs i ∧ nth xs i ≤ 100000) : ∀ k, k ≤ xs.length → 0 ≤ sumT xs k ∧ sumT xs k ≤ k * 100000
  | 0, _ => ⟨Int.le_refl _, by simp [sumT]⟩
  | k + 1, hk => by
    have ih := sumT_bd xs h k (by omega)
    have hb := h k (by omega)
    unfold sumT
    omega
end Go.Proofs.Ytnllndcajdofjaa

namespace Go.Proofs.Ytnllndcajdofjaa
open Go.RowKit
set_option linter.unusedVariables false

/-- A betting round. -/
structure Bt where
  st : List Int
  bt : List Int
  pd : List Int
  fo : List Bool
  ac : List Bool
  tu : Int
  un : Int
  ra : Int
  li : Int
/-- Where its lists lie. -/
structure At5 where
  a1 : Option Addr
  a2 : Option Addr
  a3 : Option Addr
  a4 : Option Addr
  a5 : Option Addr
  c1 : Nat
  c2 : Nat
  c3 : Nat
  c4 : Nat
  c5 : Nat
abbrev btL (L : At5) (b : Bt) : List Value := [.slice L.a1 b.st.length L.c1, .slice L.a2 b.bt.length L.c2, .slice L.a3 b.pd.length L.c3, .slice L.a4 b.fo.length L.c4, .slice L.a5 b.ac.length L.c5, .int .i64 b.tu, .int .i64 b.un, .int .i64 b.ra, .int .i64 b.li]
def bV (L : At5) (b : Bt) : Value := .agg #[.slice L.a1 b.st.length L.c1, .slice L.a2 b.bt.length L.c2, .slice L.a3 b.pd.length L.c3, .slice L.a4 b.fo.length L.c4, .slice L.a5 b.ac.length L.c5, .int .i64 b.tu, .int .i64 b.un, .int .i64 b.ra, .int .i64 b.li]
/-- Its lists read so. -/
structure Rd5 (w : World) (L : At5) (b : Bt) : Prop where
  r1 : Rd w L.a1 b.st
  r2 : Rd w L.a2 b.bt
  r3 : Rd w L.a3 b.pd
  r4 : RdB w L.a4 b.fo
  r5 : RdB w L.a5 b.ac
theorem Rd5.below {w w' : World} {L : At5} {b : Bt} (h : Rd5 w L b) (hb : Below w.heap.size w w') : Rd5 w' L b := ⟨h.r1.below hb, h.r2.below hb, h.r3.below hb, h.r4.below hb, h.r5.below hb⟩

/-- All chips of a round. -/
def potI (b : Bt) : Int := sumT b.bt b.bt.length + sumT b.pd b.pd.length
def allI (b : Bt) : Int := sumT b.st b.st.length + potI b
def inC (xs : List Int) : Prop := ∀ i, i < xs.length → 0 ≤ nth xs i ∧ nth xs i ≤ 600000
/-- A valid round. -/
structure Ok (b : Bt) : Prop where
  n2 : 2 ≤ b.st.length
  n6 : b.st.length ≤ 6
  t0 : 0 ≤ b.tu
  t1 : b.tu < b.st.length
  l2 : b.bt.length = b.st.length
  l3 : b.pd.length = b.st.length
  l4 : b.fo.length = b.st.length
  l5 : b.ac.length = b.st.length
  live : ∃ i, i < b.st.length ∧ nthB b.fo i = false
  s1 : inC b.st
  s2 : inC b.bt
  s3 : inC b.pd
  sum : allI b ≤ 600000
  u0 : 1 ≤ b.un
  u1 : b.un ≤ 100000
  r0 : 0 ≤ b.ra
  r1 : b.ra ≤ 4
  i0 : 0 ≤ b.li
  i1 : b.li ≤ 2
noncomputable def okB (b : Bt) : Bool := @decide (Ok b) (Classical.propDecidable _)
theorem ok_yes {b : Bt} (h : Ok b) : okB b = true := by unfold okB; simpa using h
theorem ok_no {b : Bt} (h : ¬ Ok b) : okB b = false := by unfold okB; simpa using h
theorem ok_of {b : Bt} (h : okB b = true) : Ok b := by unfold okB at h; simpa using h
theorem sumT_bdC (xs : List Int) (h : inC xs) : ∀ k, k ≤ xs.length → 0 ≤ sumT xs k ∧ sumT xs k ≤ k * 600000
  | 0, _ => ⟨Int.le_refl _, by simp [sumT]⟩
  | k + 1, hk => by
    have ih := sumT_bdC xs h k (by omega)
    have hb := h k (by omega)
    unfold sumT
    omega
theorem sumT_mono (xs : List Int) (h : inC xs) : ∀ k j, j ≤ k → k ≤ xs.length → sumT xs j ≤ sumT xs k
  | 0, j, hj, _ => by obtain rfl : j = 0 := by omega
                      exact Int.le_refl _
  | k + 1, j, hj, hk => by
    by_cases e : j = k + 1
    · subst e; exact Int.le_refl _
    · have h1 := sumT_mono xs h k j (by omega) (by omega)
      have hb := h k (by omega)
      have e1 : sumT xs (k + 1) = sumT xs k + nth xs k := rfl
      omega
theorem nth_le_sum (xs : List Int) (h : inC xs) (i : Nat) (hi : i < xs.length) : nth xs i ≤ sumT xs xs.length := by
  have h1 := sumT_mono xs h xs.length (i + 1) (by omega) (by omega)
  have h2 := sumT_bdC xs h i (by omega)
  have e1 : sumT xs (i + 1) = sumT xs i + nth xs i := rfl
  omega

/-- A seat can act. -/
def canB (b : Bt) (i : Nat) : Bool := !nthB b.fo i && decide (0 < nth b.st i)
/-- How many of the first k can act. -/
def cntK (b : Bt) : Nat → Int
  | 0 => 0
  | k + 1 => cntK b k + (if canB b k = true then 1 else 0)
theorem cntK_bd (b : Bt) : ∀ k, 0 ≤ cntK b k ∧ cntK b k ≤ k
  | 0 => ⟨Int.le_refl _, by simp [cntK]⟩
  | k + 1 => by
    have := cntK_bd b k
    unfold cntK
    split <;> omega
def cntI (b : Bt) : Int := cntK b b.st.length
/-- The greatest of the first k, and 0. -/
def maxK (xs : List Int) : Nat → Int
  | 0 => 0
  | k + 1 => if maxK xs k < nth xs k then nth xs k else maxK xs k
theorem maxK_ge (xs : List Int) : ∀ k i, i < k → nth xs i ≤ maxK xs k
  | 0, i, h => by omega
  | k + 1, i, h => by
    unfold maxK
    by_cases e : i = k
    · subst e; split <;> omega
    · have := maxK_ge xs k i (by omega)
      split <;> omega
theorem maxK_bd (xs : List Int) (h : inC xs) : ∀ k, k ≤ xs.length → 0 ≤ maxK xs k ∧ maxK xs k ≤ 600000
  | 0, _ => by simp [maxK]
  | k + 1, hk => by
    have := maxK_bd xs h k (by omega)
    have := h k (by omega)
    unfold maxK
    split <;> omega
/-- The bet to match. -/
def topI (b : Bt) : Int := maxK b.bt b.bt.length
/-- Another seat can act. -/
def anoB (b : Bt) (i : Nat) : Bool := !decide (∀ j, j < b.st.length → j ≠ i → canB b j = false)
theorem ano_yes {b : Bt} {i : Nat} (j : Nat) (hj : j < b.st.length) (hne : j ≠ i) (h : canB b j = true) : anoB b i = true := by
  unfold anoB
  rw [decide_eq_false (fun q => by have := q j hj hne; rw [h] at this; cases this)]
  rfl
theorem ano_no {b : Bt} {i : Nat} (h : ∀ j, j < b.st.length → j ≠ i → canB b j = false) : anoB b i = false := by
  unfold anoB
  rw [decide_eq_true h]
  rfl
theorem cntK_one (b : Bt) (i : Nat) (hc : canB b i = true) (h : ∀ j, j < b.st.length → j ≠ i → canB b j = false) : ∀ k, k ≤ b.st.length → cntK b k = if i < k then 1 else 0
  | 0, _ => by simp [cntK]
  | k + 1, hk => by
    have ih := cntK_one b i hc h k (by omega)
    unfold cntK
    rw [ih]
    by_cases e : k = i
    · subst e; rw [hc]; simp
    · rw [h k (by omega) e]
      have : (i < k) ↔ (i < k + 1) := by omega
      simp [this]
theorem cntK_mono (b : Bt) : ∀ k j, j ≤ k → cntK b j ≤ cntK b k
  | 0, j, hj => by obtain rfl : j = 0 := by omega
                   exact Int.le_refl _
  | k + 1, j, hj => by
    by_cases e : j = k + 1
    · subst e; exact Int.le_refl _
    · have h1 := cntK_mono b k j (by omega)
      have e1 : cntK b (k + 1) = cntK b k + (if canB b k = true then 1 else 0) := rfl
      rw [e1]
      split <;> omega
theorem cntK_two (b : Bt) (i j : Nat) (hij : i < j) (hi : canB b i = true) (hj : canB b j = true) (k : Nat) (hk : j < k) : 2 ≤ cntK b k := by
  have h1 := cntK_mono b k (j + 1) (by omega)
  have h2 := cntK_mono b j (i + 1) (by omega)
  have h3 := (cntK_bd b i).1
  have e1 : cntK b (j + 1) = cntK b j + 1 := by show cntK b j + _ = _; rw [hj]; rfl
  have e2 : cntK b (i + 1) = cntK b i + 1 := by show cntK b i + _ = _; rw [hi]; rfl
  omega
theorem ano_cnt (b : Bt) (i : Nat) (hi : i < b.st.length) (hc : canB b i = true) : anoB b i = decide (1 < cntI b) := by
  rcases ha : anoB b i with _ | _
  · have h : ∀ j, j < b.st.length → j ≠ i → canB b j = false := by
      unfold anoB at ha
      simpa using ha
    have := cntK_one b i hc h b.st.length (Nat.le_refl _)
    rw [if_pos hi] at this
    unfold cntI
    rw [this]; rfl
  · obtain ⟨j, hj, hne, hcj⟩ : ∃ j, j < b.st.length ∧ j ≠ i ∧ canB b j = true := by
      refine Classical.byContradiction fun q => ?_
      rw [ano_no (fun j hj hne => by
        rcases hh : canB b j with _ | _
        · rfl
        · exact absurd ⟨j, hj, hne, hh⟩ q)] at ha
      cases ha
    have : 2 ≤ cntI b := by
      unfold cntI
      rcases Nat.lt_or_gt_of_ne hne with h | h
      · exact cntK_two b j i h hcj hc _ hi
      · exact cntK_two b i j h hc hcj _ hj
    exact (decide_eq_true (by omega)).symm
/-- A seat has to act. -/
def mustB (b : Bt) (i : Nat) : Bool := canB b i && (decide (nth b.bt i < topI b) || (!nthB b.ac i && anoB b i))
def openB (b : Bt) : Bool := mustB b b.tu.toNat
noncomputable def codeB (b : Bt) : Int := if okB b = true then (if openB b = true then 0 else 5) else 1
theorem codeB_no {b : Bt} (h : okB b = false) : codeB b = 1 := by unfold codeB; rw [h]; rfl
theorem codeB_shut {b : Bt} (h : okB b = true) (h2 : openB b = false) : codeB b = 5 := by unfold codeB; rw [h, h2]; rfl
theorem codeB_open {b : Bt} (h : okB b = true) (h2 : openB b = true) : codeB b = 0 := by unfold codeB; rw [h, h2]; rfl

/-- The choices. -/
def missI (b : Bt) : Int := topI b - nth b.bt b.tu.toNat
def callI (b : Bt) : Int := minT (missI b) (nth b.st b.tu.toNat)
def mayB (b : Bt) : Bool := !nthB b.ac b.tu.toNat && decide (missI b < nth b.st b.tu.toNat) && anoB b b.tu.toNat && (!(b.li == 2) || decide (b.ra < 4))
def allIn (b : Bt) : Int := nth b.bt b.tu.toNat + nth b.st b.tu.toNat
def mostR (b : Bt) : Int := if b.li = 1 then minT (allIn b) (topI b + potI b + missI b) else if b.li = 2 then minT (allIn b) (topI b + b.un) else allIn b
def mostI (b : Bt) : Int := if mayB b = true then mostR b else 0
def leastI (b : Bt) : Int := if mayB b = true then minT (mostR b) (topI b + b.un) else 0
def checkB (b : Bt) : Bool := missI b == 0
def chV (c : Bool) (k l m : Int) : Value := .agg #[.bool c, .int .i64 k, .int .i64 l, .int .i64 m]
/-- An action is one of the choices. -/
def legB (b : Bt) (k x : Int) : Bool :=
  if k = 0 then x == 0 else if k = 1 then x == 0 && checkB b else if k = 2 then x == 0 && decide (0 < callI b) else if k = 3 then decide (0 < mostI b) && decide (leastI b ≤ x) && decide (x ≤ mostI b) else false
/-- The next seat that has to act. -/
def hopN (b : Bt) : Nat := (List.range b.st.length).findIdx (fun k => mustB b (seatAt b.st.length (leftI b.tu b.st.length) k).toNat)
def nxtI (b : Bt) : Int := if hopN b < b.st.length then seatAt b.st.length (leftI b.tu b.st.length) (hopN b) else b.tu
theorem hopN_before (b : Bt) (k : Nat) (h : k < hopN b) (hk : k < b.st.length) : mustB b (seatAt b.st.length (leftI b.tu b.st.length) k).toNat = false := by
  have := List.not_of_lt_findIdx h
  simpa using this
theorem hopN_at (b : Bt) (h : hopN b < b.st.length) : mustB b (seatAt b.st.length (leftI b.tu b.st.length) (hopN b)).toNat = true := by
  have := List.findIdx_getElem (p := fun k => mustB b (seatAt b.st.length (leftI b.tu b.st.length) k).toNat) (xs := List.range b.st.length) (w := by rw [List.length_range]; exact h)
  simpa [hopN] using this
/-- The round behind an action, its turn where it was; then with the next turn. -/
def setAc (b : Bt) : Bt := { b with ac := b.ac.set b.tu.toNat true }
def more (b : Bt) (d : Int) : Bt := { b with st := b.st.set b.tu.toNat (nth b.st b.tu.toNat - d), bt := b.bt.set b.tu.toNat (nth b.bt b.tu.toNat + d) }
def foldB (b : Bt) : Bt := { b with fo := b.fo.set b.tu.toNat true }
def fullB (b : Bt) (x : Int) : Bool := decide (b.un ≤ x - topI b)
def raiseB (b : Bt) (x : Int) : Bt :=
  let c := more b (x - nth b.bt b.tu.toNat)
  { c with ra := minT (b.ra + 1) 4, un := if fullB b x = true then x - topI b else b.un, ac := if fullB b x = true then List.replicate b.ac.length false else b.ac }
def actB (b : Bt) (k x : Int) : Bt := if k = 0 then foldB b else if k = 1 then b else if k = 2 then more b (callI b) else raiseB b x
def turnB (b : Bt) : Bt := { b with tu := nxtI b }
def appB (b : Bt) (k x : Int) : Bt := turnB (setAc (actB b k x))
/-- The seats that have not folded. -/
def liveL (b : Bt) : Nat → List Int
  | 0 => []
  | k + 1 => if nthB b.fo k = true then liveL b k else liveL b k ++ [(k : Int)]
theorem liveL_len (b : Bt) : ∀ k, (liveL b k).length ≤ k
  | 0 => by simp [liveL]
  | k + 1 => by
    have := liveL_len b k
    unfold liveL
    split
    · omega
    · simp; omega
end Go.Proofs.Ytnllndcajdofjaa


/-! The model's straights and digits. -/
namespace Go.Proofs.Ytnllndcajdofjaa
open Go.RowKit
set_option linter.unusedVariables false

end Go.Proofs.Ytnllndcajdofjaa

/-! Ranks of cards: below 13, each at most four times. -/
namespace Go.Proofs.Ytnllndcajdofjaa
set_option linter.unusedVariables false

end Go.Proofs.Ytnllndcajdofjaa

/-! l01Has, l02Others: the cards that are not in a list, in order; and an own row that is appended to. -/
namespace Go.Proofs.Ytnllndcajdofjaa
open Go.RowKit
set_option linter.unusedVariables false

theorem own_form {w : World} {lo : Nat} {v : Value} {xs : List Int} (h : Own w lo v xs) : ∃ A c, v = .slice A xs.length c ∧ Own w lo (.slice A xs.length c) xs := by
  have h' := h
  rcases h.2 with ⟨rfl, hn⟩ | ⟨g, cap, cur, rfl, _⟩
  · exact ⟨none, 0, by rw [hn], by rw [hn]; exact h'⟩
  · exact ⟨_, _, rfl, h'⟩
/-- A row of the call's own, and nothing that was there written. -/
def Grow (w : World) (ys : List Int) (v : Value) (wr : World) : Prop := Own wr w.heap.size v ys ∧ Below w.heap.size w wr
theorem grow_start (w : World) : Grow w [] (.slice (some ⟨w.heap.size, 0, none⟩) 0 0) (w.alloc (.cells #[] 2)) :=
  ⟨World.ownsRow_made w #[] 0 (Nat.le_refl _) (by unfold maxLen; omega) rfl, bl_alloc (bl_refl _) _⟩
theorem own_app {ys : List Int} {lo : Nat} {w1 : World} {v' : Value} {x : Int} (hown : w1.ownsRow lo 2 1 v' (ys.length + 1) (ints ys ++ [.int .i64 x])) : Own w1 lo v' (ys ++ [x]) := by
  unfold Own
  rw [ints_snoc, List.length_append]
  exact hown
theorem grow_app {ys : List Int} {w wr w1 : World} {v v' : Value} {o : Obj} {x : Int} (h : Grow w ys v wr) (hown : w1.ownsRow w.heap.size 2 1 v' (ys.length + 1) (ints ys ++ [.int .i64 x])) (hgrow : (wr.alloc o).grownBy w1 v.ownBlock) : Grow w (ys ++ [x]) v' w1 :=
  ⟨own_app hown, (bl_alloc h.2 o).grown hgrow (by simp; exact Nat.le_succ_of_le h.2.size) (fun j hj => (World.ownsRow.lt h.1 j hj).1)⟩

end Go.Proofs.Ytnllndcajdofjaa

/-! The model's kickers, and numbers to the base 13. -/
namespace Go.Proofs.Ytnllndcajdofjaa
open Go.RowKit
set_option linter.unusedVariables false

/-! Numbers to the base 13. -/
/-! The kickers. -/
end Go.Proofs.Ytnllndcajdofjaa

/-! How often each number occurs among the counts of ranks. -/
namespace Go.Proofs.Ytnllndcajdofjaa
open Go.RowKit
set_option linter.unusedVariables false

end Go.Proofs.Ytnllndcajdofjaa

namespace Go.Proofs.Ytnllndcajdofjaa
open Go.Joins Go.ChangeShapes Go.WideShapes Go.ChangeAt Go.RowKit Go.Deep
set_option linter.unusedVariables false

def tV (A : Option Addr) (n c : Nat) (b s g a l : Int) : Value := .agg #[.slice A n c, .int .i64 b, .int .i64 s, .int .i64 g, .int .i64 a, .int .i64 l]

section
variable {H : Type} {enc : TypeId × Value → H} {P : Program} {w : World} {base : Nat} {spare : Nat → Bool} {held : Bool}
end
end Go.Proofs.Ytnllndcajdofjaa

namespace Go.Proofs.Ytnllndcajdofjaa
open Go.RowKit
set_option linter.unusedVariables false

set_option maxRecDepth 100000 in
set_option maxHeartbeats 400000 in
theorem specLeft_any (s n : Int) (w : World) (h0 : 0 ≤ s) (h1 : s ≤ 4000000) (hn : 0 < n) (hn1 : n ≤ 4000000) :
    Calls Try.prog 172 #[.int .i64 s, .int .i64 n] w (Same (.int .i64 (leftI s n)) w) := by
  have hb := left_bd s n hn
  unfold leftI at *
  have hz : n ≠ 0 := by omega
  go_enter Try.func172, Try.ntmps172
  go_wp2_with fail
  go_ret
  exact ⟨rfl, rfl⟩
set_option maxRecDepth 100000 in
set_option maxHeartbeats 1000000 in
theorem specBlinds_any (A : Option Addr) (c : Nat) (xs : List Int) (b s g a l : Int) (w : World) (h2 : 2 ≤ xs.length) (h6 : xs.length ≤ 6) (h0 : 0 ≤ b) (hb : b < xs.length) :
    Calls Try.prog 171 #[tV A xs.length c b s g a l] w (Fresh (pairV (smallI xs.length b) (bigI xs.length b)) w) := by
  have K1 := Lib.hid (fun W : World => specLeft_any b xs.length W h0 (by omega) (by omega) (by omega))
  have hsm := small_bd xs.length b (by omega) h0 hb
  have K2 := Lib.hid (fun W : World => specLeft_any (smallI xs.length b) xs.length W hsm.1 (by omega) (by omega) (by omega))
  have e2 : leftI (smallI xs.length b) xs.length = bigI xs.length b := rfl
  rw [e2] at K2
  clear e2
  generalize bigI xs.length b = y at *
  have n0 := blk_new w 49 [.slice A xs.length c, .int .i64 b, .int .i64 s, .int .i64 g, .int .i64 a, .int .i64 l]
  have N0 := Lib.hid n0
  have B := Lib.hid (bl_alloc (bl_refl w) (.cells ([.slice A xs.length c, .int .i64 b, .int .i64 s, .int .i64 g, .int .i64 a, .int .i64 l] : List Value).toArray 49))
  clear n0
  unfold tV
  by_cases hq : (xs.length : Int) = 2
  · have e1 : smallI xs.length b = b := if_pos hq
    rw [e1] at K2 ⊢
    have hd : ((xs.length : Int) == 2) = true := by rw [hq]; rfl
    clear e1 hsm hq
    go_enter Try.func171, Try.ntmps171
    go_wp2_with (go_at_call 172; (first | (with_reducible refine (K2.out _).mono ?_) | (with_reducible refine (K1.out _).mono ?_)); rintro e wn ⟨rfl, rfl⟩)
    go_ret2
    exact ⟨rfl, B.out⟩
  · have e1 : smallI xs.length b = leftI b xs.length := if_neg hq
    rw [e1] at K2 hsm ⊢
    generalize leftI b xs.length = z at *
    have hd : ((xs.length : Int) == 2) = false := by simpa using hq
    clear e1 hsm hq
    go_enter Try.func171, Try.ntmps171
    go_wp2_with (go_at_call 172; (first | (with_reducible refine (K2.out _).mono ?_) | (with_reducible refine (K1.out _).mono ?_)); rintro e wn ⟨rfl, rfl⟩)
    go_ret2
    exact ⟨rfl, B.out⟩
set_option maxRecDepth 100000 in
set_option maxHeartbeats 1000000 in
theorem specFirst_any (A : Option Addr) (c : Nat) (xs : List Int) (b s g a l : Int) (t : Int) (w : World) (h2 : 2 ≤ xs.length) (h6 : xs.length ≤ 6) (h0 : 0 ≤ b) (hb : b < xs.length) :
    Calls Try.prog 159 #[tV A xs.length c b s g a l, .int .i64 t] w (Fresh (.int .i64 (firstI xs.length b t)) w) := by
  have K1 := Lib.hid (fun W : World => specLeft_any b xs.length W h0 (by omega) (by omega) (by omega))
  have KB := Lib.hid (fun (W : World) => specBlinds_any A c xs b s g a l W h2 h6 h0 hb)
  have hbg := big_bd xs.length b (by omega)
  have K2 := Lib.hid (fun W : World => specLeft_any (bigI xs.length b) xs.length W hbg.1 (by omega) (by omega) (by omega))
  have n0 := blk_new w 49 [.slice A xs.length c, .int .i64 b, .int .i64 s, .int .i64 g, .int .i64 a, .int .i64 l]
  have N0 := Lib.hid n0
  have B := Lib.hid (bl_alloc (bl_refl w) (.cells ([.slice A xs.length c, .int .i64 b, .int .i64 s, .int .i64 g, .int .i64 a, .int .i64 l] : List Value).toArray 49))
  clear n0
  unfold tV at *
  by_cases ht : t = 0
  · subst ht
    have e : firstI xs.length b 0 = leftI (bigI xs.length b) xs.length := rfl
    rw [e]
    clear e K1
    generalize leftI (bigI xs.length b) xs.length = r at *
    generalize bigI xs.length b = y at *
    generalize smallI xs.length b = z at *
    go_enter Try.func159, Try.ntmps159
    go_wp2_with (first
    | (go_at_call 171; refine (KB.out _).mono ?_; rintro e wn ⟨rfl, hb⟩; have N0a := Lib.hid (N0.out.below hb); clear N0; have N0 := N0a; clear N0a; have Ba := Lib.hid (bl_trans B.out hb); clear B hb; have B := Ba; clear Ba; obtain ⟨q0_0, _⟩ := N0.out.cell 0 _ rfl; obtain ⟨q0_1, _⟩ := N0.out.cell 1 _ rfl; obtain ⟨q0_2, _⟩ := N0.out.cell 2 _ rfl; obtain ⟨q0_3, _⟩ := N0.out.cell 3 _ rfl; obtain ⟨q0_4, _⟩ := N0.out.cell 4 _ rfl; obtain ⟨q0_5, _⟩ := N0.out.cell 5 _ rfl)
    | (go_at_call 172; refine (K2.out _).mono ?_; rintro e wn ⟨rfl, rfl⟩))
    go_ret
    exact ⟨rfl, B.out⟩
  · have e : firstI xs.length b t = leftI b xs.length := if_neg ht
    rw [e]
    have hd : (t == 0) = false := by simpa using ht
    clear e K2 KB
    generalize leftI b xs.length = r at *
    go_enter Try.func159, Try.ntmps159
    go_wp2_with (first
    | (go_at_call 172; refine (K1.out _).mono ?_; rintro e wn ⟨rfl, rfl⟩))
    go_ret
    exact ⟨rfl, B.out⟩
end Go.Proofs.Ytnllndcajdofjaa

namespace Go.Proofs.Ytnllndcajdofjaa
open Go.RowKit
set_option linter.unusedVariables false

set_option maxRecDepth 100000 in
set_option maxHeartbeats 400000 in
theorem isSeatCount_any (x : Int) (w : World) : Calls Try.prog 138 #[.int .i64 x] w (Same (.bool (inB x 2 6)) w) := by
  by_cases h : x < 2
  · have H := Lib.hid (inB_lo x 2 6 h)
    go_enter Try.func138, Try.ntmps138
    go_wp2
    go_ret
    exact ⟨ret_bool (by rw [H.out]), rfl⟩
  · by_cases h2 : 6 < x
    · have H := Lib.hid (inB_hi x 2 6 h2)
      go_enter Try.func138, Try.ntmps138
      go_wp2
      go_ret
      exact ⟨ret_bool (by rw [H.out]; exact decide_eq_false (by omega)), rfl⟩
    · have H := Lib.hid (inB_yes x 2 6 (by omega) (by omega))
      go_enter Try.func138, Try.ntmps138
      go_wp2
      go_ret
      exact ⟨ret_bool (by rw [H.out]), rfl⟩
set_option maxRecDepth 100000 in
set_option maxHeartbeats 400000 in
theorem isStack_any (x : Int) (w : World) : Calls Try.prog 77 #[.int .i64 x] w (Same (.bool (inB x 1 100000)) w) := by
  by_cases h : x < 1
  · have H := Lib.hid (inB_lo x 1 100000 h)
    go_enter Try.func77, Try.ntmps77
    go_wp2
    go_ret
    exact ⟨ret_bool (by rw [H.out]), rfl⟩
  · by_cases h2 : 100000 < x
    · have H := Lib.hid (inB_hi x 1 100000 h2)
      go_enter Try.func77, Try.ntmps77
      go_wp2
      go_ret
      exact ⟨ret_bool (by rw [H.out]; exact decide_eq_false (by omega)), rfl⟩
    · have H := Lib.hid (inB_yes x 1 100000 (by omega) (by omega))
      go_enter Try.func77, Try.ntmps77
      go_wp2
      go_ret
      exact ⟨ret_bool (by rw [H.out]), rfl⟩
set_option maxRecDepth 100000 in
set_option maxHeartbeats 400000 in
theorem isLimit_any (x : Int) (w : World) : Calls Try.prog 78 #[.int .i64 x] w (Same (.bool (inB x 0 2)) w) := by
  by_cases h0 : x = 0
  · subst h0
    go_enter Try.func78, Try.ntmps78
    go_wp2
    go_ret
    exact ⟨rfl, rfl⟩
  by_cases h1 : x = 1
  · subst h1
    go_enter Try.func78, Try.ntmps78
    go_wp2
    go_ret
    exact ⟨rfl, rfl⟩
  have H : Hid (inB x 0 2 = (x == 2)) := Lib.hid (by
    unfold inB
    by_cases h2 : x = 2
    · subst h2; rfl
    · rw [decide_eq_false (by omega)]; simpa using h2)
  have d0 : (x == 0) = false := by simpa using h0
  have d1 : (x == 1) = false := by simpa using h1
  clear h0 h1
  go_enter Try.func78, Try.ntmps78
  go_wp2
  go_ret
  exact ⟨ret_bool (by rw [H.out]), rfl⟩
set_option maxRecDepth 100000 in
set_option maxHeartbeats 400000 in
theorem leftOf_any (s n : Int) (w : World) (h0 : 0 ≤ s) (h1 : s ≤ 4000000) (hn : 0 < n) (hn1 : n ≤ 4000000) :
    Calls Try.prog 88 #[.int .i64 s, .int .i64 n] w (Same (.int .i64 (leftI s n)) w) := by
  have hb := left_bd s n hn
  unfold leftI at *
  have hz : n ≠ 0 := by omega
  go_enter Try.func88, Try.ntmps88
  go_wp2_with fail
  go_ret
  exact ⟨rfl, rfl⟩
set_option maxRecDepth 100000 in
set_option maxHeartbeats 400000 in
theorem minT_any (a b : Int) (w : World) :
    Calls Try.prog 136 #[.int .i64 a, .int .i64 b] w (Same (.int .i64 (minT a b)) w) := by
  by_cases h : b < a
  · have H : Hid (minT a b = b) := Lib.hid (minT_lt a b h)
    go_enter Try.func136, Try.ntmps136
    go_wp2_with fail
    go_ret
    exact ⟨ret_int H.out.symm, rfl⟩
  · have H : Hid (minT a b = a) := Lib.hid (minT_ge a b h)
    go_enter Try.func136, Try.ntmps136
    go_wp2_with fail
    go_ret
    exact ⟨ret_int H.out.symm, rfl⟩
end Go.Proofs.Ytnllndcajdofjaa
