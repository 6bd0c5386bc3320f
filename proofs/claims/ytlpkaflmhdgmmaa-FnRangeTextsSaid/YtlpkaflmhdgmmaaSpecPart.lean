/-
  The model's l08Part: a part is read.
-/
import Derived.Test.YtlpkaflmhdgmmaaSplitBy
import Derived.Test.YtlpkaflmhdgmmaaSpecRow
namespace Go.Proofs.Ytlpkaflmhdgmmaa
open Go.RowKit
set_option linter.unusedVariables false

/-- What l01Split leaves: the pieces, in cells of its own. -/
def CutB (ps : List (List UInt8)) (w : World) (e : Ending) (w' : World) : Prop :=
  ∃ (g cap : Nat), e = .returned (.slice (some ⟨g, 0, none⟩) ps.length cap) ∧ (∀ (j : Nat) p, ps[j]? = some p → w'.cell? ⟨g, j, none⟩ = some (strV p)) ∧ g < w'.heap.size ∧ Below w.heap.size w w'
theorem splitB_ne (b : UInt8) (l : List UInt8) : (splitB b l).length ≠ 0 := by unfold splitB; simp
theorem splitB_of (b : UInt8) (l : List UInt8) (w : World) (hl : l.length ≤ 2000000) : Calls Try.prog 30 #[strV l, .int .u8 b.toNat] w (CutB (splitB b l) w) :=
  (splitBy_any b ⟨l.toArray⟩ w hl).mono fun e w' ⟨v, he, hS⟩ => by
    unfold SplitByAt at hS
    obtain ⟨hown, hb⟩ := hS
    rw [show (⟨l.toArray⟩ : ByteArray).data.toList = l from rfl, pcsB_end] at hown
    obtain ⟨hlen, hv⟩ := hown
    rcases hv with ⟨_, h0⟩ | ⟨g, cap, cur, rfl, hg, hblk, hn, hc, hsz, hxs⟩
    · exact absurd h0 (splitB_ne b l)
    · refine ⟨g, cap, he, fun j p hp => ?_, (Array.getElem?_eq_some_iff.1 hblk).1, hb⟩
      have h1 : (strsB (splitB b l))[j]? = some (strV p) := by simp [strsB, hp]
      rw [← hxs] at h1
      have h2 : cur.toList[j]? = some (strV p) := by
        rw [List.getElem?_take] at h1
        split at h1
        · exact h1
        · cases h1
      simp [World.cell?, hblk]
      simpa using h2
/-- What a call leaves that returns a list and a bool. -/
def NewLB (xs : List Int) (b : Bool) (w : World) (e : Ending) (w' : World) : Prop := ∃ A c, e = .returned (.tuple #[.slice A xs.length c, .bool b]) ∧ Own w' w.heap.size (.slice A xs.length c) xs ∧ Below w.heap.size w w'
theorem newLB_nil {w w' : World} (hb : Below w.heap.size w w') : NewLB [] false w (.returned (.tuple #[.slice none 0 0, .bool false])) w' := ⟨none, 0, rfl, Own.nil _ _, hb⟩
/-- The classes of a part; whether it is one. -/
def prtR (l : List UInt8) : List Int := match partM l with | some x => rowG x | none => []
def prtB (l : List UInt8) : Bool := (partM l).isSome
theorem prt_yes {l : List UInt8} {x : Grp × Int} (h : partM l = some x) : prtR l = rowG x ∧ prtB l = true := by unfold prtR prtB; rw [h]; exact ⟨rfl, rfl⟩
theorem prt_no {l : List UInt8} (h : partM l = none) : prtR l = [] ∧ prtB l = false := by unfold prtR prtB; rw [h]; exact ⟨rfl, rfl⟩
/-- The pieces of a part by its minus signs. -/
theorem minus_cases (l : List UInt8) : ((45 : UInt8) ∉ l ∧ (splitB 45 l).length = 1) ∨ (∃ a b, l = a ++ 45 :: b ∧ (45 : UInt8) ∉ a ∧ splitB 45 l = [a, b]) ∨
    (∃ a b c, l = a ++ 45 :: (b ++ 45 :: c) ∧ (45 : UInt8) ∉ a ∧ 3 ≤ (splitB 45 l).length) := by
  rcases splitB_cases 45 l with h | ⟨a, r, rfl, ha⟩
  · exact .inl ⟨h, by rw [splitB_no 45 l h]; rfl⟩
  · right
    rcases splitB_cases 45 r with h | ⟨b, c, rfl, hb⟩
    · exact .inl ⟨a, r, rfl, ha, by rw [splitB_cut 45 a r ha, splitB_no 45 r h]⟩
    · refine .inr ⟨a, b, c, rfl, ha, ?_⟩
      rw [splitB_cut 45 a _ ha, splitB_cut 45 b c hb, List.length_cons, List.length_cons]
      have := splitB_ne 45 c
      omega
theorem part_none_a {a b : List UInt8} (ha : (45 : UInt8) ∉ a) (h : grpM a = none) : partM (a ++ 45 :: b) = none := by rw [partM_minus a b ha, h]
theorem part_none_b {a b : List UInt8} (ha : (45 : UInt8) ∉ a) (h : grpM b = none) : partM (a ++ 45 :: b) = none := by
  rw [partM_minus a b ha, h]
  cases grpM a <;> rfl
theorem part_both {a b : List UInt8} {g g2 : Grp} (ha : (45 : UInt8) ∉ a) (h : grpM a = some g) (h2 : grpM b = some g2) : partM (a ++ 45 :: b) = if folG g g2 = true then some (g2, g.2.1) else none := by rw [partM_minus a b ha, h, h2]
/-- The model's test of two groups. -/
theorem fol_tests {a1 b1 a2 b2 : Int} {k1 k2 : UInt8} (h : OkG (a1, b1, k1)) (h2 : OkG (a2, b2, k2)) :
    folG (a1, b1, k1) (a2, b2, k2) = true ↔ b2 < b1 ∧ ((a1 = b1 ∧ a2 = b2) ∨ (a1 = a2 ∧ k1 = k2 ∧ a1 ≠ b1 ∧ a2 ≠ b2)) := by
  obtain ⟨p1, p2, p3, p4, p5⟩ := h
  obtain ⟨q1, q2, q3, q4, q5⟩ := h2
  dsimp only at p1 p2 p3 p4 p5 q1 q2 q3 q4 q5
  rw [fol_iff]
  unfold withG
  dsimp only
  rw [Prod.mk.injEq, Prod.mk.injEq]
  by_cases e : a1 = b1
  · rw [if_pos e]
    constructor
    · rintro ⟨h1, h3, _, h4⟩
      exact ⟨h1, .inl ⟨e, h3.symm⟩⟩
    · rintro ⟨h1, h3⟩
      refine ⟨h1, ?_, rfl, ?_⟩
      · rcases h3 with ⟨_, h3⟩ | ⟨_, _, h3, _⟩
        · exact h3.symm
        · exact absurd e h3
      · rcases h3 with ⟨_, h3⟩ | ⟨_, _, h3, _⟩
        · rw [p4 e, q4 h3]
        · exact absurd e h3
  · rw [if_neg e]
    constructor
    · rintro ⟨h1, h3, _, h4⟩
      exact ⟨h1, .inr ⟨h3, h4, e, by omega⟩⟩
    · rintro ⟨h1, h3⟩
      rcases h3 with ⟨h3, _⟩ | ⟨h3, h4, _, _⟩
      · exact absurd h3 e
      · exact ⟨h1, h3, rfl, h4⟩
/-- Between two such groups the model's classes are those of the lesser one's row. -/
theorem fol_row {g g2 : Grp} (ho : OkG g) (hf : folG g g2 = true) (i : Int) : ((if g.1 = g.2.1 then i else g.1, i, g.2.2) : Grp) = withG g2 i := by
  obtain ⟨h1, h2⟩ := fol_iff.1 hf
  have hba := ho.2.1
  obtain ⟨a, b, k⟩ := g
  obtain ⟨a2, b2, k2⟩ := g2
  unfold withG at h2 ⊢
  dsimp only at h1 h2 hba ⊢
  rw [Prod.mk.injEq, Prod.mk.injEq] at h2
  obtain ⟨h3, _, h4⟩ := h2
  subst h4
  by_cases e : a = b
  · rw [if_pos e] at h3
    rw [if_pos e, if_pos h3.symm]
  · rw [if_neg e] at h3
    rw [if_neg e, if_neg (by omega), h3]
theorem hand_yes (l : List UInt8) (g : Grp) (h : grpM l = some g) (w : World) (hm : l.length ≤ 2000000) : Calls Try.prog 51 #[strV l] w (Fresh (.tuple #[hV g.1 g.2.1 g.2.2, .bool true]) w) :=
  (hand_any l w hm).mono fun e w' hh => by
    rcases hh with ⟨g', h1, h2, h3⟩ | ⟨_, _, _, h1, _⟩
    · rw [h] at h1; injection h1 with h1; subst h1; exact ⟨h2, h3⟩
    · rw [h] at h1; cases h1
def HandNo (w : World) (e : Ending) (w' : World) : Prop := ∃ (a b : Int) (k : UInt8), e = .returned (.tuple #[hV a b k, .bool false]) ∧ Below w.heap.size w w'
theorem hand_no (l : List UInt8) (h : grpM l = none) (w : World) (hm : l.length ≤ 2000000) : Calls Try.prog 51 #[strV l] w (HandNo w) :=
  (hand_any l w hm).mono fun e w' hh => by
    rcases hh with ⟨g', h1, _, _⟩ | ⟨a, b, k, _, h2, h3⟩
    · rw [h] at h1; cases h1
    · exact ⟨a, b, k, h2, h3⟩
def HandSome (w : World) (e : Ending) (w' : World) : Prop := ∃ (a b : Int) (k : UInt8) (f : Bool), e = .returned (.tuple #[hV a b k, .bool f]) ∧ Below w.heap.size w w'
theorem hand_some (l : List UInt8) (w : World) (hm : l.length ≤ 2000000) : Calls Try.prog 51 #[strV l] w (HandSome w) :=
  (hand_any l w hm).mono fun e w' hh => by
    rcases hh with ⟨g', _, h2, h3⟩ | ⟨a, b, k, _, h2, h3⟩
    · exact ⟨_, _, _, true, h2, h3⟩
    · exact ⟨a, b, k, false, h2, h3⟩
set_option maxRecDepth 100000 in
set_option maxHeartbeats 4000000 in
theorem two_a (a b l : List UInt8) (w : World) (KS : Hid (∀ W, Calls Try.prog 30 #[strV l, .int .u8 45] W (CutB [a, b] W))) (KA : Hid (∀ W, Calls Try.prog 51 #[strV a] W (HandNo W))) (KB : Hid (∀ W, Calls Try.prog 51 #[strV b] W (HandSome W))) :
    Calls Try.prog 31 #[strV l] w (NewLB [] false w) := by
  go_enter Try.func31, Try.ntmps31
  go_wp2_with (first
    | (go_at_call 30; ((with_reducible refine (KS.out _).mono ?_); rintro e w1 ⟨g, cap, rfl, hcell, hg, hb1⟩; have B1 := Lib.hid hb1; have HG1 := Lib.hid hg; have q0 := hcell 0 a rfl; have HQ := Lib.hid (hcell 1 b rfl); clear hcell hb1 hg KS))
    | (go_at_call 51; ((with_reducible refine (KA.out _).mono ?_); rintro e w2 ⟨a1, b1, k1, rfl, hb2⟩; have B2 := Lib.hid hb2; have N2 := Lib.hid (blk_new w2 78 [.int .i64 a1, .int .i64 b1, .int .u8 k1.toNat]); have HG2 := Lib.hid (Nat.lt_of_lt_of_le HG1.out hb2.size); have q1 := ((bcell hb2).1 g 1 HG1.out).trans HQ.out; have hz2 := HG2.out; clear hb2 KA q0))
    | (go_at_call 51; ((with_reducible refine (KB.out _).mono ?_); rintro e w3 ⟨a2, b2, k2, f, rfl, hb3⟩; have B3 := Lib.hid hb3; have hz3 := (N2.out.below hb3).lt; obtain ⟨c0, _⟩ := (N2.out.below hb3).cell 0 _ rfl; obtain ⟨c1, _⟩ := (N2.out.below hb3).cell 1 _ rfl; obtain ⟨c2, _⟩ := (N2.out.below hb3).cell 2 _ rfl; clear hb3 KB q1 hz2)))
  all_goals
    go_ret2
    exact newLB_nil (bl_alloc (bl_trans (bl_alloc (bl_trans B1.out B2.out) _) B3.out) _)
set_option maxRecDepth 100000 in
set_option maxHeartbeats 4000000 in
theorem two_b (a b l : List UInt8) (w : World) (KS : Hid (∀ W, Calls Try.prog 30 #[strV l, .int .u8 45] W (CutB [a, b] W))) (a1 b1 : Int) (k1 : UInt8) (KA : Hid (∀ W, Calls Try.prog 51 #[strV a] W (Fresh (.tuple #[hV a1 b1 k1, .bool true]) W))) (KB : Hid (∀ W, Calls Try.prog 51 #[strV b] W (HandNo W))) :
    Calls Try.prog 31 #[strV l] w (NewLB [] false w) := by
  go_enter Try.func31, Try.ntmps31
  go_wp2_with (first
    | (go_at_call 30; ((with_reducible refine (KS.out _).mono ?_); rintro e w1 ⟨g, cap, rfl, hcell, hg, hb1⟩; have B1 := Lib.hid hb1; have HG1 := Lib.hid hg; have q0 := hcell 0 a rfl; have HQ := Lib.hid (hcell 1 b rfl); clear hcell hb1 hg KS))
    | (go_at_call 51; ((with_reducible refine (KA.out _).mono ?_); rintro e w2 ⟨rfl, hb2⟩; have B2 := Lib.hid hb2; have N2 := Lib.hid (blk_new w2 78 [.int .i64 a1, .int .i64 b1, .int .u8 k1.toNat]); have HG2 := Lib.hid (Nat.lt_of_lt_of_le HG1.out hb2.size); have q1 := ((bcell hb2).1 g 1 HG1.out).trans HQ.out; have hz2 := HG2.out; clear hb2 KA q0))
    | (go_at_call 51; ((with_reducible refine (KB.out _).mono ?_); rintro e w3 ⟨a2, b2, k2, rfl, hb3⟩; have B3 := Lib.hid hb3; have hz3 := (N2.out.below hb3).lt; obtain ⟨c0, _⟩ := (N2.out.below hb3).cell 0 _ rfl; obtain ⟨c1, _⟩ := (N2.out.below hb3).cell 1 _ rfl; obtain ⟨c2, _⟩ := (N2.out.below hb3).cell 2 _ rfl; clear hb3 KB q1 hz2)))
  all_goals
    go_ret2
    exact newLB_nil (bl_alloc (bl_trans (bl_alloc (bl_trans B1.out B2.out) _) B3.out) _)
set_option maxRecDepth 100000 in
set_option maxHeartbeats 4000000 in
theorem two_le (a b l : List UInt8) (w : World) (KS : Hid (∀ W, Calls Try.prog 30 #[strV l, .int .u8 45] W (CutB [a, b] W))) (a1 b1 a2 b2 : Int) (k1 k2 : UInt8) (KA : Hid (∀ W, Calls Try.prog 51 #[strV a] W (Fresh (.tuple #[hV a1 b1 k1, .bool true]) W))) (KB : Hid (∀ W, Calls Try.prog 51 #[strV b] W (Fresh (.tuple #[hV a2 b2 k2, .bool true]) W))) (h : b1 ≤ b2) :
    Calls Try.prog 31 #[strV l] w (NewLB [] false w) := by
  go_enter Try.func31, Try.ntmps31
  go_wp2_with (first
    | (go_at_call 30; ((with_reducible refine (KS.out _).mono ?_); rintro e w1 ⟨g, cap, rfl, hcell, hg, hb1⟩; have B1 := Lib.hid hb1; have HG1 := Lib.hid hg; have q0 := hcell 0 a rfl; have HQ := Lib.hid (hcell 1 b rfl); clear hcell hb1 hg KS))
    | (go_at_call 51; ((with_reducible refine (KA.out _).mono ?_); rintro e w2 ⟨rfl, hb2⟩; have B2 := Lib.hid hb2; have N2 := Lib.hid (blk_new w2 78 [.int .i64 a1, .int .i64 b1, .int .u8 k1.toNat]); have HG2 := Lib.hid (Nat.lt_of_lt_of_le HG1.out hb2.size); have q1 := ((bcell hb2).1 g 1 HG1.out).trans HQ.out; have hz2 := HG2.out; clear hb2 KA q0))
    | (go_at_call 51; ((with_reducible refine (KB.out _).mono ?_); rintro e w3 ⟨rfl, hb3⟩; have B3 := Lib.hid hb3; have hz3 := (N2.out.below hb3).lt; obtain ⟨c0, _⟩ := (N2.out.below hb3).cell 0 _ rfl; obtain ⟨c1, _⟩ := (N2.out.below hb3).cell 1 _ rfl; obtain ⟨c2, _⟩ := (N2.out.below hb3).cell 2 _ rfl; clear hb3 KB q1 hz2)))
  all_goals
    go_ret2
    exact newLB_nil (bl_alloc (bl_trans (bl_alloc (bl_trans B1.out B2.out) _) B3.out) _)
set_option maxRecDepth 100000 in
set_option maxHeartbeats 4000000 in
theorem two_p1 (a b l : List UInt8) (w : World) (KS : Hid (∀ W, Calls Try.prog 30 #[strV l, .int .u8 45] W (CutB [a, b] W))) (a1 b1 a2 b2 : Int) (k1 k2 : UInt8) (KA : Hid (∀ W, Calls Try.prog 51 #[strV a] W (Fresh (.tuple #[hV a1 b1 k1, .bool true]) W))) (KB : Hid (∀ W, Calls Try.prog 51 #[strV b] W (Fresh (.tuple #[hV a2 b2 k2, .bool true]) W))) (h : ¬ b1 ≤ b2) (p : (a1 == b1) = true) (pn : (a1 != b1) = false) (q : (a2 == b2) = true) (qn : (a2 != b2) = false) (xs : List Int) (KR : Hid (∀ W, Calls Try.prog 52 #[.slice none 0 0, hV a1 b1 k1, hV a2 b2 k2] W (NewL xs W))) :
    Calls Try.prog 31 #[strV l] w (NewLB xs true w) := by
  go_enter Try.func31, Try.ntmps31
  go_wp2_with (first
    | (go_at_call 30; ((with_reducible refine (KS.out _).mono ?_); rintro e w1 ⟨g, cap, rfl, hcell, hg, hb1⟩; have B1 := Lib.hid hb1; have HG1 := Lib.hid hg; have q0 := hcell 0 a rfl; have HQ := Lib.hid (hcell 1 b rfl); clear hcell hb1 hg KS))
    | (go_at_call 51; ((with_reducible refine (KA.out _).mono ?_); rintro e w2 ⟨rfl, hb2⟩; have B2 := Lib.hid hb2; have N2 := Lib.hid (blk_new w2 78 [.int .i64 a1, .int .i64 b1, .int .u8 k1.toNat]); have HG2 := Lib.hid (Nat.lt_of_lt_of_le HG1.out hb2.size); have q1 := ((bcell hb2).1 g 1 HG1.out).trans HQ.out; have hz2 := HG2.out; clear hb2 KA q0))
    | (go_at_call 51; ((with_reducible refine (KB.out _).mono ?_); rintro e w3 ⟨rfl, hb3⟩; have B3 := Lib.hid hb3; have hz3 := (N2.out.below hb3).lt; obtain ⟨c0, _⟩ := (N2.out.below hb3).cell 0 _ rfl; obtain ⟨c1, _⟩ := (N2.out.below hb3).cell 1 _ rfl; obtain ⟨c2, _⟩ := (N2.out.below hb3).cell 2 _ rfl; clear hb3 KB q1 hz2))
    | (go_at_call 52; ((with_reducible refine (KR.out _).mono ?_); rintro e w5 ⟨A5, c5, rfl, ho5, hb5⟩; have O5 := Lib.hid ho5; have B5 := Lib.hid hb5; clear ho5 hb5)))
  go_ret2
  have HB := bl_alloc (bl_trans (bl_alloc (bl_trans B1.out B2.out) (.cells #[.int .i64 a1, .int .i64 b1, .int .u8 k1.toNat] 78)) B3.out) (.cells #[.int .i64 a2, .int .i64 b2, .int .u8 k2.toNat] 78)
  exact ⟨A5, c5, rfl, O5.out.less HB.size, bl_trans HB B5.out⟩
set_option maxRecDepth 100000 in
set_option maxHeartbeats 4000000 in
theorem two_x1 (a b l : List UInt8) (w : World) (KS : Hid (∀ W, Calls Try.prog 30 #[strV l, .int .u8 45] W (CutB [a, b] W))) (a1 b1 a2 b2 : Int) (k1 k2 : UInt8) (KA : Hid (∀ W, Calls Try.prog 51 #[strV a] W (Fresh (.tuple #[hV a1 b1 k1, .bool true]) W))) (KB : Hid (∀ W, Calls Try.prog 51 #[strV b] W (Fresh (.tuple #[hV a2 b2 k2, .bool true]) W))) (h : ¬ b1 ≤ b2) (p : (a1 == b1) = true) (pn : (a1 != b1) = false) (q : (a2 == b2) = false) (qn : (a2 != b2) = true) (r : (a1 == a2) = false) (rn : (a1 != a2) = true) :
    Calls Try.prog 31 #[strV l] w (NewLB [] false w) := by
  go_enter Try.func31, Try.ntmps31
  go_wp2_with (first
    | (go_at_call 30; ((with_reducible refine (KS.out _).mono ?_); rintro e w1 ⟨g, cap, rfl, hcell, hg, hb1⟩; have B1 := Lib.hid hb1; have HG1 := Lib.hid hg; have q0 := hcell 0 a rfl; have HQ := Lib.hid (hcell 1 b rfl); clear hcell hb1 hg KS))
    | (go_at_call 51; ((with_reducible refine (KA.out _).mono ?_); rintro e w2 ⟨rfl, hb2⟩; have B2 := Lib.hid hb2; have N2 := Lib.hid (blk_new w2 78 [.int .i64 a1, .int .i64 b1, .int .u8 k1.toNat]); have HG2 := Lib.hid (Nat.lt_of_lt_of_le HG1.out hb2.size); have q1 := ((bcell hb2).1 g 1 HG1.out).trans HQ.out; have hz2 := HG2.out; clear hb2 KA q0))
    | (go_at_call 51; ((with_reducible refine (KB.out _).mono ?_); rintro e w3 ⟨rfl, hb3⟩; have B3 := Lib.hid hb3; have hz3 := (N2.out.below hb3).lt; obtain ⟨c0, _⟩ := (N2.out.below hb3).cell 0 _ rfl; obtain ⟨c1, _⟩ := (N2.out.below hb3).cell 1 _ rfl; obtain ⟨c2, _⟩ := (N2.out.below hb3).cell 2 _ rfl; clear hb3 KB q1 hz2)))
  all_goals
    go_ret2
    exact newLB_nil (bl_alloc (bl_trans (bl_alloc (bl_trans B1.out B2.out) _) B3.out) _)
set_option maxRecDepth 100000 in
set_option maxHeartbeats 4000000 in
theorem two_x2 (a b l : List UInt8) (w : World) (KS : Hid (∀ W, Calls Try.prog 30 #[strV l, .int .u8 45] W (CutB [a, b] W))) (a1 b1 a2 b2 : Int) (k1 k2 : UInt8) (KA : Hid (∀ W, Calls Try.prog 51 #[strV a] W (Fresh (.tuple #[hV a1 b1 k1, .bool true]) W))) (KB : Hid (∀ W, Calls Try.prog 51 #[strV b] W (Fresh (.tuple #[hV a2 b2 k2, .bool true]) W))) (h : ¬ b1 ≤ b2) (p : (a1 == b1) = true) (pn : (a1 != b1) = false) (q : (a2 == b2) = false) (qn : (a2 != b2) = true) (r : (a1 == a2) = true) (rn : (a1 != a2) = false) (t : ((k1.toNat : Int) == (k2.toNat : Int)) = false) (tn : ((k1.toNat : Int) != (k2.toNat : Int)) = true) :
    Calls Try.prog 31 #[strV l] w (NewLB [] false w) := by
  go_enter Try.func31, Try.ntmps31
  go_wp2_with (first
    | (go_at_call 30; ((with_reducible refine (KS.out _).mono ?_); rintro e w1 ⟨g, cap, rfl, hcell, hg, hb1⟩; have B1 := Lib.hid hb1; have HG1 := Lib.hid hg; have q0 := hcell 0 a rfl; have HQ := Lib.hid (hcell 1 b rfl); clear hcell hb1 hg KS))
    | (go_at_call 51; ((with_reducible refine (KA.out _).mono ?_); rintro e w2 ⟨rfl, hb2⟩; have B2 := Lib.hid hb2; have N2 := Lib.hid (blk_new w2 78 [.int .i64 a1, .int .i64 b1, .int .u8 k1.toNat]); have HG2 := Lib.hid (Nat.lt_of_lt_of_le HG1.out hb2.size); have q1 := ((bcell hb2).1 g 1 HG1.out).trans HQ.out; have hz2 := HG2.out; clear hb2 KA q0))
    | (go_at_call 51; ((with_reducible refine (KB.out _).mono ?_); rintro e w3 ⟨rfl, hb3⟩; have B3 := Lib.hid hb3; have hz3 := (N2.out.below hb3).lt; obtain ⟨c0, _⟩ := (N2.out.below hb3).cell 0 _ rfl; obtain ⟨c1, _⟩ := (N2.out.below hb3).cell 1 _ rfl; obtain ⟨c2, _⟩ := (N2.out.below hb3).cell 2 _ rfl; clear hb3 KB q1 hz2)))
  all_goals
    go_ret2
    exact newLB_nil (bl_alloc (bl_trans (bl_alloc (bl_trans B1.out B2.out) _) B3.out) _)
set_option maxRecDepth 100000 in
set_option maxHeartbeats 4000000 in
theorem two_x3 (a b l : List UInt8) (w : World) (KS : Hid (∀ W, Calls Try.prog 30 #[strV l, .int .u8 45] W (CutB [a, b] W))) (a1 b1 a2 b2 : Int) (k1 k2 : UInt8) (KA : Hid (∀ W, Calls Try.prog 51 #[strV a] W (Fresh (.tuple #[hV a1 b1 k1, .bool true]) W))) (KB : Hid (∀ W, Calls Try.prog 51 #[strV b] W (Fresh (.tuple #[hV a2 b2 k2, .bool true]) W))) (h : ¬ b1 ≤ b2) (p : (a1 == b1) = true) (pn : (a1 != b1) = false) (q : (a2 == b2) = false) (qn : (a2 != b2) = true) (r : (a1 == a2) = true) (rn : (a1 != a2) = false) (t : ((k1.toNat : Int) == (k2.toNat : Int)) = true) (tn : ((k1.toNat : Int) != (k2.toNat : Int)) = false) :
    Calls Try.prog 31 #[strV l] w (NewLB [] false w) := by
  go_enter Try.func31, Try.ntmps31
  go_wp2_with (first
    | (go_at_call 30; ((with_reducible refine (KS.out _).mono ?_); rintro e w1 ⟨g, cap, rfl, hcell, hg, hb1⟩; have B1 := Lib.hid hb1; have HG1 := Lib.hid hg; have q0 := hcell 0 a rfl; have HQ := Lib.hid (hcell 1 b rfl); clear hcell hb1 hg KS))
    | (go_at_call 51; ((with_reducible refine (KA.out _).mono ?_); rintro e w2 ⟨rfl, hb2⟩; have B2 := Lib.hid hb2; have N2 := Lib.hid (blk_new w2 78 [.int .i64 a1, .int .i64 b1, .int .u8 k1.toNat]); have HG2 := Lib.hid (Nat.lt_of_lt_of_le HG1.out hb2.size); have q1 := ((bcell hb2).1 g 1 HG1.out).trans HQ.out; have hz2 := HG2.out; clear hb2 KA q0))
    | (go_at_call 51; ((with_reducible refine (KB.out _).mono ?_); rintro e w3 ⟨rfl, hb3⟩; have B3 := Lib.hid hb3; have hz3 := (N2.out.below hb3).lt; obtain ⟨c0, _⟩ := (N2.out.below hb3).cell 0 _ rfl; obtain ⟨c1, _⟩ := (N2.out.below hb3).cell 1 _ rfl; obtain ⟨c2, _⟩ := (N2.out.below hb3).cell 2 _ rfl; clear hb3 KB q1 hz2)))
  all_goals
    go_ret2
    exact newLB_nil (bl_alloc (bl_trans (bl_alloc (bl_trans B1.out B2.out) _) B3.out) _)
set_option maxRecDepth 100000 in
set_option maxHeartbeats 4000000 in
theorem two_y1 (a b l : List UInt8) (w : World) (KS : Hid (∀ W, Calls Try.prog 30 #[strV l, .int .u8 45] W (CutB [a, b] W))) (a1 b1 a2 b2 : Int) (k1 k2 : UInt8) (KA : Hid (∀ W, Calls Try.prog 51 #[strV a] W (Fresh (.tuple #[hV a1 b1 k1, .bool true]) W))) (KB : Hid (∀ W, Calls Try.prog 51 #[strV b] W (Fresh (.tuple #[hV a2 b2 k2, .bool true]) W))) (h : ¬ b1 ≤ b2) (p : (a1 == b1) = false) (pn : (a1 != b1) = true) (r : (a1 == a2) = false) (rn : (a1 != a2) = true) :
    Calls Try.prog 31 #[strV l] w (NewLB [] false w) := by
  go_enter Try.func31, Try.ntmps31
  go_wp2_with (first
    | (go_at_call 30; ((with_reducible refine (KS.out _).mono ?_); rintro e w1 ⟨g, cap, rfl, hcell, hg, hb1⟩; have B1 := Lib.hid hb1; have HG1 := Lib.hid hg; have q0 := hcell 0 a rfl; have HQ := Lib.hid (hcell 1 b rfl); clear hcell hb1 hg KS))
    | (go_at_call 51; ((with_reducible refine (KA.out _).mono ?_); rintro e w2 ⟨rfl, hb2⟩; have B2 := Lib.hid hb2; have N2 := Lib.hid (blk_new w2 78 [.int .i64 a1, .int .i64 b1, .int .u8 k1.toNat]); have HG2 := Lib.hid (Nat.lt_of_lt_of_le HG1.out hb2.size); have q1 := ((bcell hb2).1 g 1 HG1.out).trans HQ.out; have hz2 := HG2.out; clear hb2 KA q0))
    | (go_at_call 51; ((with_reducible refine (KB.out _).mono ?_); rintro e w3 ⟨rfl, hb3⟩; have B3 := Lib.hid hb3; have hz3 := (N2.out.below hb3).lt; obtain ⟨c0, _⟩ := (N2.out.below hb3).cell 0 _ rfl; obtain ⟨c1, _⟩ := (N2.out.below hb3).cell 1 _ rfl; obtain ⟨c2, _⟩ := (N2.out.below hb3).cell 2 _ rfl; clear hb3 KB q1 hz2)))
  all_goals
    go_ret2
    exact newLB_nil (bl_alloc (bl_trans (bl_alloc (bl_trans B1.out B2.out) _) B3.out) _)
set_option maxRecDepth 100000 in
set_option maxHeartbeats 4000000 in
theorem two_y2 (a b l : List UInt8) (w : World) (KS : Hid (∀ W, Calls Try.prog 30 #[strV l, .int .u8 45] W (CutB [a, b] W))) (a1 b1 a2 b2 : Int) (k1 k2 : UInt8) (KA : Hid (∀ W, Calls Try.prog 51 #[strV a] W (Fresh (.tuple #[hV a1 b1 k1, .bool true]) W))) (KB : Hid (∀ W, Calls Try.prog 51 #[strV b] W (Fresh (.tuple #[hV a2 b2 k2, .bool true]) W))) (h : ¬ b1 ≤ b2) (p : (a1 == b1) = false) (pn : (a1 != b1) = true) (r : (a1 == a2) = true) (rn : (a1 != a2) = false) (t : ((k1.toNat : Int) == (k2.toNat : Int)) = false) (tn : ((k1.toNat : Int) != (k2.toNat : Int)) = true) :
    Calls Try.prog 31 #[strV l] w (NewLB [] false w) := by
  go_enter Try.func31, Try.ntmps31
  go_wp2_with (first
    | (go_at_call 30; ((with_reducible refine (KS.out _).mono ?_); rintro e w1 ⟨g, cap, rfl, hcell, hg, hb1⟩; have B1 := Lib.hid hb1; have HG1 := Lib.hid hg; have q0 := hcell 0 a rfl; have HQ := Lib.hid (hcell 1 b rfl); clear hcell hb1 hg KS))
    | (go_at_call 51; ((with_reducible refine (KA.out _).mono ?_); rintro e w2 ⟨rfl, hb2⟩; have B2 := Lib.hid hb2; have N2 := Lib.hid (blk_new w2 78 [.int .i64 a1, .int .i64 b1, .int .u8 k1.toNat]); have HG2 := Lib.hid (Nat.lt_of_lt_of_le HG1.out hb2.size); have q1 := ((bcell hb2).1 g 1 HG1.out).trans HQ.out; have hz2 := HG2.out; clear hb2 KA q0))
    | (go_at_call 51; ((with_reducible refine (KB.out _).mono ?_); rintro e w3 ⟨rfl, hb3⟩; have B3 := Lib.hid hb3; have hz3 := (N2.out.below hb3).lt; obtain ⟨c0, _⟩ := (N2.out.below hb3).cell 0 _ rfl; obtain ⟨c1, _⟩ := (N2.out.below hb3).cell 1 _ rfl; obtain ⟨c2, _⟩ := (N2.out.below hb3).cell 2 _ rfl; clear hb3 KB q1 hz2)))
  all_goals
    go_ret2
    exact newLB_nil (bl_alloc (bl_trans (bl_alloc (bl_trans B1.out B2.out) _) B3.out) _)
set_option maxRecDepth 100000 in
set_option maxHeartbeats 4000000 in
theorem two_y3 (a b l : List UInt8) (w : World) (KS : Hid (∀ W, Calls Try.prog 30 #[strV l, .int .u8 45] W (CutB [a, b] W))) (a1 b1 a2 b2 : Int) (k1 k2 : UInt8) (KA : Hid (∀ W, Calls Try.prog 51 #[strV a] W (Fresh (.tuple #[hV a1 b1 k1, .bool true]) W))) (KB : Hid (∀ W, Calls Try.prog 51 #[strV b] W (Fresh (.tuple #[hV a2 b2 k2, .bool true]) W))) (h : ¬ b1 ≤ b2) (p : (a1 == b1) = false) (pn : (a1 != b1) = true) (q : (a2 == b2) = false) (qn : (a2 != b2) = true) (r : (a1 == a2) = true) (rn : (a1 != a2) = false) (t : ((k1.toNat : Int) == (k2.toNat : Int)) = true) (tn : ((k1.toNat : Int) != (k2.toNat : Int)) = false) (xs : List Int) (KR : Hid (∀ W, Calls Try.prog 52 #[.slice none 0 0, hV a1 b1 k1, hV a2 b2 k2] W (NewL xs W))) :
    Calls Try.prog 31 #[strV l] w (NewLB xs true w) := by
  go_enter Try.func31, Try.ntmps31
  go_wp2_with (first
    | (go_at_call 30; ((with_reducible refine (KS.out _).mono ?_); rintro e w1 ⟨g, cap, rfl, hcell, hg, hb1⟩; have B1 := Lib.hid hb1; have HG1 := Lib.hid hg; have q0 := hcell 0 a rfl; have HQ := Lib.hid (hcell 1 b rfl); clear hcell hb1 hg KS))
    | (go_at_call 51; ((with_reducible refine (KA.out _).mono ?_); rintro e w2 ⟨rfl, hb2⟩; have B2 := Lib.hid hb2; have N2 := Lib.hid (blk_new w2 78 [.int .i64 a1, .int .i64 b1, .int .u8 k1.toNat]); have HG2 := Lib.hid (Nat.lt_of_lt_of_le HG1.out hb2.size); have q1 := ((bcell hb2).1 g 1 HG1.out).trans HQ.out; have hz2 := HG2.out; clear hb2 KA q0))
    | (go_at_call 51; ((with_reducible refine (KB.out _).mono ?_); rintro e w3 ⟨rfl, hb3⟩; have B3 := Lib.hid hb3; have hz3 := (N2.out.below hb3).lt; obtain ⟨c0, _⟩ := (N2.out.below hb3).cell 0 _ rfl; obtain ⟨c1, _⟩ := (N2.out.below hb3).cell 1 _ rfl; obtain ⟨c2, _⟩ := (N2.out.below hb3).cell 2 _ rfl; clear hb3 KB q1 hz2))
    | (go_at_call 52; ((with_reducible refine (KR.out _).mono ?_); rintro e w5 ⟨A5, c5, rfl, ho5, hb5⟩; have O5 := Lib.hid ho5; have B5 := Lib.hid hb5; clear ho5 hb5)))
  go_ret2
  have HB := bl_alloc (bl_trans (bl_alloc (bl_trans B1.out B2.out) (.cells #[.int .i64 a1, .int .i64 b1, .int .u8 k1.toNat] 78)) B3.out) (.cells #[.int .i64 a2, .int .i64 b2, .int .u8 k2.toNat] 78)
  exact ⟨A5, c5, rfl, O5.out.less HB.size, bl_trans HB B5.out⟩
theorem beqT {x y : Int} (h : x = y) : (x == y) = true ∧ (x != y) = false := by subst h; simp
theorem beqF {x y : Int} (h : x ≠ y) : (x == y) = false ∧ (x != y) = true := by simp [h]
theorem natT {x y : UInt8} (h : x = y) : (x.toNat : Int) = (y.toNat : Int) := by rw [h]
theorem natF {x y : UInt8} (h : x ≠ y) : (x.toNat : Int) ≠ (y.toNat : Int) := fun e => h (UInt8.toNat_inj.1 (by omega))
theorem l08Part_two (a b : List UInt8) (w : World) (hl : (a ++ 45 :: b).length ≤ 2000000) (ha : (45 : UInt8) ∉ a) (hs : splitB 45 (a ++ 45 :: b) = [a, b]) :
    Calls Try.prog 31 #[strV (a ++ 45 :: b)] w (NewLB (prtR (a ++ 45 :: b)) (prtB (a ++ 45 :: b)) w) := by
  have hla : a.length ≤ 2000000 := by rw [List.length_append] at hl; omega
  have hlb : b.length ≤ 2000000 := by rw [List.length_append, List.length_cons] at hl; omega
  have KS := Lib.hid (fun W => splitB_of 45 (a ++ 45 :: b) W hl)
  rw [hs] at KS
  rcases hga : grpM a with _ | ⟨a1, b1, k1⟩
  · have e := prt_no (part_none_a (b := b) ha hga)
    rw [e.1, e.2]
    exact two_a a b _ w KS (Lib.hid (fun W => hand_no a hga W hla)) (Lib.hid (fun W => hand_some b W hlb))
  · have KA := Lib.hid (fun W => hand_yes a _ hga W hla)
    rcases hgb : grpM b with _ | ⟨a2, b2, k2⟩
    · have e := prt_no (part_none_b (a := a) ha hgb)
      rw [e.1, e.2]
      exact two_b a b _ w KS a1 b1 k1 KA (Lib.hid (fun W => hand_no b hgb W hlb))
    · have KB := Lib.hid (fun W => hand_yes b _ hgb W hlb)
      have hp := part_both ha hga hgb
      have o1 := grpR_ok (grpM_some hga)
      have o2 := grpR_ok (grpM_some hgb)
      have hf := fol_tests o1 o2
      rcases hfb : folG (a1, b1, k1) (a2, b2, k2) with _ | _
      · rw [hfb, if_neg (by decide)] at hp
        have e := prt_no hp
        rw [e.1, e.2]
        have hn : ¬ (b2 < b1 ∧ ((a1 = b1 ∧ a2 = b2) ∨ (a1 = a2 ∧ k1 = k2 ∧ a1 ≠ b1 ∧ a2 ≠ b2))) := fun h => by
          have := hf.2 h; rw [hfb] at this; cases this
        by_cases h : b1 ≤ b2
        · exact two_le a b _ w KS a1 b1 a2 b2 k1 k2 KA KB h
        · by_cases p : a1 = b1
          · have q : a2 ≠ b2 := fun q => hn ⟨by omega, .inl ⟨p, q⟩⟩
            by_cases r : a1 = a2
            · by_cases t : k1 = k2
              · exact two_x3 a b _ w KS a1 b1 a2 b2 k1 k2 KA KB h (beqT p).1 (beqT p).2 (beqF q).1 (beqF q).2 (beqT r).1 (beqT r).2 (beqT (natT t)).1 (beqT (natT t)).2
              · exact two_x2 a b _ w KS a1 b1 a2 b2 k1 k2 KA KB h (beqT p).1 (beqT p).2 (beqF q).1 (beqF q).2 (beqT r).1 (beqT r).2 (beqF (natF t)).1 (beqF (natF t)).2
            · exact two_x1 a b _ w KS a1 b1 a2 b2 k1 k2 KA KB h (beqT p).1 (beqT p).2 (beqF q).1 (beqF q).2 (beqF r).1 (beqF r).2
          · by_cases r : a1 = a2
            · by_cases t : k1 = k2
              · exfalso
                have h1 := o1.2.1
                have h2 := o2.2.1
                dsimp only at h1 h2
                exact hn ⟨by omega, .inr ⟨r, t, p, by omega⟩⟩
              · exact two_y2 a b _ w KS a1 b1 a2 b2 k1 k2 KA KB h (beqF p).1 (beqF p).2 (beqT r).1 (beqT r).2 (beqF (natF t)).1 (beqF (natF t)).2
            · exact two_y1 a b _ w KS a1 b1 a2 b2 k1 k2 KA KB h (beqF p).1 (beqF p).2 (beqF r).1 (beqF r).2
      · rw [if_pos hfb] at hp
        have e := prt_yes hp
        rw [e.1, e.2]
        have KR := Lib.hid (fun W => between_any W ((a2, b2, k2), b1) (ok_fol o1 o2 hfb) a1 k1 (fun i _ _ => fol_row o1 hfb i))
        obtain ⟨h1, h2⟩ := hf.1 hfb
        rcases h2 with ⟨p, q⟩ | ⟨r, t, p, q⟩
        · exact two_p1 a b _ w KS a1 b1 a2 b2 k1 k2 KA KB (by omega) (beqT p).1 (beqT p).2 (beqT q).1 (beqT q).2 _ KR
        · exact two_y3 a b _ w KS a1 b1 a2 b2 k1 k2 KA KB (by omega) (beqF p).1 (beqF p).2 (beqF q).1 (beqF q).2 (beqT r).1 (beqT r).2 (beqT (natT t)).1 (beqT (natT t)).2 _ KR
end Go.Proofs.Ytlpkaflmhdgmmaa
