/-
  Put together, what this law needs of: BetClrI, BetActG, BetRun, ActList.
-/
import Derived.Test.YtnllndcajdofjaaQbBetDoG
import Derived.Test.YtnllndcajdofjaaQbBetCG
import Derived.Test.YtnllndcajdofjaaQbBaseG
import Derived.Test.YtnllndcajdofjaaQbBetToG
import Derived.Deep.SlicePairs
import Derived.Deep.MidRow
namespace Go.Proofs.Ytnllndcajdofjaa
open Go.RowKit
set_option linter.unusedVariables false

/-- From the k-th place on, these. -/
def setFromI (xs : List Int) : Nat → List Int → List Int
  | _, [] => xs
  | k, v :: vs => setFromI (xs.set k v) (k + 1) vs
/-- A row of numbers is written from its k-th place on. -/
theorem Row.setAll : ∀ (vs : List Int) {w : World} {lo g off : Nat} {xs : List Int} (h : Row w lo (some ⟨g, off, none⟩) xs) (k : Nat) (hk : k + vs.length ≤ xs.length),
    Row (w.setCells g (off + k) (vs.map (Value.int .i64))) lo (some ⟨g, off, none⟩) (setFromI xs k vs) ∧ w.grownBy (w.setCells g (off + k) (vs.map (Value.int .i64))) (some g)
  | [], w, lo, g, off, xs, h, k, hk => ⟨h, World.grownBy.refl w _⟩
  | v :: vs, w, lo, g, off, xs, h, k, hk => by
    simp only [List.length_cons] at hk
    obtain ⟨s1, s2⟩ := h.setAt k (by omega) v
    obtain ⟨t1, t2⟩ := Row.setAll vs s1 (k + 1) (by rw [List.length_set]; omega)
    exact ⟨t1, World.grownBy.trans s2 t2⟩
end Go.Proofs.Ytnllndcajdofjaa


/-! Plain facts on actions: the chips, who can act, and which rounds are valid behind one. -/
namespace Go.Proofs.Ytnllndcajdofjaa
open Go.RowKit
set_option linter.unusedVariables false

theorem nth_set_if (xs : List Int) (i : Nat) (v : Int) (hi : i < xs.length) (j : Nat) : nth (xs.set i v) j = if i = j then v else nth xs j := by
  by_cases e : i = j
  · subst e; rw [if_pos rfl, nth_set_same _ _ _ hi]
  · rw [if_neg e, nth_set_other _ _ _ _ e]
theorem set_self (xs : List Int) (i : Nat) (v : Int) (h : v = nth xs i) : xs.set i v = xs := by
  by_cases hi : i < xs.length
  · refine List.ext_getElem (by simp) (fun j h1 h2 => ?_)
    have := nth_set_if xs i v hi j
    rw [nth_eq _ _ h1, nth_eq _ _ h2] at this
    rw [this]
    by_cases e : i = j
    · subst e; rw [if_pos rfl, h, nth_eq _ _ h2]
    · rw [if_neg e]
  · exact List.set_eq_of_length_le (by omega)
theorem nthB_false (n i : Nat) : nthB (List.replicate n false) i = false := by
  unfold nthB
  by_cases h : i < n
  · simp [h]
  · simp [h]
theorem maxK_le_sum (xs : List Int) (h : inC xs) : ∀ k, k ≤ xs.length → maxK xs k ≤ sumT xs k
  | 0, _ => Int.le_refl _
  | k + 1, hk => by
    have ih := maxK_le_sum xs h k (by omega)
    have h1 := sumT_bdC xs h k (by omega)
    have h2 := h k (by omega)
    have e1 : sumT xs (k + 1) = sumT xs k + nth xs k := rfl
    unfold maxK
    split <;> omega
theorem pot_top {b : Bt} (k : Ok b) : topI b ≤ potI b := by
  have h1 := maxK_le_sum b.bt k.s2 _ (Nat.le_refl _)
  have h2 := sumT_bdC b.pd k.s3 _ (Nat.le_refl _)
  unfold topI potI
  omega

theorem leg_cases {b : Bt} {k x : Int} (h : legB b k x = true) :
    (k = 0 ∧ x = 0) ∨ (k = 1 ∧ x = 0 ∧ checkB b = true) ∨ (k = 2 ∧ x = 0 ∧ 0 < callI b) ∨ (k = 3 ∧ 0 < mostI b ∧ leastI b ≤ x ∧ x ≤ mostI b) := by
  unfold legB at h
  by_cases e0 : k = 0
  · rw [if_pos e0] at h; exact .inl ⟨e0, by simpa using h⟩
  · rw [if_neg e0] at h
    by_cases e1 : k = 1
    · rw [if_pos e1] at h
      simp at h
      exact .inr (.inl ⟨e1, h.1, h.2⟩)
    · rw [if_neg e1] at h
      by_cases e2 : k = 2
      · rw [if_pos e2] at h
        simp at h
        exact .inr (.inr (.inl ⟨e2, h.1, h.2⟩))
      · rw [if_neg e2] at h
        by_cases e3 : k = 3
        · rw [if_pos e3] at h
          simp at h
          exact .inr (.inr (.inr ⟨e3, h.1.1, h.1.2, h.2⟩))
        · rw [if_neg e3] at h
          cases h
theorem call_facts {b : Bt} (k : Ok b) {i : Nat} (hi : b.tu = (i : Int)) : 0 ≤ callI b ∧ callI b ≤ nth b.st i ∧ nth b.bt i + callI b ≤ topI b ∧ (callI b = nth b.st i ∨ nth b.bt i + callI b = topI b) := by
  have h1 := k.t1
  rw [hi] at h1
  have h2 := k.s1 i (by omega)
  have h3 : nth b.bt i ≤ topI b := top_ge i (by have := k.l2; omega)
  have e1 : missI b = topI b - nth b.bt i := by unfold missI; rw [hi]; rfl
  have e2 : callI b = minT (missI b) (nth b.st i) := by unfold callI; rw [hi]; rfl
  have h4 := minT_le (missI b) (nth b.st i)
  rw [e2]
  omega
theorem may_facts {b : Bt} {i : Nat} (hi : b.tu = (i : Int)) (h : mayB b = true) : nthB b.ac i = false ∧ missI b < nth b.st i ∧ anoB b i = true := by
  unfold mayB at h
  rw [hi, Int.toNat_natCast] at h
  simp at h
  exact ⟨h.1.1.1, h.1.1.2, h.1.2⟩
theorem raise_facts {b : Bt} (k : Ok b) {i : Nat} (hi : b.tu = (i : Int)) (h : 0 < mostI b) : mayB b = true ∧ topI b < leastI b ∧ leastI b ≤ mostI b ∧ mostI b ≤ nth b.bt i + nth b.st i ∧ leastI b ≤ topI b + b.un := by
  have hm : mayB b = true := by
    rcases e : mayB b with _ | _
    · unfold mostI at h; rw [e] at h; simp at h
    · rfl
  have h1 := k.t1
  rw [hi] at h1
  obtain ⟨f1, f2, f3⟩ := may_facts hi hm
  have e1 : missI b = topI b - nth b.bt i := by unfold missI; rw [hi]; rfl
  have e2 : allIn b = nth b.bt i + nth b.st i := by unfold allIn; rw [hi]; rfl
  have e3 : mostI b = mostR b := by unfold mostI; rw [if_pos hm]
  have e4 : leastI b = minT (mostR b) (topI b + b.un) := by unfold leastI; rw [if_pos hm]
  have h5 := pot_top k
  have h6 := top_bd k.sd
  have h7 := k.u0
  have h8 : nth b.bt i ≤ topI b := top_ge i (by have := k.l2; omega)
  have h9 : topI b < mostR b ∧ mostR b ≤ allIn b := by
    rw [e3] at h
    unfold mostR at h ⊢
    by_cases c1 : b.li = 1
    · rw [if_pos c1] at h ⊢
      have := minT_le (allIn b) (topI b + potI b + missI b)
      omega
    · rw [if_neg c1] at h ⊢
      by_cases c2 : b.li = 2
      · rw [if_pos c2] at h ⊢
        have := minT_le (allIn b) (topI b + b.un)
        omega
      · rw [if_neg c2] at h ⊢
        omega
  have h10 := minT_le (mostR b) (topI b + b.un)
  rw [e3, e4]
  refine ⟨hm, ?_, ?_, ?_, ?_⟩ <;> omega
/-- What an action of the seat i leaves: d chips more are bet. -/
structure Act (b c : Bt) (k x : Int) (i : Nat) (d : Int) : Prop where
  st : c.st = b.st.set i (nth b.st i - d)
  bt : c.bt = b.bt.set i (nth b.bt i + d)
  pd : c.pd = b.pd
  d0 : 0 ≤ d
  d1 : d ≤ nth b.st i
  fo : c.fo = if k = 0 then b.fo.set i true else b.fo
  acl : c.ac.length = b.ac.length
  acI : nthB c.ac i = true
  acO : ∀ j, j ≠ i → nthB c.ac j = true → nthB b.ac j = true
  acK : k ≠ 3 → ∀ j, j ≠ i → nthB c.ac j = nthB b.ac j
  un : c.un = b.un ∨ (k = 3 ∧ b.un ≤ c.un ∧ c.un = x - topI b)
  ra : 0 ≤ c.ra ∧ c.ra ≤ 4
  li : c.li = b.li
  is : (k = 0 ∧ d = 0) ∨ (k = 1 ∧ d = 0 ∧ nth b.bt i = topI b) ∨ (k = 2 ∧ 0 < d ∧ (d = nth b.st i ∨ nth b.bt i + d = topI b) ∧ nth b.bt i + d ≤ topI b) ∨ (k = 3 ∧ nth b.bt i + d = x ∧ topI b < x ∧ leastI b ≤ x)
  to : (∃ q, q < b.st.length ∧ c.tu = seatAt b.st.length (leftI i b.st.length) q ∧ mustB c (seatAt b.st.length (leftI i b.st.length) q).toNat = true ∧ ∀ j, j < q → mustB c (seatAt b.st.length (leftI i b.st.length) j).toNat = false)
    ∨ (c.tu = i ∧ ∀ j, j < b.st.length → mustB c (seatAt b.st.length (leftI i b.st.length) j).toNat = false)

theorem turn_facts (y : Bt) (i : Nat) (hi : y.tu = (i : Int)) (n : Nat) (hn : y.st.length = n) :
    (∃ q, q < n ∧ (turnB y).tu = seatAt n (leftI i n) q ∧ mustB (turnB y) (seatAt n (leftI i n) q).toNat = true ∧ ∀ j, j < q → mustB (turnB y) (seatAt n (leftI i n) j).toNat = false)
    ∨ ((turnB y).tu = i ∧ ∀ j, j < n → mustB (turnB y) (seatAt n (leftI i n) j).toNat = false) := by
  subst hn
  have em : ∀ j, mustB (turnB y) j = mustB y j := fun j => rfl
  have et : (turnB y).tu = nxtI y := rfl
  simp only [em, et]
  unfold nxtI
  by_cases h : hopN y < y.st.length
  · rw [if_pos h]
    refine .inl ⟨hopN y, h, by rw [hi], ?_, fun j hj => ?_⟩
    · have := hopN_at y h
      rw [hi] at this
      exact this
    · have := hopN_before y j hj (by omega)
      rw [hi] at this
      exact this
  · rw [if_neg h]
    refine .inr ⟨hi, fun j hj => ?_⟩
    have := hopN_before y j (by omega) hj
    rw [hi] at this
    exact this
theorem act_of {b : Bt} {k x : Int} (h : Ok b) (hl : legB b k x = true) {i : Nat} (hi : b.tu = (i : Int)) : ∃ d, Act b (appB b k x) k x i d := by
  have h1 := h.t1
  rw [hi] at h1
  have hil : i < b.st.length := by omega
  have l2 := h.l2
  have l4 := h.l4
  have l5 := h.l5
  have hn : b.tu.toNat = i := by rw [hi]; rfl
  have s1 := h.s1 i hil
  have setT : ∀ xs : List Bool, i < xs.length → nthB (xs.set i true) i = true := fun xs hx => nthB_set_same _ _ _ hx
  have setO : ∀ (xs : List Bool) (j : Nat), j ≠ i → nthB (xs.set i true) j = nthB xs j := fun xs j hj => nthB_set_other _ _ _ _ (fun e => hj e.symm)
  have hr := h.r0
  have hr1 := h.r1
  rcases leg_cases hl with ⟨rfl, rfl⟩ | ⟨rfl, rfl, hc⟩ | ⟨rfl, rfl, hc⟩ | ⟨rfl, hm, hx0, hx1⟩
  · have e : setAc (actB b 0 0) = { b with fo := b.fo.set i true, ac := b.ac.set i true } := by
      unfold setAc actB foldB
      simp [hn]
    refine ⟨0, ⟨?_, ?_, ?_, Int.le_refl _, s1.1, ?_, ?_, ?_, ?_, ?_, ?_, ?_, ?_, .inl ⟨rfl, rfl⟩, ?_⟩⟩
    all_goals unfold appB
    all_goals rw [e]
    · exact (set_self b.st i _ (by omega)).symm
    · exact (set_self b.bt i _ (by omega)).symm
    · rfl
    · rw [if_pos rfl]; rfl
    · show (b.ac.set i true).length = _; rw [List.length_set]
    · exact setT _ (by omega)
    · intro j hj q; have q' : nthB (b.ac.set i true) j = true := q; rwa [setO _ _ hj] at q'
    · intro _ j hj; exact setO _ _ hj
    · exact .inl rfl
    · exact ⟨hr, hr1⟩
    · rfl
    · refine turn_facts _ i ?_ _ ?_
      · exact hi
      · rfl
  · have e : setAc (actB b 1 0) = { b with ac := b.ac.set i true } := by
      unfold setAc actB
      simp [hn]
    have ht : nth b.bt i = topI b := by
      unfold checkB missI at hc
      rw [hn] at hc
      have : topI b - nth b.bt i = 0 := by simpa using hc
      omega
    refine ⟨0, ⟨?_, ?_, ?_, Int.le_refl _, s1.1, ?_, ?_, ?_, ?_, ?_, ?_, ?_, ?_, .inr (.inl ⟨rfl, rfl, ht⟩), ?_⟩⟩
    all_goals unfold appB
    all_goals rw [e]
    · exact (set_self b.st i _ (by omega)).symm
    · exact (set_self b.bt i _ (by omega)).symm
    · rfl
    · rw [if_neg (by decide)]; rfl
    · show (b.ac.set i true).length = _; rw [List.length_set]
    · exact setT _ (by omega)
    · intro j hj q; have q' : nthB (b.ac.set i true) j = true := q; rwa [setO _ _ hj] at q'
    · intro _ j hj; exact setO _ _ hj
    · exact .inl rfl
    · exact ⟨hr, hr1⟩
    · rfl
    · refine turn_facts _ i ?_ _ ?_
      · exact hi
      · rfl
  · have e : setAc (actB b 2 0) = { b with st := b.st.set i (nth b.st i - callI b), bt := b.bt.set i (nth b.bt i + callI b), ac := b.ac.set i true } := by
      unfold setAc actB more
      simp [hn]
    obtain ⟨f1, f2, f3, f4⟩ := call_facts h hi
    refine ⟨callI b, ⟨?_, ?_, ?_, f1, f2, ?_, ?_, ?_, ?_, ?_, ?_, ?_, ?_, .inr (.inr (.inl ⟨rfl, hc, f4, f3⟩)), ?_⟩⟩
    all_goals unfold appB
    all_goals rw [e]
    · rfl
    · rfl
    · rfl
    · rw [if_neg (by decide)]; rfl
    · show (b.ac.set i true).length = _; rw [List.length_set]
    · exact setT _ (by omega)
    · intro j hj q; have q' : nthB (b.ac.set i true) j = true := q; rwa [setO _ _ hj] at q'
    · intro _ j hj; exact setO _ _ hj
    · exact .inl rfl
    · exact ⟨hr, hr1⟩
    · rfl
    · refine turn_facts _ i ?_ _ ?_
      · exact hi
      · show (b.st.set i _).length = _
        rw [List.length_set]
  · obtain ⟨f1, f2, f3, f4, f5⟩ := raise_facts h hi hm
    have e : setAc (actB b 3 x) = { b with st := b.st.set i (nth b.st i - (x - nth b.bt i)), bt := b.bt.set i (nth b.bt i + (x - nth b.bt i)), ra := minT (b.ra + 1) 4, un := (if fullB b x = true then x - topI b else b.un), ac := (if fullB b x = true then List.replicate b.ac.length false else b.ac).set i true } := by
      unfold setAc actB raiseB more
      simp [hn]
    have t2 : nth b.bt i ≤ topI b := top_ge i (by omega)
    have m4 := minT_le (b.ra + 1) 4
    refine ⟨x - nth b.bt i, ⟨?_, ?_, ?_, by omega, by omega, ?_, ?_, ?_, ?_, ?_, ?_, ?_, ?_, .inr (.inr (.inr ⟨rfl, by omega, by omega, by omega⟩)), ?_⟩⟩
    all_goals unfold appB
    all_goals rw [e]
    · rfl
    · rfl
    · rfl
    · rw [if_neg (show ¬ ((3 : Int) = 0) by decide)]; rfl
    · show ((if fullB b x = true then List.replicate b.ac.length false else b.ac).set i true).length = _
      rw [List.length_set]; split
      · rw [List.length_replicate]
      · rfl
    · refine setT _ ?_
      split
      · rw [List.length_replicate]; omega
      · omega
    · intro j hj q
      have q' : nthB ((if fullB b x = true then List.replicate b.ac.length false else b.ac).set i true) j = true := q
      rw [setO _ _ hj] at q'
      split at q'
      · rw [nthB_false] at q'; cases q'
      · exact q'
    · intro hk; exact absurd rfl hk
    · show (if fullB b x = true then x - topI b else b.un) = b.un ∨ (3 = 3 ∧ b.un ≤ (if fullB b x = true then x - topI b else b.un) ∧ (if fullB b x = true then x - topI b else b.un) = x - topI b)
      by_cases q : fullB b x = true
      · rw [if_pos q]
        unfold fullB at q
        exact .inr ⟨rfl, of_decide_eq_true q, rfl⟩
      · rw [if_neg q]; exact .inl rfl
    · show 0 ≤ minT (b.ra + 1) 4 ∧ minT (b.ra + 1) 4 ≤ 4
      omega
    · rfl
    · refine turn_facts _ i ?_ _ ?_
      · exact hi
      · show (b.st.set i _).length = _
        rw [List.length_set]
section
variable {b c : Bt} {k x : Int} {i : Nat} {d : Int}
end
end Go.Proofs.Ytnllndcajdofjaa

/-! Plain facts on rounds that are played from the blinds on: somebody who has not folded has bet the most, and no seat has more than a stack. -/
namespace Go.Proofs.Ytnllndcajdofjaa
open Go.RowKit
set_option linter.unusedVariables false

section
variable {b c : Bt} {k x : Int} {i : Nat} {d : Int} {f : Int}
end
end Go.Proofs.Ytnllndcajdofjaa

/-! Plain facts on rounds that are checked down, and on lists of actions. -/
namespace Go.Proofs.Ytnllndcajdofjaa
open Go.RowKit
set_option linter.unusedVariables false

/-- The code of an action. -/
noncomputable def actC (b : Bt) (k x : Int) : Int := if okB b = true then (if openB b = true then (if legB b k x = true then 0 else 2) else 5) else 1
end Go.Proofs.Ytnllndcajdofjaa

namespace Go.Proofs.Ytnllndcajdofjaa
open Go.RowKit
set_option linter.unusedVariables false

/-- The kind and the amount of the k-th action of a list laid flat. -/
def kaI (fl : List Int) (k : Nat) : Int := nth fl (k * 2)
def xaI (fl : List Int) (k : Nat) : Int := nth fl (k * 2 + 1)
/-- The round behind the first k actions. -/
def accB (b : Bt) (fl : List Int) : Nat → Bt
  | 0 => b
  | k + 1 => appB (accB b fl k) (kaI fl k) (xaI fl k)
/-- What the k-th action says to the round behind the ones before it. -/
noncomputable def accC (b : Bt) (fl : List Int) (k : Nat) : Int := actC (accB b fl k) (kaI fl k) (xaI fl k)
/-- The first k actions can be applied. -/
def AppTo (b : Bt) (fl : List Int) (k : Nat) : Prop := ∀ j, j < k → accC b fl j = 0
/-- How many actions are applied. -/
noncomputable def stopN (b : Bt) (fl : List Int) (n : Nat) : Nat := (List.range n).findIdx (fun k => !decide (accC b fl k = 0))
theorem stopN_le (b : Bt) (fl : List Int) (n : Nat) : stopN b fl n ≤ n := by
  have : stopN b fl n ≤ (List.range n).length := List.findIdx_le_length
  simpa using this
theorem stopN_before (b : Bt) (fl : List Int) (n : Nat) : AppTo b fl (stopN b fl n) := fun j hj => by
  have := List.not_of_lt_findIdx hj
  simpa using this
theorem stopN_at (b : Bt) (fl : List Int) (n : Nat) (h : stopN b fl n < n) : accC b fl (stopN b fl n) ≠ 0 := by
  have := List.findIdx_getElem (p := fun k => !decide (accC b fl k = 0)) (xs := List.range n) (w := by rw [List.length_range]; exact h)
  simpa [stopN] using this
theorem stopN_found (b : Bt) (fl : List Int) (n k : Nat) (hk : k < n) (h : AppTo b fl k) (hh : accC b fl k ≠ 0) : stopN b fl n = k := by
  have hl := stopN_le b fl n
  rcases Nat.lt_trichotomy (stopN b fl n) k with q | q | q
  · exact absurd (h _ q) (stopN_at b fl n (by omega))
  · exact q
  · exact absurd (stopN_before b fl n k q) hh
theorem stopN_none (b : Bt) (fl : List Int) (n : Nat) (h : AppTo b fl n) : stopN b fl n = n := by
  have hl := stopN_le b fl n
  rcases Nat.lt_or_ge (stopN b fl n) n with q | q
  · exact absurd (h _ q) (stopN_at b fl n q)
  · omega
/-- The round, the number and the code of a run. -/
noncomputable def runB (b : Bt) (fl : List Int) (n : Nat) : Bt := if okB b = true ∧ n ≤ 100 then accB b fl (stopN b fl n) else ⟨[], [], [], [], [], 0, 0, 0, 0⟩
noncomputable def runN (b : Bt) (fl : List Int) (n : Nat) : Int := if okB b = true ∧ n ≤ 100 then (stopN b fl n : Int) else 0
noncomputable def runC (b : Bt) (fl : List Int) (n : Nat) : Int := if okB b = true then (if n ≤ 100 then (if stopN b fl n < n then accC b fl (stopN b fl n) else 0) else 3) else 1
theorem run_bad {b : Bt} (fl : List Int) (n : Nat) (h : okB b = false) : runB b fl n = ⟨[], [], [], [], [], 0, 0, 0, 0⟩ ∧ runN b fl n = 0 ∧ runC b fl n = 1 := by
  unfold runB runN runC; rw [h]; simp
theorem run_long {b : Bt} (fl : List Int) (n : Nat) (h : okB b = true) (hn : ¬ n ≤ 100) : runB b fl n = ⟨[], [], [], [], [], 0, 0, 0, 0⟩ ∧ runN b fl n = 0 ∧ runC b fl n = 3 := by
  unfold runB runN runC; rw [h]; simp [hn]
theorem run_stop {b : Bt} (fl : List Int) (n k : Nat) (h : okB b = true) (hn : n ≤ 100) (hk : k < n) (ha : AppTo b fl k) (hh : accC b fl k ≠ 0) : runB b fl n = accB b fl k ∧ runN b fl n = k ∧ runC b fl n = accC b fl k := by
  have e := stopN_found b fl n k hk ha hh
  unfold runB runN runC; rw [h, e]; simp [hn, hk]
theorem run_all {b : Bt} (fl : List Int) (n : Nat) (h : okB b = true) (hn : n ≤ 100) (ha : AppTo b fl n) : runB b fl n = accB b fl n ∧ runN b fl n = n ∧ runC b fl n = 0 := by
  have e := stopN_none b fl n ha
  unfold runB runN runC; rw [h, e]; simp [hn]
theorem appTo_next {b : Bt} {fl : List Int} {k : Nat} (h : AppTo b fl k) (hh : accC b fl k = 0) : AppTo b fl (k + 1) := fun j hj => by
  by_cases e : j = k
  · subst e; exact hh
  · exact h j (by omega)
/-- The lists of a round behind actions are as long as ahead of them. -/
theorem app_lens (b : Bt) (k x : Int) : (appB b k x).st.length = b.st.length ∧ (appB b k x).bt.length = b.bt.length ∧ (appB b k x).pd.length = b.pd.length ∧ (appB b k x).fo.length = b.fo.length ∧ (appB b k x).ac.length = b.ac.length := by
  unfold appB turnB setAc actB foldB more raiseB
  split <;> (try split) <;> (try split) <;> simp [more] <;> split <;> simp
theorem acc_lens (b : Bt) (fl : List Int) : ∀ k, (accB b fl k).st.length = b.st.length ∧ (accB b fl k).bt.length = b.bt.length ∧ (accB b fl k).pd.length = b.pd.length ∧ (accB b fl k).fo.length = b.fo.length ∧ (accB b fl k).ac.length = b.ac.length
  | 0 => ⟨rfl, rfl, rfl, rfl, rfl⟩
  | k + 1 => by
    obtain ⟨a1, a2, a3, a4, a5⟩ := acc_lens b fl k
    obtain ⟨c1, c2, c3, c4, c5⟩ := app_lens (accB b fl k) (kaI fl k) (xaI fl k)
    exact ⟨c1.trans a1, c2.trans a2, c3.trans a3, c4.trans a4, c5.trans a5⟩
end Go.Proofs.Ytnllndcajdofjaa

namespace Go.Proofs.Ytnllndcajdofjaa
open Go.Joins Go.ChangeShapes Go.WideShapes Go.ChangeAt Go.RowKit Go.Deep
set_option linter.unusedVariables false
set_option linter.unusedSimpArgs false

set_option maxRecDepth 100000 in
theorem infoAct : (Try.prog.info? 34).map (fun i => (i.zero, i.size, i.bytes)) = some (some (.agg #[.int .i64 0, .int .i64 0]), 2, 16) := by kernel_rfl
set_option maxRecDepth 100000 in
theorem sizeAct : (Try.prog.info? 34).map (·.size) = some 2 := by kernel_rfl
set_option maxRecDepth 100000 in
theorem sizeI64 : (Try.prog.info? 2).map (·.size) = some 1 := by kernel_rfl
theorem madeTwo (n : Nat) : (madeCells #[Value.int .i64 0, .int .i64 0] (n * 2)).toList = ints (List.replicate (n * 2) 0) := by
  rw [← ints_zeros]
  apply List.ext_getElem?
  intro j
  by_cases hj : j < n * 2
  · rcases Nat.mod_two_eq_zero_or_one j with e | e <;> simp [madeCells, hj, e]
  · simp [madeCells, hj]
/-- Two numbers are stored into a row, as one action. -/
theorem wpList_store_act {ops : Array Oper} {rest : List Oper} {o : Oper} {a : Go.Act} {w : World} {Q : Exit → Go.Act → World → Prop} (hgd : o.guard = none) (x y : Operand) (ho : o.op = .store 34 x y)
    (g off k lo : Nat) (fl : List Int) (p q : Int) (h : Row w lo (some ⟨g, off, none⟩) fl) (hk : k + 2 ≤ fl.length)
    (hx : a.eval x = .pointer (some ⟨g, off + k, none⟩)) (hy : a.eval y = .agg #[.int .i64 p, .int .i64 q])
    (hK : ∀ w', Row w' lo (some ⟨g, off, none⟩) ((fl.set k p).set (k + 1) q) → w.grownBy w' (some g) → wpList Try.prog ops Q rest (a.put o.dst undef) w') : wpList Try.prog ops Q (o :: rest) a w := by
  obtain ⟨s1, s2⟩ := Row.setAll [p, q] h k hk
  refine wpList_store_mid hgd 34 x y ho g (off + k) #[.int .i64 p, .int .i64 q] hx hy (fun j hj => ?_) sizeAct (by simp [Value.oneCell']) (hK _ s1 s2)
  obtain ⟨g', off', e, hc⟩ := h.2 (by omega)
  injection e with e
  injection e with e1 e2
  subst e1 e2
  have hj2 : j < 2 := hj
  have hc' := hc (k + j) (by omega)
  rw [← Nat.add_assoc] at hc'
  exact ⟨by rw [hc'.1]; rfl, hc'.2⟩
/-- One number is stored into a row. -/
theorem wpList_store_rw {ops : Array Oper} {rest : List Oper} {o : Oper} {a : Go.Act} {w : World} {Q : Exit → Go.Act → World → Prop} (hgd : o.guard = none) (x y : Operand) (ho : o.op = .store 2 x y)
    (g off k lo : Nat) (fl : List Int) (p : Int) (h : Row w lo (some ⟨g, off, none⟩) fl) (hk : k < fl.length)
    (hx : a.eval x = .pointer (some ⟨g, off + k, none⟩)) (hy : a.eval y = .int .i64 p)
    (hK : ∀ w', Row w' lo (some ⟨g, off, none⟩) (fl.set k p) → w.grownBy w' (some g) → wpList Try.prog ops Q rest (a.put o.dst undef) w') : wpList Try.prog ops Q (o :: rest) a w :=
  wpList_plain hgd fun _ hK' => by
    obtain ⟨g', off', e, hc⟩ := h.2 (by omega)
    injection e with e
    injection e with e1 e2
    subst e1 e2
    have hc' := hc k hk
    obtain ⟨k1, k2⟩ := h.setAt k hk p
    unfold Oper.wp execOp
    simp only [ho, hx, hy, Instr.storeAt, Instr.sureAddr, Sem.run_bind, Sem.run_pure, Result.andThen_ok, run_store1 w _ 2 (.int .i64 p) _ sizeI64 rfl hc'.1 hc'.2]
    exact hK' _ _ (hK _ k1 k2)
set_option maxRecDepth 100000 in
set_option maxHeartbeats 400000 in
theorem szActs_any (A : Option Addr) (n c : Nat) (q : Int) (w : World) (h0 : 0 ≤ q) (h1 : q ≤ 2000000) (hn : n ≤ 9223372036854775807) :
    Calls Try.prog 61 #[.slice A n c, .int .i64 q] w (Same (.int .i64 (if q - n < 0 then -1 else q - n)) w) := by
  by_cases hq : q - n < 0
  · rw [if_pos hq]
    go_enter Try.func61, Try.ntmps61
    go_wp2_with fail
    go_ret
    exact ⟨rfl, rfl⟩
  · rw [if_neg hq]
    go_enter Try.func61, Try.ntmps61
    go_wp2_with fail
    go_ret
    exact ⟨rfl, rfl⟩
/-- Actions in new memory. -/
def NewAct (fl : List Int) (n : Nat) (w : World) (e : Ending) (w' : World) : Prop := ∃ A c, e = .returned (.slice A n c) ∧ Row w' w.heap.size A fl ∧ Below w.heap.size w w'
/-- Two numbers of a flat list. -/
theorem two_at {w w' : World} {A : Option Addr} {fl : List Int} {n k : Nat} (h : Rd w A fl) (hl : fl.length = n * 2) (hk : k < n) (hb : Below w.heap.size w w') :
    ∃ b off, A = some ⟨b, off, none⟩ ∧ w'.cell? ⟨b, off + k * 2, none⟩ = some (.int .i64 (nth fl (k * 2))) ∧ w'.cell? ⟨b, off + k * 2 + 1, none⟩ = some (.int .i64 (nth fl (k * 2 + 1))) := by
  obtain ⟨bA, oA, rfl, hcx⟩ := h.at_ hb (k * 2) (by omega)
  obtain ⟨bA', oA', eA', hcy⟩ := h.at_ hb (k * 2 + 1) (by omega)
  obtain ⟨rfl, rfl⟩ : bA = bA' ∧ oA = oA' := by simpa using eA'
  exact ⟨bA, oA, rfl, hcx, hcy⟩
set_option maxRecDepth 100000 in
set_option maxHeartbeats 1000000 in
theorem toActs_any (A : Option Addr) (c n : Nat) (fl : List Int) (w : World) (hr : Rd w A fl) (hl : fl.length = n * 2) (hn : n ≤ 1048576) :
    Calls Try.prog 62 #[.slice A n c] w (NewAct fl n w) := by
  obtain ⟨i0, hi, hz0, hz1, hz2⟩ := info_parts infoAct
  have HR := Lib.hid hr
  have HL := Lib.hid hl
  clear hr hl
  obtain ⟨w0, rfl⟩ : ∃ w0 : World, w0 = w := ⟨w, rfl⟩
  go_enter Try.func62, Try.ntmps62
  go_wp2_with (at_make; refine wpList_make_full _ rfl _ _ 53 rfl w0.heap.size 34 i0 (.agg #[.int .i64 0, .int .i64 0]) 2 Try.underlying53 hi hz0 hz1 .i64 .i64 _ _ n rfl rfl rfl rfl ?c1 ?c2 (Nat.le_refl _) ?_)
  case c1 => rw [hz2]; omega
  case c2 => unfold maxLen; omega
  intro w1 hown hgrow
  have HS : Hid (Row w1 w0.heap.size (some ⟨w0.heap.size, 0, none⟩) (mix fl (0 * 2)) ∧ Below w0.heap.size w0 w1) := Lib.hid ⟨⟨fun a e => World.ownsRow.lt hown a.block (by injection e with e; subst e; rfl), fun h0 => ⟨w0.heap.size, 0, rfl, fun i hi => ?_⟩⟩, (bl_refl _).grown hgrow (Nat.le_refl _) (fun j hj => by cases hj)⟩
  rotate_left
  · rw [Nat.zero_mul, mix_zero] at hi ⊢
    rw [List.length_replicate, HL.out] at hi
    rw [Nat.zero_add]
    refine ⟨?_, World.ownsRow.frozenAt hown i⟩
    rw [World.ownsRow.cellAt hown i hi, HL.out]
    show (madeCells #[Value.int .i64 0, .int .i64 0] (n * 2)).toList[i]? = _
    rw [madeTwo, ints_get _ _ (by rw [List.length_replicate]; exact hi)]
  clear hown hgrow
  go_wp2_with fail
  go_loopw [4] (fun i wr => ∃ k : Nat, k ≤ n ∧ i = .int .i64 k ∧ Hid (Row wr w0.heap.size (some ⟨w0.heap.size, 0, none⟩) (mix fl (k * 2)) ∧ Below w0.heap.size w0 wr)) (fun i _ => n - (intOf i).toNat)
  case atStart => exact ⟨0, Nat.zero_le _, rfl, HS⟩
  case round =>
    obtain ⟨k, hk, rfl, hs⟩ := hrel
    clear HS
    by_cases hlt : k < n
    · obtain ⟨b, off, rfl, hc, hc'⟩ := two_at HR.out HL.out hlt hs.out.2
      have hlt' : (k : Int) < n := by omega
      have HK := Lib.hid (fun W : World => toAction_any (nth fl (k * 2)) (nth fl (k * 2 + 1)) W)
      unfold acV at HK
      go_wp2_with (first
        | (go_at_call 127; refine (HK.out _).mono ?_; rintro e w3 ⟨rfl, hb⟩; have RW := Lib.hid (hs.out.1.below hb); have BW := Lib.hid (bl_trans hs.out.2 hb); clear hb)
        | (refine wpList_store_act rfl (.tmp 21) (.tmp 20) rfl w0.heap.size 0 (k * 2) w0.heap.size (mix fl (k * 2)) (nth fl (k * 2)) (nth fl (k * 2 + 1)) RW.out (by have := HL.out; rw [mix_length fl _ (by omega)]; omega) (by first | rfl | (rw [Nat.zero_add]; rfl)) rfl ?_; intro w4 hr hg; have HN : Hid (Row w4 w0.heap.size (some ⟨w0.heap.size, 0, none⟩) (mix fl ((k + 1) * 2)) ∧ Below w0.heap.size w0 w4) := Lib.hid ⟨(by have := HL.out; rw [mix_set fl (k * 2) (by omega), mix_set fl (k * 2 + 1) (by omega)] at hr; rw [show (k + 1) * 2 = k * 2 + 1 + 1 by omega]; exact hr), BW.out.grown hg BW.out.size (fun j hj => by injection hj with hj; omega)⟩; clear hr hg))
      go_roundw
      case rel => exact ⟨k + 1, by omega, by go_num, HN⟩
      case measure => simp [intOf]; omega
    · obtain rfl : k = n := by omega
      go_wp2_with fail
      go_ret
      have h := hs.out
      rw [← HL.out, mix_all] at h
      exact ⟨_, _, rfl, h.1, h.2⟩
set_option maxRecDepth 100000 in
set_option maxHeartbeats 1000000 in
theorem eqAct_any (k x : Int) (w : World) :
    Calls Try.prog 128 #[.agg #[.int .i64 k, .int .i64 x], .agg #[.int .i64 k, .int .i64 x]] w (Fresh (.bool true) w) := by
  have b1 := bl_alloc (bl_refl w) (.cells ([.int .i64 k, .int .i64 x] : List Value).toArray 34)
  have b2 := bl_alloc (bl_refl (w.alloc (.cells ([.int .i64 k, .int .i64 x] : List Value).toArray 34))) (.cells ([.int .i64 k, .int .i64 x] : List Value).toArray 34)
  have n1 := (blk_new w 34 [.int .i64 k, .int .i64 x]).below b2
  have n2 := blk_new (w.alloc (.cells ([.int .i64 k, .int .i64 x] : List Value).toArray 34)) 34 [.int .i64 k, .int .i64 x]
  rw [World.size_alloc] at n2
  have BB := Lib.hid (bl_trans b1 b2)
  obtain ⟨q0, -⟩ := n1.cell 0 _ rfl
  obtain ⟨q1, -⟩ := n1.cell 1 _ rfl
  obtain ⟨r0, -⟩ := n2.cell 0 _ rfl
  obtain ⟨r1, -⟩ := n2.cell 1 _ rfl
  clear n1 n2 b1 b2
  have u0 : (k != k) = false := by simp
  have u1 : (x != x) = false := by simp
  go_enter Try.func128, Try.ntmps128
  go_wp2_with fail
  go_ret
  exact ⟨rfl, BB.out⟩
set_option maxRecDepth 100000 in
set_option maxHeartbeats 1000000 in
theorem eqActs_same (A B : Option Addr) (c c2 n : Nat) (fl : List Int) (w : World) (hr : Rd w A fl) (hq : Rd w B fl) (hl : fl.length = n * 2) (hn : n ≤ 4000000) :
    Calls Try.prog 63 #[.slice A n c, .slice B n c2] w (Fresh (.bool true) w) := by
  have hmx : Try.prog.follows .mixedOrders = true := by kernel_rfl
  have HR := Lib.hid hr
  have HQ := Lib.hid hq
  have HL := Lib.hid hl
  clear hr hq hl
  obtain ⟨w0, rfl⟩ : ∃ w0 : World, w0 = w := ⟨w, rfl⟩
  go_enter Try.func63, Try.ntmps63
  go_wp2_with fail
  go_loopw [5] (fun i wr => ∃ k : Nat, k ≤ n ∧ i = .int .i64 k ∧ Hid (Below w0.heap.size w0 wr)) (fun i _ => n - (intOf i).toNat)
  case atStart => exact ⟨0, Nat.zero_le _, rfl, Lib.hid (bl_refl _)⟩
  case round =>
    obtain ⟨k, hk, rfl, hs⟩ := hrel
    by_cases hlt : k < n
    · obtain ⟨b, off, rfl, h1, h2⟩ := two_at HR.out HL.out hlt hs.out
      obtain ⟨d, pff, rfl, h3, h4⟩ := two_at HQ.out HL.out hlt hs.out
      have hlt' : (k : Int) < n := by omega
      generalize nth fl (k * 2) = p at *
      generalize nth fl (k * 2 + 1) = q at *
      have E1a := Lib.hid (fun (W' : World) (hI : Below wr.heap.size wr W') => (hI.cell (p := ⟨b, off + k * 2, none⟩) (World.block_lt_of_cell? wr _ h1)).trans h1)
      have E2a := Lib.hid (fun (W' : World) (hI : Below wr.heap.size wr W') => (hI.cell (p := ⟨b, off + k * 2 + 1, none⟩) (World.block_lt_of_cell? wr _ h2)).trans h2)
      have E3a := Lib.hid (fun (W' : World) (hI : Below wr.heap.size wr W') => (hI.cell (p := ⟨d, pff + k * 2, none⟩) (World.block_lt_of_cell? wr _ h3)).trans h3)
      have E4a := Lib.hid (fun (W' : World) (hI : Below wr.heap.size wr W') => (hI.cell (p := ⟨d, pff + k * 2 + 1, none⟩) (World.block_lt_of_cell? wr _ h4)).trans h4)
      clear h1 h2 h3 h4
      go_wp2_with fail
      refine wp_region_W (last := 9) (k := 9) hmx rfl (fun HC0 => ?_)
      refine wpAnyR_takeL (i := 0) (kw := 4) (v := .slice (some ⟨b, off, none⟩) n c) (fun _ => bl_refl _) (fun p q => bl_trans p q) rfl rfl (by kernel_rfl) (by kernel_rfl) (by kernel_rfl) (by kernel_rfl) (fun _ _ _ h => h) HC0 (Or.inl ⟨by kernel_rfl, fun W' hI => ?_⟩) (fun HC1 => ?_)
      · exact .inl (by go_simp)
      refine wpAnyR_takeL (i := 1) (kw := 4) (v := .int .i64 k) (fun _ => bl_refl _) (fun p q => bl_trans p q) rfl rfl (by kernel_rfl) (by kernel_rfl) (by kernel_rfl) (by kernel_rfl) (fun _ _ _ h => h) HC1 (Or.inl ⟨by kernel_rfl, fun W' hI => ?_⟩) (fun HC2 => ?_)
      · exact .inl (by go_simp)
      refine wpAnyR_takeL (i := 2) (kw := 3) (v := .pointer (some ⟨b, off + k * 2, none⟩)) (fun _ => bl_refl _) (fun p q => bl_trans p q) rfl rfl (by kernel_rfl) (by kernel_rfl) (by kernel_rfl) (by kernel_rfl) (fun _ _ _ h => h) HC2 (Or.inl ⟨by kernel_rfl, fun W' hI => ?_⟩) (fun HC3 => ?_)
      · exact .inl (by go_simp)
      refine wpAnyR_takeL (i := 3) (kw := 2) (v := .agg #[.int .i64 p, .int .i64 q]) (fun _ => bl_refl _) (fun p q => bl_trans p q) rfl rfl (by kernel_rfl) (by kernel_rfl) (by kernel_rfl) (by kernel_rfl) (fun _ _ _ h => h) HC3 (Or.inl ⟨by kernel_rfl, fun W' hI => ?_⟩) (fun HC4 => ?_)
      · have hx0 := E1a.out W' hI
        have hx1 := E2a.out W' hI
        exact .inl (by go_simp)
      refine wpAnyR_takeL (i := 4) (kw := 4) (v := .slice (some ⟨d, pff, none⟩) n c2) (fun _ => bl_refl _) (fun p q => bl_trans p q) rfl rfl (by kernel_rfl) (by kernel_rfl) (by kernel_rfl) (by kernel_rfl) (fun _ _ _ h => h) HC4 (Or.inl ⟨by kernel_rfl, fun W' hI => ?_⟩) (fun HC5 => ?_)
      · exact .inl (by go_simp)
      refine wpAnyR_takeL (i := 5) (kw := 4) (v := .int .i64 k) (fun _ => bl_refl _) (fun p q => bl_trans p q) rfl rfl (by kernel_rfl) (by kernel_rfl) (by kernel_rfl) (by kernel_rfl) (fun _ _ _ h => h) HC5 (Or.inl ⟨by kernel_rfl, fun W' hI => ?_⟩) (fun HC6 => ?_)
      · exact .inl (by go_simp)
      refine wpAnyR_takeL (i := 6) (kw := 3) (v := .pointer (some ⟨d, pff + k * 2, none⟩)) (fun _ => bl_refl _) (fun p q => bl_trans p q) rfl rfl (by kernel_rfl) (by kernel_rfl) (by kernel_rfl) (by kernel_rfl) (fun _ _ _ h => h) HC6 (Or.inl ⟨by kernel_rfl, fun W' hI => ?_⟩) (fun HC7 => ?_)
      · exact .inl (by go_simp)
      refine wpAnyR_takeL (i := 7) (kw := 2) (v := .agg #[.int .i64 p, .int .i64 q]) (fun _ => bl_refl _) (fun p q => bl_trans p q) rfl rfl (by kernel_rfl) (by kernel_rfl) (by kernel_rfl) (by kernel_rfl) (fun _ _ _ h => h) HC7 (Or.inl ⟨by kernel_rfl, fun W' hI => ?_⟩) (fun HC8 => ?_)
      · have hx0 := E3a.out W' hI
        have hx1 := E4a.out W' hI
        exact .inl (by go_simp)
      refine wpAnyR_takeL (i := 8) (kw := 1) (v := .bool true) (fun _ => bl_refl _) (fun p q => bl_trans p q) rfl rfl (by kernel_rfl) (by kernel_rfl) (by kernel_rfl) (by kernel_rfl) (fun _ _ _ h => h) HC8 (Or.inl ⟨by kernel_rfl, fun W' hI => ?_⟩) (fun HC9 => ?_)
      · exact .inr ⟨128, #[.agg #[.int .i64 p, .int .i64 q], .agg #[.int .i64 p, .int .i64 q]], by go_simp, eqAct_any p q W'⟩
      refine wpAnyR_lastL (by kernel_rfl) (by kernel_rfl) rfl (by kernel_rfl) (fun wR hrR => ⟨bl_drewT hrR, ?_⟩)
      intro K hK
      have BR := Lib.hid (bl_drewT hrR)
      clear hrR

      go_simp
      refine hK _ _ ?_
      clear hK K
      go_wp2_with fail
      go_roundw
      case rel => exact ⟨k + 1, by omega, by go_num, Lib.hid (bl_trans hs.out BR.out)⟩
      case measure => simp [intOf]; omega
    · obtain rfl : k = n := by omega
      go_wp2_with fail
      go_ret
      exact ⟨rfl, hs.out⟩
/-- What marking leaves. -/
def MarkPostA (w : World) (lo : Nat) (k0 : Int) (A : Option Addr) (c n : Nat) (e : Ending) (w' : World) : Prop :=
  e = .returned (.int .i64 (k0 + (n * 2 : Nat))) ∧ Row w' lo A (marks k0 (n * 2)) ∧ w.grownBy w' (Value.slice A n c).ownBlock
set_option maxRecDepth 100000 in
set_option maxHeartbeats 1000000 in
theorem markActs_any (A : Option Addr) (c lo n : Nat) (fl : List Int) (k0 : Int) (w : World) (h : Row w lo A fl) (hl : fl.length = n * 2) (hn : n ≤ 4000000) (h0 : 0 ≤ k0) (h1 : k0 ≤ 100000000) :
    Calls Try.prog 64 #[.slice A n c, .int .i64 k0] w (MarkPostA w lo k0 A c n) := by
  have HS : Hid (Row w lo A (marked k0 fl (0 * 2)) ∧ w.grownBy w (Value.slice A n c).ownBlock) := Lib.hid ⟨by rw [Nat.zero_mul, marked_zero]; exact h, World.grownBy.refl w _⟩
  have HL := Lib.hid hl
  clear h hl
  obtain ⟨w0, rfl⟩ : ∃ w0 : World, w0 = w := ⟨w, rfl⟩
  go_enter Try.func64, Try.ntmps64
  go_wp2_with fail
  go_loopw [1, 5] (fun q i wr => ∃ k : Nat, k ≤ n ∧ i = .int .i64 k ∧ q = .int .i64 (k0 + k + k) ∧ Hid (Row wr lo A (marked k0 fl (k * 2)) ∧ w0.grownBy wr (Value.slice A n c).ownBlock)) (fun _ i _ => n - (intOf i).toNat)
  case atStart => exact ⟨0, Nat.zero_le _, rfl, by go_num, HS⟩
  case round =>
    obtain ⟨k, hk, rfl, rfl, hs⟩ := hrel
    clear HS
    by_cases hlt : k < n
    · obtain ⟨g, off, rfl, hc⟩ := hs.out.1.2 (by have := HL.out; rw [marked_length _ _ _ (by omega)]; omega)
      clear hc
      have T1 : k * 2 < (marked k0 fl (k * 2)).length := by have := HL.out; rw [marked_length k0 fl (k * 2) (by omega)]; omega
      have T3 : ∀ u v : World, w0.grownBy u (Value.slice (some ⟨g, off, none⟩) n c).ownBlock → u.grownBy v (some g) → w0.grownBy v (Value.slice (some ⟨g, off, none⟩) n c).ownBlock := fun u v h1 h2 => World.grownBy.trans h1 h2
      have e1 := marked_set k0 fl (k * 2) (by have := HL.out; omega)
      have e2 := marked_set k0 fl (k * 2 + 1) (by have := HL.out; omega)
      rw [show (k0 + ((k * 2 : Nat) : Int)) = k0 + k + k by omega] at e1
      rw [show (k0 + ((k * 2 + 1 : Nat) : Int)) = k0 + k + k + 1 by omega] at e2
      have T4 : ((marked k0 fl (k * 2)).set (k * 2) (k0 + k + k)).set (k * 2 + 1) (k0 + k + k + 1) = marked k0 fl ((k + 1) * 2) := by rw [e1, e2, show (k + 1) * 2 = k * 2 + 1 + 1 by omega]
      clear e1 e2
      have T2 : k * 2 + 1 < ((marked k0 fl (k * 2)).set (k * 2) (k0 + k + k)).length := by have := HL.out; rw [List.length_set, marked_length k0 fl (k * 2) (by omega)]; omega
      have hlt' : (k : Int) < n := by omega
      go_wp2_with (first
        | (refine wpList_store_rw rfl (.tmp 16) (.tmp 14) rfl g off (k * 2) lo (marked k0 fl (k * 2)) (k0 + k + k) hs.out.1 (by have := HL.out; rw [marked_length _ fl _ (by omega)]; omega) rfl rfl ?_; intro w4 hr hg; have R4 := Lib.hid hr; have G4 := Lib.hid (T3 _ _ hs.out.2 hg); clear hr hg)
        | (refine wpList_store_rw rfl (.tmp 23) (.tmp 21) rfl g off (k * 2 + 1) lo _ (k0 + k + k + 1) R4.out T2 rfl rfl ?_; intro w5 hr hg; rw [T4] at hr; have HN := Lib.hid hr; have GN := Lib.hid (T3 _ _ G4.out hg); clear hr hg))
      go_roundw
      case rel => exact ⟨k + 1, by omega, by go_num, by go_num, Lib.hid ⟨HN.out, GN.out⟩⟩
      case measure => simp [intOf]; omega
    · obtain rfl : k = n := by omega
      go_wp2_with fail
      go_ret
      have h := hs.out
      rw [← HL.out, marked_all, HL.out] at h
      exact ⟨by rw [show (k0 + ((k * 2 : Nat) : Int)) = k0 + k + k by omega]; rfl, h.1, h.2⟩
set_option maxRecDepth 100000 in
/-- A list of actions as a law's argument. -/
theorem open_acts {H : Type} {enc : TypeId × Value → H} {W : World} {base : Nat} {v : Value} {d : DataW H} {p : List MemPlace}
    (hv : Value.okWide Try.prog W .any base 74 v) (h : DataW.Trod enc Try.prog W 0 (fun _ => true) true 74 v d p) :
    ∃ (A : Option Addr) (c n : Nat) (fl : List Int), v = .slice A n c ∧ n ≤ maxLen ∧ fl.length = n * 2 ∧ Rd W A fl := by
  obtain ⟨a0, len, cap, rfl⟩ := okWide_slice Try.underlying74 hv
  obtain ⟨fuel, hf⟩ := h
  rcases open_slice_pairs Try.underlying74 Try.underlying128 (by kernel_rfl) rfl rfl (by kernel_rfl) (by kernel_rfl) hf with ⟨hcs, hx⟩ | ⟨a, len', cap', m, nn, V0, V1, D0, D1, P0, P1, hcs, _, hl, hm, hmm, hx, hcell⟩
  · simp [Value.cells] at hcs
    obtain ⟨rfl, rfl, rfl⟩ := hcs
    exact ⟨none, 0, 0, [], rfl, by unfold maxLen; simp, rfl, fun h => by simp at h⟩
  · simp [Value.cells] at hcs
    obtain ⟨rfl, rfl, rfl⟩ := hcs
    have hlm : len ≤ m := by rw [hmm]; split <;> omega
    have E : ∀ i, i < m → ∃ (p q : Int), V0 i = .int .i64 p ∧ V1 i = .int .i64 q := fun i hi => by
      obtain ⟨_, _, t0, t1⟩ := hcell i hi
      obtain ⟨x0, e0, _, w0⟩ := DataW.trod_int Try.underlying2 t0
      obtain ⟨x1, e1, _, w1⟩ := DataW.trod_int Try.underlying2 t1
      simp at e0 e1
      exact ⟨x0, x1, e0, e1⟩
    have hT : ∀ i : Nat, ∃ z : Int, i < m * 2 → W.cell? (a.add i) = some (.int .i64 z) := fun i => by
      by_cases hi : i < m * 2
      · obtain ⟨c0, c1, -, -⟩ := hcell (i / 2) (by omega)
        obtain ⟨p, q, e0, e1⟩ := E (i / 2) (by omega)
        rcases Nat.mod_two_eq_zero_or_one i with e | e
        · exact ⟨p, fun _ => by rw [show i = i / 2 * 2 by omega, c0, e0]⟩
        · exact ⟨q, fun _ => by rw [show i = i / 2 * 2 + 1 by omega, c1, e1]⟩
      · exact ⟨0, fun h => absurd h hi⟩
    obtain ⟨T, hT⟩ := Classical.axiomOfChoice hT
    refine ⟨some a, cap, len, (List.range (len * 2)).map T, rfl, by omega, by simp, fun h0 => ?_⟩
    simp only [List.length_map, List.length_range] at h0
    obtain ⟨b, off, spot⟩ := a
    have hspot : spot = none := by simpa [Addr.add] using World.cell?_spot (hT 0 (by omega))
    subst hspot
    refine ⟨b, off, rfl, fun i hi => ?_⟩
    simp only [List.length_map, List.length_range] at hi
    have := hT i (by omega)
    rw [Go.WideShapes.add_plain] at this
    rw [this, nth_eq _ _ (by simpa using hi)]
    simp
end Go.Proofs.Ytnllndcajdofjaa
