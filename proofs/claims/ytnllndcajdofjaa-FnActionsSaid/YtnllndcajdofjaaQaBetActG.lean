/-
  Put together: BetAct, BetInv, BetDown
-/
import Derived.Test.YtnllndcajdofjaaQaBetAG
import Derived.Test.YtnllndcajdofjaaQaAnySG

/-! Plain facts on actions: the chips, who can act, and which rounds are valid behind one. -/
namespace Go.Proofs.Ytnllndcajdofjaa
open Go.RowKit
set_option linter.unusedVariables false

theorem sumT_set_to (xs : List Int) (i : Nat) (v : Int) (hi : i < xs.length) : ∀ k, sumT (xs.set i v) k = sumT xs k + (if i < k then v - nth xs i else 0)
  | 0 => by simp [sumT]
  | k + 1 => by
    have ih := sumT_set_to xs i v hi k
    have e1 : sumT (xs.set i v) (k + 1) = sumT (xs.set i v) k + nth (xs.set i v) k := rfl
    have e2 : sumT xs (k + 1) = sumT xs k + nth xs k := rfl
    rw [e1, e2, ih]
    by_cases e : i = k
    · subst e
      rw [nth_set_same _ _ _ hi, if_neg (by omega), if_pos (by omega)]; omega
    · rw [nth_set_other _ _ _ _ e]
      by_cases q : i < k
      · rw [if_pos q, if_pos (by omega)]; omega
      · rw [if_neg q, if_neg (by omega)]; omega
theorem sumT_set (xs : List Int) (i : Nat) (v : Int) (hi : i < xs.length) : sumT (xs.set i v) (xs.set i v).length = sumT xs xs.length + (v - nth xs i) := by
  rw [List.length_set, sumT_set_to xs i v hi, if_pos hi]
theorem nth_set_if (xs : List Int) (i : Nat) (v : Int) (hi : i < xs.length) (j : Nat) : nth (xs.set i v) j = if i = j then v else nth xs j := by
  by_cases e : i = j
  · subst e; rw [if_pos rfl, nth_set_same _ _ _ hi]
  · rw [if_neg e, nth_set_other _ _ _ _ e]
theorem nthB_set_if (xs : List Bool) (i : Nat) (v : Bool) (hi : i < xs.length) (j : Nat) : nthB (xs.set i v) j = if i = j then v else nthB xs j := by
  by_cases e : i = j
  · subst e; rw [if_pos rfl, nthB_set_same _ _ _ hi]
  · rw [if_neg e, nthB_set_other _ _ _ _ e]
theorem set_self (xs : List Int) (i : Nat) (v : Int) (h : v = nth xs i) : xs.set i v = xs := by
  by_cases hi : i < xs.length
  · refine List.ext_getElem (by simp) (fun j h1 h2 => ?_)
    have := nth_set_if xs i v hi j
    rw [nth_eq _ _ h1, nth_eq _ _ h2] at this
    rw [this]
    by_cases e : i = j
    · subst e; rw [if_pos rfl, h, nth_eq _ _ h2]
    · rw [if_neg e]
  · exact List.set_eq_of_length_le (by omega)
theorem nthB_false (n i : Nat) : nthB (List.replicate n false) i = false := by
  unfold nthB
  by_cases h : i < n
  · simp [h]
  · simp [h]
theorem maxK_le_sum (xs : List Int) (h : inC xs) : ∀ k, k ≤ xs.length → maxK xs k ≤ sumT xs k
  | 0, _ => Int.le_refl _
  | k + 1, hk => by
    have ih := maxK_le_sum xs h k (by omega)
    have h1 := sumT_bdC xs h k (by omega)
    have h2 := h k (by omega)
    have e1 : sumT xs (k + 1) = sumT xs k + nth xs k := rfl
    unfold maxK
    split <;> omega
theorem maxK_le (xs : List Int) (m : Int) (h0 : 0 ≤ m) : ∀ k, (∀ i, i < k → nth xs i ≤ m) → maxK xs k ≤ m
  | 0, _ => h0
  | k + 1, h => by
    have ih := maxK_le xs m h0 k (fun i hi => h i (by omega))
    have h2 := h k (by omega)
    unfold maxK
    split <;> omega
theorem maxK_at (xs : List Int) (h : inC xs) : ∀ k, 0 < k → k ≤ xs.length → ∃ i, i < k ∧ nth xs i = maxK xs k
  | 0, h0, _ => by omega
  | k + 1, _, hk => by
    by_cases e : k = 0
    · subst e
      refine ⟨0, by omega, ?_⟩
      have := h 0 (by omega)
      show _ = if maxK xs 0 < nth xs 0 then nth xs 0 else maxK xs 0
      split
      · rfl
      · next q => have : maxK xs 0 = 0 := rfl
                  omega
    · obtain ⟨i, hi, e1⟩ := maxK_at xs h k (by omega) (by omega)
      by_cases q : maxK xs k < nth xs k
      · exact ⟨k, by omega, by show _ = if _ then _ else _; rw [if_pos q]⟩
      · exact ⟨i, by omega, by show _ = if _ then _ else _; rw [if_neg q, e1]⟩
theorem pot_top {b : Bt} (k : Ok b) : topI b ≤ potI b := by
  have h1 := maxK_le_sum b.bt k.s2 _ (Nat.le_refl _)
  have h2 := sumT_bdC b.pd k.s3 _ (Nat.le_refl _)
  unfold topI potI
  omega

theorem leg_cases {b : Bt} {k x : Int} (h : legB b k x = true) :
    (k = 0 ∧ x = 0) ∨ (k = 1 ∧ x = 0 ∧ checkB b = true) ∨ (k = 2 ∧ x = 0 ∧ 0 < callI b) ∨ (k = 3 ∧ 0 < mostI b ∧ leastI b ≤ x ∧ x ≤ mostI b) := by
  unfold legB at h
  by_cases e0 : k = 0
  · rw [if_pos e0] at h; exact .inl ⟨e0, by simpa using h⟩
  · rw [if_neg e0] at h
    by_cases e1 : k = 1
    · rw [if_pos e1] at h
      simp at h
      exact .inr (.inl ⟨e1, h.1, h.2⟩)
    · rw [if_neg e1] at h
      by_cases e2 : k = 2
      · rw [if_pos e2] at h
        simp at h
        exact .inr (.inr (.inl ⟨e2, h.1, h.2⟩))
      · rw [if_neg e2] at h
        by_cases e3 : k = 3
        · rw [if_pos e3] at h
          simp at h
          exact .inr (.inr (.inr ⟨e3, h.1.1, h.1.2, h.2⟩))
        · rw [if_neg e3] at h
          cases h
theorem call_facts {b : Bt} (k : Ok b) {i : Nat} (hi : b.tu = (i : Int)) : 0 ≤ callI b ∧ callI b ≤ nth b.st i ∧ nth b.bt i + callI b ≤ topI b ∧ (callI b = nth b.st i ∨ nth b.bt i + callI b = topI b) := by
  have h1 := k.t1
  rw [hi] at h1
  have h2 := k.s1 i (by omega)
  have h3 : nth b.bt i ≤ topI b := top_ge i (by have := k.l2; omega)
  have e1 : missI b = topI b - nth b.bt i := by unfold missI; rw [hi]; rfl
  have e2 : callI b = minT (missI b) (nth b.st i) := by unfold callI; rw [hi]; rfl
  have h4 := minT_le (missI b) (nth b.st i)
  rw [e2]
  omega
theorem may_facts {b : Bt} {i : Nat} (hi : b.tu = (i : Int)) (h : mayB b = true) : nthB b.ac i = false ∧ missI b < nth b.st i ∧ anoB b i = true := by
  unfold mayB at h
  rw [hi, Int.toNat_natCast] at h
  simp at h
  exact ⟨h.1.1.1, h.1.1.2, h.1.2⟩
theorem raise_facts {b : Bt} (k : Ok b) {i : Nat} (hi : b.tu = (i : Int)) (h : 0 < mostI b) : mayB b = true ∧ topI b < leastI b ∧ leastI b ≤ mostI b ∧ mostI b ≤ nth b.bt i + nth b.st i ∧ leastI b ≤ topI b + b.un := by
  have hm : mayB b = true := by
    rcases e : mayB b with _ | _
    · unfold mostI at h; rw [e] at h; simp at h
    · rfl
  have h1 := k.t1
  rw [hi] at h1
  obtain ⟨f1, f2, f3⟩ := may_facts hi hm
  have e1 : missI b = topI b - nth b.bt i := by unfold missI; rw [hi]; rfl
  have e2 : allIn b = nth b.bt i + nth b.st i := by unfold allIn; rw [hi]; rfl
  have e3 : mostI b = mostR b := by unfold mostI; rw [if_pos hm]
  have e4 : leastI b = minT (mostR b) (topI b + b.un) := by unfold leastI; rw [if_pos hm]
  have h5 := pot_top k
  have h6 := top_bd k.sd
  have h7 := k.u0
  have h8 : nth b.bt i ≤ topI b := top_ge i (by have := k.l2; omega)
  have h9 : topI b < mostR b ∧ mostR b ≤ allIn b := by
    rw [e3] at h
    unfold mostR at h ⊢
    by_cases c1 : b.li = 1
    · rw [if_pos c1] at h ⊢
      have := minT_le (allIn b) (topI b + potI b + missI b)
      omega
    · rw [if_neg c1] at h ⊢
      by_cases c2 : b.li = 2
      · rw [if_pos c2] at h ⊢
        have := minT_le (allIn b) (topI b + b.un)
        omega
      · rw [if_neg c2] at h ⊢
        omega
  have h10 := minT_le (mostR b) (topI b + b.un)
  rw [e3, e4]
  refine ⟨hm, ?_, ?_, ?_, ?_⟩ <;> omega
theorem must_facts {b : Bt} {i : Nat} (h : mustB b i = true) : nthB b.fo i = false ∧ 0 < nth b.st i ∧ canB b i = true ∧ (nth b.bt i < topI b ∨ (nthB b.ac i = false ∧ anoB b i = true)) := by
  unfold mustB at h
  simp at h
  obtain ⟨h1, h2⟩ := h
  have h3 := h1
  unfold canB at h3
  simp at h3
  exact ⟨h3.1, h3.2, h1, h2⟩
theorem must_no {b : Bt} {i : Nat} (h : mustB b i = false) (hc : canB b i = true) (ha : nthB b.ac i = false) : topI b ≤ nth b.bt i ∧ anoB b i = false := by
  unfold mustB at h
  rw [hc, ha] at h
  simp at h
  exact h

/-- What an action of the seat i leaves: d chips more are bet. -/
structure Act (b c : Bt) (k x : Int) (i : Nat) (d : Int) : Prop where
  st : c.st = b.st.set i (nth b.st i - d)
  bt : c.bt = b.bt.set i (nth b.bt i + d)
  pd : c.pd = b.pd
  d0 : 0 ≤ d
  d1 : d ≤ nth b.st i
  fo : c.fo = if k = 0 then b.fo.set i true else b.fo
  acl : c.ac.length = b.ac.length
  acI : nthB c.ac i = true
  acO : ∀ j, j ≠ i → nthB c.ac j = true → nthB b.ac j = true
  acK : k ≠ 3 → ∀ j, j ≠ i → nthB c.ac j = nthB b.ac j
  un : c.un = b.un ∨ (k = 3 ∧ b.un ≤ c.un ∧ c.un = x - topI b)
  ra : 0 ≤ c.ra ∧ c.ra ≤ 4
  li : c.li = b.li
  is : (k = 0 ∧ d = 0) ∨ (k = 1 ∧ d = 0 ∧ nth b.bt i = topI b) ∨ (k = 2 ∧ 0 < d ∧ (d = nth b.st i ∨ nth b.bt i + d = topI b) ∧ nth b.bt i + d ≤ topI b) ∨ (k = 3 ∧ nth b.bt i + d = x ∧ topI b < x ∧ leastI b ≤ x)
  to : (∃ q, q < b.st.length ∧ c.tu = seatAt b.st.length (leftI i b.st.length) q ∧ mustB c (seatAt b.st.length (leftI i b.st.length) q).toNat = true ∧ ∀ j, j < q → mustB c (seatAt b.st.length (leftI i b.st.length) j).toNat = false)
    ∨ (c.tu = i ∧ ∀ j, j < b.st.length → mustB c (seatAt b.st.length (leftI i b.st.length) j).toNat = false)

theorem turn_facts (y : Bt) (i : Nat) (hi : y.tu = (i : Int)) (n : Nat) (hn : y.st.length = n) :
    (∃ q, q < n ∧ (turnB y).tu = seatAt n (leftI i n) q ∧ mustB (turnB y) (seatAt n (leftI i n) q).toNat = true ∧ ∀ j, j < q → mustB (turnB y) (seatAt n (leftI i n) j).toNat = false)
    ∨ ((turnB y).tu = i ∧ ∀ j, j < n → mustB (turnB y) (seatAt n (leftI i n) j).toNat = false) := by
  subst hn
  have em : ∀ j, mustB (turnB y) j = mustB y j := fun j => rfl
  have et : (turnB y).tu = nxtI y := rfl
  simp only [em, et]
  unfold nxtI
  by_cases h : hopN y < y.st.length
  · rw [if_pos h]
    refine .inl ⟨hopN y, h, by rw [hi], ?_, fun j hj => ?_⟩
    · have := hopN_at y h
      rw [hi] at this
      exact this
    · have := hopN_before y j hj (by omega)
      rw [hi] at this
      exact this
  · rw [if_neg h]
    refine .inr ⟨hi, fun j hj => ?_⟩
    have := hopN_before y j (by omega) hj
    rw [hi] at this
    exact this
theorem act_of {b : Bt} {k x : Int} (h : Ok b) (hl : legB b k x = true) {i : Nat} (hi : b.tu = (i : Int)) : ∃ d, Act b (appB b k x) k x i d := by
  have h1 := h.t1
  rw [hi] at h1
  have hil : i < b.st.length := by omega
  have l2 := h.l2
  have l4 := h.l4
  have l5 := h.l5
  have hn : b.tu.toNat = i := by rw [hi]; rfl
  have s1 := h.s1 i hil
  have setT : ∀ xs : List Bool, i < xs.length → nthB (xs.set i true) i = true := fun xs hx => nthB_set_same _ _ _ hx
  have setO : ∀ (xs : List Bool) (j : Nat), j ≠ i → nthB (xs.set i true) j = nthB xs j := fun xs j hj => nthB_set_other _ _ _ _ (fun e => hj e.symm)
  have hr := h.r0
  have hr1 := h.r1
  rcases leg_cases hl with ⟨rfl, rfl⟩ | ⟨rfl, rfl, hc⟩ | ⟨rfl, rfl, hc⟩ | ⟨rfl, hm, hx0, hx1⟩
  · have e : setAc (actB b 0 0) = { b with fo := b.fo.set i true, ac := b.ac.set i true } := by
      unfold setAc actB foldB
      simp [hn]
    refine ⟨0, ⟨?_, ?_, ?_, Int.le_refl _, s1.1, ?_, ?_, ?_, ?_, ?_, ?_, ?_, ?_, .inl ⟨rfl, rfl⟩, ?_⟩⟩
    all_goals unfold appB
    all_goals rw [e]
    · exact (set_self b.st i _ (by omega)).symm
    · exact (set_self b.bt i _ (by omega)).symm
    · rfl
    · rw [if_pos rfl]; rfl
    · show (b.ac.set i true).length = _; rw [List.length_set]
    · exact setT _ (by omega)
    · intro j hj q; have q' : nthB (b.ac.set i true) j = true := q; rwa [setO _ _ hj] at q'
    · intro _ j hj; exact setO _ _ hj
    · exact .inl rfl
    · exact ⟨hr, hr1⟩
    · rfl
    · refine turn_facts _ i ?_ _ ?_
      · exact hi
      · rfl
  · have e : setAc (actB b 1 0) = { b with ac := b.ac.set i true } := by
      unfold setAc actB
      simp [hn]
    have ht : nth b.bt i = topI b := by
      unfold checkB missI at hc
      rw [hn] at hc
      have : topI b - nth b.bt i = 0 := by simpa using hc
      omega
    refine ⟨0, ⟨?_, ?_, ?_, Int.le_refl _, s1.1, ?_, ?_, ?_, ?_, ?_, ?_, ?_, ?_, .inr (.inl ⟨rfl, rfl, ht⟩), ?_⟩⟩
    all_goals unfold appB
    all_goals rw [e]
    · exact (set_self b.st i _ (by omega)).symm
    · exact (set_self b.bt i _ (by omega)).symm
    · rfl
    · rw [if_neg (by decide)]; rfl
    · show (b.ac.set i true).length = _; rw [List.length_set]
    · exact setT _ (by omega)
    · intro j hj q; have q' : nthB (b.ac.set i true) j = true := q; rwa [setO _ _ hj] at q'
    · intro _ j hj; exact setO _ _ hj
    · exact .inl rfl
    · exact ⟨hr, hr1⟩
    · rfl
    · refine turn_facts _ i ?_ _ ?_
      · exact hi
      · rfl
  · have e : setAc (actB b 2 0) = { b with st := b.st.set i (nth b.st i - callI b), bt := b.bt.set i (nth b.bt i + callI b), ac := b.ac.set i true } := by
      unfold setAc actB more
      simp [hn]
    obtain ⟨f1, f2, f3, f4⟩ := call_facts h hi
    refine ⟨callI b, ⟨?_, ?_, ?_, f1, f2, ?_, ?_, ?_, ?_, ?_, ?_, ?_, ?_, .inr (.inr (.inl ⟨rfl, hc, f4, f3⟩)), ?_⟩⟩
    all_goals unfold appB
    all_goals rw [e]
    · rfl
    · rfl
    · rfl
    · rw [if_neg (by decide)]; rfl
    · show (b.ac.set i true).length = _; rw [List.length_set]
    · exact setT _ (by omega)
    · intro j hj q; have q' : nthB (b.ac.set i true) j = true := q; rwa [setO _ _ hj] at q'
    · intro _ j hj; exact setO _ _ hj
    · exact .inl rfl
    · exact ⟨hr, hr1⟩
    · rfl
    · refine turn_facts _ i ?_ _ ?_
      · exact hi
      · show (b.st.set i _).length = _
        rw [List.length_set]
  · obtain ⟨f1, f2, f3, f4, f5⟩ := raise_facts h hi hm
    have e : setAc (actB b 3 x) = { b with st := b.st.set i (nth b.st i - (x - nth b.bt i)), bt := b.bt.set i (nth b.bt i + (x - nth b.bt i)), ra := minT (b.ra + 1) 4, un := (if fullB b x = true then x - topI b else b.un), ac := (if fullB b x = true then List.replicate b.ac.length false else b.ac).set i true } := by
      unfold setAc actB raiseB more
      simp [hn]
    have t2 : nth b.bt i ≤ topI b := top_ge i (by omega)
    have m4 := minT_le (b.ra + 1) 4
    refine ⟨x - nth b.bt i, ⟨?_, ?_, ?_, by omega, by omega, ?_, ?_, ?_, ?_, ?_, ?_, ?_, ?_, .inr (.inr (.inr ⟨rfl, by omega, by omega, by omega⟩)), ?_⟩⟩
    all_goals unfold appB
    all_goals rw [e]
    · rfl
    · rfl
    · rfl
    · rw [if_neg (show ¬ ((3 : Int) = 0) by decide)]; rfl
    · show ((if fullB b x = true then List.replicate b.ac.length false else b.ac).set i true).length = _
      rw [List.length_set]; split
      · rw [List.length_replicate]
      · rfl
    · refine setT _ ?_
      split
      · rw [List.length_replicate]; omega
      · omega
    · intro j hj q
      have q' : nthB ((if fullB b x = true then List.replicate b.ac.length false else b.ac).set i true) j = true := q
      rw [setO _ _ hj] at q'
      split at q'
      · rw [nthB_false] at q'; cases q'
      · exact q'
    · intro hk; exact absurd rfl hk
    · show (if fullB b x = true then x - topI b else b.un) = b.un ∨ (3 = 3 ∧ b.un ≤ (if fullB b x = true then x - topI b else b.un) ∧ (if fullB b x = true then x - topI b else b.un) = x - topI b)
      by_cases q : fullB b x = true
      · rw [if_pos q]
        unfold fullB at q
        exact .inr ⟨rfl, of_decide_eq_true q, rfl⟩
      · rw [if_neg q]; exact .inl rfl
    · show 0 ≤ minT (b.ra + 1) 4 ∧ minT (b.ra + 1) 4 ≤ 4
      omega
    · rfl
    · refine turn_facts _ i ?_ _ ?_
      · exact hi
      · show (b.st.set i _).length = _
        rw [List.length_set]
section
variable {b c : Bt} {k x : Int} {i : Nat} {d : Int}
theorem Act.stl (a : Act b c k x i d) : c.st.length = b.st.length := by rw [a.st, List.length_set]
theorem Act.stn (a : Act b c k x i d) (h : i < b.st.length) (j : Nat) : nth c.st j = if i = j then nth b.st i - d else nth b.st j := by rw [a.st, nth_set_if _ _ _ h]
theorem Act.btn (a : Act b c k x i d) (h : i < b.bt.length) (j : Nat) : nth c.bt j = if i = j then nth b.bt i + d else nth b.bt j := by rw [a.bt, nth_set_if _ _ _ h]
theorem Act.fon (a : Act b c k x i d) (h : i < b.fo.length) (j : Nat) : nthB c.fo j = if k = 0 ∧ i = j then true else nthB b.fo j := by
  rw [a.fo]
  by_cases e : k = 0
  · rw [if_pos e, nthB_set_if _ _ _ h]
    simp [e]
  · rw [if_neg e, if_neg (fun q => e q.1)]
theorem Act.sums (a : Act b c k x i d) (h : Ok b) (hi : i < b.st.length) : allI c = allI b ∧ potI c = potI b + d := by
  have l2 := h.l2
  have e1 := sumT_set b.st i (nth b.st i - d) hi
  have e2 := sumT_set b.bt i (nth b.bt i + d) (by omega)
  rw [← a.st] at e1
  rw [← a.bt] at e2
  have e3 : potI c = potI b + d := by
    unfold potI
    rw [e2, a.pd]
    omega
  refine ⟨?_, e3⟩
  unfold allI
  rw [e1, e3]
  omega
theorem Act.turn (a : Act b c k x i d) (h : Ok b) (hi : i < b.st.length) : 0 ≤ c.tu ∧ c.tu < b.st.length := by
  have := h.n2
  rcases a.to with ⟨q, _, e, _⟩ | ⟨e, _⟩
  · rw [e]; exact seatAt_bd _ _ _ (by omega)
  · rw [e]; omega
/-- A round is valid behind an action, if somebody has not folded and the raise is not too great. -/
theorem Act.ok (a : Act b c k x i d) (h : Ok b) (hi : i < b.st.length) (hu : c.un ≤ 100000) (hl : ∃ j, j < b.st.length ∧ nthB c.fo j = false) : Ok c := by
  have l2 := h.l2
  have l4 := h.l4
  have sl := a.stl
  obtain ⟨s1, s2⟩ := a.sums h hi
  have ht := a.turn h hi
  have b1 := h.s1 i hi
  have b2 := h.s2 i (by omega)
  have hA : nth b.bt i + nth b.st i ≤ 600000 := by
    have q1 := nth_le_sum b.st h.s1 i hi
    have q2 := nth_le_sum b.bt h.s2 i (by omega)
    have q3 := sumT_bdC b.pd h.s3 _ (Nat.le_refl _)
    have q4 := h.sum
    unfold allI potI at q4
    omega
  have d0 := a.d0
  have d1 := a.d1
  have u0 := h.u0
  refine ⟨by rw [sl]; exact h.n2, by rw [sl]; exact h.n6, ht.1, by rw [sl]; exact ht.2, ?_, ?_, ?_, ?_, ?_, ?_, ?_, ?_, ?_, ?_, hu, a.ra.1, a.ra.2, by rw [a.li]; exact h.i0, by rw [a.li]; exact h.i1⟩
  · rw [a.bt, List.length_set, sl]; exact h.l2
  · rw [a.pd, sl]; exact h.l3
  · rw [a.fo, sl]; split
    · rw [List.length_set]; exact h.l4
    · exact h.l4
  · rw [a.acl, sl]; exact h.l5
  · obtain ⟨j, hj, e⟩ := hl
    exact ⟨j, by rw [sl]; exact hj, e⟩
  · intro j hj
    rw [a.stn hi]
    split
    · omega
    · exact h.s1 j (by omega)
  · intro j hj
    rw [a.bt, List.length_set] at hj
    rw [a.btn (by omega)]
    split
    · omega
    · exact h.s2 j hj
  · rw [a.pd]; exact h.s3
  · rw [s1]; exact h.sum
  · rcases a.un with e | ⟨_, e, _⟩ <;> omega
end
end Go.Proofs.Ytnllndcajdofjaa

/-! Plain facts on rounds that are played from the blinds on: somebody who has not folded has bet the most, and no seat has more than a stack. -/
namespace Go.Proofs.Ytnllndcajdofjaa
open Go.RowKit
set_option linter.unusedVariables false

theorem top_eq {c : Bt} (m : Int) (h0 : 0 ≤ m) (h : ∀ j, j < c.bt.length → nth c.bt j ≤ m) (j : Nat) (hj : j < c.bt.length) (e : nth c.bt j = m) : topI c = m := by
  have h1 := maxK_le c.bt m h0 c.bt.length h
  have h2 := maxK_ge c.bt c.bt.length j hj
  unfold topI
  omega
theorem ano_ex {b : Bt} {i : Nat} (h : anoB b i = true) : ∃ j, j < b.st.length ∧ j ≠ i ∧ canB b j = true := by
  refine Classical.byContradiction fun q => ?_
  rw [ano_no (fun j hj hne => by
    rcases hh : canB b j with _ | _
    · rfl
    · exact absurd ⟨j, hj, hne, hh⟩ q)] at h
  cases h
/-- The bet to match behind an action. -/
theorem Act.top {b c : Bt} {k x : Int} {i : Nat} {d : Int} (a : Act b c k x i d) (h : Ok b) (hi : i < b.st.length) (hk : k ≠ 3) : topI c = topI b := by
  have l2 := h.l2
  have hcl : c.bt.length = b.bt.length := by rw [a.bt, List.length_set]
  obtain ⟨g, hg, e⟩ := maxK_at b.bt h.s2 b.bt.length (by have := h.n2; omega) (Nat.le_refl _)
  have e' : nth b.bt g = topI b := e
  have hd := a.is
  have bn := a.btn (by omega)
  have t2 : ∀ j, j < b.bt.length → nth b.bt j ≤ topI b := fun j hj => top_ge j hj
  have ti := t2 i (by omega)
  have t0 := top_bd h.sd
  by_cases ge : g = i
  · subst ge
    have d0 : d = 0 := by rcases hd with q | q | q | q <;> omega
    refine top_eq _ t0.1 (fun j hj => ?_) g (by omega) (by rw [bn, if_pos rfl]; omega)
    rw [bn]
    split
    · omega
    · exact t2 j (by omega)
  · refine top_eq _ t0.1 (fun j hj => ?_) g (by omega) (by rw [bn, if_neg (fun q => ge q.symm)]; exact e')
    rw [bn]
    split
    · rcases hd with q | q | q | q <;> omega
    · exact t2 j (by omega)
theorem Act.top3 {b c : Bt} {k x : Int} {i : Nat} {d : Int} (a : Act b c k x i d) (h : Ok b) (hi : i < b.st.length) (hk : k = 3) : topI c = x := by
  have l2 := h.l2
  have hcl : c.bt.length = b.bt.length := by rw [a.bt, List.length_set]
  have t0 := top_bd h.sd
  have bn := a.btn (by omega)
  have hd : nth b.bt i + d = x ∧ topI b < x := by rcases a.is with q | q | q | q <;> omega
  refine top_eq _ (by omega) (fun j hj => ?_) i (by omega) (by rw [bn, if_pos rfl]; exact hd.1)
  rw [bn]
  split
  · omega
  · have : nth b.bt j ≤ topI b := top_ge j (by omega)
    omega
/-- Somebody who has not folded has bet the most. -/
def LiveTop (b : Bt) : Prop := ∃ g, g < b.st.length ∧ nthB b.fo g = false ∧ nth b.bt g = topI b
/-- What a seat has, has bet and has paid. -/
def totI (b : Bt) (j : Nat) : Int := nth b.st j + nth b.bt j + nth b.pd j
/-- How far a seat sits from the first one. -/
def posI (n f j : Int) : Int := (j - f) % n
/-- Nobody has matched the bet by an action: who has had a turn cannot act. -/
structure Yet (f : Int) (b : Bt) : Prop where
  un : ∀ j, j < b.st.length → canB b j = true → nthB b.ac j = false
  mono : ∀ i j : Nat, i < b.st.length → j < b.st.length → canB b i = true → canB b j = true → posI b.st.length f i < posI b.st.length f j → nth b.bt i ≤ nth b.bt j
  turn : openB b = true → ∀ j : Nat, j < b.st.length → posI b.st.length f j < posI b.st.length f b.tu → canB b j = false
/-- Somebody has matched the bet by an action. -/
def Held (b : Bt) : Prop := ∃ g, g < b.st.length ∧ nthB b.fo g = false ∧ nth b.bt g = topI b ∧ nthB b.ac g = true
structure Play (f : Int) (b : Bt) : Prop where
  ok : Ok b
  f0 : 0 ≤ f
  f1 : f < b.st.length
  tot : ∀ j, j < b.st.length → 1 ≤ totI b j ∧ totI b j ≤ 100000
  top : LiveTop b
  how : Held b ∨ Yet f b

theorem pos_bd (n f j : Int) (h : 0 < n) : 0 ≤ posI n f j ∧ posI n f j < n := ⟨Int.emod_nonneg _ (by omega), Int.emod_lt_of_pos _ h⟩
theorem pos_inj (n f i j : Int) (h : 0 < n) (hi0 : 0 ≤ i) (hi : i < n) (hj0 : 0 ≤ j) (hj : j < n) (e : posI n f i = posI n f j) : i = j := by
  unfold posI at e
  have h1 := Int.emod_add_mul_ediv (i - f) n
  have h2 := Int.emod_add_mul_ediv (j - f) n
  have h3 : i = j + n * ((i - f) / n - (j - f) / n) := by rw [Int.mul_sub]; omega
  have h4 : i % n = j % n := by rw [h3, Int.add_mul_emod_self_left]
  rwa [Int.emod_eq_of_lt hi0 hi, Int.emod_eq_of_lt hj0 hj] at h4
/-- A seat that comes later is reached from the one left of an earlier one. -/
theorem pos_seat (n f i j : Int) (h : 0 < n) (hi0 : 0 ≤ i) (hi : i < n) (hj0 : 0 ≤ j) (hj : j < n) (q : Nat) (e : posI n f j = posI n f i + 1 + q) : seatAt n (leftI i n) q = j := by
  unfold posI at e
  unfold seatAt leftI
  have h1 := Int.emod_add_mul_ediv (i - f) n
  have h2 := Int.emod_add_mul_ediv (j - f) n
  rw [Int.emod_add_emod]
  have h3 : i + 1 + (q : Int) = j + n * ((i - f) / n - (j - f) / n) := by rw [Int.mul_sub]; omega
  rw [h3, Int.add_mul_emod_self_left]
  exact Int.emod_eq_of_lt hj0 hj
theorem seat_pos (n f i : Int) (h : 0 < n) (q : Nat) : posI n f (seatAt n (leftI i n) q) = (posI n f i + 1 + q) % n := by
  unfold posI seatAt leftI
  rw [Int.emod_add_emod, Int.emod_sub_emod]
  have h1 := Int.emod_add_mul_ediv (i - f) n
  have h3 : i + 1 + (q : Int) - f = ((i - f) % n + 1 + q) + n * ((i - f) / n) := by omega
  rw [h3, Int.add_mul_emod_self_left]
section
variable {b c : Bt} {k x : Int} {i : Nat} {d : Int} {f : Int}
/-- Nobody has matched the bet by this action either. -/
theorem yet_step (a : Act b c k x i d) (h : Ok b) (hi : i < b.st.length) (ht : b.tu = (i : Int)) (ho : openB b = true) (y : Yet f b) (hk : k ≠ 3) (hc : canB c i = false) (hf : ∀ j, j ≠ i → nthB c.fo j = nthB b.fo j) (f1 : f < b.st.length) (f0 : 0 ≤ f) : Yet f c := by
  have l2 := h.l2
  have sl := a.stl
  have hn : (0 : Int) < b.st.length := by omega
  have hcan : ∀ j, j ≠ i → canB c j = canB b j := fun j hj => by
    unfold canB
    rw [hf j hj, a.stn hi, if_neg (fun e => hj e.symm)]
  have hbt : ∀ j, j ≠ i → nth c.bt j = nth b.bt j := fun j hj => by rw [a.btn (by omega), if_neg (fun e => hj e.symm)]
  have hne : ∀ j, canB c j = true → j ≠ i := fun j hj e => by rw [e, hc] at hj; cases hj
  have hun : ∀ j, j < c.st.length → canB c j = true → nthB c.ac j = false := fun j hj hcj => by
    rw [a.acK hk j (hne j hcj)]
    exact y.un j (by omega) (by rw [← hcan j (hne j hcj)]; exact hcj)
  refine ⟨hun, fun p q hp hq hcp hcq hpq => ?_, fun hoc j hj hpos => ?_⟩
  · rw [sl] at hp hq hpq
    rw [hbt p (hne p hcp), hbt q (hne q hcq)]
    exact y.mono p q hp hq (by rw [← hcan p (hne p hcp)]; exact hcp) (by rw [← hcan q (hne q hcq)]; exact hcq) hpq
  · rw [sl] at hj hpos
    rcases hcj : canB c j with _ | _
    · rfl
    · exfalso
      have hji := hne j hcj
      have hbj : canB b j = true := by rw [← hcan j hji]; exact hcj
      have p1 : ¬ posI b.st.length f j < posI b.st.length f i := fun q => by
        have := y.turn ho j hj (by rw [ht]; exact q)
        rw [hbj] at this
        cases this
      have p2 : posI b.st.length f j ≠ posI b.st.length f i := fun q => hji (by
        have := pos_inj _ _ _ _ hn (by omega) (by omega) (by omega) (by omega) q
        omega)
      rcases a.to with ⟨q, hq, et, hm, hb⟩ | ⟨et, hb⟩
      · have sp := seat_pos b.st.length f i hn q
        rw [← et] at sp
        have pi := pos_bd b.st.length f i hn
        have pt := pos_bd b.st.length f c.tu hn
        have pj := pos_bd b.st.length f j hn
        obtain ⟨m, em⟩ := Int.eq_ofNat_of_zero_le (show 0 ≤ posI b.st.length f j - posI b.st.length f i - 1 by omega)
        have es := pos_seat b.st.length f i j hn (by omega) (by omega) (by omega) (by omega) m (by omega)
        have hmq : m < q := by
          refine Classical.byContradiction fun hh => ?_
          rw [Int.emod_eq_of_lt (by omega) (by omega)] at sp
          omega
        have hnm := hb m hmq
        rw [es, Int.toNat_natCast] at hnm
        obtain ⟨_, h2⟩ := must_no hnm hcj (hun j (by omega) hcj)
        obtain ⟨_, _, hct, _⟩ := must_facts hm
        rw [← et] at hct
        have tb := a.turn h hi
        have := ano_yes (b := c) (i := j) c.tu.toNat (by omega) (fun e => by
          have : c.tu = (j : Int) := by omega
          rw [this] at hpos
          omega) hct
        rw [h2] at this
        cases this
      · unfold openB at hoc
        rw [et, Int.toNat_natCast] at hoc
        have := (must_facts hoc).2.2.1
        rw [hc] at this
        cases this
theorem open_must {b : Bt} {i : Nat} (ht : b.tu = (i : Int)) (ho : openB b = true) : mustB b i = true := by
  unfold openB at ho
  rwa [ht, Int.toNat_natCast] at ho
/-- An action keeps what has been said of a played round. -/
theorem play_step (p : Play f b) (ho : openB b = true) (hl : legB b k x = true) : Play f (appB b k x) := by
  have h := p.ok
  obtain ⟨i, ht⟩ := Int.eq_ofNat_of_zero_le h.t0
  have hi : i < b.st.length := by have := h.t1; omega
  obtain ⟨d, a⟩ := act_of h hl ht
  generalize appB b k x = c at a
  have l2 := h.l2
  have l4 := h.l4
  have sl := a.stl
  have hm := must_facts (open_must ht ho)
  have fon := a.fon (by omega)
  have btn := a.btn (by omega)
  have stn := a.stn hi
  have t0 := top_bd h.sd
  have ti : nth b.bt i ≤ topI b := top_ge i (by omega)
  have s1 := h.s1 i hi
  have htot : ∀ j, j < c.st.length → 1 ≤ totI c j ∧ totI c j ≤ 100000 := fun j hj => by
    have e : totI c j = totI b j := by
      unfold totI
      rw [stn, btn, a.pd]
      by_cases q : i = j
      · subst q; rw [if_pos rfl, if_pos rfl]; omega
      · rw [if_neg q, if_neg q]
    rw [e]
    exact p.tot j (by omega)
  have hu : c.un ≤ 100000 := by
    rcases a.un with e | ⟨hk3, _, e⟩
    · rw [e]; exact h.u1
    · have hd : nth b.bt i + d = x := by rcases a.is with q | q | q | q <;> omega
      have d1 := a.d1
      have q1 := (p.tot i hi).2
      have q3 := h.s3 i (by have := h.l3; omega)
      unfold totI at q1
      omega
  have done : LiveTop c → (Held c ∨ Yet f c) → Play f c := fun L H =>
    ⟨a.ok h hi hu (by obtain ⟨g, hg, e, _⟩ := L; exact ⟨g, by omega, e⟩), p.f0, by rw [sl]; exact p.f1, htot, L, H⟩
  have held : Held c → Play f c := fun H => done (by obtain ⟨g, q1, q2, q3, _⟩ := H; exact ⟨g, q1, q2, q3⟩) (.inl H)
  by_cases hk3 : k = 3
  · have tc := a.top3 h hi hk3
    have hd : nth b.bt i + d = x := by rcases a.is with q | q | q | q <;> omega
    exact held ⟨i, by omega, by rw [fon, if_neg (fun q => by omega)]; exact hm.1, by rw [btn, if_pos rfl, tc]; exact hd, a.acI⟩
  · have tc := a.top h hi hk3
    rcases p.how with ⟨g, g1, g2, g3, g4⟩ | y
    · have hgi : i ≠ g := fun e => by
        subst e
        rcases hm.2.2.2 with q | ⟨q, _⟩
        · omega
        · rw [g4] at q; cases q
      exact held ⟨g, by omega, by rw [fon, if_neg (fun q => hgi q.2)]; exact g2, by rw [btn, if_neg hgi, tc]; exact g3, by rw [a.acK hk3 g (fun e => hgi e.symm)]; exact g4⟩
    · rcases a.is with ⟨hk, hd⟩ | ⟨hk, hd, hb⟩ | ⟨hk, hd, hb, hb2⟩ | q
      · have hci : canB c i = false := by unfold canB; rw [fon, if_pos ⟨hk, rfl⟩]; rfl
        have Y := yet_step a h hi ht ho y hk3 hci (fun j hj => by rw [fon, if_neg (fun q => hj q.2.symm)]) p.f1 p.f0
        obtain ⟨g, g1, g2, g3⟩ := p.top
        by_cases hgi : i = g
        · subst hgi
          rcases hm.2.2.2 with q | ⟨_, q⟩
          · omega
          · obtain ⟨j, j1, j2, j3⟩ := ano_ex q
            have hj : posI b.st.length f i < posI b.st.length f j := by
              have n1 : ¬ posI b.st.length f j < posI b.st.length f i := fun r => by
                have := y.turn ho j j1 (by rw [ht]; exact r)
                rw [j3] at this
                cases this
              have n2 : posI b.st.length f j ≠ posI b.st.length f i := fun r => j2 (by
                have := pos_inj b.st.length f j i (by omega) (by omega) (by omega) (by omega) (by omega) r
                omega)
              omega
            have m1 := y.mono i j hi j1 hm.2.2.1 j3 hj
            have m2 : nth b.bt j ≤ topI b := top_ge j (by omega)
            have f2 : nthB b.fo j = false := by
              unfold canB at j3
              simp at j3
              exact j3.1
            exact done ⟨j, by omega, by rw [fon, if_neg (fun q => j2 q.2.symm)]; exact f2, by rw [btn, if_neg (fun e => j2 e.symm), tc]; omega⟩ (.inr Y)
        · exact done ⟨g, by omega, by rw [fon, if_neg (fun q => hgi q.2)]; exact g2, by rw [btn, if_neg hgi, tc]; exact g3⟩ (.inr Y)
      · exact held ⟨i, by omega, by rw [fon, if_neg (fun q => by omega)]; exact hm.1, by rw [btn, if_pos rfl, tc]; omega, a.acI⟩
      · by_cases hbe : nth b.bt i + d = topI b
        · exact held ⟨i, by omega, by rw [fon, if_neg (fun q => by omega)]; exact hm.1, by rw [btn, if_pos rfl, tc]; exact hbe, a.acI⟩
        · have hds : d = nth b.st i := by omega
          have hci : canB c i = false := by
            unfold canB
            rw [stn, if_pos rfl, decide_eq_false (by omega)]
            simp
          have Y := yet_step a h hi ht ho y hk3 hci (fun j hj => by rw [fon, if_neg (fun q => hj q.2.symm)]) p.f1 p.f0
          obtain ⟨g, g1, g2, g3⟩ := p.top
          have hgi : i ≠ g := fun e => by subst e; omega
          exact done ⟨g, by omega, by rw [fon, if_neg (fun q => hgi q.2)]; exact g2, by rw [btn, if_neg hgi, tc]; exact g3⟩ (.inr Y)
      · omega
/-- Every legal action leaves a valid round. -/
def Good (b : Bt) : Prop := ∀ k x, Ok b → openB b = true → legB b k x = true → Ok (appB b k x)
theorem good_of (h2 : LiveTop b) (ht : Ok b → ∀ j, j < b.st.length → nth b.st j + nth b.bt j ≤ 100000) : Good b := by
  intro k x h ho hl
  obtain ⟨i, hti⟩ := Int.eq_ofNat_of_zero_le h.t0
  have hi : i < b.st.length := by have := h.t1; omega
  obtain ⟨d, a⟩ := act_of h hl hti
  have l2 := h.l2
  have l4 := h.l4
  have hm := must_facts (open_must hti ho)
  have fon := a.fon (by omega)
  have t0 := top_bd h.sd
  refine a.ok h hi ?_ ?_
  · rcases a.un with e | ⟨hk3, _, e⟩
    · rw [e]; exact h.u1
    · have hd : nth b.bt i + d = x := by rcases a.is with q | q | q | q <;> omega
      have d1 := a.d1
      have q1 := ht h i hi
      omega
  · by_cases hk : k = 0
    · obtain ⟨j, j1, j2, j3⟩ : ∃ j, j < b.st.length ∧ j ≠ i ∧ nthB b.fo j = false := by
        rcases hm.2.2.2 with q | ⟨_, q⟩
        · obtain ⟨g, g1, g2, g3⟩ := h2
          exact ⟨g, g1, fun e => by subst e; omega, g2⟩
        · obtain ⟨j, j1, j2, j3⟩ := ano_ex q
          unfold canB at j3
          simp at j3
          exact ⟨j, j1, j2, j3.1⟩
      exact ⟨j, j1, by rw [fon, if_neg (fun q => j2 q.2.symm)]; exact j3⟩
    · exact ⟨i, hi, by rw [fon, if_neg (fun q => hk q.1)]; exact hm.1⟩
end
end Go.Proofs.Ytnllndcajdofjaa

/-! Plain facts on rounds that are checked down, and on lists of actions. -/
namespace Go.Proofs.Ytnllndcajdofjaa
open Go.RowKit
set_option linter.unusedVariables false

/-- A check if this is a choice, and otherwise a call. -/
def downK (b : Bt) : Int := if checkB b = true then 1 else 2
theorem down_leg {b : Bt} (h : Ok b) (ho : openB b = true) : legB b (downK b) 0 = true := by
  obtain ⟨i, ht⟩ := Int.eq_ofNat_of_zero_le h.t0
  have hi : i < b.st.length := by have := h.t1; omega
  have hm := must_facts (open_must ht ho)
  unfold downK
  rcases hc : checkB b with _ | _
  · rw [if_neg (by simp)]
    unfold legB
    rw [if_neg (by decide), if_neg (by decide), if_pos rfl]
    have t1 : nth b.bt i ≤ topI b := top_ge i (by have := h.l2; omega)
    have e1 : missI b = topI b - nth b.bt i := by unfold missI; rw [ht]; rfl
    have e2 : callI b = minT (missI b) (nth b.st i) := by unfold callI; rw [ht]; rfl
    have hz : missI b ≠ 0 := fun q => by unfold checkB at hc; rw [q] at hc; simp at hc
    have := minT_le (missI b) (nth b.st i)
    have : 0 < callI b := by omega
    simp [this]
  · rw [if_pos rfl]
    unfold legB
    rw [if_neg (by decide), if_pos rfl, hc]
    rfl
/-- The code of an action. -/
noncomputable def actC (b : Bt) (k x : Int) : Int := if okB b = true then (if openB b = true then (if legB b k x = true then 0 else 2) else 5) else 1
theorem actC_zero {b : Bt} {k x : Int} (h : actC b k x = 0) : Ok b ∧ openB b = true ∧ legB b k x = true := by
  unfold actC at h
  by_cases h1 : okB b = true
  · rw [if_pos h1] at h
    by_cases h2 : openB b = true
    · rw [if_pos h2] at h
      by_cases h3 : legB b k x = true
      · exact ⟨ok_of h1, h2, h3⟩
      · rw [if_neg h3] at h; omega
    · rw [if_neg h2] at h; omega
  · rw [if_neg h1] at h; omega
end Go.Proofs.Ytnllndcajdofjaa
