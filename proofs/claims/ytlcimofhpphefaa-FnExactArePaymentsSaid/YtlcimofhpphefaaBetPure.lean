/-
  Plain facts on betting rounds: which are valid, who has to act, the choices, and the round behind an action.
-/
import Derived.Test.YtlcimofhpphefaaTabPure
import Derived.Test.YtlcimofhpphefaaBoolL
namespace Go.Proofs.Ytlcimofhpphefaa
open Go.RowKit
set_option linter.unusedVariables false

/-- A betting round. -/
structure Bt where
  st : List Int
  bt : List Int
  pd : List Int
  fo : List Bool
  ac : List Bool
  tu : Int
  un : Int
  ra : Int
  li : Int
/-- Where its lists lie. -/
structure At5 where
  a1 : Option Addr
  a2 : Option Addr
  a3 : Option Addr
  a4 : Option Addr
  a5 : Option Addr
  c1 : Nat
  c2 : Nat
  c3 : Nat
  c4 : Nat
  c5 : Nat
abbrev btL (L : At5) (b : Bt) : List Value := [.slice L.a1 b.st.length L.c1, .slice L.a2 b.bt.length L.c2, .slice L.a3 b.pd.length L.c3, .slice L.a4 b.fo.length L.c4, .slice L.a5 b.ac.length L.c5, .int .i64 b.tu, .int .i64 b.un, .int .i64 b.ra, .int .i64 b.li]
def bV (L : At5) (b : Bt) : Value := .agg #[.slice L.a1 b.st.length L.c1, .slice L.a2 b.bt.length L.c2, .slice L.a3 b.pd.length L.c3, .slice L.a4 b.fo.length L.c4, .slice L.a5 b.ac.length L.c5, .int .i64 b.tu, .int .i64 b.un, .int .i64 b.ra, .int .i64 b.li]
/-- Its lists read so. -/
structure Rd5 (w : World) (L : At5) (b : Bt) : Prop where
  r1 : Rd w L.a1 b.st
  r2 : Rd w L.a2 b.bt
  r3 : Rd w L.a3 b.pd
  r4 : RdB w L.a4 b.fo
  r5 : RdB w L.a5 b.ac
theorem Rd5.below {w w' : World} {L : At5} {b : Bt} (h : Rd5 w L b) (hb : Below w.heap.size w w') : Rd5 w' L b := ⟨h.r1.below hb, h.r2.below hb, h.r3.below hb, h.r4.below hb, h.r5.below hb⟩

/-- All chips of a round. -/
def potI (b : Bt) : Int := sumT b.bt b.bt.length + sumT b.pd b.pd.length
def allI (b : Bt) : Int := sumT b.st b.st.length + potI b
def inC (xs : List Int) : Prop := ∀ i, i < xs.length → 0 ≤ nth xs i ∧ nth xs i ≤ 600000
/-- A valid round. -/
structure Ok (b : Bt) : Prop where
  n2 : 2 ≤ b.st.length
  n6 : b.st.length ≤ 6
  t0 : 0 ≤ b.tu
  t1 : b.tu < b.st.length
  l2 : b.bt.length = b.st.length
  l3 : b.pd.length = b.st.length
  l4 : b.fo.length = b.st.length
  l5 : b.ac.length = b.st.length
  live : ∃ i, i < b.st.length ∧ nthB b.fo i = false
  s1 : inC b.st
  s2 : inC b.bt
  s3 : inC b.pd
  sum : allI b ≤ 600000
  u0 : 1 ≤ b.un
  u1 : b.un ≤ 100000
  r0 : 0 ≤ b.ra
  r1 : b.ra ≤ 4
  i0 : 0 ≤ b.li
  i1 : b.li ≤ 2
noncomputable def okB (b : Bt) : Bool := @decide (Ok b) (Classical.propDecidable _)
theorem ok_yes {b : Bt} (h : Ok b) : okB b = true := by unfold okB; simpa using h
theorem ok_no {b : Bt} (h : ¬ Ok b) : okB b = false := by unfold okB; simpa using h
theorem ok_of {b : Bt} (h : okB b = true) : Ok b := by unfold okB at h; simpa using h
theorem ok_not {b : Bt} (h : okB b = false) : ¬ Ok b := by unfold okB at h; simpa using h
theorem sumT_bdC (xs : List Int) (h : inC xs) : ∀ k, k ≤ xs.length → 0 ≤ sumT xs k ∧ sumT xs k ≤ k * 600000
  | 0, _ => ⟨Int.le_refl _, by simp [sumT]⟩
  | k + 1, hk => by
    have ih := sumT_bdC xs h k (by omega)
    have hb := h k (by omega)
    unfold sumT
    omega
theorem sumT_mono (xs : List Int) (h : inC xs) : ∀ k j, j ≤ k → k ≤ xs.length → sumT xs j ≤ sumT xs k
  | 0, j, hj, _ => by obtain rfl : j = 0 := by omega
                      exact Int.le_refl _
  | k + 1, j, hj, hk => by
    by_cases e : j = k + 1
    · subst e; exact Int.le_refl _
    · have h1 := sumT_mono xs h k j (by omega) (by omega)
      have hb := h k (by omega)
      have e1 : sumT xs (k + 1) = sumT xs k + nth xs k := rfl
      omega
theorem nth_le_sum (xs : List Int) (h : inC xs) (i : Nat) (hi : i < xs.length) : nth xs i ≤ sumT xs xs.length := by
  have h1 := sumT_mono xs h xs.length (i + 1) (by omega) (by omega)
  have h2 := sumT_bdC xs h i (by omega)
  have e1 : sumT xs (i + 1) = sumT xs i + nth xs i := rfl
  omega

/-- A seat can act. -/
def canB (b : Bt) (i : Nat) : Bool := !nthB b.fo i && decide (0 < nth b.st i)
/-- How many of the first k can act. -/
def cntK (b : Bt) : Nat → Int
  | 0 => 0
  | k + 1 => cntK b k + (if canB b k = true then 1 else 0)
theorem cntK_bd (b : Bt) : ∀ k, 0 ≤ cntK b k ∧ cntK b k ≤ k
  | 0 => ⟨Int.le_refl _, by simp [cntK]⟩
  | k + 1 => by
    have := cntK_bd b k
    unfold cntK
    split <;> omega
def cntI (b : Bt) : Int := cntK b b.st.length
/-- The greatest of the first k, and 0. -/
def maxK (xs : List Int) : Nat → Int
  | 0 => 0
  | k + 1 => if maxK xs k < nth xs k then nth xs k else maxK xs k
theorem maxK_ge (xs : List Int) : ∀ k i, i < k → nth xs i ≤ maxK xs k
  | 0, i, h => by omega
  | k + 1, i, h => by
    unfold maxK
    by_cases e : i = k
    · subst e; split <;> omega
    · have := maxK_ge xs k i (by omega)
      split <;> omega
theorem maxK_bd (xs : List Int) (h : inC xs) : ∀ k, k ≤ xs.length → 0 ≤ maxK xs k ∧ maxK xs k ≤ 600000
  | 0, _ => by simp [maxK]
  | k + 1, hk => by
    have := maxK_bd xs h k (by omega)
    have := h k (by omega)
    unfold maxK
    split <;> omega
theorem maxK_nn (xs : List Int) : ∀ k, 0 ≤ maxK xs k
  | 0 => Int.le_refl _
  | k + 1 => by
    have := maxK_nn xs k
    unfold maxK
    split <;> omega
/-- The bet to match. -/
def topI (b : Bt) : Int := maxK b.bt b.bt.length
/-- Another seat can act. -/
def anoB (b : Bt) (i : Nat) : Bool := !decide (∀ j, j < b.st.length → j ≠ i → canB b j = false)
theorem ano_yes {b : Bt} {i : Nat} (j : Nat) (hj : j < b.st.length) (hne : j ≠ i) (h : canB b j = true) : anoB b i = true := by
  unfold anoB
  rw [decide_eq_false (fun q => by have := q j hj hne; rw [h] at this; cases this)]
  rfl
theorem ano_no {b : Bt} {i : Nat} (h : ∀ j, j < b.st.length → j ≠ i → canB b j = false) : anoB b i = false := by
  unfold anoB
  rw [decide_eq_true h]
  rfl
theorem cntK_one (b : Bt) (i : Nat) (hc : canB b i = true) (h : ∀ j, j < b.st.length → j ≠ i → canB b j = false) : ∀ k, k ≤ b.st.length → cntK b k = if i < k then 1 else 0
  | 0, _ => by simp [cntK]
  | k + 1, hk => by
    have ih := cntK_one b i hc h k (by omega)
    unfold cntK
    rw [ih]
    by_cases e : k = i
    · subst e; rw [hc]; simp
    · rw [h k (by omega) e]
      have : (i < k) ↔ (i < k + 1) := by omega
      simp [this]
theorem cntK_mono (b : Bt) : ∀ k j, j ≤ k → cntK b j ≤ cntK b k
  | 0, j, hj => by obtain rfl : j = 0 := by omega
                   exact Int.le_refl _
  | k + 1, j, hj => by
    by_cases e : j = k + 1
    · subst e; exact Int.le_refl _
    · have h1 := cntK_mono b k j (by omega)
      have e1 : cntK b (k + 1) = cntK b k + (if canB b k = true then 1 else 0) := rfl
      rw [e1]
      split <;> omega
theorem cntK_two (b : Bt) (i j : Nat) (hij : i < j) (hi : canB b i = true) (hj : canB b j = true) (k : Nat) (hk : j < k) : 2 ≤ cntK b k := by
  have h1 := cntK_mono b k (j + 1) (by omega)
  have h2 := cntK_mono b j (i + 1) (by omega)
  have h3 := (cntK_bd b i).1
  have e1 : cntK b (j + 1) = cntK b j + 1 := by show cntK b j + _ = _; rw [hj]; rfl
  have e2 : cntK b (i + 1) = cntK b i + 1 := by show cntK b i + _ = _; rw [hi]; rfl
  omega
theorem ano_cnt (b : Bt) (i : Nat) (hi : i < b.st.length) (hc : canB b i = true) : anoB b i = decide (1 < cntI b) := by
  rcases ha : anoB b i with _ | _
  · have h : ∀ j, j < b.st.length → j ≠ i → canB b j = false := by
      unfold anoB at ha
      simpa using ha
    have := cntK_one b i hc h b.st.length (Nat.le_refl _)
    rw [if_pos hi] at this
    unfold cntI
    rw [this]; rfl
  · obtain ⟨j, hj, hne, hcj⟩ : ∃ j, j < b.st.length ∧ j ≠ i ∧ canB b j = true := by
      refine Classical.byContradiction fun q => ?_
      rw [ano_no (fun j hj hne => by
        rcases hh : canB b j with _ | _
        · rfl
        · exact absurd ⟨j, hj, hne, hh⟩ q)] at ha
      cases ha
    have : 2 ≤ cntI b := by
      unfold cntI
      rcases Nat.lt_or_gt_of_ne hne with h | h
      · exact cntK_two b j i h hcj hc _ hi
      · exact cntK_two b i j h hc hcj _ hj
    exact (decide_eq_true (by omega)).symm
/-- A seat has to act. -/
def mustB (b : Bt) (i : Nat) : Bool := canB b i && (decide (nth b.bt i < topI b) || (!nthB b.ac i && anoB b i))
def openB (b : Bt) : Bool := mustB b b.tu.toNat
noncomputable def codeB (b : Bt) : Int := if okB b = true then (if openB b = true then 0 else 5) else 1
theorem codeB_no {b : Bt} (h : okB b = false) : codeB b = 1 := by unfold codeB; rw [h]; rfl
theorem codeB_shut {b : Bt} (h : okB b = true) (h2 : openB b = false) : codeB b = 5 := by unfold codeB; rw [h, h2]; rfl
theorem codeB_open {b : Bt} (h : okB b = true) (h2 : openB b = true) : codeB b = 0 := by unfold codeB; rw [h, h2]; rfl

/-- The choices. -/
def missI (b : Bt) : Int := topI b - nth b.bt b.tu.toNat
def callI (b : Bt) : Int := minT (missI b) (nth b.st b.tu.toNat)
def mayB (b : Bt) : Bool := !nthB b.ac b.tu.toNat && decide (missI b < nth b.st b.tu.toNat) && anoB b b.tu.toNat && (!(b.li == 2) || decide (b.ra < 4))
def allIn (b : Bt) : Int := nth b.bt b.tu.toNat + nth b.st b.tu.toNat
def mostR (b : Bt) : Int := if b.li = 1 then minT (allIn b) (topI b + potI b + missI b) else if b.li = 2 then minT (allIn b) (topI b + b.un) else allIn b
def mostI (b : Bt) : Int := if mayB b = true then mostR b else 0
def leastI (b : Bt) : Int := if mayB b = true then minT (mostR b) (topI b + b.un) else 0
def checkB (b : Bt) : Bool := missI b == 0
def chV (c : Bool) (k l m : Int) : Value := .agg #[.bool c, .int .i64 k, .int .i64 l, .int .i64 m]
/-- An action is one of the choices. -/
def legB (b : Bt) (k x : Int) : Bool :=
  if k = 0 then x == 0 else if k = 1 then x == 0 && checkB b else if k = 2 then x == 0 && decide (0 < callI b) else if k = 3 then decide (0 < mostI b) && decide (leastI b ≤ x) && decide (x ≤ mostI b) else false
/-- The next seat that has to act. -/
def hopN (b : Bt) : Nat := (List.range b.st.length).findIdx (fun k => mustB b (seatAt b.st.length (leftI b.tu b.st.length) k).toNat)
def nxtI (b : Bt) : Int := if hopN b < b.st.length then seatAt b.st.length (leftI b.tu b.st.length) (hopN b) else b.tu
theorem hopN_before (b : Bt) (k : Nat) (h : k < hopN b) (hk : k < b.st.length) : mustB b (seatAt b.st.length (leftI b.tu b.st.length) k).toNat = false := by
  have := List.not_of_lt_findIdx h
  simpa using this
theorem hopN_at (b : Bt) (h : hopN b < b.st.length) : mustB b (seatAt b.st.length (leftI b.tu b.st.length) (hopN b)).toNat = true := by
  have := List.findIdx_getElem (p := fun k => mustB b (seatAt b.st.length (leftI b.tu b.st.length) k).toNat) (xs := List.range b.st.length) (w := by rw [List.length_range]; exact h)
  simpa [hopN] using this
theorem hopN_le (b : Bt) : hopN b ≤ b.st.length := by
  have : hopN b ≤ (List.range b.st.length).length := List.findIdx_le_length
  simpa using this
/-- No seat of the first k from the left has to act. -/
def NoneTo (b : Bt) (k : Nat) : Prop := ∀ j, j < k → mustB b (seatAt b.st.length (leftI b.tu b.st.length) j).toNat = false
theorem nxt_found (b : Bt) (k : Nat) (hk : k < b.st.length) (h : NoneTo b k) (hh : mustB b (seatAt b.st.length (leftI b.tu b.st.length) k).toNat = true) : nxtI b = seatAt b.st.length (leftI b.tu b.st.length) k := by
  have hl := hopN_le b
  have e : hopN b = k := by
    rcases Nat.lt_trichotomy (hopN b) k with q | q | q
    · have := h _ q
      rw [hopN_at b (by omega)] at this
      cases this
    · exact q
    · have := hopN_before b k q hk
      rw [hh] at this
      cases this
  unfold nxtI
  rw [e, if_pos hk]
theorem nxt_none (b : Bt) (h : NoneTo b b.st.length) : nxtI b = b.tu := by
  unfold nxtI
  split
  · next q =>
    have := h _ q
    rw [hopN_at b q] at this
    cases this
  · rfl
theorem nxt_bd (b : Bt) (h0 : 0 ≤ b.tu) (h1 : b.tu < b.st.length) : 0 ≤ nxtI b ∧ nxtI b < b.st.length := by
  unfold nxtI
  split
  · exact seatAt_bd _ _ _ (by omega)
  · exact ⟨h0, h1⟩
/-- The round behind an action, its turn where it was; then with the next turn. -/
def setAc (b : Bt) : Bt := { b with ac := b.ac.set b.tu.toNat true }
def more (b : Bt) (d : Int) : Bt := { b with st := b.st.set b.tu.toNat (nth b.st b.tu.toNat - d), bt := b.bt.set b.tu.toNat (nth b.bt b.tu.toNat + d) }
def foldB (b : Bt) : Bt := { b with fo := b.fo.set b.tu.toNat true }
def fullB (b : Bt) (x : Int) : Bool := decide (b.un ≤ x - topI b)
def raiseB (b : Bt) (x : Int) : Bt :=
  let c := more b (x - nth b.bt b.tu.toNat)
  { c with ra := minT (b.ra + 1) 4, un := if fullB b x = true then x - topI b else b.un, ac := if fullB b x = true then List.replicate b.ac.length false else b.ac }
def actB (b : Bt) (k x : Int) : Bt := if k = 0 then foldB b else if k = 1 then b else if k = 2 then more b (callI b) else raiseB b x
def turnB (b : Bt) : Bt := { b with tu := nxtI b }
def appB (b : Bt) (k x : Int) : Bt := turnB (setAc (actB b k x))
/-- The seats that have not folded. -/
def liveL (b : Bt) : Nat → List Int
  | 0 => []
  | k + 1 => if nthB b.fo k = true then liveL b k else liveL b k ++ [(k : Int)]
theorem liveL_len (b : Bt) : ∀ k, (liveL b k).length ≤ k
  | 0 => by simp [liveL]
  | k + 1 => by
    have := liveL_len b k
    unfold liveL
    split
    · omega
    · simp; omega
end Go.Proofs.Ytlcimofhpphefaa
