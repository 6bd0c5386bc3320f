/-
  The parts of a range text: plain facts; nothing of the program is imported.
-/
import Derived.Test.YtlpkaflmhdgmmaaCardRead
import Derived.Test.YtlpkaflmhdgmmaaRngPure
import Derived.Test.YtlpkaflmhdgmmaaSplitByPure
namespace Go.Proofs.Ytlpkaflmhdgmmaa

/-- The rank of a character; below 0: none. -/
def rkI (c : UInt8) : Int := Lib.indexByte rankL c
theorem rkI_bd (c : UInt8) : -1 ≤ rkI c ∧ rkI c ≤ 12 := by
  have := idx_bd rankL c
  have e : rankL.length = 13 := rfl
  unfold rkI; omega
theorem rkI_43 : rkI 43 = -1 := by decide +kernel
theorem rkI_44 : rkI 44 = -1 := by decide +kernel
theorem rkI_45 : rkI 45 = -1 := by decide +kernel
theorem rkI_115 : rkI 115 = -1 := by decide +kernel
theorem rkI_111 : rkI 111 = -1 := by decide +kernel
--CUT
/-- What a text of one or two classes stands for: both ranks and the third character (a blank: none). -/
abbrev Grp := Int × Int × UInt8
def thirdR : List UInt8 → UInt8 × List UInt8
  | [] => (32, [])
  | e :: r => if e = 115 then (115, r) else if e = 111 then (111, r) else (32, e :: r)
/-- A group is read from a text; what stands behind it. -/
def grpR : List UInt8 → Option (Grp × List UInt8)
  | c :: d :: r => if 0 ≤ rkI d ∧ rkI d ≤ rkI c then (if rkI c = rkI d then some ((rkI c, rkI d, 32), r) else some ((rkI c, rkI d, (thirdR r).1), (thirdR r).2)) else none
  | _ => none
theorem thirdR_cons (e : UInt8) (r : List UInt8) : thirdR (e :: r) = if e = 115 then (115, r) else if e = 111 then (111, r) else (32, e :: r) := rfl
theorem grpR_two (c d : UInt8) (r : List UInt8) : grpR (c :: d :: r) = if 0 ≤ rkI d ∧ rkI d ≤ rkI c then (if rkI c = rkI d then some ((rkI c, rkI d, 32), r) else some ((rkI c, rkI d, (thirdR r).1), (thirdR r).2)) else none := rfl
theorem grpR_one (c : UInt8) : grpR [c] = none := rfl
theorem grpR_nil : grpR [] = none := rfl
/-- The greatest smaller rank of a group's row; the group of the row with another smaller rank. -/
def topG (g : Grp) : Int := if g.1 = g.2.1 then 12 else g.1 - 1
def withG (g : Grp) (lo : Int) : Grp := (if g.1 = g.2.1 then lo else g.1, lo, g.2.2)
/-- Whether a group comes behind another one in its row. -/
def folG (g g2 : Grp) : Bool := decide (g2.2.1 < g.2.1) && decide (withG g g2.2.1 = g2)
/-- A part is read: the least group and the greatest smaller rank; what stands behind it. -/
def partR (l : List UInt8) : Option ((Grp × Int) × List UInt8) :=
  match grpR l with
  | none => none
  | some (g, []) => some ((g, g.2.1), [])
  | some (g, e :: r) =>
    if e = 43 then some ((g, topG g), r)
    else if e = 45 then (match grpR r with
      | none => none
      | some (g2, r2) => if folG g g2 = true then some ((g2, g.2.1), r2) else none)
    else some ((g, g.2.1), e :: r)
/-- A whole text is one group; one part. -/
def wholeG (o : Option (Grp × List UInt8)) : Option Grp := match o with | some (g, []) => some g | _ => none
def wholeP (o : Option ((Grp × Int) × List UInt8)) : Option (Grp × Int) := match o with | some (x, []) => some x | _ => none
def grpM (l : List UInt8) : Option Grp := wholeG (grpR l)
def partM (l : List UInt8) : Option (Grp × Int) := wholeP (partR l)
theorem wholeP_more (x : Grp × Int) (e : UInt8) (r : List UInt8) : wholeP (some (x, e :: r)) = none := rfl
theorem wholeP_app (x : Grp × Int) (r : List UInt8) (e : UInt8) (t : List UInt8) : wholeP (some (x, r ++ e :: t)) = none := by cases r <;> rfl
theorem partR_none {l : List UInt8} (h : grpR l = none) : partR l = none := by unfold partR; rw [h]
theorem partR_end {l : List UInt8} {g : Grp} (h : grpR l = some (g, [])) : partR l = some ((g, g.2.1), []) := by unfold partR; rw [h]
theorem partR_more {l : List UInt8} {g : Grp} {e : UInt8} {r : List UInt8} (h : grpR l = some (g, e :: r)) : partR l = if e = 43 then some ((g, topG g), r) else if e = 45 then (match grpR r with | none => none | some (g2, r2) => if folG g g2 = true then some ((g2, g.2.1), r2) else none) else some ((g, g.2.1), e :: r) := by unfold partR; rw [h]
theorem partR_plus {l : List UInt8} {g : Grp} {r : List UInt8} (h : grpR l = some (g, 43 :: r)) : partR l = some ((g, topG g), r) := by rw [partR_more h, if_pos rfl]
theorem partR_bad {l : List UInt8} {g : Grp} {r : List UInt8} (h : grpR l = some (g, 45 :: r)) (h2 : grpR r = none) : partR l = none := by rw [partR_more h, if_neg (by decide), if_pos rfl, h2]
theorem partR_minus {l : List UInt8} {g g2 : Grp} {r r2 : List UInt8} (h : grpR l = some (g, 45 :: r)) (h2 : grpR r = some (g2, r2)) : partR l = if folG g g2 = true then some ((g2, g.2.1), r2) else none := by rw [partR_more h, if_neg (by decide), if_pos rfl, h2]
theorem partR_other {l : List UInt8} {g : Grp} {e : UInt8} {r : List UInt8} (h : grpR l = some (g, e :: r)) (h1 : e ≠ 43) (h2 : e ≠ 45) : partR l = some ((g, g.2.1), e :: r) := by rw [partR_more h, if_neg h1, if_neg h2]

/-- A group that was read. -/
def OkG (g : Grp) : Prop := 0 ≤ g.2.1 ∧ g.2.1 ≤ g.1 ∧ g.1 ≤ 12 ∧ (g.1 = g.2.1 → g.2.2 = 32) ∧ (g.2.2 = 32 ∨ g.2.2 = 115 ∨ g.2.2 = 111)
theorem thirdR_kd (r : List UInt8) : (thirdR r).1 = 32 ∨ (thirdR r).1 = 115 ∨ (thirdR r).1 = 111 := by
  cases r with
  | nil => exact .inl rfl
  | cons e r =>
    rw [thirdR_cons]
    split
    · exact .inr (.inl rfl)
    · split
      · exact .inr (.inr rfl)
      · exact .inl rfl
theorem grpR_ok {l : List UInt8} {g : Grp} {r : List UInt8} (h : grpR l = some (g, r)) : OkG g := by
  match l, h with
  | c :: d :: r', h =>
    rw [grpR_two] at h
    have hc := rkI_bd c
    split at h
    · rename_i h1
      split at h
      · rename_i h2
        injection h with h; injection h with h _; subst h
        exact ⟨h1.1, h1.2, hc.2, fun _ => rfl, .inl rfl⟩
      · rename_i h2
        injection h with h; injection h with h _; subst h
        exact ⟨h1.1, h1.2, hc.2, fun e => absurd e h2, thirdR_kd r'⟩
    · cases h
/-- A character that ends a group. -/
def endC (c : UInt8) : Prop := rkI c < 0 ∧ c ≠ 115 ∧ c ≠ 111
theorem end_43 : endC 43 := ⟨by rw [rkI_43]; omega, by decide, by decide⟩
theorem end_44 : endC 44 := ⟨by rw [rkI_44]; omega, by decide, by decide⟩
theorem end_45 : endC 45 := ⟨by rw [rkI_45]; omega, by decide, by decide⟩
theorem thirdR_app (r : List UInt8) (c : UInt8) (t : List UInt8) (h : endC c) : thirdR (r ++ c :: t) = ((thirdR r).1, (thirdR r).2 ++ c :: t) := by
  cases r with
  | nil =>
    show thirdR (c :: t) = _
    rw [thirdR_cons, if_neg h.2.1, if_neg h.2.2]; rfl
  | cons e r =>
    show thirdR (e :: (r ++ c :: t)) = _
    rw [thirdR_cons, thirdR_cons]
    split
    · rfl
    · split <;> rfl
theorem grpR_app (p : List UInt8) (c : UInt8) (t : List UInt8) (h : endC c) : grpR (p ++ c :: t) = (grpR p).map (fun x => (x.1, x.2 ++ c :: t)) := by
  match p with
  | [] =>
    cases t with
    | nil => rfl
    | cons d r =>
      show grpR (c :: d :: r) = none
      rw [grpR_two, if_neg (by have := h.1; omega)]
  | [x] =>
    show grpR (x :: c :: t) = none
    rw [grpR_two, if_neg (by have := h.1; omega)]
  | x :: y :: r =>
    show grpR (x :: y :: (r ++ c :: t)) = _
    rw [grpR_two, grpR_two]
    by_cases h1 : 0 ≤ rkI y ∧ rkI y ≤ rkI x
    · rw [if_pos h1, if_pos h1]
      by_cases h2 : rkI x = rkI y
      · rw [if_pos h2, if_pos h2]; rfl
      · rw [if_neg h2, if_neg h2, thirdR_app r c t h]; rfl
    · rw [if_neg h1, if_neg h1]; rfl
theorem grpM_of {l : List UInt8} {g : Grp} (h : grpR l = some (g, [])) : grpM l = some g := by unfold grpM; rw [h]; rfl
theorem grpM_some {l : List UInt8} {g : Grp} (h : grpM l = some g) : grpR l = some (g, []) := by
  unfold grpM wholeG at h
  split at h
  · rename_i e; injection h with h; rw [e, h]
  · cases h
/-- Behind a part stands a comma: it is read as if nothing stood there. -/
theorem partR_app (p t : List UInt8) (ht : t = [] ∨ ∃ u, t = 44 :: u) : partR (p ++ t) = (partR p).map (fun x => (x.1, x.2 ++ t)) := by
  rcases ht with rfl | ⟨u, rfl⟩
  · rw [List.append_nil]
    cases partR p with
    | none => rfl
    | some x => simp
  · have ha := grpR_app p 44 u end_44
    rcases hg : grpR p with _ | ⟨g, r⟩
    · rw [hg] at ha
      rw [partR_none hg, partR_none ha]; rfl
    · rw [hg] at ha
      cases r with
      | nil => rw [partR_end hg, partR_other ha (by decide) (by decide)]; rfl
      | cons e r =>
        by_cases h1 : e = 43
        · subst h1; rw [partR_plus hg, partR_plus ha]; rfl
        · by_cases h2 : e = 45
          · subst h2
            have hb := grpR_app r 44 u end_44
            rcases hg2 : grpR r with _ | ⟨g2, r2⟩
            · rw [hg2] at hb
              rw [partR_bad hg hg2, partR_bad ha hb]; rfl
            · rw [hg2] at hb
              rw [partR_minus hg hg2, partR_minus ha hb]
              split <;> rfl
          · rw [partR_other hg h1 h2, partR_other ha h1 h2]; rfl
/-- A word's characters: those of ranks, s and o. -/
theorem grpR_in {l : List UInt8} {g : Grp} (h : grpR l = some (g, [])) : ∀ c ∈ l, ¬ endC c := by
  match l, h with
  | c :: d :: r, h =>
    rw [grpR_two] at h
    split at h
    · rename_i h1
      have k1 : ¬ endC c := fun e => by have := e.1; omega
      have k2 : ¬ endC d := fun e => by have := e.1; omega
      have k3 : ∀ x ∈ r, ¬ endC x := by
        split at h
        · injection h with h; injection h with _ h; subst h; simp
        · injection h with h; injection h with _ h
          match r, h with
          | [], _ => simp
          | e :: r', h =>
            rw [thirdR_cons] at h
            split at h
            · rename_i he
              have h : r' = [] := h
              subst h he
              intro x hx
              have : x = 115 := by simpa using hx
              subst this
              exact fun e => e.2.1 rfl
            · split at h
              · rename_i he
                have h : r' = [] := h
                subst h he
                intro x hx
                have : x = 111 := by simpa using hx
                subst this
                exact fun e => e.2.2 rfl
              · cases h
      intro x hx
      rcases List.mem_cons.1 hx with e | hx
      · rw [e]; exact k1
      · rcases List.mem_cons.1 hx with e | hx
        · rw [e]; exact k2
        · exact k3 x hx
    · cases h
theorem grpM_no {l : List UInt8} {c : UInt8} (hc : endC c) (h : c ∈ l) : grpM l = none := by
  cases e : grpM l with
  | none => rfl
  | some g => exact absurd hc (grpR_in (grpM_some e) c h)
/-- A part with a minus. -/
theorem grpM_not {l : List UInt8} {g : Grp} {e : UInt8} {r : List UInt8} (h : grpR l = some (g, e :: r)) : grpM l = none := by unfold grpM; rw [h]; rfl
theorem grpM_none {l : List UInt8} (h : grpR l = none) : grpM l = none := by unfold grpM; rw [h]; rfl
theorem grpR_rest {l : List UInt8} {g : Grp} {r : List UInt8} (h : grpR l = some (g, r)) : ∃ a, l = a ++ r := by
  match l, h with
  | c :: d :: r', h =>
    rw [grpR_two] at h
    split at h
    · split at h
      · injection h with h; injection h with _ h; subst h; exact ⟨[c, d], rfl⟩
      · injection h with h; injection h with _ h
        match r', h with
        | [], h =>
          have h : ([] : List UInt8) = r := h
          subst h; exact ⟨[c, d], rfl⟩
        | x :: r'', h =>
          rw [thirdR_cons] at h
          split at h
          · have h : r'' = r := h
            subst h; exact ⟨[c, d, x], rfl⟩
          · split at h
            · have h : r'' = r := h
              subst h; exact ⟨[c, d, x], rfl⟩
            · have h : x :: r'' = r := h
              subst h; exact ⟨[c, d], rfl⟩
    · cases h
theorem partM_minus (a b : List UInt8) (ha : (45 : UInt8) ∉ a) : partM (a ++ 45 :: b) = match grpM a, grpM b with | some g, some g2 => if folG g g2 = true then some (g2, g.2.1) else none | _, _ => none := by
  have hk := grpR_app a 45 b end_45
  unfold partM
  rcases hg : grpR a with _ | ⟨g, r⟩
  · rw [hg] at hk
    rw [partR_none hk, grpM_none hg]; rfl
  · rw [hg] at hk
    cases r with
    | nil =>
      rw [grpM_of hg]
      rcases hb : grpR b with _ | ⟨g2, r2⟩
      · rw [partR_bad hk hb, grpM_none hb]; rfl
      · rw [partR_minus hk hb]
        cases r2 with
        | nil =>
          rw [grpM_of hb]
          show wholeP _ = if folG g g2 = true then _ else none
          split <;> rfl
        | cons e r2 =>
          rw [grpM_not hb]
          show wholeP _ = none
          split <;> rfl
    | cons e r =>
      rw [grpM_not hg]
      show wholeP _ = none
      by_cases h1 : e = 43
      · subst h1; rw [partR_plus hk]; exact wholeP_app _ _ _ _
      · rw [partR_other hk h1 (by
          intro h2
          subst h2
          obtain ⟨b, rfl⟩ := grpR_rest hg
          exact ha (by simp))]
        rfl
/-- A part with two minus signs is none. -/
theorem partM_two (a b c : List UInt8) (ha : (45 : UInt8) ∉ a) : partM (a ++ 45 :: (b ++ 45 :: c)) = none := by
  rw [partM_minus a _ ha, grpM_no end_45 (l := b ++ 45 :: c) (by simp)]
  cases grpM a <;> rfl
/-- A part without a minus: with a plus at its end, or without. -/
theorem partM_plus (a : List UInt8) (ha : (45 : UInt8) ∉ a) : partM (a ++ [43]) = (grpM a).map (fun g => (g, topG g)) := by
  have hk := grpR_app a 43 [] end_43
  unfold partM
  rcases hg : grpR a with _ | ⟨g, r⟩
  · rw [hg] at hk
    rw [partR_none hk, grpM_none hg]; rfl
  · rw [hg] at hk
    cases r with
    | nil => rw [grpM_of hg, partR_plus hk]; rfl
    | cons e r =>
      rw [grpM_not hg]
      show wholeP _ = none
      by_cases h1 : e = 43
      · subst h1; rw [partR_plus hk]; exact wholeP_app _ _ _ _
      · rw [partR_other hk h1 (by
          intro h2
          subst h2
          obtain ⟨b, rfl⟩ := grpR_rest hg
          exact ha (by simp))]
        rfl
theorem partM_word (l : List UInt8) (ha : (45 : UInt8) ∉ l) (hp : l.getLast? ≠ some 43) : partM l = (grpM l).map (fun g => (g, g.2.1)) := by
  unfold partM
  rcases hg : grpR l with _ | ⟨g, r⟩
  · rw [partR_none hg, grpM_none hg]; rfl
  · cases r with
    | nil => rw [grpM_of hg, partR_end hg]; rfl
    | cons e r =>
      rw [grpM_not hg]
      show wholeP _ = none
      obtain ⟨b, rfl⟩ := grpR_rest hg
      by_cases h1 : e = 43
      · subst h1
        rw [partR_plus hg]
        cases r with
        | nil => exact absurd (by simp) hp
        | cons x r => rfl
      · rw [partR_other hg h1, wholeP_more]
        intro h2
        subst h2
        exact ha (by simp)
/-- A group as the model reads it: two or three characters. -/
theorem grpM_short {l : List UInt8} (h : l.length < 2 ∨ 3 < l.length) : grpM l = none := by
  unfold grpM
  match l, h with
  | [], _ => rfl
  | [c], _ => rfl
  | [c, d], h => simp at h
  | [c, d, e], h => simp at h
  | c :: d :: e :: f :: r, _ =>
    rw [grpR_two]
    split
    · split
      · rfl
      · rw [thirdR_cons]
        split
        · rfl
        · split <;> rfl
    · rfl
theorem grpM_2 (c d : UInt8) : grpM [c, d] = if 0 ≤ rkI d ∧ rkI d ≤ rkI c then some (rkI c, rkI d, 32) else none := by
  unfold grpM
  rw [grpR_two]
  by_cases h : 0 ≤ rkI d ∧ rkI d ≤ rkI c
  · rw [if_pos h, if_pos h]
    split
    · rename_i h2; rw [h2]; rfl
    · rfl
  · rw [if_neg h, if_neg h]; rfl
theorem grpM_3 (c d e : UInt8) : grpM [c, d, e] = if 0 ≤ rkI d ∧ rkI d < rkI c ∧ (e = 115 ∨ e = 111) then some (rkI c, rkI d, e) else none := by
  unfold grpM
  rw [grpR_two]
  by_cases h : 0 ≤ rkI d ∧ rkI d ≤ rkI c
  · rw [if_pos h]
    by_cases h2 : rkI c = rkI d
    · rw [if_pos h2, if_neg (show ¬ (0 ≤ rkI d ∧ rkI d < rkI c ∧ (e = 115 ∨ e = 111)) by omega)]; rfl
    · rw [if_neg h2, thirdR_cons]
      by_cases h3 : e = 115
      · rw [if_pos h3, if_pos ⟨h.1, by omega, .inl h3⟩, h3]; rfl
      · rw [if_neg h3]
        by_cases h4 : e = 111
        · rw [if_pos h4, if_pos ⟨h.1, by omega, .inr h4⟩, h4]; rfl
        · rw [if_neg h4, if_neg]
          · rfl
          · rintro ⟨_, _, h5 | h5⟩
            · exact h3 h5
            · exact h4 h5
  · rw [if_neg h, if_neg]
    · rfl
    · intro h'
      exact h ⟨h'.1, by omega⟩

/-- The classes of a group; of all groups of its row from it on up to a smaller rank. -/
def clsG (g : Grp) : List Int := (if g.2.2 = 111 then [] else [13 * g.1 + g.2.1]) ++ (if g.2.2 ≠ 115 ∧ g.2.1 < g.1 then [13 * g.2.1 + g.1] else [])
def rowN (g : Grp) (n : Nat) : List Int := (List.range n).flatMap (fun i : Nat => clsG (withG g (g.2.1 + i)))
def rowG (x : Grp × Int) : List Int := rowN x.1 (x.2 + 1 - x.1.2.1).toNat
theorem rowN_zero (g : Grp) : rowN g 0 = [] := rfl
theorem rowN_succ (g : Grp) (n : Nat) : rowN g (n + 1) = rowN g n ++ clsG (withG g (g.2.1 + n)) := by
  unfold rowN
  rw [List.range_succ, List.flatMap_append, List.flatMap_singleton]
theorem clsG_len (g : Grp) : (clsG g).length ≤ 2 := by
  unfold clsG
  rw [List.length_append]
  split <;> split <;> simp
theorem rowN_len (g : Grp) : ∀ n, (rowN g n).length ≤ 2 * n
  | 0 => by simp [rowN_zero]
  | n + 1 => by
    have := rowN_len g n
    have := clsG_len (withG g (g.2.1 + n))
    rw [rowN_succ, List.length_append]; omega
/-- A part that was read: its smaller ranks. -/
def OkP (x : Grp × Int) : Prop := OkG x.1 ∧ x.1.2.1 ≤ x.2 ∧ x.2 ≤ 12 ∧ (x.1.1 = x.1.2.1 ∨ x.2 < x.1.1)
theorem ok_top {g : Grp} (h : OkG g) : OkP (g, topG g) := by
  obtain ⟨h1, h2, h3, h4, h5⟩ := h
  refine ⟨⟨h1, h2, h3, h4, h5⟩, ?_, ?_, ?_⟩ <;> (unfold topG; dsimp only; split <;> omega)
theorem ok_one {g : Grp} (h : OkG g) : OkP (g, g.2.1) := by
  obtain ⟨h1, h2, h3, h4, h5⟩ := h
  exact ⟨⟨h1, h2, h3, h4, h5⟩, by dsimp only; omega, by dsimp only; omega, by dsimp only; omega⟩
theorem fol_iff {g g2 : Grp} : folG g g2 = true ↔ g2.2.1 < g.2.1 ∧ withG g g2.2.1 = g2 := by unfold folG; simp
theorem ok_fol {g g2 : Grp} (h : OkG g) (h2 : OkG g2) (hf : folG g g2 = true) : OkP (g2, g.2.1) := by
  obtain ⟨f1, f2⟩ := fol_iff.1 hf
  have e1 : (withG g g2.2.1).1 = g2.1 := by rw [f2]
  unfold withG at e1
  dsimp only at e1
  obtain ⟨h1, h3, h4, h5, h6⟩ := h
  refine ⟨h2, by dsimp only; omega, by dsimp only; omega, ?_⟩
  dsimp only
  split at e1 <;> omega
theorem partR_ok {l : List UInt8} {x : Grp × Int} {r : List UInt8} (h : partR l = some (x, r)) : OkP x := by
  rcases hg : grpR l with _ | ⟨g, r'⟩
  · rw [partR_none hg] at h; cases h
  · have ho := grpR_ok hg
    cases r' with
    | nil =>
      rw [partR_end hg] at h
      injection h with h; injection h with h _; subst h
      exact ok_one ho
    | cons e r' =>
      by_cases h1 : e = 43
      · subst h1
        rw [partR_plus hg] at h
        injection h with h; injection h with h _; subst h; exact ok_top ho
      · by_cases h2 : e = 45
        · subst h2
          rcases hg2 : grpR r' with _ | ⟨g2, r2⟩
          · rw [partR_bad hg hg2] at h; cases h
          · rw [partR_minus hg hg2] at h
            split at h
            · rename_i hf
              injection h with h; injection h with h _; subst h
              exact ok_fol ho (grpR_ok hg2) hf
            · cases h
        · rw [partR_other hg h1 h2] at h
          injection h with h; injection h with h _; subst h; exact ok_one ho
theorem partM_some {l : List UInt8} {x : Grp × Int} (h : partM l = some x) : partR l = some (x, []) := by
  unfold partM wholeP at h
  split at h
  · rename_i e; injection h with h; rw [e, h]
  · cases h
theorem partM_ok {l : List UInt8} {x : Grp × Int} (h : partM l = some x) : OkP x := partR_ok (partM_some h)
/-- A group of the row, and its classes. -/
theorem with_ok {x : Grp × Int} (h : OkP x) (i : Int) (h0 : x.1.2.1 ≤ i) (h1 : i ≤ x.2) : OkG (withG x.1 i) := by
  obtain ⟨⟨g1, g2, g3, g4, g5⟩, p1, p2, p3⟩ := h
  unfold withG
  by_cases e : x.1.1 = x.1.2.1
  · rw [if_pos e]
    exact ⟨by dsimp only; omega, by dsimp only; omega, by dsimp only; omega, fun _ => g4 e, g5⟩
  · rw [if_neg e]
    refine ⟨by dsimp only; omega, ?_, g3, ?_, g5⟩
    · dsimp only; omega
    · dsimp only; intro e2; omega
theorem clsG_in {g : Grp} (h : OkG g) : ∀ c ∈ clsG g, 0 ≤ c ∧ c < 169 := by
  obtain ⟨h1, h2, h3, _, _⟩ := h
  unfold clsG
  intro c hc
  rcases List.mem_append.1 hc with hc | hc
  · split at hc
    · cases hc
    · have : c = 13 * g.1 + g.2.1 := by simpa using hc
      omega
  · split at hc
    · have : c = 13 * g.2.1 + g.1 := by simpa using hc
      omega
    · cases hc
theorem rowN_in {x : Grp × Int} (h : OkP x) : ∀ n : Nat, (n : Int) ≤ x.2 + 1 - x.1.2.1 → ∀ c ∈ rowN x.1 n, 0 ≤ c ∧ c < 169
  | 0, _, c, hc => by cases hc
  | n + 1, hn, c, hc => by
    rw [rowN_succ] at hc
    rcases List.mem_append.1 hc with hc | hc
    · exact rowN_in h n (by omega) c hc
    · exact clsG_in (with_ok h _ (by omega) (by omega)) c hc
theorem rowG_in {x : Grp × Int} (h : OkP x) : ∀ c ∈ rowG x, 0 ≤ c ∧ c < 169 := rowN_in h _ (by have := h.2.1; omega)
theorem rowG_len {x : Grp × Int} (h : OkP x) : (rowG x).length ≤ 26 := by
  have := rowN_len x.1 (x.2 + 1 - x.1.2.1).toNat
  obtain ⟨⟨g1, g2, g3, g4, g5⟩, p1, p2, p3⟩ := h
  unfold rowG; omega
/-- The classes of the first k pieces, as far as they are parts. -/
def accK (ps : List (List UInt8)) (k : Nat) : List Int := (ps.take k).flatMap (fun p => match partM p with | some x => rowG x | none => [])
def okK (ps : List (List UInt8)) (k : Nat) : Prop := ∀ p ∈ ps.take k, (partM p).isSome = true
/-- Whether all pieces are parts; what ReadRange answers. -/
def okB (l : List UInt8) : Bool := decide (l.length ≤ 800) && (splitB 44 l).all (fun p => (partM p).isSome)
def rdR (l : List UInt8) : List Int := if okB l = true then clsIn (hasB (accK (splitB 44 l) (splitB 44 l).length)) else []
def rdC (l : List UInt8) : Int := if 800 < l.length then 3 else if okB l = true then 0 else 6
theorem rd_long {l : List UInt8} (h : 800 < l.length) : rdR l = [] ∧ rdC l = 3 := by
  unfold rdR rdC okB
  rw [if_pos h, decide_eq_false (by omega)]
  exact ⟨rfl, rfl⟩
theorem rd_bad {l : List UInt8} (h : l.length ≤ 800) {p : List UInt8} (hp : p ∈ splitB 44 l) (hn : partM p = none) : rdR l = [] ∧ rdC l = 6 := by
  have e : okB l = false := by
    unfold okB
    rw [Bool.and_eq_false_iff]
    right
    rw [List.all_eq_false]
    exact ⟨p, hp, by rw [hn]; simp⟩
  unfold rdR rdC
  rw [e, if_neg (show ¬ 800 < l.length by omega)]
  exact ⟨rfl, rfl⟩
theorem rd_yes {l : List UInt8} (h : l.length ≤ 800) (hk : okK (splitB 44 l) (splitB 44 l).length) : rdR l = clsIn (hasB (accK (splitB 44 l) (splitB 44 l).length)) ∧ rdC l = 0 := by
  have e : okB l = true := by
    unfold okB
    rw [decide_eq_true h, Bool.true_and, List.all_eq_true]
    intro p hp
    exact hk p (by rw [List.take_of_length_le (Nat.le_refl _)]; exact hp)
  unfold rdR rdC
  rw [if_pos e, if_neg (show ¬ 800 < l.length by omega), if_pos e]
  exact ⟨rfl, rfl⟩
theorem accK_zero (ps : List (List UInt8)) : accK ps 0 = [] := by simp [accK]
theorem okK_zero (ps : List (List UInt8)) : okK ps 0 := by intro p hp; simp at hp
theorem accK_succ (ps : List (List UInt8)) (k : Nat) (h : k < ps.length) {x : Grp × Int} (hx : partM ps[k] = some x) : accK ps (k + 1) = accK ps k ++ rowG x := by
  unfold accK
  rw [List.take_succ_eq_append_getElem h, List.flatMap_append, List.flatMap_singleton, hx]
theorem okK_succ {ps : List (List UInt8)} {k : Nat} (ho : okK ps k) (h : k < ps.length) {x : Grp × Int} (hx : partM ps[k] = some x) : okK ps (k + 1) := by
  intro p hp
  rw [List.take_succ_eq_append_getElem h] at hp
  rcases List.mem_append.1 hp with hp | hp
  · exact ho p hp
  · have : p = ps[k] := by simpa using hp
    rw [this, hx]; rfl
theorem accK_len {ps : List (List UInt8)} : ∀ k, (accK ps k).length ≤ 26 * k
  | 0 => by rw [accK_zero]; simp
  | k + 1 => by
    have ih := accK_len (ps := ps) k
    by_cases h : k < ps.length
    · unfold accK
      rw [List.take_succ_eq_append_getElem h, List.flatMap_append, List.flatMap_singleton, List.length_append]
      have e : (accK ps k).length = (List.flatMap (fun p => match partM p with | some x => rowG x | none => []) (ps.take k)).length := rfl
      rw [← e]
      rcases hx : partM ps[k] with _ | x
      · simp; omega
      · have := rowG_len (partM_ok hx)
        show (accK ps k).length + (rowG x).length ≤ _
        omega
    · have e : accK ps (k + 1) = accK ps k := by
        unfold accK
        rw [List.take_of_length_le (by omega), List.take_of_length_le (by omega)]
      rw [e]; omega
end Go.Proofs.Ytlpkaflmhdgmmaa
