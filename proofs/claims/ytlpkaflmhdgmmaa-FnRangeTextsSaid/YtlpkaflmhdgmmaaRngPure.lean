/-
  Plain facts on ranges: lists of classes that rise.
-/
import Derived.Test.YtlpkaflmhdgmmaaSpecH
namespace Go.Proofs.Ytlpkaflmhdgmmaa

/-- The i-th number is a class, and greater than the one before it. -/
def goodAt (xs : List Int) (i : Nat) : Bool := decide (0 ≤ nth xs i) && decide (nth xs i < 169) && (decide (i = 0) || decide (nth xs (i - 1) < nth xs i))
/-- Whether a list is a range. -/
def rngB (xs : List Int) : Bool := (List.range xs.length).all (goodAt xs)
theorem good_iff {xs : List Int} {i : Nat} : goodAt xs i = true ↔ 0 ≤ nth xs i ∧ nth xs i < 169 ∧ (i = 0 ∨ nth xs (i - 1) < nth xs i) := by
  unfold goodAt; simp [and_assoc]
theorem rng_iff {xs : List Int} : rngB xs = true ↔ ∀ i, i < xs.length → goodAt xs i = true := by
  unfold rngB; simp
theorem rng_no {xs : List Int} {i : Nat} (h : i < xs.length) (hg : goodAt xs i = false) : rngB xs = false := by
  cases e : rngB xs with
  | false => rfl
  | true => have := rng_iff.1 e i h; rw [hg] at this; cases this
theorem good_low {xs : List Int} {i : Nat} (h : nth xs i < 0) : goodAt xs i = false := by
  cases e : goodAt xs i with
  | false => rfl
  | true => have := good_iff.1 e; omega
theorem good_high {xs : List Int} {i : Nat} (h : 169 ≤ nth xs i) : goodAt xs i = false := by
  cases e : goodAt xs i with
  | false => rfl
  | true => have := good_iff.1 e; omega
theorem good_step {xs : List Int} {i : Nat} (h0 : 0 < i) (h : nth xs i ≤ nth xs (i - 1)) : goodAt xs i = false := by
  cases e : goodAt xs i with
  | false => rfl
  | true => have := good_iff.1 e; omega
theorem good_yes {xs : List Int} {i : Nat} (h0 : 0 ≤ nth xs i) (h1 : nth xs i < 169) (h : i = 0 ∨ nth xs (i - 1) < nth xs i) : goodAt xs i = true := good_iff.2 ⟨h0, h1, h⟩
theorem rng_in {xs : List Int} (h : rngB xs = true) (i : Nat) (hi : i < xs.length) : 0 ≤ nth xs i ∧ nth xs i < 169 := by
  have := good_iff.1 (rng_iff.1 h i hi); exact ⟨this.1, this.2.1⟩
theorem rng_mem {xs : List Int} (h : rngB xs = true) (x : Int) (hx : x ∈ xs) : 0 ≤ x ∧ x < 169 := by
  obtain ⟨i, hi, rfl⟩ := List.getElem_of_mem hx
  rw [← nth_eq xs i hi]; exact rng_in h i hi
theorem rng_lt {xs : List Int} (h : rngB xs = true) (i : Nat) : ∀ j, i < j → j < xs.length → nth xs i < nth xs j
  | 0, hij, _ => by omega
  | j + 1, hij, hj => by
    have hs := (good_iff.1 (rng_iff.1 h (j + 1) hj)).2.2
    simp at hs
    by_cases e : i = j
    · subst e; exact hs
    · have := rng_lt h i j (by omega) (by omega); omega
theorem rng_rises {xs : List Int} (h : rngB xs = true) : xs.Pairwise (· < ·) := by
  rw [List.pairwise_iff_getElem]
  intro i j hi hj hij
  rw [← nth_eq xs i hi, ← nth_eq xs j hj]
  exact rng_lt h i j hij hj
theorem rng_of {xs : List Int} (hp : xs.Pairwise (· < ·)) (hb : ∀ x ∈ xs, 0 ≤ x ∧ x < 169) : rngB xs = true := by
  rw [rng_iff]
  intro i hi
  have h1 := hb _ (nth_mem xs i hi)
  refine good_yes h1.1 h1.2 ?_
  by_cases e : i = 0
  · exact .inl e
  · right
    rw [List.pairwise_iff_getElem] at hp
    have := hp (i - 1) i (by omega) hi (by omega)
    rw [nth_eq xs i hi, nth_eq xs (i - 1) (by omega)]; exact this
/-- The first n classes that are taken. -/
def clsInN (n : Nat) (p : Int → Bool) : List Int := ((List.range n).map (fun i : Nat => (i : Int))).filter p
def clsIn (p : Int → Bool) : List Int := clsInN 169 p
theorem clsInN_zero (p : Int → Bool) : clsInN 0 p = [] := rfl
theorem clsInN_yes (n : Nat) (p : Int → Bool) (h : p (n : Int) = true) : clsInN (n + 1) p = clsInN n p ++ [(n : Int)] := by
  unfold clsInN
  rw [List.range_succ, List.map_append, List.filter_append]
  have : (List.map (fun i : Nat => (i : Int)) [n]).filter p = [(n : Int)] := by
    show [(n : Int)].filter _ = _
    rw [List.filter_cons, h]; rfl
  rw [this]
theorem clsInN_no (n : Nat) (p : Int → Bool) (h : p (n : Int) = false) : clsInN (n + 1) p = clsInN n p := by
  unfold clsInN
  rw [List.range_succ, List.map_append, List.filter_append]
  have : (List.map (fun i : Nat => (i : Int)) [n]).filter p = [] := by
    show [(n : Int)].filter _ = _
    rw [List.filter_cons, h]; rfl
  rw [this, List.append_nil]
theorem clsInN_len (n : Nat) (p : Int → Bool) : (clsInN n p).length ≤ n := by
  unfold clsInN
  refine Nat.le_trans (List.length_filter_le ..) ?_
  simp
theorem clsIn_len (p : Int → Bool) : (clsIn p).length ≤ 169 := clsInN_len 169 p
theorem clsIn_mem (p : Int → Bool) (x : Int) : x ∈ clsIn p ↔ (0 ≤ x ∧ x < 169) ∧ p x = true := by
  unfold clsIn clsInN
  rw [List.mem_filter]
  constructor
  · rintro ⟨h, hp⟩
    obtain ⟨i, hi, rfl⟩ := List.mem_map.1 h
    have := List.mem_range.1 hi
    exact ⟨by omega, hp⟩
  · rintro ⟨h, hp⟩
    exact ⟨List.mem_map.2 ⟨x.toNat, List.mem_range.2 (by omega), by omega⟩, hp⟩
theorem clsIn_rises (p : Int → Bool) : (clsIn p).Pairwise (· < ·) := by
  unfold clsIn clsInN
  refine List.Pairwise.filter _ ?_
  rw [List.pairwise_map]
  exact List.Pairwise.imp (fun h => by omega) List.pairwise_lt_range
theorem clsIn_rng (p : Int → Bool) : rngB (clsIn p) = true := rng_of (clsIn_rises p) (fun x hx => ((clsIn_mem p x).1 hx).1)
/-- Two lists that rise and have the same numbers are one. -/
theorem rises_same : ∀ (xs ys : List Int), xs.Pairwise (· < ·) → ys.Pairwise (· < ·) → (∀ x, x ∈ xs ↔ x ∈ ys) → xs = ys
  | [], [], _, _, _ => rfl
  | [], y :: ys, _, _, h => by have := (h y).2 (by simp); cases this
  | x :: xs, [], _, _, h => by have := (h x).1 (by simp); cases this
  | x :: xs, y :: ys, hx, hy, h => by
    obtain ⟨hx1, hx2⟩ := List.pairwise_cons.1 hx
    obtain ⟨hy1, hy2⟩ := List.pairwise_cons.1 hy
    have e : x = y := by
      have h1 : x ∈ y :: ys := (h x).1 (by simp)
      have h2 : y ∈ x :: xs := (h y).2 (by simp)
      rcases List.mem_cons.1 h1 with e | h1
      · exact e
      · rcases List.mem_cons.1 h2 with e | h2
        · exact e.symm
        · have := hx1 y h2; have := hy1 x h1; omega
    subst e
    rw [rises_same xs ys hx2 hy2 (fun z => ?_)]
    constructor
    · intro hz
      have h3 : z ∈ x :: ys := (h z).1 (by simp [hz])
      rcases List.mem_cons.1 h3 with e | h3
      · subst e; have := hx1 z hz; omega
      · exact h3
    · intro hz
      have h3 : z ∈ x :: xs := (h z).2 (by simp [hz])
      rcases List.mem_cons.1 h3 with e | h3
      · subst e; have := hy1 z hz; omega
      · exact h3
theorem hasB_mem {xs : List Int} {x : Int} : hasB xs x = true ↔ x ∈ xs := by unfold hasB; simp
theorem rng_cls {xs : List Int} (h : rngB xs = true) : xs = clsIn (hasB xs) :=
  rises_same _ _ (rng_rises h) (clsIn_rises _) (fun x => by
    rw [clsIn_mem, hasB_mem]
    exact ⟨fun hx => ⟨rng_mem h x hx, hx⟩, fun hx => hx.2⟩)
theorem rng_len {xs : List Int} (h : rngB xs = true) : xs.length ≤ 169 := by
  rw [rng_cls h]; exact clsIn_len _
theorem clsIn_congr {p q : Int → Bool} (h : ∀ x, 0 ≤ x → x < 169 → p x = q x) : clsIn p = clsIn q :=
  rises_same _ _ (clsIn_rises p) (clsIn_rises q) (fun x => by
    rw [clsIn_mem, clsIn_mem]
    constructor
    · rintro ⟨hx, hp⟩; exact ⟨hx, by rw [← h x hx.1 hx.2]; exact hp⟩
    · rintro ⟨hx, hp⟩; exact ⟨hx, by rw [h x hx.1 hx.2]; exact hp⟩)
theorem hasB_clsIn (p : Int → Bool) (x : Int) (h0 : 0 ≤ x) (h1 : x < 169) : hasB (clsIn p) x = p x := by
  rw [Bool.eq_iff_iff, hasB_mem, clsIn_mem]
  exact ⟨fun h => h.2, fun h => ⟨⟨h0, h1⟩, h⟩⟩
/-- What is common, as the model finds it: the classes of one range that the other has. -/
theorem rng_filter {xs : List Int} (h : rngB xs = true) (q : Int → Bool) : xs.filter q = clsIn (fun c => hasB xs c && q c) :=
  rises_same _ _ (List.Pairwise.filter _ (rng_rises h)) (clsIn_rises _) (fun x => by
    rw [clsIn_mem, List.mem_filter, Bool.and_eq_true, hasB_mem]
    exact ⟨fun hx => ⟨rng_mem h x hx.1, hx⟩, fun hx => hx.2⟩)
theorem filter_two (p q : Int → Bool) : ∀ l : List Int, (l.filter (fun c => p c || q c)).length + (l.filter (fun c => p c && q c)).length = (l.filter p).length + (l.filter q).length
  | [] => rfl
  | x :: l => by
    have := filter_two p q l
    simp only [List.filter_cons]
    cases hp : p x <;> cases hq : q x <;> simp <;> omega
theorem clsIn_two (p q : Int → Bool) : (clsIn (fun c => p c || q c)).length + (clsIn (fun c => p c && q c)).length = (clsIn p).length + (clsIn q).length := filter_two p q _
/-- What the functions of two ranges answer. -/
def twoR (a b : List Int) (f : Bool → Bool → Bool) : List Int := if (rngB a && rngB b) = true then clsIn (fun c => f (hasB a c) (hasB b c)) else []
def twoC (a b : List Int) : Int := if (rngB a && rngB b) = true then 0 else 1
theorem two_yes {a b : List Int} {f : Bool → Bool → Bool} (ha : rngB a = true) (hb : rngB b = true) : twoR a b f = clsIn (fun c => f (hasB a c) (hasB b c)) ∧ twoC a b = 0 := by unfold twoR twoC; rw [ha, hb]; exact ⟨rfl, rfl⟩
theorem two_no {a b : List Int} {f : Bool → Bool → Bool} (h : (rngB a && rngB b) = false) : twoR a b f = [] ∧ twoC a b = 1 := by unfold twoR twoC; rw [h]; exact ⟨rfl, rfl⟩
theorem two_len (a b : List Int) (f : Bool → Bool → Bool) : (twoR a b f).length ≤ 4000000 := by
  unfold twoR; split
  · have := clsIn_len (fun c => f (hasB a c) (hasB b c)); omega
  · simp
theorem rng_nil : rngB [] = true := rfl
end Go.Proofs.Ytlpkaflmhdgmmaa
