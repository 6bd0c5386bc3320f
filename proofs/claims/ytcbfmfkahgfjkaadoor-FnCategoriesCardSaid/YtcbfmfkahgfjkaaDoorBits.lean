/-
  Plain facts: numbers as sets of bits, and how many bits a number has. Nothing of the program is imported.
-/
import Derived.Lib.TrailingZeros
namespace Go.Proofs.YtcbfmfkahgfjkaaDoor

/-! Numbers as sets of bits. -/
/-- How many of the lowest n bits are set. -/
def pop : Nat → Nat → Nat
  | 0, _ => 0
  | n + 1, x => x % 2 + pop n (x / 2)
theorem pop_le : ∀ (n x : Nat), pop n x ≤ n
  | 0, _ => Nat.le_refl _
  | n + 1, x => by have := pop_le n (x / 2); unfold pop; omega
theorem pop_zero : ∀ (n : Nat), pop n 0 = 0
  | 0 => rfl
  | n + 1 => by unfold pop; simp [pop_zero n]
/-- The set bits, in increasing order, counted from off on. -/
def bitsFrom : Nat → Nat → Nat → List Nat
  | 0, _, _ => []
  | n + 1, off, x => if x % 2 = 1 then off :: bitsFrom n (off + 1) (x / 2) else bitsFrom n (off + 1) (x / 2)
theorem bitsFrom_zero : ∀ (n off : Nat), bitsFrom n off 0 = []
  | 0, _ => rfl
  | n + 1, off => by unfold bitsFrom; simp [bitsFrom_zero n]
theorem bitsFrom_length : ∀ (n off x : Nat), (bitsFrom n off x).length = pop n x
  | 0, _, _ => rfl
  | n + 1, off, x => by
    unfold bitsFrom pop
    by_cases h : x % 2 = 1
    · rw [if_pos h, List.length_cons, bitsFrom_length n, h]; omega
    · rw [if_neg h, bitsFrom_length n]; omega
theorem bitsFrom_filter : ∀ (n off x : Nat), bitsFrom n off x = ((List.range n).filter (fun i => x.testBit i)).map (· + off)
  | 0, _, _ => rfl
  | n + 1, off, x => by
    unfold bitsFrom
    rw [bitsFrom_filter n, List.range_succ_eq_map, List.filter_cons, List.filter_map, Nat.testBit_zero]
    have e : ((fun i => x.testBit i) ∘ Nat.succ) = fun i => (x / 2).testBit i := by funext i; simp [Nat.testBit_succ]
    rw [e]
    by_cases h : x % 2 = 1
    · rw [if_pos h, if_pos (by simp [h])]
      simp [List.map_map, Function.comp_def, Nat.add_assoc, Nat.add_comm 1]
    · rw [if_neg h, if_neg (by simp [h])]
      simp [List.map_map, Function.comp_def, Nat.add_assoc, Nat.add_comm 1]
theorem div_and (x y : Nat) : (x &&& y) / 2 = x / 2 &&& y / 2 := Nat.and_div_two
theorem clear_low_odd (x : Nat) (h : x % 2 = 1) : x &&& (x - 1) = x - 1 := by
  apply Nat.eq_of_testBit_eq
  intro i
  rw [Nat.testBit_and]
  cases i with
  | zero => simp [Nat.testBit_zero, h]
  | succ i =>
    rw [Nat.testBit_succ, Nat.testBit_succ]
    have : (x - 1) / 2 = x / 2 := by omega
    rw [this, Bool.and_self]
theorem clear_low_even (x : Nat) (h : x % 2 = 0) : (x &&& (x - 1)) % 2 = 0 ∧ (x &&& (x - 1)) / 2 = x / 2 &&& (x / 2 - 1) := by
  constructor
  · have : (x &&& (x - 1)).testBit 0 = false := by rw [Nat.testBit_and, Nat.testBit_zero]; simp [h]
    rw [Nat.testBit_zero, decide_eq_false_iff_not] at this
    omega
  · rw [div_and]
    have : (x - 1) / 2 = x / 2 - 1 := by omega
    rw [this]
/-- The lowest bit first; what is left has it cleared. -/
theorem bitsFrom_step : ∀ (n off x : Nat), x ≠ 0 → x < 2 ^ n → bitsFrom n off x = (off + Lib.ctzFrom n x) :: bitsFrom n off (x &&& (x - 1))
  | 0, _, x, h, h' => by simp at h'; omega
  | n + 1, off, x, h, h' => by
    by_cases e : x % 2 = 1
    · unfold bitsFrom Lib.ctzFrom
      have c := clear_low_odd x e
      rw [if_pos e, if_pos e, c]
      have : (x - 1) % 2 ≠ 1 := by omega
      rw [if_neg this]
      have : (x - 1) / 2 = x / 2 := by omega
      rw [this]; simp
    · have e' : x % 2 = 0 := by omega
      obtain ⟨c1, c2⟩ := clear_low_even x e'
      have hlt : x / 2 < 2 ^ n := by rw [Nat.pow_succ] at h'; omega
      have ih := bitsFrom_step n (off + 1) (x / 2) (by omega) hlt
      have l : bitsFrom (n + 1) off x = bitsFrom n (off + 1) (x / 2) := by rw [bitsFrom, if_neg e]
      have r : bitsFrom (n + 1) off (x &&& (x - 1)) = bitsFrom n (off + 1) (x / 2 &&& (x / 2 - 1)) := by rw [bitsFrom, if_neg (by omega), c2]
      have k : Lib.ctzFrom (n + 1) x = 1 + Lib.ctzFrom n (x / 2) := by rw [Lib.ctzFrom, if_neg e]
      rw [l, r, k, ih]
      congr 1
      omega
theorem clear_lt (x : Nat) (h : x ≠ 0) : x &&& (x - 1) < x := Nat.lt_of_le_of_lt Nat.and_le_right (by omega)

/-! The bits of a union, and of a part. -/
theorem pop_congr : ∀ (n x y : Nat), (∀ i, i < n → x.testBit i = y.testBit i) → pop n x = pop n y
  | 0, _, _, _ => rfl
  | n + 1, x, y, h => by
    unfold pop
    have h0 := h 0 (by omega)
    rw [Nat.testBit_zero, Nat.testBit_zero] at h0
    have e : x % 2 = y % 2 := by
      have := Nat.mod_two_eq_zero_or_one x
      have := Nat.mod_two_eq_zero_or_one y
      by_cases a : x % 2 = 1 <;> by_cases b : y % 2 = 1 <;> simp [a, b] at h0 ⊢ <;> omega
    rw [e, pop_congr n (x / 2) (y / 2) (fun i hi => by rw [← Nat.testBit_succ, ← Nat.testBit_succ]; exact h (i + 1) (by omega))]
/-- A bit that is put in. -/
theorem pop_put : ∀ (n x c : Nat), c < n → x.testBit c = false → pop n (x ||| 2 ^ c) = pop n x + 1
  | 0, _, _, h, _ => absurd h (by omega)
  | n + 1, x, 0, _, h => by
    unfold pop
    rw [Nat.testBit_zero] at h
    have h0 : x % 2 = 0 := by simpa using h
    have a : (x ||| 2 ^ 0) % 2 = 1 := by
      have : (x ||| 2 ^ 0).testBit 0 = true := by rw [Nat.testBit_or]; simp
      rw [Nat.testBit_zero, decide_eq_true_eq] at this
      exact this
    have b : (x ||| 2 ^ 0) / 2 = x / 2 := by rw [Nat.or_div_two]; simp
    rw [a, b, h0]; omega
  | n + 1, x, c + 1, hc, h => by
    unfold pop
    have hlt : 2 ^ (c + 1) = 2 * 2 ^ c := by rw [Nat.pow_succ]; omega
    have a : (x ||| 2 ^ (c + 1)) % 2 = x % 2 := by
      have e : (x ||| 2 ^ (c + 1)).testBit 0 = x.testBit 0 := by rw [Nat.testBit_or]; simp [hlt]
      rw [Nat.testBit_zero, Nat.testBit_zero] at e
      have := Nat.mod_two_eq_zero_or_one x
      have := Nat.mod_two_eq_zero_or_one (x ||| 2 ^ (c + 1))
      by_cases a : x % 2 = 1 <;> by_cases b : (x ||| 2 ^ (c + 1)) % 2 = 1 <;> simp [a, b] at e ⊢ <;> omega
    have b : (x ||| 2 ^ (c + 1)) / 2 = x / 2 ||| 2 ^ c := by rw [Nat.or_div_two, hlt]; simp
    rw [a, b, pop_put n (x / 2) c (by omega) (by rw [Nat.testBit_succ] at h; exact h)]
    omega
theorem testBit_one_shift (c i : Nat) : (2 ^ c).testBit i = decide (c = i) := by rw [Nat.testBit_two_pow]
/-- Of what is put in, the part within K. -/
theorem pop_put_and (n x K c : Nat) (hc : c < n) (h : x.testBit c = false) : pop n ((x ||| 2 ^ c) &&& K) = pop n (x &&& K) + if K.testBit c = true then 1 else 0 := by
  by_cases hk : K.testBit c = true
  · rw [if_pos hk, ← pop_put n (x &&& K) c hc (by rw [Nat.testBit_and, h, Bool.false_and])]
    apply pop_congr
    intro i _
    rw [Nat.testBit_and, Nat.testBit_or, Nat.testBit_or, Nat.testBit_and, testBit_one_shift]
    by_cases e : c = i
    · subst e; simp [hk]
    · simp [e]
  · rw [if_neg hk, Nat.add_zero]
    apply pop_congr
    intro i _
    rw [Nat.testBit_and, Nat.testBit_or, Nat.testBit_and, testBit_one_shift]
    by_cases e : c = i
    · subst e; simp [hk]
    · simp [e]

/-! Counting bits by words (math/bits.OnesCount64). -/
def rep (p : Nat) : Nat → Nat
  | 0 => 0
  | n + 1 => p + 256 * rep p n
theorem and_split (u v : Nat) : u &&& v = ((u % 256) &&& (v % 256)) + 256 * ((u / 256) &&& (v / 256)) := by
  have h1 : (u &&& v) % 2 ^ 8 = (u % 2 ^ 8) &&& (v % 2 ^ 8) := Nat.and_mod_two_pow
  have h2 : (u &&& v) / 2 ^ 8 = (u / 2 ^ 8) &&& (v / 2 ^ 8) := Nat.and_div_two_pow
  have h3 := Nat.mod_add_div (u &&& v) 256
  have e : (2 ^ 8 : Nat) = 256 := rfl
  rw [e] at h1 h2
  rw [h1, h2] at h3
  exact h3.symm
theorem rep_mod (p n : Nat) (h : p < 256) : rep p (n + 1) % 256 = p := by unfold rep; omega
theorem rep_div (p n : Nat) (h : p < 256) : rep p (n + 1) / 256 = rep p n := by rw [rep]; omega

def pre1 (n x : Nat) : Nat := (x / 2 &&& rep 85 n) + (x &&& rep 85 n)
def pre2 (n x : Nat) : Nat := (x / 4 &&& rep 51 n) + (x &&& rep 51 n)
def pre3 (n x : Nat) : Nat := (x / 16 + x) &&& rep 15 n
def s1 (b : Nat) : Nat := (b / 2 &&& 85) + (b &&& 85)
def s2 (b : Nat) : Nat := (b / 4 &&& 51) + (b &&& 51)
def s3 (b : Nat) : Nat := (b / 16 + b) &&& 15
theorem f1 : ∀ b : Fin 256, ∀ t : Fin 2, (b.val / 2 + 128 * t.val) &&& 85 = b.val / 2 &&& 85 := by decide +kernel
theorem f2 : ∀ b : Fin 256, ∀ t : Fin 4, (b.val / 4 + 64 * t.val) &&& 51 = b.val / 4 &&& 51 := by decide +kernel
theorem f3 : ∀ b : Fin 69, ∀ t : Fin 5, (b.val / 16 + b.val + 16 * t.val) &&& 15 = (b.val / 16 + b.val) &&& 15 := by decide +kernel
theorem s1_lt : ∀ b : Fin 256, s1 b.val < 256 := by decide +kernel
theorem s2_lt : ∀ b : Fin 256, s2 (s1 b.val) ≤ 68 ∧ s2 (s1 b.val) % 16 ≤ 4 := by decide +kernel
theorem s3_pop : ∀ b : Fin 256, s3 (s2 (s1 b.val)) = pop 8 b.val := by decide +kernel
theorem pre1_step (n x : Nat) : pre1 (n + 1) x = s1 (x % 256) + 256 * pre1 n (x / 256) := by
  unfold pre1 s1
  rw [and_split (x / 2), and_split x (rep 85 (n + 1)), rep_mod 85 n (by omega), rep_div 85 n (by omega)]
  have h := f1 ⟨x % 256, Nat.mod_lt _ (by omega)⟩ ⟨x / 256 % 2, Nat.mod_lt _ (by omega)⟩
  have e1 : x / 2 % 256 = x % 256 / 2 + 128 * (x / 256 % 2) := by omega
  have e2 : x / 2 / 256 = x / 256 / 2 := by omega
  simp only at h
  rw [e1, e2, h]
  omega
theorem pre2_step (n x : Nat) : pre2 (n + 1) x = s2 (x % 256) + 256 * pre2 n (x / 256) := by
  unfold pre2 s2
  rw [and_split (x / 4), and_split x (rep 51 (n + 1)), rep_mod 51 n (by omega), rep_div 51 n (by omega)]
  have h := f2 ⟨x % 256, Nat.mod_lt _ (by omega)⟩ ⟨x / 256 % 4, Nat.mod_lt _ (by omega)⟩
  have e1 : x / 4 % 256 = x % 256 / 4 + 64 * (x / 256 % 4) := by omega
  have e2 : x / 4 / 256 = x / 256 / 4 := by omega
  simp only at h
  rw [e1, e2, h]
  omega
theorem pre3_step (n x : Nat) (h1 : x % 256 ≤ 68) (h2 : x / 256 % 16 ≤ 4) : pre3 (n + 1) x = s3 (x % 256) + 256 * pre3 n (x / 256) := by
  unfold pre3 s3
  rw [and_split (x / 16 + x), rep_mod 15 n (by omega), rep_div 15 n (by omega)]
  have h := f3 ⟨x % 256, by omega⟩ ⟨x / 256 % 16, by omega⟩
  have e1 : (x / 16 + x) % 256 = x % 256 / 16 + x % 256 + 16 * (x / 256 % 16) := by omega
  have e2 : (x / 16 + x) / 256 = x / 256 / 16 + x / 256 := by omega
  simp only at h
  rw [e1, e2, h]
/-- The bytes' counts, side by side. -/
def bytesPop : Nat → Nat → Nat
  | 0, _ => 0
  | n + 1, x => pop 8 (x % 256) + 256 * bytesPop n (x / 256)
theorem pre2_low : ∀ (n x : Nat), pre2 n (pre1 n x) % 16 ≤ 4
  | 0, x => by unfold pre2 rep; simp
  | n + 1, x => by
    have h := s1_lt ⟨x % 256, Nat.mod_lt _ (by omega)⟩
    have k := (s2_lt ⟨x % 256, Nat.mod_lt _ (by omega)⟩).2
    simp only at h k
    rw [pre2_step, pre1_step]
    have e : (s1 (x % 256) + 256 * pre1 n (x / 256)) % 256 = s1 (x % 256) := by omega
    rw [e]; omega
theorem pre_all : ∀ (n x : Nat), pre3 n (pre2 n (pre1 n x)) = bytesPop n x
  | 0, x => by unfold pre3 rep bytesPop; simp
  | n + 1, x => by
    have h := s1_lt ⟨x % 256, Nat.mod_lt _ (by omega)⟩
    have k := s2_lt ⟨x % 256, Nat.mod_lt _ (by omega)⟩
    have p := s3_pop ⟨x % 256, Nat.mod_lt _ (by omega)⟩
    have l := pre2_low n (x / 256)
    simp only at h k p
    have e1 : (s1 (x % 256) + 256 * pre1 n (x / 256)) % 256 = s1 (x % 256) := by omega
    have e2 : (s1 (x % 256) + 256 * pre1 n (x / 256)) / 256 = pre1 n (x / 256) := by omega
    have e3 : (s2 (s1 (x % 256)) + 256 * pre2 n (pre1 n (x / 256))) % 256 = s2 (s1 (x % 256)) := by omega
    have e4 : (s2 (s1 (x % 256)) + 256 * pre2 n (pre1 n (x / 256))) / 256 = pre2 n (pre1 n (x / 256)) := by omega
    have a : pre2 (n + 1) (pre1 (n + 1) x) = s2 (s1 (x % 256)) + 256 * pre2 n (pre1 n (x / 256)) := by rw [pre2_step, pre1_step, e1, e2]
    rw [a, pre3_step n _ (by rw [e3]; omega) (by rw [e4]; exact l), e3, e4, p, pre_all n (x / 256), bytesPop]
theorem pop_split : ∀ (m n x : Nat), pop (m + n) x = pop m (x % 2 ^ m) + pop n (x / 2 ^ m)
  | 0, n, x => by simp [pop]
  | m + 1, n, x => by
    have e : m + 1 + n = (m + n) + 1 := by omega
    have ep : 2 ^ (m + 1) = 2 * 2 ^ m := by rw [Nat.pow_succ]; omega
    have e1 : x % 2 ^ (m + 1) % 2 = x % 2 := by rw [ep, Nat.mod_mul_right_mod]
    have e2 : x % 2 ^ (m + 1) / 2 = x / 2 % 2 ^ m := by rw [ep, Nat.mod_mul_right_div_self]
    have e3 : x / 2 / 2 ^ m = x / 2 ^ (m + 1) := by rw [Nat.div_div_eq_div_mul, ep]
    rw [e, pop, pop_split m n (x / 2), pop, e1, e2, e3]; omega
theorem pop_byte (n x : Nat) : pop (8 + n) x = pop 8 (x % 256) + pop n (x / 256) := pop_split 8 n x
theorem pop8_le (x : Nat) : pop 8 (x % 256) ≤ 8 := by
  have : ∀ b : Fin 256, pop 8 b.val ≤ 8 := by decide +kernel
  exact this ⟨x % 256, Nat.mod_lt _ (by omega)⟩
theorem bytes_step (n x : Nat) : bytesPop (n + 1) x = pop 8 (x % 256) + 256 * bytesPop n (x / 256) := rfl
theorem pop8_mod (x : Nat) : pop 8 x = pop 8 (x % 256) := pop_byte 0 x
/-- The sum of the bytes, as OnesCount64 forms it. -/
theorem bytes_sum (x : Nat) : ∃ p0 p1 p2 p3 p4 p5 p6 p7 : Nat, p0 ≤ 8 ∧ p1 ≤ 8 ∧ p2 ≤ 8 ∧ p3 ≤ 8 ∧ p4 ≤ 8 ∧ p5 ≤ 8 ∧ p6 ≤ 8 ∧ p7 ≤ 8 ∧
    bytesPop 8 x = p0 + 256 * (p1 + 256 * (p2 + 256 * (p3 + 256 * (p4 + 256 * (p5 + 256 * (p6 + 256 * p7)))))) ∧ pop 64 x = p0 + (p1 + (p2 + (p3 + (p4 + (p5 + (p6 + p7)))))) := by
  refine ⟨_, _, _, _, _, _, _, _, pop8_le x, pop8_le (x / 256), pop8_le (x / 256 / 256), pop8_le (x / 256 / 256 / 256), pop8_le (x / 256 / 256 / 256 / 256), pop8_le (x / 256 / 256 / 256 / 256 / 256), pop8_le (x / 256 / 256 / 256 / 256 / 256 / 256), pop8_le (x / 256 / 256 / 256 / 256 / 256 / 256 / 256), ?_, ?_⟩
  · rw [bytes_step 7, bytes_step 6, bytes_step 5, bytes_step 4, bytes_step 3, bytes_step 2, bytes_step 1, bytes_step 0]
    show _ + 256 * (_ + 256 * (_ + 256 * (_ + 256 * (_ + 256 * (_ + 256 * (_ + 256 * (_ + 256 * 0))))))) = _
    rw [Nat.mul_zero, Nat.add_zero]
  · rw [pop_byte 56, pop_byte 48, pop_byte 40, pop_byte 32, pop_byte 24, pop_byte 16, pop_byte 8, pop8_mod (x / 256 / 256 / 256 / 256 / 256 / 256 / 256)]
theorem sum_tail (c p0 p1 p2 p3 p4 p5 p6 p7 : Nat) (h0 : p0 ≤ 8) (h1 : p1 ≤ 8) (h2 : p2 ≤ 8) (h3 : p3 ≤ 8) (h4 : p4 ≤ 8) (h5 : p5 ≤ 8) (h6 : p6 ≤ 8) (h7 : p7 ≤ 8)
    (hc : c = p0 + 256 * (p1 + 256 * (p2 + 256 * (p3 + 256 * (p4 + 256 * (p5 + 256 * (p6 + 256 * p7))))))) :
    ∃ d e f : Nat, d = c + c / 256 ∧ e = d + d / 65536 ∧ f = e + e / 4294967296 ∧ f % 128 = p0 + (p1 + (p2 + (p3 + (p4 + (p5 + (p6 + p7)))))) ∧ c < 1000000000000000000 ∧ d < 1000000000000000000 ∧ e < 1000000000000000000 ∧ f < 1000000000000000000 := by
  have e1 : c / 256 = p1 + 256 * (p2 + 256 * (p3 + 256 * (p4 + 256 * (p5 + 256 * (p6 + 256 * p7))))) := by omega
  obtain ⟨d, hd⟩ : ∃ d, d = c + c / 256 := ⟨_, rfl⟩
  have hd' := hd
  rw [e1, hc] at hd
  have e2 : d / 65536 = (p2 + p3) + 256 * ((p3 + p4) + 256 * ((p4 + p5) + 256 * ((p5 + p6) + 256 * ((p6 + p7) + 256 * p7)))) := by clear hc e1 hd'; omega
  obtain ⟨e, he⟩ : ∃ e, e = d + d / 65536 := ⟨_, rfl⟩
  have he' := he
  rw [e2, hd] at he
  have e3 : e / 4294967296 = (p4 + p5 + p6 + p7) + 256 * ((p5 + p6 + p7) + 256 * ((p6 + p7) + 256 * p7)) := by clear hc e1 hd' hd he' e2; omega
  obtain ⟨f, hf⟩ : ∃ f, f = e + e / 4294967296 := ⟨_, rfl⟩
  have hf' := hf
  rw [e3, he] at hf
  refine ⟨d, e, f, hd', he', hf', ?_, ?_, ?_, ?_, ?_⟩
  · clear hc e1 hd' hd he' e2 he e3 hf'
    omega
  · clear e1 hd' hd he' e2 he e3 hf' hf; omega
  · clear hc e1 hd' he' e2 he e3 hf' hf; omega
  · clear hc e1 hd' hd he' e2 e3 hf' hf; omega
  · clear hc e1 hd' hd he' e2 e3 hf' he; omega

/-- OnesCount64's words, step by step. -/
def w1 (x : Nat) : Nat := (x / 2 &&& 6148914691236517205) + (x &&& 6148914691236517205)
def w2 (x : Nat) : Nat := (x / 4 &&& 3689348814741910323) + (x &&& 3689348814741910323)
def w3 (x : Nat) : Nat := (x / 16 + x) &&& 1085102592571150095
theorem rep85 : rep 85 8 = 6148914691236517205 := by decide +kernel
theorem rep51 : rep 51 8 = 3689348814741910323 := by decide +kernel
theorem rep15 : rep 15 8 = 1085102592571150095 := by decide +kernel
theorem w_all (x : Nat) : w3 (w2 (w1 x)) = bytesPop 8 x := by
  have h := pre_all 8 x
  unfold pre3 pre2 pre1 at h
  rw [rep85, rep51, rep15] at h
  exact h
/-- What OnesCount64 comes to. -/
theorem words_pop (x : Nat) : ∃ d e f : Nat, d = w3 (w2 (w1 x)) + w3 (w2 (w1 x)) / 256 ∧ e = d + d / 65536 ∧ f = e + e / 4294967296 ∧ f % 128 = pop 64 x ∧
    w3 (w2 (w1 x)) < 1000000000000000000 ∧ d < 1000000000000000000 ∧ e < 1000000000000000000 ∧ f < 1000000000000000000 := by
  obtain ⟨p0, p1, p2, p3, p4, p5, p6, p7, h0, h1, h2, h3, h4, h5, h6, h7, hb, hp⟩ := bytes_sum x
  rw [w_all, hp]
  exact sum_tail _ p0 p1 p2 p3 p4 p5 p6 p7 h0 h1 h2 h3 h4 h5 h6 h7 hb

end Go.Proofs.YtcbfmfkahgfjkaaDoor
