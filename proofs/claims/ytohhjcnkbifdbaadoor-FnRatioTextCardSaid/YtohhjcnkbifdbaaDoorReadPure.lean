/-
  Texts of numbers, read again: plain facts; nothing of the program is imported.
-/
import Derived.Test.YtohhjcnkbifdbaaDoorPure
import Derived.Lib.ItoaNum
import Derived.Lib.ItoaLen
import Derived.Lib.ParseIntBTie
import Derived.Lib.CutLaws
namespace Go.Proofs.YtohhjcnkbifdbaaDoor

/-- All bytes are digits. -/
def digs (l : List UInt8) : Prop := ∀ c ∈ l, 48 ≤ c.toNat ∧ c.toNat ≤ 57
/-- What digits spell, behind what stood before them. -/
def spell (acc : Nat) : List UInt8 → Nat
  | [] => acc
  | c :: r => spell (acc * 10 + (c.toNat - 48)) r
theorem spell_append : ∀ (l r : List UInt8) (acc : Nat), spell acc (l ++ r) = spell (spell acc l) r
  | [], _, _ => rfl
  | c :: l, r, acc => by
    show spell (acc * 10 + (c.toNat - 48)) (l ++ r) = _
    rw [spell_append l r]; rfl
theorem spell_ge : ∀ (l : List UInt8) (acc : Nat), acc ≤ spell acc l
  | [], _ => Nat.le_refl _
  | c :: l, acc => by
    show acc ≤ spell (acc * 10 + (c.toNat - 48)) l
    have := spell_ge l (acc * 10 + (c.toNat - 48))
    omega
theorem ofNat_dig (k : Nat) (h : k < 10) : (UInt8.ofNat (48 + k)).toNat = 48 + k := by
  show (48 + k) % 256 = 48 + k
  omega
theorem dec_facts (u : Nat) : digs (Lib.decDigits u) ∧ spell 0 (Lib.decDigits u) = u ∧ Lib.decDigits u ≠ [] := by
  induction u using Nat.strongRecOn with
  | _ u ih =>
    by_cases h : u < 10
    · rw [Lib.decDigits, dif_pos h]
      refine ⟨?_, ?_, by simp⟩
      · intro c hc
        obtain rfl : c = UInt8.ofNat (48 + u) := by simpa using hc
        rw [ofNat_dig u h]; omega
      · show 0 * 10 + ((UInt8.ofNat (48 + u)).toNat - 48) = u
        rw [ofNat_dig u h]; omega
    · obtain ⟨a, b, _⟩ := ih (u / 10) (by omega)
      rw [Lib.decDigits, dif_neg h]
      refine ⟨?_, ?_, by simp⟩
      · intro c hc
        rcases List.mem_append.1 hc with hc | hc
        · exact a c hc
        · obtain rfl : c = UInt8.ofNat (48 + u % 10) := by simpa using hc
          rw [ofNat_dig _ (by omega)]; omega
      · rw [spell_append, b]
        show u / 10 * 10 + ((UInt8.ofNat (48 + u % 10)).toNat - 48) = u
        rw [ofNat_dig _ (by omega)]; omega
theorem dec_inj {u v : Nat} (h : Lib.decDigits u = Lib.decDigits v) : u = v := by
  rw [← (dec_facts u).2.1, h, (dec_facts v).2.1]
theorem dec_head (u : Nat) : ∃ c r, Lib.decDigits u = c :: r ∧ 48 ≤ c.toNat ∧ c.toNat ≤ 57 := by
  obtain ⟨a, _, c⟩ := dec_facts u
  match h : Lib.decDigits u with
  | [] => exact absurd h c
  | x :: r => exact ⟨x, r, rfl, a x (by rw [h]; exact List.mem_cons_self ..)⟩
theorem digs_no (l : List UInt8) (h : digs l) (k : UInt8) (hk : k.toNat < 48) : k ∉ l := fun hm => by
  have := h k hm; omega
theorem itoa_no_slash (n : Int) : (47 : UInt8) ∉ Lib.itoa n := by
  unfold Lib.itoa
  split
  · intro h
    rcases List.mem_cons.1 h with h | h
    · exact absurd h (by decide)
    · exact digs_no _ (dec_facts _).1 47 (by decide) h
  · exact digs_no _ (dec_facts _).1 47 (by decide)
theorem itoa_ne (n : Int) : Lib.itoa n ≠ [] := by
  unfold Lib.itoa
  split
  · simp
  · exact (dec_facts _).2.2
/-- The text of a number of at least 0. -/
theorem itoa_pos (n : Int) (h : 0 ≤ n) : Lib.itoa n = Lib.decDigits n.toNat := by unfold Lib.itoa; rw [if_neg (by omega)]
theorem itoa_neg (n : Int) (h : n < 0) : Lib.itoa n = 45 :: Lib.decDigits n.natAbs := by unfold Lib.itoa; rw [if_pos h]
theorem itoa_inj {n m : Int} (h : Lib.itoa n = Lib.itoa m) : n = m := by
  by_cases hn : n < 0
  · by_cases hm : m < 0
    · rw [itoa_neg n hn, itoa_neg m hm] at h
      have := dec_inj (List.cons.inj h).2
      omega
    · rw [itoa_neg n hn, itoa_pos m (by omega)] at h
      obtain ⟨c, r, e, a, b⟩ := dec_head m.toNat
      rw [e] at h
      have := (List.cons.inj h).1
      rw [← this] at a
      exact absurd a (by decide)
  · by_cases hm : m < 0
    · rw [itoa_neg m hm, itoa_pos n (by omega)] at h
      obtain ⟨c, r, e, a, b⟩ := dec_head n.toNat
      rw [e] at h
      have := (List.cons.inj h).1
      rw [this] at a
      exact absurd a (by decide)
    · rw [itoa_pos n (by omega), itoa_pos m (by omega)] at h
      have := dec_inj h
      omega

theorem parse_digs : ∀ (l : List UInt8) (acc : Nat), digs l → spell acc l ≤ 9999999999 → Lib.parseUint10 acc l = .ok (spell acc l)
  | [], _, _, _ => rfl
  | c :: r, acc, hd, hb => by
    have h1 := hd c (List.mem_cons_self ..)
    have h2 : spell acc (c :: r) = spell (acc * 10 + (c.toNat - 48)) r := rfl
    have h3 := spell_ge r (acc * 10 + (c.toNat - 48))
    rw [h2] at hb ⊢
    unfold Lib.parseUint10
    rw [if_pos h1, if_neg (by omega), if_neg (by omega)]
    exact parse_digs r _ (fun x hx => hd x (List.mem_cons_of_mem _ hx)) hb
theorem parse_dec (u : Nat) (h : u ≤ 9999999999) : Lib.parseMag (Lib.decDigits u) = .ok u := by
  obtain ⟨a, b, c⟩ := dec_facts u
  unfold Lib.parseMag
  rw [if_neg c, parse_digs _ 0 a (by rw [b]; exact h), b]
theorem parse_itoa (n : Int) (h0 : -9999999999 ≤ n) (h1 : n ≤ 9999999999) : Lib.parseIntB 64 (Lib.itoa n) = .ok n := by
  rw [Lib.parseIntB_64]
  by_cases hn : n < 0
  · rw [itoa_neg n hn]
    have p := parse_dec n.natAbs (by omega)
    have k : (45 : UInt8).toNat = 45 := rfl
    simp only [Lib.atoiAll]
    rw [if_pos (Or.inr k), p]
    simp only
    rw [if_neg (by rw [k]; omega), if_neg (by rw [k]; omega), if_pos k]
    congr 1
    omega
  · rw [itoa_pos n (by omega)]
    obtain ⟨c, r, e, a, b⟩ := dec_head n.toNat
    have p := parse_dec n.toNat (by omega)
    rw [e] at p ⊢
    simp only [Lib.atoiAll]
    rw [if_neg (by omega), p]
    simp only
    rw [if_neg (by omega), if_neg (by omega), if_neg (by omega)]
    congr 1
    omega

/-! Cutting at the first slash -/

theorem index_no : ∀ (a : List UInt8), (47 : UInt8) ∉ a → Lib.index a [47] = -1
  | [], _ => rfl
  | c :: r, h => by
    have hc : c ≠ 47 := fun e => h (by rw [e]; exact List.mem_cons_self ..)
    have hr : (47 : UInt8) ∉ r := fun e => h (List.mem_cons_of_mem _ e)
    unfold Lib.index
    rw [index_no r hr]
    have e : ([47] : List UInt8).isPrefixOf (c :: r) = false := by
      simp [List.isPrefixOf]; exact fun e => hc e.symm
    rw [e]; rfl
theorem index_at : ∀ (a b : List UInt8), (47 : UInt8) ∉ a → Lib.index (a ++ 47 :: b) [47] = a.length
  | [], b, _ => by
    simp [Lib.index, List.isPrefixOf]
  | c :: r, b, h => by
    have hc : c ≠ 47 := fun e => h (by rw [e]; exact List.mem_cons_self ..)
    have hr : (47 : UInt8) ∉ r := fun e => h (List.mem_cons_of_mem _ e)
    have e : ([47] : List UInt8).isPrefixOf (c :: (r ++ 47 :: b)) = false := by
      simp [List.isPrefixOf]; exact fun e => hc e.symm
    show Lib.index (c :: (r ++ 47 :: b)) [47] = _
    unfold Lib.index
    rw [index_at r b hr, e]
    simp
theorem cut_no (a : List UInt8) (h : (47 : UInt8) ∉ a) : Lib.cut a [47] = (a, [], false) := by
  unfold Lib.cut; rw [index_no a h]; rfl
theorem cut_at (a b : List UInt8) (h : (47 : UInt8) ∉ a) : Lib.cut (a ++ 47 :: b) [47] = (a, b, true) := by
  unfold Lib.cut; rw [index_at a b h, if_pos (by omega)]
  simp
/-- A list has no slash, or a first one. -/
theorem slash_or : ∀ (l : List UInt8), (47 : UInt8) ∉ l ∨ ∃ a b, l = a ++ 47 :: b ∧ (47 : UInt8) ∉ a
  | [] => .inl (by simp)
  | c :: r => by
    by_cases hc : c = 47
    · exact .inr ⟨[], r, by rw [hc]; rfl, by simp⟩
    · rcases slash_or r with h | ⟨a, b, rfl, h⟩
      · exact .inl fun hm => by
          rcases List.mem_cons.1 hm with e | e
          · exact hc e.symm
          · exact h e
      · exact .inr ⟨c :: a, b, rfl, fun hm => by
          rcases List.mem_cons.1 hm with e | e
          · exact hc e.symm
          · exact h e⟩

/-! The text of a ratio -/

/-- The text of a ratio. -/
def textR (n d : Int) : List UInt8 := if isR n d then (if d = 1 then Lib.itoa n else Lib.itoa n ++ [47] ++ Lib.itoa d) else []
theorem textR_no (n d : Int) (h : isR n d = false) : textR n d = [] := by unfold textR; rw [h]; rfl
theorem textR_one (n : Int) (h : isR n 1 = true) : textR n 1 = Lib.itoa n := by unfold textR; rw [h]; rfl
theorem textR_two (n d : Int) (h : isR n d = true) (hd : d ≠ 1) : textR n d = Lib.itoa n ++ [47] ++ Lib.itoa d := by unfold textR; rw [h, if_neg hd]; rfl
theorem isR_bd' (n d : Int) (h : isR n d = true) : -1000000000 ≤ n ∧ n ≤ 1000000000 ∧ 1 ≤ d ∧ d ≤ 1000000000 := by
  unfold isR at h; simp only [decide_eq_true_eq] at h; exact ⟨h.1, h.2.1, h.2.2.1, h.2.2.2.1⟩
theorem textR_ne (n d : Int) (h : isR n d = true) : textR n d ≠ [] := by
  by_cases hd : d = 1
  · subst hd; rw [textR_one n h]; exact itoa_ne n
  · rw [textR_two n d h hd]; simp
theorem textR_valid (n d : Int) (h : textR n d ≠ []) : isR n d = true := by
  rcases e : isR n d with _ | _
  · exact absurd (textR_no n d e) h
  · rfl
/-- What is valid is known by its text. -/
theorem textR_inj {n d m e : Int} (h : isR n d = true) (h' : isR m e = true) (ht : textR n d = textR m e) : n = m ∧ d = e := by
  by_cases hd : d = 1
  · by_cases he : e = 1
    · subst hd he
      rw [textR_one n h, textR_one m h'] at ht
      exact ⟨itoa_inj ht, rfl⟩
    · subst hd
      rw [textR_one n h, textR_two m e h' he] at ht
      exact absurd (show (47 : UInt8) ∈ Lib.itoa n by rw [ht]; simp) (itoa_no_slash n)
  · by_cases he : e = 1
    · subst he
      rw [textR_one m h', textR_two n d h hd] at ht
      exact absurd (show (47 : UInt8) ∈ Lib.itoa m by rw [← ht]; simp) (itoa_no_slash m)
    · rw [textR_two n d h hd, textR_two m e h' he] at ht
      have h1 := cut_at (Lib.itoa n) (Lib.itoa d) (itoa_no_slash n)
      have h2 := cut_at (Lib.itoa m) (Lib.itoa e) (itoa_no_slash m)
      have e1 : Lib.itoa n ++ 47 :: Lib.itoa d = Lib.itoa m ++ 47 :: Lib.itoa e := by simpa using ht
      rw [e1, h2] at h1
      simp only [Prod.mk.injEq] at h1
      exact ⟨(itoa_inj h1.1).symm, (itoa_inj h1.2.1).symm⟩

/-- What the reader of a ratio answers: the valid ratio with the text, or none. -/
def Read (l : List UInt8) (n d : Int) (ok : Bool) : Prop :=
  (ok = true ∧ isR n d = true ∧ textR n d = l) ∨ (ok = false ∧ n = 0 ∧ d = 0 ∧ ∀ m e, isR m e = true → textR m e ≠ l)
theorem read_same {l : List UInt8} {n d m e : Int} {a b : Bool} (h : Read l n d a) (h' : Read l m e b) : n = m ∧ d = e ∧ a = b := by
  rcases h with ⟨rfl, v, t⟩ | ⟨rfl, rfl, rfl, no⟩
  · rcases h' with ⟨rfl, v', t'⟩ | ⟨rfl, rfl, rfl, no⟩
    · obtain ⟨rfl, rfl⟩ := textR_inj v v' (t.trans t'.symm)
      exact ⟨rfl, rfl, rfl⟩
    · exact absurd t (no n d v)
  · rcases h' with ⟨rfl, v', t'⟩ | ⟨rfl, rfl, rfl, _⟩
    · exact absurd t' (no m e v')
    · exact ⟨rfl, rfl, rfl⟩
theorem read_yes {l : List UInt8} {n d : Int} (v : isR n d = true) (t : textR n d = l) : Read l n d true := .inl ⟨rfl, v, t⟩

/-! Which texts are none -/

/-- A text without a slash is that of n and 1. -/
theorem text_plain {l : List UInt8} (h : (47 : UInt8) ∉ l) {m e : Int} (v : isR m e = true) (t : textR m e = l) : e = 1 ∧ l = Lib.itoa m := by
  by_cases he : e = 1
  · subst he; rw [textR_one m v] at t; exact ⟨rfl, t.symm⟩
  · rw [textR_two m e v he] at t
    exact absurd (show (47 : UInt8) ∈ l by rw [← t]; simp) h
/-- A text with a first slash is that of what stands before and behind it. -/
theorem text_slash {a b : List UInt8} (h : (47 : UInt8) ∉ a) {m e : Int} (v : isR m e = true) (t : textR m e = a ++ 47 :: b) : e ≠ 1 ∧ a = Lib.itoa m ∧ b = Lib.itoa e := by
  by_cases he : e = 1
  · subst he; rw [textR_one m v] at t
    exact absurd (show (47 : UInt8) ∈ Lib.itoa m by rw [t]; simp) (itoa_no_slash m)
  · rw [textR_two m e v he] at t
    have h1 := cut_at (Lib.itoa m) (Lib.itoa e) (itoa_no_slash m)
    have h2 := cut_at a b h
    have e1 : Lib.itoa m ++ 47 :: Lib.itoa e = a ++ 47 :: b := by simpa using t
    rw [e1, h2] at h1
    simp only [Prod.mk.injEq] at h1
    exact ⟨he, h1.1, h1.2.1⟩

/-! Numbers of at most ten digits -/

theorem spell_snoc (l : List UInt8) (c : UInt8) : spell 0 (l ++ [c]) = spell 0 l * 10 + (c.toNat - 48) := by rw [spell_append]; rfl
theorem digs_snoc {l : List UInt8} {c : UInt8} (h : digs l) (a : 48 ≤ c.toNat) (b : c.toNat ≤ 57) : digs (l ++ [c]) := fun x hx => by
  rcases List.mem_append.1 hx with hx | hx
  · exact h x hx
  · obtain rfl : x = c := by simpa using hx
    exact ⟨a, b⟩
theorem spell_lt (l : List UInt8) : ∀ acc : Nat, digs l → spell acc l < (acc + 1) * 10 ^ l.length := by
  induction l with
  | nil => intro acc _; rw [List.length_nil, Nat.pow_zero, Nat.mul_one]; exact Nat.lt_succ_self acc
  | cons c r ih =>
    intro acc h
    have h1 := h c (List.mem_cons_self ..)
    have h2 := ih (acc * 10 + (c.toNat - 48)) (fun x hx => h x (List.mem_cons_of_mem _ hx))
    have e : spell acc (c :: r) = spell (acc * 10 + (c.toNat - 48)) r := rfl
    rw [e]
    refine Nat.lt_of_lt_of_le h2 ?_
    rw [List.length_cons, Nat.pow_succ]
    have h3 : (acc * 10 + (c.toNat - 48) + 1) ≤ (acc + 1) * 10 := by omega
    have h4 := Nat.mul_le_mul_right (10 ^ r.length) h3
    rw [Nat.mul_comm (10 ^ r.length) 10, ← Nat.mul_assoc]
    exact h4
theorem spell_ten {l : List UInt8} (h : digs l) (hl : l.length ≤ 10) : spell 0 l ≤ 9999999999 := by
  have h1 := spell_lt l 0 h
  have h2 : 10 ^ l.length ≤ 10 ^ 10 := Nat.pow_le_pow_right (by omega) hl
  have h3 : (10 : Nat) ^ 10 = 10000000000 := by decide
  omega
/-- What l01Value answers: a number of at most ten digits, and whether the text is its own. -/
def Val (l : List UInt8) (n : Int) (b : Bool) : Prop :=
  0 ≤ n ∧ n ≤ 9999999999 ∧ ((b = true ∧ l = Lib.decDigits n.toNat) ∨ (b = false ∧ ∀ m : Nat, m ≤ 9999999999 → l ≠ Lib.decDigits m))
theorem dec_ten (m : Nat) (h : m ≤ 9999999999) : 1 ≤ (Lib.decDigits m).length ∧ (Lib.decDigits m).length ≤ 10 := by
  rw [Lib.decDigits_length]
  refine ⟨Lib.nDigits_pos m, ?_⟩
  by_cases hm : m < 10
  · rw [Lib.nDigits_small hm]; omega
  · have h1 := Lib.lt_pow_nDigits m
    by_cases hc : Lib.nDigits m ≤ 10
    · exact hc
    · exfalso
      have e : Lib.nDigits m ≤ 10 := by
        have : ∀ k u, u < 10 ^ (k + 1) → Lib.nDigits u ≤ k + 1 := by
          intro k
          induction k with
          | zero => intro u hu; rw [Lib.nDigits_small (by simpa using hu)]; omega
          | succ k ih =>
            intro u hu
            by_cases hb : u < 10
            · rw [Lib.nDigits_small hb]; omega
            · rw [Lib.nDigits_big hb]
              have := ih (u / 10) (by rw [Nat.pow_succ] at hu; omega)
              omega
        exact this 9 m (by have : (10 : Nat) ^ (9 + 1) = 10000000000 := by decide
                           omega)
      omega
theorem val_len {l : List UInt8} (h : l.length < 1 ∨ 10 < l.length) : Val l 0 false :=
  ⟨by omega, by omega, .inr ⟨rfl, fun m hm e => by have := dec_ten m hm; rw [e] at h; omega⟩⟩
theorem val_byte {l : List UInt8} {c : UInt8} (hc : c ∈ l) (h : c.toNat < 48 ∨ 57 < c.toNat) : Val l 0 false :=
  ⟨by omega, by omega, .inr ⟨rfl, fun m _ e => by have := (dec_facts m).1 c (e ▸ hc); omega⟩⟩
theorem val_yes {l : List UInt8} (hd : digs l) (hl : l.length ≤ 10) (h : Lib.decDigits (spell 0 l) = l) : Val l (spell 0 l : Nat) true :=
  ⟨by omega, by have := spell_ten hd hl; omega, .inl ⟨rfl, by simpa using h.symm⟩⟩
theorem val_no {l : List UInt8} (hd : digs l) (hl : l.length ≤ 10) (h : Lib.decDigits (spell 0 l) ≠ l) : Val l (spell 0 l : Nat) false :=
  ⟨by omega, by have := spell_ten hd hl; omega, .inr ⟨rfl, fun m _ e => h (by rw [e, (dec_facts m).2.1])⟩⟩
/-- What l01Signed answers. -/
def Sgn (l : List UInt8) (n : Int) (b : Bool) : Prop :=
  -9999999999 ≤ n ∧ n ≤ 9999999999 ∧ ((b = true ∧ l = Lib.itoa n) ∨ (b = false ∧ ∀ m : Int, -9999999999 ≤ m → m ≤ 9999999999 → l ≠ Lib.itoa m))
theorem sgn_plain {l : List UInt8} {n : Int} {b : Bool} (h : Val l n b) (hc : ∀ r, l ≠ 45 :: r) : Sgn l n b := by
  obtain ⟨h1, h2, ⟨rfl, h3⟩ | ⟨rfl, h3⟩⟩ := h
  · exact ⟨by omega, h2, .inl ⟨rfl, by rw [itoa_pos n h1]; exact h3⟩⟩
  · refine ⟨by omega, h2, .inr ⟨rfl, fun m hm hm' e => ?_⟩⟩
    by_cases hn : m < 0
    · rw [itoa_neg m hn] at e; exact hc _ e
    · rw [itoa_pos m (by omega)] at e; exact h3 m.toNat (by omega) e
theorem sgn_minus {r : List UInt8} {n : Int} {b : Bool} (h : Val r n b) : Sgn (45 :: r) (-n) (b && decide (0 < n)) := by
  obtain ⟨h1, h2, ⟨rfl, h3⟩ | ⟨rfl, h3⟩⟩ := h
  · by_cases hn : 0 < n
    · refine ⟨by omega, by omega, .inl ⟨by simp [hn], ?_⟩⟩
      rw [itoa_neg (-n) (by omega), h3]
      congr 2
      omega
    · refine ⟨by omega, by omega, .inr ⟨by simp [hn], fun m hm hm' e => ?_⟩⟩
      obtain rfl : n = 0 := by omega
      by_cases hz : m < 0
      · rw [itoa_neg m hz, h3] at e
        have := dec_inj (List.cons.inj e).2
        simp at this
        omega
      · rw [itoa_pos m (by omega)] at e
        obtain ⟨c, q, e2, a, _⟩ := dec_head m.toNat
        rw [e2] at e
        rw [← (List.cons.inj e).1] at a
        exact absurd a (by decide)
  · refine ⟨by omega, by omega, .inr ⟨rfl, fun m hm hm' e => ?_⟩⟩
    by_cases hz : m < 0
    · rw [itoa_neg m hz] at e
      exact h3 m.natAbs (by omega) (List.cons.inj e).2
    · rw [itoa_pos m (by omega)] at e
      obtain ⟨c, q, e2, a, _⟩ := dec_head m.toNat
      rw [e2] at e
      rw [← (List.cons.inj e).1] at a
      exact absurd a (by decide)

/-! What the reader answers, from what its parts answer -/

theorem read_eq {l : List UInt8} {n d : Int} (hl : l ≠ []) (h : textR n d = l) : Read l n d true := read_yes (textR_valid n d (h ▸ hl)) h
theorem sgn_ne {l : List UInt8} {n : Int} (h : Sgn l n true) : l ≠ [] := by
  obtain ⟨_, _, ⟨_, h⟩ | ⟨h, _⟩⟩ := h
  · rw [h]; exact itoa_ne n
  · cases h
theorem sgn_is {l : List UInt8} {n : Int} (h : Sgn l n true) : l = Lib.itoa n := by
  obtain ⟨_, _, ⟨_, h⟩ | ⟨h, _⟩⟩ := h
  · exact h
  · cases h
theorem sgn_not {l : List UInt8} {n : Int} (h : Sgn l n false) (m : Int) (h0 : -9999999999 ≤ m) (h1 : m ≤ 9999999999) : l ≠ Lib.itoa m := by
  obtain ⟨_, _, ⟨h, _⟩ | ⟨_, h⟩⟩ := h
  · cases h
  · exact h m h0 h1
theorem val_is {l : List UInt8} {n : Int} (h : Val l n true) : l = Lib.itoa n := by
  obtain ⟨h0, _, ⟨_, h⟩ | ⟨h, _⟩⟩ := h
  · rw [itoa_pos n h0]; exact h
  · cases h
theorem val_not {l : List UInt8} {n : Int} (h : Val l n false) (m : Int) (h0 : 0 ≤ m) (h1 : m ≤ 9999999999) : l ≠ Lib.itoa m := by
  obtain ⟨_, _, ⟨h, _⟩ | ⟨_, h⟩⟩ := h
  · cases h
  · rw [itoa_pos m h0]; exact h m.toNat (by omega)
theorem one_no {l : List UInt8} {n : Int} {b : Bool} (hs : (47 : UInt8) ∉ l) (h : Sgn l n b) (ht : b = true → textR n 1 ≠ l) : Read l 0 0 false := by
  refine .inr ⟨rfl, rfl, rfl, fun m e v t => ?_⟩
  obtain ⟨rfl, hl⟩ := text_plain hs v t
  obtain ⟨b1, b2, _, _⟩ := isR_bd' m 1 v
  cases b
  · exact sgn_not h m (by omega) (by omega) hl
  · have : n = m := itoa_inj ((sgn_is h).symm.trans hl)
    subst this
    exact ht rfl t
theorem two_no {a c : List UInt8} {n d : Int} {b b' : Bool} (hs : (47 : UInt8) ∉ a) (h : Sgn a n b) (h' : Val c d b') (ht : b = true → b' = true → textR n d ≠ a ++ 47 :: c) : Read (a ++ 47 :: c) 0 0 false := by
  refine .inr ⟨rfl, rfl, rfl, fun m e v t => ?_⟩
  obtain ⟨_, ha, hc⟩ := text_slash hs v t
  obtain ⟨b1, b2, b3, b4⟩ := isR_bd' m e v
  cases b
  · exact sgn_not h m (by omega) (by omega) ha
  · cases b'
    · exact val_not h' e (by omega) (by omega) hc
    · have e1 : n = m := itoa_inj ((sgn_is h).symm.trans ha)
      have e2 : d = e := itoa_inj ((val_is h').symm.trans hc)
      subst e1 e2
      exact ht rfl rfl t
theorem more_no {a b c : List UInt8} (hs : (47 : UInt8) ∉ a) : Read (a ++ 47 :: (b ++ 47 :: c)) 0 0 false := by
  refine .inr ⟨rfl, rfl, rfl, fun m e v t => ?_⟩
  obtain ⟨_, _, hc⟩ := text_slash hs v t
  exact itoa_no_slash e (by rw [← hc]; simp)
theorem cut_ne (a c : List UInt8) : a ++ 47 :: c ≠ [] := by simp
theorem beq_of {a b : List UInt8} (h : (!a == b) = false) : a = b := by simpa using h
theorem beq_not {a b : List UInt8} (h : (!a == b) = true) : a ≠ b := by simpa using h
end Go.Proofs.YtohhjcnkbifdbaaDoor
