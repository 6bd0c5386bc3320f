/-
  strings.Join of short texts with commas, walked over this program.
-/
import Derived.Test.YtlpkaflmhdgmmaaBuilder
import Derived.Test.YtlpkaflmhdgmmaaShelf
import Derived.Test.YtlpkaflmhdgmmaaRngText
import Derived.Lib.Join
namespace Go.Proofs.Ytlpkaflmhdgmmaa
open Go.RowKit
set_option linter.unusedVariables false

theorem join_snoc (l : List (List UInt8)) (t : List UInt8) (h : l ≠ []) : Lib.join (l ++ [t]) [44] = Lib.join l [44] ++ [44] ++ t := by
  match l, h with
  | x :: r, _ =>
    rw [List.cons_append, Lib.join_cons, Lib.join_cons]
    simp [Lib.joinTail]
theorem lens_le (l : List (List UInt8)) (h : ∀ t ∈ l, t.length ≤ 3) : Lib.lens l ≤ 3 * l.length := by
  induction l with
  | nil => simp [Lib.lens]
  | cons y l ih =>
    have h1 := h y (by simp)
    have h2 := ih (fun t ht => h t (by simp [ht]))
    unfold Lib.lens at h2 ⊢
    simp only [List.map_cons, List.sum_cons, List.length_cons]
    omega
theorem join_le (l : List (List UInt8)) (h : ∀ t ∈ l, t.length ≤ 3) : (Lib.join l [44]).length ≤ 4 * l.length := by
  match l, h with
  | [], _ => simp [Lib.join_nil]
  | x :: r, h =>
    have h1 := lens_le (x :: r) h
    rw [Lib.join_length]
    simp only [List.length_cons, List.length_nil] at h1 ⊢
    omega
/-- A slice that reads as texts. -/
def RdT (w : World) (A : Option Addr) (ts : List (List UInt8)) : Prop := 0 < ts.length → ∃ b off, A = some ⟨b, off, none⟩ ∧ b < w.heap.size ∧ ∀ j, j < ts.length → w.cell? ⟨b, off + j, none⟩ = some (.string ⟨(ts.getD j []).toArray⟩)
theorem getD_mem {ts : List (List UInt8)} {j : Nat} (h : j < ts.length) : ts.getD j [] ∈ ts := by
  rw [List.getD_eq_getElem?_getD, List.getElem?_eq_getElem h]; exact List.getElem_mem h
theorem take_getD {ts : List (List UInt8)} {j : Nat} (h : j < ts.length) : ts.take (j + 1) = ts.take j ++ [ts.getD j []] := by
  rw [List.getD_eq_getElem?_getD, List.getElem?_eq_getElem h, List.take_succ_eq_append_getElem h]; rfl
theorem lens_snoc (l : List (List UInt8)) (t : List UInt8) : Lib.lens (l ++ [t]) = Lib.lens l + t.length := by unfold Lib.lens; simp
theorem str_size (l : List UInt8) : (⟨l.toArray⟩ : ByteArray).size = l.length := by simp [ByteArray.size]

set_option maxRecDepth 100000 in
set_option maxHeartbeats 4000000 in
theorem strJoin_many (A : Option Addr) (c : Nat) (ts : List (List UInt8)) (w : World) (hr : RdT w A ts) (ht : ∀ t ∈ ts, t.length ≤ 3) (hn : ts.length ≤ 169) (h2 : 2 ≤ ts.length) (hcap : ts.length ≤ c) :
    Calls Try.prog 21 #[.slice A ts.length c, .string ⟨#[44]⟩] w (Fresh (strV (Lib.join ts [44])) w) := by
  obtain ⟨bk, o, rfl, hbk, hcells⟩ := hr (by omega)
  have HC := Lib.hid hcells
  have HT := Lib.hid ht
  have hdv : ¬ (9223372036854775807 / ((ts.length : Int) - 1) ≤ 1) := by
    have : (2 : Int) ≤ 9223372036854775807 / ((ts.length : Int) - 1) := by
      rw [Int.le_ediv_iff_mul_le (by omega)]
      omega
    omega
  have hne0 : ((ts.length : Int) == 0) = false := beq_eq_false_iff_ne.2 (by omega)
  have hne1 : ((ts.length : Int) == 1) = false := beq_eq_false_iff_ne.2 (by omega)
  have HBK := Lib.hid hbk
  clear hcells ht hr
  obtain ⟨w0, rfl⟩ : ∃ w0 : World, w0 = w := ⟨w, rfl⟩
  go_enter Try.func21, Try.ntmps21
  go_wp2_with fail
  go_loop [5, 41] (fun n i => ∃ k : Nat, k ≤ ts.length ∧ i = .int .i64 k ∧ n = .int .i64 ((ts.length : Int) - 1 + (Lib.lens (ts.take k) : Nat))) (fun _ i => ts.length - (intOf i).toNat)
  case atStart => exact ⟨0, Nat.zero_le _, rfl, by simp [Lib.lens]⟩
  case round =>
    obtain ⟨k, hk, rfl, rfl⟩ := hrel
    have HLT : Hid (Lib.lens (ts.take k) ≤ 3 * 169) := Lib.hid (by
      have h1 := lens_le (ts.take k) (fun t h => HT.out t (List.mem_of_mem_take h))
      rw [List.length_take] at h1
      omega)
    have hlt0 := HLT.out
    by_cases hlt : k < ts.length
    · have hc := HC.out k hlt
      have hlt' : (k : Int) < ts.length := by omega
      have HS : Hid (Lib.lens (ts.take (k + 1)) = Lib.lens (ts.take k) + (ts.getD k []).length) := Lib.hid (by rw [take_getD hlt, lens_snoc])
      have h3 := HT.out _ (getD_mem hlt)
      have hsz := str_size (ts.getD k [])
      generalize Lib.lens (ts.take k) = L at *
      generalize ts.getD k [] = t at *
      go_wp2_with fail
      go_round
      case rel => exact ⟨k + 1, by omega, by go_num, by rw [HS.out]; refine congrArg _ ?_; omega⟩
      case measure => simp [intOf]; omega
    · obtain rfl : k = ts.length := by omega
      rw [List.take_of_length_le (Nat.le_refl _)] at hlt0 ⊢
      have HM : Hid (((ts.length : Int) - 1 + ((Lib.lens ts : Nat) : Int)) = ((ts.length - 1 + Lib.lens ts : Nat) : Int)) := Lib.hid (by omega)
      rw [HM.out]
      have hmb : ts.length - 1 + Lib.lens ts ≤ 281474976710656 := by omega
      generalize ts.length - 1 + Lib.lens ts = M at *
      have KG := Lib.hid (Try.Builder_Grow_fresh w0.heap.size w0.heap.size M (w0.alloc (.cells #[.pointer none, .slice none 0 0] 68)) (Nat.le_refl _) (heap_alloc_new w0 _) (by simp) hmb)
      have HF : Hid (Lib.join (ts.take 1) [44] = ts.getD 0 [] ∧ (ts.getD 0 []).length ≤ 3) := Lib.hid ⟨by rw [take_getD (show 0 < ts.length by omega), List.take_zero, List.nil_append, Lib.join_one], HT.out _ (getD_mem (by omega))⟩
      have HC0 := Lib.hid (HC.out 0 (by omega))
      rw [Nat.add_zero] at HC0
      generalize ts.getD 0 [] = t0 at HF HC0
      clear hmb HLT hlt0 hlt hk hdv
      go_wp2_with (go_at_call 44; refine (KG.out).mono ?_; rintro e w1 ⟨rfl, h1, hb1⟩; have c0 : w1.cell? ⟨bk, o, none⟩ = some (.string ⟨t0.toArray⟩) := (((((Below.refl w0.heap.size w0).alloc (Nat.le_refl _) _).trans hb1).cell (p := ⟨bk, o, none⟩) HBK.out).trans HC0.out))
      have B1 : Hid (Below w0.heap.size w0 w1) := Lib.hid (((Below.refl w0.heap.size w0).alloc (Nat.le_refl _) _).trans hb1)
      have H1 : Hid (Bld w0.heap.size w0.heap.size (Lib.byteCells []) w1) := Lib.hid (Or.inr (by simpa [Lib.byteCells] using h1))
      clear h1 hb1 KG
      have KW := Lib.hid (writeString_any w0.heap.size w0.heap.size (Lib.byteCells []) ⟨t0.toArray⟩ w1 H1.out (by have h := HF.out.2; have e := str_size t0; have e2 : (Lib.byteCells []).length = 0 := rfl; omega) B1.out.size)
      have HCH : Hid (Lib.byteCells [] ++ Lib.strCells ⟨t0.toArray⟩ = Lib.byteCells (Lib.join (ts.take (0 + 1)) [44])) := Lib.hid (by rw [Nat.zero_add, HF.out.1, Lib.strCells_eq, ← Lib.byteCells_append]; simp)
      rw [HCH.out] at KW
      go_wp2_with (go_at_call 45; refine (KW.out).mono ?_; rintro e w2 ⟨rfl, h2', hb2⟩)
      have B2 : Hid (Below w0.heap.size w0 w2) := Lib.hid (B1.out.trans hb2)
      have H2 : Hid (Bld w0.heap.size w0.heap.size (Lib.byteCells (Lib.join (ts.take (0 + 1)) [44])) w2) := Lib.hid (Or.inr h2')
      clear h2' hb2 KW c0
      obtain ⟨m, em⟩ : ∃ m, m = ts.length - 1 := ⟨_, rfl⟩
      have hm1 : ts.length - 1 = m := em.symm
      have HML : Hid (ts.length = m + 1) := Lib.hid (by omega)
      have hm169 : m ≤ 169 := by omega
      clear em
      go_wp2_with fail
      rw [hm1]
      clear hm1
      go_loopw [65] (fun i wr => ∃ k : Nat, k ≤ m ∧ i = .int .i64 k ∧ Hid (Bld w0.heap.size w0.heap.size (Lib.byteCells (Lib.join (ts.take (k + 1)) [44])) wr) ∧ Hid (Below w0.heap.size w0 wr)) (fun i _ => m - (intOf i).toNat)
      case atStart => exact ⟨0, Nat.zero_le _, rfl, H2, B2⟩
      case round =>
        obtain ⟨k, hk, rfl, hB, hW⟩ := hrel
        have hbl : (Lib.byteCells (Lib.join (ts.take (k + 1)) [44])).length ≤ 4 * 170 := by
          have h1 := join_le (ts.take (k + 1)) (fun t h => HT.out t (List.mem_of_mem_take h))
          rw [List.length_take] at h1
          rw [Lib.byteCells_length]
          have := HML.out
          omega
        by_cases hlt : k < m
        · have hlt' : (k : Int) < m := by omega
          have hl1 : k + 1 < ts.length := by have := HML.out; omega
          have hc1 : wr.cell? ⟨bk, o + 1 + k, none⟩ = some (.string ⟨(ts.getD (k + 1) []).toArray⟩) := by
            rw [hW.out.cell (p := ⟨bk, o + 1 + k, none⟩) HBK.out, show o + 1 + k = o + (k + 1) by omega]
            exact HC.out (k + 1) hl1
          have h3 := HT.out _ (getD_mem hl1)
          have HJ : Hid (Lib.byteCells (Lib.join (ts.take (k + 1)) [44]) ++ Lib.strCells ⟨#[44]⟩ ++ Lib.strCells ⟨(ts.getD (k + 1) []).toArray⟩ = Lib.byteCells (Lib.join (ts.take (k + 1 + 1)) [44])) := Lib.hid (by
            rw [take_getD hl1, join_snoc _ _ (fun e => by
              have := congrArg List.length e
              rw [List.length_take, List.length_nil] at this
              omega), Lib.strCells_eq, Lib.strCells_eq, ← Lib.byteCells_append, ← Lib.byteCells_append])
          generalize ts.getD (k + 1) [] = t at *
          have hst := str_size t
          have KW1 := Lib.hid (writeString_any w0.heap.size w0.heap.size (Lib.byteCells (Lib.join (ts.take (k + 1)) [44])) ⟨#[44]⟩ wr hB.out (by have e : (⟨#[44]⟩ : ByteArray).size = 1 := rfl; omega) hW.out.size)
          have KW2 : Hid (∀ W, BldAt w0.heap.size w0.heap.size (Lib.byteCells (Lib.join (ts.take (k + 1)) [44]) ++ Lib.strCells ⟨#[44]⟩) W → w0.heap.size ≤ W.heap.size → Calls Try.prog 45 #[.pointer (some ⟨w0.heap.size, 0, none⟩), .string ⟨t.toArray⟩] W fun e w' => e = .returned (.tuple #[.int .i64 (⟨t.toArray⟩ : ByteArray).size, .nilIface]) ∧ BldAt w0.heap.size w0.heap.size (Lib.byteCells (Lib.join (ts.take (k + 1 + 1)) [44])) w' ∧ Below w0.heap.size W w') := Lib.hid (fun W hW hz => by
            rw [← HJ.out]
            exact writeString_any w0.heap.size w0.heap.size _ ⟨t.toArray⟩ W (Or.inr hW) (by rw [List.length_append, Lib.strCells_length]; have e : (⟨#[44]⟩ : ByteArray).size = 1 := rfl; omega) hz)
          clear hbl h3 hst HJ hl1
          go_wp2_with (go_at_call 45; ((with_reducible refine (KW1.out).mono ?_); rintro e w3 ⟨rfl, h3', hb3⟩))
          have H3 := Lib.hid h3'
          have B3 := Lib.hid (hW.out.trans hb3)
          clear h3' hb3 KW1 hc1
          go_wp2_with (go_at_call 45; ((with_reducible refine (KW2.out _ H3.out B3.out.size).mono ?_); rintro e w4 ⟨rfl, h4', hb4⟩))
          have H4 : Hid (Bld w0.heap.size w0.heap.size (Lib.byteCells (Lib.join (ts.take (k + 1 + 1)) [44])) w4) := Lib.hid (Or.inr h4')
          have B4 := Lib.hid (B3.out.trans hb4)
          clear h4' hb4 KW2
          go_wp2_with fail
          go_roundw
          case rel => exact ⟨k + 1, by omega, by go_num, H4, B4⟩
          case measure => simp [intOf]; omega
        · obtain rfl : k = m := by omega
          have HL : Hid (ts.take (k + 1) = ts) := Lib.hid (by rw [← HML.out]; exact List.take_of_length_le (Nat.le_refl _))
          rw [HL.out] at hB
          have KS := Lib.hid (Try.Builder_String_any w0.heap.size w0.heap.size (Lib.join ts [44]) wr hB.out hW.out.size)
          generalize Lib.join ts [44] = l at *
          clear hbl
          go_wp2_with (go_at_call 46; refine (KS.out).mono ?_; rintro e w5 ⟨rfl, hb5⟩)
          go_ret
          exact ⟨rfl, hW.out.trans hb5⟩
set_option maxRecDepth 100000 in
set_option maxHeartbeats 1000000 in
theorem strJoin_any (A : Option Addr) (c : Nat) (ts : List (List UInt8)) (w : World) (hr : RdT w A ts) (ht : ∀ t ∈ ts, t.length ≤ 3) (hn : ts.length ≤ 169) (hcap : ts.length ≤ c) :
    Calls Try.prog 21 #[.slice A ts.length c, .string ⟨#[44]⟩] w (Fresh (strV (Lib.join ts [44])) w) := by
  match ts, hr, ht, hn, hcap with
  | [], _, _, _, _ =>
    rw [Lib.join_nil]
    go_enter Try.func21, Try.ntmps21
    go_wp2_with fail
    go_ret
    exact ⟨rfl, bl_refl _⟩
  | [t], hr, _, _, _ =>
    rw [Lib.join_one]
    obtain ⟨b, o, rfl, _, hc⟩ := hr (by simp)
    have hc0 : w.cell? ⟨b, o, none⟩ = some (.string ⟨t.toArray⟩) := hc 0 (by simp)
    clear hc hr
    go_enter Try.func21, Try.ntmps21
    go_wp2_with fail
    go_ret
    exact ⟨rfl, bl_refl _⟩
  | x :: y :: r, hr, ht, hn, hcap => exact strJoin_many A c (x :: y :: r) w hr ht hn (by simp) hcap
end Go.Proofs.Ytlpkaflmhdgmmaa
