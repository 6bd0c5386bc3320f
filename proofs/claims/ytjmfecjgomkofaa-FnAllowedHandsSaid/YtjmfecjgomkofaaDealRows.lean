/-
  Rows of rows: lists of lists of numbers in memory, in rows of the call's own; the laws' own helpers on them.
-/
import Derived.Test.YtjmfecjgomkofaaMark
import Derived.Test.YtjmfecjgomkofaaRows2
namespace Go.Proofs.Ytjmfecjgomkofaa
open Go.RowKit
set_option linter.unusedVariables false

/-- What a call leaves that only reads. -/
def Reads (v : Value) (w : World) (e : Ending) (w' : World) : Prop := e = .returned v ∧ ∃ n, w' = w.drewN n
set_option maxRecDepth 100000 in
set_option maxHeartbeats 1000000 in
theorem eqInts_reads (A B : Option Addr) (c d : Nat) (xs : List Int) (w : World) (hr : Rd w A xs) (hq : Rd w B xs) (hn : xs.length ≤ 4000000) :
    Calls Try.prog 26 #[.slice A xs.length c, .slice B xs.length d] w (Reads (.bool true) w) := by
  have HR := Lib.hid hr
  have HQ := Lib.hid hq
  clear hr hq
  obtain ⟨w0, rfl⟩ : ∃ w0 : World, w0 = w := ⟨w, rfl⟩
  go_enter Try.func26, Try.ntmps26
  go_wp2_with fail
  go_loopw [5] (fun i wr => ∃ k : Nat, k ≤ xs.length ∧ i = .int .i64 k ∧ Hid (∃ n, wr = w0.drewN n)) (fun i _ => xs.length - (intOf i).toNat)
  case atStart => exact ⟨0, Nat.zero_le _, rfl, Lib.hid ⟨0, rfl⟩⟩
  case round =>
    obtain ⟨k, hk, rfl, hs⟩ := hrel
    by_cases hlt : k < xs.length
    · have hbl : Below w0.heap.size w0 wr := by obtain ⟨n, e⟩ := hs.out; rw [e]; exact bl_drewN (bl_refl _) _
      obtain ⟨b, off, rfl, hc⟩ := HR.out.at_ hbl k hlt
      obtain ⟨b', off', rfl, hc'⟩ := HQ.out.at_ hbl k hlt
      have hlt' : (k : Int) < xs.length := by omega
      clear hbl
      go_wp2_with fail
      go_quiet (fail)
      go_wp2_with fail
      go_roundw
      case rel => exact ⟨k + 1, by omega, by go_num, Lib.hid (by obtain ⟨n, e⟩ := hs.out; rw [e]; exact ⟨n + _, World.drewN_drewN ..⟩)⟩
      case measure => simp [intOf]; omega
    · obtain rfl : k = xs.length := by omega
      go_wp2_with fail
      go_ret
      exact ⟨rfl, hs.out⟩

/-- How many numbers the first rows hold. -/
def offs (R : Nat → List Int) : Nat → Nat
  | 0 => 0
  | k + 1 => offs R k + (R k).length
/-- The first k rows marked. -/
def markR (k0 : Int) (R : Nat → List Int) (k : Nat) : Nat → List Int := fun h => if h < k then marks (k0 + offs R h) (R h).length else R h
theorem markR_zero (k0 : Int) (R : Nat → List Int) : markR k0 R 0 = R := by funext h; simp [markR]
theorem markR_len (k0 : Int) (R : Nat → List Int) (k h : Nat) : (markR k0 R k h).length = (R h).length := by unfold markR; split <;> simp [marks_length]
/-- One row written. -/
theorem Fam.upd {w w' : World} {lo : Nat} {A : Option Addr} {H : Nat} {R R' : Nat → List Int} {AA : Nat → Option Addr} {CC : Nat → Nat} (h : Fam w lo A H R AA CC) (k : Nat) (hk : k < H) {n c : Nat} (hg : w.grownBy w' (Value.slice (AA k) n c).ownBlock)
    (hr : Row w' lo (AA k) (R' k)) (hl : (R' k).length = (R k).length) (he : ∀ j, j < H → j ≠ k → R' j = R j) : Fam w' lo A H R' AA CC := by
  have hne : ∀ a : Addr, (∀ b, AA k = some b → a.block ≠ b.block) → some a.block ≠ (Value.slice (AA k) n c).ownBlock := by
    intro a ha e
    cases hq : AA k with
    | none => rw [hq] at e; cases e
    | some b =>
      rw [hq] at e
      have : a.block = b.block := by injection e
      exact ha b hq this
  have h1 := h.outer
  refine ⟨fun h0 => ?_, fun j hj => ?_, fun a e => ⟨(h.lo a e).1, Nat.lt_of_lt_of_le (h.lo a e).2 hg.size⟩, h.off, h.apart⟩
  · obtain ⟨g, off, rfl, hgl, hc⟩ := h1 h0
    refine ⟨g, off, rfl, Nat.lt_of_lt_of_le hgl hg.size, fun j hj => ?_⟩
    rw [(World.cell?_of_block (a := ⟨g, off + j, none⟩) (hg.block g hgl (hne ⟨g, off, none⟩ (fun b hb => (fun e => (h.off k hk b hb _ rfl) e.symm))))).trans (hc j hj)]
    by_cases e : j = k
    · subst e; rw [hl]
    · rw [he j hj e]
  · by_cases e : j = k
    · subst e; exact hr
    · rw [he j hj e]
      exact (h.row j hj).grown hg (fun a ha => hne a (fun b hb => h.apart j hj k hk e a ha b hb))
theorem markR_next {w w' : World} {lo : Nat} {A : Option Addr} {H : Nat} {k0 : Int} {R : Nat → List Int} {AA : Nat → Option Addr} {CC : Nat → Nat} {k n c : Nat} (h : Fam w lo A H (markR k0 R k) AA CC) (hk : k < H) (hg : w.grownBy w' (Value.slice (AA k) n c).ownBlock)
    (hr : Row w' lo (AA k) (marks (k0 + offs R k) (R k).length)) : Fam w' lo A H (markR k0 R (k + 1)) AA CC := by
  have e1 : markR k0 R (k + 1) k = marks (k0 + offs R k) (R k).length := by unfold markR; rw [if_pos (by omega)]
  refine h.upd k hk hg (by rw [e1]; exact hr) (by rw [markR_len, markR_len]) (fun j hj hne => ?_)
  unfold markR
  by_cases h1 : j < k
  · rw [if_pos h1, if_pos (by omega)]
  · rw [if_neg h1, if_neg (by omega)]
/-- All rows let go: only blocks of the family have been written. -/
theorem offs_le (R : Nat → List Int) : ∀ (k m : Nat), k ≤ m → offs R k ≤ offs R m
  | k, 0, h => by obtain rfl : k = 0 := by omega
                  exact Nat.le_refl _
  | k, m + 1, h => by
    by_cases e : k = m + 1
    · subst e; exact Nat.le_refl _
    · exact Nat.le_trans (offs_le R k m (by omega)) (Nat.le_add_right ..)
/-- What marking a family leaves. -/
def MarkFam (w : World) (lo : Nat) (k0 : Int) (A : Option Addr) (H : Nat) (R : Nat → List Int) (AA : Nat → Option Addr) (CC : Nat → Nat) (k : Nat) (w' : World) : Prop :=
  Fam w' lo A H (markR k0 R k) AA CC ∧ w.os = w'.os ∧ w.tape = w'.tape ∧ w.output = w'.output ∧ w.heap.size ≤ w'.heap.size ∧
  ∀ j, j < w.heap.size → (∀ h, h < H → ∀ a, AA h = some a → a.block ≠ j) → w'.heap[j]? = w.heap[j]?
theorem markFam_next {w wr w' : World} {lo : Nat} {A : Option Addr} {H : Nat} {k0 : Int} {R : Nat → List Int} {AA : Nat → Option Addr} {CC : Nat → Nat} {k n c : Nat} (h : MarkFam w lo k0 A H R AA CC k wr) (hk : k < H) (hg : wr.grownBy w' (Value.slice (AA k) n c).ownBlock)
    (hr : Row w' lo (AA k) (marks (k0 + offs R k) (R k).length)) : MarkFam w lo k0 A H R AA CC (k + 1) w' := by
  obtain ⟨h1, h2, h3, h4, h5, h6⟩ := h
  refine ⟨markR_next h1 hk hg hr, h2.trans hg.os.symm, h3.trans hg.tape.symm, h4.trans hg.output.symm, Nat.le_trans h5 hg.size, fun j hj hne => ?_⟩
  refine (hg.block j (Nat.lt_of_lt_of_le hj h5) (fun e => ?_)).trans (h6 j hj hne)
  cases hq : AA k with
  | none => rw [hq] at e; cases e
  | some b =>
    rw [hq] at e
    have : j = b.block := by injection e
    exact hne k hk b hq this.symm
def MarkFamPost (w : World) (lo : Nat) (k0 : Int) (A : Option Addr) (H : Nat) (R : Nat → List Int) (AA : Nat → Option Addr) (CC : Nat → Nat) (e : Ending) (w' : World) : Prop :=
  e = .returned (.int .i64 (k0 + offs R H)) ∧ MarkFam w lo k0 A H R AA CC H w'

end Go.Proofs.Ytjmfecjgomkofaa
