/-
  What chapter 3's laws draw from their code: a deck, rarely another list; with a number beside it.
-/
import Derived.Test.YtafifipnfhekiaaShuf
import Derived.Test.YtafifipnfhekiaaNewRows
import Derived.Test.YtafifipnfhekiaaSrcOwn
import Derived.Test.YtafifipnfhekiaaBig
namespace Go.Proofs.Ytafifipnfhekiaa
open Go.RowKit
set_option linter.unusedVariables false

/-- A drawn list of at most N numbers, wherever it begins in its block. -/
def DrewR (N : Nat) (w : World) (s : Nat) (a : Option Addr) (L c : Nat) (zs : Nat → Int) (e : Ending) (w' : World) : Prop :=
  ∃ (xs : List Int) (A : Option Addr) (cc : Nat), e = .returned (.slice A xs.length cc) ∧ xs.length ≤ N ∧ xs.length ≤ cc ∧ Rd w' A xs ∧ (∀ b, A = some b → w.heap.size ≤ b.block) ∧ Src w' s a L c zs ∧ Only s w w'
theorem rd_only {w w' : World} {s lo : Nat} {A : Option Addr} {xs : List Int} (h : Rd w A xs) (ho : Only s w w') (hs : s < lo) (hA : ∀ b, A = some b → lo ≤ b.block) : Rd w' A xs :=
  Rd.grown (row := some s) h ho (fun a e e' => by have := hA a e; injection e' with e'; omega)
/-- Nothing but the source has been written. -/
theorem only_of_below {s : Nat} {w w1 w2 : World} (h : Only s w w1) (hb : Below w1.heap.size w1 w2) : Only s w w2 := only_trans h (only_below hb)

set_option maxRecDepth 100000 in
set_option maxHeartbeats 2000000 in
theorem drawDeck_any (s : Nat) (a : Option Addr) (L c : Nat) (zs : Nat → Int) (w : World) (h : Src w s a L c zs) :
    Calls Try.prog 44 #[.pointer (some ⟨s, 0, none⟩)] w (DrewR 53 w s a L c zs) := by
  have HS := src_lt h
  have HB := Lib.hid (codeB_of h)
  have KN := Lib.hid (next_any s 2147483646 a L c zs w (by omega) (by omega) h)
  clear h
  obtain ⟨w0, rfl⟩ : ∃ w0 : World, w0 = w := ⟨w, rfl⟩
  go_enter Try.func44, Try.ntmps44
  go_wp2_with (go_at_call 51; refine KN.out.mono ?_; rintro e w1 ⟨x, rfl, x0, x1, hs1, ho1⟩; have HO1 := Lib.hid ho1; have HS1 := Lib.hid hs1; clear ho1 hs1)
  go_wp2_with (go_at_call 68; refine (specShuffled_any _ _ (by omega) (by omega)).mono ?_; rintro e w2 ⟨A2, c2, rfl, ho2, hb2⟩; have HO2 := Lib.hid ho2; have HB2 := Lib.hid hb2; clear ho2 hb2)
  have hl2 : (shuffled (1 + x)).length = 52 := ((deck_iff _).1 (shuffled_deck (1 + x))).1
  generalize shuffled (1 + x) = ys at *
  have HL := Lib.hid hl2
  obtain ⟨g, rfl, hg0, hg1, hcap, _⟩ := own_some HO2.out (by omega)
  have O2 : Hid (Own w2 w0.heap.size (.slice (some ⟨g, 0, none⟩) ys.length c2) ys) := Lib.hid (HO2.out.less HO1.out.size)
  have S2 : Hid (Src w2 s a L c zs) := Lib.hid (HS1.out.below HB2.out)
  have Y2 : Hid (Only s w0 w2) := Lib.hid (only_of_below HO1.out HB2.out)
  have KN2 := Lib.hid (next_any s 20 a L c zs w2 (by omega) (by omega) S2.out)
  have hgw : w0.heap.size ≤ g := Nat.le_trans HO1.out.size hg0
  have hcap' : 52 ≤ c2 := by omega
  simp only [HL.out]
  clear hl2 hg0 hg1 hcap
  go_wp2_with (first
    | (go_at_call 51; refine KN2.out.mono ?_; rintro e w3 ⟨y, rfl, y0, y1, hs3, ho3⟩; have O3 : Hid (Own w3 w0.heap.size (.slice (some ⟨g, 0, none⟩) ys.length c2) ys) := Lib.hid (own_only O2.out ho3 HS); have S3 := Lib.hid hs3; have Y3 := Lib.hid (only_trans Y2.out ho3); clear hs3 ho3; have c30 := own_cell O3.out 0 (by rw [HL.out]; omega); have c31 := own_cell O3.out 1 (by rw [HL.out]; omega); have f30 : w3.frozen? ⟨g, 0, none⟩ = false := World.ownsRow.frozenAt O3.out 0; have hsl : ∀ w : World, (Instr.slice 24 (.slice (some ⟨g, 0, none⟩) 52 c2) (some (.int .i64 1)) none none).run Try.prog w = .ok (.slice (fromAt g 0 c2 1) (52 - 1) (c2 - 1)) w := run_sliceFrom g 0 52 c2 1 (by omega))
    | (at_builtin; refine wpList_glue (.tmp 23) (.tmp 24) rfl rfl w0.heap.size (.slice (some ⟨g, 0, none⟩) ys.length c2) ys [0] (some ⟨w3.heap.size, 0, none⟩) 1 (by rw [HL.out]; rfl) (O3.out.below (bl_alloc (bl_refl _) _)) rfl (rd_new1 w3 0) (by rw [HL.out]; decide) (Nat.le_trans Y3.out.size (by simp)) ?_))
  · go_ret
    obtain ⟨P1, P2⟩ : Own (w3.setCell ⟨g, 0, none⟩ (.int .i64 (nth ys 1))) w0.heap.size (.slice (some ⟨g, 0, none⟩) (ys.set 0 (nth ys 1)).length c2) (ys.set 0 (nth ys 1)) ∧ w3.grownBy (w3.setCell ⟨g, 0, none⟩ (.int .i64 (nth ys 1))) (some g) := by
      have h1 := O3.out
      unfold Own at h1 ⊢
      have h2 := h1.stored 0 (.int .i64 (nth ys 1))
      rw [ints_set] at h2
      rw [List.length_set]
      exact h2
    exact ⟨ys.set 0 (nth ys 1), some ⟨g, 0, none⟩, c2, by rw [List.length_set, HL.out]; rfl, by rw [List.length_set, HL.out]; omega, by rw [List.length_set, HL.out]; omega, P1.rd, fun b e => by obtain rfl := Option.some.inj e; exact hgw, src_grown S3.out P2 (fun j e => by injection e with e; omega) HS HB.out, only_grown Y3.out P2 (fun j e => by injection e with e; omega)⟩
  · go_ret
    have hne : ¬ c2 = 1 := by omega
    exact ⟨ys.drop 1, fromAt g 0 c2 1, c2 - 1, by rw [List.length_drop, HL.out]; rfl, by rw [List.length_drop, HL.out]; omega, by rw [List.length_drop, HL.out]; omega, rd_from O3.out.rd (.inr hne), fun b e => by unfold fromAt at e; rw [if_neg hne] at e; obtain rfl := Option.some.inj e; exact hgw, S3.out, Y3.out⟩
  · intro A4 c4 ws4 w4 e4 ho4 hg4 _
    have O4 := Lib.hid ho4
    have G4 := Lib.hid hg4
    have L4 : Hid (ws4.length = 53) := Lib.hid (by rw [e4.out, List.length_append, HL.out]; rfl)
    clear ho4 hg4 e4
    go_wp2_with fail
    go_ret
    have hr : ∀ j, (Value.slice (some ⟨g, 0, none⟩) ys.length c2).ownBlock = some j → w0.heap.size ≤ j := fun j e => (World.ownsRow.lt O3.out j e).1
    exact ⟨ws4, A4, c4, rfl, by rw [L4.out]; omega, own_cap O4.out, O4.out.rd, fun b e => (O4.out.lo_le b e).1, src_grown (src_alloc S3.out _) G4.out hr HS HB.out, only_grown (only_alloc Y3.out _) G4.out hr⟩
  · go_ret
    exact ⟨ys, some ⟨g, 0, none⟩, c2, by rw [HL.out]; rfl, by rw [HL.out]; omega, by rw [HL.out]; omega, O3.out.rd, fun b e => by obtain rfl := Option.some.inj e; exact hgw, S3.out, Y3.out⟩

/-- A list that a law draws from its code. -/
def DrawnR (w : World) (e : Ending) (w' : World) : Prop :=
  ∃ (xs : List Int) (A : Option Addr) (cc : Nat), e = .returned (.slice A xs.length cc) ∧ xs.length ≤ 53 ∧ xs.length ≤ cc ∧ Rd w' A xs ∧ Below w.heap.size w w'
/-- .. with a number beside it. -/
def DrawnRI (w : World) (e : Ending) (w' : World) : Prop :=
  ∃ (xs : List Int) (A : Option Addr) (cc : Nat) (n : Int), e = .returned (.tuple #[.slice A xs.length cc, .int .i64 n]) ∧ xs.length ≤ 53 ∧ xs.length ≤ cc ∧ Rd w' A xs ∧ Below w.heap.size w w'
theorem below_src {w w1 w2 : World} {s : Nat} (hb : Below w.heap.size w w1) (hs : w.heap.size ≤ s) (hy : Only s w1 w2) : Below w.heap.size w w2 :=
  Below.grown (row := some s) hb hy hb.size (fun j hj => by injection hj with hj; omega)
end Go.Proofs.Ytafifipnfhekiaa
