/-
  l01Damage: a text is changed slightly, sometimes.
-/
import Derived.Test.YtlpkaflmhdgmmaaDraws
import Derived.Deep.RegionWith
import Derived.Laws.Concat
import Derived.WalkLawsBesides
namespace Go.Proofs.Ytlpkaflmhdgmmaa
open Go.RowKit
set_option linter.unusedVariables false

/-- A drawn text, of at most N bytes. -/
def DrewS (N : Nat) (w : World) (s : Nat) (a : Option Addr) (L c : Nat) (zs : Nat → Int) (e : Ending) (w' : World) : Prop :=
  ∃ r : ByteArray, e = .returned (.string r) ∧ r.size ≤ N ∧ Src w' s a L c zs ∧ Only s w w'

/-- The texts that are put in. -/
def insOf (i : Nat) : ByteArray := ([⟨#[48]⟩, ⟨#[35]⟩, ⟨#[46]⟩, ⟨#[47]⟩, ⟨#[32]⟩, ⟨#[97]⟩, ⟨#[45]⟩, ⟨#[10]⟩] : List ByteArray).getD i ByteArray.empty
theorem insOf_size (i : Nat) : (insOf i).size ≤ 1 := by
  match i with
  | 0 | 1 | 2 | 3 | 4 | 5 | 6 | 7 => exact Nat.le_refl _
  | i + 8 => exact Nat.zero_le _
theorem ins_new (w : World) (t : TypeId) (i : Nat) (hi : i < 8) :
    (w.alloc (.cells #[.string ⟨#[48]⟩, .string ⟨#[35]⟩, .string ⟨#[46]⟩, .string ⟨#[47]⟩, .string ⟨#[32]⟩, .string ⟨#[97]⟩, .string ⟨#[45]⟩, .string ⟨#[10]⟩] t)).cell? ⟨w.heap.size, i, none⟩ = some (.string (insOf i)) := by
  match i, hi with
  | 0, _ | 1, _ | 2, _ | 3, _ | 4, _ | 5, _ | 6, _ | 7, _ => simp [go_sem, insOf]
/-- A draw of a number below eight; q: where the texts that are put in lie, if they lie already. -/
def NextI (q : Option Nat) (w : World) (s : Nat) (a : Option Addr) (L c : Nat) (zs : Nat → Int) (e : Ending) (w' : World) : Prop :=
  ∃ i : Nat, e = .returned (.int .i64 i) ∧ i < 8 ∧ (i : Int) < 8 ∧ Src w' s a L c zs ∧ Only s w w' ∧ (∀ b, q = some b → w'.cell? ⟨b, i, none⟩ = some (.string (insOf i)))
theorem next_i (q : Option Nat) (s : Nat) (a : Option Addr) (L c : Nat) (zs : Nat → Int) (w : World) (h : Src w s a L c zs) (hq : ∀ b, q = some b → b ≠ s ∧ ∀ i, i < 8 → w.cell? ⟨b, i, none⟩ = some (.string (insOf i))) :
    Calls Try.prog 25 #[.pointer (some ⟨s, 0, none⟩), .int .i64 8] w (NextI q w s a L c zs) := by
  refine (next_any s 8 a L c zs w (by omega) (by omega) h).mono fun e w1 hh => ?_
  obtain ⟨x, he, x0, x1, hs1, ho1⟩ := hh
  obtain ⟨i, rfl⟩ := Int.eq_ofNat_of_zero_le x0
  have hi : i < 8 := by omega
  refine ⟨i, he, hi, by omega, hs1, ho1, fun b hb => ?_⟩
  have := (hq b hb).2 i hi
  exact (only_cell ho1 (World.block_lt_of_cell? w _ this) (hq b hb).1).trans this
theorem next_i0 (s : Nat) (a : Option Addr) (L c : Nat) (zs : Nat → Int) (w : World) (h : Src w s a L c zs) :
    Calls Try.prog 25 #[.pointer (some ⟨s, 0, none⟩), .int .i64 8] w (NextI none w s a L c zs) := next_i none s a L c zs w h (fun _ h => by cases h)
theorem next_i1 (s : Nat) (a : Option Addr) (L c : Nat) (zs : Nat → Int) (w : World) (h : Src w s a L c zs) :
    Calls Try.prog 25 #[.pointer (some ⟨s, 0, none⟩), .int .i64 8] (w.alloc (.cells #[.string ⟨#[48]⟩, .string ⟨#[35]⟩, .string ⟨#[46]⟩, .string ⟨#[47]⟩, .string ⟨#[32]⟩, .string ⟨#[97]⟩, .string ⟨#[45]⟩, .string ⟨#[10]⟩] 9)) (NextI (some w.heap.size) (w.alloc (.cells #[.string ⟨#[48]⟩, .string ⟨#[35]⟩, .string ⟨#[46]⟩, .string ⟨#[47]⟩, .string ⟨#[32]⟩, .string ⟨#[97]⟩, .string ⟨#[45]⟩, .string ⟨#[10]⟩] 9)) s a L c zs) :=
  next_i _ s a L c zs _ (src_alloc h _) (fun b hb => by injection hb with hb; subst hb; exact ⟨Nat.ne_of_gt (src_lt h), fun i hi => ins_new w _ i hi⟩)
theorem next_i2 (s : Nat) (a : Option Addr) (L c : Nat) (zs : Nat → Int) (w : World) (h : Src w s a L c zs) :
    Calls Try.prog 25 #[.pointer (some ⟨s, 0, none⟩), .int .i64 8] (w.alloc (.cells #[.string ⟨#[48]⟩, .string ⟨#[35]⟩, .string ⟨#[46]⟩, .string ⟨#[47]⟩, .string ⟨#[32]⟩, .string ⟨#[97]⟩, .string ⟨#[45]⟩, .string ⟨#[10]⟩] 9)).drew (NextI (some w.heap.size) (w.alloc (.cells #[.string ⟨#[48]⟩, .string ⟨#[35]⟩, .string ⟨#[46]⟩, .string ⟨#[47]⟩, .string ⟨#[32]⟩, .string ⟨#[97]⟩, .string ⟨#[45]⟩, .string ⟨#[10]⟩] 9)).drew s a L c zs) :=
  next_i _ s a L c zs _ ((src_alloc h _).below (bl_drew (bl_refl _))) (fun b hb => by injection hb with hb; subst hb; exact ⟨Nat.ne_of_gt (src_lt h), fun i hi => ins_new w _ i hi⟩)
theorem size_extract (s : ByteArray) (i j : Nat) (h : j ≤ s.size) : (s.extract i j).size ≤ s.size := by
  rw [ByteArray.size_extract]; omega

set_option maxRecDepth 100000 in
set_option maxHeartbeats 2000000 in
theorem damage_any (s : Nat) (t : ByteArray) (a : Option Addr) (L c : Nat) (zs : Nat → Int) (w : World) (ht : t.size ≤ 2000000) (h : Src w s a L c zs) :
    Calls Try.prog 26 #[.pointer (some ⟨s, 0, none⟩), .string t] w (DrewS (t.size + 1) w s a L c zs) := by
  go_enter Try.func26, Try.ntmps26
  go_wp2_with (go_at_call 25; first | ((with_reducible refine (next_pos _ _ _ _ _ _ w (by omega) (by omega) h).mono ?_); rintro e w1 ⟨x, rfl, x0, x1, hs1, ho1⟩; obtain ⟨k, rfl⟩ := Int.eq_ofNat_of_zero_le x0; clear x0) | ((with_reducible refine (next_any _ 8 _ _ _ _ _ (by omega) (by omega) hs1).mono ?_); rintro e w2 ⟨y, rfl, y0, y1, hs2, ho2⟩))
  · go_ret
    exact ⟨_, rfl, by rw [ByteArray.size_extract]; omega, hs2, only_trans ho1 ho2⟩
  · have sd := hs2.below (bl_drew (bl_refl _))
    have q1 : ∀ (i : Nat) (W : World), (Op.stringOp .add (t.extract 0 k) (insOf i)).run Try.prog W = .ok (.string (t.extract 0 k ++ insOf i)) W := fun i W => run_string_add W _ _ (by rw [ByteArray.size_extract]; omega) (by have := insOf_size i; omega)
    have q2 : ∀ (i : Nat) (W : World), (Op.stringOp .add (t.extract 0 k ++ insOf i) (t.extract k t.size)).run Try.prog W = .ok (.string (t.extract 0 k ++ insOf i ++ t.extract k t.size)) W := fun i W => run_string_add W _ _ (by have := insOf_size i; rw [ByteArray.size_append, ByteArray.size_extract]; omega) (by rw [ByteArray.size_extract]; omega)
    have hk : (k : Int) ≤ (t.size : Int) := by omega
    have hk2 : k ≤ t.size := by omega
    clear x1 y0 y1
    go_region_with ((go_at_call 25; first | ((with_reducible refine (next_i0 _ _ _ _ _ _ hs2).mono ?_); rintro e w3 ⟨i, rfl, i0, i1, hs3, ho3, -⟩; have hn := fun W => ins_new W 9 i i0) | ((with_reducible refine (next_i0 _ _ _ _ _ _ sd).mono ?_); rintro e w3 ⟨i, rfl, i0, i1, hs3, ho3, -⟩; have hn := fun W => ins_new W 9 i i0) | ((with_reducible refine (next_i1 _ _ _ _ _ _ hs2).mono ?_); rintro e w3 ⟨i, rfl, i0, i1, hs3, ho3, hc⟩; have hn := hc _ rfl; clear hc) | ((with_reducible refine (next_i2 _ _ _ _ _ _ hs2).mono ?_); rintro e w3 ⟨i, rfl, i0, i1, hs3, ho3, hc⟩; have hn := hc _ rfl; clear hc)))
    all_goals
      go_wp2_with fail
      go_ret
      refine ⟨_, rfl, ?_, ?_, ?_⟩
      · have := insOf_size i; rw [ByteArray.size_append, ByteArray.size_append, ByteArray.size_extract, ByteArray.size_extract]; omega
      · repeat (first | exact hs3 | (refine Src.below ?_ (bl_alloc (bl_refl _) _)) | (refine Src.below ?_ (bl_drew (bl_refl _))) | (refine Src.below ?_ (bl_drewN (bl_refl _) _)))
      · repeat (first | exact only_refl _ _ | (refine only_trans ?_ (by assumption)) | apply only_alloc | apply only_drewN | apply only_drew)
  · have q3 : ∀ W : World, (Op.stringOp .add (t.extract 0 k) (t.extract (k + 1) t.size)).run Try.prog W = .ok (.string (t.extract 0 k ++ t.extract (k + 1) t.size)) W := fun W => run_string_add W _ _ (by rw [ByteArray.size_extract]; omega) (by rw [ByteArray.size_extract]; omega)
    go_region
    all_goals
      go_wp2_with fail
      go_ret
      refine ⟨_, rfl, ?_, ?_, ?_⟩
      · rw [ByteArray.size_append, ByteArray.size_extract, ByteArray.size_extract]; omega
      · repeat (first | exact hs2 | (refine Src.below ?_ (bl_alloc (bl_refl _) _)) | (refine Src.below ?_ (bl_drew (bl_refl _))) | (refine Src.below ?_ (bl_drewN (bl_refl _) _)))
      · repeat (first | exact only_refl _ _ | (refine only_trans ?_ (by assumption)) | apply only_alloc | apply only_drewN | apply only_drew)
  · go_ret
    exact ⟨_, rfl, by omega, hs2, only_trans ho1 ho2⟩
  · go_ret
    exact ⟨_, rfl, by omega, hs2, only_trans ho1 ho2⟩
end Go.Proofs.Ytlpkaflmhdgmmaa
