/-
  The model's l08ReadHand: a group is read. (Written by gen_s9a.py.)
-/
import Derived.Test.YtlpkaflmhdgmmaaFindByte
import Derived.Test.YtlpkaflmhdgmmaaPartPure
import Derived.Test.YtlpkaflmhdgmmaaBase
import Derived.Test.YtlpkaflmhdgmmaaAnyR
import Derived.WalkSpells
namespace Go.Proofs.Ytlpkaflmhdgmmaa
open Go.RowKit
set_option linter.unusedVariables false

/-- The model's group as a value. -/
abbrev hV (a b : Int) (k : UInt8) : Value := .agg #[.int .i64 a, .int .i64 b, .int .u8 k.toNat]
/-- What l08ReadHand answers. -/
def HandTo (l : List UInt8) (w : World) (e : Ending) (w' : World) : Prop :=
  (∃ g : Grp, grpM l = some g ∧ e = .returned (.tuple #[hV g.1 g.2.1 g.2.2, .bool true]) ∧ Below w.heap.size w w') ∨
  (∃ (a b : Int) (k : UInt8), grpM l = none ∧ e = .returned (.tuple #[hV a b k, .bool false]) ∧ Below w.heap.size w w')
theorem find_rkI (c : UInt8) (w : World) : Calls Try.prog 62 #[.string ⟨#[50, 51, 52, 53, 54, 55, 56, 57, 84, 74, 81, 75, 65]⟩, .int .u8 c.toNat] w (Same (.int .i64 (rkI c)) w) := find_rank c w
set_option maxRecDepth 100000 in
set_option maxHeartbeats 4000000 in
theorem hand_short (l : List UInt8) (w : World) (h : l.length < 2 ∨ 3 < l.length) (hm : l.length ≤ 2000000) :
    Calls Try.prog 51 #[strV l] w (HandTo l w) := by
  have hs : (⟨l.toArray⟩ : ByteArray).size = l.length := by show l.toArray.size = _; simp
  have HG := Lib.hid (grpM_short h)
  rcases h with h | h
  · have e1 : (l.length : Int) < 2 := by omega
    clear h
    go_enter Try.func51, Try.ntmps51
    go_wp2_with fail
    exact bodyPost_ret (v := .tuple #[hV 0 0 0, .bool false]) (by simp [results, Try.results51, go_sem]) rfl (.inr ⟨0, 0, 0, HG.out, rfl, bl_alloc (bl_refl _) _⟩)
  · have e1 : ¬ (l.length : Int) < 2 := by omega
    have e2 : (3 : Int) < (l.length : Int) := by omega
    clear h
    go_enter Try.func51, Try.ntmps51
    go_wp2_with fail
    exact bodyPost_ret (v := .tuple #[hV 0 0 0, .bool false]) (by simp [results, Try.results51, go_sem]) rfl (.inr ⟨0, 0, 0, HG.out, rfl, bl_alloc (bl_refl _) _⟩)
theorem idx2_0 (c d : UInt8) (W : World) : (Instr.index 9 (.string ⟨#[c, d]⟩) (.int .i64 0)).run Try.prog W = .ok (.int .u8 c.toNat) W := rfl
theorem idx2_1 (c d : UInt8) (W : World) : (Instr.index 9 (.string ⟨#[c, d]⟩) (.int .i64 1)).run Try.prog W = .ok (.int .u8 d.toNat) W := rfl
theorem idx3_0 (c d f : UInt8) (W : World) : (Instr.index 9 (.string ⟨#[c, d, f]⟩) (.int .i64 0)).run Try.prog W = .ok (.int .u8 c.toNat) W := rfl
theorem idx3_1 (c d f : UInt8) (W : World) : (Instr.index 9 (.string ⟨#[c, d, f]⟩) (.int .i64 1)).run Try.prog W = .ok (.int .u8 d.toNat) W := rfl
theorem idx3_2 (c d f : UInt8) (W : World) : (Instr.index 9 (.string ⟨#[c, d, f]⟩) (.int .i64 2)).run Try.prog W = .ok (.int .u8 f.toNat) W := rfl
set_option maxRecDepth 100000 in
set_option maxHeartbeats 4000000 in
theorem hand_two (c d : UInt8) (w : World) : Calls Try.prog 51 #[strV [c, d]] w (HandTo [c, d] w) := by
  have hs : (⟨#[c, d]⟩ : ByteArray).size = 2 := rfl
  have hmx : Try.prog.follows .mixedOrders = true := by kernel_rfl
  have i0 := idx2_0 c d
  have i1 := idx2_1 c d
  have HG := Lib.hid (grpM_2 c d)
  have KC := Lib.hid (find_rkI c)
  have KD := Lib.hid (find_rkI d)
  generalize rkI c = x at *
  generalize rkI d = y at *
  go_enter Try.func51, Try.ntmps51
  go_wp2_with fail
  refine wp_region_R (R := fun a b => b = a) (I := fun _ => True) (last := 8) (k := 8) (fun _ => rfl) hmx rfl (fun HC0 => ?_)
  refine wpAnyR_take (i := 0) (kw := 6) (v := strV [c, d]) (fun _ => rfl) (fun p q => q.trans p) rfl (by kernel_rfl) (by kernel_rfl) (by kernel_rfl) (by kernel_rfl) (fun _ _ _ h => h) HC0 (Or.inl ⟨by rfl, fun W' hI => ?_⟩) (fun HC1 => ?_)
  · refine .inl ?_
    go_simp
  refine wpAnyR_take (i := 1) (kw := 6) (v := .int .u8 c.toNat) (fun _ => rfl) (fun p q => q.trans p) rfl (by kernel_rfl) (by kernel_rfl) (by kernel_rfl) (by kernel_rfl) (fun _ _ _ h => h) HC1 (Or.inl ⟨by rfl, fun W' hI => ?_⟩) (fun HC2 => ?_)
  · refine .inl ?_
    go_simp
  refine wpAnyR_take (i := 2) (kw := 6) (v := .int .i64 x) (fun _ => rfl) (fun p q => q.trans p) rfl (by kernel_rfl) (by kernel_rfl) (by kernel_rfl) (by kernel_rfl) (fun _ _ _ h => h) HC2 (Or.inl ⟨by rfl, fun W' hI => ?_⟩) (fun HC3 => ?_)
  · refine .inr ⟨62, #[.string ⟨#[50, 51, 52, 53, 54, 55, 56, 57, 84, 74, 81, 75, 65]⟩, .int .u8 c.toNat], ?_, ?_⟩
    · go_simp
    · exact (KC.out W').mono fun e w' ⟨he, hb⟩ => ⟨he, hb.symm⟩
  refine wpAnyR_take (i := 3) (kw := 6) (v := strV [c, d]) (fun _ => rfl) (fun p q => q.trans p) rfl (by kernel_rfl) (by kernel_rfl) (by kernel_rfl) (by kernel_rfl) (fun _ _ _ h => h) HC3 (Or.inl ⟨by rfl, fun W' hI => ?_⟩) (fun HC4 => ?_)
  · refine .inl ?_
    go_simp
  refine wpAnyR_take (i := 4) (kw := 6) (v := .int .u8 d.toNat) (fun _ => rfl) (fun p q => q.trans p) rfl (by kernel_rfl) (by kernel_rfl) (by kernel_rfl) (by kernel_rfl) (fun _ _ _ h => h) HC4 (Or.inl ⟨by rfl, fun W' hI => ?_⟩) (fun HC5 => ?_)
  · refine .inl ?_
    go_simp
  refine wpAnyR_take (i := 5) (kw := 6) (v := .int .i64 y) (fun _ => rfl) (fun p q => q.trans p) rfl (by kernel_rfl) (by kernel_rfl) (by kernel_rfl) (by kernel_rfl) (fun _ _ _ h => h) HC5 (Or.inl ⟨by rfl, fun W' hI => ?_⟩) (fun HC6 => ?_)
  · refine .inr ⟨62, #[.string ⟨#[50, 51, 52, 53, 54, 55, 56, 57, 84, 74, 81, 75, 65]⟩, .int .u8 d.toNat], ?_, ?_⟩
    · go_simp
    · exact (KD.out W').mono fun e w' ⟨he, hb⟩ => ⟨he, hb.symm⟩
  refine wpAnyR_take (i := 6) (kw := 6) (v := .agg #[.int .i64 x, .int .i64 y, .int .u8 32]) (fun _ => rfl) (fun p q => q.trans p) rfl (by kernel_rfl) (by kernel_rfl) (by kernel_rfl) (by kernel_rfl) (fun _ _ _ h => h) HC6 (Or.inl ⟨by rfl, fun W' hI => ?_⟩) (fun HC7 => ?_)
  · refine .inl ?_
    go_simp
  refine wpAnyR_one HC7 (i := 7) (by kernel_rfl) rfl (by rfl) (fun w8 hr8 => ⟨trivial, fun K hK => ?_⟩)
  subst hr8
  go_simp
  refine hK _ _ ?_
  clear hK K
  intro HC8
  refine wpAnyR_last (by kernel_rfl) (by kernel_rfl) rfl (by rfl) (fun w9 hr9 => ⟨trivial, fun K hK => ?_⟩)
  subst hr9
  go_simp
  refine hK _ _ ?_
  clear hK K HC0 HC1 HC2 HC3 HC4 HC5 HC6 HC7 HC8
  by_cases h1 : 0 ≤ y
  · by_cases h2 : y ≤ x
    · have HY := Lib.hid (HG.out.trans (if_pos ⟨h1, h2⟩))
      clear HG
      go_wp2_with fail
      refine bodyPost_ret (v := .tuple #[hV x y 32, .bool true]) (by simp [results, Try.results51, go_sem]) rfl (.inl ⟨(x, y, 32), HY.out, rfl, ?_⟩)
      repeat (first | exact bl_refl _ | apply bl_alloc | apply bl_drewN | apply bl_drew | refine bl_set ?_ (by simp) _)
    · have HY := Lib.hid (HG.out.trans (if_neg (by omega)))
      clear HG
      go_wp2_with fail
      refine bodyPost_ret (v := .tuple #[hV x y 32, .bool false]) (by simp [results, Try.results51, go_sem]) rfl (.inr ⟨x, y, 32, HY.out, rfl, ?_⟩)
      repeat (first | exact bl_refl _ | apply bl_alloc | apply bl_drewN | apply bl_drew | refine bl_set ?_ (by simp) _)
  · have HY := Lib.hid (HG.out.trans (if_neg (by omega)))
    clear HG
    go_wp2_with fail
    refine bodyPost_ret (v := .tuple #[hV x y 32, .bool false]) (by simp [results, Try.results51, go_sem]) rfl (.inr ⟨x, y, 32, HY.out, rfl, ?_⟩)
    repeat (first | exact bl_refl _ | apply bl_alloc | apply bl_drewN | apply bl_drew | refine bl_set ?_ (by simp) _)
set_option maxRecDepth 100000 in
set_option maxHeartbeats 4000000 in
theorem hand_three (c d f : UInt8) (w : World) : Calls Try.prog 51 #[strV [c, d, f]] w (HandTo [c, d, f] w) := by
  have hs : (⟨#[c, d, f]⟩ : ByteArray).size = 3 := rfl
  have hmx : Try.prog.follows .mixedOrders = true := by kernel_rfl
  have i0 := idx3_0 c d f
  have i1 := idx3_1 c d f
  have i2 := idx3_2 c d f
  have HG := Lib.hid (grpM_3 c d f)
  have KC := Lib.hid (find_rkI c)
  have KD := Lib.hid (find_rkI d)
  generalize rkI c = x at *
  generalize rkI d = y at *
  go_enter Try.func51, Try.ntmps51
  go_wp2_with fail
  refine wp_region_R (R := fun a b => b = a) (I := fun _ => True) (last := 8) (k := 8) (fun _ => rfl) hmx rfl (fun HC0 => ?_)
  refine wpAnyR_take (i := 0) (kw := 6) (v := strV [c, d, f]) (fun _ => rfl) (fun p q => q.trans p) rfl (by kernel_rfl) (by kernel_rfl) (by kernel_rfl) (by kernel_rfl) (fun _ _ _ h => h) HC0 (Or.inl ⟨by rfl, fun W' hI => ?_⟩) (fun HC1 => ?_)
  · refine .inl ?_
    go_simp
  refine wpAnyR_take (i := 1) (kw := 6) (v := .int .u8 c.toNat) (fun _ => rfl) (fun p q => q.trans p) rfl (by kernel_rfl) (by kernel_rfl) (by kernel_rfl) (by kernel_rfl) (fun _ _ _ h => h) HC1 (Or.inl ⟨by rfl, fun W' hI => ?_⟩) (fun HC2 => ?_)
  · refine .inl ?_
    go_simp
  refine wpAnyR_take (i := 2) (kw := 6) (v := .int .i64 x) (fun _ => rfl) (fun p q => q.trans p) rfl (by kernel_rfl) (by kernel_rfl) (by kernel_rfl) (by kernel_rfl) (fun _ _ _ h => h) HC2 (Or.inl ⟨by rfl, fun W' hI => ?_⟩) (fun HC3 => ?_)
  · refine .inr ⟨62, #[.string ⟨#[50, 51, 52, 53, 54, 55, 56, 57, 84, 74, 81, 75, 65]⟩, .int .u8 c.toNat], ?_, ?_⟩
    · go_simp
    · exact (KC.out W').mono fun e w' ⟨he, hb⟩ => ⟨he, hb.symm⟩
  refine wpAnyR_take (i := 3) (kw := 6) (v := strV [c, d, f]) (fun _ => rfl) (fun p q => q.trans p) rfl (by kernel_rfl) (by kernel_rfl) (by kernel_rfl) (by kernel_rfl) (fun _ _ _ h => h) HC3 (Or.inl ⟨by rfl, fun W' hI => ?_⟩) (fun HC4 => ?_)
  · refine .inl ?_
    go_simp
  refine wpAnyR_take (i := 4) (kw := 6) (v := .int .u8 d.toNat) (fun _ => rfl) (fun p q => q.trans p) rfl (by kernel_rfl) (by kernel_rfl) (by kernel_rfl) (by kernel_rfl) (fun _ _ _ h => h) HC4 (Or.inl ⟨by rfl, fun W' hI => ?_⟩) (fun HC5 => ?_)
  · refine .inl ?_
    go_simp
  refine wpAnyR_take (i := 5) (kw := 6) (v := .int .i64 y) (fun _ => rfl) (fun p q => q.trans p) rfl (by kernel_rfl) (by kernel_rfl) (by kernel_rfl) (by kernel_rfl) (fun _ _ _ h => h) HC5 (Or.inl ⟨by rfl, fun W' hI => ?_⟩) (fun HC6 => ?_)
  · refine .inr ⟨62, #[.string ⟨#[50, 51, 52, 53, 54, 55, 56, 57, 84, 74, 81, 75, 65]⟩, .int .u8 d.toNat], ?_, ?_⟩
    · go_simp
    · exact (KD.out W').mono fun e w' ⟨he, hb⟩ => ⟨he, hb.symm⟩
  refine wpAnyR_take (i := 6) (kw := 6) (v := .agg #[.int .i64 x, .int .i64 y, .int .u8 32]) (fun _ => rfl) (fun p q => q.trans p) rfl (by kernel_rfl) (by kernel_rfl) (by kernel_rfl) (by kernel_rfl) (fun _ _ _ h => h) HC6 (Or.inl ⟨by rfl, fun W' hI => ?_⟩) (fun HC7 => ?_)
  · refine .inl ?_
    go_simp
  refine wpAnyR_one HC7 (i := 7) (by kernel_rfl) rfl (by rfl) (fun w8 hr8 => ⟨trivial, fun K hK => ?_⟩)
  subst hr8
  go_simp
  refine hK _ _ ?_
  clear hK K
  intro HC8
  refine wpAnyR_last (by kernel_rfl) (by kernel_rfl) rfl (by rfl) (fun w9 hr9 => ⟨trivial, fun K hK => ?_⟩)
  subst hr9
  go_simp
  refine hK _ _ ?_
  clear hK K HC0 HC1 HC2 HC3 HC4 HC5 HC6 HC7 HC8
  by_cases h1 : 0 ≤ y
  · by_cases h2 : y ≤ x
    · by_cases h3 : y < x
      · by_cases h4 : f = 115
        · have HY := Lib.hid (HG.out.trans (if_pos ⟨h1, h3, .inl h4⟩))
          have q1 : ((f.toNat : Int) == 115) = true := by rw [h4]; rfl
          clear HG h4
          go_wp2_with fail
          refine bodyPost_ret (v := .tuple #[hV x y f, .bool true]) (by simp [results, Try.results51, go_sem]) rfl (.inl ⟨(x, y, f), HY.out, rfl, ?_⟩)
          repeat (first | exact bl_refl _ | apply bl_alloc | apply bl_drewN | apply bl_drew | refine bl_set ?_ (by simp) _)
        · have q1 : ((f.toNat : Int) == 115) = false := by
            have : f.toNat ≠ 115 := fun e => h4 (UInt8.toNat_inj.1 e)
            simp; omega
          by_cases h5 : f = 111
          · have HY := Lib.hid (HG.out.trans (if_pos ⟨h1, h3, .inr h5⟩))
            have q2 : ((f.toNat : Int) == 111) = true := by rw [h5]; rfl
            clear HG h4 h5
            go_wp2_with fail
            refine bodyPost_ret (v := .tuple #[hV x y f, .bool true]) (by simp [results, Try.results51, go_sem]) rfl (.inl ⟨(x, y, f), HY.out, rfl, ?_⟩)
            repeat (first | exact bl_refl _ | apply bl_alloc | apply bl_drewN | apply bl_drew | refine bl_set ?_ (by simp) _)
          · have HY := Lib.hid (HG.out.trans (if_neg (fun h => by rcases h.2.2 with h | h; exact h4 h; exact h5 h)))
            have q2 : ((f.toNat : Int) == 111) = false := by
              have : f.toNat ≠ 111 := fun e => h5 (UInt8.toNat_inj.1 e)
              simp; omega
            clear HG h4 h5
            go_wp2_with fail
            refine bodyPost_ret (v := .tuple #[hV x y f, .bool false]) (by simp [results, Try.results51, go_sem]) rfl (.inr ⟨x, y, f, HY.out, rfl, ?_⟩)
            repeat (first | exact bl_refl _ | apply bl_alloc | apply bl_drewN | apply bl_drew | refine bl_set ?_ (by simp) _)
      · have HY := Lib.hid (HG.out.trans (if_neg (by omega)))
        clear HG
        go_wp2_with fail
        refine bodyPost_ret (v := .tuple #[hV x y f, .bool false]) (by simp [results, Try.results51, go_sem]) rfl (.inr ⟨x, y, f, HY.out, rfl, ?_⟩)
        repeat (first | exact bl_refl _ | apply bl_alloc | apply bl_drewN | apply bl_drew | refine bl_set ?_ (by simp) _)
    · have HY := Lib.hid (HG.out.trans (if_neg (by omega)))
      clear HG
      go_wp2_with fail
      refine bodyPost_ret (v := .tuple #[hV x y f, .bool false]) (by simp [results, Try.results51, go_sem]) rfl (.inr ⟨x, y, f, HY.out, rfl, ?_⟩)
      repeat (first | exact bl_refl _ | apply bl_alloc | apply bl_drewN | apply bl_drew | refine bl_set ?_ (by simp) _)
  · have HY := Lib.hid (HG.out.trans (if_neg (by omega)))
    clear HG
    go_wp2_with fail
    refine bodyPost_ret (v := .tuple #[hV x y f, .bool false]) (by simp [results, Try.results51, go_sem]) rfl (.inr ⟨x, y, f, HY.out, rfl, ?_⟩)
    repeat (first | exact bl_refl _ | apply bl_alloc | apply bl_drewN | apply bl_drew | refine bl_set ?_ (by simp) _)
theorem hand_any (l : List UInt8) (w : World) (hm : l.length ≤ 2000000) : Calls Try.prog 51 #[strV l] w (HandTo l w) := by
  match l, hm with
  | [], hm => exact hand_short _ w (.inl (by simp)) hm
  | [c], hm => exact hand_short _ w (.inl (by simp)) hm
  | [c, d], _ => exact hand_two c d w
  | [c, d, f], _ => exact hand_three c d f w
  | c :: d :: f :: g :: r, hm => exact hand_short _ w (.inr (by simp)) hm
end Go.Proofs.Ytlpkaflmhdgmmaa
