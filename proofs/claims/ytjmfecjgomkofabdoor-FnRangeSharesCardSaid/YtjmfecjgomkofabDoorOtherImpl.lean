/-
  The program's OtherCards: the bits that are left, lowest first (math/bits.TrailingZeros64 reads a table of the library's).
-/
import Derived.Test.YtjmfecjgomkofabDoorOnes
import Derived.Test.YtjmfecjgomkofabDoorSpecH
import Derived.Shelf.Spec.TrailingZeros
import Derived.Lib.LaidTab
import Derived.Lib.AppendIntMem
namespace Go.Proofs.YtjmfecjgomkofabDoor
open Go.RowKit
set_option linter.unusedVariables false

/-- The library's table, as numbers. -/
def tzTab : List Int := Lib.deBruijn64tab.map (fun n : Nat => (n : Int))
/-- The table lies as it was laid, whatever the calls make above B. -/
def Tz (B : Nat) (w : World) : Prop := Lib.TabBelow Tryd.prog B w "math/bits.deBruijn64tab" .u8 tzTab
theorem gTz : Tryd.prog.globalNamed "math/bits.deBruijn64tab" = some 0 := by kernel_rfl
theorem tz_cell {B : Nat} {w W : World} (h : Tz B w) (hb : Below B w W) (i : Nat) (hi : i < 64) : W.cell? ⟨0, i, none⟩ = some (.int .u8 (Lib.deBruijn64tab.getD i 0 : Nat)) := by
  have hl : tzTab.length = 64 := by decide +kernel
  have := (h.on hb).here.cell gTz i (by rw [hl]; exact hi)
  rw [this]
  congr 2
  unfold tzTab
  have hl2 : i < Lib.deBruijn64tab.length := by have : Lib.deBruijn64tab.length = 64 := by decide +kernel
                                                omega
  rw [List.getD_eq_getElem?_getD, List.getD_eq_getElem?_getD, List.getElem?_map, List.getElem?_eq_getElem hl2]
  rfl

set_option maxRecDepth 100000 in
set_option maxHeartbeats 1000000 in
theorem tz_core (x k idx : Nat) (w : World) (hx0 : ((x : Int) == 0) = false)
    (key : IntKind.u64.wrap (bits BinOp.and IntKind.u64 (x : Int) (IntKind.u64.wrap (-(x : Int))) * 285870213051353865) / 288230376151711744 = (idx : Int))
    (hi : idx < 64) (hk : k < 64) (hcell : w.cell? ⟨0, idx, none⟩ = some (.int .u8 k)) :
    Calls Tryd.prog 113 #[.int .u64 x] w (Same (.int .i64 k) w) := by
  go_enter Tryd.func113, Tryd.ntmps113
  go_wp2_with (simp only [key])
  go_ret
  exact ⟨rfl, rfl⟩
theorem tz_any (x : Nat) (B : Nat) (w W : World) (hx : x < 2 ^ 64) (h0 : x ≠ 0) (ht : Tz B w) (hb : Below B w W) :
    Calls Tryd.prog 113 #[.int .u64 x] W (Same (.int .i64 (Lib.ctz 64 x : Nat)) W) := by
  obtain ⟨hlow, hk⟩ := Lib.lowest_bit 64 x h0 hx
  obtain ⟨hi, htab⟩ := Lib.deBruijn64_at _ hk
  have hcell := tz_cell ht hb _ hi
  rw [htab] at hcell
  exact tz_core x _ _ W (by simp; omega) (tz64_key x _ hx h0 hlow) hi hk hcell

/-- The cards of a set, in order. -/
def bitsI (x : Nat) : List Int := (bitsFrom 64 0 x).map (fun n : Nat => (n : Int))
theorem bitsI_zero : bitsI 0 = [] := by unfold bitsI; rw [bitsFrom_zero]; rfl
theorem bitsI_step (x : Nat) (h0 : x ≠ 0) (hx : x < 2 ^ 64) : bitsI x = (Lib.ctz 64 x : Int) :: bitsI (x &&& (x - 1)) := by
  unfold bitsI
  rw [bitsFrom_step 64 0 x h0 hx, List.map_cons, Nat.zero_add]
  have : Lib.ctz 64 x = Lib.ctzFrom 64 x := by unfold Lib.ctz; rw [if_neg h0]
  rw [this]
theorem bitsI_len (x : Nat) : (bitsI x).length ≤ 64 := by unfold bitsI; rw [List.length_map, bitsFrom_length]; exact pop_le 64 x
theorem clear_bits (m : Nat) (h0 : m ≠ 0) (hm : m < 2 ^ 63) : bits .and .u64 (m : Int) ((m : Int) - 1) = ((m &&& (m - 1) : Nat) : Int) := by
  have e : (m : Int) - 1 = ((m - 1 : Nat) : Int) := by omega
  rw [e]
  exact u64_and _ _ (by omega) (by omega)

set_option maxRecDepth 100000 in
set_option maxHeartbeats 2000000 in
theorem list_any (x : Nat) (B : Nat) (wt w : World) (hx : x < 2 ^ 53) (ht : Hid (Tz B wt)) (hB : Hid (Below B wt w)) (hBw : Hid (B ≤ w.heap.size)) :
    Calls Tryd.prog 79 #[.int .u64 x] w (NewL (bitsI x) w) := by
  obtain ⟨i0, hi, hz0, hz1, hz2⟩ := info_parts infoInt
  have KS := Lib.hid (fun W : World => size_any x W (by omega))
  have HX := Lib.hid hx
  clear hx
  have hp := pop_le 64 x
  obtain ⟨n, en⟩ : ∃ n, n = pop 64 x := ⟨_, rfl⟩
  rw [← en] at KS hp
  clear en
  obtain ⟨w0, rfl⟩ : ∃ w0 : World, w0 = w := ⟨w, rfl⟩
  go_enter Tryd.func79, Tryd.ntmps79
  go_wp2_with (first
    | (go_at_call 112; refine (KS.out _).mono ?_; rintro e w1 ⟨rfl, rfl⟩)
    | (at_make; refine wpList_make_own _ rfl _ _ 24 rfl w0.heap.size 2 i0 (.int .i64 0) 1 Tryd.underlying24 hi hz0 hz1 .i64 .i64 _ n rfl rfl rfl ?c1 ?c2 (Nat.le_refl _) ?_))
  case c1 => rw [hz2]; omega
  case c2 => unfold maxLen; omega
  intro w1 hown hgrow
  have HS : Hid (Grow w0 [] (.slice (some ⟨w0.heap.size, 0, none⟩) 0 n) w1) := Lib.hid ⟨hown, (bl_refl _).grown hgrow (Nat.le_refl _) (fun j hj => by cases hj)⟩
  clear hown hgrow
  go_wp2_with fail
  go_loopw [0, 3] (fun s v wr => ∃ (m : Nat) (acc : List Int), s = .int .u64 m ∧ Hid (m < 2 ^ 53) ∧ Hid (Grow w0 acc v wr) ∧ Hid (acc ++ bitsI m = bitsI x)) (fun s _ _ => (intOf s).toNat)
  case atStart => exact ⟨x, [], rfl, HX, HS, Lib.hid rfl⟩
  case round =>
    obtain ⟨m, acc, rfl, Hm, hS, hE⟩ := hrel
    have hm := Hm.out
    by_cases h0 : m = 0
    · subst h0
      clear hm
      obtain ⟨A, cc, rfl, hO⟩ := own_form hS.out.1
      have HO := Lib.hid hO
      have HE : Hid (acc = bitsI x) := Lib.hid (by have := hE.out; rwa [bitsI_zero, List.append_nil] at this)
      clear hO
      go_wp2_with fail
      go_ret
      rw [← HE.out]
      exact ⟨A, cc, rfl, HO.out, hS.out.2⟩
    · have hm0 : ((m : Int) == 0) = false := by simp; omega
      have hm1 : (1 : Int) ≤ (m : Int) := by omega
      have hw : IntKind.u64.wrap ((m : Int) - 1) = (m : Int) - 1 := wraps_u64 _ (by omega) (by omega)
      have hal : acc.length ≤ 64 := by
        have := congrArg List.length hE.out
        rw [List.length_append] at this
        have := bitsI_len x
        omega
      have HZ := Lib.hid (fun W (hb : Below B wt W) => tz_any m B wt W (by omega) h0 ht.out hb)
      have HE2 := Lib.hid (bitsI_step m h0 (by omega))
      have e1 := clear_bits m h0 (by omega)
      have HLt := Lib.hid (clear_lt m h0)
      obtain ⟨c, ec⟩ : ∃ c, c = Lib.ctz 64 m := ⟨_, rfl⟩
      rw [← ec] at HZ HE2
      clear ec h0 hm
      go_wp2_with (first
        | (go_at_call 113; refine (HZ.out _ (hB.out.trans (Below.mono hS.out.2 hBw.out))).mono ?_; rintro e w2 ⟨rfl, rfl⟩)
        | (at_builtin; refine wpList_append_own _ rfl _ _ 24 rfl w0.heap.size 2 i0 (.int .i64 0) 1 8 Tryd.underlying24 hi hz0 hz1 hz2 rfl (by decide) _ _ _ rfl (hS.out.1.alloc _) ⟨wr.heap.size, 0, none⟩ 1 1 [.int .i64 c] rfl rfl ?c1 ?c2 ?c3 ?c4 ?c5 ?_))
      case c1 =>
        intro i u hj
        match i, hj with
        | 0, hj => simp at hj; subst hj; simp [Addr.add]
      case c2 => intro u hu; simp at hu; subst hu; rfl
      case c3 => unfold maxLen; omega
      case c4 => omega
      case c5 => have := hS.out.2.size; simp; omega
      intro v' w3 hown' hgrow _
      have HG := Lib.hid (grow_app hS.out hown' hgrow)
      clear hown' hgrow
      go_wp2_with fail
      go_roundw
      case rel => exact ⟨m &&& (m - 1), acc ++ [(c : Int)], rfl, Lib.hid (by have := HLt.out; have := Hm.out; omega), HG, Lib.hid (by rw [List.append_assoc, List.singleton_append, ← HE2.out]; exact hE.out)⟩
      case measure => have := HLt.out; simp [intOf]; omega
end Go.Proofs.YtjmfecjgomkofabDoor
