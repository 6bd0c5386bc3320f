/-
  The reader of range texts: what it keeps in memory, and its small methods.
-/
import Derived.Test.YtlpkaflmhdgmmaaClsSetFns
import Derived.Test.YtlpkaflmhdgmmaaClsOf
import Derived.Test.YtlpkaflmhdgmmaaPartPure
import Derived.Test.YtlpkaflmhdgmmaaShelf
import Derived.Lib.Strings
import Derived.WalkLawsBesides
namespace Go.Proofs.Ytlpkaflmhdgmmaa
open Go.RowKit
set_option linter.unusedVariables false

/-- The reader's block: the rest of the text, and the marks. -/
def Rdr (w : World) (g : Nat) (l : List UInt8) (p : Int → Bool) : Prop := Blk w g 52 (strV l :: setL p)
/-- What a method leaves: its value, the rest of the text, the marks; nothing else that was there is written. -/
def RdrTo (g : Nat) (l : List UInt8) (p : Int → Bool) (v : Value) (w : World) (e : Ending) (w' : World) : Prop := e = .returned v ∧ Rdr w' g l p ∧ w.grownBy w' (some g)
/-- What a method leaves that panics. -/
def RdrDies (g : Nat) (w : World) (e : Ending) (w' : World) : Prop := ∃ (u : TypeId) (v : Value), e = .panicked [{ v := .iface u v, recovered := false }] ∧ w.grownBy w' (some g)
theorem gr_refl (w : World) (row : Option Nat) : w.grownBy w row := World.grownBy.refl w row
theorem gr_alloc {a w : World} {row : Option Nat} (h : a.grownBy w row) (o : Obj) : a.grownBy (w.alloc o) row := h.trans (World.grownBy_alloc w o row)
theorem gr_drew {a w : World} {row : Option Nat} (h : a.grownBy w row) : a.grownBy w.drew row := ⟨h.os, h.tape, h.output, h.size, h.block⟩
theorem gr_drewN {a w : World} {row : Option Nat} (h : a.grownBy w row) (n : Nat) : a.grownBy (w.drewN n) row := ⟨h.os, h.tape, h.output, h.size, h.block⟩
theorem gr_below {a w w' : World} {row : Option Nat} (h : a.grownBy w row) (hb : Below w.heap.size w w') : a.grownBy w' row := h.trans ⟨hb.os, hb.tape, hb.output, hb.size, fun i hi _ => hb.block i hi⟩
theorem dies_of {g : Nat} {w w1 : World} {u : TypeId} {v : Value} (h : w.grownBy w1 (some g)) : RdrDies g w (.panicked [{ v := .iface u v, recovered := false }]) w1 := ⟨u, v, rfl, h⟩
theorem dies_trans {g : Nat} {w w1 w2 : World} {e : Ending} (h : w.grownBy w1 (some g)) (hd : RdrDies g w1 e w2) : RdrDies g w e w2 := by
  obtain ⟨u, v, he, hg⟩ := hd
  exact ⟨u, v, he, h.trans hg⟩
theorem Rdr.text {w : World} {g : Nat} {l : List UInt8} {p : Int → Bool} (h : Rdr w g l p) : w.cell? ⟨g, 0, none⟩ = some (strV l) ∧ w.frozen? ⟨g, 0, none⟩ = false := Blk.cell h 0 _ rfl
theorem Rdr.put {w : World} {g : Nat} {l : List UInt8} {p : Int → Bool} (h : Rdr w g l p) (r : List UInt8) : Rdr (w.setCell ⟨g, 0, none⟩ (strV r)) g r p ∧ w.grownBy (w.setCell ⟨g, 0, none⟩ (strV r)) (some g) := by
  obtain ⟨h1, h2⟩ := blk_set h 0 (strV r)
  exact ⟨h1, h2⟩
theorem Rdr.mark {w : World} {g : Nat} {l : List UInt8} {p : Int → Bool} (h : Rdr w g l p) (x : Nat) (hx : x < 169) : Rdr (w.setCell ⟨g, 1 + x, none⟩ (.bool true)) g l (putP p (x : Int) true) ∧ w.grownBy (w.setCell ⟨g, 1 + x, none⟩ (.bool true)) (some g) := by
  obtain ⟨h1, h2⟩ := blk_set h (1 + x) (.bool true)
  refine ⟨?_, h2⟩
  unfold Rdr
  have e : (strV l :: setL p).set (1 + x) (.bool true) = strV l :: (setL p).set x (.bool true) := by rw [Nat.add_comm 1 x]; rfl
  rw [e, setL_set p x true hx] at h1
  exact h1
theorem Rdr.at_ {w : World} {g : Nat} {l : List UInt8} {p : Int → Bool} (h : Rdr w g l p) (x : Nat) (hx : x < 169) : w.cell? ⟨g, 1 + x, none⟩ = some (.bool (p (x : Int))) ∧ w.frozen? ⟨g, 1 + x, none⟩ = false := by
  refine Blk.cell h (1 + x) _ ?_
  rw [Nat.add_comm 1 x]
  exact setL_get p x hx
theorem Rdr.grown {w w' : World} {g : Nat} {l : List UInt8} {p : Int → Bool} {row : Option Nat} (h : Rdr w g l p) (hg : w.grownBy w' row) (hne : some g ≠ row) : Rdr w' g l p := Blk.grown h hg hne
theorem Rdr.below {w w' : World} {g : Nat} {l : List UInt8} {p : Int → Bool} (h : Rdr w g l p) (hb : Below w.heap.size w w') : Rdr w' g l p := Blk.below h hb
theorem Rdr.lt {w : World} {g : Nat} {l : List UInt8} {p : Int → Bool} (h : Rdr w g l p) : g < w.heap.size := Blk.lt h

/-- One character is cut from a text's front. -/
theorem cutPre_yes (c : UInt8) (r : List UInt8) (W : World) : Calls Try.prog 61 #[strV (c :: r), strV [c]] W (Same (.tuple #[strV r, .bool true]) W) :=
  (Try.strings_CutPrefix _ _ W).mono fun e w' ⟨he, hw⟩ => ⟨by
    rw [he]
    have e1 : Lib.hasPrefix (c :: r) [c] = true := by unfold Lib.hasPrefix; simp [List.isPrefixOf]
    have e2 : Lib.trimPrefix (c :: r) [c] = r := by unfold Lib.trimPrefix; rw [if_pos e1]; rfl
    simp only [e1, e2], hw.symm⟩
/-- A text that does not begin with a character. -/
def NoHead (c : UInt8) (l : List UInt8) : Prop := ∀ r, l ≠ c :: r
theorem cutPre_no (c : UInt8) (l : List UInt8) (h : NoHead c l) (W : World) : Calls Try.prog 61 #[strV l, strV [c]] W (Same (.tuple #[strV l, .bool false]) W) :=
  (Try.strings_CutPrefix _ _ W).mono fun e w' ⟨he, hw⟩ => ⟨by
    rw [he]
    have e1 : Lib.hasPrefix l [c] = false := by
      unfold Lib.hasPrefix
      cases l with
      | nil => rfl
      | cons e r =>
        have hne : c ≠ e := fun q => h r (by rw [q])
        simp [List.isPrefixOf, hne]
    have e2 : Lib.trimPrefix l [c] = l := by unfold Lib.trimPrefix; rw [e1]; rfl
    simp only [e1, e2], hw.symm⟩
set_option maxRecDepth 100000 in
set_option maxHeartbeats 1000000 in
theorem skip_gen (g : Nat) (l r : List UInt8) (b : Bool) (v : Value) (p : Int → Bool) (w : World) (h : Rdr w g l p) (K : ∀ W, Calls Try.prog 61 #[strV l, v] W (Same (.tuple #[strV r, .bool b]) W)) :
    Calls Try.prog 50 #[.pointer (some ⟨g, 0, none⟩), v] w (RdrTo g r p (.bool b) w) := by
  obtain ⟨hc, hf⟩ := h.text
  have HP := Lib.hid (h.put r)
  have HK := Lib.hid K
  clear h K
  go_enter Try.func50, Try.ntmps50
  go_wp2_with (go_at_call 61; ((with_reducible refine (HK.out _).mono ?_); rintro e w1 ⟨rfl, rfl⟩))
  go_ret
  exact ⟨rfl, HP.out.1, HP.out.2⟩
theorem skip_yes (g : Nat) (c : UInt8) (r : List UInt8) (p : Int → Bool) (w : World) (h : Rdr w g (c :: r) p) :
    Calls Try.prog 50 #[.pointer (some ⟨g, 0, none⟩), strV [c]] w (RdrTo g r p (.bool true) w) :=
  skip_gen g _ r true _ p w h (fun W => cutPre_yes c r W)
theorem skip_no (g : Nat) (c : UInt8) (l : List UInt8) (p : Int → Bool) (w : World) (h : Rdr w g l p) (hn : NoHead c l) :
    Calls Try.prog 50 #[.pointer (some ⟨g, 0, none⟩), strV [c]] w (RdrTo g l p (.bool false) w) :=
  skip_gen g _ l false _ p w h (fun W => cutPre_no c l hn W)
end Go.Proofs.Ytlpkaflmhdgmmaa
