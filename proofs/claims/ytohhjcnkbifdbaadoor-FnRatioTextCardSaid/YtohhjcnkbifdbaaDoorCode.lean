/-
  A code as a law's argument, the laws' test of its length, and the cells of a ratio in memory.
-/
import Derived.Test.YtohhjcnkbifdbaaDoorDrawFrom
import Derived.Test.YtohhjcnkbifdbaaDoorRatio
import Derived.Lib.SmallJoins
import Derived.OpenShut
namespace Go.Proofs.YtohhjcnkbifdbaaDoor
open Go.ChangeShapes Go.WideShapes Go.ChangeAt Go.RowKit Go.Joins
set_option linter.unusedVariables false

set_option maxHeartbeats 400000 in
theorem big_yes (a : Option Addr) (L c : Nat) (w : World) (h : 4096 < L) (hm : (L : Int) ≤ 9223372036854775807) :
    Calls Tryd.prog 6 #[.slice a L c] w fun e w' => e = .returned (.bool true) ∧ w = w' := by
  have h' : (4096 : Int) < L := by omega
  go_enter Tryd.func6, Tryd.ntmps6
  go_wp2
  go_ret
  exact ⟨rfl, rfl⟩
set_option maxHeartbeats 400000 in
theorem big_no (a : Option Addr) (L c : Nat) (w : World) (h : L ≤ 4096) :
    Calls Tryd.prog 6 #[.slice a L c] w fun e w' => e = .returned (.bool false) ∧ w = w' := by
  have h' : (L : Int) ≤ 4096 := by omega
  go_enter Tryd.func6, Tryd.ntmps6
  go_wp2
  go_ret
  exact ⟨ret_bool (decide_eq_false (by omega)), rfl⟩

/-- The cells of a ratio in memory. -/
abbrev RatAt (w : World) (g : Nat) (n d : Int) : Prop := w.cell? ⟨g, 0, none⟩ = some (.int .i64 n) ∧ w.cell? ⟨g, 1, none⟩ = some (.int .i64 d)
theorem ratAt_below {w w' : World} {g : Nat} {n d : Int} (h : RatAt w g n d) (hb : Below w.heap.size w w') : RatAt w' g n d := by
  have hg := World.block_lt_of_cell? w _ h.1
  exact ⟨(hb.cell (p := ⟨g, 0, none⟩) hg).trans h.1, (hb.cell (p := ⟨g, 1, none⟩) hg).trans h.2⟩
theorem ratAt_alloc {w : World} {g : Nat} {n d : Int} (h : RatAt w g n d) (o : Obj) : RatAt (w.alloc o) g n d := ratAt_below h (bl_alloc (bl_refl _) _)
theorem ratAt_drew {w : World} {g : Nat} {n d : Int} (h : RatAt w g n d) : RatAt w.drew g n d := h
theorem ratAt_new (w : World) (n d : Int) (t : TypeId) : RatAt (w.alloc (.cells #[.int .i64 n, .int .i64 d] t)) w.heap.size n d := by
  refine ⟨?_, ?_⟩ <;> simp [go_sem]
theorem ratAt_new2 (w : World) (n d : Int) (t : TypeId) (o : Obj) : RatAt ((w.alloc o).alloc (.cells #[.int .i64 n, .int .i64 d] t)) (w.heap.size + 1) n d := by
  have := ratAt_new (w.alloc o) n d t
  simpa using this

set_option maxRecDepth 100000 in
/-- A code as a law's argument: its value, and its bytes in memory. -/
theorem open_code {H : Type} {enc : TypeId × Value → H} {W : World} {base : Nat} {v : Value} {d : DataW H} {p : List MemPlace}
    (hv : Value.okWide Tryd.prog W .any base 22 v) (h : DataW.Trod enc Tryd.prog W 0 (fun _ => true) true 22 v d p) :
    ∃ (a : Option Addr) (L c : Nat) (zs : Nat → Int), v = .slice a L c ∧ L ≤ maxLen ∧ CodeIn W a L zs := by
  obtain ⟨a0, len, cap, rfl⟩ := okWide_slice Tryd.underlying22 hv
  obtain ⟨fuel, hf⟩ := h
  rcases open_ints Tryd.underlying22 Tryd.underlying5 (by kernel_rfl) hf with ⟨hcs, hx⟩ | ⟨a, len', cap', zs, hcs, _, hl, hm, hz, hx, hcell, hwz⟩
  · simp [Value.cells] at hcs
    obtain ⟨rfl, rfl, rfl⟩ := hcs
    exact ⟨none, 0, 0, fun _ => 0, rfl, by unfold maxLen; omega, .inl rfl⟩
  · simp [Value.cells] at hcs
    obtain ⟨rfl, rfl, rfl⟩ := hcs
    refine ⟨some a, len, cap, fun i => zs.getD i 0, rfl, by omega, ?_⟩
    by_cases h0 : len = 0
    · exact .inl h0
    · right
      have hlen : len ≤ zs.length := by rw [hz]; simp; exact hl
      obtain ⟨b, off, rfl, hc⟩ := ints_at hcell (by omega)
      refine ⟨b, off, rfl, fun i hi => ⟨hc i (by omega), ?_⟩⟩
      have hw := hwz (zs.getD i 0) (by rw [List.getD_eq_getElem?_getD, List.getElem?_eq_getElem (by omega)]; simp)
      have := bounds_u8 hw
      omega

end Go.Proofs.YtohhjcnkbifdbaaDoor
