/-
  The laws' copy of an action; an action among a law's arguments.
-/
import Derived.Test.YthgfohdjpfhebaaBetOpen
namespace Go.Proofs.Ythgfohdjpfhebaa
open Go.Joins Go.ChangeShapes Go.WideShapes Go.ChangeAt Go.RowKit Go.Deep
set_option linter.unusedVariables false

def acV (k x : Int) : Value := .agg #[.int .i64 k, .int .i64 x]
set_option maxRecDepth 100000 in
set_option maxHeartbeats 1000000 in
theorem toAction_any (k x : Int) (w : World)  :
    Calls Try.prog 57 #[acV k x] w (Fresh (acV k x) w) := by
  obtain ⟨w0, rfl⟩ : ∃ w0 : World, w0 = w := ⟨w, rfl⟩
  obtain ⟨W1, e1⟩ : ∃ W1, W1 = w0.alloc (.cells ([.int .i64 k, .int .i64 x] : List Value).toArray 63) := ⟨_, rfl⟩
  obtain ⟨W2, e2⟩ : ∃ W2, W2 = W1.alloc (.cells ([.int .i64 0, .int .i64 0] : List Value).toArray 34) := ⟨_, rfl⟩
  obtain ⟨W3, e3⟩ : ∃ W3, W3 = W2.alloc (.cells ([.int .i64 0, .int .i64 0] : List Value).toArray 34) := ⟨_, rfl⟩
  have z1 : W1.heap.size = w0.heap.size + 1 := by rw [e1]; simp
  have z2 : W2.heap.size = w0.heap.size + 1 + 1 := by rw [e2]; simp [z1]
  have z3 : W3.heap.size = w0.heap.size + 1 + 1 + 1 := by rw [e3]; simp [z2]
  have b1 : Below w0.heap.size w0 W1 := by rw [e1]; exact bl_alloc (bl_refl w0) _
  have b2 : Below w0.heap.size w0 W2 := by rw [e2]; exact bl_alloc b1 _
  have b3 : Below w0.heap.size w0 W3 := by rw [e3]; exact bl_alloc b2 _
  have k1 : Blk W1 w0.heap.size 63 [.int .i64 k, .int .i64 x] := by rw [e1]; exact blk_new w0 _ _
  have k2 : Blk W2 (w0.heap.size + 1) 34 [.int .i64 0, .int .i64 0] := by rw [e2, ← z1]; exact blk_new W1 _ _
  have k3 : Blk W3 (w0.heap.size + 1 + 1) 34 [.int .i64 0, .int .i64 0] := by rw [e3, ← z2]; exact blk_new W2 _ _
  have k13 : Blk W3 w0.heap.size 63 [.int .i64 k, .int .i64 x] := by
    rw [e3]; refine (?_ : Blk W2 _ _ _).below (bl_alloc (bl_refl W2) _); rw [e2]; exact k1.below (bl_alloc (bl_refl W1) _)
  have k23 : Blk W3 (w0.heap.size + 1) 34 [.int .i64 0, .int .i64 0] := by rw [e3]; exact k2.below (bl_alloc (bl_refl W2) _)
  have P1 := Lib.hid k13
  have P2 := Lib.hid k23
  have P3 := Lib.hid k3
  have PB := Lib.hid b3
  have PZ := Lib.hid z3
  have PL := Lib.hid (Nat.le_of_eq z3.symm)
  obtain ⟨q, _⟩ := k13.cell 0 _ rfl
  clear k1 k2 k3 k13 k23 b1 b2 b3 z1 z2 z3
  subst e3 e2 e1
  have uT := Try.underlying34
  have iT : (Try.prog.info? 34).map (·.size) = some 2 := by kernel_rfl
  have i1 : (Try.prog.info? 2).map (·.size) = some 1 := by kernel_rfl
  unfold acV
  go_enter Try.func57, Try.ntmps57
  go_wp2_with (first
    | ((with_reducible refine wpList_store_at 2 rfl (.tmp 6) (.tmp 5) rfl i1 (w0.heap.size + 1 + 1) 0 rfl (.int .i64 k) rfl rfl _ _ P3.out ?_ ?_); (exact (by simp)); intro y0 k5 g5; have P1a := hb_grown P1 g5 (by omega); have P2a := hb_grown P2 g5 (by omega); have P3a : Hid (Blk y0 (w0.heap.size + 1 + 1) 34 [.int .i64 k, .int .i64 0]) := Lib.hid k5; have PBa := hbl_grown PB g5 (by omega); have PLa := hle_grown PL g5; clear k5 g5 P1 P2 P3 PB PL; have P1 := P1a; have P2 := P2a; have P3 := P3a; have PB := PBa; have PL := PLa; clear P1a P2a P3a PBa PLa; clear q; obtain ⟨q, _⟩ := P1.out.cell 1 _ rfl)
    | ((with_reducible refine wpList_store_at 2 rfl (.tmp 9) (.tmp 8) rfl i1 (w0.heap.size + 1 + 1) 1 rfl (.int .i64 x) rfl rfl _ _ P3.out ?_ ?_); (exact (by simp)); intro y1 k5 g5; have P1a := hb_grown P1 g5 (by omega); have P2a := hb_grown P2 g5 (by omega); have P3a : Hid (Blk y1 (w0.heap.size + 1 + 1) 34 [.int .i64 k, .int .i64 x]) := Lib.hid k5; have PBa := hbl_grown PB g5 (by omega); have PLa := hle_grown PL g5; clear k5 g5 P1 P2 P3 PB PL; have P1 := P1a; have P2 := P2a; have P3 := P3a; have PB := PBa; have PL := PLa; clear P1a P2a P3a PBa PLa)
    | (with_reducible refine wpList_load_blk 34 _ 2 rfl (.tmp 3) rfl uT rfl iT (w0.heap.size + 1 + 1) 0 rfl [.int .i64 k, .int .i64 x] rfl P3.out.range ?_)
    | (refine wpList_store_blk 34 2 rfl (.tmp 2) (.tmp 10) rfl iT (w0.heap.size + 1) rfl [.int .i64 k, .int .i64 x] rfl rfl (by simp [Value.oneCell']) _ P2.out rfl ?_; intro y9 k9 g9; have PBa := hbl_grown PB g9 (by omega); have P2a := Lib.hid k9; clear k9 g9))
  obtain ⟨z0, _⟩ := P2a.out.cell 0 _ rfl
  obtain ⟨z1, _⟩ := P2a.out.cell 1 _ rfl
  exact bodyPost_ret (v := .agg #[.int .i64 k, .int .i64 x]) (by simp [results, Try.results57, go_sem, z0, z1]) rfl (⟨rfl, PBa.out⟩)
set_option maxRecDepth 100000 in
theorem open_action {H : Type} {enc : TypeId × Value → H} {W : World} {base : Nat} {v : Value} {d : DataW H} {p : List MemPlace}
    (hv : Value.okWide Try.prog W .any base 63 v) (h : DataW.Trod enc Try.prog W 0 (fun _ => true) true 63 v d p) :
    ∃ (k x : Int), v = acV k x ∧ i64T k ∧ i64T x := by
  obtain ⟨cs, rfl, hl, hf⟩ := fields_ofT Try.underlying63 (by kernel_rfl) hv h
  rw [show Try.prog.cellsOf 63 = 2 by kernel_rfl] at hl
  match cs, hl with
  | [c0, c1], _ =>
    obtain ⟨_, _, h0⟩ := hf 0 _ rfl
    obtain ⟨_, _, h1⟩ := hf 1 _ rfl
    obtain ⟨x0, e0, _, w0⟩ := DataW.trod_int Try.underlying2 h0
    obtain ⟨x1, e1, _, w1⟩ := DataW.trod_int Try.underlying2 h1
    simp at e0 e1
    subst e0 e1
    exact ⟨x0, x1, rfl, i64T_of_wf w0, i64T_of_wf w1⟩
end Go.Proofs.Ythgfohdjpfhebaa
