/-
  AntesOf of both; what a seat pays and bets (the program's).
-/
import Derived.Test.YtnbaemgidfgdaaaAnteTab
namespace Go.Proofs.Ytnbaemgidfgdaaa
open Go.RowKit
set_option linter.unusedVariables false

set_option maxRecDepth 100000 in
set_option maxHeartbeats 2000000 in
theorem anteOf_any (A : Option Addr) (c : Nat) (xs : List Int) (b s g a l : Int) (k : Nat) (w : World) (hr : Rd w A xs) (hk : k < xs.length) (hn : xs.length ≤ 6) :
    Calls Try.prog 55 #[tV A xs.length c b s g a l, .int .i64 k] w (Fresh (.int .i64 (minT a (nth xs k))) w) := by
  obtain ⟨bA, oA, rfl, hc0⟩ := hr.at_ (bl_refl _) k hk
  have hk' : (k : Int) < xs.length := by omega
  have HC : Hid (∀ W', Below w.heap.size w W' → W'.cell? ⟨bA, oA + k, none⟩ = some (.int .i64 (nth xs k))) := Lib.hid (fun W' h => (h.cell (p := ⟨bA, oA + k, none⟩) (World.block_lt_of_cell? w _ hc0)).trans hc0)
  have hmx : Try.prog.follows .mixedOrders = true := by kernel_rfl
  have KM := Lib.hid (fun W : World => minT_any a (nth xs k) W)
  clear hc0 hr hk
  have n0 := blk_new w 26 [.slice (some ⟨bA, oA, none⟩) xs.length c, .int .i64 b, .int .i64 s, .int .i64 g, .int .i64 a, .int .i64 l]
  have N0 := Lib.hid n0
  have B := Lib.hid (bl_alloc (bl_refl w) (.cells ([.slice (some ⟨bA, oA, none⟩) xs.length c, .int .i64 b, .int .i64 s, .int .i64 g, .int .i64 a, .int .i64 l] : List Value).toArray 26))
  clear n0
  unfold tV
  generalize minT a (nth xs k) = m at *
  generalize nth xs k = x at *
  go_enter Try.func55, Try.ntmps55
  go_wp2_with fail
  refine wp_region_R (R := fun a b => Below a.heap.size a b) (I := fun W' => Below (w.alloc (.cells ([.slice (some ⟨bA, oA, none⟩) xs.length c, .int .i64 b, .int .i64 s, .int .i64 g, .int .i64 a, .int .i64 l] : List Value).toArray 26)).heap.size (w.alloc (.cells ([.slice (some ⟨bA, oA, none⟩) xs.length c, .int .i64 b, .int .i64 s, .int .i64 g, .int .i64 a, .int .i64 l] : List Value).toArray 26)) W') (last := 8) (k := 8) (fun _ => bl_refl _) hmx rfl (fun HC0 => ?_)
  refine wpAnyR_take (i := 0) (kw := 8) (v := .pointer (some ⟨w.heap.size, 4, none⟩)) (fun _ => bl_refl _) (fun p q => bl_trans p q) rfl (by kernel_rfl) (by kernel_rfl) (by kernel_rfl) (by kernel_rfl) (fun _ _ _ h => h) HC0 (Or.inl ⟨by rfl, fun W' hI => ?_⟩) (fun HC1 => ?_)
  · exact .inl (by go_simp)
  refine wpAnyR_take (i := 1) (kw := 8) (v := .int .i64 a) (fun _ => bl_refl _) (fun p q => bl_trans p q) rfl (by kernel_rfl) (by kernel_rfl) (by kernel_rfl) (by kernel_rfl) (fun _ _ _ h => h) HC1 (Or.inl ⟨by rfl, fun W' hI => ?_⟩) (fun HC2 => ?_)
  · have hv := N0.out.below hI
    obtain ⟨q4, _⟩ := hv.cell 4 _ rfl
    exact .inl (by go_simp)
  refine wpAnyR_take (i := 2) (kw := 8) (v := .pointer (some ⟨w.heap.size, 0, none⟩)) (fun _ => bl_refl _) (fun p q => bl_trans p q) rfl (by kernel_rfl) (by kernel_rfl) (by kernel_rfl) (by kernel_rfl) (fun _ _ _ h => h) HC2 (Or.inl ⟨by rfl, fun W' hI => ?_⟩) (fun HC3 => ?_)
  · exact .inl (by go_simp)
  refine wpAnyR_take (i := 3) (kw := 8) (v := .slice (some ⟨bA, oA, none⟩) xs.length c) (fun _ => bl_refl _) (fun p q => bl_trans p q) rfl (by kernel_rfl) (by kernel_rfl) (by kernel_rfl) (by kernel_rfl) (fun _ _ _ h => h) HC3 (Or.inl ⟨by rfl, fun W' hI => ?_⟩) (fun HC4 => ?_)
  · have hv := N0.out.below hI
    obtain ⟨q0, _⟩ := hv.cell 0 _ rfl
    exact .inl (by go_simp)
  refine wpAnyR_take (i := 4) (kw := 8) (v := .int .i64 k) (fun _ => bl_refl _) (fun p q => bl_trans p q) rfl (by kernel_rfl) (by kernel_rfl) (by kernel_rfl) (by kernel_rfl) (fun _ _ _ h => h) HC4 (Or.inl ⟨by rfl, fun W' hI => ?_⟩) (fun HC5 => ?_)
  · exact .inl (by go_simp)
  refine wpAnyR_take (i := 5) (kw := 8) (v := .pointer (some ⟨bA, oA + k, none⟩)) (fun _ => bl_refl _) (fun p q => bl_trans p q) rfl (by kernel_rfl) (by kernel_rfl) (by kernel_rfl) (by kernel_rfl) (fun _ _ _ h => h) HC5 (Or.inl ⟨by rfl, fun W' hI => ?_⟩) (fun HC6 => ?_)
  · exact .inl (by go_simp)
  refine wpAnyR_take (i := 6) (kw := 8) (v := .int .i64 x) (fun _ => bl_refl _) (fun p q => bl_trans p q) rfl (by kernel_rfl) (by kernel_rfl) (by kernel_rfl) (by kernel_rfl) (fun _ _ _ h => h) HC6 (Or.inl ⟨by rfl, fun W' hI => ?_⟩) (fun HC7 => ?_)
  · have hx := HC.out W' (bl_trans B.out hI)
    exact .inl (by go_simp)
  refine wpAnyR_take (i := 7) (kw := 8) (v := .int .i64 m) (fun _ => bl_refl _) (fun p q => bl_trans p q) rfl (by kernel_rfl) (by kernel_rfl) (by kernel_rfl) (by kernel_rfl) (fun _ _ _ h => h) HC7 (Or.inl ⟨by rfl, fun W' hI => ?_⟩) (fun HC8 => ?_)
  · exact .inr ⟨80, #[.int .i64 a, .int .i64 x], by go_simp, (KM.out W').mono fun e w' h => ⟨h.1, by rw [← h.2]; exact bl_refl _⟩⟩
  refine wpAnyR_last (by kernel_rfl) (by kernel_rfl) rfl (by rfl) (fun w9 hr9 => ⟨bl_drewT hr9, fun K hK => ?_⟩)
  have B9 := Lib.hid (bl_trans B.out (bl_drewT hr9))
  go_simp
  refine hK _ _ ?_
  clear hK K
  go_wp2_with fail
  go_ret
  exact ⟨rfl, B9.out⟩
set_option maxRecDepth 100000 in
set_option maxHeartbeats 2000000 in
theorem blindOf_any (A : Option Addr) (c : Nat) (xs : List Int) (b s g a l : Int) (k : Nat) (v : Int) (w : World) (hr : Rd w A xs) (hk : k < xs.length) (hn : xs.length ≤ 6) (hx1 : 0 ≤ nth xs k ∧ nth xs k ≤ 100000) (ha : 0 ≤ a ∧ a ≤ 100000) :
    Calls Try.prog 51 #[tV A xs.length c b s g a l, .int .i64 k, .int .i64 v] w (Fresh (.int .i64 (blindV xs a v k)) w) := by
  have e : blindV xs a v k = minT v (nth xs k - minT a (nth xs k)) := by unfold blindV; rw [Int.toNat_natCast]
  rw [e]
  clear e
  have KA := Lib.hid (fun (W : World) (h : Below w.heap.size w W) => anteOf_any A c xs b s g a l k W (hr.below h) hk hn)
  obtain ⟨bA, oA, rfl, hc0⟩ := hr.at_ (bl_refl _) k hk
  have hk' : (k : Int) < xs.length := by omega
  have HC : Hid (∀ W', Below w.heap.size w W' → W'.cell? ⟨bA, oA + k, none⟩ = some (.int .i64 (nth xs k))) := Lib.hid (fun W' h => (h.cell (p := ⟨bA, oA + k, none⟩) (World.block_lt_of_cell? w _ hc0)).trans hc0)
  have hmx : Try.prog.follows .mixedOrders = true := by kernel_rfl
  have hm := minT_le a (nth xs k)
  have KM := Lib.hid (fun W : World => minT_any v (nth xs k - minT a (nth xs k)) W)
  clear hc0 hr hk
  have n0 := blk_new w 26 [.slice (some ⟨bA, oA, none⟩) xs.length c, .int .i64 b, .int .i64 s, .int .i64 g, .int .i64 a, .int .i64 l]
  have N0 := Lib.hid n0
  have B := Lib.hid (bl_alloc (bl_refl w) (.cells ([.slice (some ⟨bA, oA, none⟩) xs.length c, .int .i64 b, .int .i64 s, .int .i64 g, .int .i64 a, .int .i64 l] : List Value).toArray 26))
  clear n0
  unfold tV at *
  generalize nth xs k = x at *
  generalize minT a x = y at *
  generalize minT v (x - y) = m at *
  have hy : 0 ≤ y ∧ y ≤ x := by omega
  clear hm
  go_enter Try.func51, Try.ntmps51
  go_wp2_with fail
  refine wp_region_R (R := fun a b => Below a.heap.size a b) (I := fun W' => Below (w.alloc (.cells ([.slice (some ⟨bA, oA, none⟩) xs.length c, .int .i64 b, .int .i64 s, .int .i64 g, .int .i64 a, .int .i64 l] : List Value).toArray 26)).heap.size (w.alloc (.cells ([.slice (some ⟨bA, oA, none⟩) xs.length c, .int .i64 b, .int .i64 s, .int .i64 g, .int .i64 a, .int .i64 l] : List Value).toArray 26)) W') (last := 11) (k := 11) (fun _ => bl_refl _) hmx rfl (fun HC0 => ?_)
  refine wpAnyR_take (i := 0) (kw := 11) (v := .int .i64 v) (fun _ => bl_refl _) (fun p q => bl_trans p q) rfl (by kernel_rfl) (by kernel_rfl) (by kernel_rfl) (by kernel_rfl) (fun _ _ _ h => h) HC0 (Or.inl ⟨by rfl, fun W' hI => ?_⟩) (fun HC1 => ?_)
  · exact .inl (by go_simp)
  refine wpAnyR_take (i := 1) (kw := 11) (v := .pointer (some ⟨w.heap.size, 0, none⟩)) (fun _ => bl_refl _) (fun p q => bl_trans p q) rfl (by kernel_rfl) (by kernel_rfl) (by kernel_rfl) (by kernel_rfl) (fun _ _ _ h => h) HC1 (Or.inl ⟨by rfl, fun W' hI => ?_⟩) (fun HC2 => ?_)
  · exact .inl (by go_simp)
  refine wpAnyR_take (i := 2) (kw := 11) (v := .slice (some ⟨bA, oA, none⟩) xs.length c) (fun _ => bl_refl _) (fun p q => bl_trans p q) rfl (by kernel_rfl) (by kernel_rfl) (by kernel_rfl) (by kernel_rfl) (fun _ _ _ h => h) HC2 (Or.inl ⟨by rfl, fun W' hI => ?_⟩) (fun HC3 => ?_)
  · have hv := N0.out.below hI
    obtain ⟨q0, _⟩ := hv.cell 0 _ rfl
    exact .inl (by go_simp)
  refine wpAnyR_take (i := 3) (kw := 11) (v := .int .i64 k) (fun _ => bl_refl _) (fun p q => bl_trans p q) rfl (by kernel_rfl) (by kernel_rfl) (by kernel_rfl) (by kernel_rfl) (fun _ _ _ h => h) HC3 (Or.inl ⟨by rfl, fun W' hI => ?_⟩) (fun HC4 => ?_)
  · exact .inl (by go_simp)
  refine wpAnyR_take (i := 4) (kw := 11) (v := .pointer (some ⟨bA, oA + k, none⟩)) (fun _ => bl_refl _) (fun p q => bl_trans p q) rfl (by kernel_rfl) (by kernel_rfl) (by kernel_rfl) (by kernel_rfl) (fun _ _ _ h => h) HC4 (Or.inl ⟨by rfl, fun W' hI => ?_⟩) (fun HC5 => ?_)
  · exact .inl (by go_simp)
  refine wpAnyR_take (i := 5) (kw := 11) (v := .int .i64 x) (fun _ => bl_refl _) (fun p q => bl_trans p q) rfl (by kernel_rfl) (by kernel_rfl) (by kernel_rfl) (by kernel_rfl) (fun _ _ _ h => h) HC5 (Or.inl ⟨by rfl, fun W' hI => ?_⟩) (fun HC6 => ?_)
  · have hx := HC.out W' (bl_trans B.out hI)
    exact .inl (by go_simp)
  refine wpAnyR_take (i := 6) (kw := 11) (v := .agg #[.slice (some ⟨bA, oA, none⟩) xs.length c, .int .i64 b, .int .i64 s, .int .i64 g, .int .i64 a, .int .i64 l]) (fun _ => bl_refl _) (fun p q => bl_trans p q) rfl (by kernel_rfl) (by kernel_rfl) (by kernel_rfl) (by kernel_rfl) (fun _ _ _ h => h) HC6 (Or.inl ⟨by rfl, fun W' hI => ?_⟩) (fun HC7 => ?_)
  · have hv := N0.out.below hI
    obtain ⟨q0, _⟩ := hv.cell 0 _ rfl; obtain ⟨q1, _⟩ := hv.cell 1 _ rfl; obtain ⟨q2, _⟩ := hv.cell 2 _ rfl; obtain ⟨q3, _⟩ := hv.cell 3 _ rfl; obtain ⟨q4, _⟩ := hv.cell 4 _ rfl; obtain ⟨q5, _⟩ := hv.cell 5 _ rfl
    exact .inl (by go_simp)
  refine wpAnyR_take (i := 7) (kw := 11) (v := .int .i64 k) (fun _ => bl_refl _) (fun p q => bl_trans p q) rfl (by kernel_rfl) (by kernel_rfl) (by kernel_rfl) (by kernel_rfl) (fun _ _ _ h => h) HC7 (Or.inl ⟨by rfl, fun W' hI => ?_⟩) (fun HC8 => ?_)
  · exact .inl (by go_simp)
  refine wpAnyR_take (i := 8) (kw := 11) (v := .int .i64 y) (fun _ => bl_refl _) (fun p q => bl_trans p q) rfl (by kernel_rfl) (by kernel_rfl) (by kernel_rfl) (by kernel_rfl) (fun _ _ _ h => h) HC8 (Or.inl ⟨by rfl, fun W' hI => ?_⟩) (fun HC9 => ?_)
  · exact .inr ⟨55, #[.agg #[.slice (some ⟨bA, oA, none⟩) xs.length c, .int .i64 b, .int .i64 s, .int .i64 g, .int .i64 a, .int .i64 l], .int .i64 k], by go_simp, (KA.out W' (bl_trans B.out hI)).mono fun e w' h => h⟩
  refine wpAnyR_take (i := 9) (kw := 11) (v := .int .i64 (x - y)) (fun _ => bl_refl _) (fun p q => bl_trans p q) rfl (by kernel_rfl) (by kernel_rfl) (by kernel_rfl) (by kernel_rfl) (fun _ _ _ h => h) HC9 (Or.inl ⟨by rfl, fun W' hI => ?_⟩) (fun HC10 => ?_)
  · exact .inl (by go_simp; exact IntWalk.i64_in _ (by omega))
  refine wpAnyR_take (i := 10) (kw := 11) (v := .int .i64 m) (fun _ => bl_refl _) (fun p q => bl_trans p q) rfl (by kernel_rfl) (by kernel_rfl) (by kernel_rfl) (by kernel_rfl) (fun _ _ _ h => h) HC10 (Or.inl ⟨by rfl, fun W' hI => ?_⟩) (fun HC11 => ?_)
  · exact .inr ⟨80, #[.int .i64 v, .int .i64 (x - y)], by go_simp, (KM.out W').mono fun e w' h => ⟨h.1, by rw [← h.2]; exact bl_refl _⟩⟩
  refine wpAnyR_last (by kernel_rfl) (by kernel_rfl) rfl (by rfl) (fun w9 hr9 => ⟨bl_drewT hr9, fun K hK => ?_⟩)
  have B9 := Lib.hid (bl_trans B.out (bl_drewT hr9))
  go_simp
  refine hK _ _ ?_
  clear hK K
  go_wp2_with fail
  go_ret
  exact ⟨rfl, B9.out⟩
theorem ant_no {xs : List Int} {b s g a l : Int} (h : tabB xs b s g a l = false) : antR xs b s g a l = [] := by unfold antR; rw [h]; rfl
theorem ant_yes {xs : List Int} {b s g a l : Int} (h : tabB xs b s g a l = true) : antR xs b s g a l = anteL xs a := if_pos h
set_option maxRecDepth 100000 in
set_option maxHeartbeats 1000000 in
theorem specAntesOf_any (A : Option Addr) (c : Nat) (xs : List Int) (b s g a l : Int) (w : World) (hr : Rd w A xs) (hn : xs.length ≤ 4000000) :
    Calls Try.prog 19 #[tV A xs.length c b s g a l] w (NewRC (antR xs b s g a l) (tabC xs b s g a l) w) := by
  have KV := Lib.hid (fun (W : World) (h : Below w.heap.size w W) => specIsTable_any A c xs b s g a l W (hr.below h) hn)
  have n0 := blk_new w 26 [.slice A xs.length c, .int .i64 b, .int .i64 s, .int .i64 g, .int .i64 a, .int .i64 l]
  have N0 := Lib.hid n0
  have B := Lib.hid (bl_alloc (bl_refl w) (.cells ([.slice A xs.length c, .int .i64 b, .int .i64 s, .int .i64 g, .int .i64 a, .int .i64 l] : List Value).toArray 26))
  clear n0
  rcases hv : tabB xs b s g a l with _ | _
  · rw [ant_no hv, tabC_no hv]
    rw [hv] at KV
    clear hv
    unfold tV at *
    go_enter Try.func19, Try.ntmps19
    go_wp2_with (first
    | (go_at_call 39; refine (KV.out _ B.out).mono ?_; rintro e wn ⟨rfl, hb⟩; have N0a := Lib.hid (N0.out.below hb); clear N0; have N0 := N0a; clear N0a; have Ba := Lib.hid (bl_trans B.out hb); clear B hb; have B := Ba; clear Ba; obtain ⟨q0_0, _⟩ := N0.out.cell 0 _ rfl; obtain ⟨q0_1, _⟩ := N0.out.cell 1 _ rfl; obtain ⟨q0_2, _⟩ := N0.out.cell 2 _ rfl; obtain ⟨q0_3, _⟩ := N0.out.cell 3 _ rfl; obtain ⟨q0_4, _⟩ := N0.out.cell 4 _ rfl; obtain ⟨q0_5, _⟩ := N0.out.cell 5 _ rfl))
    go_ret2
    exact ⟨none, 0, rfl, Row.nil _ _, B.out⟩
  · rw [ant_yes hv, tabC_yes hv]
    have tt := tab_iff.1 hv
    have hn6 : xs.length ≤ 6 := tt.2.1
    have KF := Lib.hid (fun (W : World) (h : Below w.heap.size w W) => specAntes_any A c xs b s g a l W (hr.below h) hn6)
    rw [hv] at KV
    clear hv tt
    unfold tV at *
    go_enter Try.func19, Try.ntmps19
    go_wp2_with (first
    | (go_at_call 39; refine (KV.out _ B.out).mono ?_; rintro e wn ⟨rfl, hb⟩; have N0a := Lib.hid (N0.out.below hb); clear N0; have N0 := N0a; clear N0a; have Ba := Lib.hid (bl_trans B.out hb); clear B hb; have B := Ba; clear Ba; obtain ⟨q0_0, _⟩ := N0.out.cell 0 _ rfl; obtain ⟨q0_1, _⟩ := N0.out.cell 1 _ rfl; obtain ⟨q0_2, _⟩ := N0.out.cell 2 _ rfl; obtain ⟨q0_3, _⟩ := N0.out.cell 3 _ rfl; obtain ⟨q0_4, _⟩ := N0.out.cell 4 _ rfl; obtain ⟨q0_5, _⟩ := N0.out.cell 5 _ rfl)
    | (go_at_call 56; refine (KF.out _ B.out).mono ?_; rintro e wz ⟨A1, c1, rfl, ho, hb⟩; have HO := Lib.hid ho; have BZ := Lib.hid (bl_trans B.out hb); have HZ := Lib.hid B.out.size; clear ho hb))
    go_ret2
    exact ⟨_, _, rfl, Row.of_own (HO.out.less HZ.out), BZ.out⟩
theorem copied_next {w wr w' : World} {xs : List Int} {k : Nat} (h : Copied w xs k wr) (hb : Below wr.heap.size wr w') : Copied w xs k w' :=
  ⟨World.ownsRow.kept h.1 (row := none) ⟨hb.os, hb.tape, hb.output, hb.size, fun j hj _ => hb.block j hj⟩ (.inr (by simp [Value.ownBlock])), bl_trans h.2 hb⟩
set_option maxRecDepth 100000 in
set_option maxHeartbeats 2000000 in
theorem implAntesOf_any (A : Option Addr) (c : Nat) (xs : List Int) (b s g a l : Int) (w : World) (hr : Rd w A xs) (hn : xs.length ≤ 4000000) :
    Calls Try.prog 18 #[tV A xs.length c b s g a l] w (NewRC (antR xs b s g a l) (tabC xs b s g a l) w) := by
  have KN := Lib.hid (fun (W : World) => seatCount_any A xs.length c b s g a l W)
  have KV := Lib.hid (fun (W : World) (h : Below w.heap.size w W) => implIsTable_any A c xs b s g a l W (hr.below h) hn)
  have n0 := blk_new w 26 [.slice A xs.length c, .int .i64 b, .int .i64 s, .int .i64 g, .int .i64 a, .int .i64 l]
  have N0 := Lib.hid n0
  have B := Lib.hid (bl_alloc (bl_refl w) (.cells ([.slice A xs.length c, .int .i64 b, .int .i64 s, .int .i64 g, .int .i64 a, .int .i64 l] : List Value).toArray 26))
  clear n0
  rcases hv : tabB xs b s g a l with _ | _
  · rw [ant_no hv, tabC_no hv]
    rw [hv] at KV
    clear hv
    unfold tV at *
    go_enter Try.func18, Try.ntmps18
    go_wp2_with (first
    | (go_at_call 23; refine (KV.out _ B.out).mono ?_; rintro e wn ⟨rfl, hb⟩; have N0a := Lib.hid (N0.out.below hb); clear N0; have N0 := N0a; clear N0a; have Ba := Lib.hid (bl_trans B.out hb); clear B hb; have B := Ba; clear Ba; obtain ⟨q0_0, _⟩ := N0.out.cell 0 _ rfl; obtain ⟨q0_1, _⟩ := N0.out.cell 1 _ rfl; obtain ⟨q0_2, _⟩ := N0.out.cell 2 _ rfl; obtain ⟨q0_3, _⟩ := N0.out.cell 3 _ rfl; obtain ⟨q0_4, _⟩ := N0.out.cell 4 _ rfl; obtain ⟨q0_5, _⟩ := N0.out.cell 5 _ rfl))
    go_ret2
    exact ⟨none, 0, rfl, Row.nil _ _, B.out⟩
  · rw [ant_yes hv, tabC_yes hv]
    have tt := tab_iff.1 hv
    have hn6 : xs.length ≤ 6 := tt.2.1
    have KA := Lib.hid (fun (k : Nat) (hk : k < xs.length) (W : World) (h : Below w.heap.size w W) => anteOf_any A c xs b s g a l k W (hr.below h) hk hn6)
    have HNT := Lib.hid (fun k (hk : k < xs.length) => anteL_nth xs a k hk)
    obtain ⟨us, ea⟩ : ∃ us, us = anteL xs a := ⟨_, rfl⟩
    have hal : us.length = xs.length := by rw [ea]; exact anteL_len xs a
    rw [← ea] at HNT ⊢
    obtain ⟨i0, hi, hz0, hz1, hz2⟩ := info_parts infoInt
    have hal6 : us.length ≤ 6 := by omega
    rw [hv] at KV
    rw [show NewRC us 0 w = NewRC us 0 w from rfl]
    clear hv tt ea
    have HL := Lib.hid hal
    unfold tV at *
    rw [← hal] at KV KN N0 B KA HNT
    rw [← hal]
    clear hal
    go_enter Try.func18, Try.ntmps18
    go_wp2_with (first
    | (go_at_call 23; refine (KV.out _ B.out).mono ?_; rintro e wn ⟨rfl, hb⟩; have N0a := Lib.hid (N0.out.below hb); clear N0; have N0 := N0a; clear N0a; have Ba := Lib.hid (bl_trans B.out hb); clear B hb; have B := Ba; clear Ba; obtain ⟨q0_0, _⟩ := N0.out.cell 0 _ rfl; obtain ⟨q0_1, _⟩ := N0.out.cell 1 _ rfl; obtain ⟨q0_2, _⟩ := N0.out.cell 2 _ rfl; obtain ⟨q0_3, _⟩ := N0.out.cell 3 _ rfl; obtain ⟨q0_4, _⟩ := N0.out.cell 4 _ rfl; obtain ⟨q0_5, _⟩ := N0.out.cell 5 _ rfl)
    | (go_at_call 50; refine (KN.out _).mono ?_; rintro e wn ⟨rfl, hb⟩; have N0a := Lib.hid (N0.out.below hb); clear N0; have N0 := N0a; clear N0a; have Ba := Lib.hid (bl_trans B.out hb); clear B hb; have B := Ba; clear Ba; obtain ⟨q0_0, _⟩ := N0.out.cell 0 _ rfl; obtain ⟨q0_1, _⟩ := N0.out.cell 1 _ rfl; obtain ⟨q0_2, _⟩ := N0.out.cell 2 _ rfl; obtain ⟨q0_3, _⟩ := N0.out.cell 3 _ rfl; obtain ⟨q0_4, _⟩ := N0.out.cell 4 _ rfl; obtain ⟨q0_5, _⟩ := N0.out.cell 5 _ rfl)
    | (at_make; refine wpList_make_full _ rfl _ _ 24 rfl _ 2 i0 (.int .i64 0) 1 Try.underlying24 hi hz0 hz1 .i64 .i64 _ _ us.length rfl rfl rfl rfl ?c1 ?c2 (Nat.le_refl _) ?_))
    case c1 => rw [hz2]; omega
    case c2 => unfold maxLen; omega
    intro w1 hown hgrow
    have HS : Hid (Copied wn us 0 w1) := Lib.hid ⟨by
      have e : (madeCells #[Value.int .i64 0] us.length).toList = ints (mix us 0) := by
        rw [mix_zero, ← ints_zeros]; exact toList_madeCells_one _ _
      rwa [e] at hown, (bl_refl _).grown hgrow (Nat.le_refl _) (fun j hj => by cases hj)⟩
    have NW := N0
    have BW := B
    have hb := HS.out.2
    have N0a := Lib.hid (N0.out.below hb)
    have Ba := Lib.hid (bl_trans B.out hb)
    have HZ := Lib.hid B.out.size
    obtain ⟨w4, ew⟩ : ∃ w4, w4 = wn := ⟨_, rfl⟩
    rw [← ew] at HS NW BW HZ ⊢
    clear q0_0 q0_1 q0_2 q0_3 q0_4 q0_5 hown hgrow N0 B hb ew
    have N0 := N0a
    have B := Ba
    clear N0a Ba
    obtain ⟨q0_0, _⟩ := N0.out.cell 0 _ rfl; obtain ⟨q0_1, _⟩ := N0.out.cell 1 _ rfl; obtain ⟨q0_2, _⟩ := N0.out.cell 2 _ rfl; obtain ⟨q0_3, _⟩ := N0.out.cell 3 _ rfl; obtain ⟨q0_4, _⟩ := N0.out.cell 4 _ rfl; obtain ⟨q0_5, _⟩ := N0.out.cell 5 _ rfl
    go_wp2_with (go_at_call 50; refine (KN.out _).mono ?_; rintro e w5 ⟨rfl, hb⟩; have X := Lib.hid hb; have N0a := Lib.hid (N0.out.below hb); clear N0; have N0 := N0a; clear N0a; have Ba := Lib.hid (bl_trans B.out hb); clear B hb; have B := Ba; clear Ba; obtain ⟨q0_0, _⟩ := N0.out.cell 0 _ rfl; obtain ⟨q0_1, _⟩ := N0.out.cell 1 _ rfl; obtain ⟨q0_2, _⟩ := N0.out.cell 2 _ rfl; obtain ⟨q0_3, _⟩ := N0.out.cell 3 _ rfl; obtain ⟨q0_4, _⟩ := N0.out.cell 4 _ rfl; obtain ⟨q0_5, _⟩ := N0.out.cell 5 _ rfl; have HS2 := Lib.hid (copied_next HS.out X.out))
    go_loopw [14] (fun i wr => ∃ k : Nat, k ≤ us.length ∧ i = .int .i64 k ∧ Hid (Copied w4 us k wr)) (fun i _ => us.length - (intOf i).toNat)
    case atStart => exact ⟨0, Nat.zero_le _, rfl, HS2⟩
    case round =>
      clear q0_0 q0_1 q0_2 q0_3 q0_4 q0_5 N0 B HS
      obtain ⟨k, hk, rfl, hs⟩ := hrel
      by_cases hlt : k < us.length
      · have hlt' : (k : Int) < us.length := by omega
        have KAk := Lib.hid (KA.out k hlt wr (bl_trans BW.out hs.out.2))
        rw [← HNT.out k hlt] at KAk
        have N0 := Lib.hid (NW.out.below hs.out.2)
        obtain ⟨q0, _⟩ := N0.out.cell 0 _ rfl; obtain ⟨q1, _⟩ := N0.out.cell 1 _ rfl; obtain ⟨q2, _⟩ := N0.out.cell 2 _ rfl; obtain ⟨q3, _⟩ := N0.out.cell 3 _ rfl; obtain ⟨q4, _⟩ := N0.out.cell 4 _ rfl; obtain ⟨q5, _⟩ := N0.out.cell 5 _ rfl
        go_wp2_with (go_at_call 55; refine (KAk.out).mono ?_; rintro e w6 ⟨rfl, hb⟩; have HS6 := Lib.hid (copied_next hs.out hb); obtain ⟨hg, hf⟩ := copied_cell HS6.out hlt; clear hb)
        have HP := Lib.hid (copied_step HS6.out hlt 0)
        go_roundw
        case rel => exact ⟨k + 1, by omega, by go_num, HP⟩
        case measure => simp [intOf]; omega
      · obtain rfl : k = us.length := by omega
        go_wp2_with fail
        go_ret2
        have h := hs.out
        unfold Copied at h
        rw [mix_all] at h
        have ho : Own wr w4.heap.size (.slice (some ⟨w4.heap.size, 0, none⟩) us.length us.length) us := h.1
        exact ⟨_, _, rfl, Row.of_own (ho.less HZ.out), bl_trans BW.out h.2⟩
end Go.Proofs.Ytnbaemgidfgdaaa
