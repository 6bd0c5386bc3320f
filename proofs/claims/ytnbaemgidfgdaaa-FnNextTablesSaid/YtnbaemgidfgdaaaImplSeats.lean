/-
  The program's blinds and first seats.
-/
import Derived.Test.YtnbaemgidfgdaaaImplTab
import Derived.Test.YtnbaemgidfgdaaaStoreB
import Derived.Test.YtnbaemgidfgdaaaAnyR
namespace Go.Proofs.Ytnbaemgidfgdaaa
open Go.RowKit
set_option linter.unusedVariables false

set_option maxRecDepth 100000 in
set_option maxHeartbeats 1000000 in
theorem leftOfM_any (A : Option Addr) (c : Nat) (xs : List Int) (b s g a l : Int) (t : Int) (w : World) (h2 : 2 ≤ xs.length) (h6 : xs.length ≤ 6) (h0 : 0 ≤ t) (h1 : t < xs.length) :
    Calls Try.prog 69 #[tV A xs.length c b s g a l, .int .i64 t] w (Fresh (.int .i64 (leftI t xs.length)) w) := by
  have KN := Lib.hid (fun (W : World) => seatCount_any A xs.length c b s g a l W)
  have KL := Lib.hid (fun W : World => leftOf_any t xs.length W h0 (by omega) (by omega) (by omega))
  have n0 := blk_new w 26 [.slice A xs.length c, .int .i64 b, .int .i64 s, .int .i64 g, .int .i64 a, .int .i64 l]
  have N0 := Lib.hid n0
  have B := Lib.hid (bl_alloc (bl_refl w) (.cells ([.slice A xs.length c, .int .i64 b, .int .i64 s, .int .i64 g, .int .i64 a, .int .i64 l] : List Value).toArray 26))
  clear n0
  unfold tV at *
  generalize leftI t xs.length = r at *
  go_enter Try.func69, Try.ntmps69
  go_wp2_with (first
    | (go_at_call 50; refine (KN.out _).mono ?_; rintro e wn ⟨rfl, hb⟩; have N0a := Lib.hid (N0.out.below hb); clear N0; have N0 := N0a; clear N0a; have Ba := Lib.hid (bl_trans B.out hb); clear B hb; have B := Ba; clear Ba; obtain ⟨q0_0, _⟩ := N0.out.cell 0 _ rfl; obtain ⟨q0_1, _⟩ := N0.out.cell 1 _ rfl; obtain ⟨q0_2, _⟩ := N0.out.cell 2 _ rfl; obtain ⟨q0_3, _⟩ := N0.out.cell 3 _ rfl; obtain ⟨q0_4, _⟩ := N0.out.cell 4 _ rfl; obtain ⟨q0_5, _⟩ := N0.out.cell 5 _ rfl)
    | (go_at_call 83; refine (KL.out _).mono ?_; rintro e wn ⟨rfl, rfl⟩))
  go_ret
  exact ⟨rfl, B.out⟩
set_option maxRecDepth 100000 in
set_option maxHeartbeats 1000000 in
theorem smallBlind_any (A : Option Addr) (c : Nat) (xs : List Int) (b s g a l : Int) (w : World) (h2 : 2 ≤ xs.length) (h6 : xs.length ≤ 6) (h0 : 0 ≤ b) (hb : b < xs.length) :
    Calls Try.prog 52 #[tV A xs.length c b s g a l] w (Fresh (.int .i64 (smallI xs.length b)) w) := by
  have KN := Lib.hid (fun (W : World) => seatCount_any A xs.length c b s g a l W)
  have KL := Lib.hid (fun W : World => leftOfM_any A c xs b s g a l b W h2 h6 h0 hb)
  have n0 := blk_new w 26 [.slice A xs.length c, .int .i64 b, .int .i64 s, .int .i64 g, .int .i64 a, .int .i64 l]
  have N0 := Lib.hid n0
  have B := Lib.hid (bl_alloc (bl_refl w) (.cells ([.slice A xs.length c, .int .i64 b, .int .i64 s, .int .i64 g, .int .i64 a, .int .i64 l] : List Value).toArray 26))
  clear n0
  unfold tV at *
  by_cases hq : (xs.length : Int) = 2
  · have e1 : smallI xs.length b = b := if_pos hq
    rw [e1]
    have hd : ((xs.length : Int) == 2) = true := by rw [hq]; rfl
    clear e1 hq KL
    go_enter Try.func52, Try.ntmps52
    go_wp2_with (first
    | (go_at_call 50; refine (KN.out _).mono ?_; rintro e wn ⟨rfl, hb⟩; have N0a := Lib.hid (N0.out.below hb); clear N0; have N0 := N0a; clear N0a; have Ba := Lib.hid (bl_trans B.out hb); clear B hb; have B := Ba; clear Ba; obtain ⟨q0_0, _⟩ := N0.out.cell 0 _ rfl; obtain ⟨q0_1, _⟩ := N0.out.cell 1 _ rfl; obtain ⟨q0_2, _⟩ := N0.out.cell 2 _ rfl; obtain ⟨q0_3, _⟩ := N0.out.cell 3 _ rfl; obtain ⟨q0_4, _⟩ := N0.out.cell 4 _ rfl; obtain ⟨q0_5, _⟩ := N0.out.cell 5 _ rfl))
    go_ret
    exact ⟨rfl, B.out⟩
  · have e1 : smallI xs.length b = leftI b xs.length := if_neg hq
    rw [e1]
    generalize leftI b xs.length = z at *
    have hd : ((xs.length : Int) == 2) = false := by simpa using hq
    clear e1 hq
    go_enter Try.func52, Try.ntmps52
    go_wp2_with (first
    | (go_at_call 50; refine (KN.out _).mono ?_; rintro e wn ⟨rfl, hb⟩; have N0a := Lib.hid (N0.out.below hb); clear N0; have N0 := N0a; clear N0a; have Ba := Lib.hid (bl_trans B.out hb); clear B hb; have B := Ba; clear Ba; obtain ⟨q0_0, _⟩ := N0.out.cell 0 _ rfl; obtain ⟨q0_1, _⟩ := N0.out.cell 1 _ rfl; obtain ⟨q0_2, _⟩ := N0.out.cell 2 _ rfl; obtain ⟨q0_3, _⟩ := N0.out.cell 3 _ rfl; obtain ⟨q0_4, _⟩ := N0.out.cell 4 _ rfl; obtain ⟨q0_5, _⟩ := N0.out.cell 5 _ rfl)
    | (go_at_call 69; refine (KL.out _).mono ?_; rintro e wn ⟨rfl, hb⟩; have N0a := Lib.hid (N0.out.below hb); clear N0; have N0 := N0a; clear N0a; have Ba := Lib.hid (bl_trans B.out hb); clear B hb; have B := Ba; clear Ba; obtain ⟨q0_0, _⟩ := N0.out.cell 0 _ rfl; obtain ⟨q0_1, _⟩ := N0.out.cell 1 _ rfl; obtain ⟨q0_2, _⟩ := N0.out.cell 2 _ rfl; obtain ⟨q0_3, _⟩ := N0.out.cell 3 _ rfl; obtain ⟨q0_4, _⟩ := N0.out.cell 4 _ rfl; obtain ⟨q0_5, _⟩ := N0.out.cell 5 _ rfl))
    go_ret
    exact ⟨rfl, B.out⟩
set_option maxRecDepth 100000 in
set_option maxHeartbeats 2000000 in
theorem bigBlind_any (A : Option Addr) (c : Nat) (xs : List Int) (b s g a l : Int) (w : World) (h2 : 2 ≤ xs.length) (h6 : xs.length ≤ 6) (h0 : 0 ≤ b) (hb : b < xs.length) :
    Calls Try.prog 53 #[tV A xs.length c b s g a l] w (Fresh (.int .i64 (bigI xs.length b)) w) := by
  have hs := small_bd xs.length b (by omega) h0 hb
  have KS := Lib.hid (fun W : World => smallBlind_any A c xs b s g a l W h2 h6 h0 hb)
  have KL := Lib.hid (fun W : World => leftOfM_any A c xs b s g a l (smallI xs.length b) W h2 h6 hs.1 hs.2)
  have e2 : leftI (smallI xs.length b) xs.length = bigI xs.length b := rfl
  rw [e2] at KL
  have hmx : Try.prog.follows .mixedOrders = true := by kernel_rfl
  clear hs e2
  have n0 := blk_new w 26 [.slice A xs.length c, .int .i64 b, .int .i64 s, .int .i64 g, .int .i64 a, .int .i64 l]
  have N0 := Lib.hid n0
  have B := Lib.hid (bl_alloc (bl_refl w) (.cells ([.slice A xs.length c, .int .i64 b, .int .i64 s, .int .i64 g, .int .i64 a, .int .i64 l] : List Value).toArray 26))
  clear n0
  unfold tV at *
  generalize bigI xs.length b = y at *
  generalize smallI xs.length b = z at *
  go_enter Try.func53, Try.ntmps53
  go_wp2_with fail
  refine wp_region_R (R := fun a b => Below a.heap.size a b) (I := fun W' => Below (w.alloc (.cells ([.slice A xs.length c, .int .i64 b, .int .i64 s, .int .i64 g, .int .i64 a, .int .i64 l] : List Value).toArray 26)).heap.size (w.alloc (.cells ([.slice A xs.length c, .int .i64 b, .int .i64 s, .int .i64 g, .int .i64 a, .int .i64 l] : List Value).toArray 26)) W') (last := 4) (k := 4) (fun _ => bl_refl _) hmx rfl (fun HC0 => ?_)
  refine wpAnyR_take (i := 0) (kw := 4) (v := .agg #[.slice A xs.length c, .int .i64 b, .int .i64 s, .int .i64 g, .int .i64 a, .int .i64 l]) (fun _ => bl_refl _) (fun p q => bl_trans p q) rfl (by kernel_rfl) (by kernel_rfl) (by kernel_rfl) (by kernel_rfl) (fun _ _ _ h => h) HC0 (Or.inl ⟨by rfl, fun W' hI => ?_⟩) (fun HC1 => ?_)
  · have hv := N0.out.below hI
    obtain ⟨q0, _⟩ := hv.cell 0 _ rfl; obtain ⟨q1, _⟩ := hv.cell 1 _ rfl; obtain ⟨q2, _⟩ := hv.cell 2 _ rfl; obtain ⟨q3, _⟩ := hv.cell 3 _ rfl; obtain ⟨q4, _⟩ := hv.cell 4 _ rfl; obtain ⟨q5, _⟩ := hv.cell 5 _ rfl
    exact .inl (by go_simp)
  refine wpAnyR_take (i := 1) (kw := 4) (v := .agg #[.slice A xs.length c, .int .i64 b, .int .i64 s, .int .i64 g, .int .i64 a, .int .i64 l]) (fun _ => bl_refl _) (fun p q => bl_trans p q) rfl (by kernel_rfl) (by kernel_rfl) (by kernel_rfl) (by kernel_rfl) (fun _ _ _ h => h) HC1 (Or.inl ⟨by rfl, fun W' hI => ?_⟩) (fun HC2 => ?_)
  · have hv := N0.out.below hI
    obtain ⟨q0, _⟩ := hv.cell 0 _ rfl; obtain ⟨q1, _⟩ := hv.cell 1 _ rfl; obtain ⟨q2, _⟩ := hv.cell 2 _ rfl; obtain ⟨q3, _⟩ := hv.cell 3 _ rfl; obtain ⟨q4, _⟩ := hv.cell 4 _ rfl; obtain ⟨q5, _⟩ := hv.cell 5 _ rfl
    exact .inl (by go_simp)
  refine wpAnyR_take (i := 2) (kw := 4) (v := .int .i64 z) (fun _ => bl_refl _) (fun p q => bl_trans p q) rfl (by kernel_rfl) (by kernel_rfl) (by kernel_rfl) (by kernel_rfl) (fun _ _ _ h => h) HC2 (Or.inl ⟨by rfl, fun W' hI => ?_⟩) (fun HC3 => ?_)
  · exact .inr ⟨52, #[.agg #[.slice A xs.length c, .int .i64 b, .int .i64 s, .int .i64 g, .int .i64 a, .int .i64 l]], by go_simp, (KS.out W').mono fun e w' h => h⟩
  refine wpAnyR_take (i := 3) (kw := 4) (v := .int .i64 y) (fun _ => bl_refl _) (fun p q => bl_trans p q) rfl (by kernel_rfl) (by kernel_rfl) (by kernel_rfl) (by kernel_rfl) (fun _ _ _ h => h) HC3 (Or.inl ⟨by rfl, fun W' hI => ?_⟩) (fun HC4 => ?_)
  · exact .inr ⟨69, #[.agg #[.slice A xs.length c, .int .i64 b, .int .i64 s, .int .i64 g, .int .i64 a, .int .i64 l], .int .i64 z], by go_simp, (KL.out W').mono fun e w' h => h⟩
  refine wpAnyR_last (by kernel_rfl) (by kernel_rfl) rfl (by rfl) (fun w9 hr9 => ⟨bl_drewT hr9, fun K hK => ?_⟩)
  have B9 := Lib.hid (bl_trans B.out (bl_drewT hr9))
  go_simp
  refine hK _ _ ?_
  clear hK K
  go_wp2_with fail
  go_ret
  exact ⟨rfl, B9.out⟩
set_option maxRecDepth 100000 in
set_option maxHeartbeats 2000000 in
theorem implBlindSeats_any (A : Option Addr) (c : Nat) (xs : List Int) (b s g a l : Int) (w : World) (hr : Rd w A xs) (hn : xs.length ≤ 4000000) :
    Calls Try.prog 20 #[tV A xs.length c b s g a l] w (Fresh (tripV (bsX xs b s g a l) (bsY xs b s g a l) (tabC xs b s g a l)) w) := by
  have KV := Lib.hid (fun (W : World) (h : Below w.heap.size w W) => implIsTable_any A c xs b s g a l W (hr.below h) hn)
  have hmx : Try.prog.follows .mixedOrders = true := by kernel_rfl
  have n0 := blk_new w 26 [.slice A xs.length c, .int .i64 b, .int .i64 s, .int .i64 g, .int .i64 a, .int .i64 l]
  have N0 := Lib.hid n0
  have B := Lib.hid (bl_alloc (bl_refl w) (.cells ([.slice A xs.length c, .int .i64 b, .int .i64 s, .int .i64 g, .int .i64 a, .int .i64 l] : List Value).toArray 26))
  clear n0
  rcases hv : tabB xs b s g a l with _ | _
  · rw [(bs_no hv).1, (bs_no hv).2, tabC_no hv]
    rw [hv] at KV
    clear hv
    unfold tV at *
    go_enter Try.func20, Try.ntmps20
    go_wp2_with (first
    | (go_at_call 23; refine (KV.out _ B.out).mono ?_; rintro e wn ⟨rfl, hb⟩; have N0a := Lib.hid (N0.out.below hb); clear N0; have N0 := N0a; clear N0a; have Ba := Lib.hid (bl_trans B.out hb); clear B hb; have B := Ba; clear Ba; obtain ⟨q0_0, _⟩ := N0.out.cell 0 _ rfl; obtain ⟨q0_1, _⟩ := N0.out.cell 1 _ rfl; obtain ⟨q0_2, _⟩ := N0.out.cell 2 _ rfl; obtain ⟨q0_3, _⟩ := N0.out.cell 3 _ rfl; obtain ⟨q0_4, _⟩ := N0.out.cell 4 _ rfl; obtain ⟨q0_5, _⟩ := N0.out.cell 5 _ rfl))
    go_ret3
    exact ⟨rfl, B.out⟩
  · rw [(bs_yes hv).1, (bs_yes hv).2, tabC_yes hv]
    have t := tab_iff.1 hv
    have KS := Lib.hid (fun (W : World) => smallBlind_any A c xs b s g a l W t.1 t.2.1 t.2.2.2.1 t.2.2.2.2.1)
    have KG := Lib.hid (fun (W : World) => bigBlind_any A c xs b s g a l W t.1 t.2.1 t.2.2.2.1 t.2.2.2.2.1)
    rw [hv] at KV
    clear hv t
    unfold tV at *
    generalize bigI xs.length b = y at *
    generalize smallI xs.length b = z at *
    go_enter Try.func20, Try.ntmps20
    go_wp2_with (first
    | (go_at_call 23; refine (KV.out _ B.out).mono ?_; rintro e wz ⟨rfl, hb⟩; have N0a := Lib.hid (N0.out.below hb); clear N0; have N0 := N0a; clear N0a; have Ba := Lib.hid (bl_trans B.out hb); clear B hb; have B := Ba; clear Ba; obtain ⟨q0_0, _⟩ := N0.out.cell 0 _ rfl; obtain ⟨q0_1, _⟩ := N0.out.cell 1 _ rfl; obtain ⟨q0_2, _⟩ := N0.out.cell 2 _ rfl; obtain ⟨q0_3, _⟩ := N0.out.cell 3 _ rfl; obtain ⟨q0_4, _⟩ := N0.out.cell 4 _ rfl; obtain ⟨q0_5, _⟩ := N0.out.cell 5 _ rfl))
    refine wp_region_R (R := fun a b => Below a.heap.size a b) (I := fun W' => Below wz.heap.size wz W') (last := 6) (k := 6) (fun _ => bl_refl _) hmx rfl (fun HC0 => ?_)
    refine wpAnyR_take (i := 0) (kw := 6) (v := .agg #[.slice A xs.length c, .int .i64 b, .int .i64 s, .int .i64 g, .int .i64 a, .int .i64 l]) (fun _ => bl_refl _) (fun p q => bl_trans p q) rfl (by kernel_rfl) (by kernel_rfl) (by kernel_rfl) (by kernel_rfl) (fun _ _ _ h => h) HC0 (Or.inl ⟨by rfl, fun W' hI => ?_⟩) (fun HC1 => ?_)
    · have hv := N0.out.below hI
      obtain ⟨q0, _⟩ := hv.cell 0 _ rfl; obtain ⟨q1, _⟩ := hv.cell 1 _ rfl; obtain ⟨q2, _⟩ := hv.cell 2 _ rfl; obtain ⟨q3, _⟩ := hv.cell 3 _ rfl; obtain ⟨q4, _⟩ := hv.cell 4 _ rfl; obtain ⟨q5, _⟩ := hv.cell 5 _ rfl
      exact .inl (by go_simp)
    refine wpAnyR_take (i := 1) (kw := 6) (v := .int .i64 z) (fun _ => bl_refl _) (fun p q => bl_trans p q) rfl (by kernel_rfl) (by kernel_rfl) (by kernel_rfl) (by kernel_rfl) (fun _ _ _ h => h) HC1 (Or.inl ⟨by rfl, fun W' hI => ?_⟩) (fun HC2 => ?_)
    · exact .inr ⟨52, #[.agg #[.slice A xs.length c, .int .i64 b, .int .i64 s, .int .i64 g, .int .i64 a, .int .i64 l]], by go_simp, (KS.out W').mono fun e w' h => h⟩
    refine wpAnyR_take (i := 2) (kw := 6) (v := .agg #[.slice A xs.length c, .int .i64 b, .int .i64 s, .int .i64 g, .int .i64 a, .int .i64 l]) (fun _ => bl_refl _) (fun p q => bl_trans p q) rfl (by kernel_rfl) (by kernel_rfl) (by kernel_rfl) (by kernel_rfl) (fun _ _ _ h => h) HC2 (Or.inl ⟨by rfl, fun W' hI => ?_⟩) (fun HC3 => ?_)
    · have hv := N0.out.below hI
      obtain ⟨q0, _⟩ := hv.cell 0 _ rfl; obtain ⟨q1, _⟩ := hv.cell 1 _ rfl; obtain ⟨q2, _⟩ := hv.cell 2 _ rfl; obtain ⟨q3, _⟩ := hv.cell 3 _ rfl; obtain ⟨q4, _⟩ := hv.cell 4 _ rfl; obtain ⟨q5, _⟩ := hv.cell 5 _ rfl
      exact .inl (by go_simp)
    refine wpAnyR_take (i := 3) (kw := 6) (v := .int .i64 y) (fun _ => bl_refl _) (fun p q => bl_trans p q) rfl (by kernel_rfl) (by kernel_rfl) (by kernel_rfl) (by kernel_rfl) (fun _ _ _ h => h) HC3 (Or.inl ⟨by rfl, fun W' hI => ?_⟩) (fun HC4 => ?_)
    · exact .inr ⟨53, #[.agg #[.slice A xs.length c, .int .i64 b, .int .i64 s, .int .i64 g, .int .i64 a, .int .i64 l]], by go_simp, (KG.out W').mono fun e w' h => h⟩
    refine wpAnyR_take (i := 4) (kw := 6) (v := .int .i64 z) (fun _ => bl_refl _) (fun p q => bl_trans p q) rfl (by kernel_rfl) (by kernel_rfl) (by kernel_rfl) (by kernel_rfl) (fun _ _ _ h => h) HC4 (Or.inl ⟨by rfl, fun W' hI => ?_⟩) (fun HC5 => ?_)
    · exact .inl (by go_simp)
    refine wpAnyR_take (i := 5) (kw := 6) (v := .int .i64 y) (fun _ => bl_refl _) (fun p q => bl_trans p q) rfl (by kernel_rfl) (by kernel_rfl) (by kernel_rfl) (by kernel_rfl) (fun _ _ _ h => h) HC5 (Or.inl ⟨by rfl, fun W' hI => ?_⟩) (fun HC6 => ?_)
    · exact .inl (by go_simp)
    refine wpAnyR_last (by kernel_rfl) (by kernel_rfl) rfl (by rfl) (fun w9 hr9 => ⟨bl_drewT hr9, fun K hK => ?_⟩)
    have B9 := Lib.hid (bl_trans B.out (bl_drewT hr9))
    go_simp
    refine hK _ _ ?_
    clear hK K
    go_wp2_with fail
    go_ret3
    exact ⟨rfl, B9.out⟩
set_option maxRecDepth 100000 in
set_option maxHeartbeats 2000000 in
theorem implFirstSeat_any (A : Option Addr) (c : Nat) (xs : List Int) (b s g a l : Int) (t : Int) (w : World) (hr : Rd w A xs) (hn : xs.length ≤ 4000000) :
    Calls Try.prog 28 #[tV A xs.length c b s g a l, .int .i64 t] w (Fresh (pairV (fsX xs b s g a l t) (fsC xs b s g a l t)) w) := by
  have KV := Lib.hid (fun (W : World) (h : Below w.heap.size w W) => implIsTable_any A c xs b s g a l W (hr.below h) hn)
  have hmx : Try.prog.follows .mixedOrders = true := by kernel_rfl
  have n0 := blk_new w 26 [.slice A xs.length c, .int .i64 b, .int .i64 s, .int .i64 g, .int .i64 a, .int .i64 l]
  have N0 := Lib.hid n0
  have B := Lib.hid (bl_alloc (bl_refl w) (.cells ([.slice A xs.length c, .int .i64 b, .int .i64 s, .int .i64 g, .int .i64 a, .int .i64 l] : List Value).toArray 26))
  clear n0
  rcases hv : tabB xs b s g a l with _ | _
  · rw [(fs_no t hv).1, (fs_no t hv).2]
    rw [hv] at KV
    clear hv
    unfold tV at *
    go_enter Try.func28, Try.ntmps28
    go_wp2_with (first
    | (go_at_call 23; refine (KV.out _ B.out).mono ?_; rintro e wn ⟨rfl, hb⟩; have N0a := Lib.hid (N0.out.below hb); clear N0; have N0 := N0a; clear N0a; have Ba := Lib.hid (bl_trans B.out hb); clear B hb; have B := Ba; clear Ba; obtain ⟨q0_0, _⟩ := N0.out.cell 0 _ rfl; obtain ⟨q0_1, _⟩ := N0.out.cell 1 _ rfl; obtain ⟨q0_2, _⟩ := N0.out.cell 2 _ rfl; obtain ⟨q0_3, _⟩ := N0.out.cell 3 _ rfl; obtain ⟨q0_4, _⟩ := N0.out.cell 4 _ rfl; obtain ⟨q0_5, _⟩ := N0.out.cell 5 _ rfl))
    go_ret2
    exact ⟨rfl, B.out⟩
  by_cases h0 : t < 0
  · rw [(fs_out hv (by omega)).1, (fs_out hv (by omega)).2]
    rw [hv] at KV
    clear hv
    unfold tV at *
    have d0 : decide (t < 0) = true := decide_eq_true h0
    clear h0
    go_enter Try.func28, Try.ntmps28
    go_wp2_with (first
    | (go_at_call 23; refine (KV.out _ B.out).mono ?_; rintro e wn ⟨rfl, hb⟩; have N0a := Lib.hid (N0.out.below hb); clear N0; have N0 := N0a; clear N0a; have Ba := Lib.hid (bl_trans B.out hb); clear B hb; have B := Ba; clear Ba; obtain ⟨q0_0, _⟩ := N0.out.cell 0 _ rfl; obtain ⟨q0_1, _⟩ := N0.out.cell 1 _ rfl; obtain ⟨q0_2, _⟩ := N0.out.cell 2 _ rfl; obtain ⟨q0_3, _⟩ := N0.out.cell 3 _ rfl; obtain ⟨q0_4, _⟩ := N0.out.cell 4 _ rfl; obtain ⟨q0_5, _⟩ := N0.out.cell 5 _ rfl))
    go_ret2
    exact ⟨rfl, B.out⟩
  by_cases h3 : 3 < t
  · rw [(fs_out hv (by omega)).1, (fs_out hv (by omega)).2]
    rw [hv] at KV
    clear hv
    unfold tV at *
    have d0 : decide (t < 0) = false := decide_eq_false h0
    have d3 : decide (3 < t) = true := decide_eq_true h3
    clear h0 h3
    go_enter Try.func28, Try.ntmps28
    go_wp2_with (first
    | (go_at_call 23; refine (KV.out _ B.out).mono ?_; rintro e wn ⟨rfl, hb⟩; have N0a := Lib.hid (N0.out.below hb); clear N0; have N0 := N0a; clear N0a; have Ba := Lib.hid (bl_trans B.out hb); clear B hb; have B := Ba; clear Ba; obtain ⟨q0_0, _⟩ := N0.out.cell 0 _ rfl; obtain ⟨q0_1, _⟩ := N0.out.cell 1 _ rfl; obtain ⟨q0_2, _⟩ := N0.out.cell 2 _ rfl; obtain ⟨q0_3, _⟩ := N0.out.cell 3 _ rfl; obtain ⟨q0_4, _⟩ := N0.out.cell 4 _ rfl; obtain ⟨q0_5, _⟩ := N0.out.cell 5 _ rfl))
    go_ret2
    exact ⟨rfl, B.out⟩
  rw [(fs_yes hv (by omega)).1, (fs_yes hv (by omega)).2]
  have tt := tab_iff.1 hv
  have KG := Lib.hid (fun (W : World) => bigBlind_any A c xs b s g a l W tt.1 tt.2.1 tt.2.2.2.1 tt.2.2.2.2.1)
  have hg := big_bd xs.length b (by omega)
  have KL := Lib.hid (fun (W : World) => leftOfM_any A c xs b s g a l b W tt.1 tt.2.1 tt.2.2.2.1 tt.2.2.2.2.1)
  have KM := Lib.hid (fun (W : World) => leftOfM_any A c xs b s g a l (bigI xs.length b) W tt.1 tt.2.1 hg.1 hg.2)
  have d0 : decide (t < 0) = false := decide_eq_false h0
  have d3 : decide (3 < t) = false := decide_eq_false h3
  rw [hv] at KV
  clear hv tt hg h0 h3
  unfold tV at *
  by_cases ht : t = 0
  · subst ht
    have e : firstI xs.length b 0 = leftI (bigI xs.length b) xs.length := rfl
    rw [e]
    clear e KL d0 d3
    generalize leftI (bigI xs.length b) xs.length = r at *
    generalize bigI xs.length b = y at *
    go_enter Try.func28, Try.ntmps28
    go_wp2_with (first
    | (go_at_call 23; refine (KV.out _ B.out).mono ?_; rintro e wz ⟨rfl, hb⟩; have N0a := Lib.hid (N0.out.below hb); clear N0; have N0 := N0a; clear N0a; have Ba := Lib.hid (bl_trans B.out hb); clear B hb; have B := Ba; clear Ba; obtain ⟨q0_0, _⟩ := N0.out.cell 0 _ rfl; obtain ⟨q0_1, _⟩ := N0.out.cell 1 _ rfl; obtain ⟨q0_2, _⟩ := N0.out.cell 2 _ rfl; obtain ⟨q0_3, _⟩ := N0.out.cell 3 _ rfl; obtain ⟨q0_4, _⟩ := N0.out.cell 4 _ rfl; obtain ⟨q0_5, _⟩ := N0.out.cell 5 _ rfl))
    refine wp_region_R (R := fun a b => Below a.heap.size a b) (I := fun W' => Below wz.heap.size wz W') (last := 5) (k := 5) (fun _ => bl_refl _) hmx rfl (fun HC0 => ?_)
    refine wpAnyR_take (i := 0) (kw := 5) (v := .agg #[.slice A xs.length c, .int .i64 b, .int .i64 s, .int .i64 g, .int .i64 a, .int .i64 l]) (fun _ => bl_refl _) (fun p q => bl_trans p q) rfl (by kernel_rfl) (by kernel_rfl) (by kernel_rfl) (by kernel_rfl) (fun _ _ _ h => h) HC0 (Or.inl ⟨by rfl, fun W' hI => ?_⟩) (fun HC1 => ?_)
    · have hv := N0.out.below hI
      obtain ⟨q0, _⟩ := hv.cell 0 _ rfl; obtain ⟨q1, _⟩ := hv.cell 1 _ rfl; obtain ⟨q2, _⟩ := hv.cell 2 _ rfl; obtain ⟨q3, _⟩ := hv.cell 3 _ rfl; obtain ⟨q4, _⟩ := hv.cell 4 _ rfl; obtain ⟨q5, _⟩ := hv.cell 5 _ rfl
      exact .inl (by go_simp)
    refine wpAnyR_take (i := 1) (kw := 5) (v := .agg #[.slice A xs.length c, .int .i64 b, .int .i64 s, .int .i64 g, .int .i64 a, .int .i64 l]) (fun _ => bl_refl _) (fun p q => bl_trans p q) rfl (by kernel_rfl) (by kernel_rfl) (by kernel_rfl) (by kernel_rfl) (fun _ _ _ h => h) HC1 (Or.inl ⟨by rfl, fun W' hI => ?_⟩) (fun HC2 => ?_)
    · have hv := N0.out.below hI
      obtain ⟨q0, _⟩ := hv.cell 0 _ rfl; obtain ⟨q1, _⟩ := hv.cell 1 _ rfl; obtain ⟨q2, _⟩ := hv.cell 2 _ rfl; obtain ⟨q3, _⟩ := hv.cell 3 _ rfl; obtain ⟨q4, _⟩ := hv.cell 4 _ rfl; obtain ⟨q5, _⟩ := hv.cell 5 _ rfl
      exact .inl (by go_simp)
    refine wpAnyR_take (i := 2) (kw := 5) (v := .int .i64 y) (fun _ => bl_refl _) (fun p q => bl_trans p q) rfl (by kernel_rfl) (by kernel_rfl) (by kernel_rfl) (by kernel_rfl) (fun _ _ _ h => h) HC2 (Or.inl ⟨by rfl, fun W' hI => ?_⟩) (fun HC3 => ?_)
    · exact .inr ⟨53, #[.agg #[.slice A xs.length c, .int .i64 b, .int .i64 s, .int .i64 g, .int .i64 a, .int .i64 l]], by go_simp, (KG.out W').mono fun e w' h => h⟩
    refine wpAnyR_take (i := 3) (kw := 5) (v := .int .i64 r) (fun _ => bl_refl _) (fun p q => bl_trans p q) rfl (by kernel_rfl) (by kernel_rfl) (by kernel_rfl) (by kernel_rfl) (fun _ _ _ h => h) HC3 (Or.inl ⟨by rfl, fun W' hI => ?_⟩) (fun HC4 => ?_)
    · exact .inr ⟨69, #[.agg #[.slice A xs.length c, .int .i64 b, .int .i64 s, .int .i64 g, .int .i64 a, .int .i64 l], .int .i64 y], by go_simp, (KM.out W').mono fun e w' h => h⟩
    refine wpAnyR_take (i := 4) (kw := 5) (v := .int .i64 r) (fun _ => bl_refl _) (fun p q => bl_trans p q) rfl (by kernel_rfl) (by kernel_rfl) (by kernel_rfl) (by kernel_rfl) (fun _ _ _ h => h) HC4 (Or.inl ⟨by rfl, fun W' hI => ?_⟩) (fun HC5 => ?_)
    · exact .inl (by go_simp)
    refine wpAnyR_last (by kernel_rfl) (by kernel_rfl) rfl (by rfl) (fun w9 hr9 => ⟨bl_drewT hr9, fun K hK => ?_⟩)
    have B9 := Lib.hid (bl_trans B.out (bl_drewT hr9))
    go_simp
    refine hK _ _ ?_
    clear hK K
    go_wp2_with fail
    go_ret2
    exact ⟨rfl, B9.out⟩
  · have e : firstI xs.length b t = leftI b xs.length := if_neg ht
    rw [e]
    have hd : (t == 0) = false := by simpa using ht
    clear e KM KG ht
    generalize leftI b xs.length = r at *
    go_enter Try.func28, Try.ntmps28
    go_wp2_with (first
    | (go_at_call 23; refine (KV.out _ B.out).mono ?_; rintro e wn ⟨rfl, hb⟩; have N0a := Lib.hid (N0.out.below hb); clear N0; have N0 := N0a; clear N0a; have Ba := Lib.hid (bl_trans B.out hb); clear B hb; have B := Ba; clear Ba; obtain ⟨q0_0, _⟩ := N0.out.cell 0 _ rfl; obtain ⟨q0_1, _⟩ := N0.out.cell 1 _ rfl; obtain ⟨q0_2, _⟩ := N0.out.cell 2 _ rfl; obtain ⟨q0_3, _⟩ := N0.out.cell 3 _ rfl; obtain ⟨q0_4, _⟩ := N0.out.cell 4 _ rfl; obtain ⟨q0_5, _⟩ := N0.out.cell 5 _ rfl)
    | (go_at_call 69; refine (KL.out _).mono ?_; rintro e wn ⟨rfl, hb⟩; have N0a := Lib.hid (N0.out.below hb); clear N0; have N0 := N0a; clear N0a; have Ba := Lib.hid (bl_trans B.out hb); clear B hb; have B := Ba; clear Ba; obtain ⟨q0_0, _⟩ := N0.out.cell 0 _ rfl; obtain ⟨q0_1, _⟩ := N0.out.cell 1 _ rfl; obtain ⟨q0_2, _⟩ := N0.out.cell 2 _ rfl; obtain ⟨q0_3, _⟩ := N0.out.cell 3 _ rfl; obtain ⟨q0_4, _⟩ := N0.out.cell 4 _ rfl; obtain ⟨q0_5, _⟩ := N0.out.cell 5 _ rfl))
    go_ret2
    exact ⟨rfl, B.out⟩
end Go.Proofs.Ytnbaemgidfgdaaa
