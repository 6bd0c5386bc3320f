/-
  SeatsFrom: the program's.
-/
import Derived.Test.YtnbaemgidfgdaaaSeatColl
import Derived.Test.YtnbaemgidfgdaaaImplSeats
namespace Go.Proofs.Ytnbaemgidfgdaaa
open Go.RowKit
set_option linter.unusedVariables false

set_option maxRecDepth 100000 in
set_option maxHeartbeats 1000000 in
theorem collectSeats_any (N : Nat) (t : Int) (w : World) (hN : 0 < N) (hN6 : N ≤ 6) (h0t : 0 ≤ t) (h1t : t < N) :
    Calls Try.prog 64 #[.func (.func 66) #[wkV t N] #[]] w (NewL (fromL N t) w) := by
  have K := Lib.hid (fun W : World => appendSeats_any N t W hN hN6 h0t h1t)
  clear hN hN6 h0t h1t
  go_enter Try.func64, Try.ntmps64
  go_wp2_with (go_at_call 82; refine (K.out _).mono ?_; rintro e w1 ⟨A1, c1, rfl, ho, hb⟩; have HO := Lib.hid ho; have HB := Lib.hid hb; clear ho hb)
  go_ret
  exact ⟨_, _, rfl, HO.out, HB.out⟩
set_option maxRecDepth 100000 in
set_option maxHeartbeats 1000000 in
theorem walkFrom_any (A : Option Addr) (c : Nat) (xs : List Int) (b s g a l : Int) (t : Int) (w : World) :
    Calls Try.prog 65 #[tV A xs.length c b s g a l, .int .i64 t] w (Fresh (wkV t xs.length) w) := by
  have KN := Lib.hid (fun (W : World) => seatCount_any A xs.length c b s g a l W)
  have iW : (Try.prog.info? 68).map (·.size) = some 2 := by kernel_rfl
  have n0 := blk_new w 26 [.slice A xs.length c, .int .i64 b, .int .i64 s, .int .i64 g, .int .i64 a, .int .i64 l]
  have n1 := blk_new (w.alloc (.cells ([.slice A xs.length c, .int .i64 b, .int .i64 s, .int .i64 g, .int .i64 a, .int .i64 l] : List Value).toArray 26)) 68 [.int .i64 0, .int .i64 0]
  rw [World.size_alloc] at n1
  have N0 := Lib.hid (n0.below (bl_alloc (bl_refl _) (.cells ([.int .i64 0, .int .i64 0] : List Value).toArray 68)))
  have N1 := Lib.hid n1
  have B := Lib.hid (bl_alloc (bl_alloc (bl_refl w) (.cells ([.slice A xs.length c, .int .i64 b, .int .i64 s, .int .i64 g, .int .i64 a, .int .i64 l] : List Value).toArray 26)) (.cells ([.int .i64 0, .int .i64 0] : List Value).toArray 68))
  clear n0 n1
  unfold tV at *
  go_enter Try.func65, Try.ntmps65
  go_wp2_with (first
    | (go_at_call 50; refine (KN.out _).mono ?_; rintro e wn ⟨rfl, hb⟩; have N0a := Lib.hid (N0.out.below hb); clear N0; have N0 := N0a; clear N0a; have N1a := Lib.hid (N1.out.below hb); clear N1; have N1 := N1a; clear N1a; have Ba := Lib.hid (bl_trans B.out hb); clear B hb; have B := Ba; clear Ba; obtain ⟨q0_0, _⟩ := N0.out.cell 0 _ rfl; obtain ⟨q0_1, _⟩ := N0.out.cell 1 _ rfl; obtain ⟨q0_2, _⟩ := N0.out.cell 2 _ rfl; obtain ⟨q0_3, _⟩ := N0.out.cell 3 _ rfl; obtain ⟨q0_4, _⟩ := N0.out.cell 4 _ rfl; obtain ⟨q0_5, _⟩ := N0.out.cell 5 _ rfl)
    | (refine wpList_store_blk 68 2 rfl (.tmp 4) (.tmp 8) rfl iW (w.heap.size + 1) rfl [.int .i64 t, .int .i64 xs.length] rfl rfl (by simp [Value.oneCell']) _ N1.out rfl ?_; intro w9 k9 g9; have B9 := hbl_grown B g9 (by omega); have N9 := Lib.hid k9; clear k9 g9))
  obtain ⟨z0, _⟩ := N9.out.cell 0 _ rfl
  obtain ⟨z1, _⟩ := N9.out.cell 1 _ rfl
  exact bodyPost_ret (v := .agg #[.int .i64 t, .int .i64 xs.length]) (by simp [results, Try.results65, go_sem, z0, z1]) rfl ⟨rfl, B9.out⟩
set_option maxRecDepth 100000 in
set_option maxHeartbeats 2000000 in
theorem implSeatsFrom_any (A : Option Addr) (c : Nat) (xs : List Int) (b s g a l : Int) (t : Int) (w : World) (hr : Rd w A xs) (hn : xs.length ≤ 4000000) :
    Calls Try.prog 25 #[tV A xs.length c b s g a l, .int .i64 t] w (NewRC (sfR xs b s g a l t) (sfC xs b s g a l t) w) := by
  have KB := Lib.hid (fun (W : World) => isSeat_any A c xs b s g a l t W)
  have KV := Lib.hid (fun (W : World) (h : Below w.heap.size w W) => implIsTable_any A c xs b s g a l W (hr.below h) hn)
  have n0 := blk_new w 26 [.slice A xs.length c, .int .i64 b, .int .i64 s, .int .i64 g, .int .i64 a, .int .i64 l]
  have N0 := Lib.hid n0
  have B := Lib.hid (bl_alloc (bl_refl w) (.cells ([.slice A xs.length c, .int .i64 b, .int .i64 s, .int .i64 g, .int .i64 a, .int .i64 l] : List Value).toArray 26))
  clear n0
  rcases hv : tabB xs b s g a l with _ | _
  · rw [(sf_no t hv).1, (sf_no t hv).2]
    rw [hv] at KV
    clear hv
    unfold tV at *
    go_enter Try.func25, Try.ntmps25
    go_wp2_with (first
    | (go_at_call 23; refine (KV.out _ B.out).mono ?_; rintro e wn ⟨rfl, hb⟩; have N0a := Lib.hid (N0.out.below hb); clear N0; have N0 := N0a; clear N0a; have Ba := Lib.hid (bl_trans B.out hb); clear B hb; have B := Ba; clear Ba; obtain ⟨q0_0, _⟩ := N0.out.cell 0 _ rfl; obtain ⟨q0_1, _⟩ := N0.out.cell 1 _ rfl; obtain ⟨q0_2, _⟩ := N0.out.cell 2 _ rfl; obtain ⟨q0_3, _⟩ := N0.out.cell 3 _ rfl; obtain ⟨q0_4, _⟩ := N0.out.cell 4 _ rfl; obtain ⟨q0_5, _⟩ := N0.out.cell 5 _ rfl))
    go_ret2
    exact ⟨none, 0, rfl, Row.nil _ _, B.out⟩
  by_cases ht : 0 ≤ t ∧ t < xs.length
  rotate_left
  · rw [(sf_out hv ht).1, (sf_out hv ht).2]
    rw [show seatB xs.length t = false from decide_eq_false ht] at KB
    rw [hv] at KV
    clear hv ht
    unfold tV at *
    go_enter Try.func25, Try.ntmps25
    go_wp2_with (first
    | (go_at_call 23; refine (KV.out _ B.out).mono ?_; rintro e wn ⟨rfl, hb⟩; have N0a := Lib.hid (N0.out.below hb); clear N0; have N0 := N0a; clear N0a; have Ba := Lib.hid (bl_trans B.out hb); clear B hb; have B := Ba; clear Ba; obtain ⟨q0_0, _⟩ := N0.out.cell 0 _ rfl; obtain ⟨q0_1, _⟩ := N0.out.cell 1 _ rfl; obtain ⟨q0_2, _⟩ := N0.out.cell 2 _ rfl; obtain ⟨q0_3, _⟩ := N0.out.cell 3 _ rfl; obtain ⟨q0_4, _⟩ := N0.out.cell 4 _ rfl; obtain ⟨q0_5, _⟩ := N0.out.cell 5 _ rfl)
    | (go_at_call 61; refine (KB.out _).mono ?_; rintro e wn ⟨rfl, hb⟩; have N0a := Lib.hid (N0.out.below hb); clear N0; have N0 := N0a; clear N0a; have Ba := Lib.hid (bl_trans B.out hb); clear B hb; have B := Ba; clear Ba; obtain ⟨q0_0, _⟩ := N0.out.cell 0 _ rfl; obtain ⟨q0_1, _⟩ := N0.out.cell 1 _ rfl; obtain ⟨q0_2, _⟩ := N0.out.cell 2 _ rfl; obtain ⟨q0_3, _⟩ := N0.out.cell 3 _ rfl; obtain ⟨q0_4, _⟩ := N0.out.cell 4 _ rfl; obtain ⟨q0_5, _⟩ := N0.out.cell 5 _ rfl))
    go_ret2
    exact ⟨none, 0, rfl, Row.nil _ _, B.out⟩
  · rw [(sf_yes hv ht).1, (sf_yes hv ht).2]
    have tt := tab_iff.1 hv
    have KW := Lib.hid (fun (W : World) => walkFrom_any A c xs b s g a l t W)
    have KF := Lib.hid (fun W : World => collectSeats_any xs.length t W (by omega) tt.2.1 ht.1 ht.2)
    rw [show seatB xs.length t = true from decide_eq_true ht] at KB
    rw [hv] at KV
    clear hv tt ht
    unfold tV at *
    go_enter Try.func25, Try.ntmps25
    go_wp2_with (first
    | (go_at_call 23; refine (KV.out _ B.out).mono ?_; rintro e wn ⟨rfl, hb⟩; have N0a := Lib.hid (N0.out.below hb); clear N0; have N0 := N0a; clear N0a; have Ba := Lib.hid (bl_trans B.out hb); clear B hb; have B := Ba; clear Ba; obtain ⟨q0_0, _⟩ := N0.out.cell 0 _ rfl; obtain ⟨q0_1, _⟩ := N0.out.cell 1 _ rfl; obtain ⟨q0_2, _⟩ := N0.out.cell 2 _ rfl; obtain ⟨q0_3, _⟩ := N0.out.cell 3 _ rfl; obtain ⟨q0_4, _⟩ := N0.out.cell 4 _ rfl; obtain ⟨q0_5, _⟩ := N0.out.cell 5 _ rfl)
    | (go_at_call 61; refine (KB.out _).mono ?_; rintro e wn ⟨rfl, hb⟩; have N0a := Lib.hid (N0.out.below hb); clear N0; have N0 := N0a; clear N0a; have Ba := Lib.hid (bl_trans B.out hb); clear B hb; have B := Ba; clear Ba; obtain ⟨q0_0, _⟩ := N0.out.cell 0 _ rfl; obtain ⟨q0_1, _⟩ := N0.out.cell 1 _ rfl; obtain ⟨q0_2, _⟩ := N0.out.cell 2 _ rfl; obtain ⟨q0_3, _⟩ := N0.out.cell 3 _ rfl; obtain ⟨q0_4, _⟩ := N0.out.cell 4 _ rfl; obtain ⟨q0_5, _⟩ := N0.out.cell 5 _ rfl)
    | (go_at_call 65; refine (KW.out _).mono ?_; rintro e wn ⟨rfl, hb⟩; have N0a := Lib.hid (N0.out.below hb); clear N0; have N0 := N0a; clear N0a; have Ba := Lib.hid (bl_trans B.out hb); clear B hb; have B := Ba; clear Ba; obtain ⟨q0_0, _⟩ := N0.out.cell 0 _ rfl; obtain ⟨q0_1, _⟩ := N0.out.cell 1 _ rfl; obtain ⟨q0_2, _⟩ := N0.out.cell 2 _ rfl; obtain ⟨q0_3, _⟩ := N0.out.cell 3 _ rfl; obtain ⟨q0_4, _⟩ := N0.out.cell 4 _ rfl; obtain ⟨q0_5, _⟩ := N0.out.cell 5 _ rfl)
    | (go_at_call 64; refine (KF.out _).mono ?_; rintro e wz ⟨A1, c1, rfl, ho, hb⟩; have HO := Lib.hid ho; have BZ := Lib.hid (bl_trans B.out hb); have HZ := Lib.hid B.out.size; clear ho hb))
    go_ret2
    exact ⟨_, _, rfl, Row.of_own (HO.out.less HZ.out), BZ.out⟩
end Go.Proofs.Ytnbaemgidfgdaaa
