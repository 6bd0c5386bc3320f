/-
  The table of the next hand: the program's.
-/
import Derived.Test.YtimdgaclmejjhaaNextSpec
import Derived.Test.YtimdgaclmejjhaaNextImpl
namespace Go.Proofs.Ytimdgaclmejjhaa
open Go.RowKit
set_option linter.unusedVariables false

set_option maxRecDepth 100000 in
set_option maxHeartbeats 2000000 in
theorem implNext_bad (A : Option Addr) (c : Nat) (xs : List Int) (b s g a l : Int) (A2 : Option Addr) (c2 : Nat) (ys : List Int) (w : World) (hr : Rd w A xs) (hr2 : Rd w A2 ys) (hn : xs.length ≤ 4000000) (hm : ys.length ≤ 3000000) (h : tabB xs b s g a l = false ∨ (tabB xs b s g a l = true ∧ ys.length ≠ xs.length) ∨ (tabB xs b s g a l = true ∧ ys.length = xs.length ∧ chipsB ys = false)) :
    Calls Try.prog 6 #[tV A xs.length c b s g a l, .slice A2 ys.length c2] w (NextPost xs b s g a l ys w) := by
  have KV := Lib.hid (fun (W : World) (h : Below w.heap.size w W) => implIsTable_any A c xs b s g a l W (hr.below h) hn)
  have KA := Lib.hid (fun (W : World) (h : Below w.heap.size w W) => areChips_any A2 c2 ys W (hr2.below h) (by omega))
  have iT : (Try.prog.info? 26).map (·.size) = some 6 := by kernel_rfl
  have i1 : (Try.prog.info? 2).map (·.size) = some 1 := by kernel_rfl
  have i1s : (Try.prog.info? 24).map (·.size) = some 1 := by kernel_rfl
  have n0 := blk_new w 26 [.slice A xs.length c, .int .i64 b, .int .i64 s, .int .i64 g, .int .i64 a, .int .i64 l]
  have n1 := blk_new (w.alloc (.cells ([.slice A xs.length c, .int .i64 b, .int .i64 s, .int .i64 g, .int .i64 a, .int .i64 l] : List Value).toArray 26)) 26 [.slice none 0 0, .int .i64 0, .int .i64 0, .int .i64 0, .int .i64 0, .int .i64 0]
  rw [World.size_alloc] at n1
  have N0 := Lib.hid (n0.below (bl_alloc (bl_refl _) (.cells ([.slice none 0 0, .int .i64 0, .int .i64 0, .int .i64 0, .int .i64 0, .int .i64 0] : List Value).toArray 26)))
  have N1 := Lib.hid n1
  have B := Lib.hid (bl_alloc (bl_alloc (bl_refl w) (.cells ([.slice A xs.length c, .int .i64 b, .int .i64 s, .int .i64 g, .int .i64 a, .int .i64 l] : List Value).toArray 26)) (.cells ([.slice none 0 0, .int .i64 0, .int .i64 0, .int .i64 0, .int .i64 0, .int .i64 0] : List Value).toArray 26))
  clear n0 n1
  rcases h with hv | ⟨hv, hl⟩ | ⟨hv, hl, hc⟩
  · have HC := Lib.hid (ntC_tab ys hv)
    rw [hv] at KV
    clear hv hr hr2
    unfold tV at *
    go_enter Try.func6, Try.ntmps6
    go_wp2_with (first
      | (go_at_call 13; refine (KV.out _ B.out).mono ?_; rintro e wn ⟨rfl, hb⟩; have N0a := Lib.hid (N0.out.below hb); clear N0; have N0 := N0a; clear N0a; have N1a := Lib.hid (N1.out.below hb); clear N1; have N1 := N1a; clear N1a; have Ba := Lib.hid (bl_trans B.out hb); clear B hb; have B := Ba; clear Ba; obtain ⟨q0_0, _⟩ := N0.out.cell 0 _ rfl; obtain ⟨q0_1, _⟩ := N0.out.cell 1 _ rfl; obtain ⟨q0_2, _⟩ := N0.out.cell 2 _ rfl; obtain ⟨q0_3, _⟩ := N0.out.cell 3 _ rfl; obtain ⟨q0_4, _⟩ := N0.out.cell 4 _ rfl; obtain ⟨q0_5, _⟩ := N0.out.cell 5 _ rfl)
      | (refine wpList_store_blk 26 6 rfl (.tmp 4) (.tmp 10) rfl iT (w.heap.size + 1) rfl [.slice none 0 0, .int .i64 0, .int .i64 0, .int .i64 0, .int .i64 0, .int .i64 0] rfl rfl (by simp [Value.oneCell']) _ N1.out rfl ?_; intro w9 k9 g9; have B9 := hbl_grown B g9 (by omega); have N9 := Lib.hid k9; clear k9 g9))
    obtain ⟨z0, _⟩ := N9.out.cell 0 _ rfl
    obtain ⟨z1, _⟩ := N9.out.cell 1 _ rfl
    obtain ⟨z2, _⟩ := N9.out.cell 2 _ rfl
    obtain ⟨z3, _⟩ := N9.out.cell 3 _ rfl
    obtain ⟨z4, _⟩ := N9.out.cell 4 _ rfl
    obtain ⟨z5, _⟩ := N9.out.cell 5 _ rfl
    exact bodyPost_ret (v := .tuple #[.agg #[.slice none 0 0, .int .i64 0, .int .i64 0, .int .i64 0, .int .i64 0, .int .i64 0], .int .i64 1]) (by simp [results, Try.results6, go_sem, z0, z1, z2, z3, z4, z5]) rfl (next_post_bad (by omega) HC.out rfl B9.out)
  · have HC := Lib.hid (ntC_len hv hl)
    rw [hv] at KV
    have hd : ((ys.length : Int) != (xs.length : Int)) = true := by simpa using (fun q => hl (by omega))
    clear hv hr hr2 hl
    unfold tV at *
    go_enter Try.func6, Try.ntmps6
    go_wp2_with (first
      | (go_at_call 13; refine (KV.out _ B.out).mono ?_; rintro e wn ⟨rfl, hb⟩; have N0a := Lib.hid (N0.out.below hb); clear N0; have N0 := N0a; clear N0a; have N1a := Lib.hid (N1.out.below hb); clear N1; have N1 := N1a; clear N1a; have Ba := Lib.hid (bl_trans B.out hb); clear B hb; have B := Ba; clear Ba; obtain ⟨q0_0, _⟩ := N0.out.cell 0 _ rfl; obtain ⟨q0_1, _⟩ := N0.out.cell 1 _ rfl; obtain ⟨q0_2, _⟩ := N0.out.cell 2 _ rfl; obtain ⟨q0_3, _⟩ := N0.out.cell 3 _ rfl; obtain ⟨q0_4, _⟩ := N0.out.cell 4 _ rfl; obtain ⟨q0_5, _⟩ := N0.out.cell 5 _ rfl)
      | (refine wpList_store_blk 26 6 rfl (.tmp 4) (.tmp 22) rfl iT (w.heap.size + 1) rfl [.slice none 0 0, .int .i64 0, .int .i64 0, .int .i64 0, .int .i64 0, .int .i64 0] rfl rfl (by simp [Value.oneCell']) _ N1.out rfl ?_; intro w9 k9 g9; have B9 := hbl_grown B g9 (by omega); have N9 := Lib.hid k9; clear k9 g9))
    obtain ⟨z0, _⟩ := N9.out.cell 0 _ rfl
    obtain ⟨z1, _⟩ := N9.out.cell 1 _ rfl
    obtain ⟨z2, _⟩ := N9.out.cell 2 _ rfl
    obtain ⟨z3, _⟩ := N9.out.cell 3 _ rfl
    obtain ⟨z4, _⟩ := N9.out.cell 4 _ rfl
    obtain ⟨z5, _⟩ := N9.out.cell 5 _ rfl
    exact bodyPost_ret (v := .tuple #[.agg #[.slice none 0 0, .int .i64 0, .int .i64 0, .int .i64 0, .int .i64 0, .int .i64 0], .int .i64 2]) (by simp [results, Try.results6, go_sem, z0, z1, z2, z3, z4, z5]) rfl (next_post_bad (by omega) HC.out rfl B9.out)
  · have HC := Lib.hid (ntC_chips hv hc)
    rw [hv] at KV
    rw [show rngT 0 ys = false from hc] at KA
    have hd : ((ys.length : Int) != (xs.length : Int)) = false := by rw [hl]; simp
    clear hv hr hr2 hl hc
    unfold tV at *
    go_enter Try.func6, Try.ntmps6
    go_wp2_with (first
      | (go_at_call 13; refine (KV.out _ B.out).mono ?_; rintro e wn ⟨rfl, hb⟩; have N0a := Lib.hid (N0.out.below hb); clear N0; have N0 := N0a; clear N0a; have N1a := Lib.hid (N1.out.below hb); clear N1; have N1 := N1a; clear N1a; have Ba := Lib.hid (bl_trans B.out hb); clear B hb; have B := Ba; clear Ba; obtain ⟨q0_0, _⟩ := N0.out.cell 0 _ rfl; obtain ⟨q0_1, _⟩ := N0.out.cell 1 _ rfl; obtain ⟨q0_2, _⟩ := N0.out.cell 2 _ rfl; obtain ⟨q0_3, _⟩ := N0.out.cell 3 _ rfl; obtain ⟨q0_4, _⟩ := N0.out.cell 4 _ rfl; obtain ⟨q0_5, _⟩ := N0.out.cell 5 _ rfl)
      | (go_at_call 18; refine (KA.out _ B.out).mono ?_; rintro e wz ⟨rfl, rfl⟩)
      | (refine wpList_store_blk 26 6 rfl (.tmp 4) (.tmp 22) rfl iT (w.heap.size + 1) rfl [.slice none 0 0, .int .i64 0, .int .i64 0, .int .i64 0, .int .i64 0, .int .i64 0] rfl rfl (by simp [Value.oneCell']) _ N1.out rfl ?_; intro w9 k9 g9; have B9 := hbl_grown B g9 (by omega); have N9 := Lib.hid k9; clear k9 g9))
    obtain ⟨z0, _⟩ := N9.out.cell 0 _ rfl
    obtain ⟨z1, _⟩ := N9.out.cell 1 _ rfl
    obtain ⟨z2, _⟩ := N9.out.cell 2 _ rfl
    obtain ⟨z3, _⟩ := N9.out.cell 3 _ rfl
    obtain ⟨z4, _⟩ := N9.out.cell 4 _ rfl
    obtain ⟨z5, _⟩ := N9.out.cell 5 _ rfl
    exact bodyPost_ret (v := .tuple #[.agg #[.slice none 0 0, .int .i64 0, .int .i64 0, .int .i64 0, .int .i64 0, .int .i64 0], .int .i64 2]) (by simp [results, Try.results6, go_sem, z0, z1, z2, z3, z4, z5]) rfl (next_post_bad (by omega) HC.out rfl B9.out)
set_option maxRecDepth 100000 in
set_option maxHeartbeats 4000000 in
theorem implNext_ok (A : Option Addr) (c : Nat) (xs : List Int) (b s g a l : Int) (A2 : Option Addr) (c2 : Nat) (ys : List Int) (w : World) (hr : Rd w A xs) (hr2 : Rd w A2 ys) (hn : xs.length ≤ 4000000) (hm : ys.length ≤ 3000000) (hv : tabB xs b s g a l = true) (hl : ys.length = xs.length) (hc : chipsB ys = true) (hcap : ys.length ≤ c2) :
    Calls Try.prog 6 #[tV A xs.length c b s g a l, .slice A2 ys.length c2] w (NextPost xs b s g a l ys w) := by
  have tt := tab_iff.1 hv
  have KV := Lib.hid (fun (W : World) (h : Below w.heap.size w W) => implIsTable_any A c xs b s g a l W (hr.below h) hn)
  have KA := Lib.hid (fun (W : World) (h : Below w.heap.size w W) => areChips_any A2 c2 ys W (hr2.below h) (by omega))
  have KR := Lib.hid (fun (W : World) (h : Below w.heap.size w W) => remaining_any A2 c2 ys W (hr2.below h) hm)
  have uT := Try.underlying26
  rw [hv] at KV
  rw [show rngT 0 ys = true from hc] at KA
  have hd : ((ys.length : Int) != (xs.length : Int)) = false := by rw [hl]; simp
  have iT : (Try.prog.info? 26).map (·.size) = some 6 := by kernel_rfl
  have i1 : (Try.prog.info? 2).map (·.size) = some 1 := by kernel_rfl
  have i1s : (Try.prog.info? 24).map (·.size) = some 1 := by kernel_rfl
  have n0 := blk_new w 26 [.slice A xs.length c, .int .i64 b, .int .i64 s, .int .i64 g, .int .i64 a, .int .i64 l]
  have n1 := blk_new (w.alloc (.cells ([.slice A xs.length c, .int .i64 b, .int .i64 s, .int .i64 g, .int .i64 a, .int .i64 l] : List Value).toArray 26)) 26 [.slice none 0 0, .int .i64 0, .int .i64 0, .int .i64 0, .int .i64 0, .int .i64 0]
  rw [World.size_alloc] at n1
  have N0 := Lib.hid (n0.below (bl_alloc (bl_refl _) (.cells ([.slice none 0 0, .int .i64 0, .int .i64 0, .int .i64 0, .int .i64 0, .int .i64 0] : List Value).toArray 26)))
  have N1 := Lib.hid n1
  have B := Lib.hid (bl_alloc (bl_alloc (bl_refl w) (.cells ([.slice A xs.length c, .int .i64 b, .int .i64 s, .int .i64 g, .int .i64 a, .int .i64 l] : List Value).toArray 26)) (.cells ([.slice none 0 0, .int .i64 0, .int .i64 0, .int .i64 0, .int .i64 0, .int .i64 0] : List Value).toArray 26))
  clear n0 n1
  by_cases hf : (restL ys).length < 2
  · have HC := Lib.hid (ntC_few hv hl hc hf)
    have hf' : decide (((restL ys).length : Int) < 2) = true := decide_eq_true (by omega)
    clear hv hr hr2 hc hf tt hl
    unfold tV at *
    go_enter Try.func6, Try.ntmps6
    go_wp2_with (first
      | (go_at_call 13; refine (KV.out _ B.out).mono ?_; rintro e wn ⟨rfl, hb⟩; have N0a := Lib.hid (N0.out.below hb); clear N0; have N0 := N0a; clear N0a; have N1a := Lib.hid (N1.out.below hb); clear N1; have N1 := N1a; clear N1a; have Ba := Lib.hid (bl_trans B.out hb); clear B hb; have B := Ba; clear Ba; obtain ⟨q0_0, _⟩ := N0.out.cell 0 _ rfl; obtain ⟨q0_1, _⟩ := N0.out.cell 1 _ rfl; obtain ⟨q0_2, _⟩ := N0.out.cell 2 _ rfl; obtain ⟨q0_3, _⟩ := N0.out.cell 3 _ rfl; obtain ⟨q0_4, _⟩ := N0.out.cell 4 _ rfl; obtain ⟨q0_5, _⟩ := N0.out.cell 5 _ rfl)
      | (go_at_call 18; refine (KA.out _ B.out).mono ?_; rintro e wz ⟨rfl, rfl⟩)
      | (go_at_call 20; refine (KR.out _ (bl_alloc B.out _)).mono ?_; rintro e w5 ⟨A1, c1, rfl, ho, hb⟩; have X := bl_alloc (bl_refl wn) (.cells ([.slice A xs.length c, .int .i64 b, .int .i64 s, .int .i64 g, .int .i64 a, .int .i64 l] : List Value).toArray 26); have N0a := Lib.hid ((N0.out.below X).below hb); have N1a := Lib.hid ((N1.out.below X).below hb); have N2 := Lib.hid ((blk_new wn 26 [.slice A xs.length c, .int .i64 b, .int .i64 s, .int .i64 g, .int .i64 a, .int .i64 l]).below hb); have B5 := Lib.hid (bl_trans (bl_trans B.out X) hb); have LW := Lib.hid N1.out.lt; have OR : Hid (Own w5 (wn.heap.size + 1) (.slice A1 (restL ys).length c1) (restL ys)) := Lib.hid (by rw [World.size_alloc] at ho; exact ho); have HZW := Lib.hid (Nat.le_succ_of_le B.out.size); clear X hb ho N0 N1 B q0_0 q0_1 q0_2 q0_3 q0_4 q0_5)
      | ((with_reducible refine wpList_store_at 24 rfl (.tmp 26) (.tmp 25) rfl i1s wn.heap.size 0 rfl (.slice A1 (restL ys).length c1) rfl rfl _ _ N2.out ?_ ?_); (exact (by simp)); intro w6 k6 g6; have N0 := hb_grown N0a g6 (by have := LW.out; omega); have N1 := hb_grown N1a g6 (by have := LW.out; omega); have N3 : Hid (Blk w6 wn.heap.size 26 [.slice A1 (restL ys).length c1, .int .i64 b, .int .i64 s, .int .i64 g, .int .i64 a, .int .i64 l]) := Lib.hid k6; have B := hbl_grown B5 g6 (by have := HZW.out; have := LW.out; omega); have OR6 := ho_grown OR g6 (Nat.lt_succ_self _); clear k6 g6 N0a N1a N2 B5 OR; obtain ⟨r0, _⟩ := N3.out.cell 0 _ rfl; obtain ⟨r1, _⟩ := N3.out.cell 1 _ rfl; obtain ⟨r2, _⟩ := N3.out.cell 2 _ rfl; obtain ⟨r3, _⟩ := N3.out.cell 3 _ rfl; obtain ⟨r4, _⟩ := N3.out.cell 4 _ rfl; obtain ⟨r5, _⟩ := N3.out.cell 5 _ rfl)
      | (go_at_call 21; refine (seatCount_any A1 (restL ys).length c1 b s g a l _).mono ?_; rintro e w7 ⟨rfl, hb⟩; have N0a := Lib.hid (N0.out.below hb); have N1a := Lib.hid (N1.out.below hb); have N3a := Lib.hid (N3.out.below hb); have BA := Lib.hid (bl_trans B.out hb); have OR7 := Lib.hid (OR6.out.below hb); clear hb r0 r1 r2 r3 r4 r5 N0 N1 N3 B OR6; have N1 := N1a; have B := BA; clear N1a BA; obtain ⟨p0, _⟩ := N0a.out.cell 0 _ rfl; obtain ⟨p1, _⟩ := N0a.out.cell 1 _ rfl; obtain ⟨p2, _⟩ := N0a.out.cell 2 _ rfl; obtain ⟨p3, _⟩ := N0a.out.cell 3 _ rfl; obtain ⟨p4, _⟩ := N0a.out.cell 4 _ rfl; obtain ⟨p5, _⟩ := N0a.out.cell 5 _ rfl)
      | (refine wpList_store_blk 26 6 rfl (.tmp 4) (.tmp 30) rfl iT (w.heap.size + 1) rfl [.slice none 0 0, .int .i64 0, .int .i64 0, .int .i64 0, .int .i64 0, .int .i64 0] rfl rfl (by simp [Value.oneCell']) _ N1.out rfl ?_; intro w9 k9 g9; have B9 := hbl_grown B g9 (by omega); have N9 := Lib.hid k9; clear k9 g9))
    obtain ⟨z0, _⟩ := N9.out.cell 0 _ rfl
    obtain ⟨z1, _⟩ := N9.out.cell 1 _ rfl
    obtain ⟨z2, _⟩ := N9.out.cell 2 _ rfl
    obtain ⟨z3, _⟩ := N9.out.cell 3 _ rfl
    obtain ⟨z4, _⟩ := N9.out.cell 4 _ rfl
    obtain ⟨z5, _⟩ := N9.out.cell 5 _ rfl
    exact bodyPost_ret (v := .tuple #[.agg #[.slice none 0 0, .int .i64 0, .int .i64 0, .int .i64 0, .int .i64 0, .int .i64 0], .int .i64 5]) (by simp [results, Try.results6, go_sem, z0, z1, z2, z3, z4, z5]) rfl (next_post_bad (by omega) HC.out rfl B9.out)
  · have HC := Lib.hid (ntC_ok hv hl hc hf)
    have hf' : decide (((restL ys).length : Int) < 2) = false := decide_eq_false (by omega)
    have KB := Lib.hid (fun (W : World) (h : Below w.heap.size w W) => nextButton_any A c xs b s g a l A2 c2 ys W (hr2.below h) tt.1 tt.2.1 tt.2.2.2.1 tt.2.2.2.2.1 hl hc (by omega) hcap)
    clear hv hr hr2 hc hf tt hl
    unfold tV at *
    generalize enb : newB ys b = nb at *
    have ENB := Lib.hid enb
    clear enb
    go_enter Try.func6, Try.ntmps6
    go_wp2_with (first
      | (go_at_call 13; refine (KV.out _ B.out).mono ?_; rintro e wn ⟨rfl, hb⟩; have N0a := Lib.hid (N0.out.below hb); clear N0; have N0 := N0a; clear N0a; have N1a := Lib.hid (N1.out.below hb); clear N1; have N1 := N1a; clear N1a; have Ba := Lib.hid (bl_trans B.out hb); clear B hb; have B := Ba; clear Ba; obtain ⟨q0_0, _⟩ := N0.out.cell 0 _ rfl; obtain ⟨q0_1, _⟩ := N0.out.cell 1 _ rfl; obtain ⟨q0_2, _⟩ := N0.out.cell 2 _ rfl; obtain ⟨q0_3, _⟩ := N0.out.cell 3 _ rfl; obtain ⟨q0_4, _⟩ := N0.out.cell 4 _ rfl; obtain ⟨q0_5, _⟩ := N0.out.cell 5 _ rfl)
      | (go_at_call 18; refine (KA.out _ B.out).mono ?_; rintro e wz ⟨rfl, rfl⟩)
      | (go_at_call 20; refine (KR.out _ (bl_alloc B.out _)).mono ?_; rintro e w5 ⟨A1, c1, rfl, ho, hb⟩; have X := bl_alloc (bl_refl wn) (.cells ([.slice A xs.length c, .int .i64 b, .int .i64 s, .int .i64 g, .int .i64 a, .int .i64 l] : List Value).toArray 26); have N0a := Lib.hid ((N0.out.below X).below hb); have N1a := Lib.hid ((N1.out.below X).below hb); have N2 := Lib.hid ((blk_new wn 26 [.slice A xs.length c, .int .i64 b, .int .i64 s, .int .i64 g, .int .i64 a, .int .i64 l]).below hb); have B5 := Lib.hid (bl_trans (bl_trans B.out X) hb); have LW := Lib.hid N1.out.lt; have OR : Hid (Own w5 (wn.heap.size + 1) (.slice A1 (restL ys).length c1) (restL ys)) := Lib.hid (by rw [World.size_alloc] at ho; exact ho); have HZW := Lib.hid (Nat.le_succ_of_le B.out.size); clear X hb ho N0 N1 B q0_0 q0_1 q0_2 q0_3 q0_4 q0_5)
      | ((with_reducible refine wpList_store_at 24 rfl (.tmp 26) (.tmp 25) rfl i1s wn.heap.size 0 rfl (.slice A1 (restL ys).length c1) rfl rfl _ _ N2.out ?_ ?_); (exact (by simp)); intro w6 k6 g6; have N0 := hb_grown N0a g6 (by have := LW.out; omega); have N1 := hb_grown N1a g6 (by have := LW.out; omega); have N3 : Hid (Blk w6 wn.heap.size 26 [.slice A1 (restL ys).length c1, .int .i64 b, .int .i64 s, .int .i64 g, .int .i64 a, .int .i64 l]) := Lib.hid k6; have B := hbl_grown B5 g6 (by have := HZW.out; have := LW.out; omega); have OR6 := ho_grown OR g6 (Nat.lt_succ_self _); clear k6 g6 N0a N1a N2 B5 OR; obtain ⟨r0, _⟩ := N3.out.cell 0 _ rfl; obtain ⟨r1, _⟩ := N3.out.cell 1 _ rfl; obtain ⟨r2, _⟩ := N3.out.cell 2 _ rfl; obtain ⟨r3, _⟩ := N3.out.cell 3 _ rfl; obtain ⟨r4, _⟩ := N3.out.cell 4 _ rfl; obtain ⟨r5, _⟩ := N3.out.cell 5 _ rfl)
      | (go_at_call 21; refine (seatCount_any A1 (restL ys).length c1 b s g a l _).mono ?_; rintro e w7 ⟨rfl, hb⟩; have N0a := Lib.hid (N0.out.below hb); have N1a := Lib.hid (N1.out.below hb); have N3a := Lib.hid (N3.out.below hb); have BA := Lib.hid (bl_trans B.out hb); have OR7 := Lib.hid (OR6.out.below hb); clear hb r0 r1 r2 r3 r4 r5 N0 N1 N3 B OR6; have N1 := N1a; have B := BA; clear N1a BA; obtain ⟨p0, _⟩ := N0a.out.cell 0 _ rfl; obtain ⟨p1, _⟩ := N0a.out.cell 1 _ rfl; obtain ⟨p2, _⟩ := N0a.out.cell 2 _ rfl; obtain ⟨p3, _⟩ := N0a.out.cell 3 _ rfl; obtain ⟨p4, _⟩ := N0a.out.cell 4 _ rfl; obtain ⟨p5, _⟩ := N0a.out.cell 5 _ rfl)
      | (go_at_call 22; refine (KB.out _ B.out).mono ?_; rintro e w8 ⟨rfl, hb⟩; have N1a := Lib.hid (N1.out.below hb); have N3b := Lib.hid (N3a.out.below hb); have BA := Lib.hid (bl_trans B.out hb); have OR8 := Lib.hid (OR7.out.below hb); clear hb p0 p1 p2 p3 p4 p5 N0a N1 N3a B OR7)
      | ((with_reducible refine wpList_store_at 2 rfl (.tmp 34) (.tmp 33) rfl i1 wn.heap.size 1 rfl (.int .i64 nb) rfl rfl _ _ N3b.out ?_ ?_); (exact (by simp)); intro w6 k6 g6; have N1 := hb_grown N1a g6 (by have := LW.out; omega); have N4 : Hid (Blk w6 wn.heap.size 26 [.slice A1 (restL ys).length c1, .int .i64 nb, .int .i64 s, .int .i64 g, .int .i64 a, .int .i64 l]) := Lib.hid k6; have B := hbl_grown BA g6 (by have := HZW.out; have := LW.out; omega); have OR9 := ho_grown OR8 g6 (Nat.lt_succ_self _); clear k6 g6 N1a N3b BA OR8)
      | (with_reducible refine wpList_load_blk 26 _ 6 rfl (.tmp 6) rfl uT rfl iT wn.heap.size 0 rfl [.slice A1 (restL ys).length c1, .int .i64 nb, .int .i64 s, .int .i64 g, .int .i64 a, .int .i64 l] rfl N4.out.range ?_)
      | (refine wpList_store_blk 26 6 rfl (.tmp 4) (.tmp 35) rfl iT (w.heap.size + 1) rfl [.slice A1 (restL ys).length c1, .int .i64 nb, .int .i64 s, .int .i64 g, .int .i64 a, .int .i64 l] rfl rfl (by simp [Value.oneCell']) _ N1.out rfl ?_; intro w9 k9 g9; have B9 := hbl_grown B g9 (by omega); have N9 := Lib.hid k9; have O9 := ho_grown OR9 g9 (Nat.lt_succ_of_lt LW.out); clear k9 g9))
    obtain ⟨z0, _⟩ := N9.out.cell 0 _ rfl
    obtain ⟨z1, _⟩ := N9.out.cell 1 _ rfl
    obtain ⟨z2, _⟩ := N9.out.cell 2 _ rfl
    obtain ⟨z3, _⟩ := N9.out.cell 3 _ rfl
    obtain ⟨z4, _⟩ := N9.out.cell 4 _ rfl
    obtain ⟨z5, _⟩ := N9.out.cell 5 _ rfl
    exact bodyPost_ret (v := .tuple #[.agg #[.slice A1 (restL ys).length c1, .int .i64 nb, .int .i64 s, .int .i64 g, .int .i64 a, .int .i64 l], .int .i64 0]) (by simp [results, Try.results6, go_sem, z0, z1, z2, z3, z4, z5]) rfl (next_post_ok HC.out A1 c1 (by rw [ENB.out]) (Row.of_own (O9.out.less HZW.out)) B9.out)
theorem implNext_any (A : Option Addr) (c : Nat) (xs : List Int) (b s g a l : Int) (A2 : Option Addr) (c2 : Nat) (ys : List Int) (w : World) (hr : Rd w A xs) (hr2 : Rd w A2 ys) (hn : xs.length ≤ 4000000) (hm : ys.length ≤ 3000000) (hcap : ys.length ≤ c2) :
    Calls Try.prog 6 #[tV A xs.length c b s g a l, .slice A2 ys.length c2] w (NextPost xs b s g a l ys w) := by
  rcases hv : tabB xs b s g a l with _ | _
  · exact implNext_bad A c xs b s g a l A2 c2 ys w hr hr2 hn hm (.inl hv)
  by_cases hl : ys.length = xs.length
  rotate_left
  · exact implNext_bad A c xs b s g a l A2 c2 ys w hr hr2 hn hm (.inr (.inl ⟨hv, hl⟩))
  rcases hc : chipsB ys with _ | _
  · exact implNext_bad A c xs b s g a l A2 c2 ys w hr hr2 hn hm (.inr (.inr ⟨hv, hl, hc⟩))
  · exact implNext_ok A c xs b s g a l A2 c2 ys w hr hr2 hn hm hv hl hc hcap
theorem specNext_any (A : Option Addr) (c : Nat) (xs : List Int) (b s g a l : Int) (A2 : Option Addr) (c2 : Nat) (ys : List Int) (w : World) (hr : Rd w A xs) (hr2 : Rd w A2 ys) (hn : xs.length ≤ 4000000) (hm : ys.length ≤ 3000000) :
    Calls Try.prog 7 #[tV A xs.length c b s g a l, .slice A2 ys.length c2] w (NextPost xs b s g a l ys w) := by
  rcases hv : tabB xs b s g a l with _ | _
  · exact specNext_few A c xs b s g a l A2 c2 ys w hr hn (by omega) (.inl hv)
  by_cases hl : ys.length = xs.length
  · exact specNext_long A c xs b s g a l A2 c2 ys w hr hr2 hv hl
  · exact specNext_few A c xs b s g a l A2 c2 ys w hr hn (by omega) (.inr ⟨hv, hl⟩)
end Go.Proofs.Ytimdgaclmejjhaa
