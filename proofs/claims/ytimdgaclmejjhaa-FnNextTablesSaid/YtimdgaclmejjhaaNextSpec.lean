/-
  The table of the next hand: the model's.
-/
import Derived.Test.YtimdgaclmejjhaaNextPure
import Derived.Test.YtimdgaclmejjhaaSpecTab
import Derived.Test.YtimdgaclmejjhaaRows2
import Derived.Test.YtimdgaclmejjhaaAnyL
import Derived.Test.YtimdgaclmejjhaaStoreB
import Derived.Test.YtimdgaclmejjhaaSpecH
namespace Go.Proofs.Ytimdgaclmejjhaa
open Go.RowKit
set_option linter.unusedVariables false

/-- A table and a code as a result. -/
def NewTC (zs : List Int) (b s g a l code : Int) (w : World) (e : Ending) (w' : World) : Prop :=
  ∃ A c, e = .returned (.tuple #[.agg #[.slice A zs.length c, .int .i64 b, .int .i64 s, .int .i64 g, .int .i64 a, .int .i64 l], .int .i64 code]) ∧ Row w' w.heap.size A zs ∧ Below w.heap.size w w'
/-- What NextTable leaves. -/
def NextPost (xs : List Int) (b s g a l : Int) (ys : List Int) (w : World) (e : Ending) (w' : World) : Prop :=
  NewTC (ntL xs b s g a l ys) (ntF xs b s g a l ys (newB ys b)) (ntF xs b s g a l ys s) (ntF xs b s g a l ys g) (ntF xs b s g a l ys a) (ntF xs b s g a l ys l) (ntC xs b s g a l ys) w e w'
theorem next_post_bad {xs : List Int} {b s g a l : Int} {ys : List Int} {k : Int} {w : World} {e : Ending} {w' : World} (hk : k ≠ 0) (h : ntC xs b s g a l ys = k)
    (he : e = .returned (.tuple #[.agg #[.slice none 0 0, .int .i64 0, .int .i64 0, .int .i64 0, .int .i64 0, .int .i64 0], .int .i64 k])) (hb : Below w.heap.size w w') : NextPost xs b s g a l ys w e w' := by
  have h0 : ntC xs b s g a l ys ≠ 0 := by rw [h]; exact hk
  unfold NextPost
  rw [(nt_bad h0).1, (nt_bad h0).2, (nt_bad h0).2, (nt_bad h0).2, (nt_bad h0).2, (nt_bad h0).2, h]
  exact ⟨none, 0, he, Row.nil _ _, hb⟩
theorem next_post_ok {xs : List Int} {b s g a l : Int} {ys : List Int} {w : World} {e : Ending} {w' : World} (h : ntC xs b s g a l ys = 0) (A : Option Addr) (c : Nat)
    (he : e = .returned (.tuple #[.agg #[.slice A (restL ys).length c, .int .i64 (newB ys b), .int .i64 s, .int .i64 g, .int .i64 a, .int .i64 l], .int .i64 0])) (hr : Row w' w.heap.size A (restL ys)) (hb : Below w.heap.size w w') : NextPost xs b s g a l ys w e w' := by
  unfold NextPost
  rw [(nt_ok h).1, (nt_ok h).2, (nt_ok h).2, (nt_ok h).2, (nt_ok h).2, (nt_ok h).2, h]
  exact ⟨A, c, he, hr, hb⟩
/-- Two rows of the call's own that lie apart. -/
def Two (base : World) (r n : List Int) (v6 v7 : Value) (wr : World) : Prop :=
  Own wr base.heap.size v6 r ∧ Own wr base.heap.size v7 n ∧ Below base.heap.size base wr ∧ ∀ k, v6.ownBlock = some k → v7.ownBlock ≠ some k
theorem own_kept {w w' : World} {lo : Nat} {v : Value} {xs : List Int} {r : Option Nat} (h : Own w lo v xs) (hg : w.grownBy w' r) (hne : ∀ k, v.ownBlock = some k → r ≠ some k) : Own w' lo v xs :=
  World.ownsRow.kept h hg (by
    rcases hq : v.ownBlock with _ | k
    · exact .inl rfl
    · exact .inr (fun e => hne k hq e.symm))
theorem own_below {w w' : World} {lo : Nat} {v : Value} {xs : List Int} (h : Own w lo v xs) (hb : Below w.heap.size w w') : Own w' lo v xs := h.below hb
theorem two_app2 {base wr w5 w6 : World} {v6 v7 v7' : Value} {r n : List Int} {x : Int} (h : Two base r n v6 v7 wr) (hb : Below wr.heap.size wr w5) (ho : Own w6 base.heap.size v7' (n ++ [x])) (hg : w5.grownBy w6 v7.ownBlock) (hv : v7'.ownBlock = v7.ownBlock ∨ v7'.ownBlock = some w5.heap.size) : Two base r (n ++ [x]) v6 v7' w6 := by
  obtain ⟨h6, h7, hbb, hap⟩ := h
  refine ⟨own_kept (h6.below hb) hg hap, ho, (bl_trans hbb hb).grown hg (Nat.le_trans hbb.size hb.size) (fun j hj => (World.ownsRow.lt h7 j hj).1), fun k hk e => ?_⟩
  rcases hv with hv | hv
  · exact hap k hk (hv ▸ e)
  · have k1 := (World.ownsRow.lt h6 k hk).2
    have k2 := hb.size
    rw [hv] at e
    have : w5.heap.size = k := by injection e
    omega
theorem two_app1 {base wr w5 w6 : World} {v6 v7 v6' : Value} {r n : List Int} {x : Int} (h : Two base r n v6 v7 wr) (hb : Below wr.heap.size wr w5) (ho : Own w6 base.heap.size v6' (r ++ [x])) (hg : w5.grownBy w6 v6.ownBlock) (hv : v6'.ownBlock = v6.ownBlock ∨ v6'.ownBlock = some w5.heap.size) : Two base (r ++ [x]) n v6' v7 w6 := by
  obtain ⟨h6, h7, hbb, hap⟩ := h
  refine ⟨ho, own_kept (h7.below hb) hg (fun k hk e => hap k e hk), (bl_trans hbb hb).grown hg (Nat.le_trans hbb.size hb.size) (fun j hj => (World.ownsRow.lt h6 j hj).1), fun k hk e => ?_⟩
  rcases hv with hv | hv
  · exact hap k (hv ▸ hk) e
  · have k1 := (World.ownsRow.lt h7 k e).2
    have k2 := hb.size
    rw [hv] at hk
    have : w5.heap.size = k := by injection hk
    omega
theorem two_next {base wr w5 : World} {v6 v7 : Value} {r n : List Int} (h : Two base r n v6 v7 wr) (hb : Below wr.heap.size wr w5) : Two base r n v6 v7 w5 := ⟨h.1.below hb, h.2.1.below hb, bl_trans h.2.2.1 hb, h.2.2.2⟩
theorem two_start (w : World) : Two w [] [] (.slice (some ⟨w.heap.size, 0, none⟩) 0 0) (.slice (some ⟨w.heap.size + 1, 0, none⟩) 0 0) ((w.alloc (.cells #[] 2)).alloc (.cells #[] 2)) := by
  have h1 : Own (w.alloc (.cells #[] 2)) w.heap.size (.slice (some ⟨w.heap.size, 0, none⟩) 0 0) [] := World.ownsRow_made w #[] 0 (Nat.le_refl _) (by unfold maxLen; omega) rfl
  have h2 : Own ((w.alloc (.cells #[] 2)).alloc (.cells #[] 2)) (w.alloc (.cells #[] 2)).heap.size (.slice (some ⟨(w.alloc (.cells #[] 2)).heap.size, 0, none⟩) 0 0) [] := World.ownsRow_made (w.alloc (.cells #[] 2)) #[] 0 (Nat.le_refl _) (by unfold maxLen; omega) rfl
  rw [World.size_alloc] at h2
  refine ⟨h1.below (bl_alloc (bl_refl _) _), h2.less (by omega), bl_alloc (bl_alloc (bl_refl w) _) _, fun k hk e => ?_⟩
  have e1 : w.heap.size = k := by injection hk
  have e2 : w.heap.size + 1 = k := by injection e
  omega
theorem gr_of {A B : World} {r : Option Nat} (hb : Below A.heap.size A B) : A.grownBy B r := ⟨hb.os, hb.tape, hb.output, hb.size, fun k hk _ => hb.block k hk⟩
theorem rd_one (w : World) (x : Int) : Rd (w.alloc (.cells #[.int .i64 x] 2)) (some ⟨w.heap.size, 0, none⟩) [x] := fun _ => by
  refine ⟨w.heap.size, 0, rfl, fun i hi => ?_⟩
  simp at hi
  subst hi
  exact ((blk_new w 2 [.int .i64 x]).cell 0 _ rfl).1
set_option maxRecDepth 100000 in
set_option maxHeartbeats 2000000 in
theorem specNext_few (A : Option Addr) (c : Nat) (xs : List Int) (b s g a l : Int) (A2 : Option Addr) (c2 : Nat) (ys : List Int) (w : World) (hr : Rd w A xs) (hn : xs.length ≤ 4000000) (hm : ys.length ≤ 4000000) (h : tabB xs b s g a l = false ∨ (tabB xs b s g a l = true ∧ ys.length ≠ xs.length)) :
    Calls Try.prog 7 #[tV A xs.length c b s g a l, .slice A2 ys.length c2] w (NextPost xs b s g a l ys w) := by
  have KV := Lib.hid (fun (W : World) (h : Below w.heap.size w W) => specIsTable_any A c xs b s g a l W (hr.below h) hn)
  have iT : (Try.prog.info? 26).map (·.size) = some 6 := by kernel_rfl
  have n0 := blk_new w 26 [.slice A xs.length c, .int .i64 b, .int .i64 s, .int .i64 g, .int .i64 a, .int .i64 l]
  have n1 := blk_new (w.alloc (.cells ([.slice A xs.length c, .int .i64 b, .int .i64 s, .int .i64 g, .int .i64 a, .int .i64 l] : List Value).toArray 26)) 26 [.slice none 0 0, .int .i64 0, .int .i64 0, .int .i64 0, .int .i64 0, .int .i64 0]
  rw [World.size_alloc] at n1
  have N0 := Lib.hid (n0.below (bl_alloc (bl_refl _) (.cells ([.slice none 0 0, .int .i64 0, .int .i64 0, .int .i64 0, .int .i64 0, .int .i64 0] : List Value).toArray 26)))
  have N1 := Lib.hid n1
  have B := Lib.hid (bl_alloc (bl_alloc (bl_refl w) (.cells ([.slice A xs.length c, .int .i64 b, .int .i64 s, .int .i64 g, .int .i64 a, .int .i64 l] : List Value).toArray 26)) (.cells ([.slice none 0 0, .int .i64 0, .int .i64 0, .int .i64 0, .int .i64 0, .int .i64 0] : List Value).toArray 26))
  clear n0 n1
  rcases h with hv | ⟨hv, hl⟩
  · have HC := Lib.hid (ntC_tab ys hv)
    rw [hv] at KV
    clear hv hr
    unfold tV at *
    go_enter Try.func7, Try.ntmps7
    go_wp2_with (first
      | (go_at_call 23; refine (KV.out _ B.out).mono ?_; rintro e wn ⟨rfl, hb⟩; have N0a := Lib.hid (N0.out.below hb); clear N0; have N0 := N0a; clear N0a; have N1a := Lib.hid (N1.out.below hb); clear N1; have N1 := N1a; clear N1a; have Ba := Lib.hid (bl_trans B.out hb); clear B hb; have B := Ba; clear Ba; obtain ⟨q0_0, _⟩ := N0.out.cell 0 _ rfl; obtain ⟨q0_1, _⟩ := N0.out.cell 1 _ rfl; obtain ⟨q0_2, _⟩ := N0.out.cell 2 _ rfl; obtain ⟨q0_3, _⟩ := N0.out.cell 3 _ rfl; obtain ⟨q0_4, _⟩ := N0.out.cell 4 _ rfl; obtain ⟨q0_5, _⟩ := N0.out.cell 5 _ rfl)
      | (refine wpList_store_blk 26 6 rfl (.tmp 4) (.tmp 13) rfl iT (w.heap.size + 1) rfl [.slice none 0 0, .int .i64 0, .int .i64 0, .int .i64 0, .int .i64 0, .int .i64 0] rfl rfl (by simp [Value.oneCell']) _ N1.out rfl ?_; intro w9 k9 g9; have B9 := hbl_grown B g9 (by omega); have N9 := Lib.hid k9; clear k9 g9))
    obtain ⟨z0, _⟩ := N9.out.cell 0 _ rfl
    obtain ⟨z1, _⟩ := N9.out.cell 1 _ rfl
    obtain ⟨z2, _⟩ := N9.out.cell 2 _ rfl
    obtain ⟨z3, _⟩ := N9.out.cell 3 _ rfl
    obtain ⟨z4, _⟩ := N9.out.cell 4 _ rfl
    obtain ⟨z5, _⟩ := N9.out.cell 5 _ rfl
    exact bodyPost_ret (v := .tuple #[.agg #[.slice none 0 0, .int .i64 0, .int .i64 0, .int .i64 0, .int .i64 0, .int .i64 0], .int .i64 1]) (by simp [results, Try.results7, go_sem, z0, z1, z2, z3, z4, z5]) rfl (next_post_bad (by omega) HC.out rfl B9.out)
  · have HC := Lib.hid (ntC_len hv hl)
    rw [hv] at KV
    have hd : ((ys.length : Int) != (xs.length : Int)) = true := by simpa using (fun q => hl (by omega))
    clear hv hr hl
    unfold tV at *
    go_enter Try.func7, Try.ntmps7
    go_wp2_with (first
      | (go_at_call 23; refine (KV.out _ B.out).mono ?_; rintro e wn ⟨rfl, hb⟩; have N0a := Lib.hid (N0.out.below hb); clear N0; have N0 := N0a; clear N0a; have N1a := Lib.hid (N1.out.below hb); clear N1; have N1 := N1a; clear N1a; have Ba := Lib.hid (bl_trans B.out hb); clear B hb; have B := Ba; clear Ba; obtain ⟨q0_0, _⟩ := N0.out.cell 0 _ rfl; obtain ⟨q0_1, _⟩ := N0.out.cell 1 _ rfl; obtain ⟨q0_2, _⟩ := N0.out.cell 2 _ rfl; obtain ⟨q0_3, _⟩ := N0.out.cell 3 _ rfl; obtain ⟨q0_4, _⟩ := N0.out.cell 4 _ rfl; obtain ⟨q0_5, _⟩ := N0.out.cell 5 _ rfl)
      | (refine wpList_store_blk 26 6 rfl (.tmp 4) (.tmp 20) rfl iT (w.heap.size + 1) rfl [.slice none 0 0, .int .i64 0, .int .i64 0, .int .i64 0, .int .i64 0, .int .i64 0] rfl rfl (by simp [Value.oneCell']) _ N1.out rfl ?_; intro w9 k9 g9; have B9 := hbl_grown B g9 (by omega); have N9 := Lib.hid k9; clear k9 g9))
    obtain ⟨z0, _⟩ := N9.out.cell 0 _ rfl
    obtain ⟨z1, _⟩ := N9.out.cell 1 _ rfl
    obtain ⟨z2, _⟩ := N9.out.cell 2 _ rfl
    obtain ⟨z3, _⟩ := N9.out.cell 3 _ rfl
    obtain ⟨z4, _⟩ := N9.out.cell 4 _ rfl
    obtain ⟨z5, _⟩ := N9.out.cell 5 _ rfl
    exact bodyPost_ret (v := .tuple #[.agg #[.slice none 0 0, .int .i64 0, .int .i64 0, .int .i64 0, .int .i64 0, .int .i64 0], .int .i64 2]) (by simp [results, Try.results7, go_sem, z0, z1, z2, z3, z4, z5]) rfl (next_post_bad (by omega) HC.out rfl B9.out)
set_option maxRecDepth 100000 in
set_option maxHeartbeats 1500000 in
theorem specNext_long (A : Option Addr) (c : Nat) (xs : List Int) (b s g a l : Int) (A2 : Option Addr) (c2 : Nat) (ys : List Int) (w : World) (hr : Rd w A xs) (hr2 : Rd w A2 ys) (hv : tabB xs b s g a l = true) (hl : ys.length = xs.length) :
    Calls Try.prog 7 #[tV A xs.length c b s g a l, .slice A2 ys.length c2] w (NextPost xs b s g a l ys w) := by
  have tt := tab_iff.1 hv
  have h6 : xs.length ≤ 6 := tt.2.1
  have h2 : 2 ≤ xs.length := tt.1
  have KV := Lib.hid (fun (W : World) (h : Below w.heap.size w W) => specIsTable_any A c xs b s g a l W (hr.below h) (by omega))
  rw [hv] at KV
  have HV := Lib.hid hv
  have HLEN := Lib.hid hl
  have HR2 := Lib.hid hr2
  have iT : (Try.prog.info? 26).map (·.size) = some 6 := by kernel_rfl
  have hd : ((ys.length : Int) != (xs.length : Int)) = false := by rw [hl]; simp
  have hy6 : ys.length ≤ 6 := by omega
  have hb0 := tt.2.2.2.1
  have hb1 : b < ys.length := by omega
  have hmx : Try.prog.follows .mixedOrders = true := by kernel_rfl
  have n0 := blk_new w 26 [.slice A xs.length c, .int .i64 b, .int .i64 s, .int .i64 g, .int .i64 a, .int .i64 l]
  have n1 := blk_new (w.alloc (.cells ([.slice A xs.length c, .int .i64 b, .int .i64 s, .int .i64 g, .int .i64 a, .int .i64 l] : List Value).toArray 26)) 26 [.slice none 0 0, .int .i64 0, .int .i64 0, .int .i64 0, .int .i64 0, .int .i64 0]
  rw [World.size_alloc] at n1
  have N0 := Lib.hid (n0.below (bl_alloc (bl_refl _) (.cells ([.slice none 0 0, .int .i64 0, .int .i64 0, .int .i64 0, .int .i64 0, .int .i64 0] : List Value).toArray 26)))
  have N1 := Lib.hid n1
  have B := Lib.hid (bl_alloc (bl_alloc (bl_refl w) (.cells ([.slice A xs.length c, .int .i64 b, .int .i64 s, .int .i64 g, .int .i64 a, .int .i64 l] : List Value).toArray 26)) (.cells ([.slice none 0 0, .int .i64 0, .int .i64 0, .int .i64 0, .int .i64 0, .int .i64 0] : List Value).toArray 26))
  clear n0 n1
  clear hv hr hr2 tt hl
  unfold tV at *
  go_enter Try.func7, Try.ntmps7
  go_wp2_with (go_at_call 23; refine (KV.out _ B.out).mono ?_; rintro e wn ⟨rfl, hb⟩; have N0a := Lib.hid (N0.out.below hb); clear N0; have N0 := N0a; clear N0a; have N1a := Lib.hid (N1.out.below hb); clear N1; have N1 := N1a; clear N1a; have Ba := Lib.hid (bl_trans B.out hb); clear B hb; have B := Ba; clear Ba; obtain ⟨q0_0, _⟩ := N0.out.cell 0 _ rfl; obtain ⟨q0_1, _⟩ := N0.out.cell 1 _ rfl; obtain ⟨q0_2, _⟩ := N0.out.cell 2 _ rfl; obtain ⟨q0_3, _⟩ := N0.out.cell 3 _ rfl; obtain ⟨q0_4, _⟩ := N0.out.cell 4 _ rfl; obtain ⟨q0_5, _⟩ := N0.out.cell 5 _ rfl)
  obtain ⟨w2, ew⟩ : ∃ w2, w2 = wn := ⟨_, rfl⟩
  have TS := Lib.hid (two_start w2)
  rw [← ew] at N0 N1 B ⊢
  clear q0_0 q0_1 q0_2 q0_3 q0_4 q0_5 ew
  have NN0 := N0
  have NN1 := N1
  have N1L := Lib.hid N1.out.lt
  have HZB := Lib.hid B.out.size
  have BB := B
  clear N0 N1 B
  go_loopw [6, 7, 8] (fun v6 v7 i wr => ∃ k : Nat, k ≤ ys.length ∧ i = .int .i64 k ∧ Hid (Two w2 (restL (ys.take k)) (numsL ys k) v6 v7 wr) ∧ Hid (∀ j, j < k → 0 ≤ nth ys j ∧ nth ys j ≤ 100000)) (fun _ _ i _ => ys.length - (intOf i).toNat)
  case atStart => exact ⟨0, Nat.zero_le _, rfl, TS, Lib.hid (fun j hj => by omega)⟩
  case round =>
    obtain ⟨k, hk, rfl, HS, HP⟩ := hrel
    obtain ⟨A6, c6, rfl, _⟩ := own_form HS.out.1
    obtain ⟨A7, c7, rfl, _⟩ := own_form HS.out.2.1
    have BR := Lib.hid (bl_trans BB.out HS.out.2.2.1)
    by_cases hlt : k < ys.length
    · obtain ⟨bA, oA, rfl, hc0⟩ := HR2.out.at_ (bl_refl _) k hlt
      have HCX : Hid (∀ W, Below w.heap.size w W → W.cell? ⟨bA, oA + k, none⟩ = some (.int .i64 (nth ys k))) := Lib.hid (fun W h => (h.cell (p := ⟨bA, oA + k, none⟩) (World.block_lt_of_cell? w _ hc0)).trans hc0)
      have hc := HCX.out wr BR.out
      clear hc0
      have hlt' : (k : Int) < ys.length := by omega
      rcases in_or_out (nth ys k) 0 100000 with ⟨h1, h3⟩ | ho
      rotate_left
      · have KS := Lib.hid (fun W : World => specIn_no (nth ys k) 0 100000 W ho)
        have HC := Lib.hid (ntC_chips HV.out (chips_no k hlt (by unfold outB at ho; omega)))
        have B := BR
        have N1 := Lib.hid (NN1.out.below HS.out.2.2.1)
        clear ho HS
        generalize nth ys k = x at *
        go_wp2_with (first
          | (go_at_call 24; refine (KS.out _).mono ?_; rintro e wz ⟨rfl, rfl⟩)
          | (refine wpList_store_blk 26 6 rfl (.tmp 4) (.tmp 35) rfl iT (w.heap.size + 1) rfl [.slice none 0 0, .int .i64 0, .int .i64 0, .int .i64 0, .int .i64 0, .int .i64 0] rfl rfl (by simp [Value.oneCell']) _ N1.out rfl ?_; intro w9 k9 g9; have B9 := hbl_grown B g9 (by omega); have N9 := Lib.hid k9; clear k9 g9))
        obtain ⟨z0, _⟩ := N9.out.cell 0 _ rfl
        obtain ⟨z1, _⟩ := N9.out.cell 1 _ rfl
        obtain ⟨z2, _⟩ := N9.out.cell 2 _ rfl
        obtain ⟨z3, _⟩ := N9.out.cell 3 _ rfl
        obtain ⟨z4, _⟩ := N9.out.cell 4 _ rfl
        obtain ⟨z5, _⟩ := N9.out.cell 5 _ rfl
        exact bodyPost_ret (v := .tuple #[.agg #[.slice none 0 0, .int .i64 0, .int .i64 0, .int .i64 0, .int .i64 0, .int .i64 0], .int .i64 2]) (by simp [results, Try.results7, go_sem, z0, z1, z2, z3, z4, z5]) rfl (next_post_bad (by omega) HC.out rfl B9.out)
      have KS := Lib.hid (fun W : World => specIn_yes (nth ys k) 0 100000 W h1 h3)
      have HPN : Hid (∀ j, j < k + 1 → 0 ≤ nth ys j ∧ nth ys j ≤ 100000) := Lib.hid (fun j hj => by
        by_cases e : j = k
        · subst e; exact ⟨h1, h3⟩
        · exact HP.out j (by omega))
      have HNN := Lib.hid (numsL_next ys k)
      have HRT := Lib.hid (restL_take ys k hlt)
      have hrl : (restL (ys.take k)).length ≤ 6 := Nat.le_trans (restL_take_len ys k) (by omega)
      have hnl : (numsL ys k).length ≤ 6 := by rw [numsL_len]; omega
      have HNL : Hid ((numsL ys k).length + [((restL (ys.take k)).length : Int)].length ≤ 4000000) := Lib.hid (by simp only [List.length_cons, List.length_nil]; omega)
      have HRL : Hid ((restL (ys.take k)).length + [nth ys k].length ≤ 4000000) := Lib.hid (by simp only [List.length_cons, List.length_nil]; omega)
      have HZ := Lib.hid HS.out.2.2.1.size
      clear hnl
      generalize nth ys k = x at *
      generalize restL (ys.take k) = rr at *
      generalize numsL ys k = nn at *
      have WB := bl_alloc (bl_refl wr) (.cells #[.int .i64 rr.length] 2)
      have HE7 := Lib.hid (HS.out.2.1.below WB)
      have HS1 := Lib.hid (rd_one wr rr.length)
      have HZ1 : Hid (w2.heap.size ≤ (wr.alloc (.cells #[.int .i64 rr.length] 2)).heap.size) := Lib.hid (Nat.le_trans HZ.out WB.size)
      clear WB
      by_cases hp : 0 < x
      · rw [if_pos hp] at HRT
        have dp : decide (0 < x) = true := decide_eq_true hp
        go_wp2_with (first
          | (go_at_call 24; refine (KS.out _).mono ?_; rintro e wz ⟨rfl, rfl⟩)
          | (at_builtin; refine wpList_glue (.tmp 36) (.tmp 39) rfl rfl w2.heap.size (.slice A7 nn.length c7) nn [(rr.length : Int)] (some ⟨wr.heap.size, 0, none⟩) 1 rfl HE7.out rfl HS1.out HNL.out HZ1.out ?_; intro A8 c8 ws w6 e8 ho8 hg8 hv8; have T2 := Lib.hid (two_app2 HS.out (bl_alloc (bl_refl wr) _) (by rw [← e8.out]; exact ho8) hg8 hv8); have hc6 := HCX.out w6 (bl_trans BB.out T2.out.2.2.1); have WB6 := bl_alloc (bl_refl w6) (.cells #[.int .i64 x] 2); have HE6 := Lib.hid (T2.out.1.below WB6); have HS6 := Lib.hid (rd_one w6 x); have HZ6 : Hid (w2.heap.size ≤ (w6.alloc (.cells #[.int .i64 x] 2)).heap.size) := Lib.hid (Nat.le_trans T2.out.2.2.1.size WB6.size); clear hc ho8 hg8 hv8 e8 WB6)
          | (at_builtin; refine wpList_glue (.tmp 46) (.tmp 51) rfl rfl w2.heap.size (.slice A6 rr.length c6) rr [x] (some ⟨w6.heap.size, 0, none⟩) 1 rfl HE6.out rfl HS6.out HRL.out HZ6.out ?_; intro A9 c9 ws9 w8 e9 ho9 hg9 hv9; have T3 := Lib.hid (two_app1 T2.out (bl_alloc (bl_refl w6) _) (by rw [← e9.out]; exact ho9) hg9 hv9); clear hc6 ho9 hg9 hv9 e9))
        go_roundw
        case rel => exact ⟨k + 1, by omega, by go_num, by rw [HNN.out, HRT.out]; exact T3, HPN⟩
        case measure => simp [intOf]; omega
      · rw [if_neg hp] at HRT
        have dp : decide (0 < x) = false := decide_eq_false hp
        go_wp2_with (first
          | (go_at_call 24; refine (KS.out _).mono ?_; rintro e wz ⟨rfl, rfl⟩)
          | (at_builtin; refine wpList_glue (.tmp 36) (.tmp 39) rfl rfl w2.heap.size (.slice A7 nn.length c7) nn [(rr.length : Int)] (some ⟨wr.heap.size, 0, none⟩) 1 rfl HE7.out rfl HS1.out HNL.out HZ1.out ?_; intro A8 c8 ws w6 e8 ho8 hg8 hv8; have T2 := Lib.hid (two_app2 HS.out (bl_alloc (bl_refl wr) _) (by rw [← e8.out]; exact ho8) hg8 hv8); have hc6 := HCX.out w6 (bl_trans BB.out T2.out.2.2.1); clear hc ho8 hg8 hv8 e8))
        go_roundw
        case rel => exact ⟨k + 1, by omega, by go_num, by rw [HNN.out, HRT.out]; exact T2, HPN⟩
        case measure => simp [intOf]; omega
    · obtain rfl : k = ys.length := by omega
      rw [take_all] at HS ⊢
      have HCH : Hid (chipsB ys = true) := Lib.hid (chips_iff.2 HP.out)
      have N1 := Lib.hid (NN1.out.below HS.out.2.2.1)
      have N0 := Lib.hid (NN0.out.below HS.out.2.2.1)
      have B := BR
      clear HP NN0 NN1 BB BR TS
      by_cases hf : (restL ys).length < 2
      · have HC := Lib.hid (ntC_few HV.out HLEN.out HCH.out hf)
        have hf' : ((restL ys).length : Int) < 2 := by omega
        clear hf HS
        go_wp2_with (refine wpList_store_blk 26 6 rfl (.tmp 4) (.tmp 56) rfl iT (w.heap.size + 1) rfl [.slice none 0 0, .int .i64 0, .int .i64 0, .int .i64 0, .int .i64 0, .int .i64 0] rfl rfl (by simp [Value.oneCell']) _ N1.out rfl ?_; intro w9 k9 g9; have B9 := hbl_grown B g9 (by omega); have N9 := Lib.hid k9; clear k9 g9)
        obtain ⟨z0, _⟩ := N9.out.cell 0 _ rfl
        obtain ⟨z1, _⟩ := N9.out.cell 1 _ rfl
        obtain ⟨z2, _⟩ := N9.out.cell 2 _ rfl
        obtain ⟨z3, _⟩ := N9.out.cell 3 _ rfl
        obtain ⟨z4, _⟩ := N9.out.cell 4 _ rfl
        obtain ⟨z5, _⟩ := N9.out.cell 5 _ rfl
        exact bodyPost_ret (v := .tuple #[.agg #[.slice none 0 0, .int .i64 0, .int .i64 0, .int .i64 0, .int .i64 0, .int .i64 0], .int .i64 5]) (by simp [results, Try.results7, go_sem, z0, z1, z2, z3, z4, z5]) rfl (next_post_bad (by omega) HC.out rfl B9.out)
      have HC := Lib.hid (ntC_ok HV.out HLEN.out HCH.out hf)
      have hhl := hops_lt ys b (by omega)
      have HHL := Lib.hid hhl
      have fb := left_bd b ys.length (by omega)
      have KL := Lib.hid (fun W : World => specLeft_any b ys.length W hb0 (by omega) (by omega) (by omega))
      have hf' : ¬ ((restL ys).length : Int) < 2 := by omega
      have hfd : decide (((restL ys).length : Int) < 2) = false := decide_eq_false hf'
      clear hf hf'
      have E0 := Lib.hid (seatAt_zero ys.length (leftI b ys.length) fb.1 fb.2)
      obtain ⟨q1, _⟩ := N0.out.cell 1 _ rfl
      go_wp2_with (go_at_call 25; refine (KL.out _).mono ?_; rintro e wz ⟨rfl, rfl⟩)
      clear KL hfd
      clear q1
      go_loop [9] (fun q => ∃ h : Nat, h ≤ hopsI ys b ∧ q = .int .i64 (seatAt ys.length (leftI b ys.length) h)) (fun q => backI ys.length (leftI b ys.length) (intOf q))
      case atStart => exact ⟨0, Nat.zero_le _, by rw [E0.out]⟩
      case round =>
        obtain ⟨h, hh, rfl⟩ := hrel
        have sb := seatAt_bd ys.length (leftI b ys.length) h (by omega)
        have HBK := Lib.hid (backI_at ys.length (leftI b ys.length) h (by omega) (by have := HHL.out; omega))
        by_cases hlt : h < hopsI ys b
        · have HBN := Lib.hid (backI_at ys.length (leftI b ys.length) (h + 1) (by omega) (by have := HHL.out; omega))
          have hz := hops_before ys b h hlt (by have := HHL.out; omega)
          have SN := Lib.hid (seatAt_next ys.length (leftI b ys.length) h)
          have KL := Lib.hid (fun W : World => specLeft_any (seatAt ys.length (leftI b ys.length) h) ys.length W sb.1 (by omega) (by omega) (by omega))
          rw [SN.out] at KL
          have hng : h < ys.length := by have := HHL.out; omega
          clear SN
          generalize en : seatAt ys.length (leftI b ys.length) (h + 1) = nx at *
          have EN := Lib.hid en
          clear en
          generalize seatAt ys.length (leftI b ys.length) h = se at *
          obtain ⟨i, rfl⟩ := Int.eq_ofNat_of_zero_le sb.1
          have hi : i < ys.length := by omega
          rw [Int.toNat_natCast] at hz
          have hy := chips_at HCH.out i hi
          obtain ⟨bA, oA, rfl, hc⟩ := (HR2.out.below B.out).at_ (bl_refl _) i hi
          have e0 : nth ys i = 0 := by omega
          rw [e0] at hc
          clear hz hy e0
          go_wp2_with (go_at_call 25; refine (KL.out _).mono ?_; rintro e wz ⟨rfl, rfl⟩)
          go_round
          case rel => exact ⟨h + 1, by omega, by rw [EN.out]⟩
          case measure => simp only [intOf]; rw [HBN.out, HBK.out]; omega
        · obtain rfl : h = hopsI ys b := by omega
          have hz := hops_at ys b HHL.out
          have HNX : Hid (newB ys b = ((restL (ys.take (seatAt ys.length (leftI b ys.length) (hopsI ys b)).toNat)).length : Int)) := Lib.hid rfl
          generalize seatAt ys.length (leftI b ys.length) (hopsI ys b) = se at *
          obtain ⟨i, rfl⟩ := Int.eq_ofNat_of_zero_le sb.1
          have hi : i < ys.length := by omega
          rw [Int.toNat_natCast] at hz HNX
          have HNB : Hid (nth (numsL ys ys.length) i = newB ys b) := Lib.hid (by rw [numsL_nth ys ys.length i hi, HNX.out])
          obtain ⟨bA, oA, rfl, hc⟩ := (HR2.out.below B.out).at_ (bl_refl _) i hi
          have hd0 : (nth ys i == 0) = false := by simp; omega
          have hnl := numsL_len ys ys.length
          obtain ⟨b7, o7, rfl, hc7⟩ := HS.out.2.1.rd.at_ (bl_refl _) i (by rw [hnl]; exact hi)
          rw [HNB.out] at hc7
          have hi7 : (i : Int) < (numsL ys ys.length).length := by rw [hnl]; omega
          clear hz HNX hnl HBK HHL E0
          generalize nth ys i = x at *
          generalize enb : newB ys b = nb at *
          have ENB := Lib.hid enb
          clear enb
          have H7 := Lib.hid hc7
          clear hc7
          go_wp2_with fail
          have H7X : Hid (∀ W', wr.grownBy W' (some (w.heap.size + 1)) → W'.cell? ⟨b7, o7 + i, none⟩ = some (.int .i64 nb)) := Lib.hid (fun W' h => (World.cell?_of_block (a := ⟨b7, o7 + i, none⟩) (h.block b7 (World.block_lt_of_cell? wr _ H7.out) (fun e => by
              have k1 := (World.ownsRow.lt HS.out.2.1 b7 rfl).1
              have k2 := N1L.out
              injection e with e
              omega))).trans H7.out)
          refine wp_region_R (R := fun a b => Below a.heap.size a b) (I := fun W' => wr.grownBy W' (some (w.heap.size + 1))) (last := 15) (k := 15) (fun _ => bl_refl _) hmx rfl (fun HC0 => ?_)
          refine wpAnyR_takeL (i := 0) (kw := 2) (v := .slice A6 (restL ys).length c6) (fun _ => bl_refl _) (fun p q => bl_trans p q) rfl rfl (by kernel_rfl) (by kernel_rfl) (by kernel_rfl) (by kernel_rfl) (fun _ _ _ h => h) HC0 (Or.inl ⟨by kernel_rfl, fun W' hI => ?_⟩) (fun HC1 => ?_)
          · exact .inl (by go_simp)
          refine wpAnyR_takeL (i := 1) (kw := 2) (v := .slice (some ⟨b7, o7, none⟩) (numsL ys ys.length).length c7) (fun _ => bl_refl _) (fun p q => bl_trans p q) rfl rfl (by kernel_rfl) (by kernel_rfl) (by kernel_rfl) (by kernel_rfl) (fun _ _ _ h => h) HC1 (Or.inl ⟨by kernel_rfl, fun W' hI => ?_⟩) (fun HC2 => ?_)
          · exact .inl (by go_simp)
          refine wpAnyR_takeL (i := 2) (kw := 2) (v := .int .i64 i) (fun _ => bl_refl _) (fun p q => bl_trans p q) rfl rfl (by kernel_rfl) (by kernel_rfl) (by kernel_rfl) (by kernel_rfl) (fun _ _ _ h => h) HC2 (Or.inl ⟨by kernel_rfl, fun W' hI => ?_⟩) (fun HC3 => ?_)
          · exact .inl (by go_simp)
          refine wpAnyR_takeL (i := 3) (kw := 2) (v := .pointer (some ⟨b7, o7 + i, none⟩)) (fun _ => bl_refl _) (fun p q => bl_trans p q) rfl rfl (by kernel_rfl) (by kernel_rfl) (by kernel_rfl) (by kernel_rfl) (fun _ _ _ h => h) HC3 (Or.inl ⟨by kernel_rfl, fun W' hI => ?_⟩) (fun HC4 => ?_)
          · exact .inl (by go_simp)
          refine wpAnyR_takeL (i := 4) (kw := 2) (v := .int .i64 nb) (fun _ => bl_refl _) (fun p q => bl_trans p q) rfl rfl (by kernel_rfl) (by kernel_rfl) (by kernel_rfl) (by kernel_rfl) (fun _ _ _ h => h) HC4 (Or.inl ⟨by kernel_rfl, fun W' hI => ?_⟩) (fun HC5 => ?_)
          · have hx := H7X.out W' hI
            exact .inl (by go_simp)
          refine wpAnyR_takeL (i := 5) (kw := 2) (v := .pointer (some ⟨w.heap.size, 2, none⟩)) (fun _ => bl_refl _) (fun p q => bl_trans p q) rfl rfl (by kernel_rfl) (by kernel_rfl) (by kernel_rfl) (by kernel_rfl) (fun _ _ _ h => h) HC5 (Or.inl ⟨by kernel_rfl, fun W' hI => ?_⟩) (fun HC6 => ?_)
          · exact .inl (by go_simp)
          refine wpAnyR_takeL (i := 6) (kw := 2) (v := .int .i64 s) (fun _ => bl_refl _) (fun p q => bl_trans p q) rfl rfl (by kernel_rfl) (by kernel_rfl) (by kernel_rfl) (by kernel_rfl) (fun _ _ _ h => h) HC6 (Or.inl ⟨by kernel_rfl, fun W' hI => ?_⟩) (fun HC7 => ?_)
          · have hv := N0.out.grown hI (fun e => by have := Option.some.inj e; omega)
            obtain ⟨q2, _⟩ := hv.cell 2 _ rfl
            exact .inl (by go_simp)
          refine wpAnyR_takeL (i := 7) (kw := 2) (v := .pointer (some ⟨w.heap.size, 3, none⟩)) (fun _ => bl_refl _) (fun p q => bl_trans p q) rfl rfl (by kernel_rfl) (by kernel_rfl) (by kernel_rfl) (by kernel_rfl) (fun _ _ _ h => h) HC7 (Or.inl ⟨by kernel_rfl, fun W' hI => ?_⟩) (fun HC8 => ?_)
          · exact .inl (by go_simp)
          refine wpAnyR_takeL (i := 8) (kw := 2) (v := .int .i64 g) (fun _ => bl_refl _) (fun p q => bl_trans p q) rfl rfl (by kernel_rfl) (by kernel_rfl) (by kernel_rfl) (by kernel_rfl) (fun _ _ _ h => h) HC8 (Or.inl ⟨by kernel_rfl, fun W' hI => ?_⟩) (fun HC9 => ?_)
          · have hv := N0.out.grown hI (fun e => by have := Option.some.inj e; omega)
            obtain ⟨q3, _⟩ := hv.cell 3 _ rfl
            exact .inl (by go_simp)
          refine wpAnyR_takeL (i := 9) (kw := 2) (v := .pointer (some ⟨w.heap.size, 4, none⟩)) (fun _ => bl_refl _) (fun p q => bl_trans p q) rfl rfl (by kernel_rfl) (by kernel_rfl) (by kernel_rfl) (by kernel_rfl) (fun _ _ _ h => h) HC9 (Or.inl ⟨by kernel_rfl, fun W' hI => ?_⟩) (fun HC10 => ?_)
          · exact .inl (by go_simp)
          refine wpAnyR_takeL (i := 10) (kw := 2) (v := .int .i64 a) (fun _ => bl_refl _) (fun p q => bl_trans p q) rfl rfl (by kernel_rfl) (by kernel_rfl) (by kernel_rfl) (by kernel_rfl) (fun _ _ _ h => h) HC10 (Or.inl ⟨by kernel_rfl, fun W' hI => ?_⟩) (fun HC11 => ?_)
          · have hv := N0.out.grown hI (fun e => by have := Option.some.inj e; omega)
            obtain ⟨q4, _⟩ := hv.cell 4 _ rfl
            exact .inl (by go_simp)
          refine wpAnyR_takeL (i := 11) (kw := 2) (v := .pointer (some ⟨w.heap.size, 5, none⟩)) (fun _ => bl_refl _) (fun p q => bl_trans p q) rfl rfl (by kernel_rfl) (by kernel_rfl) (by kernel_rfl) (by kernel_rfl) (fun _ _ _ h => h) HC11 (Or.inl ⟨by kernel_rfl, fun W' hI => ?_⟩) (fun HC12 => ?_)
          · exact .inl (by go_simp)
          refine wpAnyR_takeL (i := 12) (kw := 2) (v := .int .i64 l) (fun _ => bl_refl _) (fun p q => bl_trans p q) rfl rfl (by kernel_rfl) (by kernel_rfl) (by kernel_rfl) (by kernel_rfl) (fun _ _ _ h => h) HC12 (Or.inl ⟨by kernel_rfl, fun W' hI => ?_⟩) (fun HC13 => ?_)
          · have hv := N0.out.grown hI (fun e => by have := Option.some.inj e; omega)
            obtain ⟨q5, _⟩ := hv.cell 5 _ rfl
            exact .inl (by go_simp)
          refine wpAnyR_takeL (i := 13) (kw := 2) (v := .agg #[.slice A6 (restL ys).length c6, .int .i64 nb, .int .i64 s, .int .i64 g, .int .i64 a, .int .i64 l]) (fun _ => bl_refl _) (fun p q => bl_trans p q) rfl rfl (by kernel_rfl) (by kernel_rfl) (by kernel_rfl) (by kernel_rfl) (fun _ _ _ h => h) HC13 (Or.inl ⟨by kernel_rfl, fun W' hI => ?_⟩) (fun HC14 => ?_)
          · exact .inl (by go_simp)
          refine wpAnyR_oneL HC14 (i := 14) (by kernel_rfl) rfl (by kernel_rfl) (fun w9 hr9 => ⟨gr_of (bl_drewT hr9), ?_⟩)
          intro K hK
          have hb9 := bl_drewT hr9
          have GR9 := Lib.hid (gr_of (r := some (w.heap.size + 1)) hb9)
          have N19 := Lib.hid (N1.out.below hb9)
          have B9 := Lib.hid (bl_trans B.out hb9)
          have HS9 := Lib.hid (two_next HS.out hb9)
          clear hb9 hr9
          simp only [Act.put, List.setIfInBounds_toArray, List.set_cons_succ, List.set_cons_zero]
          refine wp_store_blk 26 6 (.tmp 4) (.tmp 84) rfl iT (w.heap.size + 1) (by kernel_rfl) [.slice A6 (restL ys).length c6, .int .i64 nb, .int .i64 s, .int .i64 g, .int .i64 a, .int .i64 l] (by kernel_rfl) rfl (by simp [Value.oneCell']) _ N19.out rfl ?_
          intro w8 k8 g8
          refine hK _ _ ?_
          clear hK K
          have NR := Lib.hid k8
          have BR := hbl_grown B9 g8 (by omega)
          have HZW := Lib.hid HZB.out
          have GR8 := Lib.hid (World.grownBy.trans GR9.out g8)
          have OR : Hid (Own w8 w2.heap.size (.slice A6 (restL ys).length c6) (restL ys)) := Lib.hid (own_kept HS9.out.1 g8 (fun k hk e => by
            have k1 := (World.ownsRow.lt HS9.out.1 k hk).1
            have k2 := N1L.out
            injection e with e
            omega))
          clear k8 g8
          intro HC15
          refine wpAnyR_lastL (by kernel_rfl) (by kernel_rfl) rfl (by kernel_rfl) (fun w5 hr5 => ⟨World.grownBy.trans GR8.out (gr_of hr5), ?_⟩)
          intro K hK
          have N9 := Lib.hid (NR.out.below hr5)
          have B9 := Lib.hid (bl_trans BR.out hr5)
          have O9 := Lib.hid (OR.out.below hr5)
          go_simp
          refine hK _ _ ?_
          clear hK K hr5
          go_wp2_with fail
          obtain ⟨z0, _⟩ := N9.out.cell 0 _ rfl
          obtain ⟨z1, _⟩ := N9.out.cell 1 _ rfl
          obtain ⟨z2, _⟩ := N9.out.cell 2 _ rfl
          obtain ⟨z3, _⟩ := N9.out.cell 3 _ rfl
          obtain ⟨z4, _⟩ := N9.out.cell 4 _ rfl
          obtain ⟨z5, _⟩ := N9.out.cell 5 _ rfl
          exact bodyPost_ret (v := .tuple #[.agg #[.slice A6 (restL ys).length c6, .int .i64 nb, .int .i64 s, .int .i64 g, .int .i64 a, .int .i64 l], .int .i64 0]) (by simp [results, Try.results7, go_sem, z0, z1, z2, z3, z4, z5]) rfl (next_post_ok HC.out A6 c6 (by rw [ENB.out]) (Row.of_own (O9.out.less HZW.out)) B9.out)
end Go.Proofs.Ytimdgaclmejjhaa
