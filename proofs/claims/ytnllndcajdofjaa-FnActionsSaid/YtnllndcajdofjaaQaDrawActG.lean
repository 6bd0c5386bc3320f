/-
  Put together, what this law needs of: DrawAct, AppR, AnteTab.
-/
import Derived.Test.YtnllndcajdofjaaQaBetPassG
import Derived.Test.YtnllndcajdofjaaQaSpecBetP
import Derived.Test.YtnllndcajdofjaaQaDrawListG
import Derived.Test.YtnllndcajdofjaaQaBetHelpG
import Derived.Test.YtnllndcajdofjaaQaBoolLG
import Derived.Test.YtnllndcajdofjaaQaAnySG
import Derived.Test.YtnllndcajdofjaaQaSeatG
import Derived.BigQuiet
namespace Go.Proofs.Ytnllndcajdofjaa
open Go.RowKit
set_option linter.unusedVariables false

/-- A drawn action. -/
def DrawnAc (b : Bt) (w : World) (s : Nat) (a : Option Addr) (L c : Nat) (zs : Nat → Int) (e : Ending) (w' : World) : Prop :=
  ∃ (k x : Int), e = .returned (.agg #[.int .i64 k, .int .i64 x]) ∧ legB b k x = true ∧ Src w' s a L c zs ∧ Only s w w'
theorem pickA_row (ys : List Int) (n q : Nat) (W : World) (s : Nat) (a : Option Addr) (L c : Nat) (zs : Nat → Int) (hB : Blk W q 2 (ints ys)) (h : Src W s a L c zs) (hN : ys.length = n) (h1 : 1 < n) (h2 : n ≤ 100) (hne : q ≠ s) (lo hi : Int) (hb : ∀ y ∈ ys, lo ≤ y ∧ y ≤ hi) :
    Calls Try.prog 74 #[.pointer (some ⟨s, 0, none⟩), .slice (some ⟨q, 0, none⟩) n n] W (Drew lo hi W s a L c zs) :=
  pick_any s q n (nth ys) lo hi a L c zs _ (by omega) (by omega) (fun i hi => (hB.int i (by omega)).1) (fun i hi => hb _ (nth_mem ys i (by omega))) hne h
theorem src_boxA {w0 W W' : World} {s g : Nat} {a : Option Addr} {L c : Nat} {zs : Nat → Int} (h : Src W s a L c zs) (hs : s < w0.heap.size) (hB : CodeB w0.heap.size a L) (hg : W.grownBy W' (some g)) (hl : w0.heap.size ≤ g) : Src W' s a L c zs :=
  src_grown (B := w0.heap.size) h hg (fun j e => by injection e with e; omega) hs hB
theorem only_boxA {w0 W W' : World} {s g : Nat} (h : Only s w0 W) (hg : W.grownBy W' (some g)) (hl : w0.heap.size ≤ g) : Only s w0 W' :=
  only_grown h hg (fun j e => by injection e with e; omega)
theorem leg_bds {b : Bt} (k : Ok b) (h : 0 < mostI b) : 0 ≤ leastI b ∧ leastI b ≤ mostI b ∧ mostI b ≤ 600000 :=
  ⟨(raise_bd k (leg_raise h (Int.le_refl _) least_most)).1, least_most, (raise_bd k (leg_raise h least_most (Int.le_refl _))).2⟩
set_option maxRecDepth 100000 in
set_option maxHeartbeats 4000000 in
theorem l10DrawAction_any (s : Nat) (a : Option Addr) (L c : Nat) (zs : Nat → Int) (M : At5) (b : Bt) (w : World) (h : Src w s a L c zs) (hr : Rd5 w M b) (kk : Ok b) (ho : openB b = true) :
    Calls Try.prog 73 #[.pointer (some ⟨s, 0, none⟩), bV M b] w (DrawnAc b w s a L c zs) := by
  have hmx : Try.prog.follows .mixedOrders = true := by kernel_rfl
  have iA : (Try.prog.info? 34).map (·.size) = some 2 := by kernel_rfl
  have HS := src_lt h
  have HB := Lib.hid (codeB_of h)
  have KC := Lib.hid (fun (W : World) (hW : Rd5 W M b) => l10Choices_any M b W hW kk ho)
  have HF := Lib.hid (leg_fold b)
  have HD := Lib.hid (down_leg kk ho)
  have HDK : Hid (downK b = if checkB b = true then 1 else 2) := Lib.hid rfl
  have HRs := Lib.hid (fun (h : 0 < mostI b) (x : Int) (h1 : leastI b ≤ x) (h2 : x ≤ mostI b) => leg_raise h h1 h2)
  have HBd := Lib.hid (fun (h : 0 < mostI b) => leg_bds kk h)
  have BT := btAt_new hr
  have n1 := blk_new (w.alloc (.cells (btL M b).toArray 27)) 34 [.int .i64 0, .int .i64 0]
  rw [World.size_alloc] at n1
  have bb1 := bl_box (w := w) (L := M) (b := b)
  have bb2 := bl_alloc (bl_refl (w.alloc (.cells (btL M b).toArray 27))) (.cells ([.int .i64 0, .int .i64 0] : List Value).toArray 34)
  have BT2 := BT.below bb2
  obtain ⟨W1, eW⟩ : ∃ W1, W1 = (w.alloc (.cells (btL M b).toArray 27)).alloc (.cells ([.int .i64 0, .int .i64 0] : List Value).toArray 34) := ⟨_, rfl⟩
  have z1 : W1.heap.size = w.heap.size + 1 + 1 := by rw [eW, World.size_alloc, World.size_alloc]
  have B0 := bl_trans bb1 bb2
  rw [← eW] at BT2 n1 B0
  have NR1 := Lib.hid n1
  have B := Lib.hid B0
  have S1 := Lib.hid (h.below B0)
  have BH := Lib.hid BT2
  obtain ⟨q0, _⟩ := BT2.blk.cell 0 _ rfl
  obtain ⟨q1, _⟩ := BT2.blk.cell 1 _ rfl
  obtain ⟨q2, _⟩ := BT2.blk.cell 2 _ rfl
  obtain ⟨q3, _⟩ := BT2.blk.cell 3 _ rfl
  obtain ⟨q4, _⟩ := BT2.blk.cell 4 _ rfl
  obtain ⟨q5, _⟩ := BT2.blk.cell 5 _ rfl
  obtain ⟨q6, _⟩ := BT2.blk.cell 6 _ rfl
  obtain ⟨q7, _⟩ := BT2.blk.cell 7 _ rfl
  obtain ⟨q8, _⟩ := BT2.blk.cell 8 _ rfl
  clear h hr kk ho BT n1 bb1 bb2 BT2 B0
  unfold bV chV at *
  obtain ⟨ck, eck⟩ : ∃ ck, ck = checkB b := ⟨_, rfl⟩
  rw [← eck] at KC HDK
  clear eck
  generalize callI b = x1 at *
  generalize leastI b = x2 at *
  generalize mostI b = x3 at *
  go_enter Try.func73, Try.ntmps73
  go_wp2_with fail
  simp only [btL, List.toArray] at eW
  rw [← eW]
  clear eW
  have ARM := Lib.hid (KC.out W1 BH.out.rd)
  by_cases h3 : 0 < x3
  · obtain ⟨x20, x23, x36⟩ := HBd.out h3
    have gt3 : (decide (x3 > 0)) = true := decide_eq_true h3
    have HRr := Lib.hid (HRs.out h3)
    clear HRs HBd
    go_wp2_with (first
      | (go_at_call 70; refine ARM.out.mono ?_; rintro e w2 ⟨rfl, hb⟩; have hx := bl_trans hb (bl_alloc (bl_refl w2) (.cells ([.bool ck, .int .i64 x1, .int .i64 x2, .int .i64 x3] : List Value).toArray 30)); have S3 := Lib.hid (S1.out.below hx); have Y3 := Lib.hid (only_below (s := s) (bl_trans B.out hx)); have NR3 := Lib.hid (NR1.out.below hx); have NC3 := Lib.hid (blk_new w2 30 [.bool ck, .int .i64 x1, .int .i64 x2, .int .i64 x3]); have gs3 : Hid (W1.heap.size ≤ w2.heap.size) := Lib.hid hb.size; have NCb := NC3.out; obtain ⟨r3, -⟩ := NCb.cell 3 _ rfl; clear hb hx NCb)
      | (go_at_call 72; ((with_reducible refine (next_any _ 3 _ _ _ _ _ (by omega) (by omega) S3.out).mono ?_); rintro e w4 ⟨y, rfl, y0, y1, hs, ho⟩; have S4 := Lib.hid hs; have Y4 := Lib.hid (only_trans Y3.out ho); have NR4 := Lib.hid (blk_only NR3.out ho (by omega)); have NC4 := Lib.hid (blk_only NC3.out ho (by have := gs3.out; omega)); have NCb := NC4.out; clear r3; obtain ⟨r0, -⟩ := NCb.cell 0 _ rfl; obtain ⟨r3, -⟩ := NCb.cell 3 _ rfl; clear hs ho NCb)))
    · clear r0 r3 HF HD HDK
      refine wp_region_R (R := fun a b => Below a.heap.size a b) (I := fun W' => Only s w4 W') (last := 21) (k := 21) (fun _ => bl_refl _) hmx rfl (fun HC0 => ?_)
      refine wpAnyR_takeL (i := 0) (kw := 3) (v := .pointer (some ⟨s, 0, none⟩)) (fun _ => bl_refl _) (fun p q => bl_trans p q) rfl rfl (by kernel_rfl) (by kernel_rfl) (by kernel_rfl) (by kernel_rfl) (fun _ _ _ h => h) HC0 (Or.inl ⟨by kernel_rfl, fun W' hI => ?_⟩) (fun HC1 => ?_)
      · exact .inl (by go_simp)
      refine wpAnyR_takeL (i := 1) (kw := 5) (v := .pointer (some ⟨w2.heap.size, 2, none⟩)) (fun _ => bl_refl _) (fun p q => bl_trans p q) rfl rfl (by kernel_rfl) (by kernel_rfl) (by kernel_rfl) (by kernel_rfl) (fun _ _ _ h => h) HC1 (Or.inl ⟨by kernel_rfl, fun W' hI => ?_⟩) (fun HC2 => ?_)
      · exact .inl (by go_simp)
      refine wpAnyR_takeL (i := 2) (kw := 4) (v := .int .i64 x2) (fun _ => bl_refl _) (fun p q => bl_trans p q) rfl rfl (by kernel_rfl) (by kernel_rfl) (by kernel_rfl) (by kernel_rfl) (fun _ _ _ h => h) HC2 (Or.inl ⟨by kernel_rfl, fun W' hI => ?_⟩) (fun HC3 => ?_)
      · have hv := blk_only NC4.out hI (by have := gs3.out; omega)
        obtain ⟨z2, _⟩ := hv.cell 2 _ rfl
        exact .inl (by go_simp)
      refine wpAnyR_takeL (i := 3) (kw := 5) (v := .pointer (some ⟨w2.heap.size, 2, none⟩)) (fun _ => bl_refl _) (fun p q => bl_trans p q) rfl rfl (by kernel_rfl) (by kernel_rfl) (by kernel_rfl) (by kernel_rfl) (fun _ _ _ h => h) HC3 (Or.inl ⟨by kernel_rfl, fun W' hI => ?_⟩) (fun HC4 => ?_)
      · exact .inl (by go_simp)
      refine wpAnyR_takeL (i := 4) (kw := 4) (v := .int .i64 x2) (fun _ => bl_refl _) (fun p q => bl_trans p q) rfl rfl (by kernel_rfl) (by kernel_rfl) (by kernel_rfl) (by kernel_rfl) (fun _ _ _ h => h) HC4 (Or.inl ⟨by kernel_rfl, fun W' hI => ?_⟩) (fun HC5 => ?_)
      · have hv := blk_only NC4.out hI (by have := gs3.out; omega)
        obtain ⟨z2, _⟩ := hv.cell 2 _ rfl
        exact .inl (by go_simp)
      refine wpAnyR_takeL (i := 5) (kw := 5) (v := .pointer (some ⟨w2.heap.size, 3, none⟩)) (fun _ => bl_refl _) (fun p q => bl_trans p q) rfl rfl (by kernel_rfl) (by kernel_rfl) (by kernel_rfl) (by kernel_rfl) (fun _ _ _ h => h) HC5 (Or.inl ⟨by kernel_rfl, fun W' hI => ?_⟩) (fun HC6 => ?_)
      · exact .inl (by go_simp)
      refine wpAnyR_takeL (i := 6) (kw := 4) (v := .int .i64 x3) (fun _ => bl_refl _) (fun p q => bl_trans p q) rfl rfl (by kernel_rfl) (by kernel_rfl) (by kernel_rfl) (by kernel_rfl) (fun _ _ _ h => h) HC6 (Or.inl ⟨by kernel_rfl, fun W' hI => ?_⟩) (fun HC7 => ?_)
      · have hv := blk_only NC4.out hI (by have := gs3.out; omega)
        obtain ⟨z3, _⟩ := hv.cell 3 _ rfl
        exact .inl (by go_simp)
      refine wpAnyR_takeL (i := 7) (kw := 6) (v := .pointer (some ⟨w2.heap.size, 2, none⟩)) (fun _ => bl_refl _) (fun p q => bl_trans p q) rfl rfl (by kernel_rfl) (by kernel_rfl) (by kernel_rfl) (by kernel_rfl) (fun _ _ _ h => h) HC7 (Or.inl ⟨by kernel_rfl, fun W' hI => ?_⟩) (fun HC8 => ?_)
      · exact .inl (by go_simp)
      refine wpAnyR_takeL (i := 8) (kw := 5) (v := .int .i64 x2) (fun _ => bl_refl _) (fun p q => bl_trans p q) rfl rfl (by kernel_rfl) (by kernel_rfl) (by kernel_rfl) (by kernel_rfl) (fun _ _ _ h => h) HC8 (Or.inl ⟨by kernel_rfl, fun W' hI => ?_⟩) (fun HC9 => ?_)
      · have hv := blk_only NC4.out hI (by have := gs3.out; omega)
        obtain ⟨z2, _⟩ := hv.cell 2 _ rfl
        exact .inl (by go_simp)
      refine wpAnyR_takeL (i := 9) (kw := 6) (v := .pointer (some ⟨s, 0, none⟩)) (fun _ => bl_refl _) (fun p q => bl_trans p q) rfl rfl (by kernel_rfl) (by kernel_rfl) (by kernel_rfl) (by kernel_rfl) (fun _ _ _ h => h) HC9 (Or.inl ⟨by kernel_rfl, fun W' hI => ?_⟩) (fun HC10 => ?_)
      · exact .inl (by go_simp)
      refine wpAnyR_takeL (i := 10) (kw := 9) (v := .pointer (some ⟨w2.heap.size, 3, none⟩)) (fun _ => bl_refl _) (fun p q => bl_trans p q) rfl rfl (by kernel_rfl) (by kernel_rfl) (by kernel_rfl) (by kernel_rfl) (fun _ _ _ h => h) HC10 (Or.inl ⟨by kernel_rfl, fun W' hI => ?_⟩) (fun HC11 => ?_)
      · exact .inl (by go_simp)
      refine wpAnyR_takeL (i := 11) (kw := 8) (v := .int .i64 x3) (fun _ => bl_refl _) (fun p q => bl_trans p q) rfl rfl (by kernel_rfl) (by kernel_rfl) (by kernel_rfl) (by kernel_rfl) (fun _ _ _ h => h) HC11 (Or.inl ⟨by kernel_rfl, fun W' hI => ?_⟩) (fun HC12 => ?_)
      · have hv := blk_only NC4.out hI (by have := gs3.out; omega)
        obtain ⟨z3, _⟩ := hv.cell 3 _ rfl
        exact .inl (by go_simp)
      refine wpAnyR_takeL (i := 12) (kw := 9) (v := .pointer (some ⟨w2.heap.size, 2, none⟩)) (fun _ => bl_refl _) (fun p q => bl_trans p q) rfl rfl (by kernel_rfl) (by kernel_rfl) (by kernel_rfl) (by kernel_rfl) (fun _ _ _ h => h) HC12 (Or.inl ⟨by kernel_rfl, fun W' hI => ?_⟩) (fun HC13 => ?_)
      · exact .inl (by go_simp)
      refine wpAnyR_takeL (i := 13) (kw := 8) (v := .int .i64 x2) (fun _ => bl_refl _) (fun p q => bl_trans p q) rfl rfl (by kernel_rfl) (by kernel_rfl) (by kernel_rfl) (by kernel_rfl) (fun _ _ _ h => h) HC13 (Or.inl ⟨by kernel_rfl, fun W' hI => ?_⟩) (fun HC14 => ?_)
      · have hv := blk_only NC4.out hI (by have := gs3.out; omega)
        obtain ⟨z2, _⟩ := hv.cell 2 _ rfl
        exact .inl (by go_simp)
      refine wpAnyR_takeL (i := 14) (kw := 7) (v := .int .i64 (x3 - x2)) (fun _ => bl_refl _) (fun p q => bl_trans p q) rfl rfl (by kernel_rfl) (by kernel_rfl) (by kernel_rfl) (by kernel_rfl) (fun _ _ _ h => h) HC14 (Or.inl ⟨by kernel_rfl, fun W' hI => ?_⟩) (fun HC15 => ?_)
      · exact .inl (by go_simp; first | done | exact IntWalk.i64_in _ (by omega))
      refine wpAnyR_takeL (i := 15) (kw := 6) (v := .int .i64 ((x3 - x2) + 1)) (fun _ => bl_refl _) (fun p q => bl_trans p q) rfl rfl (by kernel_rfl) (by kernel_rfl) (by kernel_rfl) (by kernel_rfl) (fun _ _ _ h => h) HC15 (Or.inl ⟨by kernel_rfl, fun W' hI => ?_⟩) (fun HC16 => ?_)
      · exact .inl (by go_simp; first | done | exact IntWalk.i64_in _ (by omega))
      refine wpAnyR_oneL HC16 (i := 16) (by kernel_rfl) rfl (by kernel_rfl) (fun w5 hr5 => ⟨only_below (bl_drewT hr5), ?_⟩)
      intro K hK
      have S5 := Lib.hid (S4.out.below (bl_drewT hr5))
      have Y5 := Lib.hid (only_below (s := s) (bl_drewT hr5))
      have KN := Lib.hid (next_pos s (x3 - x2 + 1) a L c zs w5 (by omega) (by omega) S5.out)
      clear hr5
      go_simp
      go_wp2_with (go_at_call 72; refine KN.out.mono ?_; rintro e w6 ⟨u, rfl, u0, u1, hs, ho⟩; have S6 := Lib.hid hs; have Y6 := Lib.hid (only_trans Y5.out ho); clear hs ho KN S5 Y5)
      intro HC17
      refine wpAnyR_takeL (i := 17) (kw := 4) (v := .int .i64 (x2 + u)) (fun _ => bl_refl _) (fun p q => bl_trans p q) rfl rfl (by kernel_rfl) (by kernel_rfl) (by kernel_rfl) (by kernel_rfl) (fun _ _ _ h => h) HC17 (Or.inl ⟨by kernel_rfl, fun W' hI => ?_⟩) (fun HC18 => ?_)
      · exact .inl (by go_simp; first | done | exact IntWalk.i64_in _ (by omega))
      refine wpAnyR_oneL HC18 (i := 18) (by kernel_rfl) rfl (by kernel_rfl) (fun w7 hr7 => ⟨only_trans Y6.out (only_below hr7), ?_⟩)
      intro K hK
      have X7 := Lib.hid hr7
      clear hr7
      go_simp
      refine hK _ _ ?_
      clear hK K
      intro HC19
      have hx8 := bl_trans X7.out (bl_alloc (bl_refl w7) (.cells (ints [x2, x2, x3, x2 + u] : List Value).toArray 2))
      have NB := Lib.hid (blk_new w7 2 (ints [x2, x2, x3, x2 + u]))
      have HX8 := Lib.hid hx8
      clear hx8
      refine wpAnyR_oneL HC19 (i := 19) (by kernel_rfl) rfl (by kernel_rfl) (fun w9 hr9 => ⟨only_trans Y6.out (only_below (bl_trans HX8.out hr9)), ?_⟩)
      intro K hK
      have S9 := Lib.hid (S6.out.below (bl_trans HX8.out hr9))
      have Y9 := Lib.hid (only_trans Y6.out (only_below (bl_trans HX8.out hr9)))
      have ls := src_lt S6.out
      have l7 := X7.out.size
      have KP := Lib.hid (pickA_row [x2, x2, x3, x2 + u] 4 w7.heap.size w9 s a L c zs (NB.out.below hr9) S9.out rfl (by omega) (by omega) (by omega) x2 x3 (by intro y hy; simp at hy; omega))
      clear hr9 ls l7
      go_simp
      go_wp2_with (go_at_call 74; refine KP.out.mono ?_; rintro e w10 ⟨z, rfl, z0, z1', hs, ho⟩; have S10 := Lib.hid hs; have Y10 := Lib.hid (only_trans Y9.out ho); clear hs ho KP S9 Y9)
      intro HC20
      refine wpAnyR_takeL (i := 20) (kw := 2) (v := .agg #[.int .i64 3, .int .i64 z]) (fun _ => bl_refl _) (fun p q => bl_trans p q) rfl rfl (by kernel_rfl) (by kernel_rfl) (by kernel_rfl) (by kernel_rfl) (fun _ _ _ h => h) HC20 (Or.inl ⟨by kernel_rfl, fun W' hI => ?_⟩) (fun HC21 => ?_)
      · exact .inl (by go_simp)
      refine wpAnyR_lastL (by kernel_rfl) (by kernel_rfl) rfl (by kernel_rfl) (fun wR hrR => ⟨only_trans Y10.out (only_below hrR), ?_⟩)
      intro K hK
      have SR := Lib.hid (S10.out.below hrR)
      have YR := Lib.hid (only_trans (only_trans Y4.out Y10.out) (only_below hrR))
      have NRR := Lib.hid ((blk_only NR4.out Y10.out (by omega)).below hrR)
      clear hrR
      try simp only [Act.put, List.setIfInBounds_toArray, List.set_cons_succ, List.set_cons_zero]
      refine wp_store_blk 34 2 (.tmp 4) (.tmp 36) rfl iA (w.heap.size + 1) rfl [.int .i64 3, .int .i64 z] rfl rfl (by simp [Value.oneCell']) _ NRR.out rfl ?_
      intro w11 k9 g9
      refine hK _ _ ?_
      clear hK K
      have hz2 := z0
      go_wp2_with fail
      obtain ⟨z00, _⟩ := k9.cell 0 _ rfl
      obtain ⟨z1'', _⟩ := k9.cell 1 _ rfl
      exact bodyPost_ret (v := .agg #[.int .i64 3, .int .i64 z]) (by simp [results, Try.results73, go_sem, z00, z1'']) rfl ⟨_, _, rfl, HRr.out z hz2 z1', src_boxA SR.out HS HB.out g9 (by omega), only_boxA YR.out g9 (by omega)⟩
    · rcases ck with _ | _
      · obtain ⟨r0, -⟩ := NC4.out.cell 0 _ rfl
        have hdk : downK b = 2 := HDK.out
        rw [hdk] at HD
        clear hdk
        go_wp2_with (first
          | (go_at_call 72; ((with_reducible refine (next_any _ 8 _ _ _ _ _ (by omega) (by omega) S4.out).mono ?_); rintro e w5 ⟨v, rfl, v0, v1, hs, ho⟩; have S5 := Lib.hid hs; have Y5 := Lib.hid (only_trans Y4.out ho); have NR5 := Lib.hid (blk_only NR4.out ho (by omega)); have NC5 := Lib.hid (blk_only NC4.out ho (by have := gs3.out; omega)); have NCb := NC5.out; clear r0 r3; obtain ⟨r0, -⟩ := NCb.cell 0 _ rfl; obtain ⟨r3, -⟩ := NCb.cell 3 _ rfl; clear hs ho NCb))
          | ((with_reducible refine at_st 34 (.tmp 4) (.tmp 40) rfl ?_); (refine wpList_store_blk 34 2 rfl (.tmp 4) (.tmp 40) rfl iA (w.heap.size + 1) rfl [.int .i64 0, .int .i64 0] rfl rfl (by simp [Value.oneCell']) _ NR5.out rfl ?_); intro w9 k9 g9)
          | ((with_reducible refine at_st 34 (.tmp 4) (.tmp 44) rfl ?_); (refine wpList_store_blk 34 2 rfl (.tmp 4) (.tmp 44) rfl iA (w.heap.size + 1) rfl [.int .i64 2, .int .i64 0] rfl rfl (by simp [Value.oneCell']) _ NR5.out rfl ?_); intro w9 k9 g9))
        · obtain ⟨z0, _⟩ := k9.cell 0 _ rfl
          obtain ⟨z1', _⟩ := k9.cell 1 _ rfl
          exact bodyPost_ret (v := .agg #[.int .i64 0, .int .i64 0]) (by simp [results, Try.results73, go_sem, z0, z1']) rfl ⟨_, _, rfl, HF.out, src_boxA S5.out HS HB.out g9 (by omega), only_boxA Y5.out g9 (by omega)⟩
        · obtain ⟨z0, _⟩ := k9.cell 0 _ rfl
          obtain ⟨z1', _⟩ := k9.cell 1 _ rfl
          exact bodyPost_ret (v := .agg #[.int .i64 2, .int .i64 0]) (by simp [results, Try.results73, go_sem, z0, z1']) rfl ⟨_, _, rfl, HD.out, src_boxA S5.out HS HB.out g9 (by omega), only_boxA Y5.out g9 (by omega)⟩
      · obtain ⟨r0, -⟩ := NC4.out.cell 0 _ rfl
        have hdk : downK b = 1 := HDK.out
        rw [hdk] at HD
        clear hdk
        go_wp2_with (first
          | (go_at_call 72; ((with_reducible refine (next_any _ 8 _ _ _ _ _ (by omega) (by omega) S4.out).mono ?_); rintro e w5 ⟨v, rfl, v0, v1, hs, ho⟩; have S5 := Lib.hid hs; have Y5 := Lib.hid (only_trans Y4.out ho); have NR5 := Lib.hid (blk_only NR4.out ho (by omega)); have NC5 := Lib.hid (blk_only NC4.out ho (by have := gs3.out; omega)); have NCb := NC5.out; clear r0 r3; obtain ⟨r0, -⟩ := NCb.cell 0 _ rfl; obtain ⟨r3, -⟩ := NCb.cell 3 _ rfl; clear hs ho NCb))
          | ((with_reducible refine at_st 34 (.tmp 4) (.tmp 40) rfl ?_); (refine wpList_store_blk 34 2 rfl (.tmp 4) (.tmp 40) rfl iA (w.heap.size + 1) rfl [.int .i64 0, .int .i64 0] rfl rfl (by simp [Value.oneCell']) _ NR5.out rfl ?_); intro w9 k9 g9)
          | ((with_reducible refine at_st 34 (.tmp 4) (.tmp 43) rfl ?_); (refine wpList_store_blk 34 2 rfl (.tmp 4) (.tmp 43) rfl iA (w.heap.size + 1) rfl [.int .i64 1, .int .i64 0] rfl rfl (by simp [Value.oneCell']) _ NR5.out rfl ?_); intro w9 k9 g9))
        · obtain ⟨z0, _⟩ := k9.cell 0 _ rfl
          obtain ⟨z1', _⟩ := k9.cell 1 _ rfl
          exact bodyPost_ret (v := .agg #[.int .i64 0, .int .i64 0]) (by simp [results, Try.results73, go_sem, z0, z1']) rfl ⟨_, _, rfl, HF.out, src_boxA S5.out HS HB.out g9 (by omega), only_boxA Y5.out g9 (by omega)⟩
        · obtain ⟨z0, _⟩ := k9.cell 0 _ rfl
          obtain ⟨z1', _⟩ := k9.cell 1 _ rfl
          exact bodyPost_ret (v := .agg #[.int .i64 1, .int .i64 0]) (by simp [results, Try.results73, go_sem, z0, z1']) rfl ⟨_, _, rfl, HD.out, src_boxA S5.out HS HB.out g9 (by omega), only_boxA Y5.out g9 (by omega)⟩
  · have gt3 : (decide (x3 > 0)) = false := decide_eq_false h3
    clear HRs HBd
    go_wp2_with (go_at_call 70; refine ARM.out.mono ?_; rintro e w2 ⟨rfl, hb⟩; have hx := bl_trans hb (bl_alloc (bl_refl w2) (.cells ([.bool ck, .int .i64 x1, .int .i64 x2, .int .i64 x3] : List Value).toArray 30)); have S3 := Lib.hid (S1.out.below hx); have Y3 := Lib.hid (only_below (s := s) (bl_trans B.out hx)); have NR3 := Lib.hid (NR1.out.below hx); have NC3 := Lib.hid (blk_new w2 30 [.bool ck, .int .i64 x1, .int .i64 x2, .int .i64 x3]); have gs3 : Hid (W1.heap.size ≤ w2.heap.size) := Lib.hid hb.size; have NCb := NC3.out; obtain ⟨r3, -⟩ := NCb.cell 3 _ rfl; clear hb hx NCb)
    rcases ck with _ | _
    · obtain ⟨r0, -⟩ := NC3.out.cell 0 _ rfl
      have hdk : downK b = 2 := HDK.out
      rw [hdk] at HD
      clear hdk
      go_wp2_with (first
        | (go_at_call 72; ((with_reducible refine (next_any _ 8 _ _ _ _ _ (by omega) (by omega) S3.out).mono ?_); rintro e w4 ⟨v, rfl, v0, v1, hs, ho⟩; have S4 := Lib.hid hs; have Y4 := Lib.hid (only_trans Y3.out ho); have NR4 := Lib.hid (blk_only NR3.out ho (by omega)); have NC4 := Lib.hid (blk_only NC3.out ho (by have := gs3.out; omega)); have NCb := NC4.out; clear r0 r3; obtain ⟨r0, -⟩ := NCb.cell 0 _ rfl; obtain ⟨r3, -⟩ := NCb.cell 3 _ rfl; clear hs ho NCb))
        | ((with_reducible refine at_st 34 (.tmp 4) (.tmp 40) rfl ?_); (refine wpList_store_blk 34 2 rfl (.tmp 4) (.tmp 40) rfl iA (w.heap.size + 1) rfl [.int .i64 0, .int .i64 0] rfl rfl (by simp [Value.oneCell']) _ NR4.out rfl ?_); intro w9 k9 g9)
        | ((with_reducible refine at_st 34 (.tmp 4) (.tmp 44) rfl ?_); (refine wpList_store_blk 34 2 rfl (.tmp 4) (.tmp 44) rfl iA (w.heap.size + 1) rfl [.int .i64 2, .int .i64 0] rfl rfl (by simp [Value.oneCell']) _ NR4.out rfl ?_); intro w9 k9 g9))
      · obtain ⟨z0, _⟩ := k9.cell 0 _ rfl
        obtain ⟨z1', _⟩ := k9.cell 1 _ rfl
        exact bodyPost_ret (v := .agg #[.int .i64 0, .int .i64 0]) (by simp [results, Try.results73, go_sem, z0, z1']) rfl ⟨_, _, rfl, HF.out, src_boxA S4.out HS HB.out g9 (by omega), only_boxA Y4.out g9 (by omega)⟩
      · obtain ⟨z0, _⟩ := k9.cell 0 _ rfl
        obtain ⟨z1', _⟩ := k9.cell 1 _ rfl
        exact bodyPost_ret (v := .agg #[.int .i64 2, .int .i64 0]) (by simp [results, Try.results73, go_sem, z0, z1']) rfl ⟨_, _, rfl, HD.out, src_boxA S4.out HS HB.out g9 (by omega), only_boxA Y4.out g9 (by omega)⟩
    · obtain ⟨r0, -⟩ := NC3.out.cell 0 _ rfl
      have hdk : downK b = 1 := HDK.out
      rw [hdk] at HD
      clear hdk
      go_wp2_with (first
        | (go_at_call 72; ((with_reducible refine (next_any _ 8 _ _ _ _ _ (by omega) (by omega) S3.out).mono ?_); rintro e w4 ⟨v, rfl, v0, v1, hs, ho⟩; have S4 := Lib.hid hs; have Y4 := Lib.hid (only_trans Y3.out ho); have NR4 := Lib.hid (blk_only NR3.out ho (by omega)); have NC4 := Lib.hid (blk_only NC3.out ho (by have := gs3.out; omega)); have NCb := NC4.out; clear r0 r3; obtain ⟨r0, -⟩ := NCb.cell 0 _ rfl; obtain ⟨r3, -⟩ := NCb.cell 3 _ rfl; clear hs ho NCb))
        | ((with_reducible refine at_st 34 (.tmp 4) (.tmp 40) rfl ?_); (refine wpList_store_blk 34 2 rfl (.tmp 4) (.tmp 40) rfl iA (w.heap.size + 1) rfl [.int .i64 0, .int .i64 0] rfl rfl (by simp [Value.oneCell']) _ NR4.out rfl ?_); intro w9 k9 g9)
        | ((with_reducible refine at_st 34 (.tmp 4) (.tmp 43) rfl ?_); (refine wpList_store_blk 34 2 rfl (.tmp 4) (.tmp 43) rfl iA (w.heap.size + 1) rfl [.int .i64 1, .int .i64 0] rfl rfl (by simp [Value.oneCell']) _ NR4.out rfl ?_); intro w9 k9 g9))
      · obtain ⟨z0, _⟩ := k9.cell 0 _ rfl
        obtain ⟨z1', _⟩ := k9.cell 1 _ rfl
        exact bodyPost_ret (v := .agg #[.int .i64 0, .int .i64 0]) (by simp [results, Try.results73, go_sem, z0, z1']) rfl ⟨_, _, rfl, HF.out, src_boxA S4.out HS HB.out g9 (by omega), only_boxA Y4.out g9 (by omega)⟩
      · obtain ⟨z0, _⟩ := k9.cell 0 _ rfl
        obtain ⟨z1', _⟩ := k9.cell 1 _ rfl
        exact bodyPost_ret (v := .agg #[.int .i64 1, .int .i64 0]) (by simp [results, Try.results73, go_sem, z0, z1']) rfl ⟨_, _, rfl, HD.out, src_boxA S4.out HS HB.out g9 (by omega), only_boxA Y4.out g9 (by omega)⟩
end Go.Proofs.Ytnllndcajdofjaa

namespace Go.Proofs.Ytnllndcajdofjaa
open Go.RowKit
set_option linter.unusedVariables false

theorem wp_app_own {o : Oper} {a : Go.Act} {w : World} {K : Go.Act → World → Prop} {Q : Exit → Go.Act → World → Prop} (s x : Operand)
    (ho : o.op = .call { callee := .builtin .append, args := #[s, x], argTypes := #[24, 24] })
    (lo : Nat) (v : Value) (ys : List Int) (hs : a.eval s = v) (hown : Own w lo v ys) (ad : Addr) (c : Nat) (u : Int) (hx : a.eval x = .slice (some ad) 1 c) (hu : w.cell? ad = some (.int .i64 u)) (had : ad.spot = none) (hb : ys.length ≤ 3000000) (hlo : lo ≤ w.heap.size)
    (h : ∀ v' w', Own w' lo v' (ys ++ [u]) → w.grownBy w' v.ownBlock → K (a.put o.dst v') w') : o.wp Try.prog a w K Q := by
  have hsrc : Rd w (some ad) [u] := fun _ => by
    obtain ⟨b, off, pth⟩ := ad
    simp at had
    subst had
    refine ⟨b, off, rfl, fun i hi => ?_⟩
    simp at hi
    subst hi
    exact hu
  obtain ⟨v', w', hr, h4, h3, _⟩ := run_glue w o.type lo v ys [u] (some ad) c hown hsrc (by simp; omega) hlo
  unfold Oper.wp execOp
  simp only [ho, resolve, invoke, builtin, Sem.run_bind, Sem.run_pure, Result.andThen_ok, List.map_toArray, List.map_cons, List.map_nil, hs, hx]
  have hr' : (Builtin.append_ #[24, 24] o.type #[v, .slice (some ad) 1 c]).run Try.prog w = .ok v' w' := hr
  rw [hr']
  exact h v' w' h4 h3
theorem grow_appR {ys : List Int} {W1 wr w7 w9 : World} {v v' : Value} {x : Int} (h : Grow W1 ys v wr) (hb : Below wr.heap.size wr w7) (ho : Own w9 W1.heap.size v' (ys ++ [x])) (hg : w7.grownBy w9 v.ownBlock) : Grow W1 (ys ++ [x]) v' w9 :=
  ⟨ho, (bl_trans h.2 hb).grown hg (Nat.le_trans h.2.size hb.size) (fun j hj => (World.ownsRow.lt h.1 j hj).1)⟩
theorem grow_next {ys : List Int} {W1 w w' : World} {v : Value} (h : Grow W1 ys v w) (hb : Below w.heap.size w w') : Grow W1 ys v w' := ⟨h.1.below hb, bl_trans h.2 hb⟩
end Go.Proofs.Ytnllndcajdofjaa

namespace Go.Proofs.Ytnllndcajdofjaa
open Go.RowKit
set_option linter.unusedVariables false

set_option maxRecDepth 100000 in
set_option maxHeartbeats 2000000 in
theorem specAntes_any (A : Option Addr) (c : Nat) (xs : List Int) (b s g a l : Int) (w : World) (hr : Rd w A xs) (hn : xs.length ≤ 6) :
    Calls Try.prog 160 #[tV A xs.length c b s g a l] w (NewL (anteL xs a) w) := by
  have HT := Lib.hid (fun k (hk : k < xs.length) => anteL_take xs a k hk)
  have HL := Lib.hid (anteL_len xs a)
  have HA : Hid ((anteL xs a).take xs.length = anteL xs a) := Lib.hid (List.take_of_length_le (by rw [anteL_len]; exact Nat.le_refl _))
  have hmx : Try.prog.follows .mixedOrders = true := by kernel_rfl
  obtain ⟨w0, rfl⟩ : ∃ w0 : World, w0 = w := ⟨w, rfl⟩
  have n0 := blk_new w0 49 [.slice A xs.length c, .int .i64 b, .int .i64 s, .int .i64 g, .int .i64 a, .int .i64 l]
  have N0 := Lib.hid n0
  have B := Lib.hid (bl_alloc (bl_refl w0) (.cells ([.slice A xs.length c, .int .i64 b, .int .i64 s, .int .i64 g, .int .i64 a, .int .i64 l] : List Value).toArray 49))
  clear n0
  have HR := Lib.hid (hr.below B.out)
  have GS := grow_start (w0.alloc (.cells ([.slice A xs.length c, .int .i64 b, .int .i64 s, .int .i64 g, .int .i64 a, .int .i64 l] : List Value).toArray 49))
  rw [World.size_alloc] at GS
  have GH := Lib.hid GS
  clear GS hr
  unfold tV
  go_enter Try.func160, Try.ntmps160
  go_wp2_with fail
  go_loopw [3, 4] (fun v i wr => ∃ k : Nat, k ≤ xs.length ∧ i = .int .i64 k ∧ Hid (Grow (w0.alloc (.cells ([.slice A xs.length c, .int .i64 b, .int .i64 s, .int .i64 g, .int .i64 a, .int .i64 l] : List Value).toArray 49)) ((anteL xs a).take k) v wr)) (fun _ i _ => xs.length - (intOf i).toNat)
  case atStart => exact ⟨0, Nat.zero_le _, rfl, GH⟩
  case round =>
    obtain ⟨k, hk, rfl, HS⟩ := hrel
    obtain ⟨W1, e1⟩ : ∃ W1, W1 = (w0.alloc (.cells ([.slice A xs.length c, .int .i64 b, .int .i64 s, .int .i64 g, .int .i64 a, .int .i64 l] : List Value).toArray 49)) := ⟨_, rfl⟩
    have z1 : W1.heap.size = w0.heap.size + 1 := by rw [e1]; exact World.size_alloc _ _
    rw [← e1] at HS N0 B HR
    have E1 := Lib.hid e1
    clear e1 GH
    obtain ⟨qa, _⟩ := (N0.out.below HS.out.2).cell 0 _ rfl
    by_cases hlt : k < xs.length
    · have hlt' : (k : Int) < xs.length := by omega
      have hl : ((anteL xs a).take k).length ≤ 6 := by rw [List.length_take, HL.out]; omega
      have HO := Lib.hid (HT.out k hlt)
      obtain ⟨bA, oA, rfl, hc0⟩ := HR.out.at_ (bl_refl _) k hlt
      have HC : Hid (∀ W', Below W1.heap.size W1 W' → W'.cell? ⟨bA, oA + k, none⟩ = some (.int .i64 (nth xs k))) := Lib.hid (fun W' h => (h.cell (p := ⟨bA, oA + k, none⟩) (World.block_lt_of_cell? W1 _ hc0)).trans hc0)
      clear hc0
      generalize nth xs k = x at *
      generalize (anteL xs a).take k = ys at *
      go_wp2_with fail
      clear qa
      refine wp_region_R (R := fun a b => Below a.heap.size a b) (I := fun W' => Below W1.heap.size W1 W') (last := 11) (k := 11) (fun _ => bl_refl _) hmx rfl (fun HC0 => ?_)
      refine wpAnyR_take (i := 0) (kw := 11) (v := u3) (fun _ => bl_refl _) (fun p q => bl_trans p q) rfl (by kernel_rfl) (by kernel_rfl) (by kernel_rfl) (by kernel_rfl) (fun _ _ _ h => h) HC0 (Or.inl ⟨by rfl, fun W' hI => ?_⟩) (fun HC1 => ?_)
      · exact .inl (by go_simp)
      refine wpAnyR_take (i := 1) (kw := 11) (v := .pointer (some ⟨w0.heap.size, 4, none⟩)) (fun _ => bl_refl _) (fun p q => bl_trans p q) rfl (by kernel_rfl) (by kernel_rfl) (by kernel_rfl) (by kernel_rfl) (fun _ _ _ h => h) HC1 (Or.inl ⟨by rfl, fun W' hI => ?_⟩) (fun HC2 => ?_)
      · exact .inl (by go_simp)
      refine wpAnyR_take (i := 2) (kw := 11) (v := .int .i64 a) (fun _ => bl_refl _) (fun p q => bl_trans p q) rfl (by kernel_rfl) (by kernel_rfl) (by kernel_rfl) (by kernel_rfl) (fun _ _ _ h => h) HC2 (Or.inl ⟨by rfl, fun W' hI => ?_⟩) (fun HC3 => ?_)
      · have hv := N0.out.below hI
        obtain ⟨q4, _⟩ := hv.cell 4 _ rfl
        exact .inl (by go_simp)
      refine wpAnyR_take (i := 3) (kw := 11) (v := .pointer (some ⟨w0.heap.size, 0, none⟩)) (fun _ => bl_refl _) (fun p q => bl_trans p q) rfl (by kernel_rfl) (by kernel_rfl) (by kernel_rfl) (by kernel_rfl) (fun _ _ _ h => h) HC3 (Or.inl ⟨by rfl, fun W' hI => ?_⟩) (fun HC4 => ?_)
      · exact .inl (by go_simp)
      refine wpAnyR_take (i := 4) (kw := 11) (v := .slice (some ⟨bA, oA, none⟩) xs.length c) (fun _ => bl_refl _) (fun p q => bl_trans p q) rfl (by kernel_rfl) (by kernel_rfl) (by kernel_rfl) (by kernel_rfl) (fun _ _ _ h => h) HC4 (Or.inl ⟨by rfl, fun W' hI => ?_⟩) (fun HC5 => ?_)
      · have hv := N0.out.below hI
        obtain ⟨q0, _⟩ := hv.cell 0 _ rfl
        exact .inl (by go_simp)
      refine wpAnyR_take (i := 5) (kw := 11) (v := .int .i64 k) (fun _ => bl_refl _) (fun p q => bl_trans p q) rfl (by kernel_rfl) (by kernel_rfl) (by kernel_rfl) (by kernel_rfl) (fun _ _ _ h => h) HC5 (Or.inl ⟨by rfl, fun W' hI => ?_⟩) (fun HC6 => ?_)
      · exact .inl (by go_simp)
      refine wpAnyR_take (i := 6) (kw := 11) (v := .pointer (some ⟨bA, oA + k, none⟩)) (fun _ => bl_refl _) (fun p q => bl_trans p q) rfl (by kernel_rfl) (by kernel_rfl) (by kernel_rfl) (by kernel_rfl) (fun _ _ _ h => h) HC6 (Or.inl ⟨by rfl, fun W' hI => ?_⟩) (fun HC7 => ?_)
      · exact .inl (by go_simp)
      refine wpAnyR_take (i := 7) (kw := 11) (v := .int .i64 x) (fun _ => bl_refl _) (fun p q => bl_trans p q) rfl (by kernel_rfl) (by kernel_rfl) (by kernel_rfl) (by kernel_rfl) (fun _ _ _ h => h) HC7 (Or.inl ⟨by rfl, fun W' hI => ?_⟩) (fun HC8 => ?_)
      · have hx := HC.out W' hI
        exact .inl (by go_simp)
      refine wpAnyR_take (i := 8) (kw := 11) (v := .int .i64 (minT a x)) (fun _ => bl_refl _) (fun p q => bl_trans p q) rfl (by kernel_rfl) (by kernel_rfl) (by kernel_rfl) (by kernel_rfl) (fun _ _ _ h => h) HC8 (Or.inl ⟨by rfl, fun W' hI => ?_⟩) (fun HC9 => ?_)
      · refine .inl ?_
        unfold minT
        split <;> go_simp
      refine wpAnyR_one HC9 (i := 9) (by kernel_rfl) rfl (by rfl) (fun w5 hr5 => ⟨bl_trans HS.out.2 (bl_drewT hr5), fun K hK => ?_⟩)
      go_simp
      refine hK _ _ ?_
      clear hK K
      intro HC10
      have hb5 : Below wr.heap.size wr (w5.alloc (.cells #[.int .i64 (minT a x)] 2)) := bl_trans (bl_drewT hr5) (bl_alloc (bl_refl _) _)
      have nb := blk_new w5 2 [.int .i64 (minT a x)]
      refine wpAnyR_one HC10 (i := 10) (by kernel_rfl) rfl (by rfl) (fun w7 hr7 => ⟨bl_trans HS.out.2 (bl_trans hb5 hr7), fun K hK => ?_⟩)
      have hb7 : Below wr.heap.size wr w7 := bl_trans hb5 hr7
      have HW := Lib.hid (nb.below hr7)
      refine wp_app_own (.tmp 13) (.tmp 22) rfl (w0.heap.size + 1) u3 ys (by simp [Act.eval]) ?o1 ⟨w5.heap.size, 0, none⟩ 1 (minT a x) (by simp [Act.eval]) (HW.out.cell 0 _ rfl).1 rfl (by omega) ?o2 ?_
      case o1 => have h := HS.out.1; rw [z1] at h; exact h.below hb7
      case o2 => have h1 := HS.out.2.size; have h2 := hb7.size; omega
      intro v' w8 ho8 hg8
      have HG := Lib.hid (grow_appR (v' := v') (w9 := w8) (x := minT a x) HS.out hb7 (by rw [z1]; exact ho8) hg8)
      refine hK _ _ ?_
      clear hK K ho8 hg8
      intro HC11
      refine wpAnyR_last (by kernel_rfl) (by kernel_rfl) rfl (by rfl) (fun w9 hr9 => ⟨bl_trans HG.out.2 hr9, fun K hK => ?_⟩)
      go_simp
      refine hK _ _ ?_
      clear hK K
      have HG9 := Lib.hid (grow_next HG.out hr9)
      clear hr9 HG hb7 hb5 nb HW
      go_wp2_with fail
      go_roundw
      case rel => exact ⟨k + 1, by omega, by go_num, by rw [HO.out, ← E1.out]; exact HG9⟩
      case measure => simp [intOf]; omega
    · obtain rfl : k = xs.length := by omega
      rw [HA.out] at HS
      obtain ⟨A', c', rfl, hO⟩ := own_form HS.out.1
      have HO := Lib.hid hO
      clear hO
      go_wp2_with fail
      go_ret
      exact ⟨_, _, rfl, HO.out.less (by omega), bl_trans B.out HS.out.2⟩
end Go.Proofs.Ytnllndcajdofjaa
