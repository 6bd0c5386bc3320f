/-
  RiffleDeck, UnriffleDeck: the model's walks.
-/
import Derived.Test.YtafifipnfhekiaaDeckOps
import Derived.Test.YtafifipnfhekiaaGlue
namespace Go.Proofs.Ytafifipnfhekiaa
open Go.RowKit
set_option linter.unusedVariables false

theorem rd_new2 (w : World) (x y : Int) : Rd (w.alloc (.cells #[.int .i64 x, .int .i64 y] 2)) (some ⟨w.heap.size, 0, none⟩) [x, y] := fun _ => by
  refine ⟨w.heap.size, 0, rfl, fun i hi => ?_⟩
  have h : (w.alloc (.cells #[.int .i64 x, .int .i64 y] 2)).heap[w.heap.size]? = some (.cells #[.int .i64 x, .int .i64 y] 2) := heap_alloc_new w _
  match i, hi with
  | 0, _ => rw [cell_of_row _ _ _ _ _ _ h]; rfl
  | 1, _ => rw [cell_of_row _ _ _ _ _ _ h]; rfl
theorem grow_glue {ys zs : List Int} {w wr W w1 : World} {v : Value} {A : Option Addr} {c : Nat} (h : Grow w ys v wr) (hb : Below wr.heap.size wr W) (ho : Own w1 w.heap.size (.slice A zs.length c) zs) (hg : W.grownBy w1 v.ownBlock) : Grow w zs (.slice A zs.length c) w1 :=
  ⟨ho, bl_app (bl_trans h.2 hb) (h.1.below hb) (Nat.le_refl _) hg⟩

theorem size_da {n : Nat} {w : World} {o : Obj} (h : n ≤ w.heap.size) : n ≤ ((w.alloc o).drew).heap.size := Nat.le_trans h (by show w.heap.size ≤ (w.alloc o).heap.size; simp)
set_option maxRecDepth 100000 in
set_option maxHeartbeats 2000000 in
theorem specRiffle_any (A : Option Addr) (c : Nat) (xs : List Int) (w : World) (hr : Rd w A xs) (hn : xs.length ≤ 4000000) :
    Calls Try.prog 16 #[.slice A xs.length c] w (NewRC (rifR xs) (codeK xs) w) := by
  have K := Lib.hid (fun (c : Nat) => specIsDeck_any A c xs w hr hn)
  rcases hd : deckB xs with _ | _
  · rw [rifR_no hd, codeK_no hd]
    rw [hd] at K
    clear hd hr
    go_enter Try.func16, Try.ntmps16
    go_wp2_with (go_at_call 32; refine (K.out _).mono ?_; rintro e w1 ⟨rfl, hb⟩; have HB := Lib.hid hb; clear hb)
    go_ret2
    exact ⟨none, 0, rfl, Row.nil _ _, HB.out⟩
  · rw [rifR_yes hd, codeK_yes hd]
    rw [hd] at K
    have hl := ((deck_iff xs).1 hd).1
    obtain ⟨b, off, rfl, hc⟩ := hr (by omega)
    have HC : Hid (∀ (i : Nat) (W : World), i < 52 → Below w.heap.size w W → W.cell? ⟨b, off + i, none⟩ = some (.int .i64 (nth xs i))) := Lib.hid (fun i W hi hb => (hb.cell (p := ⟨b, off + i, none⟩) (World.block_lt_of_cell? w _ (hc i (by omega)))).trans (hc i (by omega)))
    have HE := Lib.hid (fun (k : Nat) (hk : k < 26) => rif_two k xs hk)
    have HA := Lib.hid (rif_all xs)
    have HLN := Lib.hid (perm_length rifF xs)
    rw [hl] at K ⊢
    clear hd hr hc hl hn
    generalize perm rifF xs = zs at *
    go_enter Try.func16, Try.ntmps16
    go_wp2_with (go_at_call 32; refine (K.out _).mono ?_; rintro e w1 ⟨rfl, hb⟩; have HB := Lib.hid hb; clear hb)
    go_loopw [4, 5] (fun v i wr => ∃ k : Nat, k ≤ 26 ∧ i = .int .i64 k ∧ Hid (Grow w1 (zs.take (2 * k)) v wr)) (fun _ i _ => 26 - (intOf i).toNat)
    case atStart => exact ⟨0, Nat.zero_le _, rfl, Lib.hid (grow_start w1)⟩
    case round =>
      obtain ⟨k, hk, rfl, hs⟩ := hrel
      by_cases hlt : k < 26
      · have hlt' : (k : Int) < 26 := by omega
        obtain ⟨A', c', rfl, hO⟩ := own_form hs.out.1
        have HO := Lib.hid hO
        have HB2 := Lib.hid (bl_trans HB.out hs.out.2)
        have hx := HC.out k wr (by omega) HB2.out
        have hy := HC.out (26 + k) wr (by omega) HB2.out
        have HE2 : Hid (zs.take (2 * (k + 1)) = zs.take (2 * k) ++ [nth xs k, nth xs (26 + k)]) := HE.out k hlt |> Lib.hid
        have HLT : Hid ((zs.take (2 * k)).length + 2 ≤ 4000000) := Lib.hid (by rw [List.length_take, HLN.out]; omega)
        have e1 : IntKind.i64.wrap (26 + (k : Int)) = 26 + (k : Int) := by rw [IntKind.wrap_i64]; omega
        have e2 : (0 : Int) ≤ 26 + (k : Int) := by omega
        have e3' : 26 + (k : Int) < 52 := by omega
        have e4 : (26 + (k : Int)).toNat = 26 + k := by omega
        have e5 : (k : Int) < 52 := by omega
        generalize zs.take (2 * k) = acc at *
        generalize nth xs k = x at *
        generalize nth xs (26 + k) = y at *
        clear hO
        go_wp2_with fail
        go_region_law ((refine step_glue rfl (.tmp 14) (.tmp 24) rfl w1.heap.size (.slice A' acc.length c') acc [x, y] (some ⟨wr.heap.size, 0, none⟩) 2 (by simp [Act.eval]) (HO.out.below (bl_drew (bl_alloc (bl_refl _) _))) (by simp [Act.eval]) ((rd_new2 wr x y).below (bl_drew (bl_refl _))) HLT.out (size_da hs.out.2.size) ?_); (intro A3 c3 ws3 w3 e3 ho3 hg3 _))
        all_goals
          have HG : Hid (Grow w1 (zs.take (2 * (k + 1))) (.slice A3 ws3.length c3) w3) := Lib.hid (by
            rw [HE2.out, ← e3.out]
            exact grow_glue hs.out (bl_drew (bl_alloc (bl_refl _) _)) ho3 hg3)
          clear ho3 hg3 e3
          go_wp2_with fail
          go_roundw
          case rel => exact ⟨k + 1, by omega, by go_num, HG⟩
          case measure => simp [intOf]; omega
      · obtain rfl : k = 26 := by omega
        have h := hs.out
        rw [HA.out] at h
        obtain ⟨A', c', rfl, hO⟩ := own_form h.1
        have HO := Lib.hid hO
        have HB2 := Lib.hid (bl_trans HB.out h.2)
        clear hO h
        go_wp2_with fail
        go_ret2
        exact ⟨A', c', rfl, Row.of_own (HO.out.less HB.out.size), HB2.out⟩

theorem rd_new1 (w : World) (x : Int) : Rd (w.alloc (.cells #[.int .i64 x] 2)) (some ⟨w.heap.size, 0, none⟩) [x] := fun _ => by
  refine ⟨w.heap.size, 0, rfl, fun i hi => ?_⟩
  have h : (w.alloc (.cells #[.int .i64 x] 2)).heap[w.heap.size]? = some (.cells #[.int .i64 x] 2) := heap_alloc_new w _
  match i, hi with
  | 0, _ => rw [cell_of_row _ _ _ _ _ _ h]; rfl
/-- Two rows of the call's own that grow. -/
structure Two (w : World) (ys zs : List Int) (v u : Value) (wr : World) : Prop where
  left : Own wr w.heap.size v ys
  right : Own wr w.heap.size u zs
  apart : Apart v u
  below : Below w.heap.size w wr
theorem two_start (w : World) : Two w [] [] (.slice (some ⟨w.heap.size, 0, none⟩) 0 0) (.slice (some ⟨w.heap.size + 1, 0, none⟩) 0 0) ((w.alloc (.cells #[] 2)).alloc (.cells #[] 2)) := by
  have h2 := own_new (w.alloc (.cells #[] 2))
  rw [show (w.alloc (.cells #[] 2)).heap.size = w.heap.size + 1 by simp] at h2
  refine ⟨(own_new w).below (bl_alloc (bl_refl _) _), h2.less (by omega), fun k hk hu => ?_, bl_alloc (bl_alloc (bl_refl _) _) _⟩
  have e1 : w.heap.size = k := by injection hk
  have e2 : w.heap.size + 1 = k := by injection hu
  omega
theorem two_left {w wr W w1 : World} {ys ys' zs : List Int} {v u : Value} {A : Option Addr} {c : Nat} (h : Two w ys zs v u wr) (hb : Below wr.heap.size wr W) (ho : Own w1 w.heap.size (.slice A ys'.length c) ys') (hg : W.grownBy w1 v.ownBlock)
    (hv : (Value.slice A ys'.length c).ownBlock = v.ownBlock ∨ (Value.slice A ys'.length c).ownBlock = some W.heap.size) : Two w ys' zs (.slice A ys'.length c) u w1 :=
  ⟨ho, Own.grown (h.right.below hb) hg h.apart.symm.ne, h.apart.app hv (h.right.below hb), bl_app (bl_trans h.below hb) (h.left.below hb) (Nat.le_refl _) hg⟩
theorem two_right {w wr W w1 : World} {ys zs zs' : List Int} {v u : Value} {A : Option Addr} {c : Nat} (h : Two w ys zs v u wr) (hb : Below wr.heap.size wr W) (ho : Own w1 w.heap.size (.slice A zs'.length c) zs') (hg : W.grownBy w1 u.ownBlock)
    (hv : (Value.slice A zs'.length c).ownBlock = u.ownBlock ∨ (Value.slice A zs'.length c).ownBlock = some W.heap.size) : Two w ys zs' v (.slice A zs'.length c) w1 :=
  ⟨Own.grown (h.left.below hb) hg h.apart.ne, ho, (h.apart.symm.app hv (h.left.below hb)).symm, bl_app (bl_trans h.below hb) (h.right.below hb) (Nat.le_refl _) hg⟩

set_option maxRecDepth 100000 in
set_option maxHeartbeats 2000000 in
theorem specUnriffle_any (A : Option Addr) (c : Nat) (xs : List Int) (w : World) (hr : Rd w A xs) (hn : xs.length ≤ 4000000) :
    Calls Try.prog 19 #[.slice A xs.length c] w (NewRC (unrR xs) (codeK xs) w) := by
  have K := Lib.hid (fun (c : Nat) => specIsDeck_any A c xs w hr hn)
  rcases hd : deckB xs with _ | _
  · rw [unrR_no hd, codeK_no hd]
    rw [hd] at K
    clear hd hr
    go_enter Try.func19, Try.ntmps19
    go_wp2_with (go_at_call 32; refine (K.out _).mono ?_; rintro e w1 ⟨rfl, hb⟩; have HB := Lib.hid hb; clear hb)
    go_ret2
    exact ⟨none, 0, rfl, Row.nil _ _, HB.out⟩
  · rw [unrR_yes hd, codeK_yes hd]
    rw [hd] at K
    have hl := ((deck_iff xs).1 hd).1
    obtain ⟨b, off, rfl, hc⟩ := hr (by omega)
    have HC : Hid (∀ (i : Nat) (W : World), i < 52 → Below w.heap.size w W → W.cell? ⟨b, off + i, none⟩ = some (.int .i64 (nth xs i))) := Lib.hid (fun i W hi hb => (hb.cell (p := ⟨b, off + i, none⟩) (World.block_lt_of_cell? w _ (hc i (by omega)))).trans (hc i (by omega)))
    have HE := Lib.hid (halves xs)
    have H1 : Hid (∀ k, evens (k + 1) xs = evens k xs ++ [nth xs (2 * k)]) := Lib.hid (fun k => permN_snoc _ k xs)
    have H2 : Hid (∀ k, odds (k + 1) xs = odds k xs ++ [nth xs (2 * k + 1)]) := Lib.hid (fun k => permN_snoc _ k xs)
    have HL1 : Hid (∀ k, (evens k xs).length = k) := Lib.hid (fun k => permN_length _ k xs)
    have HL2 : Hid (∀ k, (odds k xs).length = k) := Lib.hid (fun k => permN_length _ k xs)
    have HZ : Hid (evens 0 xs = [] ∧ odds 0 xs = []) := Lib.hid ⟨rfl, rfl⟩
    rw [hl] at K ⊢
    clear hd hr hc hl hn
    generalize perm unrF xs = zs at *
    go_enter Try.func19, Try.ntmps19
    go_wp2_with (go_at_call 32; refine (K.out _).mono ?_; rintro e w1 ⟨rfl, hb⟩; have HB := Lib.hid hb; clear hb)
    go_loopw [4, 5, 6] (fun v u i wr => ∃ (k : Nat) (A1 A2 : Option Addr) (c1 c2 : Nat), k ≤ 26 ∧ i = .int .i64 k ∧ v = .slice A1 k c1 ∧ u = .slice A2 k c2 ∧ Hid (Two w1 (evens k xs) (odds k xs) (.slice A1 k c1) (.slice A2 k c2) wr)) (fun _ _ i _ => 26 - (intOf i).toNat)
    case atStart => exact ⟨0, _, _, 0, 0, Nat.zero_le _, rfl, rfl, rfl, Lib.hid (by rw [HZ.out.1, HZ.out.2]; exact two_start w1)⟩
    case round =>
      obtain ⟨k, A1, A2, c1, c2, hk, rfl, rfl, rfl, hs⟩ := hrel
      by_cases hlt : k < 26
      · have hlt' : (k : Int) < 26 := by omega
        have HB2 := Lib.hid (bl_trans HB.out hs.out.below)
        have hx := HC.out (2 * k) wr (by omega) HB2.out
        have HY : Hid (∀ W, Below w.heap.size w W → W.cell? ⟨b, off + (2 * k + 1), none⟩ = some (.int .i64 (nth xs (2 * k + 1)))) := Lib.hid (fun W hW => HC.out (2 * k + 1) W (by omega) hW)
        have E1 := Lib.hid (H1.out k)
        have E2 := Lib.hid (H2.out k)
        have L1 := Lib.hid (HL1.out k)
        have L2 := Lib.hid (HL2.out k)
        have L3 := Lib.hid (HL1.out (k + 1))
        have L4 := Lib.hid (HL2.out (k + 1))
        have e4 : (2 * (k : Int)).toNat = 2 * k := by omega
        have e5 : (2 * (k : Int) + 1).toNat = 2 * k + 1 := by omega
        generalize hq1 : evens (k + 1) xs = ys' at *
        generalize hq2 : odds (k + 1) xs = zs' at *
        have Q1 := Lib.hid hq1
        have Q2 := Lib.hid hq2
        clear hq1 hq2
        generalize evens k xs = ys at *
        generalize odds k xs = us at *
        generalize nth xs (2 * k) = x at *
        generalize nth xs (2 * k + 1) = y at *
        have HO1 : Hid (Own wr w1.heap.size (.slice A1 ys.length c1) ys) := Lib.hid (by rw [L1.out]; exact hs.out.left)
        have HM1 : Hid (ys.length + [x].length ≤ 4000000) := Lib.hid (by rw [L1.out]; simp; omega)
        go_wp2_with (at_builtin; refine wpList_glue (.tmp 16) (.tmp 22) rfl rfl w1.heap.size (.slice A1 ys.length c1) ys [x] (some ⟨wr.heap.size, 0, none⟩) 1 (by rw [L1.out]; rfl) (HO1.out.below (bl_alloc (bl_refl _) _)) rfl (rd_new1 wr x) HM1.out (Nat.le_trans hs.out.below.size (by simp)) ?_)
        intro A3 c3 ws3 w3 e3 ho3 hg3 hv3
        obtain rfl : ws3 = ys' := by rw [e3.out, E1.out]
        have T3 : Hid (Two w1 ws3 us (.slice A3 (k + 1) c3) (.slice A2 k c2) w3) := Lib.hid (by
          have := two_left (v := .slice A1 k c1) hs.out (bl_alloc (bl_refl _) _) ho3 (by rw [L1.out] at hg3; exact hg3) (by rw [L1.out] at hv3; rw [show (wr.alloc (.cells #[.int .i64 x] 2)).heap.size = wr.heap.size + 1 by simp]; exact hv3)
          rwa [L3.out] at this)
        have hy := HY.out w3 (bl_trans HB.out T3.out.below)
        have HO2 : Hid (Own w3 w1.heap.size (.slice A2 us.length c2) us) := Lib.hid (by rw [L2.out]; exact T3.out.right)
        have HM2 : Hid (us.length + [y].length ≤ 4000000) := Lib.hid (by rw [L2.out]; simp; omega)
        rw [L3.out]
        clear ho3 hg3 hv3 e3
        go_wp2_with (at_builtin; refine wpList_glue (.tmp 24) (.tmp 31) rfl rfl w1.heap.size (.slice A2 us.length c2) us [y] (some ⟨w3.heap.size, 0, none⟩) 1 (by rw [L2.out]; rfl) (HO2.out.below (bl_alloc (bl_refl _) _)) rfl (rd_new1 w3 y) HM2.out (Nat.le_trans T3.out.below.size (by simp)) ?_)
        intro A4 c4 ws4 w4 e4' ho4 hg4 hv4
        obtain rfl : ws4 = zs' := by rw [e4'.out, E2.out]
        have T4 : Hid (Two w1 ws3 ws4 (.slice A3 (k + 1) c3) (.slice A4 (k + 1) c4) w4) := Lib.hid (by
          have := two_right (u := .slice A2 k c2) T3.out (bl_alloc (bl_refl _) _) ho4 (by rw [L2.out] at hg4; exact hg4) (by rw [L2.out] at hv4; rw [show (w3.alloc (.cells #[.int .i64 y] 2)).heap.size = w3.heap.size + 1 by simp]; exact hv4)
          rwa [L4.out] at this)
        rw [L4.out]
        clear ho4 hg4 hv4 e4'
        go_wp2_with fail
        go_roundw
        case rel => exact ⟨k + 1, A3, A4, c3, c4, by omega, by go_num, rfl, rfl, by rw [Q1.out, Q2.out]; exact T4⟩
        case measure => simp [intOf]; omega
      · obtain rfl : k = 26 := by omega
        have T1 := hs.out
        have l1 := HL1.out 26
        have l2 := HL2.out 26
        have HE2 := HE.out
        clear HC H1 H2 HL1 HL2 HZ HE
        generalize evens 26 xs = ys at *
        generalize odds 26 xs = us at *
        have L1 := Lib.hid l1
        have L2 := Lib.hid l2
        have HE := Lib.hid HE2
        have T := Lib.hid T1
        have HO1 : Hid (Own wr w1.heap.size (.slice A1 ys.length c1) ys) := Lib.hid (by rw [L1.out]; exact T.out.left)
        have HO2 : Hid (Own wr w1.heap.size (.slice A2 us.length c2) us) := Lib.hid (by rw [L2.out]; exact T.out.right)
        have HM : Hid (ys.length + us.length ≤ 4000000) := Lib.hid (by rw [L1.out, L2.out]; omega)
        clear l1 l2 HE2 T1 hs
        go_wp2_with (at_builtin; refine wpList_glue (.tmp 33) (.tmp 34) rfl rfl w1.heap.size (.slice A1 ys.length c1) ys us A2 c2 (by rw [L1.out]; rfl) HO1.out (by rw [L2.out]; rfl) HO2.out.rd HM.out T.out.below.size ?_)
        intro A3 c3 ws3 w3 e3 ho3 hg3 _
        obtain rfl : ws3 = zs := by rw [e3.out, HE.out]
        have HO3 := Lib.hid ho3
        have HB3 := Lib.hid (bl_trans HB.out (bl_app T.out.below HO1.out (Nat.le_refl _) hg3))
        clear ho3 hg3 e3
        go_wp2_with fail
        go_ret2
        exact ⟨A3, c3, rfl, Row.of_own (HO3.out.less HB.out.size), HB3.out⟩
end Go.Proofs.Ytafifipnfhekiaa
