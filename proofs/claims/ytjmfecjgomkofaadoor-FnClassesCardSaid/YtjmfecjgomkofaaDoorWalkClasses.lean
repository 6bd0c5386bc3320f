/-
  FnClasses: the walk.
-/
import Derived.Test.YtjmfecjgomkofaaDoorGroupsImpl
import Derived.Test.YtjmfecjgomkofaaDoorComBound
import Derived.Test.YtjmfecjgomkofaaDoorComboCount
import Derived.Test.YtjmfecjgomkofaaDoorClassFns
import Derived.Test.YtjmfecjgomkofaaDoorClsOf
import Derived.Test.YtjmfecjgomkofaaDoorDrawClsText
import Derived.Test.YtjmfecjgomkofaaDoorLikeAny
import Derived.Test.YtjmfecjgomkofaaDoorOtherCards
import Derived.Test.YtjmfecjgomkofaaDoorAnyR
namespace Go.Proofs.YtjmfecjgomkofaaDoor
open Go.RowKit
set_option linter.unusedVariables false

theorem back_class (k : Int) : clsTC k = 0 → readR (clsTR k) = k ∧ readC (clsTR k) = 0 := fun h => by
  unfold clsTC at h
  split at h
  · rename_i hc
    obtain ⟨h0, h1⟩ := (isCls_iff k).1 hc
    unfold clsTR
    rw [if_pos hc]
    have := read_text k h0 h1
    unfold readR readC
    rw [this, if_neg (by omega), if_neg (by omega)]
    exact ⟨rfl, rfl⟩
  · omega
/-- Found among the first n. -/
def fndB (R : Nat → List Int) (b : List Int) (n : Nat) : Bool := (List.range n).any (fun j => decide (R j = b))
theorem fndB_zero (R : Nat → List Int) (b : List Int) : fndB R b 0 = false := rfl
theorem fndB_succ (R : Nat → List Int) (b : List Int) (n : Nat) : fndB R b (n + 1) = (fndB R b n || decide (R n = b)) := by
  unfold fndB; rw [List.range_succ, List.any_append]; simp
theorem fndB_yes {R : Nat → List Int} {b : List Int} {n : Nat} (h : fndB R b n = true) : fndB R b (n + 1) = true := by rw [fndB_succ, h]; rfl
theorem fndB_no {R : Nat → List Int} {b : List Int} {n : Nat} (h : fndB R b n = false) : fndB R b (n + 1) = decide (R n = b) := by rw [fndB_succ, h]; rfl
/-- What ClassOf tells of two cards: their class has them as a combination. -/
theorem class_two (xs : List Int) : codeZ xs 2 2 = 0 → ∃ x y, xs = [x, y] ∧ 0 ≤ x ∧ x < 52 ∧ 0 ≤ y ∧ y < 52 ∧ clsR xs = clsI x y ∧ x ≠ y := fun h => by
  by_cases hz : sizedB xs 2 2 = true
  · obtain ⟨h1, h2, h3⟩ := sized_iff.1 hz
    obtain ⟨x, y, rfl⟩ := list_two xs (by omega)
    obtain ⟨h4, h5⟩ := (cards_iff _).1 h3
    have hx := h4 x (by simp)
    have hy := h4 y (by simp)
    exact ⟨x, y, rfl, hx.1, hx.2, hy.1, hy.2, clsR_yes hz, by simpa using h5⟩
  · rw [codeZ_no (by simpa using hz)] at h; omega
def minC (x y : Int) : Int := if y < x then y else x
def maxC (x y : Int) : Int := if y < x then x else y
theorem found_all (x y : Int) (hx : 0 ≤ x) (hx' : x < 52) (hy : 0 ≤ y) (hy' : y < 52) (hne : x ≠ y) : comC (clsI x y) [] = 0 ∧ fndB (comR (clsI x y) []) [minC x y, maxC x y] (comP (clsI x y) []).length = true := by
  have hb := cls_bd x y hx hx' hy hy'
  have e := comC_yes (dead := []) (isCls_yes hb.1 hb.2) cards_nil
  refine ⟨e.1, ?_⟩
  have hm : (minC x y, maxC x y) ∈ clsP (clsI x y) := by
    unfold minC maxC clsP
    by_cases h : y < x
    · rw [if_pos h, if_pos h, cls_comm]; exact combo_mem y x hy hx' h
    · rw [if_neg h, if_neg h]; exact combo_mem x y hx hy' (by omega)
  obtain ⟨j, hj, hje⟩ := List.getElem_of_mem hm
  unfold fndB comR
  rw [e.2, combos_nil, List.any_eq_true]
  refine ⟨j, List.mem_range.2 hj, ?_⟩
  rw [decide_eq_true_eq, List.getD_eq_getElem?_getD, List.getElem?_eq_getElem hj, Option.getD_some, hje]
  rfl

set_option maxRecDepth 100000 in
set_option maxHeartbeats 8000000 in
theorem walkClasses_in (a : Option Addr) (L c : Nat) (zs : Nat → Int) (w : World) (HT : Hid (Tz w.heap.size w)) (hL : L ≤ 4096) (hc : CodeIn w a L zs) :
    Calls Tryd.prog 3 #[.slice a L c] w (Fresh (.bool true) w) := by
  have HC := Lib.hid hc
  have hmx : Tryd.prog.follows .mixedOrders = true := by kernel_rfl
  clear hc
  go_enter Tryd.func3, Tryd.ntmps3
  go_wp2_with (go_at_call 4; ((with_reducible refine (big_no _ _ _ _ hL).mono ?_); rintro e w0 ⟨rfl, rfl⟩))
  go_wp2_with (go_at_call 5; ((with_reducible refine (drawClassOf_any _ _ _ zs _ hL HC.out).mono ?_); rintro e w1 ⟨xs, A1, c1, rfl, hl, ho1, hb1⟩; have O1 := Lib.hid ho1; have B1 := Lib.hid hb1; clear ho1 hb1))
  have hl4 : xs.length ≤ 4000000 := by omega
  obtain ⟨kc, ky, K1, K2, HTW⟩ : ∃ (kc ky : Int), Hid (∀ (A : Option Addr) (c : Nat) (W : World), Rd W A xs → Calls Tryd.prog 6 #[.slice A xs.length c] W (Fresh (pairV kc ky) W)) ∧ Hid (∀ (A : Option Addr) (c : Nat) (W : World), Rd W A xs → Calls Tryd.prog 7 #[.slice A xs.length c] W (Fresh (pairV kc ky) W)) ∧ Hid (ky = 0 → ∃ x y, xs = [x, y] ∧ 0 ≤ x ∧ x < 52 ∧ 0 ≤ y ∧ y < 52 ∧ kc = clsI x y ∧ x ≠ y) :=
    ⟨clsR xs, codeZ xs 2 2, Lib.hid (fun A c W h => implClassOf_any A c xs W h hl4), Lib.hid (fun A c W h => specClassOf_any A c xs W h hl4), Lib.hid (class_two xs)⟩
  go_wp2_with (go_at_call 6; ((with_reducible refine (K1.out A1 _ _ O1.out.rd).mono ?_); rintro e w2 ⟨rfl, hb2⟩; have X2 := Lib.hid hb2; have B2 := Lib.hid (bl_trans B1.out hb2); clear hb2))
  go_wp2_with (go_at_call 7; ((with_reducible refine (K2.out A1 _ _ (O1.out.below X2.out).rd).mono ?_); rintro e w3 ⟨rfl, hb3⟩; have X3 := Lib.hid hb3; have B3 := Lib.hid (bl_trans B2.out hb3); clear hb3))
  go_wp2_with (go_at_call 8; ((with_reducible refine (drawClassText_any _ _ _ zs _ hL (codeIn_below HC.out B3.out)).mono ?_); rintro e w4 ⟨k2, rfl, k20, k21, hb4⟩; have X4 := Lib.hid hb4; have B4 := Lib.hid (bl_trans B3.out hb4); clear hb4))
  obtain ⟨l, kt, K3, K4, HBK⟩ : ∃ (l : List UInt8) (kt : Int), Hid (∀ W, Calls Tryd.prog 9 #[.int .i64 k2] W (Fresh (txV l kt) W)) ∧ Hid (∀ W, Calls Tryd.prog 10 #[.int .i64 k2] W (Fresh (txV l kt) W)) ∧ Hid (kt = 0 → ∀ W, Calls Tryd.prog 12 #[strV l] W (Fresh (pairV k2 0) W)) :=
    ⟨clsTR k2, clsTC k2, Lib.hid (fun W => implClassText_any k2 W), Lib.hid (fun W => specClassText_any k2 W), Lib.hid (fun h W => by
      have := implReadClass_any ⟨(clsTR k2).toArray⟩ W
      rw [show (⟨(clsTR k2).toArray⟩ : ByteArray).data.toList = clsTR k2 from rfl, (back_class k2 h).1, (back_class k2 h).2] at this
      exact this)⟩
  go_wp2_with (go_at_call 9; ((with_reducible refine (K3.out _).mono ?_); rintro e w5 ⟨rfl, hb5⟩; have X5 := Lib.hid hb5; have B5 := Lib.hid (bl_trans B4.out hb5); clear hb5))
  go_wp2_with (go_at_call 10; ((with_reducible refine (K4.out _).mono ?_); rintro e w6 ⟨rfl, hb6⟩; have X6 := Lib.hid hb6; have B6 := Lib.hid (bl_trans B5.out hb6); clear hb6))
  go_wp2_with (go_at_call 11; ((with_reducible refine (drawReadClass_any _ _ _ zs _ hL (codeIn_below HC.out B6.out)).mono ?_); rintro e w7 ⟨r, rfl, hr, hb7⟩; have X7 := Lib.hid hb7; have B7 := Lib.hid (bl_trans B6.out hb7); clear hb7))
  obtain ⟨kr, kq, K5, K6⟩ : ∃ (kr kq : Int), Hid (∀ W, Calls Tryd.prog 12 #[.string r] W (Fresh (pairV kr kq) W)) ∧ Hid (∀ W, Calls Tryd.prog 13 #[.string r] W (Fresh (pairV kr kq) W)) :=
    ⟨_, _, Lib.hid (fun W => implReadClass_any r W), Lib.hid (fun W => specReadClass_any r W)⟩
  go_wp2_with (go_at_call 12; ((with_reducible refine (K5.out _).mono ?_); rintro e w8 ⟨rfl, hb8⟩; have X8 := Lib.hid hb8; have B8 := Lib.hid (bl_trans B7.out hb8); clear hb8))
  have HZT := Lib.hid (Decidable.em (kt = 0))
  have HZY := Lib.hid (Decidable.em (ky = 0))
  have R8 := Lib.hid (((((((O1.out.below X2.out).below X3.out).below X4.out).below X5.out).below X6.out).below X7.out).below X8.out)
  rcases HZT.out with hz | hz
  · have K7 := Lib.hid (HBK.out hz)
    subst hz
    rcases HZY.out with hy | hy
    · obtain ⟨x, y, exy, x0, x1, y0, y1, ekc, hne⟩ := HTW.out hy
      subst hy
      subst exy
      have HF := Lib.hid (found_all x y x0 x1 y0 y1 hne)
      have KF : Hid (∀ (W : World), Below w.heap.size w W → Calls Tryd.prog 14 #[.int .i64 kc] W (NewFam (comP (clsI x y) []).length (comR (clsI x y) []) 0 W)) := Lib.hid (fun W hb => by
        have := implCombosOf_any kc w.heap.size w W HT (Lib.hid hb) (Lib.hid hb.size)
        rw [ekc, HF.out.1] at this
        rw [ekc]
        exact this)
      have HBD := com_bd (clsI x y) []
      have HTR : Hid (∀ j, ∃ p q, comR (clsI x y) [] j = [p, q]) := Lib.hid (fun j => ⟨_, _, rfl⟩)
      have HF2 := Lib.hid HF.out.2
      clear HF
      generalize (comP (clsI x y) []).length = H at *
      generalize comR (clsI x y) [] = R at *
      clear ekc
      go_wp2_with (go_at_call 13; ((with_reducible refine (K6.out _).mono ?_); rintro e w9 ⟨rfl, hb9⟩; have X9 := Lib.hid hb9; have B9 := Lib.hid (bl_trans B8.out hb9); clear hb9))
      go_wp2_with (go_at_call 12; ((with_reducible refine (K7.out _).mono ?_); rintro e w10 ⟨rfl, hb10⟩; have X10 := Lib.hid hb10; have B10 := Lib.hid (bl_trans B9.out hb10); clear hb10))
      go_wp2_with (go_at_call 14; ((with_reducible refine (KF.out _ B10.out).mono ?_); rintro e w11 ⟨A11, c11, AA11, CC11, rfl, hf11, hb11⟩; have F11 := Lib.hid hf11; have X11 := Lib.hid hb11; have B11 := Lib.hid (bl_trans B10.out hb11); clear hf11 hb11))
      have RX : Hid (Own w11 w.heap.size (.slice A1 [x, y].length c1) [x, y]) := Lib.hid (((R8.out.below X9.out).below X10.out).below X11.out)
      go_loopw [22, 23] (fun f i wr => ∃ j : Nat, j ≤ H ∧ i = .int .i64 j ∧ f = .bool (fndB R [minC x y, maxC x y] j) ∧ Hid (Below w11.heap.size w11 wr)) (fun _ i _ => H - (intOf i).toNat)
      case atStart => exact ⟨0, Nat.zero_le _, rfl, rfl, Lib.hid (bl_refl _)⟩
      case round =>
        obtain ⟨j, hj, rfl, rfl, hb⟩ := hrel
        by_cases hlt : j < H
        · have hlt' : (j : Int) < H := by omega
          have HY := Lib.hid (@fndB_yes R [minC x y, maxC x y] j)
          have HN := Lib.hid (@fndB_no R [minC x y, maxC x y] j)
          cases hfb : fndB R [minC x y, maxC x y] j with
          | true =>
            have HY2 := Lib.hid (HY.out hfb)
            clear hfb
            go_wp2_with fail
            go_quiet (fail)
            go_wp2_with fail
            go_roundw
            case rel => exact ⟨j + 1, by omega, by go_num, by rw [HY2.out], Lib.hid (bl_drewN hb.out _)⟩
            case measure => simp [intOf]; omega
          | false =>
            have HN2 := Lib.hid (HN.out hfb)
            clear hfb
            obtain ⟨g, off, rfl, hco⟩ := F11.out.at_ hb.out j hlt
            have hrow := ((F11.out.below hb.out).row j hlt).rd
            obtain ⟨p, q, hR⟩ := HTR.out j
            rw [hR] at hco hrow HN2
            obtain ⟨gi, oi, hai, hci⟩ := hrow (by simp)
            rw [hai] at hco hrow
            simp only [List.length_cons, List.length_nil, Nat.zero_add, Nat.reduceAdd] at hco
            obtain ⟨bx, ox, rfl, hcx⟩ := (RX.out.rd.below hb.out) (by simp)
            have c0 : wr.cell? ⟨bx, ox, none⟩ = some (.int .i64 x) := hcx 0 (by simp)
            have c1' : wr.cell? ⟨bx, ox + 1, none⟩ = some (.int .i64 y) := hcx 1 (by simp)
            have KL : Hid (∀ (W : World) (g : Nat) (c d : Nat) (m1 m2 : Int), Below wr.heap.size wr W → W.cell? ⟨g, 0, none⟩ = some (.int .i64 m1) → W.cell? ⟨g, 1, none⟩ = some (.int .i64 m2) → Calls Tryd.prog 15 #[.slice (some ⟨gi, oi, none⟩) 2 c, .slice (some ⟨g, 0, none⟩) 2 d] W (Fresh (.bool (decide ([p, q] = [m1, m2]))) W)) := Lib.hid (fun W g c d m1 m2 hbW e0 e1 => likeInts_any _ _ c d [p, q] [m1, m2] W (hrow.below hbW) (fun _ => ⟨g, 0, rfl, fun i hi => match i, hi with
              | 0, _ => by simpa [nth] using e0
              | 1, _ => by simpa [nth] using e1⟩) rfl (by simp))
            have HCE : Hid (∀ W', Below wr.heap.size wr W' → W'.cell? ⟨g, off + j, none⟩ = some (.slice (some ⟨gi, oi, none⟩) 2 (CC11 j)) ∧ W'.cell? ⟨bx, ox, none⟩ = some (.int .i64 x) ∧ W'.cell? ⟨bx, ox + 1, none⟩ = some (.int .i64 y)) := Lib.hid (fun W' hbW =>
              ⟨((bcell hbW).1 _ _ (World.block_lt_of_cell? wr _ hco)).trans hco, ((bcell hbW).1 _ _ (World.block_lt_of_cell? wr _ c0)).trans c0, ((bcell hbW).1 _ _ (World.block_lt_of_cell? wr _ c1')).trans c1'⟩)
            clear hrow hci hcx hR hai hco c0 c1'
            obtain ⟨m1, m2, em, emm⟩ : ∃ m1 m2 : Int, Hid (minC x y = m1 ∧ maxC x y = m2) ∧ ((y < x ∧ m1 = y ∧ m2 = x) ∨ (x < y ∧ m1 = x ∧ m2 = y)) := by
              refine ⟨_, _, Lib.hid ⟨rfl, rfl⟩, ?_⟩
              unfold minC maxC
              by_cases hyx : y < x
              · rw [if_pos hyx, if_pos hyx]; exact .inl ⟨hyx, rfl, rfl⟩
              · rw [if_neg hyx, if_neg hyx]; exact .inr ⟨by omega, rfl, rfl⟩
            go_wp2_with fail
            refine wp_region_R (R := fun a b => Below a.heap.size a b) (I := fun W' => Below wr.heap.size wr W') (last := 23) (k := 23) below_refl2 hmx rfl (fun HC0 => ?_)
            refine wpAnyR_take (i := 0) (kw := 12) (v := .bool false) below_refl2 below_trans2 rfl (by kernel_rfl) (by kernel_rfl) (by kernel_rfl) (by kernel_rfl) (fun _ _ _ h => h) HC0 (Or.inl ⟨by kernel_rfl, fun W' hI => ?_⟩) (fun HC1 => ?_)
            · refine .inl ?_
              go_simp
            refine wpAnyR_take (i := 1) (kw := 12) (v := .bool false) below_refl2 below_trans2 rfl (by kernel_rfl) (by kernel_rfl) (by kernel_rfl) (by kernel_rfl) (fun _ _ _ h => h) HC1 (Or.inl ⟨by kernel_rfl, fun W' hI => ?_⟩) (fun HC2 => ?_)
            · refine .inl ?_
              go_simp
            refine wpAnyR_take (i := 2) (kw := 12) (v := .slice (some ⟨g, off, none⟩) H c11) below_refl2 below_trans2 rfl (by kernel_rfl) (by kernel_rfl) (by kernel_rfl) (by kernel_rfl) (fun _ _ _ h => h) HC2 (Or.inl ⟨by kernel_rfl, fun W' hI => ?_⟩) (fun HC3 => ?_)
            · refine .inl ?_
              go_simp
            refine wpAnyR_take (i := 3) (kw := 12) (v := .int .i64 (j : Int)) below_refl2 below_trans2 rfl (by kernel_rfl) (by kernel_rfl) (by kernel_rfl) (by kernel_rfl) (fun _ _ _ h => h) HC3 (Or.inl ⟨by kernel_rfl, fun W' hI => ?_⟩) (fun HC4 => ?_)
            · refine .inl ?_
              go_simp
            refine wpAnyR_take (i := 4) (kw := 12) (v := .pointer (some ⟨g, off + j, none⟩)) below_refl2 below_trans2 rfl (by kernel_rfl) (by kernel_rfl) (by kernel_rfl) (by kernel_rfl) (fun _ _ _ h => h) HC4 (Or.inl ⟨by kernel_rfl, fun W' hI => ?_⟩) (fun HC5 => ?_)
            · refine .inl ?_
              go_simp
            refine wpAnyR_take (i := 5) (kw := 12) (v := .slice (some ⟨gi, oi, none⟩) 2 (CC11 j)) below_refl2 below_trans2 rfl (by kernel_rfl) (by kernel_rfl) (by kernel_rfl) (by kernel_rfl) (fun _ _ _ h => h) HC5 (Or.inl ⟨by kernel_rfl, fun W' hI => ?_⟩) (fun HC6 => ?_)
            · obtain ⟨d0, d1, d2⟩ := HCE.out W' hI
              refine .inl ?_
              go_simp
            refine wpAnyR_take (i := 6) (kw := 12) (v := .slice (some ⟨bx, ox, none⟩) 2 c1) below_refl2 below_trans2 rfl (by kernel_rfl) (by kernel_rfl) (by kernel_rfl) (by kernel_rfl) (fun _ _ _ h => h) HC6 (Or.inl ⟨by kernel_rfl, fun W' hI => ?_⟩) (fun HC7 => ?_)
            · refine .inl ?_
              go_simp
            refine wpAnyR_take (i := 7) (kw := 12) (v := .pointer (some ⟨bx, ox, none⟩)) below_refl2 below_trans2 rfl (by kernel_rfl) (by kernel_rfl) (by kernel_rfl) (by kernel_rfl) (fun _ _ _ h => h) HC7 (Or.inl ⟨by kernel_rfl, fun W' hI => ?_⟩) (fun HC8 => ?_)
            · refine .inl ?_
              go_simp
            refine wpAnyR_take (i := 8) (kw := 12) (v := .int .i64 x) below_refl2 below_trans2 rfl (by kernel_rfl) (by kernel_rfl) (by kernel_rfl) (by kernel_rfl) (fun _ _ _ h => h) HC8 (Or.inl ⟨by kernel_rfl, fun W' hI => ?_⟩) (fun HC9 => ?_)
            · obtain ⟨d0, d1, d2⟩ := HCE.out W' hI
              refine .inl ?_
              go_simp
            refine wpAnyR_take (i := 9) (kw := 12) (v := .slice (some ⟨bx, ox, none⟩) 2 c1) below_refl2 below_trans2 rfl (by kernel_rfl) (by kernel_rfl) (by kernel_rfl) (by kernel_rfl) (fun _ _ _ h => h) HC9 (Or.inl ⟨by kernel_rfl, fun W' hI => ?_⟩) (fun HC10 => ?_)
            · refine .inl ?_
              go_simp
            refine wpAnyR_take (i := 10) (kw := 12) (v := .pointer (some ⟨bx, ox + 1, none⟩)) below_refl2 below_trans2 rfl (by kernel_rfl) (by kernel_rfl) (by kernel_rfl) (by kernel_rfl) (fun _ _ _ h => h) HC10 (Or.inl ⟨by kernel_rfl, fun W' hI => ?_⟩) (fun HC11 => ?_)
            · refine .inl ?_
              go_simp
            refine wpAnyR_take (i := 11) (kw := 12) (v := .int .i64 y) below_refl2 below_trans2 rfl (by kernel_rfl) (by kernel_rfl) (by kernel_rfl) (by kernel_rfl) (fun _ _ _ h => h) HC11 (Or.inl ⟨by kernel_rfl, fun W' hI => ?_⟩) (fun HC12 => ?_)
            · obtain ⟨d0, d1, d2⟩ := HCE.out W' hI
              refine .inl ?_
              go_simp
            refine wpAnyR_take (i := 12) (kw := 12) (v := .int .i64 m1) below_refl2 below_trans2 rfl (by kernel_rfl) (by kernel_rfl) (by kernel_rfl) (by kernel_rfl) (fun _ _ _ h => h) HC12 (Or.inl ⟨by kernel_rfl, fun W' hI => ?_⟩) (fun HC13 => ?_)
            · refine .inl ?_
              rcases emm with ⟨hh, rfl, rfl⟩ | ⟨hh, rfl, rfl⟩
              · go_simp
                try (intro hq; omega)
              · go_simp
                try (intro hq; omega)
            refine wpAnyR_take (i := 13) (kw := 12) (v := .slice (some ⟨bx, ox, none⟩) 2 c1) below_refl2 below_trans2 rfl (by kernel_rfl) (by kernel_rfl) (by kernel_rfl) (by kernel_rfl) (fun _ _ _ h => h) HC13 (Or.inl ⟨by kernel_rfl, fun W' hI => ?_⟩) (fun HC14 => ?_)
            · refine .inl ?_
              go_simp
            refine wpAnyR_take (i := 14) (kw := 12) (v := .pointer (some ⟨bx, ox, none⟩)) below_refl2 below_trans2 rfl (by kernel_rfl) (by kernel_rfl) (by kernel_rfl) (by kernel_rfl) (fun _ _ _ h => h) HC14 (Or.inl ⟨by kernel_rfl, fun W' hI => ?_⟩) (fun HC15 => ?_)
            · refine .inl ?_
              go_simp
            refine wpAnyR_take (i := 15) (kw := 12) (v := .int .i64 x) below_refl2 below_trans2 rfl (by kernel_rfl) (by kernel_rfl) (by kernel_rfl) (by kernel_rfl) (fun _ _ _ h => h) HC15 (Or.inl ⟨by kernel_rfl, fun W' hI => ?_⟩) (fun HC16 => ?_)
            · obtain ⟨d0, d1, d2⟩ := HCE.out W' hI
              refine .inl ?_
              go_simp
            refine wpAnyR_take (i := 16) (kw := 12) (v := .slice (some ⟨bx, ox, none⟩) 2 c1) below_refl2 below_trans2 rfl (by kernel_rfl) (by kernel_rfl) (by kernel_rfl) (by kernel_rfl) (fun _ _ _ h => h) HC16 (Or.inl ⟨by kernel_rfl, fun W' hI => ?_⟩) (fun HC17 => ?_)
            · refine .inl ?_
              go_simp
            refine wpAnyR_take (i := 17) (kw := 12) (v := .pointer (some ⟨bx, ox + 1, none⟩)) below_refl2 below_trans2 rfl (by kernel_rfl) (by kernel_rfl) (by kernel_rfl) (by kernel_rfl) (fun _ _ _ h => h) HC17 (Or.inl ⟨by kernel_rfl, fun W' hI => ?_⟩) (fun HC18 => ?_)
            · refine .inl ?_
              go_simp
            refine wpAnyR_take (i := 18) (kw := 12) (v := .int .i64 y) below_refl2 below_trans2 rfl (by kernel_rfl) (by kernel_rfl) (by kernel_rfl) (by kernel_rfl) (fun _ _ _ h => h) HC18 (Or.inl ⟨by kernel_rfl, fun W' hI => ?_⟩) (fun HC19 => ?_)
            · obtain ⟨d0, d1, d2⟩ := HCE.out W' hI
              refine .inl ?_
              go_simp
            refine wpAnyR_take (i := 19) (kw := 12) (v := .int .i64 m2) below_refl2 below_trans2 rfl (by kernel_rfl) (by kernel_rfl) (by kernel_rfl) (by kernel_rfl) (fun _ _ _ h => h) HC19 (Or.inl ⟨by kernel_rfl, fun W' hI => ?_⟩) (fun HC20 => ?_)
            · refine .inl ?_
              rcases emm with ⟨hh, rfl, rfl⟩ | ⟨hh, rfl, rfl⟩
              · go_simp
                try (intro hq; omega)
              · go_simp
                try (intro hq; omega)
            refine wpAnyR_one HC20 (i := 20) (by kernel_rfl) rfl (by kernel_rfl) (fun w20 hr20 => ⟨bl_trans (bl_drew (bl_refl _)) hr20, fun K hK => ?_⟩)
            go_simp
            refine hK _ _ ?_
            clear hK K
            intro HC21
            refine wpAnyR_one HC21 (i := 21) (by kernel_rfl) rfl (by kernel_rfl) (fun w21 hr21 => ?_)
            have HW21 : Hid (Below wr.heap.size wr w21) := Lib.hid (bl_trans (bl_alloc (bl_trans (bl_drew (bl_refl _)) hr20) _) hr21)
            have HN21 : Hid (w21.cell? ⟨w20.heap.size, 0, none⟩ = some (.int .i64 m1) ∧ w21.cell? ⟨w20.heap.size, 1, none⟩ = some (.int .i64 m2)) := Lib.hid (by
              have hz : w20.heap.size < (w20.alloc (.cells #[.int .i64 m1, .int .i64 m2] 2)).heap.size := by simp
              refine ⟨((bcell hr21).1 w20.heap.size 0 hz).trans ?_, ((bcell hr21).1 w20.heap.size 1 hz).trans ?_⟩ <;> simp [go_sem])
            refine ⟨HW21.out, fun K hK => ?_⟩
            clear hr21 hr20
            go_simp
            refine (KL.out w21 w20.heap.size (CC11 j) 2 m1 m2 HW21.out HN21.out.1 HN21.out.2).mono ?_
            rintro e w22 ⟨rfl, hb22⟩
            have HW22 := Lib.hid (bl_trans HW21.out hb22)
            clear hb22 HN21
            refine hK _ _ ?_
            clear hK K
            intro HC22
            refine wpAnyR_one HC22 (i := 22) (by kernel_rfl) rfl (by kernel_rfl) (fun w23 hr23 => ⟨bl_trans HW22.out hr23, fun K hK => ?_⟩)
            have HW23 := Lib.hid (bl_trans HW22.out hr23)
            clear hr23
            go_simp
            refine hK _ _ ?_
            clear hK K
            intro HC23
            refine wpAnyR_last (by kernel_rfl) (by kernel_rfl) rfl (by kernel_rfl) (fun w24 hr24 => ⟨bl_trans HW23.out hr24, fun K hK => ?_⟩)
            have HW24 := Lib.hid (bl_trans HW23.out hr24)
            clear hr24
            go_simp
            refine hK _ _ ?_
            clear hK K
            go_wp2_with fail
            go_roundw
            case rel => exact ⟨j + 1, by omega, by go_num, by rw [HN2.out, ← em.out.1, ← em.out.2]; simp, Lib.hid (bl_trans hb.out HW24.out)⟩
            case measure => simp [intOf]; omega
        · obtain rfl : j = H := by omega
          rw [HF2.out]
          go_wp2_with fail
          go_ret
          exact ⟨rfl, bl_trans B11.out hb.out⟩
    · have q2 : (ky != 0) = true := by simpa using hy
      clear hy
      go_wp2_with (go_at_call 13; ((with_reducible refine (K6.out _).mono ?_); rintro e w9 ⟨rfl, hb9⟩; have X9 := Lib.hid hb9; have B9 := Lib.hid (bl_trans B8.out hb9); clear hb9))
      go_wp2_with (go_at_call 12; ((with_reducible refine (K7.out _).mono ?_); rintro e w10 ⟨rfl, hb10⟩; have X10 := Lib.hid hb10; have B10 := Lib.hid (bl_trans B9.out hb10); clear hb10))
      go_ret
      exact ⟨rfl, B10.out⟩
  · have q1 : (kt == 0) = false := by simpa using hz
    clear hz
    rcases HZY.out with hy | hy
    · obtain ⟨x, y, exy, x0, x1, y0, y1, ekc, hne⟩ := HTW.out hy
      subst hy
      subst exy
      have HF := Lib.hid (found_all x y x0 x1 y0 y1 hne)
      have KF : Hid (∀ (W : World), Below w.heap.size w W → Calls Tryd.prog 14 #[.int .i64 kc] W (NewFam (comP (clsI x y) []).length (comR (clsI x y) []) 0 W)) := Lib.hid (fun W hb => by
        have := implCombosOf_any kc w.heap.size w W HT (Lib.hid hb) (Lib.hid hb.size)
        rw [ekc, HF.out.1] at this
        rw [ekc]
        exact this)
      have HBD := com_bd (clsI x y) []
      have HTR : Hid (∀ j, ∃ p q, comR (clsI x y) [] j = [p, q]) := Lib.hid (fun j => ⟨_, _, rfl⟩)
      have HF2 := Lib.hid HF.out.2
      clear HF
      generalize (comP (clsI x y) []).length = H at *
      generalize comR (clsI x y) [] = R at *
      clear ekc
      go_wp2_with (go_at_call 13; ((with_reducible refine (K6.out _).mono ?_); rintro e w9 ⟨rfl, hb9⟩; have X9 := Lib.hid hb9; have B9 := Lib.hid (bl_trans B8.out hb9); clear hb9))
      go_wp2_with (go_at_call 14; ((with_reducible refine (KF.out _ B9.out).mono ?_); rintro e w11 ⟨A11, c11, AA11, CC11, rfl, hf11, hb11⟩; have F11 := Lib.hid hf11; have X11 := Lib.hid hb11; have B11 := Lib.hid (bl_trans B9.out hb11); clear hf11 hb11))
      have RX : Hid (Own w11 w.heap.size (.slice A1 [x, y].length c1) [x, y]) := Lib.hid ((R8.out.below X9.out).below X11.out)
      go_loopw [22, 23] (fun f i wr => ∃ j : Nat, j ≤ H ∧ i = .int .i64 j ∧ f = .bool (fndB R [minC x y, maxC x y] j) ∧ Hid (Below w11.heap.size w11 wr)) (fun _ i _ => H - (intOf i).toNat)
      case atStart => exact ⟨0, Nat.zero_le _, rfl, rfl, Lib.hid (bl_refl _)⟩
      case round =>
        obtain ⟨j, hj, rfl, rfl, hb⟩ := hrel
        by_cases hlt : j < H
        · have hlt' : (j : Int) < H := by omega
          have HY := Lib.hid (@fndB_yes R [minC x y, maxC x y] j)
          have HN := Lib.hid (@fndB_no R [minC x y, maxC x y] j)
          cases hfb : fndB R [minC x y, maxC x y] j with
          | true =>
            have HY2 := Lib.hid (HY.out hfb)
            clear hfb
            go_wp2_with fail
            go_quiet (fail)
            go_wp2_with fail
            go_roundw
            case rel => exact ⟨j + 1, by omega, by go_num, by rw [HY2.out], Lib.hid (bl_drewN hb.out _)⟩
            case measure => simp [intOf]; omega
          | false =>
            have HN2 := Lib.hid (HN.out hfb)
            clear hfb
            obtain ⟨g, off, rfl, hco⟩ := F11.out.at_ hb.out j hlt
            have hrow := ((F11.out.below hb.out).row j hlt).rd
            obtain ⟨p, q, hR⟩ := HTR.out j
            rw [hR] at hco hrow HN2
            obtain ⟨gi, oi, hai, hci⟩ := hrow (by simp)
            rw [hai] at hco hrow
            simp only [List.length_cons, List.length_nil, Nat.zero_add, Nat.reduceAdd] at hco
            obtain ⟨bx, ox, rfl, hcx⟩ := (RX.out.rd.below hb.out) (by simp)
            have c0 : wr.cell? ⟨bx, ox, none⟩ = some (.int .i64 x) := hcx 0 (by simp)
            have c1' : wr.cell? ⟨bx, ox + 1, none⟩ = some (.int .i64 y) := hcx 1 (by simp)
            have KL : Hid (∀ (W : World) (g : Nat) (c d : Nat) (m1 m2 : Int), Below wr.heap.size wr W → W.cell? ⟨g, 0, none⟩ = some (.int .i64 m1) → W.cell? ⟨g, 1, none⟩ = some (.int .i64 m2) → Calls Tryd.prog 15 #[.slice (some ⟨gi, oi, none⟩) 2 c, .slice (some ⟨g, 0, none⟩) 2 d] W (Fresh (.bool (decide ([p, q] = [m1, m2]))) W)) := Lib.hid (fun W g c d m1 m2 hbW e0 e1 => likeInts_any _ _ c d [p, q] [m1, m2] W (hrow.below hbW) (fun _ => ⟨g, 0, rfl, fun i hi => match i, hi with
              | 0, _ => by simpa [nth] using e0
              | 1, _ => by simpa [nth] using e1⟩) rfl (by simp))
            have HCE : Hid (∀ W', Below wr.heap.size wr W' → W'.cell? ⟨g, off + j, none⟩ = some (.slice (some ⟨gi, oi, none⟩) 2 (CC11 j)) ∧ W'.cell? ⟨bx, ox, none⟩ = some (.int .i64 x) ∧ W'.cell? ⟨bx, ox + 1, none⟩ = some (.int .i64 y)) := Lib.hid (fun W' hbW =>
              ⟨((bcell hbW).1 _ _ (World.block_lt_of_cell? wr _ hco)).trans hco, ((bcell hbW).1 _ _ (World.block_lt_of_cell? wr _ c0)).trans c0, ((bcell hbW).1 _ _ (World.block_lt_of_cell? wr _ c1')).trans c1'⟩)
            clear hrow hci hcx hR hai hco c0 c1'
            obtain ⟨m1, m2, em, emm⟩ : ∃ m1 m2 : Int, Hid (minC x y = m1 ∧ maxC x y = m2) ∧ ((y < x ∧ m1 = y ∧ m2 = x) ∨ (x < y ∧ m1 = x ∧ m2 = y)) := by
              refine ⟨_, _, Lib.hid ⟨rfl, rfl⟩, ?_⟩
              unfold minC maxC
              by_cases hyx : y < x
              · rw [if_pos hyx, if_pos hyx]; exact .inl ⟨hyx, rfl, rfl⟩
              · rw [if_neg hyx, if_neg hyx]; exact .inr ⟨by omega, rfl, rfl⟩
            go_wp2_with fail
            refine wp_region_R (R := fun a b => Below a.heap.size a b) (I := fun W' => Below wr.heap.size wr W') (last := 23) (k := 23) below_refl2 hmx rfl (fun HC0 => ?_)
            refine wpAnyR_take (i := 0) (kw := 12) (v := .bool false) below_refl2 below_trans2 rfl (by kernel_rfl) (by kernel_rfl) (by kernel_rfl) (by kernel_rfl) (fun _ _ _ h => h) HC0 (Or.inl ⟨by kernel_rfl, fun W' hI => ?_⟩) (fun HC1 => ?_)
            · refine .inl ?_
              go_simp
            refine wpAnyR_take (i := 1) (kw := 12) (v := .bool false) below_refl2 below_trans2 rfl (by kernel_rfl) (by kernel_rfl) (by kernel_rfl) (by kernel_rfl) (fun _ _ _ h => h) HC1 (Or.inl ⟨by kernel_rfl, fun W' hI => ?_⟩) (fun HC2 => ?_)
            · refine .inl ?_
              go_simp
            refine wpAnyR_take (i := 2) (kw := 12) (v := .slice (some ⟨g, off, none⟩) H c11) below_refl2 below_trans2 rfl (by kernel_rfl) (by kernel_rfl) (by kernel_rfl) (by kernel_rfl) (fun _ _ _ h => h) HC2 (Or.inl ⟨by kernel_rfl, fun W' hI => ?_⟩) (fun HC3 => ?_)
            · refine .inl ?_
              go_simp
            refine wpAnyR_take (i := 3) (kw := 12) (v := .int .i64 (j : Int)) below_refl2 below_trans2 rfl (by kernel_rfl) (by kernel_rfl) (by kernel_rfl) (by kernel_rfl) (fun _ _ _ h => h) HC3 (Or.inl ⟨by kernel_rfl, fun W' hI => ?_⟩) (fun HC4 => ?_)
            · refine .inl ?_
              go_simp
            refine wpAnyR_take (i := 4) (kw := 12) (v := .pointer (some ⟨g, off + j, none⟩)) below_refl2 below_trans2 rfl (by kernel_rfl) (by kernel_rfl) (by kernel_rfl) (by kernel_rfl) (fun _ _ _ h => h) HC4 (Or.inl ⟨by kernel_rfl, fun W' hI => ?_⟩) (fun HC5 => ?_)
            · refine .inl ?_
              go_simp
            refine wpAnyR_take (i := 5) (kw := 12) (v := .slice (some ⟨gi, oi, none⟩) 2 (CC11 j)) below_refl2 below_trans2 rfl (by kernel_rfl) (by kernel_rfl) (by kernel_rfl) (by kernel_rfl) (fun _ _ _ h => h) HC5 (Or.inl ⟨by kernel_rfl, fun W' hI => ?_⟩) (fun HC6 => ?_)
            · obtain ⟨d0, d1, d2⟩ := HCE.out W' hI
              refine .inl ?_
              go_simp
            refine wpAnyR_take (i := 6) (kw := 12) (v := .slice (some ⟨bx, ox, none⟩) 2 c1) below_refl2 below_trans2 rfl (by kernel_rfl) (by kernel_rfl) (by kernel_rfl) (by kernel_rfl) (fun _ _ _ h => h) HC6 (Or.inl ⟨by kernel_rfl, fun W' hI => ?_⟩) (fun HC7 => ?_)
            · refine .inl ?_
              go_simp
            refine wpAnyR_take (i := 7) (kw := 12) (v := .pointer (some ⟨bx, ox, none⟩)) below_refl2 below_trans2 rfl (by kernel_rfl) (by kernel_rfl) (by kernel_rfl) (by kernel_rfl) (fun _ _ _ h => h) HC7 (Or.inl ⟨by kernel_rfl, fun W' hI => ?_⟩) (fun HC8 => ?_)
            · refine .inl ?_
              go_simp
            refine wpAnyR_take (i := 8) (kw := 12) (v := .int .i64 x) below_refl2 below_trans2 rfl (by kernel_rfl) (by kernel_rfl) (by kernel_rfl) (by kernel_rfl) (fun _ _ _ h => h) HC8 (Or.inl ⟨by kernel_rfl, fun W' hI => ?_⟩) (fun HC9 => ?_)
            · obtain ⟨d0, d1, d2⟩ := HCE.out W' hI
              refine .inl ?_
              go_simp
            refine wpAnyR_take (i := 9) (kw := 12) (v := .slice (some ⟨bx, ox, none⟩) 2 c1) below_refl2 below_trans2 rfl (by kernel_rfl) (by kernel_rfl) (by kernel_rfl) (by kernel_rfl) (fun _ _ _ h => h) HC9 (Or.inl ⟨by kernel_rfl, fun W' hI => ?_⟩) (fun HC10 => ?_)
            · refine .inl ?_
              go_simp
            refine wpAnyR_take (i := 10) (kw := 12) (v := .pointer (some ⟨bx, ox + 1, none⟩)) below_refl2 below_trans2 rfl (by kernel_rfl) (by kernel_rfl) (by kernel_rfl) (by kernel_rfl) (fun _ _ _ h => h) HC10 (Or.inl ⟨by kernel_rfl, fun W' hI => ?_⟩) (fun HC11 => ?_)
            · refine .inl ?_
              go_simp
            refine wpAnyR_take (i := 11) (kw := 12) (v := .int .i64 y) below_refl2 below_trans2 rfl (by kernel_rfl) (by kernel_rfl) (by kernel_rfl) (by kernel_rfl) (fun _ _ _ h => h) HC11 (Or.inl ⟨by kernel_rfl, fun W' hI => ?_⟩) (fun HC12 => ?_)
            · obtain ⟨d0, d1, d2⟩ := HCE.out W' hI
              refine .inl ?_
              go_simp
            refine wpAnyR_take (i := 12) (kw := 12) (v := .int .i64 m1) below_refl2 below_trans2 rfl (by kernel_rfl) (by kernel_rfl) (by kernel_rfl) (by kernel_rfl) (fun _ _ _ h => h) HC12 (Or.inl ⟨by kernel_rfl, fun W' hI => ?_⟩) (fun HC13 => ?_)
            · refine .inl ?_
              rcases emm with ⟨hh, rfl, rfl⟩ | ⟨hh, rfl, rfl⟩
              · go_simp
                try (intro hq; omega)
              · go_simp
                try (intro hq; omega)
            refine wpAnyR_take (i := 13) (kw := 12) (v := .slice (some ⟨bx, ox, none⟩) 2 c1) below_refl2 below_trans2 rfl (by kernel_rfl) (by kernel_rfl) (by kernel_rfl) (by kernel_rfl) (fun _ _ _ h => h) HC13 (Or.inl ⟨by kernel_rfl, fun W' hI => ?_⟩) (fun HC14 => ?_)
            · refine .inl ?_
              go_simp
            refine wpAnyR_take (i := 14) (kw := 12) (v := .pointer (some ⟨bx, ox, none⟩)) below_refl2 below_trans2 rfl (by kernel_rfl) (by kernel_rfl) (by kernel_rfl) (by kernel_rfl) (fun _ _ _ h => h) HC14 (Or.inl ⟨by kernel_rfl, fun W' hI => ?_⟩) (fun HC15 => ?_)
            · refine .inl ?_
              go_simp
            refine wpAnyR_take (i := 15) (kw := 12) (v := .int .i64 x) below_refl2 below_trans2 rfl (by kernel_rfl) (by kernel_rfl) (by kernel_rfl) (by kernel_rfl) (fun _ _ _ h => h) HC15 (Or.inl ⟨by kernel_rfl, fun W' hI => ?_⟩) (fun HC16 => ?_)
            · obtain ⟨d0, d1, d2⟩ := HCE.out W' hI
              refine .inl ?_
              go_simp
            refine wpAnyR_take (i := 16) (kw := 12) (v := .slice (some ⟨bx, ox, none⟩) 2 c1) below_refl2 below_trans2 rfl (by kernel_rfl) (by kernel_rfl) (by kernel_rfl) (by kernel_rfl) (fun _ _ _ h => h) HC16 (Or.inl ⟨by kernel_rfl, fun W' hI => ?_⟩) (fun HC17 => ?_)
            · refine .inl ?_
              go_simp
            refine wpAnyR_take (i := 17) (kw := 12) (v := .pointer (some ⟨bx, ox + 1, none⟩)) below_refl2 below_trans2 rfl (by kernel_rfl) (by kernel_rfl) (by kernel_rfl) (by kernel_rfl) (fun _ _ _ h => h) HC17 (Or.inl ⟨by kernel_rfl, fun W' hI => ?_⟩) (fun HC18 => ?_)
            · refine .inl ?_
              go_simp
            refine wpAnyR_take (i := 18) (kw := 12) (v := .int .i64 y) below_refl2 below_trans2 rfl (by kernel_rfl) (by kernel_rfl) (by kernel_rfl) (by kernel_rfl) (fun _ _ _ h => h) HC18 (Or.inl ⟨by kernel_rfl, fun W' hI => ?_⟩) (fun HC19 => ?_)
            · obtain ⟨d0, d1, d2⟩ := HCE.out W' hI
              refine .inl ?_
              go_simp
            refine wpAnyR_take (i := 19) (kw := 12) (v := .int .i64 m2) below_refl2 below_trans2 rfl (by kernel_rfl) (by kernel_rfl) (by kernel_rfl) (by kernel_rfl) (fun _ _ _ h => h) HC19 (Or.inl ⟨by kernel_rfl, fun W' hI => ?_⟩) (fun HC20 => ?_)
            · refine .inl ?_
              rcases emm with ⟨hh, rfl, rfl⟩ | ⟨hh, rfl, rfl⟩
              · go_simp
                try (intro hq; omega)
              · go_simp
                try (intro hq; omega)
            refine wpAnyR_one HC20 (i := 20) (by kernel_rfl) rfl (by kernel_rfl) (fun w20 hr20 => ⟨bl_trans (bl_drew (bl_refl _)) hr20, fun K hK => ?_⟩)
            go_simp
            refine hK _ _ ?_
            clear hK K
            intro HC21
            refine wpAnyR_one HC21 (i := 21) (by kernel_rfl) rfl (by kernel_rfl) (fun w21 hr21 => ?_)
            have HW21 : Hid (Below wr.heap.size wr w21) := Lib.hid (bl_trans (bl_alloc (bl_trans (bl_drew (bl_refl _)) hr20) _) hr21)
            have HN21 : Hid (w21.cell? ⟨w20.heap.size, 0, none⟩ = some (.int .i64 m1) ∧ w21.cell? ⟨w20.heap.size, 1, none⟩ = some (.int .i64 m2)) := Lib.hid (by
              have hz : w20.heap.size < (w20.alloc (.cells #[.int .i64 m1, .int .i64 m2] 2)).heap.size := by simp
              refine ⟨((bcell hr21).1 w20.heap.size 0 hz).trans ?_, ((bcell hr21).1 w20.heap.size 1 hz).trans ?_⟩ <;> simp [go_sem])
            refine ⟨HW21.out, fun K hK => ?_⟩
            clear hr21 hr20
            go_simp
            refine (KL.out w21 w20.heap.size (CC11 j) 2 m1 m2 HW21.out HN21.out.1 HN21.out.2).mono ?_
            rintro e w22 ⟨rfl, hb22⟩
            have HW22 := Lib.hid (bl_trans HW21.out hb22)
            clear hb22 HN21
            refine hK _ _ ?_
            clear hK K
            intro HC22
            refine wpAnyR_one HC22 (i := 22) (by kernel_rfl) rfl (by kernel_rfl) (fun w23 hr23 => ⟨bl_trans HW22.out hr23, fun K hK => ?_⟩)
            have HW23 := Lib.hid (bl_trans HW22.out hr23)
            clear hr23
            go_simp
            refine hK _ _ ?_
            clear hK K
            intro HC23
            refine wpAnyR_last (by kernel_rfl) (by kernel_rfl) rfl (by kernel_rfl) (fun w24 hr24 => ⟨bl_trans HW23.out hr24, fun K hK => ?_⟩)
            have HW24 := Lib.hid (bl_trans HW23.out hr24)
            clear hr24
            go_simp
            refine hK _ _ ?_
            clear hK K
            go_wp2_with fail
            go_roundw
            case rel => exact ⟨j + 1, by omega, by go_num, by rw [HN2.out, ← em.out.1, ← em.out.2]; simp, Lib.hid (bl_trans hb.out HW24.out)⟩
            case measure => simp [intOf]; omega
        · obtain rfl : j = H := by omega
          rw [HF2.out]
          go_wp2_with fail
          go_ret
          exact ⟨rfl, bl_trans B11.out hb.out⟩
    · have q2 : (ky != 0) = true := by simpa using hy
      clear hy
      go_wp2_with (go_at_call 13; ((with_reducible refine (K6.out _).mono ?_); rintro e w9 ⟨rfl, hb9⟩; have X9 := Lib.hid hb9; have B9 := Lib.hid (bl_trans B8.out hb9); clear hb9))
      go_ret
      exact ⟨rfl, B9.out⟩

set_option maxRecDepth 100000 in
set_option maxHeartbeats 400000 in
theorem walkClasses_big (a : Option Addr) (L c : Nat) (w : World) (hm : L ≤ maxLen) (h : 4096 < L) :
    Calls Tryd.prog 3 #[.slice a L c] w (Fresh (.bool true) w) := by
  unfold maxLen at hm
  go_enter Tryd.func3, Tryd.ntmps3
  go_wp2_with (go_at_call 4; refine (big_yes _ _ _ _ h (by omega)).mono ?_; rintro e w0 ⟨rfl, rfl⟩)
  go_ret
  exact ⟨rfl, bl_refl _⟩
theorem walkClasses (a : Option Addr) (L c : Nat) (zs : Nat → Int) (w : World) (HT : Hid (Tz w.heap.size w)) (hm : L ≤ maxLen) (hc : CodeIn w a L zs) :
    Calls Tryd.prog 3 #[.slice a L c] w (Fresh (.bool true) w) := by
  by_cases h : L ≤ 4096
  · exact walkClasses_in a L c zs w HT h hc
  · exact walkClasses_big a L c w hm (by omega)


end Go.Proofs.YtjmfecjgomkofaaDoor
