/-
  CombosOf, CombosWithout: the program's.
-/
import Derived.Test.YtjmfecjgomkofabDoorGroupsImpl
import Derived.Test.YtjmfecjgomkofabDoorDealing
import Derived.Test.YtjmfecjgomkofabDoorFam1
namespace Go.Proofs.YtjmfecjgomkofabDoor
open Go.RowKit
set_option linter.unusedVariables false

/-- What CombosWithout answers. -/
def comP (k : Int) (dead : List Int) : List (Int × Int) := if (isCls k && cardsB dead) = true then combosP k dead else []
def comR (k : Int) (dead : List Int) : Nat → List Int := fun j => two ((comP k dead).getD j (0, 0))
def comC (k : Int) (dead : List Int) : Int := if isCls k = true then (if cardsB dead = true then 0 else 1) else 2
theorem comC_no {k : Int} {dead : List Int} (h : isCls k = false) : comC k dead = 2 ∧ comP k dead = [] := by unfold comC comP; rw [h]; exact ⟨rfl, rfl⟩
theorem comC_bad {k : Int} {dead : List Int} (h : isCls k = true) (hd : cardsB dead = false) : comC k dead = 1 ∧ comP k dead = [] := by unfold comC comP; rw [h, hd]; exact ⟨rfl, rfl⟩
theorem comC_yes {k : Int} {dead : List Int} (h : isCls k = true) (hd : cardsB dead = true) : comC k dead = 0 ∧ comP k dead = combosP k dead := by unfold comC comP; rw [h, hd]; exact ⟨rfl, rfl⟩
theorem others_all52 (dead : List Int) : othersN 52 dead = all52.filter (fun x => !hasB dead x) := by
  unfold othersN all52
  first | rfl | (rw [List.filter_map]; rfl)
theorem others_bd (dead : List Int) : ∀ x ∈ othersN 52 dead, 0 ≤ x ∧ x < 52 := fun x hx => by
  rw [others_all52] at hx
  have := (List.mem_filter.1 hx).1
  unfold all52 at this
  obtain ⟨i, hi, rfl⟩ := List.mem_map.1 this
  have := List.mem_range.1 hi
  omega
theorem newFam_nil {w w' : World} {R : Nat → List Int} {c : Int} (hb : Below w.heap.size w w') : NewFam 0 R c w (.returned (.tuple #[.slice none 0 0, .int .i64 c])) w' :=
  ⟨none, 0, fun _ => none, fun _ => 0, rfl, Fam.empty _ _ _, hb⟩

set_option maxHeartbeats 400000 in
theorem twoList_any (x y : Int) (w : World) : Calls Tryd.prog 78 #[.agg #[.int .i64 x, .int .i64 y]] w (fun e w' => e = .returned (.slice (some ⟨w.heap.size, 0, none⟩) 2 2) ∧ w.alloc (.cells #[.int .i64 x, .int .i64 y] 107) = w') := by
  go_enter Tryd.func78, Tryd.ntmps78
  go_wp2_with fail
  go_ret
  exact ⟨rfl, rfl⟩
theorem row_two (w : World) (x y : Int) : Row (w.alloc (.cells #[.int .i64 x, .int .i64 y] 107)) w.heap.size (some ⟨w.heap.size, 0, none⟩) [x, y] := by
  refine ⟨fun a ha => by obtain rfl := Option.some.inj ha; exact ⟨Nat.le_refl _, by simp⟩, fun _ => ⟨w.heap.size, 0, rfl, fun i hi => ?_⟩⟩
  match i, hi with
  | 0, _ => exact ⟨by simp [go_sem, nth], by simp [go_sem]⟩
  | 1, _ => exact ⟨by simp [go_sem, nth], by simp [go_sem]⟩
theorem Dealing.next {w wr w' : World} {g H n K : Nat} {R : Nat → List Int} {AA : Nat → Option Addr} (h : Dealing w g H n K R AA wr) (hb : Below wr.heap.size wr w') : Dealing w g H n K R AA w' :=
  ⟨World.ownsRow.kept h.out (toGrown hb none) (.inr (by simp [Value.ownBlock])), fun j hj => (h.row j hj).below hb, h.len, h.off, h.apart, bl_trans h.below hb, Nat.lt_of_lt_of_le h.lg hb.size⟩
theorem deal_start2 {w w1 : World} {H n : Nat} {R : Nat → List Int} {AA : Nat → Option Addr} (ho : w1.ownsRow w.heap.size 24 1 (.slice (some ⟨w.heap.size, 0, none⟩) H H) H (madeCells #[Value.slice none 0 0] H).toList) (hg : w.grownBy w1 none) : Dealing w w.heap.size H n 0 R AA w1 := by
  have e : (madeCells #[Value.slice none 0 0] H).toList = cellsD H 0 AA n := by rw [cellsD_zero]; exact toList_madeCells_one _ _
  rw [e] at ho
  exact ⟨ho, (fun _ h => by omega), (fun _ h => by omega), (fun _ h => by omega), (fun _ h => by omega), (bl_refl w).grown hg (Nat.le_refl _) (fun j hj => by cases hj), (World.ownsRow.lt ho _ rfl).2⟩
/-- A new list of two cards is laid in. -/
theorem deal_two {w wr : World} {g H k : Nat} {R : Nat → List Int} {AA : Nat → Option Addr} {x y : Int} (h : Dealing w g H 2 k R AA wr) (hk : k < H) (hR : R k = [x, y]) :
    Dealing w g H 2 (k + 1) R (updA AA k (some ⟨wr.heap.size, 0, none⟩)) ((wr.alloc (.cells #[.int .i64 x, .int .i64 y] 107)).setCell ⟨g, k, none⟩ (.slice (some ⟨wr.heap.size, 0, none⟩) 2 2)) := by
  have := h.add hk (xs := [x, y]) rfl (World.grownBy_alloc wr _ none) (row_two wr x y)
  have e : updR R k [x, y] = R := by
    funext j
    by_cases q : j = k
    · subst q; simp [updR, hR]
    · simp [updR, q]
  rwa [e] at this
theorem ownG_form {w : World} {b : Nat} {v : Value} {l : List (Int × Int)} (h : OwnG w b v l) : ∃ A c, v = .slice A l.length c ∧ ∀ i, i < l.length → ∃ g, A = some ⟨g, 0, none⟩ ∧ g < w.heap.size ∧ w.cell? ⟨g, 2 * i, none⟩ = some (.int .i64 (l.getD i (0, 0)).1) ∧ w.cell? ⟨g, 2 * i + 1, none⟩ = some (.int .i64 (l.getD i (0, 0)).2) := by
  have h' := h
  rcases h.2 with ⟨rfl, hn⟩ | ⟨g, cap, cur, rfl, _⟩
  · exact ⟨none, 0, by rw [hn], fun i hi => by omega⟩
  · refine ⟨_, _, rfl, fun i hi => ⟨g, rfl, (World.ownsRow.lt h' g rfl).2, ?_⟩⟩
    have e : l.getD i (0, 0) = l[i] := by rw [List.getD_eq_getElem?_getD, List.getElem?_eq_getElem hi]; rfl
    have ca := cells2_at l i hi
    rw [e, World.ownsRow.cellAt h' (2 * i) (by omega), World.ownsRow.cellAt h' (2 * i + 1) (by omega)]
    exact ca

set_option maxRecDepth 100000 in
set_option maxHeartbeats 4000000 in
/-- Combinations as lists that share no memory. -/
theorem comboLists_any (A2 : Option Addr) (c2 : Nat) (P : List (Int × Int)) (w : World) (hle : P.length ≤ 4096)
    (hcl : ∀ i, i < P.length → ∃ g, A2 = some ⟨g, 0, none⟩ ∧ g < w.heap.size ∧ w.cell? ⟨g, 2 * i, none⟩ = some (.int .i64 (P.getD i (0, 0)).1) ∧ w.cell? ⟨g, 2 * i + 1, none⟩ = some (.int .i64 (P.getD i (0, 0)).2)) :
    Calls Tryd.prog 46 #[.slice A2 P.length c2] w (NewFam1 P.length (fun j => two (P.getD j (0, 0))) w) := by
  obtain ⟨iS, hiS, hzS0, hzS1, hzS2⟩ := info_parts infoSlice
  have HCL := Lib.hid hcl
  have HLE := Lib.hid hle
  clear hcl hle
  obtain ⟨w0, rfl⟩ : ∃ w0 : World, w0 = w := ⟨w, rfl⟩
  go_enter Tryd.func46, Tryd.ntmps46
  go_wp2_with (at_make; refine wpList_make_full _ rfl _ _ 27 rfl w0.heap.size 24 iS (.slice none 0 0) 1 Tryd.underlying27 hiS hzS0 hzS1 .i64 .i64 _ _ P.length rfl rfl rfl rfl ?c1 ?c2 (Nat.le_refl _) ?_)
  case c1 => have := HLE.out; rw [hzS2]; omega
  case c2 => have := HLE.out; unfold maxLen; omega
  intro w3 hown hgrow
  have HS := Lib.hid (fun (R : Nat → List Int) (AA : Nat → Option Addr) => deal_start2 (n := 2) (R := R) (AA := AA) hown hgrow)
  clear hown hgrow
  go_wp2_with fail
  go_loopw [11] (fun i wr => ∃ (j : Nat) (AA : Nat → Option Addr), j ≤ P.length ∧ i = .int .i64 j ∧ Hid (Dealing w0 w0.heap.size P.length 2 j (fun j => two (P.getD j (0, 0))) AA wr)) (fun i _ => P.length - (intOf i).toNat)
  case atStart => exact ⟨0, fun _ => none, Nat.zero_le _, rfl, Lib.hid (HS.out _ _)⟩
  case round =>
    obtain ⟨j, AA, hj, rfl, hs⟩ := hrel
    by_cases hlt : j < P.length
    · have hlt' : (j : Int) < P.length := by omega
      have hle := HLE.out
      obtain ⟨g, rfl, hgl, ca0, ca1⟩ := HCL.out j hlt
      have cb0 : wr.cell? ⟨g, j * 2, none⟩ = some (.int .i64 (P.getD j (0, 0)).1) := by rw [Nat.mul_comm]; exact (hs.out.below.cell (p := ⟨g, 2 * j, none⟩) hgl).trans ca0
      have cb1 : wr.cell? ⟨g, j * 2 + 1, none⟩ = some (.int .i64 (P.getD j (0, 0)).2) := by rw [Nat.mul_comm]; exact (hs.out.below.cell (p := ⟨g, 2 * j + 1, none⟩) hgl).trans ca1
      have hR : two (P.getD j (0, 0)) = [(P.getD j (0, 0)).1, (P.getD j (0, 0)).2] := rfl
      have HD := Lib.hid (deal_two (hs.out.next (bl_alloc (bl_refl wr) (.cells #[.int .i64 (P.getD j (0, 0)).1, .int .i64 (P.getD j (0, 0)).2] 107))) hlt hR)
      have HCO : Hid (((wr.alloc (.cells #[.int .i64 (P.getD j (0, 0)).1, .int .i64 (P.getD j (0, 0)).2] 107)).alloc (.cells #[.int .i64 (P.getD j (0, 0)).1, .int .i64 (P.getD j (0, 0)).2] 107)).cell? ⟨w0.heap.size, j, none⟩ = some (.slice none 0 0) ∧ ((wr.alloc (.cells #[.int .i64 (P.getD j (0, 0)).1, .int .i64 (P.getD j (0, 0)).2] 107)).alloc (.cells #[.int .i64 (P.getD j (0, 0)).1, .int .i64 (P.getD j (0, 0)).2] 107)).frozen? ⟨w0.heap.size, j, none⟩ = false) := Lib.hid (by
        have := (((hs.out.next (bl_alloc (bl_refl wr) (.cells #[.int .i64 (P.getD j (0, 0)).1, .int .i64 (P.getD j (0, 0)).2] 107))).next (bl_alloc (bl_refl _) (.cells #[.int .i64 (P.getD j (0, 0)).1, .int .i64 (P.getD j (0, 0)).2] 107))).cell j hlt)
        rwa [if_neg (by omega)] at this)
      clear ca0 ca1 hR
      generalize (P.getD j (0, 0)).1 = x at *
      generalize (P.getD j (0, 0)).2 = y at *
      obtain ⟨co, fo⟩ := HCO.out
      go_wp2_with (go_at_call 78; refine (twoList_any _ _ _).mono ?_; rintro e w5 ⟨rfl, rfl⟩)
      go_roundw
      case rel => exact ⟨j + 1, _, by omega, by go_num, Lib.hid (by have := HD.out; simpa using this)⟩
      case measure => simp [intOf]; omega
    · obtain rfl : j = P.length := by omega
      go_wp2_with fail
      go_ret
      exact ⟨_, _, _, _, rfl, hs.out.fam (fun _ _ => rfl), hs.out.below⟩

set_option maxRecDepth 100000 in
set_option maxHeartbeats 4000000 in
theorem implCombosWithout_yes (k : Int) (A : Option Addr) (c : Nat) (dead : List Int) (B : Nat) (wt w : World) (hr : Rd w A dead) (hn : dead.length ≤ 4000000) (h0 : 0 ≤ k) (h1 : k < 169) (hd : cardsB dead = true) (ht : Hid (Tz B wt)) (hB : Hid (Below B wt w)) (hBw : Hid (B ≤ w.heap.size)) :
    Calls Tryd.prog 13 #[.int .i64 k, .slice A dead.length c] w (NewFam (combosP k dead).length (fun j => two ((combosP k dead).getD j (0, 0))) 0 w) := by
  have KI := Lib.hid (fun W => isClass_yes k W h0 h1)
  have KS := Lib.hid (fun (c : Nat) => setOf_any A c dead w hr hn)
  unfold setV at KS
  rw [setI_yes hd, hd] at KS
  have hm := mask_lt dead hd
  have E1 := Lib.hid (u64_rest (maskOf dead) (by omega))
  have KB : Hid (Calls Tryd.prog 47 #[.int .u64 (restM (maskOf dead) : Nat)] w (fun e w' => e = .returned (.map (some w.heap.size)) ∧ ∃ f w1, Hid (Grps w w1 w.heap.size (pairsOf (othersN 52 dead)) f w'))) := Lib.hid (by
    have := combosBy_any (restM (maskOf dead)) B wt w (restM_lt _) (by rw [rest_others dead hd]; exact others_bd dead) ht hB hBw
    rwa [rest_others dead hd] at this)
  have EP := Lib.hid (combos_others k dead (others_all52 dead))
  have hwf : (Lit.int .i64 k).wf = true := WalkArith.wf_i64 (by omega)
  have HLE : Hid ((combosP k dead).length ≤ 4096) := Lib.hid (by
    rw [← EP.out]
    have h1 := ofCls_len k (pairsOf (othersN 52 dead))
    have h2 := pairs_len (othersN 52 dead)
    have h3 := othersN_len 52 dead
    have : (othersN 52 dead).length * (othersN 52 dead).length ≤ 64 * 64 := Nat.mul_le_mul (by omega) (by omega)
    omega)
  clear hm hd hr
  generalize restM (maskOf dead) = r at *
  generalize maskOf dead = m at *
  have e1 := E1.out
  obtain ⟨w0, rfl⟩ : ∃ w0 : World, w0 = w := ⟨w, rfl⟩
  go_enter Tryd.func13, Tryd.ntmps13
  generalize hPP : combosP k dead = P at *
  clear hPP
  go_wp2_with (first
    | (go_at_call 44; refine (KI.out _).mono ?_; rintro e w1 ⟨rfl, rfl⟩)
    | (go_at_call 45; refine (KS.out _).mono ?_; rintro e w1 ⟨rfl, rfl⟩)
    | (go_at_call 47; refine (KB.out).mono ?_; rintro e w2 ⟨rfl, f, wb, hg⟩; have HLK := MapG.lookup hg.out.map hwf; have HOG := hg.out.rows k h0 h1; rw [EP.out] at HOG; obtain ⟨A2, c2, hfk, hcl⟩ := ownG_form HOG; have HCL := Lib.hid hcl; have HBL := Lib.hid hg.out.below; rw [hfk] at HLK; clear hfk HOG hcl hg)
    | (go_at_call 46; refine (comboLists_any A2 c2 P _ HLE.out HCL.out).mono ?_; rintro e w3 ⟨A3, c3, AA3, CC3, rfl, hf3, hb3⟩; have HF3 := Lib.hid hf3; have HB3 := Lib.hid hb3; clear hf3 hb3))
  go_ret2
  have hb0 : w0.heap.size ≤ w2.heap.size := HBL.out.size
  exact ⟨_, _, _, _, rfl, HF3.out.less hb0, HBL.out.trans (HB3.out.mono hb0)⟩
set_option maxRecDepth 100000 in
set_option maxHeartbeats 1000000 in
theorem implCombosWithout_any (k : Int) (A : Option Addr) (c : Nat) (dead : List Int) (B : Nat) (wt w : World) (hr : Rd w A dead) (hn : dead.length ≤ 4000000) (ht : Hid (Tz B wt)) (hB : Hid (Below B wt w)) (hBw : Hid (B ≤ w.heap.size)) :
    Calls Tryd.prog 13 #[.int .i64 k, .slice A dead.length c] w (NewFam (comP k dead).length (comR k dead) (comC k dead) w) := by
  by_cases h : 0 ≤ k ∧ k < 169
  · obtain ⟨h0, h1⟩ := h
    by_cases hd : cardsB dead = true
    · have e := comC_yes (isCls_yes h0 h1) hd
      unfold comR
      rw [e.1, e.2]
      exact implCombosWithout_yes k A c dead B wt w hr hn h0 h1 hd ht hB hBw
    · have hf : cardsB dead = false := by simpa using hd
      have e := comC_bad (isCls_yes h0 h1) hf
      rw [e.1, e.2]
      have KI := Lib.hid (fun W => isClass_yes k W h0 h1)
      have KS := Lib.hid (fun (c : Nat) => setOf_any A c dead w hr hn)
      unfold setV at KS
      rw [setI_no hf, hf] at KS
      have HF := Lib.hid (fun (w' : World) (hb : Below w.heap.size w w') => newFam_nil (R := comR k dead) (c := 1) hb)
      clear hr hd hf e
      go_enter Tryd.func13, Tryd.ntmps13
      go_wp2_with (first
        | (go_at_call 44; refine (KI.out _).mono ?_; rintro e w1 ⟨rfl, rfl⟩)
        | (go_at_call 45; refine (KS.out _).mono ?_; rintro e w1 ⟨rfl, rfl⟩))
      go_ret2
      exact HF.out _ (bl_refl _)
  · have h' : k < 0 ∨ 169 ≤ k := by omega
    have e := comC_no (dead := dead) (isCls_no h')
    rw [e.1, e.2]
    have KI := Lib.hid (fun W => isClass_no k W h')
    have HF := Lib.hid (fun (w' : World) (hb : Below w.heap.size w w') => newFam_nil (R := comR k dead) (c := 2) hb)
    clear hr h h' e
    go_enter Tryd.func13, Tryd.ntmps13
    go_wp2_with (go_at_call 44; refine (KI.out _).mono ?_; rintro e w1 ⟨rfl, rfl⟩)
    go_ret2
    exact HF.out _ (bl_refl _)
theorem rd_nil (w : World) : Rd w none [] := fun h => by simp at h
set_option maxRecDepth 100000 in
set_option maxHeartbeats 1000000 in
theorem implCombosOf_any (k : Int) (B : Nat) (wt w : World) (ht : Hid (Tz B wt)) (hB : Hid (Below B wt w)) (hBw : Hid (B ≤ w.heap.size)) :
    Calls Tryd.prog 16 #[.int .i64 k] w (NewFam (comP k []).length (comR k []) (comC k []) w) := by
  have K := Lib.hid (implCombosWithout_any k none 0 [] B wt w (rd_nil w) (by simp) ht hB hBw)
  generalize (comP k []).length = n at *
  generalize comR k [] = R at *
  generalize comC k [] = c at *
  simp only [List.length_nil] at K
  go_enter Tryd.func16, Tryd.ntmps16
  go_wp2_with (go_at_call 13; refine (K.out).mono ?_; rintro e w1 ⟨A, c1, AA, CC, rfl, hf, hb⟩)
  go_ret2
  exact ⟨A, c1, AA, CC, rfl, hf, hb⟩
end Go.Proofs.YtjmfecjgomkofabDoor
