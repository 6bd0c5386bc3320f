/-
  CombosOf, CombosWithout: the model's functions.
-/
import Derived.Test.YtjmfecjgomkofabDoorCombosSpec
import Derived.Test.YtjmfecjgomkofabDoorBase
namespace Go.Proofs.YtjmfecjgomkofabDoor
open Go.RowKit
set_option linter.unusedVariables false

theorem combos_nil (k : Int) : combosP k [] = clsP k := by
  unfold combosP clsP
  generalize pairsOf all52 = L
  have : L.filter (fun q => !hasB [] q.1 && !hasB [] q.2) = L := List.filter_eq_self.2 (fun q _ => by simp [hasB])
  rw [this]
theorem combos_sel (k : Int) (dead : List Int) : combosP k dead = (clsP k).filter (fun q => !hasB dead q.1 && !hasB dead q.2) := combosP_dead k dead
/-- Which of the first n are taken. -/
def sel (pr : Int × Int → Bool) (P : List (Int × Int)) (n : Nat) : List Nat := (List.range n).filter (fun i => pr (P.getD i (0, 0)))
theorem sel_yes {pr : Int × Int → Bool} {P : List (Int × Int)} {n : Nat} (h : pr (P.getD n (0, 0)) = true) : sel pr P (n + 1) = sel pr P n ++ [n] := by
  unfold sel; rw [List.range_succ, List.filter_append]; simp only [List.filter_cons, h, if_true, List.filter_nil]
theorem sel_no {pr : Int × Int → Bool} {P : List (Int × Int)} {n : Nat} (h : pr (P.getD n (0, 0)) = false) : sel pr P (n + 1) = sel pr P n := by
  unfold sel; rw [List.range_succ, List.filter_append]; simp only [List.filter_cons, h, List.filter_nil]; simp
theorem sel_lt (pr : Int × Int → Bool) (P : List (Int × Int)) (n : Nat) : ∀ i ∈ sel pr P n, i < n := fun i hi => List.mem_range.1 (List.mem_filter.1 hi).1
theorem sel_nodup (pr : Int × Int → Bool) (P : List (Int × Int)) (n : Nat) : (sel pr P n).Nodup := List.nodup_range.filter _
theorem sel_len (pr : Int × Int → Bool) (P : List (Int × Int)) (n : Nat) : (sel pr P n).length ≤ n := by
  have := List.length_filter_le (fun i => pr (P.getD i (0, 0))) (List.range n); unfold sel; simpa using this
theorem sel_all (pr : Int × Int → Bool) (P : List (Int × Int)) : (sel pr P P.length).map (fun i => P.getD i (0, 0)) = P.filter pr := by
  have e : (List.range P.length).map (fun i => P.getD i (0, 0)) = P := by
    apply List.ext_getElem
    · simp
    · intro i h1 h2
      simp [h2]
  have : P.filter pr = ((List.range P.length).map (fun i => P.getD i (0, 0))).filter pr := by rw [e]
  rw [this, List.filter_map]
  rfl
/-- Slices of rows that lie there are hung to a new row of slices. -/
structure SelSt (w1 : World) (AA : Nat → Option Addr) (CC : Nat → Nat) (js : List Nat) (v : Value) (wr : World) : Prop where
  out : wr.ownsRow w1.heap.size 24 1 v js.length (js.map (fun i => .slice (AA i) 2 (CC i)))
  below : Below w1.heap.size w1 wr
theorem sel_start (w1 : World) (AA : Nat → Option Addr) (CC : Nat → Nat) : SelSt w1 AA CC [] (.slice (some ⟨w1.heap.size, 0, none⟩) 0 0) (w1.alloc (.cells #[] 24)) :=
  ⟨World.ownsRow_made w1 #[] 0 (Nat.le_refl _) (by unfold maxLen; omega) rfl, bl_alloc (bl_refl _) _⟩
theorem SelSt.next {w1 wr w' : World} {AA : Nat → Option Addr} {CC : Nat → Nat} {js : List Nat} {v : Value} (h : SelSt w1 AA CC js v wr) (hb : Below wr.heap.size wr w') : SelSt w1 AA CC js v w' :=
  ⟨World.ownsRow.kept h.out (toGrown hb none) (by cases v.ownBlock <;> simp), bl_trans h.below hb⟩
theorem SelSt.add {w1 wr w' : World} {AA : Nat → Option Addr} {CC : Nat → Nat} {js : List Nat} {v v' : Value} {j : Nat} {o : Obj} (h : SelSt w1 AA CC js v wr)
    (hown : w'.ownsRow w1.heap.size 24 1 v' (js.length + 1) (js.map (fun i => .slice (AA i) 2 (CC i)) ++ [.slice (AA j) 2 (CC j)])) (hg : (wr.alloc o).grownBy w' v.ownBlock) : SelSt w1 AA CC (js ++ [j]) v' w' := by
  refine ⟨by rw [List.length_append, List.map_append]; exact hown, ?_⟩
  have h2 := h.next (bl_alloc (bl_refl wr) o)
  exact h2.below.grown hg h2.below.size (fun q hq => (World.ownsRow.lt h.out q hq).1)
theorem Fam.congr {w : World} {lo : Nat} {A : Option Addr} {H : Nat} {R R' : Nat → List Int} {AA : Nat → Option Addr} {CC : Nat → Nat} (h : Fam w lo A H R AA CC) (he : ∀ j, j < H → R j = R' j) : Fam w lo A H R' AA CC :=
  ⟨fun h0 => by
    obtain ⟨g, off, e, hg, hc⟩ := h.outer h0
    exact ⟨g, off, e, hg, fun j hj => by rw [hc j hj, he j hj]⟩, fun j hj => by rw [← he j hj]; exact h.row j hj, h.lo, h.off, h.apart⟩
theorem SelSt.fam {w1 wr : World} {lo H : Nat} {A : Option Addr} {R : Nat → List Int} {AA : Nat → Option Addr} {CC : Nat → Nat} {js : List Nat} {v : Value} (h : SelSt w1 AA CC js v wr) (hf : Fam w1 lo A H R AA CC) (hl : lo ≤ w1.heap.size) (h2 : ∀ j, j < H → (R j).length = 2) (hj : ∀ i ∈ js, i < H) (hn : js.Nodup) :
    ∃ A' c', v = .slice A' js.length c' ∧ Fam wr lo A' js.length (fun j => R (js.getD j 0)) (fun j => AA (js.getD j 0)) (fun j => CC (js.getD j 0)) := by
  have hget : ∀ k, k < js.length → js.getD k 0 < H := fun k hk => by
    rw [List.getD_eq_getElem?_getD, List.getElem?_eq_getElem hk]
    exact hj _ (List.getElem_mem hk)
  have hb : Fam wr lo A H R AA CC := hf.below h.below
  rcases h.out.2 with ⟨rfl, h0⟩ | ⟨g, cap, cur, rfl, _⟩
  · refine ⟨none, 0, by rw [h0], ?_⟩
    rw [h0]
    exact ⟨(fun h => by omega), (fun _ h => by omega), (fun a e => by cases e), (fun _ h => by omega), (fun _ h => by omega)⟩
  · have hlt := World.ownsRow.lt h.out g rfl
    have hrow : ∀ k, k < H → ∀ a, AA k = some a → a.block < w1.heap.size := fun k hk a e => ((hf.row k hk).1 a e).2
    refine ⟨_, _, rfl, fun _ => ⟨g, 0, rfl, hlt.2, fun k hk => ?_⟩, fun k hk => hb.row _ (hget k hk), fun a e => ?_, fun k hk a e b e' => ?_, fun i hi k hk hne a e b e' => ?_⟩
    · rw [Nat.zero_add, World.ownsRow.cellAt h.out k (by omega)]
      rw [h2 _ (hget k hk), List.getElem?_map, List.getElem?_eq_getElem hk, List.getD_eq_getElem?_getD, List.getElem?_eq_getElem hk]
      rfl
    · obtain rfl := Option.some.inj e; exact ⟨Nat.le_trans hl hlt.1, hlt.2⟩
    · obtain rfl := Option.some.inj e'
      have := hrow _ (hget k hk) a e
      show a.block ≠ g
      have := hlt.1
      omega
    · refine hf.apart _ (hget i hi) _ (hget k hk) (fun q => hne ?_) a e b e'
      rw [List.getD_eq_getElem?_getD, List.getElem?_eq_getElem hi, List.getD_eq_getElem?_getD, List.getElem?_eq_getElem hk] at q
      exact (List.getElem_inj hn).1 q
theorem newFam1_of {w w' : World} {H : Nat} {R : Nat → List Int} {A : Option Addr} {c : Nat} {AA : Nat → Option Addr} {CC : Nat → Nat} {k : Int} (hf : Fam w' w.heap.size A H R AA CC) (hb : Below w.heap.size w w') : NewFam H R k w (.returned (.tuple #[.slice A H c, .int .i64 k])) w' := ⟨A, c, AA, CC, rfl, hf, hb⟩

set_option maxRecDepth 100000 in
set_option maxHeartbeats 1000000 in
theorem specCombosOf_any (k : Int) (w : World) : Calls Tryd.prog 17 #[.int .i64 k] w (NewFam (comP k []).length (comR k []) (comC k []) w) := by
  have KI := Lib.hid (fun W => l07Is_any k W)
  by_cases h : 0 ≤ k ∧ k < 169
  · obtain ⟨h0, h1⟩ := h
    have e := comC_yes (dead := []) (isCls_yes h0 h1) cards_nil
    have K := Lib.hid (fun W => l07Combos_any k W)
    unfold comR
    rw [e.1, e.2, combos_nil]
    rw [isCls_yes h0 h1] at KI
    clear e
    have e2 : (fun j => two ((clsP k).getD j (0, 0))) = clsR2 k := rfl
    rw [e2]
    clear e2
    generalize (clsP k).length = n at *
    generalize clsR2 k = R at *
    go_enter Tryd.func17, Tryd.ntmps17
    go_wp2_with (first | (go_at_call 48; refine (KI.out _).mono ?_; rintro e w1 ⟨rfl, rfl⟩) | (go_at_call 50; refine (K.out _).mono ?_; rintro e w1 ⟨A, c, AA, CC, rfl, hf, hb⟩))
    go_ret2
    exact newFam1_of hf hb
  · have h' : k < 0 ∨ 169 ≤ k := by omega
    have e := comC_no (dead := []) (isCls_no h')
    rw [e.1, e.2]
    rw [isCls_no h'] at KI
    have HF := Lib.hid (fun (w' : World) (hb : Below w.heap.size w w') => newFam_nil (R := comR k []) (c := 2) hb)
    clear h h' e
    go_enter Tryd.func17, Tryd.ntmps17
    go_wp2_with (go_at_call 48; refine (KI.out _).mono ?_; rintro e w1 ⟨rfl, rfl⟩)
    go_ret2
    exact HF.out _ (bl_refl _)

set_option maxRecDepth 100000 in
set_option maxHeartbeats 4000000 in
theorem specCombosWithout_yes (k : Int) (A : Option Addr) (c : Nat) (dead : List Int) (w : World) (hr : Rd w A dead) (hn : dead.length ≤ 4000000) (h0 : 0 ≤ k) (h1 : k < 169) (hd : cardsB dead = true) :
    Calls Tryd.prog 14 #[.int .i64 k, .slice A dead.length c] w (NewFam (combosP k dead).length (fun j => two ((combosP k dead).getD j (0, 0))) 0 w) := by
  have KI := Lib.hid (fun W => l07Is_any k W)
  rw [isCls_yes h0 h1] at KI
  have KA := Lib.hid (fun (c : Nat) => specAre_any A c dead w hr hn)
  rw [hd] at KA
  have KC := Lib.hid (fun W => l07Combos_any k W)
  have KH := Lib.hid (fun (W : World) (x : Int) (c : Nat) (hb : Below w.heap.size w W) => has_any A c dead x W (hr.below hb) hn)
  have HS := Lib.hid (combos_sel k dead)
  have HLE : Hid ((clsP k).length ≤ 4096) := Lib.hid (by
    have h1 := ofCls_len k (pairsOf all52)
    have h2 := pairs_len all52
    rw [all52_len] at h2
    unfold clsP; omega)
  have HR2 : Hid (∀ j, clsR2 k j = [((clsP k).getD j (0, 0)).1, ((clsP k).getD j (0, 0)).2]) := Lib.hid (fun j => rfl)
  generalize clsR2 k = R at *
  generalize hP : clsP k = P at *
  clear hP hr hd
  obtain ⟨w0, rfl⟩ : ∃ w0 : World, w0 = w := ⟨w, rfl⟩
  go_enter Tryd.func14, Tryd.ntmps14
  go_wp2_with (first
    | (go_at_call 48; refine (KI.out _).mono ?_; rintro e w1 ⟨rfl, rfl⟩)
    | (go_at_call 49; refine (KA.out _).mono ?_; rintro e w2 ⟨rfl, hb2⟩; have B2 := Lib.hid hb2; clear hb2)
    | (go_at_call 50; refine (KC.out _).mono ?_; rintro e w3 ⟨A3, c3, AA, CC, rfl, hf3, hb3⟩; have B3 := Lib.hid (bl_trans B2.out hb3); have F3 := Lib.hid (hf3.less B2.out.size); clear hf3 hb3))
  have HS0 : Hid (SelSt w3 AA CC [] (.slice (some ⟨w3.heap.size, 0, none⟩) 0 0) (w3.alloc (.cells #[] 24))) := Lib.hid (sel_start w3 AA CC)
  go_loopw [7, 8] (fun v i wr => ∃ n : Nat, n ≤ P.length ∧ i = .int .i64 n ∧ Hid (SelSt w3 AA CC (sel (fun q => !hasB dead q.1 && !hasB dead q.2) P n) v wr)) (fun _ i _ => P.length - (intOf i).toNat)
  case atStart => exact ⟨0, Nat.zero_le _, rfl, HS0⟩
  case round =>
    obtain ⟨n, hnn, rfl, hs⟩ := hrel
    by_cases hlt : n < P.length
    · have hlt' : (n : Int) < P.length := by omega
      have hle := HLE.out
      obtain ⟨g3, off3, rfl, hco⟩ := F3.out.at_ hs.out.below n hlt
      have hrow := (F3.out.below hs.out.below).row n hlt
      have hR := HR2.out n
      rw [hR] at hco hrow
      obtain ⟨gi, oi, hai, hci⟩ := hrow.rd (by simp)
      have c0 : wr.cell? ⟨gi, oi, none⟩ = some (.int .i64 (P.getD n (0, 0)).1) := hci 0 (by simp)
      have c1 : wr.cell? ⟨gi, oi + 1, none⟩ = some (.int .i64 (P.getD n (0, 0)).2) := hci 1 (by simp)
      have HY := Lib.hid (@sel_yes (fun q => !hasB dead q.1 && !hasB dead q.2) P n)
      have HN := Lib.hid (@sel_no (fun q => !hasB dead q.1 && !hasB dead q.2) P n)
      have HSL := Lib.hid (sel_len (fun q => !hasB dead q.1 && !hasB dead q.2) P n)
      have KX := Lib.hid (fun (c : Nat) => KH.out wr (P.getD n (0, 0)).1 c (bl_trans B3.out hs.out.below))
      have KY := Lib.hid (fun (c : Nat) => KH.out wr (P.getD n (0, 0)).2 c (bl_trans B3.out hs.out.below))
      have HAI := Lib.hid hai
      rw [hai] at hco
      simp only [List.length_cons, List.length_nil, Nat.zero_add, Nat.reduceAdd] at hco
      generalize (P.getD n (0, 0)).1 = x at *
      generalize (P.getD n (0, 0)).2 = y at *
      have HBX : Hid (hasB dead x = hasB dead x) := Lib.hid rfl
      clear hrow hR hci HBX hai
      cases hx : hasB dead x with
      | true =>
        rw [hx] at KX
        have HN2 := Lib.hid (HN.out (by simp [hx]))
        clear hx
        go_wp2_with (first
            | (go_at_call 51; ((with_reducible refine (KX.out _).mono ?_); rintro e w5 ⟨rfl, rfl⟩))
            | (go_at_call 51; ((with_reducible refine (KY.out _).mono ?_); rintro e w5 ⟨rfl, rfl⟩)))
        go_roundw
        case rel => exact ⟨n + 1, by omega, by go_num, Lib.hid (by rw [HN2.out]; exact hs.out)⟩
        case measure => simp [intOf]; omega
      | false =>
        rw [hx] at KX
        cases hy : hasB dead y with
        | true =>
          rw [hy] at KY
          have HN2 := Lib.hid (HN.out (by simp [hy]))
          clear hx hy
          go_wp2_with (first
            | (go_at_call 51; ((with_reducible refine (KX.out _).mono ?_); rintro e w5 ⟨rfl, rfl⟩))
            | (go_at_call 51; ((with_reducible refine (KY.out _).mono ?_); rintro e w5 ⟨rfl, rfl⟩)))
          go_roundw
          case rel => exact ⟨n + 1, by omega, by go_num, Lib.hid (by rw [HN2.out]; exact hs.out)⟩
          case measure => simp [intOf]; omega
        | false =>
          rw [hy] at KY
          have HY2 := Lib.hid (HY.out (by simp [hx, hy]))
          clear hx hy
          go_wp2_with (first
            | (go_at_call 51; ((with_reducible refine (KX.out _).mono ?_); rintro e w5 ⟨rfl, rfl⟩))
            | (go_at_call 51; ((with_reducible refine (KY.out _).mono ?_); rintro e w5 ⟨rfl, rfl⟩))
            | (at_builtin; refine wpList_hang (.tmp 44) (.tmp 49) rfl rfl w3.heap.size u7 (sel (fun q => !hasB dead q.1 && !hasB dead q.2) P n).length ((sel (fun q => !hasB dead q.1 && !hasB dead q.2) P n).map (fun i => .slice (AA i) 2 (CC i))) rfl ((hs.out.next (bl_alloc (bl_refl wr) _)).out) ⟨wr.heap.size, 0, none⟩ 1 (.slice (AA n) 2 (CC n)) rfl ?c1 rfl ?c2 ?c3 ?_))
          case c1 => rw [HAI.out]; simp [go_sem]
          case c2 => have := HSL.out; omega
          case c3 => have := hs.out.below.size; simp; omega
          intro v' w6 hown6 hg6 hv6
          have HG := Lib.hid (hs.out.add hown6 hg6)
          rw [← HY2.out] at HG
          clear hown6 hg6 hv6
          go_wp2_with fail
          go_roundw
          case rel => exact ⟨n + 1, by omega, by go_num, HG⟩
          case measure => simp [intOf]; omega
    · obtain rfl : n = P.length := by omega
      obtain ⟨A', c', rfl, hf⟩ := hs.out.fam F3.out (B3.out.size) (fun j _ => by rw [HR2.out]; rfl) (sel_lt _ _ _) (sel_nodup _ _ _)
      have HF := Lib.hid hf
      have HSA := Lib.hid (sel_all (fun q => !hasB dead q.1 && !hasB dead q.2) P)
      have HB := Lib.hid (bl_trans B3.out hs.out.below)
      clear hf
      go_wp2_with fail
      go_ret2
      have e0 : combosP k dead = (sel (fun q => !hasB dead q.1 && !hasB dead q.2) P P.length).map (fun i => P.getD i (0, 0)) := by rw [HSA.out]; exact HS.out
      rw [e0, List.length_map]
      refine newFam1_of (HF.out.congr (fun j hj => ?_)) HB.out
      rw [HR2.out, List.getD_eq_getElem?_getD (l := List.map _ _), List.getElem?_map, List.getD_eq_getElem?_getD (l := sel _ _ _), List.getElem?_eq_getElem hj]
      rfl
set_option maxRecDepth 100000 in
set_option maxHeartbeats 1000000 in
theorem specCombosWithout_any (k : Int) (A : Option Addr) (c : Nat) (dead : List Int) (w : World) (hr : Rd w A dead) (hn : dead.length ≤ 4000000) :
    Calls Tryd.prog 14 #[.int .i64 k, .slice A dead.length c] w (NewFam (comP k dead).length (comR k dead) (comC k dead) w) := by
  have KI := Lib.hid (fun W => l07Is_any k W)
  by_cases h : 0 ≤ k ∧ k < 169
  · obtain ⟨h0, h1⟩ := h
    by_cases hd : cardsB dead = true
    · have e := comC_yes (isCls_yes h0 h1) hd
      unfold comR
      rw [e.1, e.2]
      exact specCombosWithout_yes k A c dead w hr hn h0 h1 hd
    · have hf : cardsB dead = false := by simpa using hd
      have e := comC_bad (isCls_yes h0 h1) hf
      rw [e.1, e.2]
      rw [isCls_yes h0 h1] at KI
      have KA := Lib.hid (fun (c : Nat) => specAre_any A c dead w hr hn)
      rw [hf] at KA
      have HF := Lib.hid (fun (w' : World) (hb : Below w.heap.size w w') => newFam_nil (R := comR k dead) (c := 1) hb)
      clear hr hd hf e
      go_enter Tryd.func14, Tryd.ntmps14
      go_wp2_with (first
        | (go_at_call 48; refine (KI.out _).mono ?_; rintro e w1 ⟨rfl, rfl⟩)
        | (go_at_call 49; refine (KA.out _).mono ?_; rintro e w2 ⟨rfl, hb2⟩))
      go_ret2
      exact HF.out _ hb2
  · have h' : k < 0 ∨ 169 ≤ k := by omega
    have e := comC_no (dead := dead) (isCls_no h')
    rw [e.1, e.2]
    rw [isCls_no h'] at KI
    have HF := Lib.hid (fun (w' : World) (hb : Below w.heap.size w w') => newFam_nil (R := comR k dead) (c := 2) hb)
    clear hr h h' e
    go_enter Tryd.func14, Tryd.ntmps14
    go_wp2_with (go_at_call 48; refine (KI.out _).mono ?_; rintro e w1 ⟨rfl, rfl⟩)
    go_ret2
    exact HF.out _ (bl_refl _)
end Go.Proofs.YtjmfecjgomkofabDoor
