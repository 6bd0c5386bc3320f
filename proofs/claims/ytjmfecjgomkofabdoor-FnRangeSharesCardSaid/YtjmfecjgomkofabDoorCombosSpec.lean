/-
  CombosOf, CombosWithout: the model's.
-/
import Derived.Test.YtjmfecjgomkofabDoorCombosImpl
import Derived.Test.YtjmfecjgomkofabDoorSpecH
import Derived.Test.YtjmfecjgomkofabDoorFam1
namespace Go.Proofs.YtjmfecjgomkofabDoor
open Go.RowKit
set_option linter.unusedVariables false

theorem all52_len : all52.length = 52 := by decide
theorem all52_nth : ∀ i : Fin 52, nth all52 i.val = (i.val : Int) := by decide
theorem all52_drop (x n : Nat) (h : x + 1 + n < 52) : nth (all52.drop (x + 1)) n = ((x + 1 + n : Nat) : Int) := by
  have := all52_nth ⟨x + 1 + n, h⟩
  simp only at this
  rw [← this]
  unfold nth
  rw [List.getD_eq_getElem?_getD, List.getD_eq_getElem?_getD, List.getElem?_drop]
/-- All combinations of a class. -/
def clsP (k : Int) : List (Int × Int) := ofCls k (pairsOf all52)
def clsR2 (k : Int) : Nat → List Int := fun j => two ((clsP k).getD j (0, 0))
theorem clsP_at {k : Int} {ps qs : List (Int × Int)} {q : Int × Int} (h : ps ++ (q :: qs) = pairsOf all52) (hq : clsI q.1 q.2 = k) : (clsP k).getD (ofCls k ps).length (0, 0) = q := by
  unfold clsP
  rw [← h]
  unfold ofCls
  rw [List.filter_append, List.filter_cons_of_pos (by simp [hq]), List.getD_eq_getElem?_getD, List.getElem?_append_right (Nat.le_refl _)]
  simp
theorem own_two (w : World) (x y : Int) : Own (w.alloc (.cells #[.int .i64 x, .int .i64 y] 2)) w.heap.size (.slice (some ⟨w.heap.size, 0, none⟩) 2 2) [x, y] :=
  ⟨rfl, .inr ⟨w.heap.size, 2, #[.int .i64 x, .int .i64 y], rfl, Nat.le_refl _, heap_alloc_new w _, Nat.le_refl _, by unfold maxLen; omega, rfl, rfl⟩⟩
set_option maxRecDepth 100000 in
set_option maxHeartbeats 4000000 in
theorem l07Combos_any (k : Int) (w : World) : Calls Tryd.prog 50 #[.int .i64 k] w (NewFam1 (clsP k).length (clsR2 k) w) := by
  have hL52 := all52_len
  have HLN := Lib.hid (fun (x : Nat) (h : x < 52) => all52_nth ⟨x, h⟩)
  have HLD := Lib.hid all52_drop
  have HAT := Lib.hid (fun ps qs q h hq => @clsP_at k ps qs q h hq)
  have HPD := Lib.hid (fun x h => pairs_drop all52 x h)
  have HPL := Lib.hid (fun ps qs (h : ps ++ qs = pairsOf all52) => pairs_len52 (by omega) h)
  have HCL : Hid (clsP k = ofCls k (pairsOf all52)) := Lib.hid rfl
  obtain ⟨w0, rfl⟩ : ∃ w0 : World, w0 = w := ⟨w, rfl⟩
  generalize all52 = L at *
  go_enter Tryd.func50, Tryd.ntmps50
  go_wp2_with fail
  have HS0 : Hid (Hang w0 0 2 (clsR2 k) (fun _ => none) (fun _ => 0) (.slice (some ⟨w0.heap.size, 0, none⟩) 0 0) (w0.alloc (.cells #[] 24))) := Lib.hid (hang_start w0 2 _ _ _)
  go_loopw [3, 4] (fun v i wr => ∃ (x : Nat) (ps : List (Int × Int)) (AA : Nat → Option Addr) (CC : Nat → Nat), x ≤ 52 ∧ i = .int .i64 x ∧ Hid (Hang w0 (ofCls k ps).length 2 (clsR2 k) AA CC v wr) ∧ Hid (ps ++ pairsOf (L.drop x) = pairsOf L)) (fun _ i _ => 52 - (intOf i).toNat)
  case atStart => exact ⟨0, [], _, _, Nat.zero_le _, rfl, HS0, Lib.hid rfl⟩
  case round =>
    obtain ⟨x, ps, AA, CC, hx, rfl, hh, hp⟩ := hrel
    by_cases hlt : x < 52
    · have hlt' : (x : Int) < 52 := by omega
      have HE : Hid (ps ++ ((L.drop (x + 1)).map (fun y => ((x : Int), y)) ++ pairsOf (L.drop (x + 1))) = pairsOf L) := Lib.hid (by
        have e1 := HPD.out x (by omega)
        have e2 : nth L x = (x : Int) := HLN.out x hlt
        rw [e2] at e1
        rw [← e1]; exact hp.out)
      go_wp2_with fail
      go_loopw [3, 5] (fun v i wx => ∃ (n : Nat) (ps2 : List (Int × Int)) (AA2 : Nat → Option Addr) (CC2 : Nat → Nat), x + 1 + n ≤ 52 ∧ i = .int .i64 ((x + 1 + n : Nat) : Int) ∧ Hid (Hang w0 (ofCls k ps2).length 2 (clsR2 k) AA2 CC2 v wx) ∧ Hid (ps2 ++ (((L.drop (x + 1)).drop n).map (fun y => ((x : Int), y)) ++ pairsOf (L.drop (x + 1))) = pairsOf L)) (fun _ i _ => 52 - (intOf i).toNat)
      case atStart => exact ⟨0, ps, AA, CC, by omega, by simp, hh, HE⟩
      case round =>
        obtain ⟨n, ps2, AA2, CC2, hn, rfl, hh2, hp2⟩ := hrel
        by_cases hln : x + 1 + n < 52
        · have hln' : ((x + 1 + n : Nat) : Int) < 52 := by omega
          have HP2 : Hid (ps2 ++ (((x : Int), ((x + 1 + n : Nat) : Int)) :: (((L.drop (x + 1)).drop (n + 1)).map (fun y => ((x : Int), y)) ++ pairsOf (L.drop (x + 1)))) = pairsOf L) := Lib.hid (by
            have := hp2.out
            have hl : n < (L.drop (x + 1)).length := by rw [List.length_drop]; omega
            have e : (L.drop (x + 1)).drop n = nth (L.drop (x + 1)) n :: (L.drop (x + 1)).drop (n + 1) := by rw [nth_eq _ n hl]; exact List.drop_eq_getElem_cons hl
            rw [e, HLD.out x n hln] at this
            simpa using this)
          have HPS := Lib.hid (HPL.out _ _ HP2.out)
          have HA := Lib.hid (HAT.out _ _ _ HP2.out)
          have KC := Lib.hid (fun W => l07Class_any (x : Int) ((x + 1 + n : Nat) : Int) W (by omega) (by omega) (by omega) (by omega))
          have HY := Lib.hid (@ofCls_snoc_yes k ps2 ((x : Int), ((x + 1 + n : Nat) : Int)))
          have HN := Lib.hid (@ofCls_snoc_no k ps2 ((x : Int), ((x + 1 + n : Nat) : Int)))
          have HP3 : Hid ((ps2 ++ [((x : Int), ((x + 1 + n : Nat) : Int))]) ++ (((L.drop (x + 1)).drop (n + 1)).map (fun y => ((x : Int), y)) ++ pairsOf (L.drop (x + 1))) = pairsOf L) := Lib.hid (by have := HP2.out; simpa using this)
          obtain ⟨y, ey⟩ : ∃ y : Nat, y = x + 1 + n := ⟨_, rfl⟩
          rw [← ey] at hln' HP2 HA KC HY HN HP3 hln ⊢
          have EY := Lib.hid ey
          clear ey hn
          by_cases hc : clsI (x : Int) (y : Int) = k
          · have q : (clsI (x : Int) (y : Int) == k) = true := by simpa using hc
            have HA2 := Lib.hid (HA.out hc)
            have HY2 := Lib.hid (HY.out hc)
            clear hc
            generalize clsI (x : Int) (y : Int) = kk at *
            have hO := own_two wr (x : Int) (y : Int)
            have HR2 : Hid (clsR2 k (ofCls k ps2).length = [(x : Int), (y : Int)]) := Lib.hid (by unfold clsR2; rw [HA2.out]; rfl)
            go_wp2_with (first
              | (go_at_call 83; refine (KC.out _).mono ?_; rintro e w1 ⟨rfl, rfl⟩)
              | (at_builtin; refine wpList_hang (.tmp 22) (.tmp 26) rfl rfl w0.heap.size u3 (ofCls k ps2).length (cellsS (ofCls k ps2).length AA2 CC2 2) rfl (((hh2.out.next (bl_alloc (bl_refl wr) _)).next (bl_alloc (bl_refl _) _)).out) ⟨wr.heap.size + 1, 0, none⟩ 1 (.slice (some ⟨wr.heap.size, 0, none⟩) 2 2) rfl ?c1 rfl ?c2 ?c3 ?_))
            case c1 => simp [go_sem]
            case c2 => have := HPS.out; have := ofCls_len k ps2; omega
            case c3 => have := hh2.out.below.size; simp; omega
            intro v' w4 hown4 hg4 hv4
            have HG := Lib.hid (hang_add (K := (ofCls k ps2).length) (A := some ⟨wr.heap.size, 0, none⟩) (c := 2) (n := 2) hh2.out (bl_alloc (bl_refl wr) (.cells #[.int .i64 (x : Int), .int .i64 (y : Int)] 2)) (by rw [HR2.out]; exact hO) (by rw [HR2.out]; rfl) hown4 hg4 (by simpa using hv4))
            have HL1 : Hid ((ofCls k ps2).length + 1 = (ofCls k (ps2 ++ [((x : Int), (y : Int))])).length) := Lib.hid (by rw [HY2.out, List.length_append]; rfl)
            rw [HL1.out] at HG
            clear hown4 hg4 hv4
            go_wp2_with fail
            go_roundw
            case rel => exact ⟨n + 1, _, _, _, by have := EY.out; omega, by have := EY.out; subst this; go_num, HG, HP3⟩
            case measure => simp [intOf]; omega
          · have q : (clsI (x : Int) (y : Int) == k) = false := by simpa using hc
            have HN2 := Lib.hid (HN.out hc)
            clear hc
            generalize clsI (x : Int) (y : Int) = kk at *
            go_wp2_with (go_at_call 83; refine (KC.out _).mono ?_; rintro e w1 ⟨rfl, rfl⟩)
            go_roundw
            case rel => exact ⟨n + 1, ps2 ++ [((x : Int), (y : Int))], AA2, CC2, by have := EY.out; omega, by have := EY.out; subst this; go_num, Lib.hid (by rw [HN2.out]; exact hh2.out), HP3⟩
            case measure => simp [intOf]; omega
        · have hn' : x + 1 + n = 52 := by omega
          have HP3 : Hid (ps2 ++ pairsOf (L.drop (x + 1)) = pairsOf L) := Lib.hid (by
            have := hp2.out
            have e : (L.drop (x + 1)).drop n = [] := by rw [List.drop_eq_nil_iff, List.length_drop]; omega
            rw [e] at this
            simpa using this)
          rw [hn']
          clear hn' hln hn
          go_wp2_with fail
          go_roundw
          case rel => exact ⟨x + 1, ps2, AA2, CC2, by omega, by go_num, hh2, HP3⟩
          case measure => simp [intOf]; omega
    · obtain rfl : x = 52 := by omega
      have HPE : Hid (ps = pairsOf L) := Lib.hid (by
        have := hp.out
        have e : L.drop 52 = [] := by rw [List.drop_eq_nil_iff]; omega
        rw [e] at this
        simpa [pairsOf] using this)
      obtain ⟨A, c, rfl, hf⟩ := hh.out.fam2
      have HF := Lib.hid hf
      clear hf
      go_wp2_with fail
      go_ret
      exact ⟨A, c, AA, CC, by rw [HCL.out, ← HPE.out]; rfl, by rw [HCL.out, ← HPE.out]; exact HF.out, hh.out.below⟩
end Go.Proofs.YtjmfecjgomkofabDoor
