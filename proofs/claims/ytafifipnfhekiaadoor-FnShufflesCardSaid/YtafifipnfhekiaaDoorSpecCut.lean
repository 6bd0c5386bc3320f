/-
  CutDeck: the model's walk.
-/
import Derived.Test.YtafifipnfhekiaaDoorSpecCode
namespace Go.Proofs.YtafifipnfhekiaaDoor
open Go.RowKit
set_option linter.unusedVariables false

set_option maxRecDepth 100000 in
set_option maxHeartbeats 2000000 in
theorem specCut_any (A : Option Addr) (c : Nat) (xs : List Int) (n : Int) (w : World) (hr : Rd w A xs) (hn : xs.length ≤ 4000000) (hcap : xs.length ≤ c) :
    Calls Tryd.prog 11 #[.slice A xs.length c, .int .i64 n] w (NewRC (cutR xs n) (codeD xs (inB n 0 52)) w) := by
  have K := Lib.hid (specCode_any A c xs n w hr hn)
  by_cases hg : codeD xs (inB n 0 52) = 0
  · rw [hg] at K ⊢
    have hd : deckB xs = true := by
      unfold codeD at hg
      split at hg
      · next h => exact h
      · cases hg
    have hx : inB n 0 52 = true := by
      unfold codeD at hg
      rw [if_pos hd] at hg
      split at hg
      · next h => exact h
      · cases hg
    rw [cutR_yes hd hx]
    obtain ⟨h0, h1⟩ := count_bd hx
    obtain ⟨m, rfl⟩ := Int.eq_ofNat_of_zero_le h0
    have hl := ((deck_iff xs).1 hd).1
    obtain ⟨b, off, rfl, hc⟩ := hr (by omega)
    have hm : m ≤ 52 := by omega
    have HR := Lib.hid hr
    have KO := Lib.hid (fun (cc : Nat) (W : World) (hb : Below w.heap.size w W) => own_any (fromAt b off c m) cc (xs.drop m) W (rd_from (hr.below hb) (.inl hcap)) (by rw [List.length_drop]; omega))
    have hsl := run_sliceFrom b off 52 c m hm
    have hst := run_sliceTo b off 52 c m (by omega)
    have HL : Hid ((xs.drop m).length = 52 - m) := Lib.hid (by rw [List.length_drop, hl])
    have HL2 : Hid ((xs.take m).length = m) := Lib.hid (by rw [List.length_take, hl]; omega)
    have HT := Lib.hid (fun (W : World) (hb : Below w.heap.size w W) => rd_to (n := m) (hr.below hb))
    have HE := Lib.hid (cut_spec m xs hl hm)
    rw [hl] at K ⊢
    simp only [Int.toNat_natCast, HL.out] at KO K ⊢
    clear hd hx hg h0 hr hc hl hn hcap
    generalize perm (cutF m) xs = zs at *
    generalize xs.drop m = ys at *
    generalize xs.take m = ts at *
    go_enter Tryd.func11, Tryd.ntmps11
    go_wp2_with (go_at_call 33; refine K.out.mono ?_; rintro e w1 ⟨rfl, hb⟩; have HB := Lib.hid hb; clear hb)
    have HQ : Hid (ys.length + ts.length ≤ 4000000) := Lib.hid (by rw [HL.out, HL2.out]; omega)
    go_region_law (first
      | (refine step_glue rfl (.tmp 16) (.tmp 19) rfl w.heap.size (.slice A2 ys.length c2) ys ts (some ⟨b, off, none⟩) c ?q1 HO.out ?q2 (HT.out _ HB2.out) HQ.out HB2.out.size ?q6
         case q1 => simp [Act.eval]
         case q2 => rw [HL2.out]; simp [Act.eval]
         intro A3 c3 ws3 w3 e3 ho3 hg3 _
         have HO3 := Lib.hid ho3
         have HB3 := Lib.hid (bl_app HB2.out HO.out (Nat.le_refl _) hg3)
         have HE3 : Hid (ws3 = zs) := Lib.hid (by rw [e3.out, HE.out])
         clear ho3 hg3 e3)
      | (go_simp; go_at_call 34; refine (KO.out _ _ (bl_drew HB.out)).mono ?_; rintro e w2 ⟨A2, c2, rfl, ho, hb⟩; have HO := Lib.hid (Own.less ho HB.out.size); have HB2 := Lib.hid (bl_trans (bl_drew HB.out) hb); clear ho hb))
    all_goals
      go_wp2_with fail
      go_ret2
      obtain rfl := HE3.out
      exact ⟨A3, c3, rfl, Row.of_own HO3.out, HB3.out⟩
  · have hc0 : cutR xs n = [] := by
      unfold codeD at hg
      rcases hd : deckB xs with _ | _
      · exact cutR_no n hd
      · rw [hd] at hg
        rcases hx : inB n 0 52 with _ | _
        · exact cutR_out xs hx
        · rw [hx] at hg; exact absurd rfl hg
    rw [hc0]
    generalize codeD xs (inB n 0 52) = k at *
    have hk : (k != 0) = true := by simpa using hg
    have hk2 : (k == 0) = false := by simpa using hg
    clear hc0 hr hg
    go_enter Tryd.func11, Tryd.ntmps11
    go_wp2_with (go_at_call 33; refine K.out.mono ?_; rintro e w1 ⟨rfl, hb⟩; have HB := Lib.hid hb; clear hb)
    go_ret2
    exact ⟨none, 0, rfl, Row.nil _ _, HB.out⟩
end Go.Proofs.YtafifipnfhekiaaDoor
