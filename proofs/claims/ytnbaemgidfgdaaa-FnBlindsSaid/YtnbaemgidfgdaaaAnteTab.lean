/-
  Antes: the model's and the program's.
-/
import Derived.Test.YtnbaemgidfgdaaaImplSeats
import Derived.Test.YtnbaemgidfgdaaaSpecTab
import Derived.Test.YtnbaemgidfgdaaaAppR
import Derived.Test.YtnbaemgidfgdaaaMark
import Derived.BigQuiet
namespace Go.Proofs.Ytnbaemgidfgdaaa
open Go.RowKit
set_option linter.unusedVariables false

set_option maxRecDepth 100000 in
set_option maxHeartbeats 400000 in
theorem minT_any (a b : Int) (w : World) :
    Calls Try.prog 80 #[.int .i64 a, .int .i64 b] w (Same (.int .i64 (minT a b)) w) := by
  by_cases h : b < a
  · have H : Hid (minT a b = b) := Lib.hid (minT_lt a b h)
    go_enter Try.func80, Try.ntmps80
    go_wp2_with fail
    go_ret
    exact ⟨ret_int H.out.symm, rfl⟩
  · have H : Hid (minT a b = a) := Lib.hid (minT_ge a b h)
    go_enter Try.func80, Try.ntmps80
    go_wp2_with fail
    go_ret
    exact ⟨ret_int H.out.symm, rfl⟩
set_option maxRecDepth 100000 in
set_option maxHeartbeats 2000000 in
theorem specAntes_any (A : Option Addr) (c : Nat) (xs : List Int) (b s g a l : Int) (w : World) (hr : Rd w A xs) (hn : xs.length ≤ 6) :
    Calls Try.prog 56 #[tV A xs.length c b s g a l] w (NewL (anteL xs a) w) := by
  have HT := Lib.hid (fun k (hk : k < xs.length) => anteL_take xs a k hk)
  have HL := Lib.hid (anteL_len xs a)
  have HA : Hid ((anteL xs a).take xs.length = anteL xs a) := Lib.hid (List.take_of_length_le (by rw [anteL_len]; exact Nat.le_refl _))
  have hmx : Try.prog.follows .mixedOrders = true := by kernel_rfl
  obtain ⟨w0, rfl⟩ : ∃ w0 : World, w0 = w := ⟨w, rfl⟩
  have n0 := blk_new w0 26 [.slice A xs.length c, .int .i64 b, .int .i64 s, .int .i64 g, .int .i64 a, .int .i64 l]
  have N0 := Lib.hid n0
  have B := Lib.hid (bl_alloc (bl_refl w0) (.cells ([.slice A xs.length c, .int .i64 b, .int .i64 s, .int .i64 g, .int .i64 a, .int .i64 l] : List Value).toArray 26))
  clear n0
  have HR := Lib.hid (hr.below B.out)
  have GS := grow_start (w0.alloc (.cells ([.slice A xs.length c, .int .i64 b, .int .i64 s, .int .i64 g, .int .i64 a, .int .i64 l] : List Value).toArray 26))
  rw [World.size_alloc] at GS
  have GH := Lib.hid GS
  clear GS hr
  unfold tV
  go_enter Try.func56, Try.ntmps56
  go_wp2_with fail
  go_loopw [3, 4] (fun v i wr => ∃ k : Nat, k ≤ xs.length ∧ i = .int .i64 k ∧ Hid (Grow (w0.alloc (.cells ([.slice A xs.length c, .int .i64 b, .int .i64 s, .int .i64 g, .int .i64 a, .int .i64 l] : List Value).toArray 26)) ((anteL xs a).take k) v wr)) (fun _ i _ => xs.length - (intOf i).toNat)
  case atStart => exact ⟨0, Nat.zero_le _, rfl, GH⟩
  case round =>
    obtain ⟨k, hk, rfl, HS⟩ := hrel
    obtain ⟨W1, e1⟩ : ∃ W1, W1 = (w0.alloc (.cells ([.slice A xs.length c, .int .i64 b, .int .i64 s, .int .i64 g, .int .i64 a, .int .i64 l] : List Value).toArray 26)) := ⟨_, rfl⟩
    have z1 : W1.heap.size = w0.heap.size + 1 := by rw [e1]; exact World.size_alloc _ _
    rw [← e1] at HS N0 B HR
    have E1 := Lib.hid e1
    clear e1 GH
    obtain ⟨qa, _⟩ := (N0.out.below HS.out.2).cell 0 _ rfl
    by_cases hlt : k < xs.length
    · have hlt' : (k : Int) < xs.length := by omega
      have hl : ((anteL xs a).take k).length ≤ 6 := by rw [List.length_take, HL.out]; omega
      have HO := Lib.hid (HT.out k hlt)
      obtain ⟨bA, oA, rfl, hc0⟩ := HR.out.at_ (bl_refl _) k hlt
      have HC : Hid (∀ W', Below W1.heap.size W1 W' → W'.cell? ⟨bA, oA + k, none⟩ = some (.int .i64 (nth xs k))) := Lib.hid (fun W' h => (h.cell (p := ⟨bA, oA + k, none⟩) (World.block_lt_of_cell? W1 _ hc0)).trans hc0)
      clear hc0
      generalize nth xs k = x at *
      generalize (anteL xs a).take k = ys at *
      go_wp2_with fail
      clear qa
      refine wp_region_R (R := fun a b => Below a.heap.size a b) (I := fun W' => Below W1.heap.size W1 W') (last := 11) (k := 11) (fun _ => bl_refl _) hmx rfl (fun HC0 => ?_)
      refine wpAnyR_take (i := 0) (kw := 11) (v := u3) (fun _ => bl_refl _) (fun p q => bl_trans p q) rfl (by kernel_rfl) (by kernel_rfl) (by kernel_rfl) (by kernel_rfl) (fun _ _ _ h => h) HC0 (Or.inl ⟨by rfl, fun W' hI => ?_⟩) (fun HC1 => ?_)
      · exact .inl (by go_simp)
      refine wpAnyR_take (i := 1) (kw := 11) (v := .pointer (some ⟨w0.heap.size, 4, none⟩)) (fun _ => bl_refl _) (fun p q => bl_trans p q) rfl (by kernel_rfl) (by kernel_rfl) (by kernel_rfl) (by kernel_rfl) (fun _ _ _ h => h) HC1 (Or.inl ⟨by rfl, fun W' hI => ?_⟩) (fun HC2 => ?_)
      · exact .inl (by go_simp)
      refine wpAnyR_take (i := 2) (kw := 11) (v := .int .i64 a) (fun _ => bl_refl _) (fun p q => bl_trans p q) rfl (by kernel_rfl) (by kernel_rfl) (by kernel_rfl) (by kernel_rfl) (fun _ _ _ h => h) HC2 (Or.inl ⟨by rfl, fun W' hI => ?_⟩) (fun HC3 => ?_)
      · have hv := N0.out.below hI
        obtain ⟨q4, _⟩ := hv.cell 4 _ rfl
        exact .inl (by go_simp)
      refine wpAnyR_take (i := 3) (kw := 11) (v := .pointer (some ⟨w0.heap.size, 0, none⟩)) (fun _ => bl_refl _) (fun p q => bl_trans p q) rfl (by kernel_rfl) (by kernel_rfl) (by kernel_rfl) (by kernel_rfl) (fun _ _ _ h => h) HC3 (Or.inl ⟨by rfl, fun W' hI => ?_⟩) (fun HC4 => ?_)
      · exact .inl (by go_simp)
      refine wpAnyR_take (i := 4) (kw := 11) (v := .slice (some ⟨bA, oA, none⟩) xs.length c) (fun _ => bl_refl _) (fun p q => bl_trans p q) rfl (by kernel_rfl) (by kernel_rfl) (by kernel_rfl) (by kernel_rfl) (fun _ _ _ h => h) HC4 (Or.inl ⟨by rfl, fun W' hI => ?_⟩) (fun HC5 => ?_)
      · have hv := N0.out.below hI
        obtain ⟨q0, _⟩ := hv.cell 0 _ rfl
        exact .inl (by go_simp)
      refine wpAnyR_take (i := 5) (kw := 11) (v := .int .i64 k) (fun _ => bl_refl _) (fun p q => bl_trans p q) rfl (by kernel_rfl) (by kernel_rfl) (by kernel_rfl) (by kernel_rfl) (fun _ _ _ h => h) HC5 (Or.inl ⟨by rfl, fun W' hI => ?_⟩) (fun HC6 => ?_)
      · exact .inl (by go_simp)
      refine wpAnyR_take (i := 6) (kw := 11) (v := .pointer (some ⟨bA, oA + k, none⟩)) (fun _ => bl_refl _) (fun p q => bl_trans p q) rfl (by kernel_rfl) (by kernel_rfl) (by kernel_rfl) (by kernel_rfl) (fun _ _ _ h => h) HC6 (Or.inl ⟨by rfl, fun W' hI => ?_⟩) (fun HC7 => ?_)
      · exact .inl (by go_simp)
      refine wpAnyR_take (i := 7) (kw := 11) (v := .int .i64 x) (fun _ => bl_refl _) (fun p q => bl_trans p q) rfl (by kernel_rfl) (by kernel_rfl) (by kernel_rfl) (by kernel_rfl) (fun _ _ _ h => h) HC7 (Or.inl ⟨by rfl, fun W' hI => ?_⟩) (fun HC8 => ?_)
      · have hx := HC.out W' hI
        exact .inl (by go_simp)
      refine wpAnyR_take (i := 8) (kw := 11) (v := .int .i64 (minT a x)) (fun _ => bl_refl _) (fun p q => bl_trans p q) rfl (by kernel_rfl) (by kernel_rfl) (by kernel_rfl) (by kernel_rfl) (fun _ _ _ h => h) HC8 (Or.inl ⟨by rfl, fun W' hI => ?_⟩) (fun HC9 => ?_)
      · refine .inl ?_
        unfold minT
        split <;> go_simp
      refine wpAnyR_one HC9 (i := 9) (by kernel_rfl) rfl (by rfl) (fun w5 hr5 => ⟨bl_trans HS.out.2 (bl_drewT hr5), fun K hK => ?_⟩)
      go_simp
      refine hK _ _ ?_
      clear hK K
      intro HC10
      have hb5 : Below wr.heap.size wr (w5.alloc (.cells #[.int .i64 (minT a x)] 2)) := bl_trans (bl_drewT hr5) (bl_alloc (bl_refl _) _)
      have nb := blk_new w5 2 [.int .i64 (minT a x)]
      refine wpAnyR_one HC10 (i := 10) (by kernel_rfl) rfl (by rfl) (fun w7 hr7 => ⟨bl_trans HS.out.2 (bl_trans hb5 hr7), fun K hK => ?_⟩)
      have hb7 : Below wr.heap.size wr w7 := bl_trans hb5 hr7
      have HW := Lib.hid (nb.below hr7)
      refine wp_app_own (.tmp 13) (.tmp 22) rfl (w0.heap.size + 1) u3 ys (by simp [Act.eval]) ?o1 ⟨w5.heap.size, 0, none⟩ 1 (minT a x) (by simp [Act.eval]) (HW.out.cell 0 _ rfl).1 rfl (by omega) ?o2 ?_
      case o1 => have h := HS.out.1; rw [z1] at h; exact h.below hb7
      case o2 => have h1 := HS.out.2.size; have h2 := hb7.size; omega
      intro v' w8 ho8 hg8
      have HG := Lib.hid (grow_appR (v' := v') (w9 := w8) (x := minT a x) HS.out hb7 (by rw [z1]; exact ho8) hg8)
      refine hK _ _ ?_
      clear hK K ho8 hg8
      intro HC11
      refine wpAnyR_last (by kernel_rfl) (by kernel_rfl) rfl (by rfl) (fun w9 hr9 => ⟨bl_trans HG.out.2 hr9, fun K hK => ?_⟩)
      go_simp
      refine hK _ _ ?_
      clear hK K
      have HG9 := Lib.hid (grow_next HG.out hr9)
      clear hr9 HG hb7 hb5 nb HW
      go_wp2_with fail
      go_roundw
      case rel => exact ⟨k + 1, by omega, by go_num, by rw [HO.out, ← E1.out]; exact HG9⟩
      case measure => simp [intOf]; omega
    · obtain rfl : k = xs.length := by omega
      rw [HA.out] at HS
      obtain ⟨A', c', rfl, hO⟩ := own_form HS.out.1
      have HO := Lib.hid hO
      clear hO
      go_wp2_with fail
      go_ret
      exact ⟨_, _, rfl, HO.out.less (by omega), bl_trans B.out HS.out.2⟩
end Go.Proofs.Ytnbaemgidfgdaaa
