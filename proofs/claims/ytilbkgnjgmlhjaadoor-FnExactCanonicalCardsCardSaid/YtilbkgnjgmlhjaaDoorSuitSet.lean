/-
  The program's cardFor, setFor: what a card becomes, what a set becomes.
-/
import Derived.Test.YtilbkgnjgmlhjaaDoorSuitList
import Derived.Test.YtilbkgnjgmlhjaaDoorBase
import Derived.Test.YtilbkgnjgmlhjaaDoorOtherImpl
namespace Go.Proofs.YtilbkgnjgmlhjaaDoor
open Go.RowKit
set_option linter.unusedVariables false

theorem isX_four {e : List Int} (h : IsX e) : ∃ a b c d, e = [a, b, c, d] ∧ 0 ≤ a ∧ a < 4 ∧ 0 ≤ b ∧ b < 4 ∧ 0 ≤ c ∧ c < 4 ∧ 0 ≤ d ∧ d < 4 := by
  obtain ⟨h1, h2, _⟩ := h
  match e, h1 with
  | [a, b, c, d], _ =>
    have h0 := h2 0 (by omega)
    have h1 := h2 1 (by omega)
    have h3 := h2 2 (by omega)
    have h4 := h2 3 (by omega)
    simp at h0 h1 h3 h4
    exact ⟨a, b, c, d, rfl, h0.1, h0.2, h1.1, h1.2, h3.1, h3.2, h4.1, h4.2⟩
set_option maxRecDepth 100000 in
set_option maxHeartbeats 1000000 in
theorem cardFor_four (a b c d x : Int) (w : World) (ha : 0 ≤ a) (ha' : a < 4) (hb : 0 ≤ b) (hb' : b < 4) (hc : 0 ≤ c) (hc' : c < 4) (hd : 0 ≤ d) (hd' : d < 4) (hx : 0 ≤ x) (hx' : x < 52) :
    Calls Tryd.prog 105 #[.agg #[.int .i64 a, .int .i64 b, .int .i64 c, .int .i64 d], .int .i64 x] w (Fresh (.int .i64 (imgC [a, b, c, d] x)) w) := by
  have KR := Lib.hid (fun W => rank_any x W hx hx')
  have KS := Lib.hid (fun W => suit_any x W hx hx')
  have hr : 0 ≤ x / 4 ∧ x / 4 ≤ 12 := by omega
  have HE : Hid (imgC [a, b, c, d] x = 4 * (x / 4) + [a, b, c, d].getD (x % 4).toNat 0) := Lib.hid rfl
  generalize imgC [a, b, c, d] x = v at *
  have hs : x % 4 = 0 ∨ x % 4 = 1 ∨ x % 4 = 2 ∨ x % 4 = 3 := by omega
  generalize x % 4 = s at *
  generalize x / 4 = r at *
  clear hx hx'
  rcases hs with rfl | rfl | rfl | rfl
  all_goals
    go_enter Tryd.func105, Tryd.ntmps105
    go_wp2_with (first
      | (go_at_call 82; refine (KR.out _).mono ?_; rintro e w1 ⟨rfl, rfl⟩)
      | (go_at_call 84; refine (KS.out _).mono ?_; rintro e w1 ⟨rfl, rfl⟩))
    go_ret
    refine ⟨ret_int ?_, bl_alloc (bl_refl _) _⟩
    rw [HE.out]
    first | (simp; omega) | omega
theorem img_take (e xs : List Int) (k : Nat) (hk : k < xs.length) : img e (xs.take (k + 1)) = img e (xs.take k) ++ [imgC e (nth xs k)] := by
  unfold img; rw [take_nth xs k hk, List.map_append]; rfl
theorem mask_or {e xs : List Int} {k : Nat} (he : IsX e) (h : cardsB xs = true) (hk : k < xs.length) : bits .or .u64 (maskOf (img e (xs.take k)) : Nat) (bitOf (imgC e (nth xs k)) : Nat) = ((maskOf (img e (xs.take (k + 1))) : Nat) : Int) := by
  have h1 := mask_lt _ (img_cards he (cards_take xs k h))
  have hx := ((cards_iff xs).1 h).1 _ (nth_mem xs k hk)
  have hi := img_bd he hx.1 hx.2
  have h2 := bitOf_lt _ hi.1 hi.2.1
  rw [u64_or _ _ (by omega) (by omega), img_take e xs k hk, mask_snoc]; rfl
set_option maxRecDepth 100000 in
set_option maxHeartbeats 2000000 in
theorem setFor_any (e : List Int) (m : Nat) (B : Nat) (wt w : World) (he : IsX e) (hm : m < 2 ^ 52) (hcs : cardsB (bitsI m) = true) (ht : Hid (Tz B wt)) (hB : Hid (Below B wt w)) (hBw : Hid (B ≤ w.heap.size)) :
    Calls Tryd.prog 74 #[.agg (ints e).toArray, .int .u64 m] w (Fresh (.int .u64 (maskOf (img e (bitsI m)) : Nat)) w) := by
  obtain ⟨a, b, c, d, rfl, h1, h2, h3, h4, h5, h6, h7, h8⟩ := isX_four he
  have KL := Lib.hid (list_any m B wt (w.alloc (.cells #[.int .i64 a, .int .i64 b, .int .i64 c, .int .i64 d] 100)) (by omega) ht (Lib.hid (hB.out.trans ((bl_alloc (bl_refl w) _).mono hBw.out))) (Lib.hid (by have := hBw.out; simp; omega)))
  have HLE := bitsI_len m
  have HOR := Lib.hid (fun k hk => @mask_or [a, b, c, d] (bitsI m) k he hcs hk)
  have HBD : Hid (∀ x ∈ bitsI m, 0 ≤ x ∧ x < 52) := Lib.hid ((cards_iff _).1 hcs).1
  have HIM : Hid (∀ x, 0 ≤ x → x < 52 → 0 ≤ imgC [a, b, c, d] x ∧ imgC [a, b, c, d] x < 52) := Lib.hid (fun x x0 x1 => by have := img_bd he x0 x1; exact ⟨this.1, this.2.1⟩)
  have HM0 : Hid (maskOf (img [a, b, c, d] ((bitsI m).take 0)) = 0) := Lib.hid rfl
  have KF := Lib.hid (fun (x : Int) (W : World) (x0 : 0 ≤ x) (x1 : x < 52) => cardFor_four a b c d x W h1 h2 h3 h4 h5 h6 h7 h8 x0 x1)
  have KA := Lib.hid (fun (x : Int) (W : World) (x0 : 0 ≤ x) (x1 : x < 52) => asSet_any x W x0 x1)
  clear h1 h2 h3 h4 h5 h6 h7 h8 he hcs hm
  generalize bitsI m = xs at *
  simp only [ints, List.map_cons, List.map_nil]
  obtain ⟨w0, rfl⟩ : ∃ w0 : World, w0 = w := ⟨w, rfl⟩
  go_enter Tryd.func74, Tryd.ntmps74
  go_wp2_with (go_at_call 75; refine (KL.out).mono ?_; rintro e w1 ⟨A, cc, rfl, ho, hb⟩)
  have HR := Lib.hid ho.rd
  have HB1 : Hid (Below w0.heap.size w0 w1) := Lib.hid (bl_trans (bl_alloc (bl_refl w0) _) hb)
  have HC : Hid (∀ W, Below w1.heap.size w1 W → W.cell? ⟨w0.heap.size, 0, none⟩ = some (.int .i64 a) ∧ W.cell? ⟨w0.heap.size, 1, none⟩ = some (.int .i64 b) ∧ W.cell? ⟨w0.heap.size, 2, none⟩ = some (.int .i64 c) ∧ W.cell? ⟨w0.heap.size, 3, none⟩ = some (.int .i64 d)) := Lib.hid (fun W hW => by
    have hz : w0.heap.size < (w0.alloc (.cells #[.int .i64 a, .int .i64 b, .int .i64 c, .int .i64 d] 100)).heap.size := by simp
    have hbb := bl_trans hb hW
    refine ⟨((bcell hbb).1 _ 0 hz).trans ?_, ((bcell hbb).1 _ 1 hz).trans ?_, ((bcell hbb).1 _ 2 hz).trans ?_, ((bcell hbb).1 _ 3 hz).trans ?_⟩ <;> simp [go_sem])
  clear ho hb
  go_loopw [5, 11] (fun s i wr => ∃ k : Nat, k ≤ xs.length ∧ i = .int .i64 k ∧ s = .int .u64 (maskOf (img [a, b, c, d] (xs.take k)) : Nat) ∧ Hid (Below w1.heap.size w1 wr)) (fun _ i _ => xs.length - (intOf i).toNat)
  case atStart => exact ⟨0, Nat.zero_le _, rfl, by rw [HM0.out]; rfl, Lib.hid (bl_refl _)⟩
  case round =>
    obtain ⟨k, hk, rfl, rfl, hb⟩ := hrel
    by_cases hlt : k < xs.length
    · have hlt' : (k : Int) < xs.length := by omega
      obtain ⟨bb, oo, rfl, hcx⟩ := HR.out.at_ hb.out k hlt
      have hx := HBD.out _ (nth_mem xs k hlt)
      have hi := HIM.out _ hx.1 hx.2
      have EO := HOR.out k hlt
      have K1 := Lib.hid (fun W => KF.out _ W hx.1 hx.2)
      have K2 := Lib.hid (fun W => KA.out _ W hi.1 hi.2)
      obtain ⟨d0, d1, d2, d3⟩ := HC.out wr hb.out
      generalize imgC [a, b, c, d] (nth xs k) = y at *
      generalize nth xs k = x at *
      generalize maskOf (img [a, b, c, d] (xs.take k)) = m1 at *
      obtain ⟨m2, em2⟩ : ∃ m2, m2 = maskOf (img [a, b, c, d] (xs.take (k + 1))) := ⟨_, rfl⟩
      rw [← em2] at EO
      have EM2 := Lib.hid em2
      clear em2
      generalize bitOf y = bt at *
      go_wp2_with (first
        | (go_at_call 105; refine (K1.out _).mono ?_; rintro e w2 ⟨rfl, hb2⟩)
        | (go_at_call 89; refine (K2.out _).mono ?_; rintro e w3 ⟨rfl, rfl⟩))
      go_roundw
      case rel => exact ⟨k + 1, by omega, by go_num, by rw [EM2.out], Lib.hid (bl_trans hb.out hb2)⟩
      case measure => simp [intOf]; omega
    · obtain rfl : k = xs.length := by omega
      have HT : Hid (xs.take xs.length = xs) := Lib.hid (take_len xs)
      rw [HT.out]
      go_wp2_with fail
      go_ret
      exact ⟨rfl, bl_trans HB1.out hb.out⟩
end Go.Proofs.YtilbkgnjgmlhjaaDoor
