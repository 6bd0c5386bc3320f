/-
  Put together, what this law needs of: DrawB, Like, Sum, LikeTab.
-/
import Derived.Test.YtnllndcajdofjaaQaDrawBet
import Derived.Test.YtnllndcajdofjaaQaAnySG
import Derived.Test.YtnllndcajdofjaaQaBoolLG
import Derived.Test.YtnllndcajdofjaaQaBetDG
import Derived.BigQuiet
namespace Go.Proofs.Ytnllndcajdofjaa
open Go.RowKit
set_option linter.unusedVariables false

/-- A round that has been drawn. -/
def DrawnB (w : World) (e : Ending) (w' : World) : Prop :=
  ∃ (M : At5) (b : Bt), e = .returned (.agg #[.slice M.a1 b.st.length M.c1, .slice M.a2 b.bt.length M.c2, .slice M.a3 b.pd.length M.c3, .slice M.a4 b.fo.length M.c4, .slice M.a5 b.ac.length M.c5, .int .i64 b.tu, .int .i64 b.un, .int .i64 b.ra, .int .i64 b.li]) ∧ Ln b ∧ Good b ∧ Rd5 w' M b ∧ Below w.heap.size w w'
theorem Ln.sz {b : Bt} (h : Ln b) : Sz b := ⟨by have := h.n6; omega, by have := h.m2; omega, by have := h.m3; omega⟩
set_option maxRecDepth 100000 in
set_option maxHeartbeats 1000000 in
theorem drawChipsIn_any (a : Option Addr) (L c : Nat) (zs : Nat → Int) (w : World) (hL : L ≤ 4096) (hc : CodeIn w a L zs) :
    Calls Try.prog 27 #[.slice a L c] w (DrawnB w) := by
  have iB : (Try.prog.info? 27).map (·.size) = some 9 := by kernel_rfl
  have h1 := codeIn_below hc (bl_alloc (bl_refl w) (.cells ([.slice none 0 0, .slice none 0 0, .slice none 0 0, .slice none 0 0, .slice none 0 0, .int .i64 0, .int .i64 0, .int .i64 0, .int .i64 0] : List Value).toArray 27))
  have KF := Lib.hid (from_any a L c zs _ hL h1)
  have N0 := Lib.hid (blk_new w 27 [.slice none 0 0, .slice none 0 0, .slice none 0 0, .slice none 0 0, .slice none 0 0, .int .i64 0, .int .i64 0, .int .i64 0, .int .i64 0])
  have B0 := Lib.hid (bl_alloc (bl_refl w) (.cells ([.slice none 0 0, .slice none 0 0, .slice none 0 0, .slice none 0 0, .slice none 0 0, .int .i64 0, .int .i64 0, .int .i64 0, .int .i64 0] : List Value).toArray 27))
  have Z0 : Hid (w.heap.size < (w.alloc (.cells ([.slice none 0 0, .slice none 0 0, .slice none 0 0, .slice none 0 0, .slice none 0 0, .int .i64 0, .int .i64 0, .int .i64 0, .int .i64 0] : List Value).toArray 27)).heap.size) := Lib.hid (by rw [World.size_alloc]; omega)
  clear hc h1
  go_enter Try.func27, Try.ntmps27
  go_wp2_with (first
    | (go_at_call 66; refine (KF.out).mono ?_; rintro e w1 ⟨rfl, hs1, hb1⟩; rw [World.size_alloc] at hs1; have KD := Lib.hid (l10Draw_any _ _ _ _ _ _ hs1); have B1 := Lib.hid (bl_trans B0.out hb1); have N1 := Lib.hid (N0.out.below hb1); have Z1 : Hid (w.heap.size < w1.heap.size) := Lib.hid (by have := hb1.size; have := Z0.out; omega); clear hs1 hb1)
    | (go_at_call 65; refine (KD.out).mono ?_; rintro e w2 ⟨M, b, rfl, hl, hg, hr, hs2, hy2⟩; have R2 := Lib.hid hr; have LN := Lib.hid hl; have GD := Lib.hid hg; have B2 := Lib.hid (bl_trans' B1.out (by omega) hy2); have N2 := Lib.hid (blk_only N1.out hy2 (by omega)); clear hr hs2 hy2 hl hg)
    | ((with_reducible refine at_st 27 (.tmp 2) (.tmp 5) rfl ?_); (refine wpList_store_blk 27 9 rfl (.tmp 2) (.tmp 5) rfl iB w.heap.size rfl [.slice M.a1 b.st.length M.c1, .slice M.a2 b.bt.length M.c2, .slice M.a3 b.pd.length M.c3, .slice M.a4 b.fo.length M.c4, .slice M.a5 b.ac.length M.c5, .int .i64 b.tu, .int .i64 b.un, .int .i64 b.ra, .int .i64 b.li] rfl rfl (by simp [Value.oneCell']) _ N2.out rfl ?_); intro w3 k9 g9; have R3 := Lib.hid (R2.out.grownB' g9 Z1.out); have B3 := Lib.hid (below_grown1 B2.out g9 (Nat.le_refl _))))
  obtain ⟨z0, _⟩ := k9.cell 0 _ rfl
  obtain ⟨z1, _⟩ := k9.cell 1 _ rfl
  obtain ⟨z2, _⟩ := k9.cell 2 _ rfl
  obtain ⟨z3, _⟩ := k9.cell 3 _ rfl
  obtain ⟨z4, _⟩ := k9.cell 4 _ rfl
  obtain ⟨z5, _⟩ := k9.cell 5 _ rfl
  obtain ⟨z6, _⟩ := k9.cell 6 _ rfl
  obtain ⟨z7, _⟩ := k9.cell 7 _ rfl
  obtain ⟨z8, _⟩ := k9.cell 8 _ rfl
  exact bodyPost_ret (v := .agg #[.slice M.a1 b.st.length M.c1, .slice M.a2 b.bt.length M.c2, .slice M.a3 b.pd.length M.c3, .slice M.a4 b.fo.length M.c4, .slice M.a5 b.ac.length M.c5, .int .i64 b.tu, .int .i64 b.un, .int .i64 b.ra, .int .i64 b.li]) (by simp [results, Try.results27, go_sem, z0, z1, z2, z3, z4, z5, z6, z7, z8]) rfl ⟨M, b, rfl, LN.out, GD.out, R3.out.rd, B3.out⟩
set_option maxRecDepth 100000 in
set_option maxHeartbeats 1000000 in
theorem drawChoicesIn_any (a : Option Addr) (L c : Nat) (zs : Nat → Int) (w : World) (hL : L ≤ 4096) (hc : CodeIn w a L zs) :
    Calls Try.prog 12 #[.slice a L c] w (DrawnB w) := by
  have iB : (Try.prog.info? 27).map (·.size) = some 9 := by kernel_rfl
  have h1 := codeIn_below hc (bl_alloc (bl_refl w) (.cells ([.slice none 0 0, .slice none 0 0, .slice none 0 0, .slice none 0 0, .slice none 0 0, .int .i64 0, .int .i64 0, .int .i64 0, .int .i64 0] : List Value).toArray 27))
  have KF := Lib.hid (from_any a L c zs _ hL h1)
  have N0 := Lib.hid (blk_new w 27 [.slice none 0 0, .slice none 0 0, .slice none 0 0, .slice none 0 0, .slice none 0 0, .int .i64 0, .int .i64 0, .int .i64 0, .int .i64 0])
  have B0 := Lib.hid (bl_alloc (bl_refl w) (.cells ([.slice none 0 0, .slice none 0 0, .slice none 0 0, .slice none 0 0, .slice none 0 0, .int .i64 0, .int .i64 0, .int .i64 0, .int .i64 0] : List Value).toArray 27))
  have Z0 : Hid (w.heap.size < (w.alloc (.cells ([.slice none 0 0, .slice none 0 0, .slice none 0 0, .slice none 0 0, .slice none 0 0, .int .i64 0, .int .i64 0, .int .i64 0, .int .i64 0] : List Value).toArray 27)).heap.size) := Lib.hid (by rw [World.size_alloc]; omega)
  clear hc h1
  go_enter Try.func12, Try.ntmps12
  go_wp2_with (first
    | (go_at_call 66; refine (KF.out).mono ?_; rintro e w1 ⟨rfl, hs1, hb1⟩; rw [World.size_alloc] at hs1; have KD := Lib.hid (l10Draw_any _ _ _ _ _ _ hs1); have B1 := Lib.hid (bl_trans B0.out hb1); have N1 := Lib.hid (N0.out.below hb1); have Z1 : Hid (w.heap.size < w1.heap.size) := Lib.hid (by have := hb1.size; have := Z0.out; omega); clear hs1 hb1)
    | (go_at_call 65; refine (KD.out).mono ?_; rintro e w2 ⟨M, b, rfl, hl, hg, hr, hs2, hy2⟩; have R2 := Lib.hid hr; have LN := Lib.hid hl; have GD := Lib.hid hg; have B2 := Lib.hid (bl_trans' B1.out (by omega) hy2); have N2 := Lib.hid (blk_only N1.out hy2 (by omega)); clear hr hs2 hy2 hl hg)
    | ((with_reducible refine at_st 27 (.tmp 2) (.tmp 5) rfl ?_); (refine wpList_store_blk 27 9 rfl (.tmp 2) (.tmp 5) rfl iB w.heap.size rfl [.slice M.a1 b.st.length M.c1, .slice M.a2 b.bt.length M.c2, .slice M.a3 b.pd.length M.c3, .slice M.a4 b.fo.length M.c4, .slice M.a5 b.ac.length M.c5, .int .i64 b.tu, .int .i64 b.un, .int .i64 b.ra, .int .i64 b.li] rfl rfl (by simp [Value.oneCell']) _ N2.out rfl ?_); intro w3 k9 g9; have R3 := Lib.hid (R2.out.grownB' g9 Z1.out); have B3 := Lib.hid (below_grown1 B2.out g9 (Nat.le_refl _))))
  obtain ⟨z0, _⟩ := k9.cell 0 _ rfl
  obtain ⟨z1, _⟩ := k9.cell 1 _ rfl
  obtain ⟨z2, _⟩ := k9.cell 2 _ rfl
  obtain ⟨z3, _⟩ := k9.cell 3 _ rfl
  obtain ⟨z4, _⟩ := k9.cell 4 _ rfl
  obtain ⟨z5, _⟩ := k9.cell 5 _ rfl
  obtain ⟨z6, _⟩ := k9.cell 6 _ rfl
  obtain ⟨z7, _⟩ := k9.cell 7 _ rfl
  obtain ⟨z8, _⟩ := k9.cell 8 _ rfl
  exact bodyPost_ret (v := .agg #[.slice M.a1 b.st.length M.c1, .slice M.a2 b.bt.length M.c2, .slice M.a3 b.pd.length M.c3, .slice M.a4 b.fo.length M.c4, .slice M.a5 b.ac.length M.c5, .int .i64 b.tu, .int .i64 b.un, .int .i64 b.ra, .int .i64 b.li]) (by simp [results, Try.results12, go_sem, z0, z1, z2, z3, z4, z5, z6, z7, z8]) rfl ⟨M, b, rfl, LN.out, GD.out, R3.out.rd, B3.out⟩
end Go.Proofs.Ytnllndcajdofjaa

namespace Go.Proofs.Ytnllndcajdofjaa
open Go.RowKit
set_option linter.unusedVariables false

set_option maxRecDepth 100000 in
set_option maxHeartbeats 1000000 in
/-- Two lists that read alike are found alike. -/
theorem likeInts_same (A B : Option Addr) (c d : Nat) (xs : List Int) (w : World) (hr : Rd w A xs) (hq : Rd w B xs) (hn : xs.length ≤ 4000000) :
    Calls Try.prog 32 #[.slice A xs.length c, .slice B xs.length d] w (Fresh (.bool true) w) := by
  have HR := Lib.hid hr
  have HQ := Lib.hid hq
  clear hr hq
  obtain ⟨w0, rfl⟩ : ∃ w0 : World, w0 = w := ⟨w, rfl⟩
  go_enter Try.func32, Try.ntmps32
  go_wp2_with fail
  go_loopw [5] (fun i wr => ∃ k : Nat, k ≤ xs.length ∧ i = .int .i64 k ∧ Hid (Below w0.heap.size w0 wr)) (fun i _ => xs.length - (intOf i).toNat)
  case atStart => exact ⟨0, Nat.zero_le _, rfl, Lib.hid (bl_refl _)⟩
  case round =>
    obtain ⟨k, hk, rfl, hs⟩ := hrel
    by_cases hlt : k < xs.length
    · obtain ⟨b, off, rfl, hc⟩ := HR.out.at_ hs.out k hlt
      obtain ⟨b', off', rfl, hc'⟩ := HQ.out.at_ hs.out k hlt
      have hlt' : (k : Int) < xs.length := by omega
      go_wp2_with fail
      go_quiet (fail)
      go_wp2_with fail
      go_roundw
      case rel => exact ⟨k + 1, by omega, by go_num, Lib.hid (bl_drewN hs.out _)⟩
      case measure => simp [intOf]; omega
    · obtain rfl : k = xs.length := by omega
      go_wp2_with fail
      go_ret
      exact ⟨rfl, hs.out⟩

end Go.Proofs.Ytnllndcajdofjaa

namespace Go.Proofs.Ytnllndcajdofjaa
open Go.RowKit
set_option linter.unusedVariables false

/-- The sum of the first k numbers. -/
def sumI (xs : List Int) : Nat → Int
  | 0 => 0
  | k + 1 => sumI xs k + nth xs k
theorem sumI_bd (xs : List Int) (h : ∀ i, i < xs.length → 0 ≤ nth xs i ∧ nth xs i ≤ 4000000) : ∀ k, k ≤ xs.length → 0 ≤ sumI xs k ∧ sumI xs k ≤ k * 4000000
  | 0, _ => ⟨Int.le_refl _, by simp [sumI]⟩
  | k + 1, hk => by
    have ih := sumI_bd xs h k (by omega)
    have hb := h k (by omega)
    unfold sumI
    omega
set_option maxRecDepth 100000 in
set_option maxHeartbeats 1000000 in
theorem sum_any (A : Option Addr) (c : Nat) (xs : List Int) (w : World) (hr : Rd w A xs) (hn : xs.length ≤ 4000000) (hb : ∀ i, i < xs.length → 0 ≤ nth xs i ∧ nth xs i ≤ 4000000) :
    Calls Try.prog 33 #[.slice A xs.length c] w (Same (.int .i64 (sumI xs xs.length)) w) := by
  have HR := Lib.hid hr
  have HB := Lib.hid (sumI_bd xs hb)
  have HE := Lib.hid hb
  clear hr hb
  go_enter Try.func33, Try.ntmps33
  go_wp2_with fail
  go_loop [3, 4] (fun s i => ∃ k : Nat, k ≤ xs.length ∧ i = .int .i64 k ∧ s = .int .i64 (sumI xs k)) (fun _ i => xs.length - (intOf i).toNat)
  case atStart => exact ⟨0, Nat.zero_le _, rfl, rfl⟩
  case round =>
    obtain ⟨k, hk, rfl, rfl⟩ := hrel
    by_cases hlt : k < xs.length
    · obtain ⟨b, off, rfl, hc⟩ := HR.out.at_ (bl_refl _) k hlt
      have hlt' : (k : Int) < xs.length := by omega
      have h1 := HB.out k hk
      have h2 := HE.out k hlt
      have HS : Hid (sumI xs (k + 1) = sumI xs k + nth xs k) := Lib.hid rfl
      obtain ⟨q, eq⟩ : ∃ q, q = sumI xs k := ⟨_, rfl⟩
      rw [← eq] at h1 HS ⊢
      clear eq
      go_wp2_with fail
      go_round
      case rel => exact ⟨k + 1, by omega, by go_num, by rw [HS.out]⟩
      case measure => simp [intOf]; omega
    · obtain rfl : k = xs.length := by omega
      go_wp2_with fail
      go_ret
      exact ⟨rfl, rfl⟩

end Go.Proofs.Ytnllndcajdofjaa

namespace Go.Proofs.Ytnllndcajdofjaa
open Go.RowKit
set_option linter.unusedVariables false

theorem sumI_T (xs : List Int) : ∀ k, sumI xs k = sumT xs k
  | 0 => rfl
  | k + 1 => by show sumI xs k + nth xs k = sumT xs k + nth xs k; rw [sumI_T xs k]
end Go.Proofs.Ytnllndcajdofjaa
