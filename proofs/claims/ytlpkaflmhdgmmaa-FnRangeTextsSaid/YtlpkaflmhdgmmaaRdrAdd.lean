/-
  The reader of range texts: the classes of a part are marked.
-/
import Derived.Test.YtlpkaflmhdgmmaaRdrGroup
namespace Go.Proofs.Ytlpkaflmhdgmmaa
open Go.RowKit
set_option linter.unusedVariables false

/-- A set of classes with some more. -/
def orP (p : Int → Bool) (xs : List Int) : Int → Bool := fun c => p c || hasB xs c
theorem orP_nil (p : Int → Bool) : orP p [] = p := by funext c; unfold orP hasB; simp
theorem orP_app (p : Int → Bool) (xs ys : List Int) : orP (orP p xs) ys = orP p (xs ++ ys) := by
  funext c
  unfold orP hasB
  simp [Bool.or_assoc]
theorem orP_put (p : Int → Bool) (xs : List Int) (x : Int) : putP (orP p xs) x true = orP p (xs ++ [x]) := by
  funext c
  unfold putP orP hasB
  by_cases e : c = x
  · simp [e]
  · rw [if_neg e]; simp [e]
theorem orP_congr (p : Int → Bool) {xs ys : List Int} (h : ∀ c, c ∈ xs ↔ c ∈ ys) : orP p xs = orP p ys := by
  funext c
  unfold orP
  have : hasB xs c = hasB ys c := by
    rw [Bool.eq_iff_iff]; unfold hasB; simp [h c]
  rw [this]
theorem orP_none (xs : List Int) : orP (fun _ => false) xs = hasB xs := by funext c; unfold orP; simp
theorem row_step {G : Grp} {m : Int} (h : OkP (G, m)) (p : Int → Bool) (n : Nat) (hn : G.2.1 + n ≤ m) :
    orP (orP p (rowN G n)) (clsP (withG G (G.2.1 + n)).1 (withG G (G.2.1 + n)).2.1 (withG G (G.2.1 + n)).2.2) = orP p (rowN G (n + 1)) := by
  rw [rowN_succ, ← orP_app]
  exact orP_congr _ (fun c => clsP_mem (with_ok h _ (by dsimp only; omega) hn) c)
/-- What the loop over the classes keeps. -/
def AddSt (w3 : World) (g : Nat) (l : List UInt8) (q : Int → Bool) (xs : List Int) (k : Nat) (wr : World) : Prop := Rdr wr g l (orP q (xs.take k)) ∧ w3.grownBy wr (some g)
set_option maxRecDepth 100000 in
set_option maxHeartbeats 4000000 in
theorem add_any (g : Nat) (l : List UInt8) (p : Int → Bool) (w : World) (h : Rdr w g l p) (G : Grp) (m : Int) (ho : OkP (G, m)) :
    Calls Try.prog 58 #[.pointer (some ⟨g, 0, none⟩), gV G.1 G.2.1 (kdT G.2.2), .int .i64 m] w (RdrTo g l (orP p (rowG (G, m))) (.tuple #[]) w) := by
  have HO := Lib.hid ho
  have hgl := Lib.hid h.lt
  obtain ⟨⟨b1, b2, b3, b4, b5⟩, b6, b7, b8⟩ := ho
  dsimp only at b1 b2 b3 b6 b7 b8
  have HK := Lib.hid b5
  have HN : Hid (rowG (G, m) = rowN G (m + 1 - G.2.1).toNat) := Lib.hid rfl
  have HS := Lib.hid (fun n hn => @row_step G m HO.out p n hn)
  have HC := Lib.hid (fun (n : Nat) (hn : G.2.1 + n ≤ m) => clsG_in (with_ok HO.out (G.2.1 + n) (by dsimp only; omega) hn))
  have HM := Lib.hid (fun (n : Nat) (hn : G.2.1 + n ≤ m) => clsP_mem (with_ok HO.out (G.2.1 + n) (by dsimp only; omega) hn))
  have HW := Lib.hid (fun (n : Nat) (hn : G.2.1 + n ≤ m) => with_ok HO.out (G.2.1 + n) (by dsimp only; omega) hn)
  obtain ⟨a, b, kd⟩ := G
  dsimp only at b1 b2 b3 b6 b7 b8 HK HN HS HC HM HW ⊢
  obtain ⟨R, eR⟩ : ∃ R : Nat → List Int, R = rowN (a, b, kd) := ⟨_, rfl⟩
  rw [← eR] at HN HS
  have KW := Lib.hid (fun c W => withG_any a b (kdT kd) c W)
  obtain ⟨t, et⟩ : ∃ t, t = kdT kd := ⟨_, rfl⟩
  have HT := Lib.hid et
  rw [← et] at KW ⊢
  have HB : Hid (GrpB (w.alloc (.cells #[.int .i64 a, .int .i64 b, strV t] 85)) w.heap.size a b t) := Lib.hid (blk_new w 85 [.int .i64 a, .int .i64 b, strV t])
  have HR : Hid (Rdr (w.alloc (.cells #[.int .i64 a, .int .i64 b, strV t] 85)) g l (orP p (R 0)) ∧ w.grownBy (w.alloc (.cells #[.int .i64 a, .int .i64 b, strV t] 85)) (some g)) := Lib.hid (by
    refine ⟨?_, gr_alloc (gr_refl _ _) _⟩
    rw [eR, rowN_zero, orP_nil]
    exact h.below (bl_alloc (bl_refl w) _))
  clear h eR et b4 b5 b8
  go_enter Try.func58, Try.ntmps58
  go_wp2_with fail
  go_loopw [6] (fun i wr => ∃ k : Nat, b + k ≤ m + 1 ∧ i = .int .i64 (b + k) ∧ Hid (Rdr wr g l (orP p (R k)) ∧ w.grownBy wr (some g)) ∧ Hid (GrpB wr w.heap.size a b t)) (fun i _ => (13 - intOf i).toNat)
  case atStart => exact ⟨0, by omega, by go_num, HR, HB⟩
  case round =>
    obtain ⟨k, hk, rfl, hs, hg⟩ := hrel
    obtain ⟨⟨c0, c1, c2⟩, f0, f1, f2⟩ := hg.out.c
    by_cases hlt : b + k ≤ m
    · have KC : Hid (∀ W, Calls Try.prog 69 #[gV (wthI a b (b + k)) (b + k) t] W (ClsTo (wthI a b (b + k)) (b + k) kd W)) := Lib.hid (fun W => by
        have hw := HW.out k hlt
        rw [HT.out]
        exact classesG_any _ _ kd W hw.2.2.2.2 (Int.le_trans hw.1 hw.2.1) hw.2.2.1 hw.1 (Int.le_trans hw.2.1 hw.2.2.1))
      have HX : Hid (∀ x, x ∈ clsP (wthI a b (b + k)) (b + k) kd → 0 ≤ x ∧ x < 169) := Lib.hid (fun x hx => HC.out k hlt x ((HM.out k hlt x).1 hx))
      have HS1 : Hid (orP (orP p (R k)) (clsP (wthI a b (b + k)) (b + k) kd) = orP p (R (k + 1))) := Lib.hid (HS.out k hlt)
      have hln := clsP_len (wthI a b (b + k)) (b + k) kd
      unfold ClsTo at KC
      generalize clsP (wthI a b (b + k)) (b + k) kd = xs at *
      have HW0 := Lib.hid (fun W => KW.out (b + k) W)
      generalize wthI a b (b + k) = a2 at *
      obtain ⟨q, eq⟩ : ∃ q, q = orP p (R k) := ⟨_, rfl⟩
      rw [← eq] at hs HS1
      clear eq
      go_wp2_with (first
        | (go_at_call 60; ((with_reducible refine (HW0.out _).mono ?_); rintro e w1 ⟨rfl, hb1⟩; have B1 := Lib.hid hb1; clear hb1))
        | (go_at_call 69; ((with_reducible refine (KC.out _).mono ?_); rintro e w2 ⟨n, cc, rfl, hn, hrd, hb2⟩; have B2 := Lib.hid hb2; have RD := Lib.hid hrd; have HNN : Hid (wr.heap.size ≤ n) := Lib.hid (Nat.le_trans B1.out.size hn); clear hb2 hrd hn)))
      have HA : Hid (AddSt w2 g l q xs 0 w2) := Lib.hid ⟨by rw [List.take_zero, orP_nil]; exact (hs.out.1.below B1.out).below B2.out, gr_refl _ _⟩
      clear c0 c1 c2 f0 f1 f2
      go_loopw [21] (fun j w' => ∃ i : Nat, i ≤ xs.length ∧ j = .int .i64 i ∧ Hid (AddSt w2 g l q xs i w')) (fun j _ => xs.length - (intOf j).toNat)
      case atStart => exact ⟨0, Nat.zero_le _, rfl, HA⟩
      case round =>
        obtain ⟨i, hi, rfl, ha⟩ := hrel
        by_cases hil : i < xs.length
        · have hil' : (i : Int) < xs.length := by omega
          have hne : n ≠ g := by have := HNN.out; have := hs.out.1.lt; omega
          obtain ⟨bb, off, eA, hcell⟩ := (RD.out.grown ha.out.2 (fun a' e => by injection e with e; subst e; exact ne_some (fun q => hne q.symm))) (by omega)
          injection eA with eA
          injection eA with e1 e2
          subst e1 e2
          have hc := hcell i hil
          rw [Nat.zero_add] at hc
          have hx := HX.out _ (nth_mem xs i hil)
          have HT2 := Lib.hid (take_nth xs i hil)
          obtain ⟨x, ex⟩ : ∃ x : Nat, (x : Int) = nth xs i := ⟨(nth xs i).toNat, by omega⟩
          rw [← ex] at hc hx HT2
          have hx169 : x < 169 := by omega
          obtain ⟨d1, d2⟩ := ha.out.1.at_ x hx169
          have HNX : Hid (AddSt w2 g l q xs (i + 1) (wr.setCell ⟨g, 1 + x, none⟩ (.bool true))) := Lib.hid (by
            obtain ⟨m1, m2⟩ := ha.out.1.mark x hx169
            refine ⟨?_, ha.out.2.trans m2⟩
            rw [HT2.out, ← orP_put]
            exact m1)
          clear ex hx hcell hne
          go_wp2_with fail
          go_roundw
          case rel => exact ⟨i + 1, by omega, by go_num, HNX⟩
          case measure => simp [intOf]; omega
        · obtain rfl : i = xs.length := by omega
          go_wp2_with fail
          go_roundw
          case rel =>
            refine ⟨k + 1, by omega, by go_num, Lib.hid ⟨?_, ?_⟩, Lib.hid ?_⟩
            · have := ha.out.1
              rw [List.take_of_length_le (Nat.le_refl _), HS1.out] at this
              exact this
            · exact (gr_below (gr_below hs.out.2 B1.out) B2.out).trans ha.out.2
            · exact ((hg.out.below B1.out).below B2.out).grown ha.out.2 (ne_some (by have := hgl.out; omega))
          case measure => simp [intOf]; omega
    · have hkm : k = (m + 1 - b).toNat := by omega
      have HKM := Lib.hid hkm
      clear hkm
      go_wp2_with fail
      go_end0
      exact ⟨rfl, by rw [HN.out, ← HKM.out]; exact hs.out.1, hs.out.2⟩
end Go.Proofs.Ytlpkaflmhdgmmaa
