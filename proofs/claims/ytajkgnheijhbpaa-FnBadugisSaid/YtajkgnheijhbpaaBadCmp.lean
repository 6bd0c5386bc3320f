/-
  The program's comparisons of badugis, the test that cards are apart, a copy of a list, cards sorted by low ranks.
-/
import Derived.Test.YtajkgnheijhbpaaCmpLists
import Derived.Test.YtajkgnheijhbpaaLowSort
import Derived.Test.YtajkgnheijhbpaaRows2
namespace Go.Proofs.Ytajkgnheijhbpaa
open Go.RowKit Go.Sort Go.Lib Go.Shelf
set_option linter.unusedVariables false

/-- How lists of one length compare. -/
def lexC : List Int → List Int → Int
  | a :: us, b :: vs => if a = b then lexC us vs else cmpI a b
  | _, _ => 0
theorem lexC_lt : ∀ (a b : List Int), a.length = b.length → (lexC a b < 0 ↔ lexLt a b = true) ∧ (lexC a b = 0 ↔ a = b)
  | [], [], _ => ⟨by simp [lexC, lexLt], by simp [lexC]⟩
  | a :: us, b :: vs, h => by
    have ih := lexC_lt us vs (by simpa using h)
    unfold lexC lexLt
    by_cases e : a = b
    · subst e
      rw [if_pos rfl, if_pos rfl]
      exact ⟨ih.1, by rw [ih.2]; simp⟩
    · rw [if_neg e, if_neg e, decide_eq_true_eq]
      unfold cmpI
      refine ⟨?_, ?_⟩
      · repeat' split
        all_goals omega
      · constructor
        · intro q; exfalso; revert q
          repeat' split
          all_goals omega
        · intro q; injection q with q _; exact absurd q e
  | [], _ :: _, h => by simp at h
  | _ :: _, [], h => by simp at h
theorem lexC_step (a b : List Int) (k : Nat) (h : k < a.length) (h' : k < b.length) : lexC (a.drop k) (b.drop k) = if nth a k = nth b k then lexC (a.drop (k + 1)) (b.drop (k + 1)) else cmpI (nth a k) (nth b k) := by
  rw [drop_nth a k h, drop_nth b k h']; rfl
set_option maxRecDepth 100000 in
set_option maxHeartbeats 1000000 in
theorem slicesCompare_any (A B : Option Addr) (c d : Nat) (a b : List Int) (w : World) (hr : Rd w A a) (hq : Rd w B b) (hl : a.length = b.length) (hn : a.length ≤ 100) :
    Calls Try.prog 138 #[.slice A a.length c, .slice B b.length d] w (Same (.int .i64 (lexC a b)) w) := by
  have HR := Lib.hid hr
  have HQ := Lib.hid hq
  have HL := Lib.hid hl
  have KC := Lib.hid compare_any
  have hll : (b.length : Int) = (a.length : Int) := by omega
  rw [← hl]
  clear hr hq hl hll
  obtain ⟨r, er⟩ : ∃ r, r = lexC a b := ⟨_, rfl⟩
  have ER : Hid (r = lexC (a.drop 0) (b.drop 0)) := Lib.hid er
  rw [← er]
  clear er
  go_enter Try.func138, Try.ntmps138
  go_wp2_with fail
  go_loop [11] (fun i => ∃ k : Nat, k ≤ a.length ∧ i = .int .i64 k ∧ Hid (r = lexC (a.drop k) (b.drop k))) (fun i => a.length - (intOf i).toNat)
  case atStart => exact ⟨0, by omega, rfl, ER⟩
  case round =>
    obtain ⟨k, hk, rfl, hs⟩ := hrel
    by_cases hlt : k < a.length
    · have hlt' : (k : Int) < a.length := by omega
      have hlb : k < b.length := by have := HL.out; omega
      obtain ⟨b1, o1, rfl, c1⟩ := HR.out.at_ (bl_refl _) k hlt
      obtain ⟨b2, o2, rfl, c2⟩ := HQ.out.at_ (bl_refl _) k hlb
      have HS := Lib.hid (lexC_step a b k hlt hlb)
      by_cases hx : nth a k = nth b k
      · have E2 : Hid (r = lexC (a.drop (k + 1)) (b.drop (k + 1))) := Lib.hid (by rw [hs.out, HS.out, if_pos hx])
        rw [hx] at c1
        generalize nth b k = y at *
        have EC := cmpI_eq y
        clear hx
        go_wp2_with (go_at_call 79; refine (KC.out _ _ _).mono ?_; rintro e w1 ⟨rfl, rfl⟩)
        go_round
        case rel => exact ⟨k + 1, by omega, by go_num, E2⟩
        case measure => simp [intOf]; omega
      · have E2 : Hid (r = cmpI (nth a k) (nth b k)) := Lib.hid (by rw [hs.out, HS.out, if_neg hx])
        have hcn : (cmpI (nth a k) (nth b k) != 0) = true := by
          rw [bne_iff_ne]; unfold cmpI
          repeat' split
          all_goals omega
        generalize nth a k = x at *
        generalize nth b k = y at *
        generalize hq : cmpI x y = q at *
        have EQ := Lib.hid hq
        clear hx hq
        go_wp2_with (go_at_call 79; refine (KC.out _ _ _).mono ?_; rintro e w1 ⟨rfl, rfl⟩; rw [EQ.out])
        go_ret
        exact ⟨ret_int E2.out.symm, rfl⟩
    · obtain rfl : k = a.length := by omega
      have E2 : Hid (r = 0) := Lib.hid (by
        have h2 := HL.out
        rw [hs.out, List.drop_length, h2, List.drop_length]; rfl)
      go_wp2_with fail
      go_ret
      exact ⟨ret_int E2.out.symm, rfl⟩

/-- Falling low ranks are sorted. -/
theorem falls_desc {a : List Int} (h : falls a) : descR (lrs a) = lrs a := by
  refine (descR_of (List.Perm.refl _) ?_).symm
  unfold lrs
  rw [List.pairwise_map]
  exact h
/-- What compareBadugis leaves: a number below 0 if the first one is before. -/
def CmpB (a b : List Int) (w : World) (e : Ending) (w' : World) : Prop := ∃ r : Int, e = .returned (.int .i64 r) ∧ decide (r < 0) = ltB a b ∧ Below w.heap.size w w'
theorem cmpB_mk (a b : List Int) (hl : a.length = b.length) : decide (orI (lexC (lrs a) (lrs b)) (lexC a b) < 0) = ltB a b := by
  have h1 := lexC_lt (lrs a) (lrs b) (by rw [lrs_len, lrs_len, hl])
  have h2 := lexC_lt a b hl
  unfold ltB orI
  by_cases e : lrs a = lrs b
  · rw [if_pos e, if_pos (h1.2.2 e), Bool.eq_iff_iff, decide_eq_true_eq]
    exact h2.1
  · rw [if_neg e, if_neg (fun q => e (h1.2.1 q)), Bool.eq_iff_iff, decide_eq_true_eq]
    exact h1.1
set_option maxRecDepth 100000 in
set_option maxHeartbeats 2000000 in
theorem compareBadugis_any (A B : Option Addr) (c d : Nat) (a b : List Int) (w : World) (hr : Rd w A a) (hq : Rd w B b) (hl : a.length = b.length) (hn : a.length ≤ 100) (hca : ∀ x ∈ a, 0 ≤ x ∧ x < 52) (hcb : ∀ x ∈ b, 0 ≤ x ∧ x < 52) (hfa : falls a) (hfb : falls b) :
    Calls Try.prog 112 #[.slice A a.length c, .slice B b.length d] w (CmpB a b w) := by
  have K1 := Lib.hid (fun (W : World) (hb : Below w.heap.size w W) => lowRanksOf_any A c a W (hr.below hb) hn hca)
  have K2 := Lib.hid (fun (W : World) (hb : Below w.heap.size w W) => lowRanksOf_any B d b W (hq.below hb) (by omega) hcb)
  rw [falls_desc hfa] at K1
  rw [falls_desc hfb] at K2
  have KL : Hid (∀ (A B : Option Addr) (c d : Nat) (W : World), Rd W A (lrs a) → Rd W B (lrs b) → Calls Try.prog 138 #[.slice A (lrs a).length c, .slice B (lrs b).length d] W (Same (.int .i64 (lexC (lrs a) (lrs b))) W)) := Lib.hid (fun A B c d W q1 q2 => slicesCompare_any A B c d _ _ W q1 q2 (by rw [lrs_len, lrs_len, hl]) (by rw [lrs_len]; exact hn))
  have KM : Hid (∀ (W : World), Below w.heap.size w W → Calls Try.prog 138 #[.slice A a.length c, .slice B b.length d] W (Same (.int .i64 (lexC a b)) W)) := Lib.hid (fun W hb => slicesCompare_any A B c d a b W (hr.below hb) (hq.below hb) hl hn)
  have KO := Lib.hid or_any
  have EF := Lib.hid (cmpB_mk a b hl)
  generalize lexC (lrs a) (lrs b) = p at *
  generalize lexC a b = q at *
  generalize lrs a = ra at *
  generalize lrs b = rb at *
  clear hr hq hca hcb hfa hfb hl
  go_enter Try.func112, Try.ntmps112
  go_wp2_with (first
    | (go_at_call 46; ((with_reducible refine (K1.out _ (bl_refl _)).mono ?_); rintro e w1 ⟨rfl, hk1, hb1⟩; have R1 := Lib.hid (row_blk hk1 (Nat.le_refl _)).rd; have X1 := Lib.hid hb1; clear hk1 hb1))
    | (go_at_call 46; ((with_reducible refine (K2.out _ X1.out).mono ?_); rintro e w2 ⟨rfl, hk2, hb2⟩; have R2 := Lib.hid (row_blk hk2 (Nat.le_refl _)).rd; have R12 := Lib.hid (R1.out.below hb2); have X2 := Lib.hid (bl_trans X1.out hb2); clear hk2 hb2))
    | (go_at_call 138; ((with_reducible refine (KL.out _ _ _ _ _ R12.out R2.out).mono ?_); rintro e w3 ⟨rfl, rfl⟩))
    | (go_at_call 138; ((with_reducible refine (KM.out _ X2.out).mono ?_); rintro e w4 ⟨rfl, rfl⟩))
    | (go_at_call 137; refine (KO.out _ _ _ _ (by simp [go_sem]; rfl) (by simp [go_sem]; rfl)).mono ?_; rintro e w5 ⟨rfl, rfl⟩))
  go_ret
  exact ⟨_, rfl, EF.out, bl_alloc X2.out _⟩

/-! Cards are apart. -/
set_option maxRecDepth 100000 in
set_option maxHeartbeats 2000000 in
theorem isBadugi_any (A : Option Addr) (c : Nat) (xs : List Int) (w : World) (hr : Rd w A xs) (hn : xs.length ≤ 100) (hcap : xs.length ≤ c) (hc : ∀ x ∈ xs, 0 ≤ x ∧ x < 52) :
    Calls Try.prog 111 #[.slice A xs.length c] w (Same (.bool (apartB xs)) w) := by
  have HR := Lib.hid hr
  have HC := Lib.hid hc
  clear hr hc
  have HA := Lib.hid (fun h => @apartN_all xs h)
  have HBD := Lib.hid (fun p q h1 h2 h3 => @apart_bad xs p q h1 h2 h3)
  generalize apartB xs = r at *
  have K1 := Lib.hid (fun x h0 h1 W => rank_any x W h0 h1)
  have K2 := Lib.hid (fun x h0 h1 W => suit_any x W h0 h1)
  go_enter Try.func111, Try.ntmps111
  go_wp2_with fail
  go_loop [11] (fun i => ∃ m : Nat, m ≤ xs.length ∧ i = .int .i64 m ∧ Hid (apartN xs m 0)) (fun i => xs.length - (intOf i).toNat)
  case atStart => exact ⟨0, by omega, rfl, Lib.hid (fun p q h1 h2 h3 => by omega)⟩
  case round =>
    obtain ⟨m, hm, rfl, ha⟩ := hrel
    by_cases hlt : m < xs.length
    · have hlt' : (m : Int) < xs.length := by omega
      have hmc : (m : Int) ≤ c := by omega
      obtain ⟨b1, o1, rfl, c1⟩ := HR.out.at_ (bl_refl _) m hlt
      have hst := run_sliceTo b1 o1 xs.length c m (by omega)
      have hx := HC.out _ (nth_mem xs m hlt)
      have HXM : Hid (∃ x, x = nth xs m) := Lib.hid ⟨_, rfl⟩
      obtain ⟨x, ex⟩ := HXM.out
      have EX := Lib.hid ex
      rw [← ex] at c1 hx
      clear ex HXM
      go_wp2_with fail
      go_loop [21] (fun i => ∃ k : Nat, k ≤ m ∧ i = .int .i64 k ∧ Hid (apartN xs m k)) (fun i => m - (intOf i).toNat)
      case atStart => exact ⟨0, by omega, rfl, ha⟩
      case round =>
        obtain ⟨k, hk, rfl, ha2⟩ := hrel
        by_cases hlk : k < m
        · have hlk' : (k : Int) < (m : Int) := by omega
          obtain ⟨b2, o2, e2, c2⟩ := HR.out.at_ (bl_refl _) k (by omega)
          obtain ⟨rfl, rfl⟩ : b1 = b2 ∧ o1 = o2 := by injection e2 with e2; injection e2 with e2 e3; exact ⟨e2, e3⟩
          have hy := HC.out _ (nth_mem xs k (by omega))
          have HST := Lib.hid (fun h => @apartN_step xs m k ha2.out h)
          have HBD2 := Lib.hid (fun h => HBD.out k m hlk hlt h)
          rw [← EX.out] at HST HBD2
          generalize nth xs k = y at *
          have KX1 := Lib.hid (K1.out x hx.1 hx.2)
          have KX2 := Lib.hid (K2.out x hx.1 hx.2)
          have KY1 := Lib.hid (K1.out y hy.1 hy.2)
          have KY2 := Lib.hid (K2.out y hy.1 hy.2)
          unfold apart2 at HST HBD2
          generalize x / 4 = xr at *
          generalize x % 4 = xq at *
          generalize y / 4 = yr at *
          generalize y % 4 = yq at *
          by_cases h1 : xr = yr
          · have E2 : Hid (r = false) := Lib.hid (HBD2.out (fun q => q.1 h1.symm))
            have h1' : (xr == yr) = true := by simpa using h1
            clear h1
            go_wp2_with (first
              | (go_at_call 107; ((with_reducible refine (KX1.out _).mono ?_); rintro e w1 ⟨rfl, rfl⟩))
              | (go_at_call 107; ((with_reducible refine (KY1.out _).mono ?_); rintro e w1 ⟨rfl, rfl⟩))
              | (go_at_call 136; ((with_reducible refine (KX2.out _).mono ?_); rintro e w1 ⟨rfl, rfl⟩))
              | (go_at_call 136; ((with_reducible refine (KY2.out _).mono ?_); rintro e w1 ⟨rfl, rfl⟩)))
            go_ret
            exact ⟨ret_bool E2.out.symm, rfl⟩
          · have h1' : (xr == yr) = false := by simpa using h1
            by_cases h2 : xq = yq
            · have E2 : Hid (r = false) := Lib.hid (HBD2.out (fun q => q.2 h2.symm))
              have h2' : (xq == yq) = true := by simpa using h2
              clear h1 h2
              go_wp2_with (first
                | (go_at_call 107; ((with_reducible refine (KX1.out _).mono ?_); rintro e w1 ⟨rfl, rfl⟩))
                | (go_at_call 107; ((with_reducible refine (KY1.out _).mono ?_); rintro e w1 ⟨rfl, rfl⟩))
                | (go_at_call 136; ((with_reducible refine (KX2.out _).mono ?_); rintro e w1 ⟨rfl, rfl⟩))
                | (go_at_call 136; ((with_reducible refine (KY2.out _).mono ?_); rintro e w1 ⟨rfl, rfl⟩)))
              go_ret
              exact ⟨ret_bool E2.out.symm, rfl⟩
            · have E2 := Lib.hid (HST.out ⟨fun q => h1 q.symm, fun q => h2 q.symm⟩)
              have h2' : (xq == yq) = false := by simpa using h2
              clear h1 h2
              go_wp2_with (first
                | (go_at_call 107; ((with_reducible refine (KX1.out _).mono ?_); rintro e w1 ⟨rfl, rfl⟩))
                | (go_at_call 107; ((with_reducible refine (KY1.out _).mono ?_); rintro e w1 ⟨rfl, rfl⟩))
                | (go_at_call 136; ((with_reducible refine (KX2.out _).mono ?_); rintro e w1 ⟨rfl, rfl⟩))
                | (go_at_call 136; ((with_reducible refine (KY2.out _).mono ?_); rintro e w1 ⟨rfl, rfl⟩)))
              go_round
              case rel => exact ⟨k + 1, by omega, by go_num, E2⟩
              case measure => simp [intOf]; omega
        · obtain rfl : k = m := by omega
          go_wp2_with fail
          go_round
          case rel => exact ⟨k + 1, by omega, by go_num, Lib.hid (apartN_next ha2.out)⟩
          case measure => simp [intOf]; omega
    · obtain rfl : m = xs.length := by omega
      have E2 := Lib.hid (HA.out ha.out)
      go_wp2_with fail
      go_ret
      exact ⟨ret_bool E2.out.symm, rfl⟩
end Go.Proofs.Ytajkgnheijhbpaa
