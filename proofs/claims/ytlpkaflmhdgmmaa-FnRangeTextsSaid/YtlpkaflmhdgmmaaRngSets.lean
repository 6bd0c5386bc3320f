/-
  JoinRanges, CommonRange, OtherRange: the program's and the model's.
-/
import Derived.Test.YtlpkaflmhdgmmaaRngIs
import Derived.Test.YtlpkaflmhdgmmaaClsSetFns
import Derived.Test.YtlpkaflmhdgmmaaGlue
import Derived.StillTailTactics
namespace Go.Proofs.Ytlpkaflmhdgmmaa
open Go.RowKit
set_option linter.unusedVariables false

theorem newLC_nil {w w' : World} {c : Int} (hb : Below w.heap.size w w') : NewLC [] c w (.returned (.tuple #[.slice none 0 0, .int .i64 c])) w' := ⟨none, 0, rfl, Own.nil _ _, hb⟩
theorem zero_set (w : World) : (w.alloc (.cells (List.replicate 169 (Value.bool false)).toArray 50)).heap[w.heap.size]? = some (.cells (List.replicate 169 (Value.bool false)).toArray 50 (0, 0)) := heap_alloc_new w _
theorem zero_two {w w3 : World} {z : Array Value} (hg : ((w.alloc (.cells z 50)).alloc (.cells z 50)).grownBy w3 (some w.heap.size)) : w3.heap[w.heap.size + 1]? = some (.cells z 50 (0, 0)) := by
  have h := heap_alloc_new (w.alloc (.cells z 50)) (.cells z 50)
  rw [World.size_alloc] at h
  exact (hg.block _ (by simp) (by intro e; injection e; omega)).trans h
/-- What the loop keeps: both sets, and what is taken of the first n classes. -/
def TkSt (w : World) (g8 g9 g10 : Nat) (pa pb q : Int → Bool) (n : Nat) (wr : World) : Prop :=
  Blk wr g8 50 (setL pa) ∧ Blk wr g9 50 (setL pb) ∧ Blk wr g10 50 (setL (uptoP q n)) ∧ Below w.heap.size w wr
theorem tk_start {w w2 w3 w4 : World} {z : Array Value} {pa pb q : Int → Bool} {va vb : List Value} (hz : z = (List.replicate 169 (Value.bool false)).toArray) (hb2 : Below w.heap.size w w2) (ha : va = setL pa) (hb : vb = setL pb)
    (h3 : Blk w3 w2.heap.size 50 va) (hg3 : ((w2.alloc (.cells z 50)).alloc (.cells z 50)).grownBy w3 (some w2.heap.size)) (h4 : Blk w4 (w2.heap.size + 1) 50 vb) (hg4 : w3.grownBy w4 (some (w2.heap.size + 1))) :
    TkSt w w2.heap.size (w2.heap.size + 1) w4.heap.size pa pb q 0 (w4.alloc (.cells z 50)) ∧ w2.heap.size + 1 < w4.heap.size := by
  subst hz ha hb
  have b2 := bl_alloc (bl_alloc hb2 (.cells (List.replicate 169 (Value.bool false)).toArray 50)) (.cells (List.replicate 169 (Value.bool false)).toArray 50)
  have b3 := bl_blk b2 hg3 hb2.size
  have b4 := bl_blk b3 hg4 (by have := hb2.size; omega)
  refine ⟨⟨(h3.grown hg4 (by intro e; injection e; omega)).below (bl_alloc (bl_refl _) _), h4.below (bl_alloc (bl_refl _) _), ?_, bl_alloc b4 _⟩, h4.lt⟩
  rw [uptoP_zero, setL_none]
  exact blk_new w4 50 (List.replicate 169 (Value.bool false))
theorem tk_cell {w wr : World} {g8 g9 g10 n : Nat} {pa pb q : Int → Bool} (h : TkSt w g8 g9 g10 pa pb q n wr) (hn : n < 169) :
    wr.cell? ⟨g8, n, none⟩ = some (.bool (pa (n : Int))) ∧ wr.cell? ⟨g9, n, none⟩ = some (.bool (pb (n : Int))) ∧ wr.cell? ⟨g10, n, none⟩ = some (.bool false) ∧ wr.frozen? ⟨g10, n, none⟩ = false := by
  have h3 := h.2.2.1.cell n _ (setL_get _ n hn)
  rw [uptoP_at] at h3
  exact ⟨(h.1.cell n _ (setL_get _ n hn)).1, (h.2.1.cell n _ (setL_get _ n hn)).1, h3.1, h3.2⟩
theorem tk_step {w wr : World} {g8 g9 g10 n : Nat} {pa pb q : Int → Bool} (h : TkSt w g8 g9 g10 pa pb q n wr) (hn : n < 169) (h8 : g8 ≠ g10) (h9 : g9 ≠ g10) (hl : w.heap.size ≤ g10) :
    TkSt w g8 g9 g10 pa pb q (n + 1) (wr.setCell ⟨g10, n, none⟩ (.bool (q (n : Int)))) := by
  obtain ⟨h1, h2⟩ := blk_set h.2.2.1 n (.bool (q (n : Int)))
  rw [setL_set _ n _ hn, uptoP_put] at h1
  exact ⟨h.1.grown h2 (fun e => h8 (Option.some.inj e)), h.2.1.grown h2 (fun e => h9 (Option.some.inj e)), h1, h.2.2.2.setCell hl _⟩
theorem tk_drew {w wr : World} {g8 g9 g10 n : Nat} {pa pb q : Int → Bool} (h : TkSt w g8 g9 g10 pa pb q n wr) : TkSt w g8 g9 g10 pa pb q n wr.drew := ⟨h.1, h.2.1, h.2.2.1, bl_drew h.2.2.2⟩

/-- What OtherRange answers. -/
def othRR (xs : List Int) : List Int := twoR xs [] (fun a b => !a)
theorem othRR_len (xs : List Int) : (othRR xs).length ≤ 4000000 := two_len xs [] _
/-! The model's. -/
set_option maxRecDepth 100000 in
set_option maxHeartbeats 1000000 in
theorem l08Range_any (A : Option Addr) (c : Nat) (xs : List Int) (w : World) (hr : Rd w A xs) (hn : xs.length ≤ 4000000) :
    Calls Try.prog 32 #[.slice A xs.length c] w (NewL (clsIn (hasB xs)) w) := by
  obtain ⟨i0, hi, hz0, hz1, hz2⟩ := info_parts infoInt
  have HR := Lib.hid hr
  clear hr
  obtain ⟨w0, rfl⟩ : ∃ w0 : World, w0 = w := ⟨w, rfl⟩
  go_enter Try.func32, Try.ntmps32
  go_wp2_with fail
  go_loopw [3, 4] (fun v i wr => ∃ k : Nat, k ≤ 169 ∧ i = .int .i64 k ∧ Hid (Grow w0 (clsInN k (hasB xs)) v wr)) (fun _ i _ => 169 - (intOf i).toNat)
  case atStart => exact ⟨0, Nat.zero_le _, rfl, Lib.hid (grow_start w0)⟩
  case round =>
    obtain ⟨k, hk, rfl, HS⟩ := hrel
    by_cases hlt : k < 169
    · have hlt' : (k : Int) < 169 := by omega
      have KH := Lib.hid (fun (W : World) (hb : Below w0.heap.size w0 W) => has_any A c xs (k : Int) W (HR.out.below hb) hn)
      have hl := clsInN_len k (hasB xs)
      rcases hb : hasB xs (k : Int) with _ | _
      · have HO := Lib.hid (clsInN_no k (hasB xs) hb)
        rw [hb] at KH
        clear hb
        go_wp2_with (go_at_call 53; refine (KH.out _ HS.out.2).mono ?_; rintro e w1 ⟨rfl, rfl⟩)
        go_roundw
        case rel => exact ⟨k + 1, by omega, by go_num, by rw [HO.out]; exact HS⟩
        case measure => simp [intOf]; omega
      · have HO := Lib.hid (clsInN_yes k (hasB xs) hb)
        rw [hb] at KH
        clear hb
        go_wp2_with (first
          | (go_at_call 53; refine (KH.out _ HS.out.2).mono ?_; rintro e w1 ⟨rfl, rfl⟩)
          | (at_builtin; refine wpList_append_own _ rfl _ _ 24 rfl w0.heap.size 2 i0 (.int .i64 0) 1 8 Try.underlying24 hi hz0 hz1 hz2 rfl (by decide) _ _ _ rfl (HS.out.1.alloc _) ⟨wr.heap.size, 0, none⟩ 1 1 [.int .i64 k] rfl rfl ?c1 ?c2 ?c3 ?c4 ?c5 ?_))
        case c1 =>
          intro j u hj
          match j, hj with
          | 0, hj => simp at hj; subst hj; simp [Addr.add]
        case c2 => intro u hu; simp at hu; subst hu; rfl
        case c3 => unfold maxLen; omega
        case c4 => omega
        case c5 => have := HS.out.2.size; simp; omega
        intro v' w6 hown' hgrow _
        have HG := Lib.hid (grow_app HS.out hown' hgrow)
        clear hown' hgrow
        go_wp2_with fail
        go_roundw
        case rel => exact ⟨k + 1, by omega, by go_num, by rw [HO.out]; exact HG⟩
        case measure => simp [intOf]; omega
    · obtain rfl : k = 169 := by omega
      obtain ⟨A', c', rfl, hO⟩ := own_form HS.out.1
      have HO := Lib.hid hO
      clear hO
      go_wp2_with fail
      go_ret
      exact ⟨_, _, rfl, HO.out, HS.out.2⟩
theorem hasB_app (xs ys : List Int) : hasB (xs ++ ys) = fun k => hasB xs k || hasB ys k := by
  funext k; unfold hasB; simp
set_option maxRecDepth 100000 in
set_option maxHeartbeats 2000000 in
theorem specOtherRange_any (A : Option Addr) (c : Nat) (xs : List Int) (w : World) (hr : Rd w A xs) (hn : xs.length ≤ 4000000) :
    Calls Try.prog 36 #[.slice A xs.length c] w (NewLC (othRR xs) (twoC xs []) w) := by
  have KX := Lib.hid (fun (c : Nat) => specIsRange_any A c xs w hr hn)
  unfold othRR
  by_cases hx : rngB xs = true
  · rw [hx] at KX
    obtain ⟨i0, hi, hz0, hz1, hz2⟩ := info_parts infoInt
    have e := two_yes (f := (fun a b => !a)) hx rng_nil
    rw [e.1, e.2]
    have HR := Lib.hid hr
    have KH0 := Lib.hid (fun (x : Int) (c : Nat) (W : World) (hb : Below w.heap.size w W) => has_any A c xs x W (hr.below hb) hn)
    clear hr hx e
    obtain ⟨w0, rfl⟩ : ∃ w0 : World, w0 = w := ⟨w, rfl⟩
    go_enter Try.func36, Try.ntmps36
    go_wp2_with (go_at_call 22; ((with_reducible refine (KX.out _).mono ?_); rintro e w2 ⟨rfl, hb1⟩; have B2 := Lib.hid hb1; clear KX hb1))
    have HG0 := Lib.hid (grow_start w2)
    go_loopw [4, 5] (fun v i wr => ∃ k : Nat, k ≤ 169 ∧ i = .int .i64 k ∧ Hid (Grow w2 (clsInN k (fun k => !hasB xs k)) v wr)) (fun _ i _ => 169 - (intOf i).toNat)
    case atStart => exact ⟨0, Nat.zero_le _, rfl, HG0⟩
    case round =>
      obtain ⟨k, hk, rfl, HS⟩ := hrel
      by_cases hlt : k < 169
      · have hlt' : (k : Int) < 169 := by omega
        have KH := Lib.hid (fun (c : Nat) => KH0.out (k : Int) c wr (bl_trans B2.out HS.out.2))
        have hl := clsInN_len k (fun k => !hasB xs k)
        rcases hb : hasB xs (k : Int) with _ | _
        · have HO := Lib.hid (clsInN_yes k (fun k => !hasB xs k) (by simp [hb]))
          rw [hb] at KH
          clear hb
          generalize clsInN k (fun k => !hasB xs k) = fs at *
          go_wp2_with (first
            | (go_at_call 53; refine (KH.out _).mono ?_; rintro e w4 ⟨rfl, rfl⟩)
            | (at_builtin; refine wpList_append_own _ rfl _ _ 24 rfl w2.heap.size 2 i0 (.int .i64 0) 1 8 Try.underlying24 hi hz0 hz1 hz2 rfl (by decide) _ _ _ rfl (HS.out.1.alloc _) ⟨wr.heap.size, 0, none⟩ 1 1 [.int .i64 k] rfl rfl ?c1 ?c2 ?c3 ?c4 ?c5 ?_))
          case c1 =>
            intro j u hj
            match j, hj with
            | 0, hj => simp at hj; subst hj; simp [Addr.add]
          case c2 => intro u hu; simp at hu; subst hu; rfl
          case c3 => unfold maxLen; omega
          case c4 => omega
          case c5 => have := HS.out.2.size; simp; omega
          intro v' w6 hown' hgrow _
          have HG := Lib.hid (grow_app HS.out hown' hgrow)
          clear hown' hgrow
          go_wp2_with fail
          go_roundw
          case rel => exact ⟨k + 1, by omega, by go_num, by rw [HO.out]; exact HG⟩
          case measure => simp [intOf]; omega
        · have HO := Lib.hid (clsInN_no k (fun k => !hasB xs k) (by simp [hb]))
          rw [hb] at KH
          clear hb
          go_wp2_with (go_at_call 53; refine (KH.out _).mono ?_; rintro e w4 ⟨rfl, rfl⟩)
          go_roundw
          case rel => exact ⟨k + 1, by omega, by go_num, by rw [HO.out]; exact HS⟩
          case measure => simp [intOf]; omega
      · obtain rfl : k = 169 := by omega
        obtain ⟨A', c', rfl, hO⟩ := own_form HS.out.1
        have HO := Lib.hid hO
        clear hO
        go_wp2_with fail
        go_ret2
        exact ⟨_, _, rfl, HO.out.less B2.out.size, bl_trans B2.out HS.out.2⟩
  · have hf : rngB xs = false := by simpa using hx
    have e := two_no (a := xs) (b := []) (f := (fun a b => !a)) (by rw [hf]; rfl)
    rw [e.1, e.2]
    rw [hf] at KX
    clear hr hx hf e
    go_enter Try.func36, Try.ntmps36
    go_wp2_with (go_at_call 22; ((with_reducible refine (KX.out _).mono ?_); rintro e w1 ⟨rfl, hb1⟩))
    go_ret2
    exact newLC_nil hb1
end Go.Proofs.Ytlpkaflmhdgmmaa
