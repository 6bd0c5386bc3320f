/-
  JoinRanges, CommonRange, OtherRange: the program's and the model's.
-/
import Derived.Test.YtjmfecjgomkofabDoorRngIs
import Derived.Test.YtjmfecjgomkofabDoorClsSetFns
import Derived.Test.YtjmfecjgomkofabDoorGlue
import Derived.StillTailTactics
namespace Go.Proofs.YtjmfecjgomkofabDoor
open Go.RowKit
set_option linter.unusedVariables false

theorem newLC_nil {w w' : World} {c : Int} (hb : Below w.heap.size w w') : NewLC [] c w (.returned (.tuple #[.slice none 0 0, .int .i64 c])) w' := ⟨none, 0, rfl, Own.nil _ _, hb⟩
theorem zero_set (w : World) : (w.alloc (.cells (List.replicate 169 (Value.bool false)).toArray 127)).heap[w.heap.size]? = some (.cells (List.replicate 169 (Value.bool false)).toArray 127 (0, 0)) := heap_alloc_new w _
theorem zero_two {w w3 : World} {z : Array Value} (hg : ((w.alloc (.cells z 127)).alloc (.cells z 127)).grownBy w3 (some w.heap.size)) : w3.heap[w.heap.size + 1]? = some (.cells z 127 (0, 0)) := by
  have h := heap_alloc_new (w.alloc (.cells z 127)) (.cells z 127)
  rw [World.size_alloc] at h
  exact (hg.block _ (by simp) (by intro e; injection e; omega)).trans h
/-- What the loop keeps: both sets, and what is taken of the first n classes. -/
def TkSt (w : World) (g8 g9 g10 : Nat) (pa pb q : Int → Bool) (n : Nat) (wr : World) : Prop :=
  Blk wr g8 127 (setL pa) ∧ Blk wr g9 127 (setL pb) ∧ Blk wr g10 127 (setL (uptoP q n)) ∧ Below w.heap.size w wr
theorem tk_start {w w2 w3 w4 : World} {z : Array Value} {pa pb q : Int → Bool} {va vb : List Value} (hz : z = (List.replicate 169 (Value.bool false)).toArray) (hb2 : Below w.heap.size w w2) (ha : va = setL pa) (hb : vb = setL pb)
    (h3 : Blk w3 w2.heap.size 127 va) (hg3 : ((w2.alloc (.cells z 127)).alloc (.cells z 127)).grownBy w3 (some w2.heap.size)) (h4 : Blk w4 (w2.heap.size + 1) 127 vb) (hg4 : w3.grownBy w4 (some (w2.heap.size + 1))) :
    TkSt w w2.heap.size (w2.heap.size + 1) w4.heap.size pa pb q 0 (w4.alloc (.cells z 127)) ∧ w2.heap.size + 1 < w4.heap.size := by
  subst hz ha hb
  have b2 := bl_alloc (bl_alloc hb2 (.cells (List.replicate 169 (Value.bool false)).toArray 127)) (.cells (List.replicate 169 (Value.bool false)).toArray 127)
  have b3 := bl_blk b2 hg3 hb2.size
  have b4 := bl_blk b3 hg4 (by have := hb2.size; omega)
  refine ⟨⟨(h3.grown hg4 (by intro e; injection e; omega)).below (bl_alloc (bl_refl _) _), h4.below (bl_alloc (bl_refl _) _), ?_, bl_alloc b4 _⟩, h4.lt⟩
  rw [uptoP_zero, setL_none]
  exact blk_new w4 127 (List.replicate 169 (Value.bool false))
theorem tk_cell {w wr : World} {g8 g9 g10 n : Nat} {pa pb q : Int → Bool} (h : TkSt w g8 g9 g10 pa pb q n wr) (hn : n < 169) :
    wr.cell? ⟨g8, n, none⟩ = some (.bool (pa (n : Int))) ∧ wr.cell? ⟨g9, n, none⟩ = some (.bool (pb (n : Int))) ∧ wr.cell? ⟨g10, n, none⟩ = some (.bool false) ∧ wr.frozen? ⟨g10, n, none⟩ = false := by
  have h3 := h.2.2.1.cell n _ (setL_get _ n hn)
  rw [uptoP_at] at h3
  exact ⟨(h.1.cell n _ (setL_get _ n hn)).1, (h.2.1.cell n _ (setL_get _ n hn)).1, h3.1, h3.2⟩
theorem tk_step {w wr : World} {g8 g9 g10 n : Nat} {pa pb q : Int → Bool} (h : TkSt w g8 g9 g10 pa pb q n wr) (hn : n < 169) (h8 : g8 ≠ g10) (h9 : g9 ≠ g10) (hl : w.heap.size ≤ g10) :
    TkSt w g8 g9 g10 pa pb q (n + 1) (wr.setCell ⟨g10, n, none⟩ (.bool (q (n : Int)))) := by
  obtain ⟨h1, h2⟩ := blk_set h.2.2.1 n (.bool (q (n : Int)))
  rw [setL_set _ n _ hn, uptoP_put] at h1
  exact ⟨h.1.grown h2 (fun e => h8 (Option.some.inj e)), h.2.1.grown h2 (fun e => h9 (Option.some.inj e)), h1, h.2.2.2.setCell hl _⟩
theorem tk_drew {w wr : World} {g8 g9 g10 n : Nat} {pa pb q : Int → Bool} (h : TkSt w g8 g9 g10 pa pb q n wr) : TkSt w g8 g9 g10 pa pb q n wr.drew := ⟨h.1, h.2.1, h.2.2.1, bl_drew h.2.2.2⟩

set_option maxHeartbeats 400000 in
theorem takeOtherRange_any (a b : Bool) (w : World) : Calls Tryd.prog 72 #[.bool a, .bool b] w (Same (.bool ((fun a b => !a) a b)) w) := by
  cases a <;> cases b <;> (go_enter Tryd.func72, Tryd.ntmps72; go_wp2_with fail; go_ret; exact ⟨rfl, rfl⟩)
set_option maxRecDepth 100000 in
set_option maxHeartbeats 4000000 in
theorem combinedOtherRange_yes (A : Option Addr) (c : Nat) (xs : List Int) (E : Option Addr) (d : Nat) (ys : List Int) (w : World) (hr : Rd w A xs) (hr2 : Rd w E ys) (hx : rngB xs = true) (hy : rngB ys = true) :
    Calls Tryd.prog 71 #[.slice A xs.length c, .slice E ys.length d, .func (.func 72) #[] #[]] w (NewLC (clsIn (fun k => (fun a b => !a) (hasB xs k) (hasB ys k))) 0 w) := by
  have hnx := rng_len hx
  have hny := rng_len hy
  have KX := Lib.hid (fun (c : Nat) (W : World) (hb : Below w.heap.size w W) => implIsRange_same A c xs W (hr.below hb) (by omega))
  have KY := Lib.hid (fun (c : Nat) (W : World) (hb : Below w.heap.size w W) => implIsRange_same E c ys W (hr2.below hb) (by omega))
  rw [hx] at KX
  rw [hy] at KY
  have SX := Lib.hid (fun (c : Nat) (W : World) (hb : Below w.heap.size w W) => classSetOf_any A c xs W (hr.below hb) hx)
  have SY := Lib.hid (fun (c : Nat) (W : World) (hb : Below w.heap.size w W) => classSetOf_any E c ys W (hr2.below hb) hy)
  have KT := Lib.hid (fun (a b : Bool) (W : World) => takeOtherRange_any a b W)
  obtain ⟨tk, etk⟩ : ∃ tk : Bool → Bool → Bool, tk = (fun a b => !a) := ⟨_, rfl⟩
  rw [← etk] at KT ⊢
  have HN8 : ∀ b : Bool, (Value.bool b).oneCell' = true := fun _ => rfl
  generalize hasB xs = pa at *
  generalize hasB ys = pb at *
  obtain ⟨va, ea⟩ : ∃ va, va = setL pa := ⟨_, rfl⟩
  obtain ⟨vb, eb⟩ : ∃ vb, vb = setL pb := ⟨_, rfl⟩
  have HPa := Lib.hid (setL_len pa)
  have HPb := Lib.hid (setL_len pb)
  have HOa := Lib.hid (setL_one pa)
  have HOb := Lib.hid (setL_one pb)
  unfold SetR setVal at SX SY
  rw [← ea] at SX HPa HOa
  rw [← eb] at SY HPb HOb
  have EA := Lib.hid ea
  have EB := Lib.hid eb
  have B0 := Lib.hid (bl_refl w)
  clear hr hr2 hx hy ea eb HN8 etk
  obtain ⟨w0, rfl⟩ : ∃ w0 : World, w0 = w := ⟨w, rfl⟩
  go_enter Tryd.func71, Tryd.ntmps71
  go_wp2_with (first
    | (go_at_call 98; ((with_reducible refine (KX.out _ _ B0.out).mono ?_); rintro e w1 ⟨rfl, rfl⟩))
    | (go_at_call 98; ((with_reducible refine (KY.out _ _ B0.out).mono ?_); rintro e w1 ⟨rfl, rfl⟩))
    | (go_at_call 110; ((with_reducible refine (SX.out _ _ B0.out).mono ?_); rintro e w1 ⟨rfl, hb1⟩; have B1 := Lib.hid hb1; clear SX hb1))
    | (go_at_call 110; ((with_reducible refine (SY.out _ _ B1.out).mono ?_); rintro e w2 ⟨rfl, hb2⟩; have B2 := Lib.hid (bl_trans B1.out hb2); clear SY hb2))
    | (refine wpList_store_blk 127 169 rfl (.tmp 8) (.tmp 21) rfl iSet w2.heap.size rfl va rfl HPa.out HOa.out _ ((bl_alloc (bl_refl _) _).block _ (by simp) |>.trans (zero_set w2)) (by simp) ?_; intro w3 ha3 hg3; have A3 := Lib.hid ha3; have G3 := Lib.hid hg3; clear ha3 hg3)
    | (refine wpList_store_blk 127 169 rfl (.tmp 9) (.tmp 23) rfl iSet (w2.heap.size + 1) rfl vb rfl HPb.out HOb.out _ (zero_two G3.out) (by rfl) ?_; intro w4 ha4 hg4; have A4 := Lib.hid ha4; have G4 := Lib.hid hg4; clear ha4 hg4))
  have HS : Hid (TkSt w0 w2.heap.size (w2.heap.size + 1) w4.heap.size pa pb (fun k => tk (pa k) (pb k)) 0 _ ∧ w2.heap.size + 1 < w4.heap.size) := Lib.hid (tk_start rfl B2.out EA.out EB.out A3.out G3.out A4.out G4.out)
  have HZ2 := Lib.hid B2.out.size
  go_loopw [24] (fun i wr => ∃ k : Nat, k ≤ 169 ∧ i = .int .i64 k ∧ Hid (TkSt w0 w2.heap.size (w2.heap.size + 1) w4.heap.size pa pb (fun k => tk (pa k) (pb k)) k wr)) (fun i _ => 169 - (intOf i).toNat)
  case atStart => exact ⟨0, Nat.zero_le _, rfl, Lib.hid HS.out.1⟩
  case round =>
    obtain ⟨k, hk, rfl, hs⟩ := hrel
    by_cases hlt : k < 169
    · have hlt' : (k : Int) < 169 := by omega
      obtain ⟨q1, q2, q3, q4⟩ := tk_cell hs.out hlt
      have HN := Lib.hid (tk_step (tk_drew hs.out) hlt (by have := HS.out.2; omega) (by have := HS.out.2; omega) (by have := HS.out.2; have := HZ2.out; omega))
      have K := Lib.hid (fun W => KT.out (pa k) (pb k) W)
      generalize pa (k : Int) = a1 at *
      generalize pb (k : Int) = a2 at *
      generalize tk a1 a2 = a3 at *
      go_wp2_with fail
      go_still_tail 9, (by kernel_rfl)
      still_call ((K.out _).mono fun _ _ h => ⟨h.1, h.2.symm⟩)
      refine wpStill_nil ?_
      change wpList _ _ _ _ _ wr.drew
      have d3 : wr.drew.cell? ⟨w4.heap.size, k, none⟩ = some (.bool false) := q3
      have d4 : wr.drew.frozen? ⟨w4.heap.size, k, none⟩ = false := q4
      clear q1 q2 q3 q4
      generalize wr.drew = w5 at *
      go_wp2_with fail
      go_roundw
      case rel => exact ⟨k + 1, by omega, by go_num, HN⟩
      case measure => simp [intOf]; omega
    · obtain rfl : k = 169 := by omega
      have HTK := Lib.hid hs.out.2.2.1
      have HBW := Lib.hid hs.out.2.2.2
      rw [uptoP_all] at HTK
      have HP2 := Lib.hid (setL_len (fun k => tk (pa k) (pb k)))
      have KL := Lib.hid (fun W => setList_any (fun k => tk (pa k) (pb k)) W)
      generalize setL (fun k => tk (pa k) (pb k)) = vs at *
      obtain ⟨zs, ez⟩ : ∃ zs, zs = clsIn (fun k => tk (pa k) (pb k)) := ⟨_, rfl⟩
      rw [← ez] at KL
      have HZ := Lib.hid ez
      clear ez
      go_wp2_with (first
        | (with_reducible refine wpList_load_blk 127 _ 169 rfl (.tmp 10) rfl uSet rfl iSet w4.heap.size 0 rfl vs HP2.out (Blk.range HTK.out) ?_)
        | (go_at_call 111; refine (KL.out _).mono ?_; rintro e w7 ⟨A7, c7, rfl, ho7, hb7⟩))
      go_ret2
      rw [← HZ.out]
      exact ⟨_, _, rfl, ho7.less HBW.out.size, bl_trans HBW.out hb7⟩

set_option maxRecDepth 100000 in
set_option maxHeartbeats 1000000 in
theorem combinedOtherRange_any (A : Option Addr) (c : Nat) (xs : List Int) (E : Option Addr) (d : Nat) (ys : List Int) (w : World) (hr : Rd w A xs) (hr2 : Rd w E ys) (hn : xs.length ≤ 4000000) (hn2 : ys.length ≤ 4000000) :
    Calls Tryd.prog 71 #[.slice A xs.length c, .slice E ys.length d, .func (.func 72) #[] #[]] w (NewLC (twoR xs ys (fun a b => !a)) (twoC xs ys) w) := by
  by_cases hx : rngB xs = true
  · by_cases hy : rngB ys = true
    · have e := two_yes (f := (fun a b => !a)) hx hy
      rw [e.1, e.2]
      exact combinedOtherRange_yes A c xs E d ys w hr hr2 hx hy
    · have hf : rngB ys = false := by simpa using hy
      have e := two_no (a := xs) (b := ys) (f := (fun a b => !a)) (by rw [hx, hf]; rfl)
      rw [e.1, e.2]
      have KX := Lib.hid (fun (c : Nat) => implIsRange_same A c xs w hr hn)
      have KY := Lib.hid (fun (c : Nat) => implIsRange_same E c ys w hr2 hn2)
      rw [hx] at KX
      rw [hf] at KY
      clear hr hr2 hx hy hf e
      go_enter Tryd.func71, Tryd.ntmps71
      go_wp2_with (first
        | (go_at_call 98; ((with_reducible refine (KX.out _).mono ?_); rintro e w1 ⟨rfl, rfl⟩))
        | (go_at_call 98; ((with_reducible refine (KY.out _).mono ?_); rintro e w1 ⟨rfl, rfl⟩)))
      go_ret2
      exact newLC_nil (bl_refl _)
  · have hf : rngB xs = false := by simpa using hx
    have e := two_no (a := xs) (b := ys) (f := (fun a b => !a)) (by rw [hf]; rfl)
    rw [e.1, e.2]
    have KX := Lib.hid (fun (c : Nat) => implIsRange_same A c xs w hr hn)
    rw [hf] at KX
    clear hr hr2 hx hf e
    go_enter Tryd.func71, Tryd.ntmps71
    go_wp2_with (go_at_call 98; ((with_reducible refine (KX.out _).mono ?_); rintro e w1 ⟨rfl, rfl⟩))
    go_ret2
    exact newLC_nil (bl_refl _)

/-- What OtherRange answers. -/
def othRR (xs : List Int) : List Int := twoR xs [] (fun a b => !a)
theorem othRR_len (xs : List Int) : (othRR xs).length ≤ 4000000 := two_len xs [] _
set_option maxHeartbeats 400000 in
theorem implOtherRange_any (A : Option Addr) (c : Nat) (xs : List Int) (w : World) (hr : Rd w A xs) (hn : xs.length ≤ 4000000) :
    Calls Tryd.prog 40 #[.slice A xs.length c] w (NewLC (othRR xs) (twoC xs []) w) := by
  have K := Lib.hid (fun (c : Nat) => combinedOtherRange_any A c xs none 0 [] w hr (fun h => by simp at h) hn (by simp))
  clear hr
  unfold othRR
  generalize twoR xs [] (fun a b => !a) = zs at *
  generalize twoC xs [] = kz at *
  simp only [List.length_nil] at K
  go_enter Tryd.func40, Tryd.ntmps40
  go_wp2_with (go_at_call 71; refine (K.out _).mono ?_; rintro e w1 ⟨A1, c1, rfl, ho, hb⟩)
  go_ret2
  exact ⟨_, _, rfl, ho, hb⟩

/-! The model's. -/
set_option maxRecDepth 100000 in
set_option maxHeartbeats 1000000 in
theorem l08Range_any (A : Option Addr) (c : Nat) (xs : List Int) (w : World) (hr : Rd w A xs) (hn : xs.length ≤ 4000000) :
    Calls Tryd.prog 107 #[.slice A xs.length c] w (NewL (clsIn (hasB xs)) w) := by
  obtain ⟨i0, hi, hz0, hz1, hz2⟩ := info_parts infoInt
  have HR := Lib.hid hr
  clear hr
  obtain ⟨w0, rfl⟩ : ∃ w0 : World, w0 = w := ⟨w, rfl⟩
  go_enter Tryd.func107, Tryd.ntmps107
  go_wp2_with fail
  go_loopw [3, 4] (fun v i wr => ∃ k : Nat, k ≤ 169 ∧ i = .int .i64 k ∧ Hid (Grow w0 (clsInN k (hasB xs)) v wr)) (fun _ i _ => 169 - (intOf i).toNat)
  case atStart => exact ⟨0, Nat.zero_le _, rfl, Lib.hid (grow_start w0)⟩
  case round =>
    obtain ⟨k, hk, rfl, HS⟩ := hrel
    by_cases hlt : k < 169
    · have hlt' : (k : Int) < 169 := by omega
      have KH := Lib.hid (fun (W : World) (hb : Below w0.heap.size w0 W) => has_any A c xs (k : Int) W (HR.out.below hb) hn)
      have hl := clsInN_len k (hasB xs)
      rcases hb : hasB xs (k : Int) with _ | _
      · have HO := Lib.hid (clsInN_no k (hasB xs) hb)
        rw [hb] at KH
        clear hb
        go_wp2_with (go_at_call 51; refine (KH.out _ HS.out.2).mono ?_; rintro e w1 ⟨rfl, rfl⟩)
        go_roundw
        case rel => exact ⟨k + 1, by omega, by go_num, by rw [HO.out]; exact HS⟩
        case measure => simp [intOf]; omega
      · have HO := Lib.hid (clsInN_yes k (hasB xs) hb)
        rw [hb] at KH
        clear hb
        go_wp2_with (first
          | (go_at_call 51; refine (KH.out _ HS.out.2).mono ?_; rintro e w1 ⟨rfl, rfl⟩)
          | (at_builtin; refine wpList_append_own _ rfl _ _ 24 rfl w0.heap.size 2 i0 (.int .i64 0) 1 8 Tryd.underlying24 hi hz0 hz1 hz2 rfl (by decide) _ _ _ rfl (HS.out.1.alloc _) ⟨wr.heap.size, 0, none⟩ 1 1 [.int .i64 k] rfl rfl ?c1 ?c2 ?c3 ?c4 ?c5 ?_))
        case c1 =>
          intro j u hj
          match j, hj with
          | 0, hj => simp at hj; subst hj; simp [Addr.add]
        case c2 => intro u hu; simp at hu; subst hu; rfl
        case c3 => unfold maxLen; omega
        case c4 => omega
        case c5 => have := HS.out.2.size; simp; omega
        intro v' w6 hown' hgrow _
        have HG := Lib.hid (grow_app HS.out hown' hgrow)
        clear hown' hgrow
        go_wp2_with fail
        go_roundw
        case rel => exact ⟨k + 1, by omega, by go_num, by rw [HO.out]; exact HG⟩
        case measure => simp [intOf]; omega
    · obtain rfl : k = 169 := by omega
      obtain ⟨A', c', rfl, hO⟩ := own_form HS.out.1
      have HO := Lib.hid hO
      clear hO
      go_wp2_with fail
      go_ret
      exact ⟨_, _, rfl, HO.out, HS.out.2⟩
theorem hasB_app (xs ys : List Int) : hasB (xs ++ ys) = fun k => hasB xs k || hasB ys k := by
  funext k; unfold hasB; simp
set_option maxRecDepth 100000 in
set_option maxHeartbeats 2000000 in
theorem specOtherRange_any (A : Option Addr) (c : Nat) (xs : List Int) (w : World) (hr : Rd w A xs) (hn : xs.length ≤ 4000000) :
    Calls Tryd.prog 109 #[.slice A xs.length c] w (NewLC (othRR xs) (twoC xs []) w) := by
  have KX := Lib.hid (fun (c : Nat) => specIsRange_any A c xs w hr hn)
  unfold othRR
  by_cases hx : rngB xs = true
  · rw [hx] at KX
    obtain ⟨i0, hi, hz0, hz1, hz2⟩ := info_parts infoInt
    have e := two_yes (f := (fun a b => !a)) hx rng_nil
    rw [e.1, e.2]
    have HR := Lib.hid hr
    have KH0 := Lib.hid (fun (x : Int) (c : Nat) (W : World) (hb : Below w.heap.size w W) => has_any A c xs x W (hr.below hb) hn)
    clear hr hx e
    obtain ⟨w0, rfl⟩ : ∃ w0 : World, w0 = w := ⟨w, rfl⟩
    go_enter Tryd.func109, Tryd.ntmps109
    go_wp2_with (go_at_call 66; ((with_reducible refine (KX.out _).mono ?_); rintro e w2 ⟨rfl, hb1⟩; have B2 := Lib.hid hb1; clear KX hb1))
    have HG0 := Lib.hid (grow_start w2)
    go_loopw [4, 5] (fun v i wr => ∃ k : Nat, k ≤ 169 ∧ i = .int .i64 k ∧ Hid (Grow w2 (clsInN k (fun k => !hasB xs k)) v wr)) (fun _ i _ => 169 - (intOf i).toNat)
    case atStart => exact ⟨0, Nat.zero_le _, rfl, HG0⟩
    case round =>
      obtain ⟨k, hk, rfl, HS⟩ := hrel
      by_cases hlt : k < 169
      · have hlt' : (k : Int) < 169 := by omega
        have KH := Lib.hid (fun (c : Nat) => KH0.out (k : Int) c wr (bl_trans B2.out HS.out.2))
        have hl := clsInN_len k (fun k => !hasB xs k)
        rcases hb : hasB xs (k : Int) with _ | _
        · have HO := Lib.hid (clsInN_yes k (fun k => !hasB xs k) (by simp [hb]))
          rw [hb] at KH
          clear hb
          generalize clsInN k (fun k => !hasB xs k) = fs at *
          go_wp2_with (first
            | (go_at_call 51; refine (KH.out _).mono ?_; rintro e w4 ⟨rfl, rfl⟩)
            | (at_builtin; refine wpList_append_own _ rfl _ _ 24 rfl w2.heap.size 2 i0 (.int .i64 0) 1 8 Tryd.underlying24 hi hz0 hz1 hz2 rfl (by decide) _ _ _ rfl (HS.out.1.alloc _) ⟨wr.heap.size, 0, none⟩ 1 1 [.int .i64 k] rfl rfl ?c1 ?c2 ?c3 ?c4 ?c5 ?_))
          case c1 =>
            intro j u hj
            match j, hj with
            | 0, hj => simp at hj; subst hj; simp [Addr.add]
          case c2 => intro u hu; simp at hu; subst hu; rfl
          case c3 => unfold maxLen; omega
          case c4 => omega
          case c5 => have := HS.out.2.size; simp; omega
          intro v' w6 hown' hgrow _
          have HG := Lib.hid (grow_app HS.out hown' hgrow)
          clear hown' hgrow
          go_wp2_with fail
          go_roundw
          case rel => exact ⟨k + 1, by omega, by go_num, by rw [HO.out]; exact HG⟩
          case measure => simp [intOf]; omega
        · have HO := Lib.hid (clsInN_no k (fun k => !hasB xs k) (by simp [hb]))
          rw [hb] at KH
          clear hb
          go_wp2_with (go_at_call 51; refine (KH.out _).mono ?_; rintro e w4 ⟨rfl, rfl⟩)
          go_roundw
          case rel => exact ⟨k + 1, by omega, by go_num, by rw [HO.out]; exact HS⟩
          case measure => simp [intOf]; omega
      · obtain rfl : k = 169 := by omega
        obtain ⟨A', c', rfl, hO⟩ := own_form HS.out.1
        have HO := Lib.hid hO
        clear hO
        go_wp2_with fail
        go_ret2
        exact ⟨_, _, rfl, HO.out.less B2.out.size, bl_trans B2.out HS.out.2⟩
  · have hf : rngB xs = false := by simpa using hx
    have e := two_no (a := xs) (b := []) (f := (fun a b => !a)) (by rw [hf]; rfl)
    rw [e.1, e.2]
    rw [hf] at KX
    clear hr hx hf e
    go_enter Tryd.func109, Tryd.ntmps109
    go_wp2_with (go_at_call 66; ((with_reducible refine (KX.out _).mono ?_); rintro e w1 ⟨rfl, hb1⟩))
    go_ret2
    exact newLC_nil hb1
end Go.Proofs.YtjmfecjgomkofabDoor
