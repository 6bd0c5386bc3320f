/-
  Put together: NumN, SpecLow, AceImpl, Deuce
-/
import Derived.Test.YtlpkaflmhdgmmaaGreatDoorSpecH
import Derived.Test.YtlpkaflmhdgmmaaGreatDoorLowPure
import Derived.Deep.RegionHeld3
import Derived.Deep.RegionWith
import Derived.Deep.DeepCutAuto
import Derived.Test.YtlpkaflmhdgmmaaGreatDoorShp
import Derived.Test.YtlpkaflmhdgmmaaGreatDoorLowSort
import Derived.Test.YtlpkaflmhdgmmaaGreatDoorCmpS
import Derived.Test.YtlpkaflmhdgmmaaGreatDoorVal
import Derived.Test.YtlpkaflmhdgmmaaGreatDoorHand

/-! Numbers to the base 13 with at most five digits: both texts' walks. -/
namespace Go.Proofs.YtlpkaflmhdgmmaaGreatDoor
open Go.RowKit
set_option linter.unusedVariables false

theorem digs_leN (L : List Int) (h : ranksOk L) (hl : L.length ≤ 5) (k : Nat) (hk : k ≤ L.length) : 0 ≤ digs (L.take k) ∧ digs (L.take k) ≤ 371292 := by
  have := digs_bd L h k hk
  have h2 : 13 ^ k ≤ 13 ^ 5 := Nat.pow_le_pow_right (by omega) (by omega)
  have e : (13 ^ 5 : Nat) = 371293 := by decide
  omega
theorem digs_allN (L : List Int) (h : ranksOk L) (hl : L.length ≤ 5) : 0 ≤ digs L ∧ digs L ≤ 371292 := by
  have := digs_leN L h hl L.length (Nat.le_refl _)
  rwa [take_len] at this
set_option maxRecDepth 100000 in
set_option maxHeartbeats 1000000 in
theorem numberOfN_any (A : Option Addr) (c : Nat) (L : List Int) (w : World) (hr : Rd w A L) (hl : L.length ≤ 5) (hb : ranksOk L) :
    Calls Tryz.prog 91 #[.slice A L.length c] w (Same (.int .i64 (digs L)) w) := by
  have HR := Lib.hid hr
  have HB := Lib.hid (digs_leN L hb hl)
  have HN := Lib.hid (ranks_nth L hb)
  clear hr hb
  go_enter Tryz.func91, Tryz.ntmps91
  go_wp2_with fail
  go_loop [3, 8] (fun n i => ∃ k : Nat, k ≤ L.length ∧ i = .int .i64 k ∧ n = .int .i64 (digs (L.take k))) (fun _ i => L.length - (intOf i).toNat)
  case atStart => exact ⟨0, by omega, rfl, rfl⟩
  case round =>
    obtain ⟨k, hk, rfl, rfl⟩ := hrel
    by_cases hlt : k < L.length
    · obtain ⟨b, off, rfl, hc⟩ := HR.out.at_ (bl_refl _) k hlt
      have hlt' : (k : Int) < L.length := by omega
      have h1 := HB.out k hk
      have hx := HN.out k hlt
      have HC := Lib.hid (take_nth L k hlt)
      have HS : Hid (digs (L.take (k + 1)) = digs (L.take k) * 13 + nth L k) := Lib.hid (by rw [HC.out, digs_snoc]; omega)
      generalize digs (L.take k) = q at *
      generalize nth L k = x at *
      go_wp2_with fail
      go_round
      case rel => exact ⟨k + 1, by omega, by go_num, by rw [HS.out]⟩
      case measure => simp [intOf]; omega
    · obtain rfl : k = L.length := by omega
      go_wp2_with fail
      go_ret
      exact ⟨ret_int (by first | rfl | rw [take_len]), rfl⟩
set_option maxRecDepth 100000 in
set_option maxHeartbeats 1000000 in
theorem digitsN_any (A : Option Addr) (c : Nat) (L : List Int) (w : World) (hr : Rd w A L) (hl : L.length ≤ 5) (hb : ranksOk L) :
    Calls Tryz.prog 80 #[.slice A L.length c] w (Same (.int .i64 (digs L)) w) := by
  have HR := Lib.hid hr
  have HB := Lib.hid (digs_leN L hb hl)
  have HN := Lib.hid (ranks_nth L hb)
  clear hr hb
  go_enter Tryz.func80, Tryz.ntmps80
  go_wp2_with fail
  go_loop [3, 4] (fun n i => ∃ k : Nat, k ≤ L.length ∧ i = .int .i64 k ∧ n = .int .i64 (digs (L.take k))) (fun _ i => L.length - (intOf i).toNat)
  case atStart => exact ⟨0, by omega, rfl, rfl⟩
  case round =>
    obtain ⟨k, hk, rfl, rfl⟩ := hrel
    by_cases hlt : k < L.length
    · obtain ⟨b, off, rfl, hc⟩ := HR.out.at_ (bl_refl _) k hlt
      have hlt' : (k : Int) < L.length := by omega
      have h1 := HB.out k hk
      have hx := HN.out k hlt
      have HC := Lib.hid (take_nth L k hlt)
      have HS := Lib.hid (digs_snoc (L.take k) (nth L k))
      rw [← HC.out] at HS
      generalize digs (L.take k) = q at *
      generalize nth L k = x at *
      go_wp2_with fail
      go_round
      case rel => exact ⟨k + 1, by omega, by go_num, by rw [HS.out]⟩
      case measure => simp [intOf] <;> omega
    · obtain rfl : k = L.length := by omega
      go_wp2_with fail
      go_ret
      exact ⟨ret_int (by first | rfl | rw [take_len]), rfl⟩
end Go.Proofs.YtlpkaflmhdgmmaaGreatDoor

/-! The model's low ranks, their counts, the ranks in the order of kickers, the pattern, and the ace-to-five value of five cards. -/
namespace Go.Proofs.YtlpkaflmhdgmmaaGreatDoor
open Go.RowKit
set_option linter.unusedVariables false

theorem lr_tmod (x : Int) (h0 : 0 ≤ x) : (x / 4 + 1).tmod 13 = lr x := by unfold lr; exact Int.tmod_eq_emod_of_nonneg (by omega)
set_option maxHeartbeats 400000 in
theorem l05Rank_any (x : Int) (w : World) (h0 : 0 ≤ x) (h1 : x < 52) :
    Calls Tryz.prog 45 #[.int .i64 x] w (Same (.int .i64 (lr x)) w) := by
  have H := Lib.hid (lr_tmod x h0)
  go_enter Tryz.func45, Tryz.ntmps45
  go_wp2
  go_ret
  exact ⟨ret_int rfl, rfl⟩
theorem occ_lrs (xs : List Int) (r : Int) : occ (lrs xs) r = cnt (fun x => lr x == r) xs := by
  unfold occ cnt lrs
  rw [List.filter_map, List.length_map]
  rfl
theorem cntL_lrs (xs : List Int) : cntL 13 lr xs = occL (lrs xs) := by
  unfold cntL occL
  simp only [occ_lrs]
set_option maxRecDepth 100000 in
set_option maxHeartbeats 1000000 in
theorem l05Counts_any (A : Option Addr) (c : Nat) (xs : List Int) (w : World) (hr : Rd w A xs) (hn : xs.length ≤ 4000000) (hb : cardsB xs = true) :
    Calls Tryz.prog 82 #[.slice A xs.length c] w (Cnt13 (lrs xs) w) := by
  obtain ⟨i0, hi, hz0, hz1, hz2⟩ := info_parts infoInt
  have HR := Lib.hid hr
  have HB := Lib.hid ((cards_iff xs).1 hb).1
  clear hr hb
  obtain ⟨w0, rfl⟩ : ∃ w0 : World, w0 = w := ⟨w, rfl⟩
  go_enter Tryz.func82, Tryz.ntmps82
  go_wp2_with (at_make; refine wpList_make_full _ rfl _ _ 26 rfl w0.heap.size 2 i0 (.int .i64 0) 1 Tryz.underlying26 hi hz0 hz1 .i64 .i64 _ _ 13 rfl rfl rfl rfl ?c1 ?c2 (Nat.le_refl _) ?_)
  case c1 => rw [hz2]; omega
  case c2 => unfold maxLen; omega
  intro w1 hown hgrow
  have HS : Hid (Counted w0 13 lr (xs.take 0) w1) := Lib.hid ⟨by
    have e : (madeCells #[Value.int .i64 0] 13).toList = ints (cntL 13 lr (xs.take 0)) := by
      rw [List.take_zero, cntL_nil, ← ints_zeros]; exact toList_madeCells_one _ _
    rwa [e] at hown, (bl_refl _).grown hgrow (Nat.le_refl _) (fun j hj => by cases hj)⟩
  clear hown hgrow
  go_wp2_with fail
  go_loopw [4] (fun i wr => ∃ k : Nat, k ≤ xs.length ∧ i = .int .i64 k ∧ Hid (Counted w0 13 lr (xs.take k) wr)) (fun i _ => xs.length - (intOf i).toNat)
  case atStart => exact ⟨0, Nat.zero_le _, rfl, HS⟩
  case round =>
    obtain ⟨k, hk, rfl, hs⟩ := hrel
    by_cases hlt : k < xs.length
    · obtain ⟨b, off, rfl, hc⟩ := HR.out.at_ hs.out.2 k hlt
      have hlt' : (k : Int) < xs.length := by omega
      have HC := Lib.hid (take_nth xs k hlt)
      have hx := HB.out _ (nth_mem xs k hlt)
      obtain ⟨x, ex⟩ : ∃ x, x = nth xs k := ⟨_, rfl⟩
      rw [← ex] at hc HC hx
      clear ex
      have KR := Lib.hid (fun W => l05Rank_any x W hx.1 hx.2)
      have hbd := lr_bd x
      obtain ⟨q, eq⟩ : ∃ q : Nat, lr x = (q : Int) := ⟨(lr x).toNat, by omega⟩
      have EQ := Lib.hid eq
      rw [eq] at KR hbd
      have hq : q < 13 := by omega
      have hq' : (q : Int) < 13 := by omega
      obtain ⟨hg, hf⟩ := counted_cell hs.out q hq
      have hle : cnt (fun z => lr z == (q : Int)) (xs.take k) ≤ 4000000 := Nat.le_trans (cnt_le _ _) (by rw [List.length_take]; omega)
      obtain ⟨p, ep⟩ : ∃ p, p = cnt (fun z => lr z == (q : Int)) (xs.take k) := ⟨_, rfl⟩
      rw [← ep] at hg hle
      have EP := Lib.hid ep
      clear ep eq hx hbd
      go_wp2_with (go_at_call 45; refine (KR.out _).mono ?_; rintro e w2 ⟨rfl, rfl⟩)
      go_roundw
      case rel => exact ⟨k + 1, by omega, by go_num, Lib.hid (by rw [HC.out]; have := counted_step hs.out q hq EQ.out; rw [← EP.out] at this; exact this)⟩
      case measure => simp [intOf]; omega
    · obtain rfl : k = xs.length := by omega
      go_wp2_with fail
      go_ret
      have h := hs.out
      unfold Counted at h
      rw [take_len, cntL_lrs] at h
      have ho : Own wr w0.heap.size (.slice (some ⟨w0.heap.size, 0, none⟩) (occL (lrs xs)).length 13) (occL (lrs xs)) := by unfold Own; rw [occL_length]; exact h.1
      exact ⟨some ⟨w0.heap.size, 0, none⟩, 13, rfl, ho.rd, h.2⟩

set_option maxRecDepth 100000 in
set_option maxHeartbeats 2000000 in
theorem l05Ordered_any (A1 : Option Addr) (c1 : Nat) (rs : List Int) (w1 : World) (hr : Rd w1 A1 (occL rs)) :
    Calls Tryz.prog 84 #[.slice A1 13 c1] w1 (NewL (kk rs) w1) := by
  obtain ⟨i0, hi, hz0, hz1, hz2⟩ := info_parts infoInt
  have R1 := Lib.hid hr
  clear hr
  have EK : Hid (kk rs = runK rs 52) := Lib.hid rfl
  go_enter Tryz.func84, Tryz.ntmps84
  go_wp2_with fail
  go_loopw [3, 4] (fun v n wr => ∃ j : Nat, j ≤ 4 ∧ n = .int .i64 j ∧ Hid (Grow w1 (runK rs ((4 - j) * 13)) v wr)) (fun _ n _ => (intOf n).toNat)
  case atStart => exact ⟨4, Nat.le_refl _, rfl, Lib.hid (grow_start w1)⟩
  case round =>
    obtain ⟨j0, hj, rfl, HS⟩ := hrel
    rcases j0 with _ | j
    · obtain ⟨A', c', rfl, hO⟩ := own_form HS.out.1
      have HO := Lib.hid hO
      clear hO
      go_wp2_with fail
      go_ret
      rw [EK.out]
      exact ⟨_, _, rfl, HO.out, HS.out.2⟩
    · have hj' : ((j + 1 : Nat) : Int) = (j : Int) + 1 := by omega
      rw [hj']
      clear hj'
      have hj1 : (1 : Int) ≤ (j : Int) + 1 := by omega
      go_wp2_with fail
      go_loopw [3, 5] (fun v r wr => ∃ q : Nat, q ≤ 13 ∧ r = .int .i64 ((q : Int) - 1) ∧ Hid (Grow w1 (runK rs ((4 - (j + 1)) * 13 + (13 - q))) v wr)) (fun _ r _ => (intOf r + 1).toNat)
      case atStart => exact ⟨13, Nat.le_refl _, rfl, HS⟩
      case round =>
        obtain ⟨q0, hq, rfl, HS⟩ := hrel
        rcases q0 with _ | q
        · go_wp2_with fail
          go_roundw
          case rel => exact ⟨j, by omega, by go_num, by
            have e : (4 - j) * 13 = (4 - (j + 1)) * 13 + (13 - 0) := by omega
            rw [e]; exact HS⟩
          case measure => simp [intOf] <;> omega
        · have hx : ((q + 1 : Nat) : Int) - 1 = (q : Int) := by omega
          rw [hx]
          have hq0 : (0 : Int) ≤ (q : Int) := by omega
          have HX := Lib.hid (runK_step rs j q (by omega) (by omega))
          have hl := runK_len rs ((4 - (j + 1)) * 13 + (13 - (q + 1)))
          generalize runK rs ((4 - (j + 1)) * 13 + (13 - (q + 1))) = ys at *
          obtain ⟨b, off, rfl, hcc⟩ := occL_at (R1.out.below (bl_refl _))
          have hc1 := Lib.hid (hcc q (by omega))
          clear hcc
          by_cases ho : occ rs (q : Int) = j + 1
          · rw [piece_yes rs (j + 1) q ho] at HX
            have hj' : ((j + 1 : Nat) : Int) = (j : Int) + 1 := by omega
            rw [ho, hj'] at hc1
            clear hj'
            clear ho
            go_wp2_with fail
            go_loopw [3, 6] (fun v i wx => ∃ k : Nat, k ≤ j + 1 ∧ i = .int .i64 k ∧ Hid (Grow w1 (ys ++ List.replicate k (q : Int)) v wx)) (fun _ i _ => j + 1 - (intOf i).toNat)
            case atStart => exact ⟨0, by omega, rfl, by rw [List.replicate_zero, List.append_nil]; exact HS⟩
            case round =>
              obtain ⟨k, hk, rfl, HG⟩ := hrel
              have hcell := HG.out.2.cell (p := ⟨b, off + q, none⟩) (World.block_lt_of_cell? _ _ hc1.out)
              rw [hc1.out] at hcell
              by_cases hlt : k < j + 1
              · have hlt' : (k : Int) < (j : Int) + 1 := by omega
                have hlen : (ys ++ List.replicate k (q : Int)).length ≤ 4 * 52 + 4 := by rw [List.length_append, List.length_replicate]; omega
                have HR := Lib.hid (rep_snoc k (q : Int))
                obtain ⟨zs, ez⟩ : ∃ zs, zs = ys ++ List.replicate k (q : Int) := ⟨_, rfl⟩
                rw [← ez] at HG hlen
                have EZ := Lib.hid ez
                clear ez
                go_wp2_with (at_builtin; refine wpList_append_own _ rfl _ _ 26 rfl w1.heap.size 2 i0 (.int .i64 0) 1 8 Tryz.underlying26 hi hz0 hz1 hz2 rfl (by decide) _ _ _ rfl (HG.out.1.alloc _) ⟨wr.heap.size, 0, none⟩ 1 1 [.int .i64 q] rfl rfl ?c1 ?c2 ?c3 ?c4 ?c5 ?_)
                case c1 =>
                  intro j' u hj'
                  match j', hj' with
                  | 0, hj' => simp at hj'; subst hj'; simp [Addr.add]
                case c2 => intro u hu; simp at hu; subst hu; rfl
                case c3 => unfold maxLen; omega
                case c4 => omega
                case c5 => have := HG.out.2.size; simp; omega
                intro v' w4 hown' hgrow _
                have HG2 := Lib.hid (grow_app HG.out hown' hgrow)
                clear hown' hgrow
                go_wp2_with fail
                go_roundw
                case rel => exact ⟨k + 1, by omega, by go_num, by rw [HR.out, ← List.append_assoc, ← EZ.out]; exact HG2⟩
                case measure => simp [intOf] <;> omega
              · obtain rfl : k = j + 1 := by omega
                go_wp2_with fail
                go_roundw
                case rel => exact ⟨q, by omega, by go_num, by rw [HX.out]; exact HG⟩
                case measure => simp [intOf] <;> omega
          · rw [piece_no rs (j + 1) q ho, List.append_nil] at HX
            have ho' : (((occ rs (q : Int) : Nat) : Int) == (j : Int) + 1) = false := by simp; omega
            clear ho
            generalize ((occ rs (q : Int) : Nat) : Int) = y at *
            go_wp2_with fail
            go_loopw [3, 6] (fun v i wx => i = .int .i64 0 ∧ Hid (Grow w1 ys v wx)) (fun _ i _ => 0)
            case atStart => exact ⟨rfl, HS⟩
            case round =>
              obtain ⟨rfl, HG⟩ := hrel
              have hcell := HG.out.2.cell (p := ⟨b, off + q, none⟩) (World.block_lt_of_cell? _ _ hc1.out)
              rw [hc1.out] at hcell
              have hj0 : (0 : Int) < (j : Int) + 1 := by omega
              go_wp2_with fail
              go_roundw
              case rel => exact ⟨q, by omega, by go_num, by rw [HX.out]; exact HG⟩
              case measure => simp [intOf] <;> omega

/-- The pattern, out of the numbers. -/
def pat4 (m4 m3 m2 : Nat) : Int := if m4 = 1 then 5 else if m3 = 1 ∧ m2 = 1 then 4 else if m3 = 1 then 3 else (m2 : Int)
set_option maxRecDepth 100000 in
set_option maxHeartbeats 4000000 in
theorem l05Pattern_any (A1 : Option Addr) (c1 : Nat) (rs : List Int) (w1 : World) (hr : Rd w1 A1 (occL rs)) (h4 : ∀ r, occ rs r ≤ 4) :
    Calls Tryz.prog 83 #[.slice A1 13 c1] w1 (Fresh (.int .i64 (patS rs)) w1) := by
  obtain ⟨i0, hi, hz0, hz1, hz2⟩ := info_parts infoInt
  have R1 := Lib.hid hr
  have HO := Lib.hid (occL_bd rs h4)
  clear hr h4
  go_enter Tryz.func83, Tryz.ntmps83
  go_wp2_with (at_make; refine wpList_make_full _ rfl _ _ 26 rfl w1.heap.size 2 i0 (.int .i64 0) 1 Tryz.underlying26 hi hz0 hz1 .i64 .i64 _ _ 5 rfl rfl rfl rfl ?c1 ?c2 (Nat.le_refl _) ?_)
  case c1 => rw [hz2]; omega
  case c2 => unfold maxLen; omega
  intro w2 hown hgrow
  have HS : Hid (Counted w1 5 (fun y => y) ((occL rs).take 0) w2) := Lib.hid ⟨by
    have e : (madeCells #[Value.int .i64 0] 5).toList = ints (cntL 5 (fun y => y) ((occL rs).take 0)) := by
      rw [List.take_zero, cntL_nil, ← ints_zeros]; exact toList_madeCells_one _ _
    rwa [e] at hown, (bl_refl _).grown hgrow (Nat.le_refl _) (fun j hj => by cases hj)⟩
  clear hown hgrow
  go_wp2_with fail
  go_loopw [4] (fun i wr => ∃ k : Nat, k ≤ 13 ∧ i = .int .i64 k ∧ Hid (Counted w1 5 (fun y => y) ((occL rs).take k) wr)) (fun i _ => 13 - (intOf i).toNat)
  case atStart => exact ⟨0, Nat.zero_le _, rfl, HS⟩
  case round =>
    obtain ⟨k, hk, rfl, hs⟩ := hrel
    by_cases hlt : k < 13
    · obtain ⟨b, off, rfl, hc⟩ := R1.out.at_ hs.out.2 k (by rw [occL_length]; exact hlt)
      have hlt' : (k : Int) < 13 := by omega
      have HC := Lib.hid (take_nth (occL rs) k (by rw [occL_length]; exact hlt))
      obtain ⟨q, eq, hq⟩ := HO.out k hlt
      rw [eq] at hc HC
      clear eq
      obtain ⟨hg, hf⟩ := counted_cell hs.out q hq
      have hle : cnt (fun z => (fun y : Int => y) z == (q : Int)) ((occL rs).take k) ≤ 13 := Nat.le_trans (cnt_le _ _) (by rw [List.length_take]; omega)
      obtain ⟨p, ep⟩ : ∃ p, p = cnt (fun z => (fun y : Int => y) z == (q : Int)) ((occL rs).take k) := ⟨_, rfl⟩
      rw [← ep] at hg hle
      have EP := Lib.hid ep
      clear ep
      go_wp2_with fail
      go_roundw
      case rel => exact ⟨k + 1, by omega, by go_num, Lib.hid (by rw [HC.out]; have := counted_step hs.out q hq rfl; rw [← EP.out] at this; exact this)⟩
      case measure => simp [intOf]; omega
    · obtain rfl : k = 13 := by omega
      have hs := hs.out
      rw [List.take_of_length_le (by rw [occL_length]; omega)] at hs
      obtain ⟨g2, g3, g4⟩ := manyAt_of hs
      have HB := Lib.hid hs.2
      clear hs
      have CS : Hid (patS rs = pat4 (many rs 4) (many rs 3) (many rs 2)) := Lib.hid rfl
      generalize many rs 2 = m2 at *
      generalize many rs 3 = m3 at *
      generalize many rs 4 = m4 at *
      generalize patS rs = z at *
      clear i0 hi hz0 hz1 hz2
      go_wp2_with fail
      all_goals
        go_ret
        refine ⟨ret_int ?_, HB.out⟩
        rw [CS.out]
        clear CS HB HO HS R1
        unfold pat4
        try simp only [beq_eq_false_iff_ne, ne_eq, beq_iff_eq] at *
        repeat' split
        all_goals first | rfl | omega

/-- The ace-to-five value, in the model's words. -/
def aceS (xs : List Int) : Int := 371293 * patS (lrs xs) + digs (kk (lrs xs))
theorem lrs_facts (xs : List Int) (hb : cardsB xs = true) : ∀ r, occ (lrs xs) r ≤ 4 := by
  obtain ⟨h1, h2⟩ := rk_facts xs hb
  exact lrs_occ xs (rk xs) rfl h2 h1
theorem kkl_facts (xs : List Int) (hb : cardsB xs = true) (h5 : xs.length = 5) : (kk (lrs xs)).length = 5 ∧ ranksOk (kk (lrs xs)) := by
  have hp := kk_perm (lrs xs) (lrs_ok xs) (lrs_facts xs hb)
  exact ⟨by rw [hp.length_eq, lrs_len, h5], fun r hr => lrs_ok xs r (hp.mem_iff.1 hr)⟩
theorem aceS_bd (xs : List Int) (hb : cardsB xs = true) (h5 : xs.length = 5) : 0 ≤ aceS xs ∧ aceS xs ≤ 2227757 := by
  have hp := pat_bd (lrs xs) (lrs_ok xs) (lrs_facts xs hb) (by rw [lrs_len, h5])
  obtain ⟨hl, hk⟩ := kkl_facts xs hb h5
  have hd := digs_le _ hk hl 5 (Nat.le_refl _)
  rw [← hl, take_len] at hd
  unfold aceS
  omega
set_option maxRecDepth 100000 in
set_option maxHeartbeats 2000000 in
theorem l05Ace_any (A : Option Addr) (c : Nat) (xs : List Int) (w : World) (hr : Rd w A xs) (h5 : xs.length = 5) (hb : cardsB xs = true) :
    Calls Tryz.prog 59 #[.slice A 5 c] w (Fresh (.int .i64 (aceS xs)) w) := by
  have K1 := Lib.hid (l05Counts_any A c xs w hr (by omega) hb)
  rw [h5] at K1
  obtain ⟨hl, hk⟩ := kkl_facts xs hb h5
  have hp := pat_bd (lrs xs) (lrs_ok xs) (lrs_facts xs hb) (by rw [lrs_len, h5])
  have h4 := lrs_facts xs hb
  have hd := digs_le _ hk hl 5 (Nat.le_refl _)
  rw [← hl, take_len] at hd
  have EF : Hid (aceS xs = 371293 * patS (lrs xs) + digs (kk (lrs xs))) := Lib.hid rfl
  generalize aceS xs = z at *
  generalize lrs xs = rs at *
  have K2 := Lib.hid (fun (A1 : Option Addr) (c1 : Nat) (W : World) (h : Rd W A1 (occL rs)) => l05Pattern_any A1 c1 rs W h h4)
  have K3 := Lib.hid (fun (A1 : Option Addr) (c1 : Nat) (W : World) (h : Rd W A1 (occL rs)) => l05Ordered_any A1 c1 rs W h)
  have K4 := Lib.hid (fun (A1 : Option Addr) (c1 : Nat) (W : World) (h : Rd W A1 (kk rs)) => l04Digits_any A1 c1 (kk rs) W h hl hk)
  have HL := Lib.hid hl
  generalize patS rs = p at *
  generalize digs (kk rs) = d at *
  generalize kk rs = ks at *
  clear hr hb h4 hl hk
  go_enter Tryz.func59, Tryz.ntmps59
  go_wp2_with (first
    | (go_at_call 82; refine K1.out.mono ?_; rintro e w1 ⟨A1, c1, rfl, hr1, hb1⟩; have R1 := Lib.hid hr1; have B1 := Lib.hid hb1; clear hr1 hb1)
    | (go_at_call 83; refine (K2.out _ _ _ R1.out).mono ?_; rintro e w2 ⟨rfl, hb2⟩; have R2 := Lib.hid (R1.out.below hb2); have B2 := Lib.hid (bl_trans B1.out hb2); clear hb2)
    | (go_at_call 84; refine (K3.out _ _ _ R2.out).mono ?_; rintro e w3 ⟨A3, c3, rfl, ho3, hb3⟩; have R3 := Lib.hid ho3.rd; rw [HL.out]; have B3 := Lib.hid (bl_trans B2.out hb3); clear ho3 hb3)
    | (go_at_call 80; refine (K4.out _ _ _ R3.out).mono ?_; rintro e w4 ⟨rfl, rfl⟩))
  go_ret
  exact ⟨ret_int (by rw [EF.out]), B3.out⟩
end Go.Proofs.YtlpkaflmhdgmmaaGreatDoor

/-! The program's ace-to-five value of five cards. -/
namespace Go.Proofs.YtlpkaflmhdgmmaaGreatDoor
open Go.RowKit
set_option linter.unusedVariables false

def patB (b1 b2 b3 b4 b5 : Bool) : Int := if b1 = true then 5 else if b2 = true then 4 else if b3 = true then 3 else if b4 = true then 2 else if b5 = true then 1 else 0
theorem patI_bool (m n : Nat) : patI m n = patB (decide (m = 4)) (decide (m = 3 ∧ n = 2)) (decide (3 ≤ m)) (decide (2 ≤ m ∧ 2 ≤ n)) (decide (2 ≤ m)) := by
  unfold patI patB
  simp only [decide_eq_true_eq]
theorem patI_bd (m n : Nat) : 0 ≤ patI m n ∧ patI m n ≤ 5 := by
  unfold patI
  repeat' split
  all_goals omega
set_option maxRecDepth 100000 in
set_option maxHeartbeats 4000000 in
theorem lowPattern_any (k0 k1 k2 k3 k4 : Int) (m n : Nat) (o : Bool) (w : World) :
    Calls Tryz.prog 148 #[shp k0 k1 k2 k3 k4 m n o] w (Fresh (.int .i64 (patI m n)) w) := by
  have K1 := Lib.hid (fun W => hasQuadruple_any k0 k1 k2 k3 k4 m n o W)
  have K2 := Lib.hid (fun W => isFullHouse_any k0 k1 k2 k3 k4 m n o W)
  have K3 := Lib.hid (fun W => hasTriple_any k0 k1 k2 k3 k4 m n o W)
  have K4 := Lib.hid (fun W => hasTwoPairs_any k0 k1 k2 k3 k4 m n o W)
  have K5 := Lib.hid (fun W => hasPair_any k0 k1 k2 k3 k4 m n o W)
  have EP := Lib.hid (patI_bool m n)
  have N0 := Lib.hid (blk_new w 95 [.int .i64 k0, .int .i64 k1, .int .i64 k2, .int .i64 k3, .int .i64 k4, .int .i64 m, .int .i64 n, .bool o])
  have BX := Lib.hid (bl_alloc (bl_refl w) (.cells #[.int .i64 k0, .int .i64 k1, .int .i64 k2, .int .i64 k3, .int .i64 k4, .int .i64 m, .int .i64 n, .bool o] 95))
  generalize patI m n = z at *
  generalize decide (m = 4) = b1 at *
  generalize decide (m = 3 ∧ n = 2) = b2 at *
  generalize decide (3 ≤ m) = b3 at *
  generalize decide (2 ≤ m ∧ 2 ≤ n) = b4 at *
  generalize decide (2 ≤ m) = b5 at *
  rcases b1 with _ | _
  rotate_left
  · go_enter Tryz.func148, Tryz.ntmps148
    go_wp2_with (first
      | (go_at_call 110; refine (K1.out _).mono ?_; rintro e w1 ⟨rfl, hb1⟩; have B1 := Lib.hid (hb1); have N1 := N0.out.below B1.out; obtain ⟨q1_0, _⟩ := N1.cell 0 _ rfl; obtain ⟨q1_1, _⟩ := N1.cell 1 _ rfl; obtain ⟨q1_2, _⟩ := N1.cell 2 _ rfl; obtain ⟨q1_3, _⟩ := N1.cell 3 _ rfl; obtain ⟨q1_4, _⟩ := N1.cell 4 _ rfl; obtain ⟨q1_5, _⟩ := N1.cell 5 _ rfl; obtain ⟨q1_6, _⟩ := N1.cell 6 _ rfl; obtain ⟨q1_7, _⟩ := N1.cell 7 _ rfl; have Z1 := N1.lt; clear hb1))
    go_ret
    exact ⟨ret_int (by rw [EP.out]; rfl), bl_trans BX.out B1.out⟩
  rcases b2 with _ | _
  rotate_left
  · go_enter Tryz.func148, Tryz.ntmps148
    go_wp2_with (first
      | (go_at_call 110; refine (K1.out _).mono ?_; rintro e w1 ⟨rfl, hb1⟩; have B1 := Lib.hid (hb1); have N1 := N0.out.below B1.out; obtain ⟨q1_0, _⟩ := N1.cell 0 _ rfl; obtain ⟨q1_1, _⟩ := N1.cell 1 _ rfl; obtain ⟨q1_2, _⟩ := N1.cell 2 _ rfl; obtain ⟨q1_3, _⟩ := N1.cell 3 _ rfl; obtain ⟨q1_4, _⟩ := N1.cell 4 _ rfl; obtain ⟨q1_5, _⟩ := N1.cell 5 _ rfl; obtain ⟨q1_6, _⟩ := N1.cell 6 _ rfl; obtain ⟨q1_7, _⟩ := N1.cell 7 _ rfl; have Z1 := N1.lt; clear hb1)
      | (go_at_call 109; refine (K2.out _).mono ?_; rintro e w2 ⟨rfl, hb2⟩; have B2 := Lib.hid (bl_trans B1.out hb2); have N2 := N0.out.below B2.out; obtain ⟨q2_0, _⟩ := N2.cell 0 _ rfl; obtain ⟨q2_1, _⟩ := N2.cell 1 _ rfl; obtain ⟨q2_2, _⟩ := N2.cell 2 _ rfl; obtain ⟨q2_3, _⟩ := N2.cell 3 _ rfl; obtain ⟨q2_4, _⟩ := N2.cell 4 _ rfl; obtain ⟨q2_5, _⟩ := N2.cell 5 _ rfl; obtain ⟨q2_6, _⟩ := N2.cell 6 _ rfl; obtain ⟨q2_7, _⟩ := N2.cell 7 _ rfl; have Z2 := N2.lt; clear hb2))
    go_ret
    exact ⟨ret_int (by rw [EP.out]; rfl), bl_trans BX.out B2.out⟩
  rcases b3 with _ | _
  rotate_left
  · go_enter Tryz.func148, Tryz.ntmps148
    go_wp2_with (first
      | (go_at_call 110; refine (K1.out _).mono ?_; rintro e w1 ⟨rfl, hb1⟩; have B1 := Lib.hid (hb1); have N1 := N0.out.below B1.out; obtain ⟨q1_0, _⟩ := N1.cell 0 _ rfl; obtain ⟨q1_1, _⟩ := N1.cell 1 _ rfl; obtain ⟨q1_2, _⟩ := N1.cell 2 _ rfl; obtain ⟨q1_3, _⟩ := N1.cell 3 _ rfl; obtain ⟨q1_4, _⟩ := N1.cell 4 _ rfl; obtain ⟨q1_5, _⟩ := N1.cell 5 _ rfl; obtain ⟨q1_6, _⟩ := N1.cell 6 _ rfl; obtain ⟨q1_7, _⟩ := N1.cell 7 _ rfl; have Z1 := N1.lt; clear hb1)
      | (go_at_call 109; refine (K2.out _).mono ?_; rintro e w2 ⟨rfl, hb2⟩; have B2 := Lib.hid (bl_trans B1.out hb2); have N2 := N0.out.below B2.out; obtain ⟨q2_0, _⟩ := N2.cell 0 _ rfl; obtain ⟨q2_1, _⟩ := N2.cell 1 _ rfl; obtain ⟨q2_2, _⟩ := N2.cell 2 _ rfl; obtain ⟨q2_3, _⟩ := N2.cell 3 _ rfl; obtain ⟨q2_4, _⟩ := N2.cell 4 _ rfl; obtain ⟨q2_5, _⟩ := N2.cell 5 _ rfl; obtain ⟨q2_6, _⟩ := N2.cell 6 _ rfl; obtain ⟨q2_7, _⟩ := N2.cell 7 _ rfl; have Z2 := N2.lt; clear hb2)
      | (go_at_call 106; refine (K3.out _).mono ?_; rintro e w3 ⟨rfl, hb3⟩; have B3 := Lib.hid (bl_trans B2.out hb3); have N3 := N0.out.below B3.out; obtain ⟨q3_0, _⟩ := N3.cell 0 _ rfl; obtain ⟨q3_1, _⟩ := N3.cell 1 _ rfl; obtain ⟨q3_2, _⟩ := N3.cell 2 _ rfl; obtain ⟨q3_3, _⟩ := N3.cell 3 _ rfl; obtain ⟨q3_4, _⟩ := N3.cell 4 _ rfl; obtain ⟨q3_5, _⟩ := N3.cell 5 _ rfl; obtain ⟨q3_6, _⟩ := N3.cell 6 _ rfl; obtain ⟨q3_7, _⟩ := N3.cell 7 _ rfl; have Z3 := N3.lt; clear hb3))
    go_ret
    exact ⟨ret_int (by rw [EP.out]; rfl), bl_trans BX.out B3.out⟩
  rcases b4 with _ | _
  rotate_left
  · go_enter Tryz.func148, Tryz.ntmps148
    go_wp2_with (first
      | (go_at_call 110; refine (K1.out _).mono ?_; rintro e w1 ⟨rfl, hb1⟩; have B1 := Lib.hid (hb1); have N1 := N0.out.below B1.out; obtain ⟨q1_0, _⟩ := N1.cell 0 _ rfl; obtain ⟨q1_1, _⟩ := N1.cell 1 _ rfl; obtain ⟨q1_2, _⟩ := N1.cell 2 _ rfl; obtain ⟨q1_3, _⟩ := N1.cell 3 _ rfl; obtain ⟨q1_4, _⟩ := N1.cell 4 _ rfl; obtain ⟨q1_5, _⟩ := N1.cell 5 _ rfl; obtain ⟨q1_6, _⟩ := N1.cell 6 _ rfl; obtain ⟨q1_7, _⟩ := N1.cell 7 _ rfl; have Z1 := N1.lt; clear hb1)
      | (go_at_call 109; refine (K2.out _).mono ?_; rintro e w2 ⟨rfl, hb2⟩; have B2 := Lib.hid (bl_trans B1.out hb2); have N2 := N0.out.below B2.out; obtain ⟨q2_0, _⟩ := N2.cell 0 _ rfl; obtain ⟨q2_1, _⟩ := N2.cell 1 _ rfl; obtain ⟨q2_2, _⟩ := N2.cell 2 _ rfl; obtain ⟨q2_3, _⟩ := N2.cell 3 _ rfl; obtain ⟨q2_4, _⟩ := N2.cell 4 _ rfl; obtain ⟨q2_5, _⟩ := N2.cell 5 _ rfl; obtain ⟨q2_6, _⟩ := N2.cell 6 _ rfl; obtain ⟨q2_7, _⟩ := N2.cell 7 _ rfl; have Z2 := N2.lt; clear hb2)
      | (go_at_call 106; refine (K3.out _).mono ?_; rintro e w3 ⟨rfl, hb3⟩; have B3 := Lib.hid (bl_trans B2.out hb3); have N3 := N0.out.below B3.out; obtain ⟨q3_0, _⟩ := N3.cell 0 _ rfl; obtain ⟨q3_1, _⟩ := N3.cell 1 _ rfl; obtain ⟨q3_2, _⟩ := N3.cell 2 _ rfl; obtain ⟨q3_3, _⟩ := N3.cell 3 _ rfl; obtain ⟨q3_4, _⟩ := N3.cell 4 _ rfl; obtain ⟨q3_5, _⟩ := N3.cell 5 _ rfl; obtain ⟨q3_6, _⟩ := N3.cell 6 _ rfl; obtain ⟨q3_7, _⟩ := N3.cell 7 _ rfl; have Z3 := N3.lt; clear hb3)
      | (go_at_call 105; refine (K4.out _).mono ?_; rintro e w4 ⟨rfl, hb4⟩; have B4 := Lib.hid (bl_trans B3.out hb4); have N4 := N0.out.below B4.out; obtain ⟨q4_0, _⟩ := N4.cell 0 _ rfl; obtain ⟨q4_1, _⟩ := N4.cell 1 _ rfl; obtain ⟨q4_2, _⟩ := N4.cell 2 _ rfl; obtain ⟨q4_3, _⟩ := N4.cell 3 _ rfl; obtain ⟨q4_4, _⟩ := N4.cell 4 _ rfl; obtain ⟨q4_5, _⟩ := N4.cell 5 _ rfl; obtain ⟨q4_6, _⟩ := N4.cell 6 _ rfl; obtain ⟨q4_7, _⟩ := N4.cell 7 _ rfl; have Z4 := N4.lt; clear hb4))
    go_ret
    exact ⟨ret_int (by rw [EP.out]; rfl), bl_trans BX.out B4.out⟩
  rcases b5 with _ | _
  rotate_left
  · go_enter Tryz.func148, Tryz.ntmps148
    go_wp2_with (first
      | (go_at_call 110; refine (K1.out _).mono ?_; rintro e w1 ⟨rfl, hb1⟩; have B1 := Lib.hid (hb1); have N1 := N0.out.below B1.out; obtain ⟨q1_0, _⟩ := N1.cell 0 _ rfl; obtain ⟨q1_1, _⟩ := N1.cell 1 _ rfl; obtain ⟨q1_2, _⟩ := N1.cell 2 _ rfl; obtain ⟨q1_3, _⟩ := N1.cell 3 _ rfl; obtain ⟨q1_4, _⟩ := N1.cell 4 _ rfl; obtain ⟨q1_5, _⟩ := N1.cell 5 _ rfl; obtain ⟨q1_6, _⟩ := N1.cell 6 _ rfl; obtain ⟨q1_7, _⟩ := N1.cell 7 _ rfl; have Z1 := N1.lt; clear hb1)
      | (go_at_call 109; refine (K2.out _).mono ?_; rintro e w2 ⟨rfl, hb2⟩; have B2 := Lib.hid (bl_trans B1.out hb2); have N2 := N0.out.below B2.out; obtain ⟨q2_0, _⟩ := N2.cell 0 _ rfl; obtain ⟨q2_1, _⟩ := N2.cell 1 _ rfl; obtain ⟨q2_2, _⟩ := N2.cell 2 _ rfl; obtain ⟨q2_3, _⟩ := N2.cell 3 _ rfl; obtain ⟨q2_4, _⟩ := N2.cell 4 _ rfl; obtain ⟨q2_5, _⟩ := N2.cell 5 _ rfl; obtain ⟨q2_6, _⟩ := N2.cell 6 _ rfl; obtain ⟨q2_7, _⟩ := N2.cell 7 _ rfl; have Z2 := N2.lt; clear hb2)
      | (go_at_call 106; refine (K3.out _).mono ?_; rintro e w3 ⟨rfl, hb3⟩; have B3 := Lib.hid (bl_trans B2.out hb3); have N3 := N0.out.below B3.out; obtain ⟨q3_0, _⟩ := N3.cell 0 _ rfl; obtain ⟨q3_1, _⟩ := N3.cell 1 _ rfl; obtain ⟨q3_2, _⟩ := N3.cell 2 _ rfl; obtain ⟨q3_3, _⟩ := N3.cell 3 _ rfl; obtain ⟨q3_4, _⟩ := N3.cell 4 _ rfl; obtain ⟨q3_5, _⟩ := N3.cell 5 _ rfl; obtain ⟨q3_6, _⟩ := N3.cell 6 _ rfl; obtain ⟨q3_7, _⟩ := N3.cell 7 _ rfl; have Z3 := N3.lt; clear hb3)
      | (go_at_call 105; refine (K4.out _).mono ?_; rintro e w4 ⟨rfl, hb4⟩; have B4 := Lib.hid (bl_trans B3.out hb4); have N4 := N0.out.below B4.out; obtain ⟨q4_0, _⟩ := N4.cell 0 _ rfl; obtain ⟨q4_1, _⟩ := N4.cell 1 _ rfl; obtain ⟨q4_2, _⟩ := N4.cell 2 _ rfl; obtain ⟨q4_3, _⟩ := N4.cell 3 _ rfl; obtain ⟨q4_4, _⟩ := N4.cell 4 _ rfl; obtain ⟨q4_5, _⟩ := N4.cell 5 _ rfl; obtain ⟨q4_6, _⟩ := N4.cell 6 _ rfl; obtain ⟨q4_7, _⟩ := N4.cell 7 _ rfl; have Z4 := N4.lt; clear hb4)
      | (go_at_call 104; refine (K5.out _).mono ?_; rintro e w5 ⟨rfl, hb5⟩; have B5 := Lib.hid (bl_trans B4.out hb5); have N5 := N0.out.below B5.out; obtain ⟨q5_0, _⟩ := N5.cell 0 _ rfl; obtain ⟨q5_1, _⟩ := N5.cell 1 _ rfl; obtain ⟨q5_2, _⟩ := N5.cell 2 _ rfl; obtain ⟨q5_3, _⟩ := N5.cell 3 _ rfl; obtain ⟨q5_4, _⟩ := N5.cell 4 _ rfl; obtain ⟨q5_5, _⟩ := N5.cell 5 _ rfl; obtain ⟨q5_6, _⟩ := N5.cell 6 _ rfl; obtain ⟨q5_7, _⟩ := N5.cell 7 _ rfl; have Z5 := N5.lt; clear hb5))
    go_ret
    exact ⟨ret_int (by rw [EP.out]; rfl), bl_trans BX.out B5.out⟩
  go_enter Tryz.func148, Tryz.ntmps148
  go_wp2_with (first
    | (go_at_call 110; refine (K1.out _).mono ?_; rintro e w1 ⟨rfl, hb1⟩; have B1 := Lib.hid (hb1); have N1 := N0.out.below B1.out; obtain ⟨q1_0, _⟩ := N1.cell 0 _ rfl; obtain ⟨q1_1, _⟩ := N1.cell 1 _ rfl; obtain ⟨q1_2, _⟩ := N1.cell 2 _ rfl; obtain ⟨q1_3, _⟩ := N1.cell 3 _ rfl; obtain ⟨q1_4, _⟩ := N1.cell 4 _ rfl; obtain ⟨q1_5, _⟩ := N1.cell 5 _ rfl; obtain ⟨q1_6, _⟩ := N1.cell 6 _ rfl; obtain ⟨q1_7, _⟩ := N1.cell 7 _ rfl; have Z1 := N1.lt; clear hb1)
    | (go_at_call 109; refine (K2.out _).mono ?_; rintro e w2 ⟨rfl, hb2⟩; have B2 := Lib.hid (bl_trans B1.out hb2); have N2 := N0.out.below B2.out; obtain ⟨q2_0, _⟩ := N2.cell 0 _ rfl; obtain ⟨q2_1, _⟩ := N2.cell 1 _ rfl; obtain ⟨q2_2, _⟩ := N2.cell 2 _ rfl; obtain ⟨q2_3, _⟩ := N2.cell 3 _ rfl; obtain ⟨q2_4, _⟩ := N2.cell 4 _ rfl; obtain ⟨q2_5, _⟩ := N2.cell 5 _ rfl; obtain ⟨q2_6, _⟩ := N2.cell 6 _ rfl; obtain ⟨q2_7, _⟩ := N2.cell 7 _ rfl; have Z2 := N2.lt; clear hb2)
    | (go_at_call 106; refine (K3.out _).mono ?_; rintro e w3 ⟨rfl, hb3⟩; have B3 := Lib.hid (bl_trans B2.out hb3); have N3 := N0.out.below B3.out; obtain ⟨q3_0, _⟩ := N3.cell 0 _ rfl; obtain ⟨q3_1, _⟩ := N3.cell 1 _ rfl; obtain ⟨q3_2, _⟩ := N3.cell 2 _ rfl; obtain ⟨q3_3, _⟩ := N3.cell 3 _ rfl; obtain ⟨q3_4, _⟩ := N3.cell 4 _ rfl; obtain ⟨q3_5, _⟩ := N3.cell 5 _ rfl; obtain ⟨q3_6, _⟩ := N3.cell 6 _ rfl; obtain ⟨q3_7, _⟩ := N3.cell 7 _ rfl; have Z3 := N3.lt; clear hb3)
    | (go_at_call 105; refine (K4.out _).mono ?_; rintro e w4 ⟨rfl, hb4⟩; have B4 := Lib.hid (bl_trans B3.out hb4); have N4 := N0.out.below B4.out; obtain ⟨q4_0, _⟩ := N4.cell 0 _ rfl; obtain ⟨q4_1, _⟩ := N4.cell 1 _ rfl; obtain ⟨q4_2, _⟩ := N4.cell 2 _ rfl; obtain ⟨q4_3, _⟩ := N4.cell 3 _ rfl; obtain ⟨q4_4, _⟩ := N4.cell 4 _ rfl; obtain ⟨q4_5, _⟩ := N4.cell 5 _ rfl; obtain ⟨q4_6, _⟩ := N4.cell 6 _ rfl; obtain ⟨q4_7, _⟩ := N4.cell 7 _ rfl; have Z4 := N4.lt; clear hb4)
    | (go_at_call 104; refine (K5.out _).mono ?_; rintro e w5 ⟨rfl, hb5⟩; have B5 := Lib.hid (bl_trans B4.out hb5); have N5 := N0.out.below B5.out; obtain ⟨q5_0, _⟩ := N5.cell 0 _ rfl; obtain ⟨q5_1, _⟩ := N5.cell 1 _ rfl; obtain ⟨q5_2, _⟩ := N5.cell 2 _ rfl; obtain ⟨q5_3, _⟩ := N5.cell 3 _ rfl; obtain ⟨q5_4, _⟩ := N5.cell 4 _ rfl; obtain ⟨q5_5, _⟩ := N5.cell 5 _ rfl; obtain ⟨q5_6, _⟩ := N5.cell 6 _ rfl; obtain ⟨q5_7, _⟩ := N5.cell 7 _ rfl; have Z5 := N5.lt; clear hb5))
  go_ret
  exact ⟨ret_int (by rw [EP.out]; rfl), bl_trans BX.out B5.out⟩

theorem run_arrR (b off c : Nat) (w : World) : (Instr.arrayAt 93 (.slice (some ⟨b, off, none⟩) 5 c)).run Tryz.prog w = .ok (.pointer (some ⟨b, off, none⟩)) w := by
  simp [Instr.arrayAt, run_underlying u53]

/-! The program's walks. -/
theorem kk_permL {rs L : List Int} (h : L.Perm rs) : kk L = kk rs := by
  rw [kk_eq, kk_eq, show piece L = piece rs from funext (fun p => by unfold piece; rw [occ_perm h])]
theorem rd_lit5 {w : World} {g : Nat} {t : TypeId} (x0 x1 x2 x3 x4 : Int) (vs : List Value) (h : Blk w g t ([.int .i64 x0, .int .i64 x1, .int .i64 x2, .int .i64 x3, .int .i64 x4] ++ vs)) : Rd w (some ⟨g, 0, none⟩) [x0, x1, x2, x3, x4] := fun _ => by
  refine ⟨g, 0, rfl, fun i hi => ?_⟩
  rw [Nat.zero_add]
  match i, hi with
  | 0, _ => exact (h.cell 0 _ rfl).1
  | 1, _ => exact (h.cell 1 _ rfl).1
  | 2, _ => exact (h.cell 2 _ rfl).1
  | 3, _ => exact (h.cell 3 _ rfl).1
  | 4, _ => exact (h.cell 4 _ rfl).1
set_option maxRecDepth 100000 in
set_option maxHeartbeats 4000000 in
theorem aceValue_any (xs : List Int) (w : World) (hb : cardsB xs = true) (h5 : xs.length = 5) :
    Calls Tryz.prog 146 #[.agg #[], aggI xs] w (Fresh (.int .i64 (aceS xs)) w) := by
  have hc := (cards_iff xs).1 hb
  have h4 := lrs_facts xs hb
  have hdp := descR_perm (lrs xs)
  have hdl : (descR (lrs xs)).length = 5 := by rw [descR_len, lrs_len, h5]
  have KS := Lib.hid (fun W => ranksShape_any (descR (lrs xs)) W (fun r hr => lrs_ok xs r (hdp.mem_iff.1 hr)) (fun r => by rw [occ_perm hdp]; exact h4 r) hdl)
  obtain ⟨hkl, hkr⟩ := kkl_facts xs hb h5
  rw [kk_permL hdp] at KS
  have KL := Lib.hid (fun (A : Option Addr) (c : Nat) (W : World) (h : Rd W A xs) => lowRanksOf_any A c xs W h (by omega) hc.1)
  have EF : Hid (aceS xs = patI (mostK (kk (lrs xs))) (nextK (kk (lrs xs))) * 371293 + digs (kk (lrs xs))) := Lib.hid (by
    unfold aceS
    rw [pat_same (lrs xs) (lrs_ok xs) h4 (by rw [lrs_len, h5])]
    omega)
  have hd := digs_allN (kk (lrs xs)) hkr (by omega)
  obtain ⟨x0, x1, x2, x3, x4, rfl⟩ := list_five xs h5
  generalize aceS [x0, x1, x2, x3, x4] = z at *
  generalize lrs [x0, x1, x2, x3, x4] = rs at *
  generalize mostK (kk rs) = m at *
  generalize nextK (kk rs) = n at *
  generalize kk rs = K at *
  obtain ⟨k0, k1, k2, k3, k4, rfl⟩ := list_five K hkl
  obtain ⟨d0, d1, d2, d3, d4, ed⟩ := list_five (descR rs) hdl
  rw [ed] at KS KL
  have KP := Lib.hid (fun W => lowPattern_any k0 k1 k2 k3 k4 m n false W)
  have KN : Hid (∀ (c g : Nat) (W : World), Rd W (some ⟨g, 0, none⟩) [k0, k1, k2, k3, k4] → Calls Tryz.prog 91 #[.slice (some ⟨g, 0, none⟩) 5 c] W (Same (.int .i64 (digs [k0, k1, k2, k3, k4])) W)) := Lib.hid (fun c g W h => numberOfN_any (some ⟨g, 0, none⟩) c [k0, k1, k2, k3, k4] W h (by simp) hkr)
  have hp := patI_bd m n
  generalize patI m n = p at *
  generalize digs [k0, k1, k2, k3, k4] = d at *
  have hsa := fun (g : Nat) (W' : World) => run_arrR g 0 5 W'
  have e1 : IntKind.i64.wrap (p * 371293) = p * 371293 := IntWalk.i64_in _ (by omega)
  have e2 : IntKind.i64.wrap (p * 371293 + d) = p * 371293 + d := IntWalk.i64_in _ (by omega)
  clear hc hb h4 hdp hdl hkl hkr h5 ed hp hd
  obtain ⟨w0, rfl⟩ : ∃ w0 : World, w0 = w := ⟨w, rfl⟩
  have N0 := Lib.hid (blk_new (w0.alloc (.cells #[] 71)) 58 (ints [x0, x1, x2, x3, x4]))
  rw [World.size_alloc] at N0
  have B0 := Lib.hid (bl_alloc (bl_alloc (bl_refl w0) (.cells #[] 71)) (.cells #[.int .i64 x0, .int .i64 x1, .int .i64 x2, .int .i64 x3, .int .i64 x4] 58))
  have R0 := Lib.hid (rd_lit5 x0 x1 x2 x3 x4 [] N0.out)
  unfold aggI at KS ⊢
  go_enter Tryz.func146, Tryz.ntmps146
  go_wp2_with (first
    | (go_at_call 147; refine (KL.out _ _ _ R0.out).mono ?_; rintro e w1 ⟨rfl, hk1, hb1⟩; have B1 := Lib.hid (bl_trans B0.out hb1); rw [World.size_alloc, World.size_alloc] at hk1; obtain ⟨y0, _⟩ := hk1.cell 0 _ rfl; obtain ⟨y1, _⟩ := hk1.cell 1 _ rfl; obtain ⟨y2, _⟩ := hk1.cell 2 _ rfl; obtain ⟨y3, _⟩ := hk1.cell 3 _ rfl; obtain ⟨y4, _⟩ := hk1.cell 4 _ rfl; clear hk1 hb1)
    | (go_at_call 97; refine (KS.out _).mono ?_; rintro e w2 ⟨rfl, hb2⟩; have B2 := Lib.hid (bl_trans B1.out hb2); clear hb2)
    | (refine wpList_store_blk 95 8 rfl (.tmp 5) (.tmp 10) rfl i55 w2.heap.size rfl (shapeL [k0, k1, k2, k3, k4] m n false) rfl rfl (shapeL_one _ _ _ _) _ (heap_alloc_new w2 _) rfl ?_))
  intro w3 hb3 hg3
  have N3 := Lib.hid hb3
  have B3 := Lib.hid (bl_blk (bl_alloc B2.out _) hg3 B2.out.size)
  clear hg3 hb3
  obtain ⟨g0, _⟩ := N3.out.cell 0 _ rfl
  obtain ⟨g1, _⟩ := N3.out.cell 1 _ rfl
  obtain ⟨g2, _⟩ := N3.out.cell 2 _ rfl
  obtain ⟨g3, _⟩ := N3.out.cell 3 _ rfl
  obtain ⟨g4, _⟩ := N3.out.cell 4 _ rfl
  obtain ⟨g5, _⟩ := N3.out.cell 5 _ rfl
  obtain ⟨g6, _⟩ := N3.out.cell 6 _ rfl
  obtain ⟨g7, _⟩ := N3.out.cell 7 _ rfl
  have hz3 := N3.out.lt
  have R3 := Lib.hid (rd_lit5 k0 k1 k2 k3 k4 [.int .i64 m, .int .i64 n, .bool false] N3.out)
  go_wp2_with fail
  go_region_with ((first
    | (go_at_call 148; refine (KP.out _).mono ?_; rintro e w4 ⟨rfl, hb4⟩; obtain ⟨hcw, hfw⟩ := bcell hb4)
    | (go_at_call 91; (first | (with_reducible refine (KN.out _ _ _ (R3.out.below (bl_drew (bl_refl _)))).mono ?_) | (with_reducible refine (KN.out _ _ _ (R3.out.below (bl_trans (bl_drew (bl_refl _)) hb4))).mono ?_) | (with_reducible refine (KN.out _ _ _ R3.out).mono ?_)); rintro e w5 ⟨rfl, rfl⟩)))
  all_goals
    go_wp2_with fail
    go_ret
    exact ⟨ret_int EF.out.symm, bl_trans B3.out (bl_trans (bl_drew (bl_refl _)) hb4)⟩
end Go.Proofs.YtlpkaflmhdgmmaaGreatDoor

/-! The deuce-to-seven value of five cards, of both; the test of eight or better, of both. -/
namespace Go.Proofs.YtlpkaflmhdgmmaaGreatDoor
open Go.RowKit
set_option linter.unusedVariables false

/-- The deuce-to-seven value, in the model's words. -/
def duS (xs : List Int) : Int := if strT (rk xs) = 3 then 371293 * (if flushB xs = true then 5 else 0) + 349674 else hv xs
theorem kk_wheel (rs : List Int) (h : ranksOk rs) (h4 : ∀ r, occ rs r ≤ 4) (hl : rs.length = 5) : kk rs ≠ [3, 2, 1, 0, 12] := by
  intro e
  obtain ⟨a, b, c, d, x, q, hs, hp⟩ := shape_kk rs h h4 hl
  rw [e] at q
  injection q with q0 q; injection q with q1 q; injection q with q2 q; injection q with q3 q; injection q with q4 q
  cases hs <;> omega
theorem du_same (xs : List Int) (hb : cardsB xs = true) (h5 : xs.length = 5) :
    371293 * catI (kk (rk xs)) (mostK (kk (rk xs))) (nextK (kk (rk xs))) (flushB xs) + digs (kk (rk xs)) = duS xs := by
  obtain ⟨hrk, h4⟩ := rk_facts xs hb
  have h5' : (rk xs).length = 5 := by unfold rk; rw [List.length_map]; exact h5
  obtain ⟨_, e2, e3⟩ := five_facts (rk xs) hrk h4 h5'
  have e4 := cat_same (rk xs) (flushB xs) hrk h4 h5'
  have en := kk_wheel (rk xs) hrk h4 h5'
  unfold duS
  by_cases hw : kk (rk xs) = [12, 3, 2, 1, 0]
  · have hk : lowK (kk (rk xs)) = [3, 2, 1, 0, 12] := by unfold lowK; rw [if_pos hw]
    have hs : strT (rk xs) = 3 := by
      by_cases h : strT (rk xs) = 3
      · exact h
      · rw [hk] at e2
        unfold kickS at e2
        rw [if_neg h, hw] at e2
        exact absurd e2 (by decide)
    rw [if_pos hs, hw]
    cases flushB xs <;> decide
  · have hk : lowK (kk (rk xs)) = kk (rk xs) := by unfold lowK; rw [if_neg hw]
    have hs : strT (rk xs) ≠ 3 := by
      intro h
      rw [hk] at e2
      unfold kickS at e2
      rw [if_pos h] at e2
      exact en e2
    rw [if_neg hs]
    rw [hk] at e4
    unfold hv
    rw [← e4]
    unfold kickS
    rw [if_neg hs]
theorem duS_bd (xs : List Int) (hb : cardsB xs = true) (h5 : xs.length = 5) : 0 ≤ duS xs ∧ duS xs ≤ 4000000 := by
  unfold duS
  split
  · split <;> omega
  · have := hv_bd xs hb h5
    omega

set_option maxRecDepth 100000 in
set_option maxHeartbeats 4000000 in
theorem deuceValue_any (xs : List Int) (hb : cardsB xs = true) (h5 : xs.length = 5) (B : Nat) (wt w : World) (ht : Hid (Low B wt)) (hB : Hid (Below B wt w)) (hBw : Hid (B ≤ w.heap.size)) :
    Calls Tryz.prog 151 #[.agg #[], aggI xs] w (Fresh (.int .i64 (duS xs)) w) := by
  obtain ⟨hrk, h4⟩ := rk_facts xs hb
  have h5' : (rk xs).length = 5 := by unfold rk; rw [List.length_map]; exact h5
  have hp := kk_perm (rk xs) hrk h4
  obtain ⟨k0, k1, k2, k3, k4, ek⟩ := list_five (kk (rk xs)) (by rw [hp.length_eq]; exact h5')
  have hr : ranksOk [k0, k1, k2, k3, k4] := by rw [← ek]; exact fun r hq => hrk r (hp.subset hq)
  have EV : Hid (duS xs = 371293 * catI [k0, k1, k2, k3, k4] (mostK (kk (rk xs))) (nextK (kk (rk xs))) (flushB xs) + digs [k0, k1, k2, k3, k4]) := Lib.hid (by rw [← du_same xs hb h5, ek])
  have K1 := Lib.hid (fun (W : World) => (cardsShape_any xs W hb h5 h4 hrk).mono (fun _ _ h => shapeLit_of h ek))
  have K2 := Lib.hid (fun (W : World) (hb' : Below w.heap.size w W) => value_any k0 k1 k2 k3 k4 (mostK (kk (rk xs))) (nextK (kk (rk xs))) (flushB xs) B wt W ht (Lib.hid (hB.out.trans (hb'.mono hBw.out))) (Lib.hid (Nat.le_trans hBw.out hb'.size)) hr)
  have B1 := Lib.hid (bl_alloc (bl_alloc (bl_refl w) (.cells #[] 92)) (.cells (ints xs).toArray 58))
  have HX := Lib.hid (blk_new (w.alloc (.cells #[] 92)) 58 (ints xs))
  rw [World.size_alloc] at HX
  have L5 : Hid ((ints xs).length = 5) := Lib.hid (by rw [ints_length]; exact h5)
  generalize flushB xs = fl at *
  generalize mostK (kk (rk xs)) = m at *
  generalize nextK (kk (rk xs)) = n at *
  generalize duS xs = z at *
  clear hb h5 hrk h4 h5' hp ek hr ht hB hBw
  unfold aggI at *
  go_enter Tryz.func151, Tryz.ntmps151
  go_wp2_with (first
    | (with_reducible refine wpList_load_blk 58 _ 5 rfl (.tmp 3) rfl u51 rfl i51 (w.heap.size + 1) 0 rfl (ints xs) L5.out HX.out.range ?_)
    | (go_at_call 88; refine (K1.out _).mono ?_; rintro e w5 ⟨rfl, hb5⟩; have B5 := Lib.hid (bl_trans B1.out hb5); clear hb5)
    | (go_at_call 65; refine (K2.out _ B5.out).mono ?_; rintro e w6 ⟨rfl, hb6⟩; have B6 := Lib.hid (bl_trans B5.out hb6); clear hb6))
  go_ret
  exact ⟨ret_int EV.out.symm, B6.out⟩

set_option maxRecDepth 100000 in
set_option maxHeartbeats 4000000 in
theorem l05Deuce_any (A : Option Addr) (c : Nat) (xs : List Int) (w : World) (hr : Rd w A xs) (h5 : xs.length = 5) (hb : cardsB xs = true) :
    Calls Tryz.prog 60 #[.slice A 5 c] w (Fresh (.int .i64 (duS xs)) w) := by
  have h4 := (rk_facts xs hb).2
  have K1 := Lib.hid (cnt13_any A c xs w hr (by omega) hb)
  rw [h5] at K1
  by_cases hT : strT (rk xs) = 3
  · have x0 := ((cards_iff xs).1 hb).1 (nth xs 0) (nth_mem xs 0 (by omega))
    obtain ⟨y, ey⟩ : ∃ y : Nat, nth xs 0 = (y : Int) := ⟨(nth xs 0).toNat, by omega⟩
    have KS := Lib.hid (fun (W : World) (h : Below w.heap.size w W) => cntS_any A c xs (y % 4) W (hr.below h) (by omega) hb (by omega))
    rw [h5] at KS
    have EF : flushB xs = decide (cnt (fun x => x % 4 == ((y % 4 : Nat) : Int)) xs = 5) := by unfold flushB; rw [ey]; rfl
    obtain ⟨b0, off0, rfl, hc0⟩ := hr (by omega)
    have hc0 := hc0 0 (by omega)
    rw [ey, Nat.add_zero] at hc0
    have HC0 := Lib.hid hc0
    have KD : Hid (∀ (g : Nat) (t : TypeId) (W : World), Blk W g t (ints [12, 3, 2, 1, 0]) → Calls Tryz.prog 80 #[.slice (some ⟨g, 0, none⟩) 5 5] W (Same (.int .i64 349674) W)) :=
      Lib.hid (fun g t W h => l04Digits_any (some ⟨g, 0, none⟩) 5 [12, 3, 2, 1, 0] W (rd_lit5 12 3 2 1 0 [] h) rfl (fun r hq => by simp at hq; omega))
    have KT := Lib.hid (fun (A1 : Option Addr) (c1 : Nat) (W : World) (h : Rd W A1 (occL (rk xs))) => l04Straight_any A1 c1 (rk xs) W h)
    rw [hT] at KT
    have hy : y < 52 := by omega
    by_cases hf : cnt (fun x => x % 4 == ((y % 4 : Nat) : Int)) xs = 5
    all_goals
      have EV : Hid (duS xs = 371293 * (if decide (cnt (fun x => x % 4 == ((y % 4 : Nat) : Int)) xs = 5) = true then 5 else 0) + 349674) := Lib.hid (by unfold duS; rw [if_pos hT, EF])
      generalize duS xs = z at *
      generalize cnt (fun x => x % 4 == ((y % 4 : Nat) : Int)) xs = nf at *
      generalize rk xs = rs at *
      clear hb h4 x0 ey EF hT hc0 hr h5
      go_enter Tryz.func60, Tryz.ntmps60
      go_wp2_with (first
        | (go_at_call 85; refine K1.out.mono ?_; rintro e w1 ⟨A1, c1, rfl, hr1, hb1⟩; have R1 := Lib.hid hr1; have B1 := Lib.hid hb1; clear hr1 hb1)
        | (go_at_call 86; refine (KT.out A1 c1 _ R1.out).mono ?_; rintro e w2 ⟨rfl, rfl⟩))
      have hc1 := (B1.out.cell (p := ⟨b0, off0, none⟩) (World.block_lt_of_cell? _ _ HC0.out)).trans HC0.out
      have e1 : (y : Int).tmod 4 = ((y % 4 : Nat) : Int) := by rw [Int.tmod_eq_emod_of_nonneg (by omega)]; rfl
      have e2 : (((y % 4 : Nat) : Int)).toNat = y % 4 := rfl
      have e3 : ((y % 4 : Nat) : Int) < 4 := by omega
      have hb0 : b0 < w1.heap.size := World.block_lt_of_cell? _ _ hc1
      go_region_with ((go_at_call 87; (first | (with_reducible refine (KS.out _ B1.out).mono ?_) | (with_reducible refine (KS.out _ (bl_drew B1.out)).mono ?_) | (with_reducible refine (KS.out _ (bl_drewN B1.out _)).mono ?_)); rintro e w3 ⟨b3, c3, rfl, hc3, hz3, hb3⟩; have hc4 := (hb3.cell (p := ⟨b0, off0, none⟩) hb0).trans hc1))
      all_goals
        go_wp2_with (go_at_call 80; refine (KD.out _ _ _ (blk_new _ _ (ints [12, 3, 2, 1, 0]))).mono ?_; rintro e w4 ⟨rfl, rfl⟩)
        go_ret
        exact ⟨ret_int (by rw [EV.out]; simp [hf]), bl_alloc (bl_trans B1.out (bl_trans (bl_drew (bl_refl _)) hb3)) _⟩
  · have EV : Hid (duS xs = hv xs) := Lib.hid (by unfold duS; rw [if_neg hT])
    have KV := Lib.hid (fun (W : World) (h : Below w.heap.size w W) => l04Value_any A c xs W (hr.below h) h5 hb)
    obtain ⟨st, est⟩ : ∃ st, st = strT (rk xs) := ⟨_, rfl⟩
    have KT := Lib.hid (fun (A1 : Option Addr) (c1 : Nat) (W : World) (h : Rd W A1 (occL (rk xs))) => l04Straight_any A1 c1 (rk xs) W h)
    rw [← est] at KT hT
    have hst : (st == 3) = false := by simpa using hT
    clear est hT
    generalize rk xs = rs at *
    generalize duS xs = z at *
    generalize hv xs = z2 at *
    clear hr hb h4
    go_enter Tryz.func60, Tryz.ntmps60
    go_wp2_with (first
      | (go_at_call 85; refine K1.out.mono ?_; rintro e w1 ⟨A1, c1, rfl, hr1, hb1⟩; have R1 := Lib.hid hr1; have B1 := Lib.hid hb1; clear hr1 hb1)
      | (go_at_call 86; refine (KT.out A1 c1 _ R1.out).mono ?_; rintro e w2 ⟨rfl, rfl⟩)
      | (go_at_call 58; refine (KV.out _ B1.out).mono ?_; rintro e w3 ⟨rfl, hb3⟩; have B3 := Lib.hid (bl_trans B1.out hb3); clear hb3))
    go_ret
    exact ⟨ret_int EV.out.symm, B3.out⟩

/-! Eight or better. -/
def eightB (n : Int) : Bool := inB n 0 228487
theorem inE6 {n : Int} : (inB n 0 228487 = true ∧ 0 ≤ n ∧ n ≤ 228487) ∨ (inB n 0 228487 = false ∧ outB n 0 228487) := by
  by_cases h : 0 ≤ n ∧ n ≤ 228487
  · exact .inl ⟨inB_yes n _ _ h.1 h.2, h⟩
  · have ho : outB n 0 228487 := by unfold outB; omega
    exact .inr ⟨outB_inB _ _ _ ho, ho⟩
set_option maxRecDepth 100000 in
set_option maxHeartbeats 1000000 in
theorem specEight6_any (n : Int) (w : World) : Calls Tryz.prog 61 #[.int .i64 n] w (Same (.bool (eightB n)) w) := by
  unfold eightB
  have K := Lib.hid (specIn_any n 0 228487)
  go_enter Tryz.func61, Tryz.ntmps61
  go_wp2_with (go_at_call 77; refine (K.out _).mono ?_; rintro e w1 ⟨rfl, rfl⟩)
  go_ret
  exact ⟨rfl, rfl⟩
set_option maxRecDepth 100000 in
set_option maxHeartbeats 1000000 in
theorem implEight6_any (n : Int) (w : World) : Calls Tryz.prog 53 #[.int .i64 n] w (Same (.bool (eightB n)) w) := by
  unfold eightB
  rcases inE6 (n := n) with ⟨hd, h0, h1⟩ | ⟨hd, ho⟩
  · rw [hd]
    clear hd
    go_enter Tryz.func53, Tryz.ntmps53
    go_wp2_with fail
    go_ret
    exact ⟨ret_bool (by simp; omega), rfl⟩
  · rw [hd]
    clear hd
    unfold outB at ho
    by_cases h0 : 0 ≤ n
    · go_enter Tryz.func53, Tryz.ntmps53
      go_wp2_with fail
      go_ret
      exact ⟨ret_bool (by simp; omega), rfl⟩
    · go_enter Tryz.func53, Tryz.ntmps53
      go_wp2_with fail
      go_ret
      exact ⟨ret_bool (by first | rfl | (simp; omega)), rfl⟩
end Go.Proofs.YtlpkaflmhdgmmaaGreatDoor
