/-
  The model's low ranks, their counts, the ranks in the order of kickers, the pattern, and the ace-to-five value of five cards.
-/
import Derived.Test.YtajkgnheijhbpaaLowPure
import Derived.Test.YtajkgnheijhbpaaSpecH
import Derived.Deep.RegionHeld3
import Derived.Deep.RegionWith
import Derived.Deep.DeepCutAuto
namespace Go.Proofs.Ytajkgnheijhbpaa
open Go.RowKit
set_option linter.unusedVariables false

theorem lr_tmod (x : Int) (h0 : 0 ≤ x) : (x / 4 + 1).tmod 13 = lr x := by unfold lr; exact Int.tmod_eq_emod_of_nonneg (by omega)
set_option maxHeartbeats 400000 in
theorem l05Rank_any (x : Int) (w : World) (h0 : 0 ≤ x) (h1 : x < 52) :
    Calls Try.prog 89 #[.int .i64 x] w (Same (.int .i64 (lr x)) w) := by
  have H := Lib.hid (lr_tmod x h0)
  go_enter Try.func89, Try.ntmps89
  go_wp2
  go_ret
  exact ⟨ret_int rfl, rfl⟩
theorem occ_lrs (xs : List Int) (r : Int) : occ (lrs xs) r = cnt (fun x => lr x == r) xs := by
  unfold occ cnt lrs
  rw [List.filter_map, List.length_map]
  rfl
theorem cntL_lrs (xs : List Int) : cntL 13 lr xs = occL (lrs xs) := by
  unfold cntL occL
  simp only [occ_lrs]
set_option maxRecDepth 100000 in
set_option maxHeartbeats 1000000 in
theorem l05Counts_any (A : Option Addr) (c : Nat) (xs : List Int) (w : World) (hr : Rd w A xs) (hn : xs.length ≤ 4000000) (hb : cardsB xs = true) :
    Calls Try.prog 94 #[.slice A xs.length c] w (Cnt13 (lrs xs) w) := by
  obtain ⟨i0, hi, hz0, hz1, hz2⟩ := info_parts infoInt
  have HR := Lib.hid hr
  have HB := Lib.hid ((cards_iff xs).1 hb).1
  clear hr hb
  obtain ⟨w0, rfl⟩ : ∃ w0 : World, w0 = w := ⟨w, rfl⟩
  go_enter Try.func94, Try.ntmps94
  go_wp2_with (at_make; refine wpList_make_full _ rfl _ _ 24 rfl w0.heap.size 2 i0 (.int .i64 0) 1 Try.underlying24 hi hz0 hz1 .i64 .i64 _ _ 13 rfl rfl rfl rfl ?c1 ?c2 (Nat.le_refl _) ?_)
  case c1 => rw [hz2]; omega
  case c2 => unfold maxLen; omega
  intro w1 hown hgrow
  have HS : Hid (Counted w0 13 lr (xs.take 0) w1) := Lib.hid ⟨by
    have e : (madeCells #[Value.int .i64 0] 13).toList = ints (cntL 13 lr (xs.take 0)) := by
      rw [List.take_zero, cntL_nil, ← ints_zeros]; exact toList_madeCells_one _ _
    rwa [e] at hown, (bl_refl _).grown hgrow (Nat.le_refl _) (fun j hj => by cases hj)⟩
  clear hown hgrow
  go_wp2_with fail
  go_loopw [4] (fun i wr => ∃ k : Nat, k ≤ xs.length ∧ i = .int .i64 k ∧ Hid (Counted w0 13 lr (xs.take k) wr)) (fun i _ => xs.length - (intOf i).toNat)
  case atStart => exact ⟨0, Nat.zero_le _, rfl, HS⟩
  case round =>
    obtain ⟨k, hk, rfl, hs⟩ := hrel
    by_cases hlt : k < xs.length
    · obtain ⟨b, off, rfl, hc⟩ := HR.out.at_ hs.out.2 k hlt
      have hlt' : (k : Int) < xs.length := by omega
      have HC := Lib.hid (take_nth xs k hlt)
      have hx := HB.out _ (nth_mem xs k hlt)
      obtain ⟨x, ex⟩ : ∃ x, x = nth xs k := ⟨_, rfl⟩
      rw [← ex] at hc HC hx
      clear ex
      have KR := Lib.hid (fun W => l05Rank_any x W hx.1 hx.2)
      have hbd := lr_bd x
      obtain ⟨q, eq⟩ : ∃ q : Nat, lr x = (q : Int) := ⟨(lr x).toNat, by omega⟩
      have EQ := Lib.hid eq
      rw [eq] at KR hbd
      have hq : q < 13 := by omega
      have hq' : (q : Int) < 13 := by omega
      obtain ⟨hg, hf⟩ := counted_cell hs.out q hq
      have hle : cnt (fun z => lr z == (q : Int)) (xs.take k) ≤ 4000000 := Nat.le_trans (cnt_le _ _) (by rw [List.length_take]; omega)
      obtain ⟨p, ep⟩ : ∃ p, p = cnt (fun z => lr z == (q : Int)) (xs.take k) := ⟨_, rfl⟩
      rw [← ep] at hg hle
      have EP := Lib.hid ep
      clear ep eq hx hbd
      go_wp2_with (go_at_call 89; refine (KR.out _).mono ?_; rintro e w2 ⟨rfl, rfl⟩)
      go_roundw
      case rel => exact ⟨k + 1, by omega, by go_num, Lib.hid (by rw [HC.out]; have := counted_step hs.out q hq EQ.out; rw [← EP.out] at this; exact this)⟩
      case measure => simp [intOf]; omega
    · obtain rfl : k = xs.length := by omega
      go_wp2_with fail
      go_ret
      have h := hs.out
      unfold Counted at h
      rw [take_len, cntL_lrs] at h
      have ho : Own wr w0.heap.size (.slice (some ⟨w0.heap.size, 0, none⟩) (occL (lrs xs)).length 13) (occL (lrs xs)) := by unfold Own; rw [occL_length]; exact h.1
      exact ⟨some ⟨w0.heap.size, 0, none⟩, 13, rfl, ho.rd, h.2⟩

set_option maxRecDepth 100000 in
set_option maxHeartbeats 2000000 in
theorem l05Ordered_any (A1 : Option Addr) (c1 : Nat) (rs : List Int) (w1 : World) (hr : Rd w1 A1 (occL rs)) :
    Calls Try.prog 96 #[.slice A1 13 c1] w1 (NewL (kk rs) w1) := by
  obtain ⟨i0, hi, hz0, hz1, hz2⟩ := info_parts infoInt
  have R1 := Lib.hid hr
  clear hr
  have EK : Hid (kk rs = runK rs 52) := Lib.hid rfl
  go_enter Try.func96, Try.ntmps96
  go_wp2_with fail
  go_loopw [3, 4] (fun v n wr => ∃ j : Nat, j ≤ 4 ∧ n = .int .i64 j ∧ Hid (Grow w1 (runK rs ((4 - j) * 13)) v wr)) (fun _ n _ => (intOf n).toNat)
  case atStart => exact ⟨4, Nat.le_refl _, rfl, Lib.hid (grow_start w1)⟩
  case round =>
    obtain ⟨j0, hj, rfl, HS⟩ := hrel
    rcases j0 with _ | j
    · obtain ⟨A', c', rfl, hO⟩ := own_form HS.out.1
      have HO := Lib.hid hO
      clear hO
      go_wp2_with fail
      go_ret
      rw [EK.out]
      exact ⟨_, _, rfl, HO.out, HS.out.2⟩
    · have hj' : ((j + 1 : Nat) : Int) = (j : Int) + 1 := by omega
      rw [hj']
      clear hj'
      have hj1 : (1 : Int) ≤ (j : Int) + 1 := by omega
      go_wp2_with fail
      go_loopw [3, 5] (fun v r wr => ∃ q : Nat, q ≤ 13 ∧ r = .int .i64 ((q : Int) - 1) ∧ Hid (Grow w1 (runK rs ((4 - (j + 1)) * 13 + (13 - q))) v wr)) (fun _ r _ => (intOf r + 1).toNat)
      case atStart => exact ⟨13, Nat.le_refl _, rfl, HS⟩
      case round =>
        obtain ⟨q0, hq, rfl, HS⟩ := hrel
        rcases q0 with _ | q
        · go_wp2_with fail
          go_roundw
          case rel => exact ⟨j, by omega, by go_num, by
            have e : (4 - j) * 13 = (4 - (j + 1)) * 13 + (13 - 0) := by omega
            rw [e]; exact HS⟩
          case measure => simp [intOf] <;> omega
        · have hx : ((q + 1 : Nat) : Int) - 1 = (q : Int) := by omega
          rw [hx]
          have hq0 : (0 : Int) ≤ (q : Int) := by omega
          have HX := Lib.hid (runK_step rs j q (by omega) (by omega))
          have hl := runK_len rs ((4 - (j + 1)) * 13 + (13 - (q + 1)))
          generalize runK rs ((4 - (j + 1)) * 13 + (13 - (q + 1))) = ys at *
          obtain ⟨b, off, rfl, hcc⟩ := occL_at (R1.out.below (bl_refl _))
          have hc1 := Lib.hid (hcc q (by omega))
          clear hcc
          by_cases ho : occ rs (q : Int) = j + 1
          · rw [piece_yes rs (j + 1) q ho] at HX
            have hj' : ((j + 1 : Nat) : Int) = (j : Int) + 1 := by omega
            rw [ho, hj'] at hc1
            clear hj'
            clear ho
            go_wp2_with fail
            go_loopw [3, 6] (fun v i wx => ∃ k : Nat, k ≤ j + 1 ∧ i = .int .i64 k ∧ Hid (Grow w1 (ys ++ List.replicate k (q : Int)) v wx)) (fun _ i _ => j + 1 - (intOf i).toNat)
            case atStart => exact ⟨0, by omega, rfl, by rw [List.replicate_zero, List.append_nil]; exact HS⟩
            case round =>
              obtain ⟨k, hk, rfl, HG⟩ := hrel
              have hcell := HG.out.2.cell (p := ⟨b, off + q, none⟩) (World.block_lt_of_cell? _ _ hc1.out)
              rw [hc1.out] at hcell
              by_cases hlt : k < j + 1
              · have hlt' : (k : Int) < (j : Int) + 1 := by omega
                have hlen : (ys ++ List.replicate k (q : Int)).length ≤ 4 * 52 + 4 := by rw [List.length_append, List.length_replicate]; omega
                have HR := Lib.hid (rep_snoc k (q : Int))
                obtain ⟨zs, ez⟩ : ∃ zs, zs = ys ++ List.replicate k (q : Int) := ⟨_, rfl⟩
                rw [← ez] at HG hlen
                have EZ := Lib.hid ez
                clear ez
                go_wp2_with (at_builtin; refine wpList_append_own _ rfl _ _ 24 rfl w1.heap.size 2 i0 (.int .i64 0) 1 8 Try.underlying24 hi hz0 hz1 hz2 rfl (by decide) _ _ _ rfl (HG.out.1.alloc _) ⟨wr.heap.size, 0, none⟩ 1 1 [.int .i64 q] rfl rfl ?c1 ?c2 ?c3 ?c4 ?c5 ?_)
                case c1 =>
                  intro j' u hj'
                  match j', hj' with
                  | 0, hj' => simp at hj'; subst hj'; simp [Addr.add]
                case c2 => intro u hu; simp at hu; subst hu; rfl
                case c3 => unfold maxLen; omega
                case c4 => omega
                case c5 => have := HG.out.2.size; simp; omega
                intro v' w4 hown' hgrow _
                have HG2 := Lib.hid (grow_app HG.out hown' hgrow)
                clear hown' hgrow
                go_wp2_with fail
                go_roundw
                case rel => exact ⟨k + 1, by omega, by go_num, by rw [HR.out, ← List.append_assoc, ← EZ.out]; exact HG2⟩
                case measure => simp [intOf] <;> omega
              · obtain rfl : k = j + 1 := by omega
                go_wp2_with fail
                go_roundw
                case rel => exact ⟨q, by omega, by go_num, by rw [HX.out]; exact HG⟩
                case measure => simp [intOf] <;> omega
          · rw [piece_no rs (j + 1) q ho, List.append_nil] at HX
            have ho' : (((occ rs (q : Int) : Nat) : Int) == (j : Int) + 1) = false := by simp; omega
            clear ho
            generalize ((occ rs (q : Int) : Nat) : Int) = y at *
            go_wp2_with fail
            go_loopw [3, 6] (fun v i wx => i = .int .i64 0 ∧ Hid (Grow w1 ys v wx)) (fun _ i _ => 0)
            case atStart => exact ⟨rfl, HS⟩
            case round =>
              obtain ⟨rfl, HG⟩ := hrel
              have hcell := HG.out.2.cell (p := ⟨b, off + q, none⟩) (World.block_lt_of_cell? _ _ hc1.out)
              rw [hc1.out] at hcell
              have hj0 : (0 : Int) < (j : Int) + 1 := by omega
              go_wp2_with fail
              go_roundw
              case rel => exact ⟨q, by omega, by go_num, by rw [HX.out]; exact HG⟩
              case measure => simp [intOf] <;> omega

/-- The pattern, out of the numbers. -/
def pat4 (m4 m3 m2 : Nat) : Int := if m4 = 1 then 5 else if m3 = 1 ∧ m2 = 1 then 4 else if m3 = 1 then 3 else (m2 : Int)
set_option maxRecDepth 100000 in
set_option maxHeartbeats 4000000 in
theorem l05Pattern_any (A1 : Option Addr) (c1 : Nat) (rs : List Int) (w1 : World) (hr : Rd w1 A1 (occL rs)) (h4 : ∀ r, occ rs r ≤ 4) :
    Calls Try.prog 95 #[.slice A1 13 c1] w1 (Fresh (.int .i64 (patS rs)) w1) := by
  obtain ⟨i0, hi, hz0, hz1, hz2⟩ := info_parts infoInt
  have R1 := Lib.hid hr
  have HO := Lib.hid (occL_bd rs h4)
  clear hr h4
  go_enter Try.func95, Try.ntmps95
  go_wp2_with (at_make; refine wpList_make_full _ rfl _ _ 24 rfl w1.heap.size 2 i0 (.int .i64 0) 1 Try.underlying24 hi hz0 hz1 .i64 .i64 _ _ 5 rfl rfl rfl rfl ?c1 ?c2 (Nat.le_refl _) ?_)
  case c1 => rw [hz2]; omega
  case c2 => unfold maxLen; omega
  intro w2 hown hgrow
  have HS : Hid (Counted w1 5 (fun y => y) ((occL rs).take 0) w2) := Lib.hid ⟨by
    have e : (madeCells #[Value.int .i64 0] 5).toList = ints (cntL 5 (fun y => y) ((occL rs).take 0)) := by
      rw [List.take_zero, cntL_nil, ← ints_zeros]; exact toList_madeCells_one _ _
    rwa [e] at hown, (bl_refl _).grown hgrow (Nat.le_refl _) (fun j hj => by cases hj)⟩
  clear hown hgrow
  go_wp2_with fail
  go_loopw [4] (fun i wr => ∃ k : Nat, k ≤ 13 ∧ i = .int .i64 k ∧ Hid (Counted w1 5 (fun y => y) ((occL rs).take k) wr)) (fun i _ => 13 - (intOf i).toNat)
  case atStart => exact ⟨0, Nat.zero_le _, rfl, HS⟩
  case round =>
    obtain ⟨k, hk, rfl, hs⟩ := hrel
    by_cases hlt : k < 13
    · obtain ⟨b, off, rfl, hc⟩ := R1.out.at_ hs.out.2 k (by rw [occL_length]; exact hlt)
      have hlt' : (k : Int) < 13 := by omega
      have HC := Lib.hid (take_nth (occL rs) k (by rw [occL_length]; exact hlt))
      obtain ⟨q, eq, hq⟩ := HO.out k hlt
      rw [eq] at hc HC
      clear eq
      obtain ⟨hg, hf⟩ := counted_cell hs.out q hq
      have hle : cnt (fun z => (fun y : Int => y) z == (q : Int)) ((occL rs).take k) ≤ 13 := Nat.le_trans (cnt_le _ _) (by rw [List.length_take]; omega)
      obtain ⟨p, ep⟩ : ∃ p, p = cnt (fun z => (fun y : Int => y) z == (q : Int)) ((occL rs).take k) := ⟨_, rfl⟩
      rw [← ep] at hg hle
      have EP := Lib.hid ep
      clear ep
      go_wp2_with fail
      go_roundw
      case rel => exact ⟨k + 1, by omega, by go_num, Lib.hid (by rw [HC.out]; have := counted_step hs.out q hq rfl; rw [← EP.out] at this; exact this)⟩
      case measure => simp [intOf]; omega
    · obtain rfl : k = 13 := by omega
      have hs := hs.out
      rw [List.take_of_length_le (by rw [occL_length]; omega)] at hs
      obtain ⟨g2, g3, g4⟩ := manyAt_of hs
      have HB := Lib.hid hs.2
      clear hs
      have CS : Hid (patS rs = pat4 (many rs 4) (many rs 3) (many rs 2)) := Lib.hid rfl
      generalize many rs 2 = m2 at *
      generalize many rs 3 = m3 at *
      generalize many rs 4 = m4 at *
      generalize patS rs = z at *
      clear i0 hi hz0 hz1 hz2
      go_wp2_with fail
      all_goals
        go_ret
        refine ⟨ret_int ?_, HB.out⟩
        rw [CS.out]
        clear CS HB HO HS R1
        unfold pat4
        try simp only [beq_eq_false_iff_ne, ne_eq, beq_iff_eq] at *
        repeat' split
        all_goals first | rfl | omega

/-- The ace-to-five value, in the model's words. -/
def aceS (xs : List Int) : Int := 371293 * patS (lrs xs) + digs (kk (lrs xs))
theorem lrs_facts (xs : List Int) (hb : cardsB xs = true) : ∀ r, occ (lrs xs) r ≤ 4 := by
  obtain ⟨h1, h2⟩ := rk_facts xs hb
  exact lrs_occ xs (rk xs) rfl h2 h1
theorem kkl_facts (xs : List Int) (hb : cardsB xs = true) (h5 : xs.length = 5) : (kk (lrs xs)).length = 5 ∧ ranksOk (kk (lrs xs)) := by
  have hp := kk_perm (lrs xs) (lrs_ok xs) (lrs_facts xs hb)
  exact ⟨by rw [hp.length_eq, lrs_len, h5], fun r hr => lrs_ok xs r (hp.mem_iff.1 hr)⟩
theorem aceS_bd (xs : List Int) (hb : cardsB xs = true) (h5 : xs.length = 5) : 0 ≤ aceS xs ∧ aceS xs ≤ 2227757 := by
  have hp := pat_bd (lrs xs) (lrs_ok xs) (lrs_facts xs hb) (by rw [lrs_len, h5])
  obtain ⟨hl, hk⟩ := kkl_facts xs hb h5
  have hd := digs_le _ hk hl 5 (Nat.le_refl _)
  rw [← hl, take_len] at hd
  unfold aceS
  omega
set_option maxRecDepth 100000 in
set_option maxHeartbeats 2000000 in
theorem l05Ace_any (A : Option Addr) (c : Nat) (xs : List Int) (w : World) (hr : Rd w A xs) (h5 : xs.length = 5) (hb : cardsB xs = true) :
    Calls Try.prog 59 #[.slice A 5 c] w (Fresh (.int .i64 (aceS xs)) w) := by
  have K1 := Lib.hid (l05Counts_any A c xs w hr (by omega) hb)
  rw [h5] at K1
  obtain ⟨hl, hk⟩ := kkl_facts xs hb h5
  have hp := pat_bd (lrs xs) (lrs_ok xs) (lrs_facts xs hb) (by rw [lrs_len, h5])
  have h4 := lrs_facts xs hb
  have hd := digs_le _ hk hl 5 (Nat.le_refl _)
  rw [← hl, take_len] at hd
  have EF : Hid (aceS xs = 371293 * patS (lrs xs) + digs (kk (lrs xs))) := Lib.hid rfl
  generalize aceS xs = z at *
  generalize lrs xs = rs at *
  have K2 := Lib.hid (fun (A1 : Option Addr) (c1 : Nat) (W : World) (h : Rd W A1 (occL rs)) => l05Pattern_any A1 c1 rs W h h4)
  have K3 := Lib.hid (fun (A1 : Option Addr) (c1 : Nat) (W : World) (h : Rd W A1 (occL rs)) => l05Ordered_any A1 c1 rs W h)
  have K4 := Lib.hid (fun (A1 : Option Addr) (c1 : Nat) (W : World) (h : Rd W A1 (kk rs)) => l04Digits_any A1 c1 (kk rs) W h hl hk)
  have HL := Lib.hid hl
  generalize patS rs = p at *
  generalize digs (kk rs) = d at *
  generalize kk rs = ks at *
  clear hr hb h4 hl hk
  go_enter Try.func59, Try.ntmps59
  go_wp2_with (first
    | (go_at_call 94; refine K1.out.mono ?_; rintro e w1 ⟨A1, c1, rfl, hr1, hb1⟩; have R1 := Lib.hid hr1; have B1 := Lib.hid hb1; clear hr1 hb1)
    | (go_at_call 95; refine (K2.out _ _ _ R1.out).mono ?_; rintro e w2 ⟨rfl, hb2⟩; have R2 := Lib.hid (R1.out.below hb2); have B2 := Lib.hid (bl_trans B1.out hb2); clear hb2)
    | (go_at_call 96; refine (K3.out _ _ _ R2.out).mono ?_; rintro e w3 ⟨A3, c3, rfl, ho3, hb3⟩; have R3 := Lib.hid ho3.rd; rw [HL.out]; have B3 := Lib.hid (bl_trans B2.out hb3); clear ho3 hb3)
    | (go_at_call 51; refine (K4.out _ _ _ R3.out).mono ?_; rintro e w4 ⟨rfl, rfl⟩))
  go_ret
  exact ⟨ret_int (by rw [EF.out]), B3.out⟩
end Go.Proofs.Ytajkgnheijhbpaa
