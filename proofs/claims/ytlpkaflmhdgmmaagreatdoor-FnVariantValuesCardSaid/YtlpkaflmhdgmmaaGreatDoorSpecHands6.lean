/-
  All hands of a player, in their order: the model's.
-/
import Derived.Test.YtlpkaflmhdgmmaaGreatDoorHandsPure
import Derived.Test.YtlpkaflmhdgmmaaGreatDoorChoiceSpec
import Derived.Test.YtlpkaflmhdgmmaaGreatDoorGlue
import Derived.Test.YtlpkaflmhdgmmaaGreatDoorVarFns
namespace Go.Proofs.YtlpkaflmhdgmmaaGreatDoor
open Go.RowKit
set_option linter.unusedVariables false

theorem chI_len (s : Nat) (xs : List Int) : (ch s xs).length = (idxC xs.length s).length := by rw [ch_idxC, List.length_map]
theorem chI_at (s : Nat) (xs : List Int) (i : Nat) (hi : i < (ch s xs).length) : (ch s xs).getD i [] = pickL xs ((idxC xs.length s).getD i []) := by
  have hi' : i < (idxC xs.length s).length := by rw [← chI_len]; exact hi
  rw [ch_idxC, List.getD_eq_getElem?_getD, List.getD_eq_getElem?_getD, List.getElem?_map, List.getElem?_eq_getElem hi']
  rfl
/-- The number of the hand at a place, and the hand. -/
theorem hNo_ch (hc bs : List Int) (l k M i j q p : Nat) (hq : l + k = q) (hp : 5 - q = p) (hk : k < M) (hi : i < (ch q hc).length) (hj : j < (ch p bs).length) :
    (hRows hc bs l M).getD (hNo hc bs l k i j) [] = (ch q hc).getD i [] ++ (ch p bs).getD j [] ∧ hNo hc bs l k i j < (hRows hc bs l M).length := by
  subst hq
  subst hp
  rw [chI_at _ _ _ hi, chI_at _ _ _ hj]
  exact hNo_at hc bs l k M i j hk (by rw [← chI_len]; exact hi) (by rw [← chI_len]; exact hj)
set_option maxRecDepth 100000 in
/-- A call of l01Own in a region that draws its order. -/
theorem step_own {ops : Array Oper} {o : Oper} {a : Act} {w : World} {K : Act → World → Prop} {Q : Exit → Act → World → Prop} {E : Prop} (hgd : o.guard = none) (n : Nat)
    (ho : o.op = .call { callee := .value (.func 56), args := #[.tmp n], argTypes := #[26] })
    (xs : List Int) (A : Option Addr) (c : Nat) (hx : a.eval (.tmp n) = .slice A xs.length c) (hr : Rd w A xs) (hn : xs.length ≤ 4000000)
    (h : ∀ A' c' w', Own w' w.heap.size (.slice A' xs.length c') xs → Below w.heap.size w w' → K (a.put o.dst (.slice A' xs.length c')) w') :
    if Region.wanted o (yielded ops a.tmps) = true then Oper.wp Tryz.prog o a w K Q else E := by
  have hw : Region.wanted o (yielded ops a.tmps) = true := by simp [Region.wanted, hgd]
  rw [if_pos hw]
  have hc := own_any A c xs w hr hn
  have eg : ∀ args w, (callFunc 56 args).run Tryz.prog w = .ok (.enter 56 args) w := enters_of Tryz.func56 (by kernel_rfl) rfl
  simp [Act.eval] at hx
  unfold Oper.wp execOp
  simp [ho, resolve, invoke, go_sem, eg, hx]
  refine hc.mono ?_
  rintro e w' ⟨A', c', rfl, ho', hb'⟩
  exact h A' c' w' ho' hb'
/-- What a call leaves that returns all hands. -/
def HandsFam (hs bs : List Int) (l M : Nat) (w : World) (e : Ending) (w' : World) : Prop :=
  ∃ A c AA CC, e = .returned (.slice A (hRows hs bs l M).length c) ∧ Fam w' w.heap.size A (hRows hs bs l M).length (fun h => (hRows hs bs l M).getD h []) AA CC ∧ Below w.heap.size w w'
theorem hRow_none (hs bs : List Int) (o : Nat) (hb : bs.length ≤ 7) (h : bs.length < 5 - o) : (hRow hs bs o).length = 0 := by
  rw [hRow_len, idxC_none bs.length (5 - o) hb h (by omega), Nat.mul_zero]
theorem hRows_le (hs bs : List Int) (l : Nat) (hh : hs.length ≤ 7) (hb : bs.length ≤ 7) : ∀ M, l + M ≤ 6 → (hRows hs bs l M).length ≤ M * 1225
  | 0, _ => by simp [hRows_zero]
  | M + 1, h => by
    have ih := hRows_le hs bs l hh hb M (by omega)
    have h1 := idxC_le hs.length (l + M) hh (by omega)
    have h2 := idxC_le bs.length (5 - (l + M)) hb (by omega)
    rw [hRows_succ, hRow_len]
    have : (idxC hs.length (l + M)).length * (idxC bs.length (5 - (l + M))).length ≤ 35 * 35 := Nat.mul_le_mul h1 h2
    omega
set_option maxRecDepth 100000 in
set_option maxHeartbeats 4000000 in
theorem specHands_any (l m : Nat) (h : Int) (hi : Bool) (lo : Int) (A : Option Addr) (c : Nat) (hs : List Int) (A2 : Option Addr) (c2 : Nat) (bs : List Int) (w : World) (hlm : l ≤ m) (hm : m ≤ 5) (hh : hs.length ≤ 7) (hb : bs.length ≤ 7) (hr : Rd w A hs) (hr2 : Rd w A2 bs) (hc : hs.length ≤ c) (hc2 : bs.length ≤ c2) :
    Calls Tryz.prog 32 #[.agg #[.int .i64 h, .int .i64 l, .int .i64 m, .int .i64 bs.length, .bool hi, .int .i64 lo], .slice A hs.length c, .slice A2 bs.length c2] w (HandsFam hs bs l (m + 1 - l) w) := by
  have HR := Lib.hid hr
  have HR2 := Lib.hid hr2
  clear hr hr2
  obtain ⟨M, eM⟩ : ∃ M, M = m + 1 - l := ⟨_, rfl⟩
  rw [← eM]
  have EM := Lib.hid eM
  have HT := Lib.hid (hRows_le hs bs l hh hb M (by omega))
  have hM6 : M ≤ 6 := by omega
  clear eM
  have N0 := Lib.hid (blk_new w 25 [.int .i64 h, .int .i64 l, .int .i64 m, .int .i64 bs.length, .bool hi, .int .i64 lo])
  have B0 := Lib.hid (bl_alloc (bl_refl w) (.cells #[.int .i64 h, .int .i64 l, .int .i64 m, .int .i64 bs.length, .bool hi, .int .i64 lo] 25))
  obtain ⟨w1, ew1⟩ : ∃ w1, w1 = w.alloc (.cells #[.int .i64 h, .int .i64 l, .int .i64 m, .int .i64 bs.length, .bool hi, .int .i64 lo] 25) := ⟨_, rfl⟩
  have HS0 := Lib.hid (hang_start w1 5 (fun h => (hRows hs bs l M).getD h []) (fun _ => none) (fun _ => 0))
  have hsz1 : w1.heap.size = w.heap.size + 1 := by rw [ew1]; exact World.size_alloc _ _
  have N1 : Hid (Blk w1 w.heap.size 25 [.int .i64 h, .int .i64 l, .int .i64 m, .int .i64 bs.length, .bool hi, .int .i64 lo]) := Lib.hid (by rw [ew1]; exact N0.out)
  have B1 : Hid (Below w.heap.size w w1) := Lib.hid (by rw [ew1]; exact B0.out)
  have Z1 := Lib.hid hsz1
  have EW := Lib.hid ew1
  have HI0 := Lib.hid HS0.out.below
  obtain ⟨q1, _⟩ := (N1.out.below (bl_alloc (bl_refl w1) (.cells #[] 26))).cell 1 _ rfl
  rw [ew1] at q1
  clear N0 B0 hsz1 ew1 HI0
  go_enter Tryz.func32, Tryz.ntmps32
  go_wp2_with fail
  rw [← EW.out, ← Z1.out]
  clear q1
  go_loopw [7, 8] (fun v o wr => ∃ (q : Nat) (AA : Nat → Option Addr) (CC : Nat → Nat), l ≤ q ∧ q ≤ m + 1 ∧ o = .int .i64 q ∧ Hid (Hang w1 (hRows hs bs l (q - l)).length 5 (fun h => (hRows hs bs l M).getD h []) AA CC v wr)) (fun _ o _ => m + 1 - (intOf o).toNat)
  case atStart => exact ⟨l, fun _ => none, fun _ => 0, Nat.le_refl _, by omega, rfl, Lib.hid (by rw [Nat.sub_self]; exact HS0.out)⟩
  case round =>
    obtain ⟨q, AA, CC, hlq, hqm, rfl, hs0⟩ := hrel
    obtain ⟨wo, rfl⟩ : ∃ wo : World, wo = wr := ⟨_, rfl⟩
    obtain ⟨v0, rfl⟩ : ∃ v0 : Value, v0 = u7 := ⟨_, rfl⟩
    have hp3 := (N1.out.below hs0.out.below)
    obtain ⟨cm, _⟩ := hp3.cell 2 _ rfl
    obtain ⟨cb, _⟩ := hp3.cell 3 _ rfl
    clear hp3
    by_cases hlt : q ≤ m
    · obtain ⟨k, ek⟩ : ∃ k, k = q - l := ⟨_, rfl⟩
      rw [← ek] at hs0
      have EK : Hid (l + k = q) := Lib.hid (by omega)
      have KM : Hid (k < M) := Lib.hid (by have := EM.out; omega)
      have EN : Hid (q + 1 - l = k + 1) := Lib.hid (by omega)
      clear ek
      have hlt' : (q : Int) ≤ m := by omega
      have hq5 : (q : Int) ≤ 5 := by omega
      by_cases hbn : bs.length < 5 - q
      · have hgt : (5 : Int) - q > bs.length := by omega
        have HN : Hid (Hang w1 (hRows hs bs l (q + 1 - l)).length 5 (fun h => (hRows hs bs l M).getD h []) AA CC v0 wo) := Lib.hid (by
          rw [EN.out, hRows_succ, EK.out, hRow_none hs bs q hb hbn, Nat.add_zero]; exact hs0.out)
        clear hs0
        go_wp2_with fail
        go_roundw
        case rel => exact ⟨q + 1, AA, CC, by omega, by omega, by go_num, HN⟩
        case measure => simp [intOf]; omega
      · have hgt : ¬ (5 : Int) - q > bs.length := by omega
        obtain ⟨p, ep⟩ : ∃ p, p = 5 - q := ⟨_, rfl⟩
        have EP : Hid (5 - q = p) := Lib.hid ep.symm
        have hp5 : (5 : Int) - q = p := by omega
        have hpb : ¬ (p : Int) > bs.length := by omega
        clear hgt
        have BW := Lib.hid (bl_trans B1.out hs0.out.below)
        have K1 := Lib.hid (choices_all q (by omega) A c hs wo (HR.out.below BW.out) (by omega) hc)
        have K2 := Lib.hid (fun (W : World) (hb' : Below w.heap.size w W) => choices_all p (by omega) A2 c2 bs W (HR2.out.below hb') (by omega) hc2)
        have L1 : Hid ((ch q hs).length = (idxC hs.length (l + k)).length) := Lib.hid (by rw [chI_len, EK.out])
        have L2 : Hid ((ch p bs).length = (idxC bs.length (5 - (l + k))).length) := Lib.hid (by rw [chI_len, EK.out, EP.out])
        have M1 : (ch q hs).length ≤ 35 := by rw [chI_len]; exact idxC_le _ _ hh (by omega)
        have M2 : (ch p bs).length ≤ 35 := by rw [chI_len]; exact idxC_le _ _ hb (by omega)
        have HN0 : Hid (Hang w1 (hNo hs bs l k 0 0) 5 (fun h => (hRows hs bs l M).getD h []) AA CC v0 wo) := Lib.hid (by rw [hNo_start]; exact hs0.out)
        clear hs0 ep
        obtain ⟨n1, en1⟩ : ∃ n, n = (ch q hs).length := ⟨_, rfl⟩
        obtain ⟨n2, en2⟩ : ∃ n, n = (ch p bs).length := ⟨_, rfl⟩
        have E1 := Lib.hid en1
        have E2 := Lib.hid en2
        rw [← en1] at L1 M1
        rw [← en2] at L2 M2
        unfold ChFam at K1 K2
        rw [← en1] at K1
        rw [← en2] at K2
        clear en1 en2
        go_wp2_with (first
          | (go_at_call 57; refine (K2.out _ BQ.out).mono ?_; rintro e wq ⟨A6, c6, AA6, CC6, rfl, hF, hb'⟩; have HF2 := Lib.hid (hF.less BO.out.size); have BQ2 := Lib.hid (bl_trans BO.out hb'); have HF1 := Lib.hid (Fam.below HF0.out hb'); clear hF hb')
          | (go_at_call 57; refine K1.out.mono ?_; rintro e wq1 ⟨A5, c5, AA5, CC5, rfl, hF, hb'⟩; have HF0 := Lib.hid hF; have BO := Lib.hid hb'; have BQ := Lib.hid (bl_trans BW.out hb'); clear hF hb'))
        go_loopw [7, 11] (fun v x wr => ∃ (i : Nat) (AA : Nat → Option Addr) (CC : Nat → Nat), i ≤ n1 ∧ x = .int .i64 i ∧ Hid (Hang w1 (hNo hs bs l k i 0) 5 (fun h => (hRows hs bs l M).getD h []) AA CC v wr) ∧ Hid (KeepRest wq wr v0 v)) (fun _ x _ => n1 - (intOf x).toNat)
        case atStart => exact ⟨0, AA, CC, Nat.zero_le _, rfl, Lib.hid (HN0.out.next BQ2.out), Lib.hid ⟨keepR_refl _ _, .inl rfl⟩⟩
        case round =>
          obtain ⟨i, AA1, CC1, hi, rfl, hg, hkr⟩ := hrel
          obtain ⟨wi, rfl⟩ : ∃ wi : World, wi = wr := ⟨_, rfl⟩
          obtain ⟨v1, rfl⟩ : ∃ v1 : Value, v1 = u7 := ⟨_, rfl⟩
          by_cases hi1 : i < n1
          · have hi1' : (i : Int) < n1 := by omega
            go_wp2_with fail
            go_loopw [7, 12] (fun v x wr => ∃ (j : Nat) (AA : Nat → Option Addr) (CC : Nat → Nat), j ≤ n2 ∧ x = .int .i64 j ∧ Hid (Hang w1 (hNo hs bs l k i j) 5 (fun h => (hRows hs bs l M).getD h []) AA CC v wr) ∧ Hid (KeepRest wq wr v0 v)) (fun _ x _ => n2 - (intOf x).toNat)
            case atStart => exact ⟨0, AA1, CC1, Nat.zero_le _, rfl, hg, hkr⟩
            case round =>
              obtain ⟨j, AA2, CC2, hj, rfl, hg2, hkr2⟩ := hrel
              by_cases hj1 : j < n2
              · have F1 := HF1.out.grown hkr2.out.1 (fun a e q => by
                  have := (HF1.out.lo a e).1
                  have := (World.ownsRow.lt HN0.out.out _ q.symm).2
                  omega) (fun j hj a e q => by
                  have := ((HF1.out.row j hj).1 a e).1
                  have := (World.ownsRow.lt HN0.out.out _ q.symm).2
                  omega)
                have F2 := fam_keep HF2.out HN0.out hkr2.out
                have RX := Lib.hid (F1.row i hi1).rd
                have RY := Lib.hid (F2.row j hj1).rd
                obtain ⟨g1, off1, rfl, hc1⟩ := F1.at_ (bl_refl wr) i hi1
                obtain ⟨g2, off2, rfl, hc3⟩ := F2.at_ (bl_refl wr) j hj1
                have lx := ch_rowlen q hs i (by rw [← E1.out]; exact hi1)
                have ly := ch_rowlen p bs j (by rw [← E2.out]; exact hj1)
                obtain ⟨er, ht⟩ := hNo_ch hs bs l k M i j q p EK.out EP.out KM.out (by rw [← E1.out]; exact hi1) (by rw [← E2.out]; exact hj1)
                have ER := Lib.hid er
                have HTB : Hid (hNo hs bs l k i j ≤ 4000000) := Lib.hid (by have := HT.out; have : M * 1225 ≤ 6 * 1225 := Nat.mul_le_mul_right _ hM6; omega)
                have hj1' : (j : Int) < n2 := by omega
                generalize (ch q hs).getD i [] = fs at *
                generalize (ch p bs).getD j [] = ss at *
                rw [lx] at hc1
                rw [ly] at hc3
                have HLX := Lib.hid lx
                have HLY := Lib.hid ly
                have HPQ : Hid (q + p = 5) := Lib.hid (by have := EP.out; omega)
                generalize AA5 i = ax at *
                generalize CC5 i = cx at *
                generalize AA6 j = ay at *
                generalize CC6 j = cy at *
                have lt2 := World.block_lt_of_cell? wr _ hc3
                clear F1 F2 er ht lx ly
                go_wp2_with fail
                have RX1 := Lib.hid (RX.out.below (bl_drew (bl_refl wr)))
                have ZX : Hid (fs.length ≤ 4000000) := Lib.hid (by rw [HLX.out]; omega)
                have HG1 : Hid (fs.length + ss.length ≤ 4000000) := Lib.hid (by rw [HLX.out, HLY.out]; omega)
                go_region_law (first
                  | (refine step_own rfl 50 rfl fs ax cx (by rw [HLX.out]; simp [Act.eval]) RX1.out ZX.out ?_
                     intro A3 c3 w3 ho3 hb3
                     have B3 := Lib.hid (bl_trans (bl_drew (bl_refl wr)) hb3)
                     have O3 := Lib.hid ho3
                     have Z3 := Lib.hid hb3.size
                     have RY3 := Lib.hid (RY.out.below B3.out)
                     have hc4 := (B3.out.cell (p := ⟨g2, off2 + j, none⟩) lt2).trans hc3)
                  | (refine step_glue rfl (.tmp 51) (.tmp 55) rfl wr.drew.heap.size (.slice A3 fs.length c3) fs ss ay cy (by simp [Act.eval]) O3.out (by rw [HLY.out]; simp [Act.eval]) RY3.out HG1.out Z3.out ?_
                     intro A4 c4 ws4 w4 e4 ho4 hg4 _)
                  | (have B4 := Lib.hid (bl_app B3.out O3.out (Nat.le_refl wr.heap.size) hg4)
                     have HL4 : Hid (ws4.length = 5) := Lib.hid (by rw [e4.out, List.length_append, HLX.out, HLY.out]; exact HPQ.out)
                     have HRK : Hid ((hRows hs bs l M).getD (hNo hs bs l k i j) [] = ws4) := Lib.hid (by rw [ER.out, e4.out])
                     have HX := Lib.hid ((hg2.out.next B4.out).next (bl_alloc (bl_refl w4) (.cells #[.slice A4 ws4.length c4] 26)))
                     have HCU : Hid ((w4.alloc (.cells #[.slice A4 ws4.length c4] 26)).cell? ⟨w4.heap.size, 0, none⟩ = some (.slice A4 ws4.length c4)) := Lib.hid (by simp [go_sem])
                     refine step_hang rfl (.tmp 46) (.tmp 57) rfl w1.heap.size u7 (hNo hs bs l k i j) (cellsS (hNo hs bs l k i j) AA2 CC2 5) (by simp [Act.eval]) HX.out.out ⟨w4.heap.size, 0, none⟩ 1 (.slice A4 ws4.length c4) (by simp [Act.eval]) HCU.out rfl HTB.out (by have := hg2.out.below.size; have := B4.out.size; simp; omega) ?_
                     intro v' w5 hown5 hg5 hv5))
                all_goals
                  have HN : Hid (Hang w1 (hNo hs bs l k i (j + 1)) 5 (fun h => (hRows hs bs l M).getD h []) (updA AA2 (hNo hs bs l k i j) A4) (updC CC2 (hNo hs bs l k i j) c4) v' w5) := Lib.hid (by
                    rw [hNo_next]
                    exact hang_add hg2.out B4.out (by show Own w4 wr.heap.size (.slice A4 ((hRows hs bs l M).getD (hNo hs bs l k i j) []).length c4) ((hRows hs bs l M).getD (hNo hs bs l k i j) []); rw [HRK.out]; exact ho4) (by show ((hRows hs bs l M).getD (hNo hs bs l k i j) []).length = 5; rw [HRK.out]; exact HL4.out) (by rw [← HL4.out] at hown5 ⊢; exact hown5) hg5 (by simpa using hv5))
                  have HK := Lib.hid (keepRest_next hkr2.out B4.out hg5 (by simpa using hv5))
                  clear hown5 hg5 hv5 ho4 hg4
                  go_wp2_with fail
                  go_roundw
                  case rel => exact ⟨j + 1, _, _, hj1, by go_num, HN, HK⟩
                  case measure => simp [intOf]; omega
              · obtain rfl : j = n2 := by omega
                have HN : Hid (Hang w1 (hNo hs bs l k (i + 1) 0) 5 (fun h => (hRows hs bs l M).getD h []) AA2 CC2 u7 wr) := Lib.hid (by rw [hNo_row, ← L2.out]; exact hg2.out)
                clear hg2
                have hi2 : i + 1 ≤ n1 := hi1
                go_wp2_with fail
                go_roundw
                case rel => exact ⟨i + 1, AA2, CC2, hi2, by go_num, HN, hkr2⟩
                case measure => simp [intOf]; omega
          · obtain rfl : i = n1 := by omega
            have HN : Hid (Hang w1 (hRows hs bs l (q + 1 - l)).length 5 (fun h => (hRows hs bs l M).getD h []) AA1 CC1 v1 wi) := Lib.hid (by rw [EN.out, ← hNo_end, ← L1.out]; exact hg.out)
            clear hg hkr
            go_wp2_with fail
            go_roundw
            case rel => exact ⟨q + 1, AA1, CC1, by omega, by omega, by go_num, HN⟩
            case measure => simp [intOf]; omega
    · obtain rfl : q = m + 1 := by omega
      have hlt' : ¬ ((m : Int) + 1) ≤ m := by omega
      have hz := hs0.out
      rw [← EM.out] at hz
      obtain ⟨A5, c5, rfl⟩ := own_form2 hz.out
      have HF := Lib.hid (hz.fam0.less (by have := Z1.out; omega : w.heap.size ≤ w1.heap.size))
      have HBL := Lib.hid (bl_trans B1.out hz.below)
      clear hz hs0
      go_wp2_with fail
      go_ret
      exact ⟨A5, c5, AA, CC, rfl, HF.out, HBL.out⟩
end Go.Proofs.YtlpkaflmhdgmmaaGreatDoor
