/-
  The model's kickers, and numbers to the base 13.
-/
import Derived.Test.YtcbfmfkahgfjkaaDoorStrSpec
import Derived.Test.YtcbfmfkahgfjkaaDoorOthers
namespace Go.Proofs.YtcbfmfkahgfjkaaDoor
open Go.RowKit
set_option linter.unusedVariables false

/-! Numbers to the base 13. -/
def digs (L : List Int) : Int := L.foldl (fun n d => 13 * n + d) 0
theorem digs_snoc (L : List Int) (x : Int) : digs (L ++ [x]) = 13 * digs L + x := by unfold digs; rw [List.foldl_append]; rfl
theorem digs_bd (L : List Int) (h : ranksOk L) : ∀ k, k ≤ L.length → 0 ≤ digs (L.take k) ∧ digs (L.take k) < ((13 ^ k : Nat) : Int)
  | 0, _ => by rw [List.take_zero]; decide
  | k + 1, hk => by
    have ih := digs_bd L h k (by omega)
    have hx := h L[k] (List.getElem_mem _)
    rw [take_snocI L k (by omega), digs_snoc, Nat.pow_succ]
    generalize digs (L.take k) = q at *
    generalize L[k] = x at *
    generalize (13 ^ k : Nat) = p at *
    have : ((p * 13 : Nat) : Int) = (p : Int) * 13 := by rw [Int.natCast_mul]; rfl
    rw [this]
    omega
theorem digs_le (L : List Int) (h : ranksOk L) (hl : L.length = 5) (k : Nat) (hk : k ≤ 5) : 0 ≤ digs (L.take k) ∧ digs (L.take k) ≤ 371292 := by
  have := digs_bd L h k (by omega)
  have h2 : 13 ^ k ≤ 13 ^ 5 := Nat.pow_le_pow_right (by omega) hk
  have e : (13 ^ 5 : Nat) = 371293 := by decide
  omega
theorem ranks_nth (L : List Int) (h : ranksOk L) (k : Nat) (hk : k < L.length) : 0 ≤ nth L k ∧ nth L k < 13 := h _ (nth_mem L k hk)

set_option maxRecDepth 100000 in
set_option maxHeartbeats 1000000 in
theorem l04Digits_any (A : Option Addr) (c : Nat) (L : List Int) (w : World) (hr : Rd w A L) (h5 : L.length = 5) (hb : ranksOk L) :
    Calls Tryd.prog 72 #[.slice A 5 c] w (Same (.int .i64 (digs L)) w) := by
  have HR := Lib.hid hr
  have HB := Lib.hid (digs_le L hb h5)
  have HN := Lib.hid (ranks_nth L hb)
  have H5 := Lib.hid h5
  clear hr hb h5
  go_enter Tryd.func72, Tryd.ntmps72
  go_wp2_with fail
  go_loop [3, 4] (fun n i => ∃ k : Nat, k ≤ 5 ∧ i = .int .i64 k ∧ n = .int .i64 (digs (L.take k))) (fun _ i => 5 - (intOf i).toNat)
  case atStart => exact ⟨0, by omega, rfl, rfl⟩
  case round =>
    obtain ⟨k, hk, rfl, rfl⟩ := hrel
    by_cases hlt : k < 5
    · obtain ⟨b, off, rfl, hc⟩ := HR.out.at_ (bl_refl _) k (by rw [H5.out]; exact hlt)
      have hlt' : (k : Int) < 5 := by omega
      have h1 := HB.out k hk
      have hx := HN.out k (by rw [H5.out]; exact hlt)
      have HC := Lib.hid (take_nth L k (by rw [H5.out]; exact hlt))
      have HS := Lib.hid (digs_snoc (L.take k) (nth L k))
      rw [← HC.out] at HS
      generalize digs (L.take k) = q at *
      generalize nth L k = x at *
      go_wp2_with fail
      go_round
      case rel => exact ⟨k + 1, by omega, by go_num, by rw [HS.out]⟩
      case measure => simp [intOf] <;> omega
    · obtain rfl : k = 5 := by omega
      have HT : Hid (L.take 5 = L) := Lib.hid (by rw [← H5.out]; exact take_len L)
      go_wp2_with fail
      go_ret
      exact ⟨ret_int (by rw [HT.out]), rfl⟩

/-! The kickers. -/
theorem runK_succ (rs : List Int) (m : Nat) (n r : Nat) (h : steps[m]? = some (n, r)) : runK rs (m + 1) = runK rs m ++ piece rs (n, r) := by
  unfold runK
  rw [List.take_add_one, h, List.flatMap_append]
  simp
theorem steps_at : ∀ j : Fin 4, ∀ q : Fin 13, steps[(4 - (j.val + 1)) * 13 + (13 - (q.val + 1))]? = some (j.val + 1, q.val) := by decide
theorem runK_step (rs : List Int) (j q : Nat) (hj : j < 4) (hq : q < 13) : runK rs ((4 - (j + 1)) * 13 + (13 - q)) = runK rs ((4 - (j + 1)) * 13 + (13 - (q + 1))) ++ piece rs (j + 1, q) := by
  have e : (4 - (j + 1)) * 13 + (13 - q) = (4 - (j + 1)) * 13 + (13 - (q + 1)) + 1 := by omega
  rw [e]
  exact runK_succ rs _ (j + 1) q (steps_at ⟨j, hj⟩ ⟨q, hq⟩)
theorem piece_len (rs : List Int) (p : Nat × Nat) : (piece rs p).length ≤ p.1 := by
  unfold piece; split <;> simp
theorem steps_le : ∀ p ∈ steps, p.1 ≤ 4 := by decide
theorem runK_len (rs : List Int) (m : Nat) : (runK rs m).length ≤ 4 * 52 := by
  unfold runK
  have : ∀ l : List (Nat × Nat), (∀ p ∈ l, p.1 ≤ 4) → (l.flatMap (piece rs)).length ≤ 4 * l.length := by
    intro l
    induction l with
    | nil => intro _; simp
    | cons p l ih =>
      intro h
      rw [List.flatMap_cons, List.length_append, List.length_cons]
      have h1 := piece_len rs p
      have h2 := h p (List.mem_cons_self ..)
      have h3 := ih (fun q hq => h q (List.mem_cons_of_mem _ hq))
      omega
  have h1 := this (steps.take m) (fun p hp => steps_le p (List.mem_of_mem_take hp))
  have h2 : (steps.take m).length ≤ 52 := by rw [List.length_take, steps_len]; omega
  omega
theorem piece_yes (rs : List Int) (n r : Nat) (h : occ rs (r : Int) = n) : piece rs (n, r) = List.replicate n (r : Int) := by unfold piece; rw [if_pos h]
theorem piece_no (rs : List Int) (n r : Nat) (h : ¬ occ rs (r : Int) = n) : piece rs (n, r) = [] := by unfold piece; rw [if_neg h]
theorem rep_snoc (k : Nat) (x : Int) : List.replicate (k + 1) x = List.replicate k x ++ [x] := List.replicate_succ'

/-- What the counting of ranks leaves. -/
def Cnt13 (rs : List Int) (w : World) (e : Ending) (w' : World) : Prop := ∃ A c, e = .returned (.slice A 13 c) ∧ Rd w' A (occL rs) ∧ Below w.heap.size w w'
theorem cnt13_any (A : Option Addr) (c : Nat) (xs : List Int) (w : World) (hr : Rd w A xs) (hn : xs.length ≤ 4000000) (hb : cardsB xs = true) :
    Calls Tryd.prog 75 #[.slice A xs.length c] w (Cnt13 (rk xs) w) := by
  refine (l02RankCounts_any A c xs w hr hn hb).mono ?_
  rintro e w' ⟨A', c', he, ho, hb'⟩
  rw [cntL_occ] at he ho
  have hrd := ho.rd
  rw [occL_length] at he
  exact ⟨A', c', he, hrd, hb'⟩

theorem low_made (w : World) : NewL [3, 2, 1, 0, 12] w (.returned (.slice (some ⟨w.heap.size, 0, none⟩) 5 5)) (w.alloc (.cells #[.int .i64 3, .int .i64 2, .int .i64 1, .int .i64 0, .int .i64 12] 2)) :=
  ⟨some ⟨w.heap.size, 0, none⟩, 5, rfl, World.ownsRow_lit w #[.int .i64 3, .int .i64 2, .int .i64 1, .int .i64 0, .int .i64 12] 5 (Nat.le_refl _) (by unfold maxLen; omega) rfl, bl_alloc (bl_refl _) _⟩
theorem newL_trans {xs : List Int} {w w1 : World} {e : Ending} {w' : World} (hb : Below w.heap.size w w1) (h : NewL xs w1 e w') : NewL xs w e w' := by
  obtain ⟨A, c, he, ho, hb'⟩ := h
  exact ⟨A, c, he, ho.less hb.size, bl_trans hb hb'⟩

set_option maxRecDepth 100000 in
set_option maxHeartbeats 2000000 in
theorem l04Kickers_any (A : Option Addr) (c : Nat) (xs : List Int) (w : World) (hr : Rd w A xs) (hn : xs.length ≤ 4000000) (hb : cardsB xs = true) :
    Calls Tryd.prog 54 #[.slice A xs.length c] w (NewL (kickS (rk xs)) w) := by
  obtain ⟨i0, hi, hz0, hz1, hz2⟩ := info_parts infoInt
  have K1 := Lib.hid (cnt13_any A c xs w hr hn hb)
  generalize rk xs = rs at *
  clear hr hb
  by_cases hT : strT rs = 3
  · have EK : Hid (kickS rs = [3, 2, 1, 0, 12]) := Lib.hid (by unfold kickS; rw [if_pos hT])
    have HT := Lib.hid hT
    clear hT
    go_enter Tryd.func54, Tryd.ntmps54
    go_wp2_with (first
      | (go_at_call 75; refine K1.out.mono ?_; rintro e w1 ⟨A1, c1, rfl, hr1, hb1⟩; have R1 := Lib.hid hr1; have B1 := Lib.hid hb1; clear hr1 hb1)
      | (go_at_call 77; refine (l04Straight_any A1 c1 rs _ R1.out).mono ?_; rintro e w2 ⟨rfl, rfl⟩; rw [HT.out]))
    go_ret
    rw [EK.out]
    exact newL_trans B1.out (low_made w1)
  · have EK : Hid (kickS rs = runK rs 52) := Lib.hid (by unfold kickS; rw [if_neg hT]; rfl)
    have HT := Lib.hid hT
    clear hT
    obtain ⟨st, est⟩ : ∃ st, st = strT rs := ⟨_, rfl⟩
    have KS := Lib.hid (fun (A1 : Option Addr) (c1 : Nat) (W : World) (h : Rd W A1 (occL rs)) => l04Straight_any A1 c1 rs W h)
    rw [← est] at HT KS
    have hst : (st == 3) = false := by have := HT.out; simpa using this
    clear est
    go_enter Tryd.func54, Tryd.ntmps54
    go_wp2_with (first
      | (go_at_call 75; refine K1.out.mono ?_; rintro e w1 ⟨A1, c1, rfl, hr1, hb1⟩; have R1 := Lib.hid hr1; have B1 := Lib.hid hb1; clear hr1 hb1)
      | (go_at_call 77; refine (KS.out A1 c1 _ R1.out).mono ?_; rintro e w2 ⟨rfl, rfl⟩))
    go_loopw [4, 5] (fun v n wr => ∃ j : Nat, j ≤ 4 ∧ n = .int .i64 j ∧ Hid (Grow w1 (runK rs ((4 - j) * 13)) v wr)) (fun _ n _ => (intOf n).toNat)
    case atStart => exact ⟨4, Nat.le_refl _, rfl, Lib.hid (grow_start w1)⟩
    case round =>
      obtain ⟨j0, hj, rfl, HS⟩ := hrel
      rcases j0 with _ | j
      · obtain ⟨A', c', rfl, hO⟩ := own_form HS.out.1
        have HO := Lib.hid hO
        clear hO
        go_wp2_with fail
        go_ret
        rw [EK.out]
        exact newL_trans B1.out ⟨_, _, rfl, HO.out, HS.out.2⟩
      · have hj' : ((j + 1 : Nat) : Int) = (j : Int) + 1 := by omega
        rw [hj']
        clear hj'
        have hj1 : (1 : Int) ≤ (j : Int) + 1 := by omega
        go_wp2_with fail
        go_loopw [4, 6] (fun v r wr => ∃ q : Nat, q ≤ 13 ∧ r = .int .i64 ((q : Int) - 1) ∧ Hid (Grow w1 (runK rs ((4 - (j + 1)) * 13 + (13 - q))) v wr)) (fun _ r _ => (intOf r + 1).toNat)
        case atStart => exact ⟨13, Nat.le_refl _, rfl, HS⟩
        case round =>
          obtain ⟨q0, hq, rfl, HS⟩ := hrel
          rcases q0 with _ | q
          · go_wp2_with fail
            go_roundw
            case rel => exact ⟨j, by omega, by go_num, by
              have e : (4 - j) * 13 = (4 - (j + 1)) * 13 + (13 - 0) := by omega
              rw [e]; exact HS⟩
            case measure => simp [intOf] <;> omega
          · have hx : ((q + 1 : Nat) : Int) - 1 = (q : Int) := by omega
            rw [hx]
            have hq0 : (0 : Int) ≤ (q : Int) := by omega
            have HX := Lib.hid (runK_step rs j q (by omega) (by omega))
            have hl := runK_len rs ((4 - (j + 1)) * 13 + (13 - (q + 1)))
            generalize runK rs ((4 - (j + 1)) * 13 + (13 - (q + 1))) = ys at *
            obtain ⟨b, off, rfl, hcc⟩ := occL_at (R1.out.below (bl_refl _))
            have hc1 := Lib.hid (hcc q (by omega))
            clear hcc
            by_cases ho : occ rs (q : Int) = j + 1
            · rw [piece_yes rs (j + 1) q ho] at HX
              have hj' : ((j + 1 : Nat) : Int) = (j : Int) + 1 := by omega
              rw [ho, hj'] at hc1
              clear hj'
              clear ho
              go_wp2_with fail
              go_loopw [4, 7] (fun v i wx => ∃ k : Nat, k ≤ j + 1 ∧ i = .int .i64 k ∧ Hid (Grow w1 (ys ++ List.replicate k (q : Int)) v wx)) (fun _ i _ => j + 1 - (intOf i).toNat)
              case atStart => exact ⟨0, by omega, rfl, by rw [List.replicate_zero, List.append_nil]; exact HS⟩
              case round =>
                obtain ⟨k, hk, rfl, HG⟩ := hrel
                have hcell := HG.out.2.cell (p := ⟨b, off + q, none⟩) (World.block_lt_of_cell? _ _ hc1.out)
                rw [hc1.out] at hcell
                by_cases hlt : k < j + 1
                · have hlt' : (k : Int) < (j : Int) + 1 := by omega
                  have hlen : (ys ++ List.replicate k (q : Int)).length ≤ 4 * 52 + 4 := by rw [List.length_append, List.length_replicate]; omega
                  have HR := Lib.hid (rep_snoc k (q : Int))
                  obtain ⟨zs, ez⟩ : ∃ zs, zs = ys ++ List.replicate k (q : Int) := ⟨_, rfl⟩
                  rw [← ez] at HG hlen
                  have EZ := Lib.hid ez
                  clear ez
                  go_wp2_with (at_builtin; refine wpList_append_own _ rfl _ _ 22 rfl w1.heap.size 2 i0 (.int .i64 0) 1 8 Tryd.underlying22 hi hz0 hz1 hz2 rfl (by decide) _ _ _ rfl (HG.out.1.alloc _) ⟨wr.heap.size, 0, none⟩ 1 1 [.int .i64 q] rfl rfl ?c1 ?c2 ?c3 ?c4 ?c5 ?_)
                  case c1 =>
                    intro j' u hj'
                    match j', hj' with
                    | 0, hj' => simp at hj'; subst hj'; simp [Addr.add]
                  case c2 => intro u hu; simp at hu; subst hu; rfl
                  case c3 => unfold maxLen; omega
                  case c4 => omega
                  case c5 => have := HG.out.2.size; simp; omega
                  intro v' w4 hown' hgrow _
                  have HG2 := Lib.hid (grow_app HG.out hown' hgrow)
                  clear hown' hgrow
                  go_wp2_with fail
                  go_roundw
                  case rel => exact ⟨k + 1, by omega, by go_num, by rw [HR.out, ← List.append_assoc, ← EZ.out]; exact HG2⟩
                  case measure => simp [intOf] <;> omega
                · obtain rfl : k = j + 1 := by omega
                  go_wp2_with fail
                  go_roundw
                  case rel => exact ⟨q, by omega, by go_num, by rw [HX.out]; exact HG⟩
                  case measure => simp [intOf] <;> omega
            · rw [piece_no rs (j + 1) q ho, List.append_nil] at HX
              have ho' : (((occ rs (q : Int) : Nat) : Int) == (j : Int) + 1) = false := by simp; omega
              clear ho
              generalize ((occ rs (q : Int) : Nat) : Int) = y at *
              go_wp2_with fail
              go_loopw [4, 7] (fun v i wx => i = .int .i64 0 ∧ Hid (Grow w1 ys v wx)) (fun _ i _ => 0)
              case atStart => exact ⟨rfl, HS⟩
              case round =>
                obtain ⟨rfl, HG⟩ := hrel
                have hcell := HG.out.2.cell (p := ⟨b, off + q, none⟩) (World.block_lt_of_cell? _ _ hc1.out)
                rw [hc1.out] at hcell
                have hj0 : (0 : Int) < (j : Int) + 1 := by omega
                go_wp2_with fail
                go_roundw
                case rel => exact ⟨q, by omega, by go_num, by rw [HX.out]; exact HG⟩
                case measure => simp [intOf] <;> omega
end Go.Proofs.YtcbfmfkahgfjkaaDoor
