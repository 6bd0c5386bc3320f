/-
  l02Deal: different cards that are not in a list.
-/
import Derived.Test.YtcbfmfkahgfjkaaDoorDeal
namespace Go.Proofs.YtcbfmfkahgfjkaaDoor
open Go.RowKit
set_option linter.unusedVariables false

/-- What l02Deal leaves: so many of the other cards, each once. -/
def DealP (bs : List Int) (n : Nat) (w : World) (s : Nat) (a : Option Addr) (L c : Nat) (zs : Nat → Int) (e : Ending) (w' : World) : Prop :=
  ∃ (xs : List Int) (A : Option Addr) (cc : Nat), e = .returned (.slice A xs.length cc) ∧ Own w' w.heap.size (.slice A xs.length cc) xs ∧ Src w' s a L c zs ∧ Only s w w' ∧ (∃ rs, (xs ++ rs).Perm (othersN 52 bs)) ∧ (xs.length = n ∨ ((othersN 52 bs).length ≤ n ∧ xs.length = (othersN 52 bs).length))
theorem deal_step_perm {os rs ws rs0 : List Int} {k : Nat} (hk : k < rs.length) (h : (os ++ rs).Perm rs0) (e : ws = rs.take k ++ rs.drop (k + 1)) : ((os ++ [nth rs k]) ++ ws).Perm rs0 := by
  refine List.Perm.trans ?_ h
  rw [e, List.append_assoc]
  refine List.Perm.append_left os ?_
  have e2 : rs = rs.take k ++ nth rs k :: rs.drop (k + 1) := by
    rw [nth_eq _ _ hk, ← List.drop_eq_getElem_cons hk, List.take_append_drop]
  conv => rhs; rw [e2]
  show (nth rs k :: (rs.take k ++ rs.drop (k + 1))).Perm _
  exact List.perm_middle.symm
set_option maxRecDepth 100000 in
set_option maxHeartbeats 2000000 in
theorem deal_perm (s : Nat) (n : Nat) (B : Option Addr) (cB : Nat) (bs : List Int) (a : Option Addr) (L c : Nat) (zs : Nat → Int) (w : World) (hn : n ≤ 1000) (hr : Rd w B bs) (hbl : bs.length ≤ 4000000) (h : Src w s a L c zs) :
    Calls Tryd.prog 93 #[.pointer (some ⟨s, 0, none⟩), .int .i64 n, .slice B bs.length cB] w (DealP bs n w s a L c zs) := by
  have HS := src_lt h
  have HB := Lib.hid (codeB_of h)
  have KO := Lib.hid (fun W (hb : Below w.heap.size w W) => others_any B cB bs W (hr.below hb) hbl)
  have hol := othersN_len 52 bs
  have HRG := Lib.hid (othersN_rng 52 bs)
  have H := Lib.hid h
  clear h hr
  obtain ⟨w0, rfl⟩ : ∃ w0 : World, w0 = w := ⟨w, rfl⟩
  obtain ⟨i0, hi, hz0, hz1, hz2⟩ := info_parts infoInt
  go_enter Tryd.func93, Tryd.ntmps93
  go_wp2_with (go_at_call 102; refine (KO.out _ (bl_refl _)).mono ?_; rintro e w1 ⟨A1, c1, rfl, ho1, hb1⟩)
  generalize hrs : othersN 52 bs = rs0 at *
  have ERS := Lib.hid hrs
  clear hrs
  have HD : Hid (Deals w0 s a L c zs rs0 [] (.slice A1 rs0.length c1) (.slice (some ⟨w1.heap.size, 0, none⟩) 0 0) (w1.alloc (.cells #[] 2))) := Lib.hid
    ⟨ho1.below (bl_alloc (bl_refl _) _), World.ownsRow_made w1 #[] 0 hb1.size (by unfold maxLen; omega) rfl,
     apart_new (u := .slice (some ⟨w1.heap.size, 0, none⟩) 0 0) (ys := []) ho1 (World.ownsRow_made w1 #[] 0 (Nat.le_refl _) (by unfold maxLen; omega) rfl) (Nat.le_refl _),
     (H.out.below hb1).below (bl_alloc (bl_refl _) _), only_alloc (only_below hb1) _, by simpa using hol, HRG.out, fun x hx => by simp at hx⟩
  clear ho1 hb1 hol
  go_loopw [1, 7, 8] (fun q r v wr => ∃ (q' : Int) (rs os : List Int) (A' : Option Addr) (c' : Nat), q = .int .i64 q' ∧ q' ≤ 1000 ∧ 0 ≤ q' ∧ r = .slice A' rs.length c' ∧ rs.length ≤ 52 ∧ Hid (Deals w0 s a L c zs rs os (.slice A' rs.length c') v wr) ∧ Hid ((os ++ rs).Perm rs0 ∧ (os.length : Int) + q' = n)) (fun q _ _ _ => (intOf q + 2000).toNat)
  case atStart => exact ⟨n, rs0, [], A1, c1, rfl, by omega, by omega, rfl, by have := HD.out.len; simp at this; omega, HD, Lib.hid ⟨by rw [List.nil_append], by simp⟩⟩
  case round =>
    obtain ⟨q, rs, os, A', c', rfl, hq1, hq2, rfl, hrl, hd, hpm⟩ := hrel
    have hlen := hd.out.len
    by_cases hq0 : 0 < q
    · by_cases hl : 0 < rs.length
      · obtain ⟨g, rfl, hlo, hg, hcap, hmax⟩ := own_some hd.out.rest hl
        have hl' : (0 : Int) < rs.length := by omega
        have KN := Lib.hid (next_pos s rs.length a L c zs wr (by omega) (by omega) hd.out.src)
        unfold maxLen at hmax
        go_wp2_with (first
          | (go_at_call 66; refine KN.out.mono ?_; rintro e w2 ⟨x, rfl, x0, x1, hs2, ho2⟩; obtain ⟨k, rfl⟩ := Int.eq_ofNat_of_zero_le x0; have hk : k < rs.length := (by omega); have D2 := Lib.hid (deals_next hd.out HS hs2 ho2); have hc2 := own_cell D2.out.rest k hk; clear hs2 ho2 x0 x1 hg)
          | (at_builtin; refine wpList_append_lies _ rfl _ _ 22 rfl w0.heap.size 2 i0 (.int .i64 0) 1 8 Tryd.underlying22 hi hz0 hz1 hz2 rfl (by decide) _ _ _ rfl (D2.out.out.alloc _) ⟨w2.heap.size, 0, none⟩ 1 1 [.int .i64 (nth rs k)] rfl rfl ?c1 ?c2 (Nat.succ_pos 0) ?c3 ?c4 ?c5 _ rfl ?_))
        case c1 =>
          intro j u hj
          match j, hj with
          | 0, hj => simp at hj; subst hj; simp [Addr.add]
        case c2 => intro u hu; simp at hu; subst hu; rfl
        case c3 => unfold maxLen; omega
        case c4 => omega
        case c5 => have := D2.out.only.size; simp; omega
        intro g2 cap2 w3 hown3 hgrow3 _ _
        have P3 := Lib.hid (deals_put D2.out HS HB.out (nth_mem rs k hk) hown3 hgrow3)
        clear hown3 hgrow3
        obtain ⟨A3, hA3, hnews⟩ := cut_at w3 g w0.heap.size c' k rs P3.out.rest hk
        have HN3 := Lib.hid hnews
        have hic : k ≤ c' := by omega
        have hwr : IntKind.i64.wrap ((k : Int) + 1) = (k : Int) + 1 := by rw [IntKind.wrap_i64]; omega
        have hp0 : (0 : Int) ≤ (k : Int) + 1 := by omega
        have hp1 : (k : Int) + 1 ≤ (rs.length : Int) := by omega
        have hp2 : ((k : Int) + 1).toNat = k + 1 := by omega
        have HOM : Hid (Own (w3.alloc (.cells #[] 2)) w3.heap.size (.slice (some ⟨w3.heap.size, 0, none⟩) 0 0) []) := Lib.hid (World.ownsRow_made w3 #[] 0 (Nat.le_refl _) (by unfold maxLen; omega) rfl)
        have HT1 : Hid ((rs.take k).length = k) := Lib.hid (by rw [List.length_take]; omega)
        have HT2 : Hid (∀ j u, (ints (rs.take k))[j]? = some u → (w3.alloc (.cells #[] 2)).cell? ((⟨g, 0, none⟩ : Addr).add j) = some u) := Lib.hid (take_cells _ g k rs hk (fun i hi => own_cell (P3.out.rest.below (bl_alloc (bl_refl _) _)) i hi))
        have HT3 : Hid (([] : List Int).length + (rs.take k).length ≤ 4000000) := Lib.hid (by rw [HT1.out]; simp; omega)
        have HT4 : Hid (w3.heap.size ≤ (w3.alloc (.cells #[] 2)).heap.size) := Lib.hid (by simp)
        have HT5 : Hid ((rs.drop (k + 1)).length = rs.length - (k + 1)) := Lib.hid (by rw [List.length_drop])
        have HT6 : Hid (∀ ws, Hid (ws = [] ++ rs.take k) → ws.length + (rs.drop (k + 1)).length ≤ 4000000) := Lib.hid (fun ws e => by rw [e.out, List.nil_append, HT1.out, HT5.out]; omega)
        have HT7 : Hid (∀ ws vs, Hid (ws = [] ++ rs.take k) → Hid (vs = ws ++ rs.drop (k + 1)) → vs.length = rs.length - 1) := Lib.hid (fun ws vs e e' => by rw [e'.out, e.out, List.nil_append, List.length_append, HT1.out, HT5.out]; omega)
        clear hnews
        go_wp2_with fail
        go_region_law (first
          | (refine step_cut rfl (.tmp 33) (.tmp 36) rfl w3.heap.size (.slice (some ⟨w3.heap.size, 0, none⟩) 0 0) [] (by simp [Act.eval]) HOM.out ⟨g, 0, none⟩ k c' (rs.take k) (by simp [Act.eval]) HT1.out HT2.out HT3.out HT4.out ?_
             intro A4 c4 ws4 w4 e4 ho4 hg4)
          | (refine step_cut rfl (.tmp 37) (.tmp 41) rfl w3.heap.size (.slice A4 ws4.length c4) ws4 ?q1 ho4 A3 (rs.length - (k + 1)) (c' - (k + 1)) (rs.drop (k + 1)) ?q2 HT5.out ?q3 ?q4 ?q5 ?q6
             case q1 => simp [Act.eval]
             case q2 => simp [Act.eval]
             case q3 => exact HN3.out _ (rest_cells (o := .cells #[] 2) P3.out.rest hg4 rfl)
             case q4 => exact HT6.out _ e4
             case q5 => exact Nat.le_trans HT4.out hg4.size
             intro A5 c5 ws5 w5 e5 ho5 hg5))
        have HWS := Lib.hid (HT7.out _ _ e4 e5)
        have HD5 : Hid (Deals w0 s a L c zs ws5 (os ++ [nth rs k]) (.slice A5 ws5.length c5) (.slice (some ⟨g2, 0, none⟩) (os.length + 1) cap2) w5) := Lib.hid (deals_cut P3.out HS HB.out (by repeat (first | exact bl_refl _ | apply bl_alloc | apply bl_drewN | apply bl_drew)) hg4 ho4 hg5 ho5 (by rw [HWS.out]; simp; omega) (fun x hx => by
          rw [e5.out, e4.out, List.nil_append] at hx
          rcases List.mem_append.1 hx with hx | hx
          · exact List.mem_of_mem_take hx
          · exact List.mem_of_mem_drop hx))
        have HP5 : Hid (((os ++ [nth rs k]) ++ ws5).Perm rs0 ∧ ((os ++ [nth rs k]).length : Int) + (q - 1) = n) := Lib.hid ⟨deal_step_perm hk hpm.out.1 (by rw [e5.out, e4.out, List.nil_append]), by have := hpm.out.2; simp; omega⟩
        clear HT1 HT2 HT3 HT4 HT5 HT6 HT7 HN3 HOM P3 D2 hwr hp0 hp1 hp2 hic hA3 e4 e5 ho4 hg4 ho5 hg5 hc2
        go_wp2_with fail
        go_roundw
        case rel => exact ⟨q - 1, ws5, os ++ [nth rs k], A5, c5, by go_num, by omega, by omega, rfl, by have := HWS.out; omega, HD5, HP5⟩
        case measure => simp [intOf]; omega
      · go_wp2_with fail
        obtain ⟨A2, c2, rfl, hO⟩ := own_form hd.out.out
        have HO := Lib.hid hO
        clear hO
        go_ret
        have hz : rs = [] := List.length_eq_zero_iff.1 (by omega)
        exact ⟨os, A2, c2, rfl, HO.out, hd.out.src, hd.out.only, ⟨rs, by rw [ERS.out]; exact hpm.out.1⟩, .inr (by rw [ERS.out]; have h1 := hpm.out.1.length_eq; have h2 := hpm.out.2; rw [hz] at h1; simp at h1; omega)⟩
    · go_wp2_with fail
      obtain ⟨A2, c2, rfl, hO⟩ := own_form hd.out.out
      have HO := Lib.hid hO
      clear hO
      go_ret
      exact ⟨os, A2, c2, rfl, HO.out, hd.out.src, hd.out.only, ⟨rs, by rw [ERS.out]; exact hpm.out.1⟩, .inl (by have := hpm.out.2; omega)⟩

end Go.Proofs.YtcbfmfkahgfjkaaDoor
