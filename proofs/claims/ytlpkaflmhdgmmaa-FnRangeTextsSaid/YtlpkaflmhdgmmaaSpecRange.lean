/-
  The model's ReadRange.
-/
import Derived.Test.YtlpkaflmhdgmmaaSpecPartEnd
import Derived.Test.YtlpkaflmhdgmmaaPartWalk
import Derived.Test.YtlpkaflmhdgmmaaRngSets
namespace Go.Proofs.Ytlpkaflmhdgmmaa
open Go.RowKit
set_option linter.unusedVariables false

theorem prt_some {l : List UInt8} (h : prtB l = true) : ∃ x, partM l = some x ∧ prtR l = rowG x := by
  unfold prtB at h
  cases hx : partM l with
  | none => rw [hx] at h; cases h
  | some x => exact ⟨x, rfl, (prt_yes hx).1⟩
theorem prt_none {l : List UInt8} (h : prtB l = false) : partM l = none := by
  unfold prtB at h
  cases hx : partM l with
  | none => rfl
  | some x => rw [hx] at h; cases h
theorem prt_len (l : List UInt8) : (prtR l).length ≤ 26 := by
  cases hx : partM l with
  | none => rw [(prt_no hx).1]; simp
  | some x => rw [(prt_yes hx).1]; exact rowG_len (partM_ok hx)
set_option maxRecDepth 100000 in
set_option maxHeartbeats 4000000 in
theorem specReadRange_long (l : List UInt8) (w : World) (hl : 800 < l.length) :
    Calls Try.prog 11 #[strV l] w (NewLC [] 3 w) := by
  have hs : (⟨l.toArray⟩ : ByteArray).size = l.length := by show l.toArray.size = _; simp
  have e1 : (800 : Int) < (l.length : Int) := by omega
  go_enter Try.func11, Try.ntmps11
  go_wp2_with fail
  go_ret2
  exact newLC_nil (bl_refl _)
set_option maxRecDepth 100000 in
set_option maxHeartbeats 4000000 in
theorem specReadRange_in (l : List UInt8) (w : World) (hl : l.length ≤ 800) :
    Calls Try.prog 11 #[strV l] w (NewLC (rdR l) (rdC l) w) := by
  have hs : (⟨l.toArray⟩ : ByteArray).size = l.length := by show l.toArray.size = _; simp
  have e1 : ¬ (800 : Int) < (l.length : Int) := by omega
  have KS : Hid (∀ W, Calls Try.prog 30 #[strV l, .int .u8 44] W (CutB (splitB 44 l) W)) := Lib.hid (fun W => splitB_of 44 l W (by omega))
  have hlen : (splitB 44 l).length ≤ l.length + 1 := (split_start l).2.2.2
  have HBAD := Lib.hid (fun p hp hx => @rd_bad l hl p hp hx)
  have HYES := Lib.hid (fun ho => @rd_yes l hl ho)
  have hn : (splitB 44 l).length ≤ 801 := by omega
  have KP : Hid (∀ p ∈ splitB 44 l, ∀ W, Calls Try.prog 31 #[strV p] W (NewLB (prtR p) (prtB p) W)) := Lib.hid (fun p hp W => l08Part_any p W (by have := pieceB_len 44 l p hp; omega))
  generalize splitB 44 l = ps at *
  obtain ⟨R, eR⟩ : ∃ R, R = rdR l := ⟨_, rfl⟩
  obtain ⟨C, eC⟩ : ∃ C, C = rdC l := ⟨_, rfl⟩
  rw [← eR, ← eC] at HBAD HYES ⊢
  clear hlen hl eR eC
  go_enter Try.func11, Try.ntmps11
  go_wp2_with (go_at_call 30; ((with_reducible refine (KS.out _).mono ?_); rintro e w1 ⟨g, cap, rfl, hcell, hg, hb1⟩; have B1 := Lib.hid hb1; have HCE := Lib.hid hcell; have HG1 := Lib.hid hg; have HS1 := Lib.hid (grow_start w1); clear hcell hb1 hg KS))
  go_loopw [5, 6] (fun v i wr => ∃ k : Nat, k ≤ ps.length ∧ i = .int .i64 k ∧ Hid (okK ps k) ∧ Hid (Grow w1 (accK ps k) v wr)) (fun _ i _ => ps.length - (intOf i).toNat)
  case atStart => exact ⟨0, Nat.zero_le _, rfl, Lib.hid (okK_zero ps), by rw [accK_zero]; exact HS1⟩
  case round =>
    obtain ⟨k, hk, rfl, ho, hs2⟩ := hrel
    have HAL := Lib.hid (accK_len (ps := ps) k)
    by_cases hlt : k < ps.length
    · have hlt' : (k : Int) < ps.length := by omega
      have hc : wr.cell? ⟨g, k, none⟩ = some (strV ps[k]) := ((bcell hs2.out.2).1 g k HG1.out).trans (HCE.out k _ (List.getElem?_eq_getElem hlt))
      have hmem := List.getElem_mem hlt
      have KP1 := Lib.hid (KP.out _ hmem)
      have HB1 := Lib.hid (HBAD.out _ hmem)
      have HNX : Hid (∀ x, partM ps[k] = some x → accK ps (k + 1) = accK ps k ++ rowG x ∧ okK ps (k + 1)) := Lib.hid (fun x hx => ⟨accK_succ ps k hlt hx, okK_succ ho.out hlt hx⟩)
      have HPL := Lib.hid (prt_len ps[k])
      have HPS : Hid (prtB ps[k] = true → ∃ x, partM ps[k] = some x ∧ prtR ps[k] = rowG x) := Lib.hid prt_some
      have HPN : Hid (prtB ps[k] = false → partM ps[k] = none) := Lib.hid prt_none
      generalize ps[k] = p at *
      rcases hb : prtB p with _ | _
      · have HE := Lib.hid (HB1.out (HPN.out hb))
        rw [hb] at KP1
        clear hb hmem
        go_wp2_with (go_at_call 31; ((with_reducible refine (KP1.out _).mono ?_); rintro e w2 ⟨A2, c2, rfl, ho2, hb2⟩; have B2 := Lib.hid hb2; clear ho2 hb2))
        go_ret2
        rw [HE.out.1, HE.out.2]
        exact newLC_nil (bl_trans (bl_trans B1.out hs2.out.2) B2.out)
      · obtain ⟨x, hx, hr⟩ := HPS.out hb
        have HE := Lib.hid (HNX.out x hx)
        rw [← hr] at HE
        rw [hb] at KP1
        clear hb hmem hx hr
        generalize prtR p = zs at *
        go_wp2_with (first
          | (go_at_call 31; ((with_reducible refine (KP1.out _).mono ?_); rintro e w2 ⟨A2, c2, rfl, ho2, hb2⟩; have B2 := Lib.hid hb2; have O2 := Lib.hid ho2; have G2 := Lib.hid (hs2.out.1.below hb2); clear ho2 hb2))
          | (at_builtin; refine wpList_glue (.tmp 31) (.tmp 32) rfl rfl w1.heap.size u5 (accK ps k) zs A2 c2 rfl G2.out rfl O2.out.rd (by have := HAL.out; have := HPL.out; omega) (Nat.le_trans hs2.out.2.size B2.out.size) ?_))
        intro A3 c3 ws w3 ew ho3 hg3 _
        have HG3 : Hid (Grow w1 (accK ps (k + 1)) (.slice A3 ws.length c3) w3) := Lib.hid (by
          rw [HE.out.1, ← ew.out]
          exact ⟨ho3, bl_app (bl_trans hs2.out.2 B2.out) G2.out (Nat.le_refl _) hg3⟩)
        clear ho3 hg3 ew
        go_wp2_with fail
        go_roundw
        case rel => exact ⟨k + 1, by omega, by go_num, Lib.hid HE.out.2, HG3⟩
        case measure => simp [intOf]; omega
    · obtain rfl : k = ps.length := by omega
      have HE := Lib.hid (HYES.out ho.out)
      obtain ⟨A, cc, rfl, hOwn⟩ := own_form hs2.out.1
      have HW := Lib.hid hOwn
      have KR := Lib.hid (l08Range_any A cc _ wr HW.out.rd (by have := HAL.out; omega))
      generalize accK ps ps.length = ys at *
      clear hOwn
      go_wp2_with (go_at_call 32; ((with_reducible refine KR.out.mono ?_); rintro e w4 ⟨A4, c4, rfl, ho4, hb4⟩; have B4 := Lib.hid hb4; have O4 := Lib.hid ho4; clear ho4 hb4))
      go_ret2
      rw [HE.out.1, HE.out.2]
      exact ⟨A4, c4, rfl, O4.out.less (bl_trans B1.out hs2.out.2).size, bl_trans (bl_trans B1.out hs2.out.2) B4.out⟩
theorem specReadRange_any (s : ByteArray) (w : World) (hs : s.size ≤ 2000000) :
    Calls Try.prog 11 #[.string s] w (NewLC (rdR s.data.toList) (rdC s.data.toList) w) := by
  obtain ⟨⟨l⟩⟩ := s
  show Calls _ _ #[strV l] w (NewLC (rdR l) (rdC l) w)
  by_cases h : l.length ≤ 800
  · exact specReadRange_in l w h
  · have e := rd_long (l := l) (by omega)
    rw [e.1, e.2]
    exact specReadRange_long l w (by omega)
end Go.Proofs.Ytlpkaflmhdgmmaa
