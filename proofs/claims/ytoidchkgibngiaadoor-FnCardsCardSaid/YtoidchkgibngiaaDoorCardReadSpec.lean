/-
  The model's l02Find and ReadCards.
-/
import Derived.Test.YtoidchkgibngiaaDoorCardReadImpl
import Derived.Test.YtoidchkgibngiaaDoorSpecAre
import Derived.IntWalk
namespace Go.Proofs.YtoidchkgibngiaaDoor
open Go.RowKit
set_option linter.unusedVariables false

theorem u8_ne {a b : UInt8} (h : a ≠ b) : ((a.toNat : Int) == (b.toNat : Int)) = false := by
  have : a.toNat ≠ b.toNat := fun e => h (UInt8.toNat_inj.1 e)
  simp; omega
set_option maxRecDepth 100000 in
set_option maxHeartbeats 1000000 in
theorem find_any (s : ByteArray) (c : UInt8) (w : World) (hs : s.size ≤ 2000000) :
    Calls Tryd.prog 32 #[.string s, .int .u8 c.toNat] w (Same (.int .i64 (Lib.indexByte s.data.toList c)) w) := by
  go_enter Tryd.func32, Tryd.ntmps32
  go_wp2_with fail
  go_loop [5] (fun i => ∃ k : Nat, k ≤ s.size ∧ i = .int .i64 k ∧ Hid (∀ i (h : i < s.data.toList.length), i < k → s.data.toList[i] ≠ c)) (fun i => s.size - (intOf i).toNat)
  case atStart => exact ⟨0, Nat.zero_le _, rfl, Lib.hid (fun i _ hi => absurd hi (by omega))⟩
  case round =>
    obtain ⟨k, hk, rfl, hS⟩ := hrel
    by_cases hlt : k < s.size
    · by_cases hc : s[k] = c
      · have HI := Lib.hid (idx_at s.data.toList c k hlt hc hS.out)
        have hq : ((s[k].toNat : Int) == (c.toNat : Int)) = true := by rw [hc]; simp
        clear hc
        go_wp2_with fail
        go_ret
        exact ⟨ret_int HI.out.symm, rfl⟩
      · have hq := u8_ne hc
        have HN : Hid (∀ i (h : i < s.data.toList.length), i < k + 1 → s.data.toList[i] ≠ c) := Lib.hid (fun i h hi => by
          by_cases e : i = k
          · subst e; exact hc
          · exact hS.out i h (by omega))
        clear hc
        go_wp2_with fail
        go_round
        case rel => exact ⟨k + 1, by omega, by go_num, HN⟩
        case measure => simp [intOf]; omega
    · have HI := Lib.hid (idx_none s.data.toList c (fun i h => hS.out i h (by have : s.data.toList.length = s.size := rfl
                                                                              omega)))
      go_wp2_with fail
      go_ret
      exact ⟨ret_int HI.out.symm, rfl⟩
theorem same_back {f : FuncId} {args : Array Value} {v : Value} {W : World} (h : Calls Tryd.prog f args W (Same v W)) : Calls Tryd.prog f args W fun e w' => e = .returned v ∧ w' = W := h.mono fun _ _ ⟨he, hw⟩ => ⟨he, hw.symm⟩
theorem alloc_head (w : World) (u : Value) (t : TypeId) : (w.alloc (.cells #[u] t)).cell? ⟨w.heap.size, 0, none⟩ = some u := by simp [go_sem]
theorem grow_app' {ys : List Int} {w wr w1 : World} {v v' : Value} {o : Obj} {x : Int} {m : Nat} (h : Grow w ys v wr) (hown : w1.ownsRow w.heap.size 2 1 v' (ys.length + 1) (ints ys ++ [.int .i64 x])) (hgrow : ((wr.drewN m).alloc o).grownBy w1 v.ownBlock) : Grow w (ys ++ [x]) v' w1 :=
  ⟨own_app hown, (bl_alloc (bl_drewN h.2 m) o).grown hgrow (by simp; exact Nat.le_succ_of_le h.2.size) (fun j hj => (World.ownsRow.lt h.1 j hj).1)⟩
theorem find_rank (c : UInt8) (w : World) :
    Calls Tryd.prog 32 #[.string ⟨#[50, 51, 52, 53, 54, 55, 56, 57, 84, 74, 81, 75, 65]⟩, .int .u8 c.toNat] w (Same (.int .i64 (Lib.indexByte rankL c)) w) := find_any _ c w (by decide)
theorem find_suit (c : UInt8) (w : World) :
    Calls Tryd.prog 32 #[.string ⟨#[99, 100, 104, 115]⟩, .int .u8 c.toNat] w (Same (.int .i64 (Lib.indexByte suitL c)) w) := find_any _ c w (by decide)

set_option maxRecDepth 100000 in
set_option maxHeartbeats 2000000 in
theorem specRead_any (s : ByteArray) (w : World) (hs : s.size ≤ 2000000) :
    Calls Tryd.prog 11 #[.string s] w (NewLC (readL s.data.toList) (codeS s.data.toList) w) := by
  obtain ⟨i0, hi, hz0, hz1, hz2⟩ := info_parts infoInt
  obtain ⟨n, hn⟩ : ∃ n, n = s.size / 2 := ⟨_, rfl⟩
  have HN := Lib.hid hn
  clear hn
  obtain ⟨w0, rfl⟩ : ∃ w0 : World, w0 = w := ⟨w, rfl⟩
  go_enter Tryd.func11, Tryd.ntmps11
  go_wp2_with fail
  go_loopw [4, 5] (fun v i wr => ∃ k j : Nat, k ≤ n ∧ Hid (j = 2 * k) ∧ j ≤ s.size ∧ i = .int .i64 j ∧ Hid (Grow w0 (prs s.data.toList k) v wr) ∧ Hid (oks s.data.toList k)) (fun _ i _ => s.size - (intOf i).toNat)
  case atStart => exact ⟨0, 0, Nat.zero_le _, Lib.hid rfl, Nat.zero_le _, rfl, Lib.hid (grow_start w0), Lib.hid (fun j hj => absurd hj (by omega))⟩
  case round =>
    obtain ⟨k, j, hk, ej, hjs, rfl, hS, hO⟩ := hrel
    by_cases hlt1 : j + 1 < s.size
    · have hlt : j < s.size := by omega
      have hl1 : (j : Int) + 1 < s.size := by omega
      have hl2 : ((j : Int) + 1).toNat = j + 1 := by omega
      have hlen := Lib.hid (prs_length s.data.toList k)
      have hkn : k < n := by have := ej.out; have := HN.out; omega
      have hns : n ≤ 1000000 := by have := HN.out; omega
      obtain ⟨r, er⟩ : ∃ r, r = rAt s.data.toList k := ⟨_, rfl⟩
      obtain ⟨q, eq⟩ : ∃ q, q = sAt s.data.toList k := ⟨_, rfl⟩
      have ER := Lib.hid er
      have EQ := Lib.hid eq
      have hrb : -1 ≤ r ∧ r ≤ 12 := by rw [er]; exact rAt_bd _ _
      have hqb : -1 ≤ q ∧ q ≤ 3 := by rw [eq]; exact sAt_bd _ _
      clear er eq
      have K1 : Hid (∀ W, Calls Tryd.prog 32 #[.string ⟨#[50, 51, 52, 53, 54, 55, 56, 57, 84, 74, 81, 75, 65]⟩, .int .u8 s[j].toNat] W (fun e w' => e = .returned (.int .i64 r) ∧ w' = W)) := Lib.hid (fun W => by
        have := find_rank s[j] W
        rw [rAt_of s k j ej.out hlt, ← ER.out] at this; exact same_back this)
      have K2 : Hid (∀ W, Calls Tryd.prog 32 #[.string ⟨#[99, 100, 104, 115]⟩, .int .u8 s[j + 1].toNat] W (fun e w' => e = .returned (.int .i64 q) ∧ w' = W)) := Lib.hid (fun W => by
        have := find_suit s[j + 1] W
        rw [sAt_of s k j ej.out hlt1, ← EQ.out] at this; exact same_back this)
      by_cases hok : 0 ≤ r ∧ 0 ≤ q
      · obtain ⟨hr0, hq0⟩ := hok
        obtain ⟨hr1, hr2⟩ := hrb
        obtain ⟨hq1, hq2⟩ := hqb
        have HO2 := Lib.hid (oks_snoc hO.out (by rw [← ER.out]; exact hr0) (by rw [← EQ.out]; exact hq0))
        clear hr1 hq1
        have hwr : IntKind.i64.wrap ((j : Int) + 1) = (j : Int) + 1 := IntWalk.i64_in _ (by omega)
        have hp0 : (0 : Int) ≤ (j : Int) + 1 := by omega
        have HA : Hid (∀ (o : Obj) (m : Nat), ((wr.alloc o).drewN m).ownsRow w0.heap.size 2 1 _ (prs s.data.toList k).length (ints (prs s.data.toList k))) := Lib.hid (fun o m => hS.out.1.alloc o)
        go_wp2_with fail
        go_quiet ((go_at_call 32; first | (with_reducible exact Calls.quiet_of_same (K1.out _)) | (with_reducible exact Calls.quiet_of_same (K2.out _))))
        clear hwr
        go_wp2_with (at_builtin; refine wpList_append_own _ rfl _ _ 24 rfl w0.heap.size 2 i0 (.int .i64 0) 1 8 Tryd.underlying24 hi hz0 hz1 hz2 rfl (by decide) _ _ _ rfl (HA.out _ _) ⟨wr.heap.size, 0, none⟩ 1 1 [.int .i64 (4 * r + q)] rfl rfl ?c1 ?c2 ?c3 ?c4 ?c5 ?_)
        case c1 =>
          intro i u hj
          match i, hj with
          | 0, hj => simp at hj; subst hj; simp only [Addr.add, if_true]; exact alloc_head (wr.drewN _) _ _
        case c2 => intro u hu; simp at hu; subst hu; rfl
        case c3 => have := hlen.out; unfold maxLen; omega
        case c4 => have := hlen.out; omega
        case c5 => have := hS.out.2.size; simp; omega
        intro v' w3 hown' hgrow _
        have HG : Hid (Grow w0 (prs s.data.toList (k + 1)) v' w3) := Lib.hid (by
          have := grow_app' hS.out hown' hgrow
          rw [ER.out, EQ.out] at this
          rw [prs_snoc]; exact this)
        clear hown' hgrow
        go_wp2_with fail
        go_roundw
        case rel => exact ⟨k + 1, j + 2, by omega, Lib.hid (by have := ej.out; omega), by omega, by go_num, HG, HO2⟩
        case measure => simp [intOf]; omega
      · have HG := Lib.hid (good_bad s k (by have := ej.out; omega) (by rw [← ER.out, ← EQ.out]; exact hok))
        have hwr : IntKind.i64.wrap ((j : Int) + 1) = (j : Int) + 1 := IntWalk.i64_in _ (by omega)
        have hp0 : (0 : Int) ≤ (j : Int) + 1 := by omega
        by_cases hr0 : 0 ≤ r
        · have hq0 : q < 0 := by omega
          clear hok hrb hqb
          go_wp2_with fail
          go_quiet ((go_at_call 32; first | (with_reducible exact Calls.quiet_of_same (K1.out _)) | (with_reducible exact Calls.quiet_of_same (K2.out _))))
          clear hwr
          go_wp2_with fail
          go_ret2
          exact newLC_syn w0 _ HG.out (bl_drewN hS.out.2 _)
        · clear hok hrb hqb
          go_wp2_with fail
          go_quiet ((go_at_call 32; first | (with_reducible exact Calls.quiet_of_same (K1.out _)) | (with_reducible exact Calls.quiet_of_same (K2.out _))))
          clear hwr
          go_wp2_with fail
          go_ret2
          exact newLC_syn w0 _ HG.out (bl_drewN hS.out.2 _)
    · have hkn : k = n := by have := ej.out; have := HN.out; omega
      have hlen := Lib.hid (prs_length s.data.toList k)
      obtain ⟨A, cc, rfl, hOwn⟩ := own_form hS.out.1
      have HW := Lib.hid hOwn
      have hl4 : (prs s.data.toList k).length ≤ 4000000 := by have := hlen.out; have := HN.out; omega
      have K4 := Lib.hid (fun c => specAre_any A c _ wr HW.out.rd hl4)
      have hl1 : (s.size : Int) ≤ (j : Int) + 1 := by omega
      by_cases hodd : s.size % 2 = 1
      · have e1 : (s.size : Int) % 2 = 1 := by omega
        have HG := Lib.hid (newLC_syn w0 s.data.toList (good_no (fun hh => by
          have := hh.1
          have : s.data.toList.length = s.size := rfl
          omega)) hS.out.2)
        clear hOwn hkn hodd
        go_wp2_with fail
        go_ret2
        exact HG.out
      · have e1 : (s.size : Int) % 2 = 0 := by omega
        have HE := Lib.hid (good_end s k (by have := HN.out; omega) hO.out)
        have HK : Hid (s.size / 2 = k) := Lib.hid (by have := HN.out; omega)
        have HR : Hid (goodB s.data.toList = true → readL s.data.toList = prs s.data.toList k) := Lib.hid (fun h => by
          rw [readL_yes h, show s.data.toList.length / 2 = k from HK.out])
        clear hOwn hkn hodd
        generalize prs s.data.toList k = ys at *
        rcases hb : cardsB ys with _ | _
        · have HG := Lib.hid (HE.out.trans hb)
          rw [hb] at K4
          clear hb
          go_wp2_with (go_at_call 25; refine (K4.out _).mono ?_; rintro e w2 ⟨rfl, hb2⟩; have B2 := Lib.hid (bl_trans hS.out.2 hb2); clear hb2)
          go_ret2
          exact newLC_syn w0 _ HG.out B2.out
        · have hg := HE.out.trans hb
          have HG : Hid (readL s.data.toList = ys ∧ codeS s.data.toList = 0) := Lib.hid ⟨HR.out hg, codeS_yes hg⟩
          rw [hb] at K4
          clear hb hg
          go_wp2_with (go_at_call 25; refine (K4.out _).mono ?_; rintro e w2 ⟨rfl, hb2⟩; have B2 := Lib.hid hb2; clear hb2)
          go_ret2
          rw [HG.out.1, HG.out.2]
          exact ⟨_, _, rfl, HW.out.below B2.out, bl_trans hS.out.2 B2.out⟩
end Go.Proofs.YtoidchkgibngiaaDoor
