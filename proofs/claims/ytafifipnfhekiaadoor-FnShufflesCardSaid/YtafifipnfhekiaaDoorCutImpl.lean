/-
  CutDeck: the program's walk.
-/
import Derived.Test.YtafifipnfhekiaaDoorDeckAns
import Derived.Test.YtafifipnfhekiaaDoorRearrCut
namespace Go.Proofs.YtafifipnfhekiaaDoor
open Go.RowKit
set_option linter.unusedVariables false

set_option maxHeartbeats 400000 in
theorem cutFn_any (p n q : Nat) (w : World) (h : p < 52) (hn : n ≤ 52) (hc : w.cell? ⟨q, 0, none⟩ = some (.int .i64 n)) :
    Calls Tryd.prog 31 #[.int .i64 p, .pointer (some ⟨q, 0, none⟩)] w (Same (.int .i64 (cutF n p : Nat)) w) := by
  have h' : (p : Int) < 52 := by omega
  have hn' : (n : Int) ≤ 52 := by omega
  go_enter Tryd.func31, Tryd.ntmps31
  go_wp2
  go_ret
  exact ⟨ret_int (by unfold cutF; omega), rfl⟩

set_option maxRecDepth 100000 in
set_option maxHeartbeats 1000000 in
theorem implCut_any (A : Option Addr) (c : Nat) (xs : List Int) (n : Int) (w : World) (hr : Rd w A xs) (hn : xs.length ≤ 4000000) :
    Calls Tryd.prog 10 #[.slice A xs.length c, .int .i64 n] w (NewRC (cutR xs n) (codeD xs (inB n 0 52)) w) := by
  have K := Lib.hid (fun (c : Nat) (W : World) (hb : Below w.heap.size w W) => implIsDeck_any A c xs W (hr.below hb) hn)
  have K1 := Lib.hid (fun W : World => isCount_any n W)
  have B1 := Lib.hid (bl_alloc (bl_refl w) (.cells #[.int .i64 n] 2))
  rcases hd : deckB xs with _ | _
  · rw [cutR_no n hd, codeD_no hd]
    rw [hd] at K
    clear hd hr
    go_enter Tryd.func10, Tryd.ntmps10
    go_wp2_with (go_at_call 16; refine (K.out _ _ B1.out).mono ?_; rintro e w1 ⟨rfl, rfl⟩)
    go_ret2
    exact ⟨none, 0, rfl, Row.nil _ _, B1.out⟩
  · rw [hd] at K
    rcases hx : inB n 0 52 with _ | _
    · rw [cutR_out xs hx, codeD_rng hd]
      rw [hx] at K1
      clear hd hr hx
      go_enter Tryd.func10, Tryd.ntmps10
      go_wp2_with (first
        | (go_at_call 16; refine (K.out _ _ B1.out).mono ?_; rintro e w1 ⟨rfl, rfl⟩)
        | (go_at_call 30; refine (K1.out _).mono ?_; rintro e w1 ⟨rfl, rfl⟩))
      go_ret2
      exact ⟨none, 0, rfl, Row.nil _ _, B1.out⟩
    · rw [cutR_yes hd hx, codeD_yes hd]
      rw [hx] at K1
      obtain ⟨h0, h1⟩ := count_bd hx
      obtain ⟨m, rfl⟩ := Int.eq_ofNat_of_zero_le h0
      have hl := ((deck_iff xs).1 hd).1
      obtain ⟨b, off, rfl, hc⟩ := (hr.below B1.out) (by omega)
      have HC := Lib.hid (rd_range hc)
      have HL := Lib.hid hl
      have HP := Lib.hid (perm_length (cutF m) xs)
      have HQ : (w.alloc (.cells #[.int .i64 (m : Int)] 2)).cell? ⟨w.heap.size, 0, none⟩ = some (.int .i64 m) := by simp [go_sem]
      have K2 := Lib.hid (cut_walk (cutF m) w.heap.size xs (w.alloc (.cells #[.int .i64 (m : Int)] 2)) hl (fun p _ => cutF_lt m p) (Lib.hid (fun p W hp hb => cutFn_any p m w.heap.size W hp (by omega) ((hb.cell (p := ⟨w.heap.size, 0, none⟩) (by simp)).trans HQ))))
      simp only [hl, Int.toNat_natCast] at K ⊢
      have hsa := run_arrayAt b off c
      have hmf : ∀ (fn : Fn) (first cap : Array Value) (w : World), (Instr.makeFunc fn first cap).run Tryd.prog w = .ok (.func fn first cap) w := fun _ _ _ _ => rfl
      clear hd hr hc hl hn hx h0 h1 HQ
      generalize perm (cutF m) xs = ys at *
      go_enter Tryd.func10, Tryd.ntmps10
      go_wp2_with (first
        | (go_at_call 16; refine (K.out _ _ B1.out).mono ?_; rintro e w1 ⟨rfl, rfl⟩)
        | (go_at_call 30; refine (K1.out _).mono ?_; rintro e w1 ⟨rfl, rfl⟩)
        | (with_reducible refine wpList_load_arr rfl (.tmp 15) rfl b off rfl xs HL.out HC.out ?_)
        | (go_at_call 32; refine K2.out.mono ?_; rintro e w1 ⟨rfl, hb⟩; have HB := Lib.hid hb; clear hb)
        | (go_at_call 25; refine (deckList_any ys _).mono ?_; rintro e w2 ⟨rfl, rfl⟩))
      go_ret2
      have HB2 := bl_trans B1.out HB.out
      refine ⟨some ⟨w1.heap.size, 0, none⟩, 52, ?_, Row.of_arr (arr_new w1 ys) HB2.size, bl_alloc HB2 _⟩
      rw [HP.out]
      rfl

end Go.Proofs.YtafifipnfhekiaaDoor
