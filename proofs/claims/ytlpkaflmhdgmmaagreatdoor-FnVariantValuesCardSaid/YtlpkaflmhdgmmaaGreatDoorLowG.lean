/-
  Put together: HighInSpec, Like, LeastImpl, AceFns, LowIn6, LowIn6Fns
-/
import Derived.Test.YtlpkaflmhdgmmaaGreatDoorHighInFns
import Derived.Test.YtlpkaflmhdgmmaaGreatDoorSpecHands6
import Derived.Test.YtlpkaflmhdgmmaaGreatDoorSpecCode6
import Derived.Test.YtlpkaflmhdgmmaaGreatDoorBase
import Derived.Test.YtlpkaflmhdgmmaaGreatDoorDeuG
import Derived.Test.YtlpkaflmhdgmmaaGreatDoorIter
import Derived.Test.YtlpkaflmhdgmmaaGreatDoorRoundRegion
import Derived.Test.YtlpkaflmhdgmmaaGreatDoorAnyS
import Derived.Test.YtlpkaflmhdgmmaaGreatDoorChoiceSpec
import Derived.Test.YtlpkaflmhdgmmaaGreatDoorBestInSpec

/-! HighIn of the model. -/
namespace Go.Proofs.YtlpkaflmhdgmmaaGreatDoor
open Go.RowKit
set_option linter.unusedVariables false

set_option maxRecDepth 100000 in
set_option maxHeartbeats 4000000 in
theorem specHighIn_yes (l m : Nat) (lo : Int) (A : Option Addr) (c : Nat) (hs : List Int) (A2 : Option Addr) (c2 : Nat) (bs : List Int) (w : World) (hcz : codeH (hs.length : Int) l m (bs.length : Int) true lo hs bs = 0) (hr : Rd w A hs) (hr2 : Rd w A2 bs) (hc : hs.length ≤ c) (hc2 : bs.length ≤ c2) :
    Calls Tryz.prog 10 #[vV (hs.length : Int) l m (bs.length : Int) true lo, .slice A hs.length c, .slice A2 bs.length c2] w (Fresh (pairV (hiV l m hs bs) 0) w) := by
  obtain ⟨hvB, _⟩ := code_zero hcz
  have hcc := code_cards hcz
  obtain ⟨⟨f1, f2⟩, ⟨f3, f4⟩, ⟨f5, f6⟩, ⟨f7, f8⟩, f9⟩ := hasCards_iff.1 (isVar_cards hvB)
  have hh : hs.length ≤ 7 := by omega
  have hb7 : bs.length ≤ 7 := by omega
  have hlm : l ≤ m := by omega
  have hm5 : m ≤ 5 := by omega
  have hm64 : i64B (m : Int) := by unfold i64B; omega
  have HR := Lib.hid hr
  have HR2 := Lib.hid hr2
  have KC := Lib.hid (fun (W : World) (hb : Below w.heap.size w W) => specCode_any (hs.length : Int) l m (bs.length : Int) true lo A c hs A2 c2 bs W hm64 (HR.out.below hb) (HR2.out.below hb) (by omega) (by omega))
  rw [hcz] at KC
  have KH := Lib.hid (fun (W : World) (hb : Below w.heap.size w W) => specHands_any l m (hs.length : Int) true lo A c hs A2 c2 bs W hlm hm5 hh hb7 (HR.out.below hb) (HR2.out.below hb) hc hc2)
  have HCC := Lib.hid (hRows_cards_at hs bs l (m + 1 - l) (by omega) hcc)
  have HT := hRows_le hs bs l hh hb7 (m + 1 - l) (by omega)
  have HT2 : (m + 1 - l) * 1225 ≤ 6 * 1225 := Nat.mul_le_mul_right _ (by omega)
  have hH : (hRows hs bs l (m + 1 - l)).length ≤ 4000000 := by omega
  have ev : hiV l m hs bs = topV (fun k => hv ((hRows hs bs l (m + 1 - l)).getD k [])) (hRows hs bs l (m + 1 - l)).length := rfl
  rw [ev]
  have N0 := Lib.hid (blk_new w 25 [.int .i64 (hs.length : Int), .int .i64 (l : Int), .int .i64 (m : Int), .int .i64 (bs.length : Int), .bool true, .int .i64 lo])
  have B0 := Lib.hid (bl_alloc (bl_refl w) (.cells ([.int .i64 (hs.length : Int), .int .i64 (l : Int), .int .i64 (m : Int), .int .i64 (bs.length : Int), .bool true, .int .i64 lo] : List Value).toArray 25))
  obtain ⟨L, eL⟩ : ∃ L, L = hRows hs bs l (m + 1 - l) := ⟨_, rfl⟩
  unfold HandsFam at KH
  rw [← eL] at KH HCC hH ⊢
  have KT : Hid (∀ (A5 : Option Addr) (c5 : Nat) (AA : Nat → Option Addr) (CC : Nat → Nat) (n : Nat) (w2 : World), Fam w2 n A5 L.length (fun h => L.getD h []) AA CC → Calls Tryz.prog 33 #[.slice A5 L.length c5] w2 (Fresh (.tuple #[.int .i64 (topI (fun k => hv (L.getD k [])) L.length : Nat), .int .i64 (topV (fun k => hv (L.getD k [])) L.length)]) w2)) :=
    Lib.hid (fun A5 c5 AA CC n w2 hf => l06High_of A5 c5 n L.length (fun h => L.getD h []) AA CC (fun k => hv (L.getD k [])) w2 hf (fun k hk => (HCC.out k hk).2) hH
      (fun k hk W hb => l04Value_any (AA k) (CC k) (L.getD k []) W ((hf.below hb).row k hk).rd (HCC.out k hk).2 (HCC.out k hk).1))
  generalize topV (fun k => hv (L.getD k [])) L.length = x at *
  generalize topI (fun k => hv (L.getD k [])) L.length = ix at *
  clear hr hr2 hvB hcz hcc f1 f2 f3 f4 f5 f6 f7 f8 f9 hm64 ev HT HT2 eL HCC
  unfold vV at *
  go_enter Tryz.func10, Tryz.ntmps10
  go_wp2_with (first
    | (go_at_call 31; refine (KC.out _ B0.out).mono ?_; rintro e w1 ⟨rfl, hb1⟩; have N1 := N0.out.below hb1; have B1 := Lib.hid (bl_trans B0.out hb1); clear hb1; obtain ⟨q0, _⟩ := N1.cell 0 _ rfl; obtain ⟨q1, _⟩ := N1.cell 1 _ rfl; obtain ⟨q2, _⟩ := N1.cell 2 _ rfl; obtain ⟨q3, _⟩ := N1.cell 3 _ rfl; obtain ⟨q4, _⟩ := N1.cell 4 _ rfl; obtain ⟨q5, _⟩ := N1.cell 5 _ rfl; clear N1)
    | (go_at_call 32; refine (KH.out _ B1.out).mono ?_; rintro e w2 ⟨A5, c5, AA, CC, rfl, hf, hb2⟩; have F2 := Lib.hid hf; have B2 := Lib.hid (bl_trans B1.out hb2); clear hf hb2)
    | (go_at_call 33; refine (KT.out _ _ _ _ _ _ F2.out).mono ?_; rintro e w3 ⟨rfl, hb3⟩; have B3 := Lib.hid (bl_trans B2.out hb3); clear hb3))
  go_ret2
  exact ⟨rfl, B3.out⟩
set_option maxRecDepth 100000 in
set_option maxHeartbeats 4000000 in
theorem specHighIn_any (h l m b : Int) (hi : Bool) (lo : Int) (A : Option Addr) (c : Nat) (hs : List Int) (A2 : Option Addr) (c2 : Nat) (bs : List Int) (w : World) (hm64 : i64B m) (hr : Rd w A hs) (hr2 : Rd w A2 bs) (hn : hs.length ≤ 2000000) (hn2 : bs.length ≤ 2000000) (hc : hs.length ≤ c) (hc2 : bs.length ≤ c2) :
    Calls Tryz.prog 10 #[vV h l m b hi lo, .slice A hs.length c, .slice A2 bs.length c2] w (Fresh (pairV (hiR h l m b hi lo hs bs) (hiC h l m b hi lo hs bs)) w) := by
  by_cases h0 : codeH h l m b hi lo hs bs = 0
  · cases hi with
    | true =>
      obtain ⟨hv, e1, e2⟩ := code_zero h0
      subst e1
      subst e2
      obtain ⟨_, _, ⟨f5, f6⟩, _⟩ := hasCards_iff.1 (isVar_cards hv)
      obtain ⟨l', rfl⟩ := Int.eq_ofNat_of_zero_le f5
      obtain ⟨m', rfl⟩ := Int.eq_ofNat_of_zero_le (Int.le_trans f5 f6)
      have e : hiC (hs.length : Int) l' m' (bs.length : Int) true lo hs bs = 0 := by unfold hiC; rw [if_pos h0]; rfl
      unfold hiR
      rw [if_pos e, e]
      exact specHighIn_yes l' m' lo A c hs A2 c2 bs w h0 hr hr2 hc hc2
    | false =>
      have e : hiC h l m b false lo hs bs = 5 := by unfold hiC; rw [if_pos h0]; rfl
      have e2 : hiR h l m b false lo hs bs = 0 := by unfold hiR; rw [e]; rfl
      rw [e, e2]
      have KC := Lib.hid (fun (W : World) (hb : Below w.heap.size w W) => specCode_any h l m b false lo A c hs A2 c2 bs W hm64 (hr.below hb) (hr2.below hb) hn hn2)
      rw [h0] at KC
      have N0 := Lib.hid (blk_new w 25 [.int .i64 h, .int .i64 l, .int .i64 m, .int .i64 b, .bool false, .int .i64 lo])
      have B0 := Lib.hid (bl_alloc (bl_refl w) (.cells ([.int .i64 h, .int .i64 l, .int .i64 m, .int .i64 b, .bool false, .int .i64 lo] : List Value).toArray 25))
      clear hr hr2 h0 e e2
      unfold vV at *
      go_enter Tryz.func10, Tryz.ntmps10
      go_wp2_with (go_at_call 31; refine (KC.out _ B0.out).mono ?_; rintro e w1 ⟨rfl, hb1⟩; have HN1 := N0.out.below hb1; have B1 := Lib.hid (bl_trans B0.out hb1); clear hb1; obtain ⟨q4, _⟩ := HN1.cell 4 _ rfl; clear HN1)
      go_ret2
      exact ⟨rfl, B1.out⟩
  · have e : hiC h l m b hi lo hs bs = codeH h l m b hi lo hs bs := by unfold hiC; rw [if_neg h0]
    have e2 : hiR h l m b hi lo hs bs = 0 := by unfold hiR; rw [e, if_neg h0]
    rw [e, e2]
    have KC := Lib.hid (fun (W : World) (hb : Below w.heap.size w W) => specCode_any h l m b hi lo A c hs A2 c2 bs W hm64 (hr.below hb) (hr2.below hb) hn hn2)
    have B0 := Lib.hid (bl_alloc (bl_refl w) (.cells ([.int .i64 h, .int .i64 l, .int .i64 m, .int .i64 b, .bool hi, .int .i64 lo] : List Value).toArray 25))
    clear e e2
    generalize codeH h l m b hi lo hs bs = k at *
    have hk : (k == 0) = false := by simp [h0]
    clear hr hr2
    unfold vV at *
    go_enter Tryz.func10, Tryz.ntmps10
    go_wp2_with (go_at_call 31; refine (KC.out _ B0.out).mono ?_; rintro e w1 ⟨rfl, hb1⟩; have B1 := Lib.hid (bl_trans B0.out hb1); clear hb1)
    go_ret2
    exact ⟨rfl, B1.out⟩
end Go.Proofs.YtlpkaflmhdgmmaaGreatDoor

/-! The laws' likeInts. -/
namespace Go.Proofs.YtlpkaflmhdgmmaaGreatDoor
open Go.RowKit
set_option linter.unusedVariables false

set_option maxRecDepth 100000 in
set_option maxHeartbeats 1000000 in
/-- Two lists that read alike are found alike. -/
theorem likeInts_same (A B : Option Addr) (c d : Nat) (xs : List Int) (w : World) (hr : Rd w A xs) (hq : Rd w B xs) (hn : xs.length ≤ 4000000) :
    Calls Tryz.prog 13 #[.slice A xs.length c, .slice B xs.length d] w (Fresh (.bool true) w) := by
  have HR := Lib.hid hr
  have HQ := Lib.hid hq
  clear hr hq
  obtain ⟨w0, rfl⟩ : ∃ w0 : World, w0 = w := ⟨w, rfl⟩
  go_enter Tryz.func13, Tryz.ntmps13
  go_wp2_with fail
  go_loopw [5] (fun i wr => ∃ k : Nat, k ≤ xs.length ∧ i = .int .i64 k ∧ Hid (Below w0.heap.size w0 wr)) (fun i _ => xs.length - (intOf i).toNat)
  case atStart => exact ⟨0, Nat.zero_le _, rfl, Lib.hid (bl_refl _)⟩
  case round =>
    obtain ⟨k, hk, rfl, hs⟩ := hrel
    by_cases hlt : k < xs.length
    · obtain ⟨b, off, rfl, hc⟩ := HR.out.at_ hs.out k hlt
      obtain ⟨b', off', rfl, hc'⟩ := HQ.out.at_ hs.out k hlt
      have hlt' : (k : Int) < xs.length := by omega
      go_wp2_with fail
      go_quiet (fail)
      go_wp2_with fail
      go_roundw
      case rel => exact ⟨k + 1, by omega, by go_num, Lib.hid (bl_drewN hs.out _)⟩
      case measure => simp [intOf]; omega
    · obtain rfl : k = xs.length := by omega
      go_wp2_with fail
      go_ret
      exact ⟨rfl, hs.out⟩

end Go.Proofs.YtlpkaflmhdgmmaaGreatDoor

/-! The program's least ace-to-five value of some cards. -/
namespace Go.Proofs.YtlpkaflmhdgmmaaGreatDoor
open Go.RowKit
set_option linter.unusedVariables false
attribute [local go_sem] Oper.semAt_some

/-- The least value of the first k choices. -/
def leastA (xs : List Int) (k : Nat) : Int := lowV aceS (ch 5 xs) k
def minI (a b : Int) : Int := if b < a then b else a
theorem leastA_succ (xs : List Int) (k : Nat) : leastA xs (k + 1) = minI (leastA xs k) (aceS ((ch 5 xs).getD k [])) := rfl
set_option maxHeartbeats 400000 in
theorem minimum_any (a b : Int) (w : World) :
    Calls Tryz.prog 63 #[.int .i64 a, .int .i64 b] w (Same (.int .i64 (minI a b)) w) := by
  by_cases h : b < a
  · have H : Hid (minI a b = b) := Lib.hid (by unfold minI; rw [if_pos h])
    go_enter Tryz.func63, Tryz.ntmps63
    go_wp2_with fail
    go_ret
    exact ⟨ret_int H.out.symm, rfl⟩
  · have H : Hid (minI a b = a) := Lib.hid (by unfold minI; rw [if_neg h])
    go_enter Tryz.func63, Tryz.ntmps63
    go_wp2_with fail
    go_ret
    exact ⟨ret_int H.out.symm, rfl⟩

/-- What the loop's rounds keep. -/
def LeastSt (w : World) (A : Option Addr) (c : Nat) (xs : List Int) (i : Nat) (W : World) : Prop :=
  Blk W w.heap.size 91 [.iface 71 (.agg #[])] ∧ Blk W (w.heap.size + 1) 26 [.slice A xs.length c] ∧ Blk W (w.heap.size + 1 + 1) 2 (ints [leastA xs i]) ∧
  Blk W (w.heap.size + 1 + 1 + 1) 3 (ints [(xs.length : Int)]) ∧ Blk W (w.heap.size + 1 + 1 + 1 + 1) 3 (ints [5]) ∧ Below w.heap.size w W
theorem LeastSt.keep {w A B : World} {Ad : Option Addr} {c : Nat} {xs : List Int} {i n0 : Nat} (h : LeastSt w Ad c xs i A) (hb : Below n0 A B) (hn : w.heap.size + 1 + 1 + 1 + 1 < n0) : LeastSt w Ad c xs i B := by
  obtain ⟨h1, h2, h3, h4, h5, h6⟩ := h
  have k : ∀ {g : Nat} {t : TypeId} {vs : List Value}, Blk A g t vs → g < n0 → Blk B g t vs := fun hq hg => (hb.block _ hg).trans hq
  exact ⟨k h1 (by omega), k h2 (by omega), k h3 (by omega), k h4 (by omega), k h5 (by omega), h6.trans (hb.mono (by omega))⟩
theorem least_start (w : World) (A : Option Addr) (c : Nat) (xs : List Int) :
    LeastSt w A c xs 0 (((((w.alloc (.cells #[.iface 71 (.agg #[])] 91)).alloc (.cells #[.slice A xs.length c] 26)).alloc (.cells #[.int .i64 9223372036854775807] 2)).alloc (.cells #[.int .i64 xs.length] 3)).alloc (.cells #[.int .i64 5] 3)) := by
  obtain ⟨o0, e0⟩ : ∃ o, o = Obj.cells #[.iface 71 (.agg #[])] 91 := ⟨_, rfl⟩
  obtain ⟨o1, e1⟩ : ∃ o, o = Obj.cells #[Value.slice A xs.length c] 26 := ⟨_, rfl⟩
  obtain ⟨o2, e2⟩ : ∃ o, o = Obj.cells #[Value.int .i64 9223372036854775807] 2 := ⟨_, rfl⟩
  obtain ⟨o3, e3⟩ : ∃ o, o = Obj.cells #[Value.int .i64 xs.length] 3 := ⟨_, rfl⟩
  obtain ⟨o4, e4⟩ : ∃ o, o = Obj.cells #[Value.int .i64 5] 3 := ⟨_, rfl⟩
  rw [← e0, ← e1, ← e2, ← e3, ← e4]
  have up : ∀ (W : World) (o : Obj) {g : Nat} {t : TypeId} {vs : List Value}, Blk W g t vs → Blk (W.alloc o) g t vs := fun W o _ _ _ h => h.below (bl_alloc (bl_refl W) o)
  have n0 : Blk (w.alloc o0) w.heap.size 91 [.iface 71 (.agg #[])] := by rw [e0]; exact blk_new w _ _
  have n1 : Blk ((w.alloc o0).alloc o1) (w.heap.size + 1) 26 [.slice A xs.length c] := by
    have := blk_new (w.alloc o0) 26 [.slice A xs.length c]; rw [World.size_alloc] at this; rw [e1]; exact this
  have n2 : Blk (((w.alloc o0).alloc o1).alloc o2) (w.heap.size + 1 + 1) 2 (ints [leastA xs 0]) := by
    have := blk_new ((w.alloc o0).alloc o1) 2 (ints [9223372036854775807]); rw [World.size_alloc, World.size_alloc] at this; rw [e2]; exact this
  have n3 : Blk ((((w.alloc o0).alloc o1).alloc o2).alloc o3) (w.heap.size + 1 + 1 + 1) 3 (ints [(xs.length : Int)]) := by
    have := blk_new (((w.alloc o0).alloc o1).alloc o2) 3 (ints [(xs.length : Int)]); rw [World.size_alloc, World.size_alloc, World.size_alloc] at this; rw [e3]; exact this
  have n4 : Blk (((((w.alloc o0).alloc o1).alloc o2).alloc o3).alloc o4) (w.heap.size + 1 + 1 + 1 + 1) 3 (ints [5]) := by
    have := blk_new ((((w.alloc o0).alloc o1).alloc o2).alloc o3) 3 (ints [5]); rw [World.size_alloc, World.size_alloc, World.size_alloc, World.size_alloc] at this; rw [e4]; exact this
  exact ⟨up _ _ (up _ _ (up _ _ (up _ _ n0))), up _ _ (up _ _ (up _ _ n1)), up _ _ (up _ _ n2), up _ _ n3, n4, bl_alloc (bl_alloc (bl_alloc (bl_alloc (bl_alloc (bl_refl w) _) _) _) _) _⟩
theorem run_arrF (b off c : Nat) (w : World) : (Instr.arrayAt 58 (.slice (some ⟨b, off, none⟩) 5 c)).run Tryz.prog w = .ok (.pointer (some ⟨b, off, none⟩)) w := by
  simp [Instr.arrayAt, run_underlying u51]
theorem keepsO_drew {A B : World} (h : KeepsOthers A B) (n : Nat) : KeepsOthers A (B.drewN n) := ⟨h.1, h.2⟩
set_option maxRecDepth 100000 in
set_option maxHeartbeats 8000000 in
theorem least_any (A : Option Addr) (c : Nat) (xs : List Int) (most : Int) (w : World) (hr : Rd w A xs) (hm : most ≤ 8) (hd : sizedB xs 5 most = true) :
    Calls Tryz.prog 41 #[.iface 71 (.agg #[]), .slice A xs.length c, .int .i64 most] w (Fresh (pairV (leastA xs (ch 5 xs).length) 0) w) := by
  obtain ⟨h5', h8', hb⟩ := sized_iff.1 hd
  have h5 : 5 ≤ xs.length := by omega
  have h8 : xs.length ≤ 8 := by omega
  have HR := Lib.hid hr
  have HC := Lib.hid hb
  have H5 := Lib.hid h5
  have H8 := Lib.hid h8
  have KZ := Lib.hid (fun (W : World) (h : Below w.heap.size w W) => implSized_any A c xs 5 most W (hr.below h) (by omega))
  rw [hd] at KZ
  have hm' : ∀ W : World, (method 262 71 (.agg #[]) "loop.example/g00910/impl.lowValue").run Tryz.prog W = .ok (146, .agg #[]) W := fun _ => by kernel_rfl
  have hna : ∀ W : World, (nilAhead 262 71 (.agg #[]) "loop.example/g00910/impl.lowValue").run Tryz.prog W = .ok (some false) W := fun _ => by kernel_rfl
  clear hr hb hd h5' h8'
  refine (callsIn_wide (n := 3)).1 ?_
  refine callsIn_of_wp_marks Tryz.func41 rfl trivial ?_ rfl
  simp only [Tryz.ntmps41, List.size_toArray, List.length_cons, List.length_nil, Nat.reduceAdd, Nat.reduceSub, Array.replicate_succ, Array.replicate_zero, List.push_toArray, List.append_toArray, List.nil_append, List.cons_append]
  obtain ⟨w0, rfl⟩ : ∃ w0 : World, w0 = w := ⟨w, rfl⟩
  have BZ := Lib.hid (bl_alloc (bl_alloc (bl_refl w0) (.cells #[.iface 71 (.agg #[])] 91)) (.cells #[.slice A xs.length c] 26))
  gi_wp2_with (first
    | (refine ⟨trivial, ?_⟩; gi_at_call 38; refine (callsIn_wide.2 (KZ.out _ BZ.out)).mono ?_; rintro e w1 ⟨rfl, rfl⟩)
    | (refine ⟨trivial, ?_⟩; gi_at_call 51; refine (callsIn_wide.2 (choicesOf_any (xs.length : Int) _)).mono ?_; rintro e w1 ⟨rfl, rfl⟩))
  have HS := Lib.hid (least_start w0 A c xs)
  have hz : (((((((w0.alloc (.cells #[.iface 71 (.agg #[])] 91)).alloc (.cells #[.slice A xs.length c] 26)).alloc (.cells #[.int .i64 9223372036854775807] 2)).alloc (.cells #[.int .i64 xs.length] 3)).alloc (.cells #[.int .i64 5] 3))).heap.size) = w0.heap.size + 1 + 1 + 1 + 1 + 1 := by simp
  obtain ⟨W0, eW⟩ : ∃ W0, W0 = (((((w0.alloc (.cells #[.iface 71 (.agg #[])] 91)).alloc (.cells #[.slice A xs.length c] 26)).alloc (.cells #[.int .i64 9223372036854775807] 2)).alloc (.cells #[.int .i64 xs.length] 3)).alloc (.cells #[.int .i64 5] 3)) := ⟨_, rfl⟩
  rw [← eW] at HS hz
  rw [← eW]
  clear eW
  refine wpIn_range_run rfl (by omega) (gf := 75) (lb := #[.pointer (some ⟨w0.heap.size + 1 + 1 + 1 + 1, 0, none⟩), .pointer (some ⟨w0.heap.size + 1 + 1 + 1, 0, none⟩)]) rfl trivial (enters_of Tryz.func75 (by kernel_rfl) rfl)
    (iter_any 2 xs.length (w0.heap.size + 1 + 1 + 1 + 1) (w0.heap.size + 1 + 1 + 1) h5 h8 (LeastSt w0 A c xs) W0 (by omega) (fun i W h => ⟨(h.2.2.2.2.1.cell 0 _ rfl).1, (h.2.2.2.1.cell 0 _ rfl).1⟩))
    (fun gb => rfl) (fun i A' B' h hb => h.keep hb (by omega)) (fun i gb A' B' h he => he.trans h) HS.out
    (fun gb => { tmps := #[.iface 71 (.agg #[]), .slice A xs.length c, .int .i64 most, .pointer (some ⟨w0.heap.size, 0, none⟩), .pointer (some ⟨w0.heap.size + 1, 0, none⟩), undef, .int .i64 0, .int .i64 0, .pointer (some ⟨w0.heap.size + 1 + 1, 0, none⟩), .slice (some ⟨gb, 0, none⟩) 5 5, .slice A xs.length c, .int .i64 most, .bool true, .bool false, .slice A xs.length c, .int .i64 xs.length,
      .func (.func 75) #[] #[.pointer (some ⟨w0.heap.size + 1 + 1 + 1 + 1, 0, none⟩), .pointer (some ⟨w0.heap.size + 1 + 1 + 1, 0, none⟩)], .slice (some ⟨gb, 0, none⟩) 5 5, undef, undef, undef, undef, undef, undef, undef, undef, undef, undef, undef, undef, undef], defers := [] }) ?assign ?body ?done (fun i gb W h => Blk.lt h)
  case assign =>
    intro l gb W K hK
    gi_wp2
    exact hK
  case body =>
    intro l i gb W hi hI hC hgb hgb2
    have HI := Lib.hid hI
    have HCh := Lib.hid hC
    have hlen : i < (ch 5 xs).length := by rw [ch_len]; exact hi
    obtain ⟨hcb, hc5⟩ := ch_cards xs HC.out i hlen
    obtain ⟨hl5, hxb, _⟩ := idx_facts xs.length h5 h8 i hi
    have RW := Lib.hid (HR.out.below hI.2.2.2.2.2)
    have KC := Lib.hid (fun (W' : World) (hb' : Below W.heap.size W W') => chosen_any A c gb xs ((idx xs.length).getD i []) W' (RW.out.below hb') h8 (Blk.below hC hb') hl5 (fun y hy => hxb y hy))
    rw [← ch_at xs i hi] at KC
    have KV := Lib.hid (fun (W' : World) => aceValue_any ((ch 5 xs).getD i []) W' hcb hc5)
    have HL := Lib.hid (leastA_succ xs i)
    have KM := Lib.hid minimum_any
    obtain ⟨x0, x1, x2, x3, x4, ex⟩ := list_five ((ch 5 xs).getD i []) hc5
    rw [ex] at KC KV HL
    unfold aggI at KV
    generalize aceS [x0, x1, x2, x3, x4] = v at *
    obtain ⟨r1, r2, r3, r4, r5, r6⟩ := hI
    generalize leastA xs i = q at *
    have cl := (r2.cell 0 _ rfl).1
    have ci := (r1.cell 0 _ rfl).1
    obtain ⟨cq, fq⟩ := r3.cell 0 _ rfl
    have R1 := Lib.hid r1
    have R2 := Lib.hid r2
    have R3 := Lib.hid r3
    have R4 := Lib.hid r4
    have R5 := Lib.hid r5
    have R6 := Lib.hid r6
    have hzq := r3.lt
    have hsa := fun (g : Nat) (W' : World) => run_arrF g 0 5 W'
    have hnn : 1 ≤ 3 - 1 - 1 := by omega
    have hmx : Tryz.prog.follows .mixedOrders = true := by kernel_rfl
    clear hcb hc5 hl5 hxb ex r1 r2 r3 r4 r5 r6 hC
    gi_wp2
    refine wpIn_region_anyR l rfl hmx (noDefer_spec (by kernel_rfl)) ?_
    refine wpAnyIn_S (S := fun W' => Below W.heap.size W W') (last := 12) (m := 0) (k := 12) rfl (fun HC0 => ?_)
    have hS0 : Below W.heap.size W { W with drawn := W.drawn + 1 } := bl_drew (bl_refl W)
    obtain ⟨W1, eW1⟩ : ∃ W1 : World, W1 = { W with drawn := W.drawn + 1 } := ⟨_, rfl⟩
    have hz1 : W1.heap.size = W.heap.size := by rw [eW1]
    rw [← eW1] at hS0 ⊢
    clear eW1
    refine wpAnyS_take (i := 0) (kw := 2) (v := .int .i64 q) rfl rfl (by kernel_rfl) (by kernel_rfl) (by kernel_rfl) (by kernel_rfl) (fun _ _ _ h => h) HC0 hS0 ⟨Or.inl ⟨by rfl, fun W' hs => ?_⟩, fun _ => rfl⟩ (fun HC1 => ?_)
    · have c := ((bcell hs).1 (w0.heap.size + 1 + 1) 0 (by omega)).trans cq
      go_simp
    refine wpAnyS_take (i := 1) (kw := 2) (v := .iface 71 (.agg #[])) rfl rfl (by kernel_rfl) (by kernel_rfl) (by kernel_rfl) (by kernel_rfl) (fun _ _ _ h => h) HC1 hS0 ⟨Or.inl ⟨by rfl, fun W' hs => ?_⟩, fun _ => rfl⟩ (fun HC2 => ?_)
    · have c := ((bcell hs).1 w0.heap.size 0 (by omega)).trans ci
      go_simp
    refine wpAnyS_take (i := 2) (kw := 2) (v := .slice A xs.length c) rfl rfl (by kernel_rfl) (by kernel_rfl) (by kernel_rfl) (by kernel_rfl) (fun _ _ _ h => h) HC2 hS0 ⟨Or.inl ⟨by rfl, fun W' hs => ?_⟩, fun _ => rfl⟩ (fun HC3 => ?_)
    · have c := ((bcell hs).1 (w0.heap.size + 1) 0 (by omega)).trans cl
      go_simp
    refine wpAnyS_take (i := 3) (kw := 2) (v := .slice (some ⟨gb, 0, none⟩) 5 5) rfl rfl (by kernel_rfl) (by kernel_rfl) (by kernel_rfl) (by kernel_rfl) (fun _ _ _ h => h) HC3 hS0 ⟨Or.inl ⟨by rfl, fun W' hs => ?_⟩, fun _ => rfl⟩ (fun HC4 => ?_)
    · go_simp
    refine wpAnyS_take (i := 7) (kw := 2) (v := .func (.method "loop.example/g00910/impl.lowValue") #[.iface 71 (.agg #[])] #[]) rfl rfl (by kernel_rfl) (by kernel_rfl) (by kernel_rfl) (by kernel_rfl) (fun _ _ _ h => h) HC4 hS0 ⟨Or.inl ⟨by rfl, fun W' hs => ?_⟩, fun _ => rfl⟩ (fun HC5 => ?_)
    · go_simp
    refine wpAnyS_take (i := 8) (kw := 2) (v := .func (.method "loop.example/g00910/impl.lowValue") #[.iface 71 (.agg #[])] #[]) rfl rfl (by kernel_rfl) (by kernel_rfl) (by kernel_rfl) (by kernel_rfl) (fun _ _ _ h => h) HC5 hS0 ⟨Or.inl ⟨by rfl, fun W' hs => ?_⟩, fun _ => rfl⟩ (fun HC6 => ?_)
    · go_simp
    refine wpAnyS_take (i := 9) (kw := 2) (v := .iface 71 (.agg #[])) rfl rfl (by kernel_rfl) (by kernel_rfl) (by kernel_rfl) (by kernel_rfl) (fun _ _ _ h => h) HC6 hS0 ⟨Or.inl ⟨by rfl, fun W' hs => ?_⟩, fun _ => rfl⟩ (fun HC7 => ?_)
    · go_simp
    refine wpAnyS_one HC7 (i := 4) (by kernel_rfl) rfl hS0 (fun K hK => ?_)
    go_simp
    gi_wp2_with (refine ⟨trivial, ?_⟩; gi_at_call 67; refine (callsIn_wide.2 (KC.out _ hS0)).mono ?_; rintro e w5 ⟨rfl, hn5, hb5⟩)
    intro HC8
    have hn5' : Blk w5 W.heap.size 2 (ints [x0, x1, x2, x3, x4]) := by have h := hn5; rw [hz1] at h; exact h
    have hS5 : Below W.heap.size W w5 := hS0.trans (hb5.mono (by omega))
    obtain ⟨y0, _⟩ := hn5'.cell 0 _ rfl
    obtain ⟨y1, _⟩ := hn5'.cell 1 _ rfl
    obtain ⟨y2, _⟩ := hn5'.cell 2 _ rfl
    obtain ⟨y3, _⟩ := hn5'.cell 3 _ rfl
    obtain ⟨y4, _⟩ := hn5'.cell 4 _ rfl
    clear hn5 hn5'
    refine wpAnyS_one HC8 (i := 5) (by kernel_rfl) rfl hS5 (fun K hK => ?_)
    go_simp
    refine hK _ _ ?_
    clear hK K
    intro HC9
    refine wpAnyS_one HC9 (i := 6) (by kernel_rfl) rfl hS5 (fun K hK => ?_)
    go_simp
    refine hK _ _ ?_
    clear hK K
    intro HC10
    refine wpAnyS_one HC10 (i := 10) (by kernel_rfl) rfl hS5 (fun K hK => ?_)
    go_simp
    gi_wp2_with (refine ⟨trivial, ?_⟩; gi_at_call 146; refine (callsIn_wide.2 (KV.out _)).mono ?_; rintro e w6 ⟨rfl, hb6⟩)
    intro HC11
    have hS6 : Below W.heap.size W w6 := hS5.trans (hb6.mono hS5.size)
    refine wpAnyS_one HC11 (i := 11) (by kernel_rfl) rfl hS6 (fun K hK => ?_)
    go_simp
    gi_wp2_with (refine ⟨trivial, ?_⟩; gi_at_call 63; refine (callsIn_wide.2 (KM.out _ _ _)).mono ?_; rintro e w7 ⟨rfl, rfl⟩)
    intro HC12
    have c6 := ((bcell hS6).1 (w0.heap.size + 1 + 1) 0 (by omega)).trans cq
    have f6 := ((bcell hS6).2 (w0.heap.size + 1 + 1) 0 (by omega)).trans fq
    refine wpAnyS_last (by kernel_rfl) (by kernel_rfl) rfl hS6 (fun K hK => ?_)
    go_simp
    refine hK _ _ ?_
    clear hK K
    have s := blk_setI ((R3.out.below hS6)) 0 (minI q v)
    gi_wp2
    have up : ∀ {g : Nat} {t : TypeId} {vs : List Value}, Blk W g t vs → g ≠ w0.heap.size + 1 + 1 → Blk (w6.setCell ⟨w0.heap.size + 1 + 1, 0, none⟩ (.int .i64 (minI q v))) g t vs := fun hq h1 => (hq.below hS6).grown s.2 (fun e => h1 (Option.some.inj e))
    exact ⟨⟨up R1.out (by omega), up R2.out (by omega), by rw [HL.out]; exact s.1, up R4.out (by omega), up R5.out (by omega), bl_blk (bl_trans R6.out hS6) s.2 (by omega)⟩, up HCh.out (by omega), (keeps_below hS6).trans (KeepsOthers.setCell _ _ _)⟩
  case done =>
    intro D W hD hI hK
    rw [← ch_len] at hI
    obtain ⟨r1, r2, r3, r4, r5, r6⟩ := hI
    generalize leastA xs (ch 5 xs).length = q at *
    obtain ⟨cq, fq⟩ := r3.cell 0 _ rfl
    have R6 := Lib.hid r6
    clear r1 r2 r3 r4 r5 r6
    gi_wp2
    refine ⟨by simp, .inl ⟨_, _, rfl, run_takeDeferred hK, ?_⟩⟩
    exact ⟨_, by simp [results, Tryz.f41, go_sem], rfl, R6.out.trans (putObj_below _ _ _ (by omega) (Array.getElem?_eq_some_iff.1 hK).1)⟩
end Go.Proofs.YtlpkaflmhdgmmaaGreatDoor

/-! AceValue, BestAce: the program's walks and the model's. -/
namespace Go.Proofs.YtlpkaflmhdgmmaaGreatDoor
open Go.RowKit
set_option linter.unusedVariables false

/-- The least value of all choices. -/
def leastR (xs : List Int) : Int := leastA xs (ch 5 xs).length
/-- What the functions answer. -/
def avR (xs : List Int) (hi : Int) : Int := if sizedB xs 5 hi = true then leastR xs else 0
theorem avR_yes {xs : List Int} {hi : Int} (h : sizedB xs 5 hi = true) : avR xs hi = leastR xs := by unfold avR; rw [if_pos h]
theorem avR_no {xs : List Int} {hi : Int} (h : sizedB xs 5 hi = false) : avR xs hi = 0 := by unfold avR; rw [h]; rfl
theorem leastR_five {xs : List Int} (hb : cardsB xs = true) (h5 : xs.length = 5) : leastR xs = aceS xs := by
  have hbd := aceS_bd xs hb h5
  obtain ⟨a, b, c, d, e, rfl⟩ := list_five xs h5
  have hc : ch 5 [a, b, c, d, e] = [[a, b, c, d, e]] := rfl
  unfold leastR leastA
  rw [hc]
  show (if aceS [a, b, c, d, e] < 9223372036854775807 then aceS [a, b, c, d, e] else 9223372036854775807) = _
  rw [if_pos (by omega)]
/-- The model's best of the first m choices: -1 if there is none. -/
def bestM (xs : List Int) (m : Nat) : Int := if m = 0 then -1 else leastA xs m
theorem aceCh_bd {xs : List Int} (hb : cardsB xs = true) (h5 : 5 ≤ xs.length) (h8 : xs.length ≤ 8) (m : Nat) (hm : m < (ch 5 xs).length) : 0 ≤ aceS ((ch 5 xs).getD m []) ∧ aceS ((ch 5 xs).getD m []) ≤ 2227757 := by
  obtain ⟨h1, h2⟩ := ch_cards xs hb m hm
  exact aceS_bd _ h1 h2
theorem leastA_bd {xs : List Int} (hb : cardsB xs = true) (h5 : 5 ≤ xs.length) (h8 : xs.length ≤ 8) (m : Nat) (hm : m ≤ (ch 5 xs).length) (h0 : 0 < m) : 0 ≤ leastA xs m ∧ leastA xs m ≤ 2227757 := by
  have := lowV_bd aceS (ch 5 xs) 2227757 (by omega) (fun i hi => aceCh_bd hb h5 h8 i hi) m hm
  exact ⟨this.1, this.2.1 h0⟩
theorem bestM_next {xs : List Int} (hb : cardsB xs = true) (h5 : 5 ≤ xs.length) (h8 : xs.length ≤ 8) (m : Nat) (hm : m < (ch 5 xs).length) :
    (bestM xs m < 0 → bestM xs (m + 1) = aceS ((ch 5 xs).getD m [])) ∧ (¬ bestM xs m < 0 → aceS ((ch 5 xs).getD m []) < bestM xs m → bestM xs (m + 1) = aceS ((ch 5 xs).getD m [])) ∧
    (¬ bestM xs m < 0 → ¬ aceS ((ch 5 xs).getD m []) < bestM xs m → bestM xs (m + 1) = bestM xs m) := by
  have hbd := aceCh_bd hb h5 h8 m hm
  have e1 : bestM xs (m + 1) = leastA xs (m + 1) := by unfold bestM; rw [if_neg (by omega)]
  rw [e1]
  rcases Nat.eq_zero_or_pos m with rfl | h0
  · have e0 : bestM xs 0 = -1 := rfl
    rw [e0]
    refine ⟨fun _ => ?_, fun h => absurd (by omega) h, fun h => absurd (by omega) h⟩
    show (if aceS ((ch 5 xs).getD 0 []) < 9223372036854775807 then _ else _) = _
    rw [if_pos (by omega)]
  · have hl := leastA_bd hb h5 h8 m (by omega) h0
    have e2 : bestM xs m = leastA xs m := by unfold bestM; rw [if_neg (by omega)]
    rw [e2]
    exact ⟨fun h => absurd h (by omega), fun _ h => lowV_yes h, fun _ h => lowV_no h⟩
set_option maxRecDepth 100000 in
set_option maxHeartbeats 1000000 in
theorem leastNo_any (A : Option Addr) (c : Nat) (xs : List Int) (most : Int) (w : World) (hr : Rd w A xs) (hn : xs.length ≤ 4000000) (hd : sizedB xs 5 most = false) :
    Calls Tryz.prog 41 #[.iface 71 (.agg #[]), .slice A xs.length c, .int .i64 most] w (Fresh (pairV 0 1) w) := by
  have BZ := bl_alloc (bl_alloc (bl_refl w) (.cells #[.iface 71 (.agg #[])] 91)) (.cells #[.slice A xs.length c] 26)
  have KZ := Lib.hid (implSized_any A c xs 5 most _ (hr.below BZ) hn)
  rw [hd] at KZ
  have B0 := Lib.hid BZ
  clear hr hn hd BZ
  go_enter Tryz.func41, Tryz.ntmps41
  go_wp2_with (go_at_call 38; refine KZ.out.mono ?_; rintro e w1 ⟨rfl, rfl⟩)
  go_ret2
  exact ⟨rfl, B0.out⟩
/-- The program's least value, whatever the list. -/
theorem leastAny (A : Option Addr) (c : Nat) (xs : List Int) (most : Int) (w : World) (hm : most ≤ 8) (hr : Rd w A xs) (hn : xs.length ≤ 4000000) :
    Calls Tryz.prog 41 #[.iface 71 (.agg #[]), .slice A xs.length c, .int .i64 most] w (Fresh (pairV (avR xs most) (codeZ xs 5 most)) w) := by
  rcases hd : sizedB xs 5 most with _ | _
  · rw [avR_no hd, codeZ_no hd]; exact leastNo_any A c xs most w hr hn hd
  · rw [avR_yes hd, codeZ_yes hd]; exact least_any A c xs most w hr hm hd
set_option maxRecDepth 100000 in
set_option maxHeartbeats 1000000 in
theorem implAceValue_any (A : Option Addr) (c : Nat) (xs : List Int) (w : World) (hr : Rd w A xs) (hn : xs.length ≤ 4000000) :
    Calls Tryz.prog 16 #[.slice A xs.length c] w (Fresh (pairV (avR xs 5) (codeZ xs 5 5)) w) := by
  have K := Lib.hid (leastAny A c xs 5 w (by omega) hr hn)
  clear hr hn
  generalize avR xs 5 = p at *
  generalize codeZ xs 5 5 = q at *
  go_enter Tryz.func16, Tryz.ntmps16
  go_wp2_with (go_at_call 41; refine K.out.mono ?_; rintro e w1 ⟨rfl, hb1⟩; have B1 := Lib.hid hb1; clear hb1)
  go_ret2
  exact ⟨rfl, B1.out⟩
end Go.Proofs.YtlpkaflmhdgmmaaGreatDoor

/-! LowIn of both. -/
namespace Go.Proofs.YtlpkaflmhdgmmaaGreatDoor
open Go.RowKit
set_option linter.unusedVariables false
attribute [local go_sem] Oper.semAt_some

/-- The code and the value of LowIn. -/
def lwC (h l m b : Int) (hi : Bool) (lo : Int) (hs bs : List Int) : Int := if codeH h l m b hi lo hs bs = 0 then (if lo = 0 then 5 else if countsB lo (beV false lo (handsH l m hs bs)) = true then 0 else 4) else codeH h l m b hi lo hs bs
def lwR (h l m b : Int) (hi : Bool) (lo : Int) (hs bs : List Int) : Int := if lwC h l m b hi lo hs bs = 0 then beV false lo (handsH l m hs bs) else 0
set_option maxRecDepth 100000 in
set_option maxHeartbeats 4000000 in
theorem implLow_walk (hn ln mn bn : Int) (hi : Bool) (lo : Int) (hl0 : lo ≠ 0) (A : Option Addr) (c n : Nat) (A2 : Option Addr) (c2 n2 : Nat) (f0 : Fn) (rb : Array Value) (f1 : Nat) (z x : Int) (ok : Bool) (r code : Int) (hok : countsB lo x = ok) (HY : Hid (ok = true → r = x ∧ code = 0)) (HZ : Hid (ok = false → r = 0 ∧ code = 4)) (w : World)
    (KC : Hid (∀ W, Below w.heap.size w W → Calls Tryz.prog 24 #[vV hn ln mn bn hi lo, .slice A n c, .slice A2 n2 c2] W (Fresh (.int .i64 0) W)))
    (KS : Hid (∀ W, Calls Tryz.prog 37 #[vV hn ln mn bn hi lo] W (Fresh (scV f0 rb f1 z) W)))
    (KB : Hid (∀ (b1 b2 b3 : Nat) (W : World), Below w.heap.size w W → Blk W b1 25 [.int .i64 hn, .int .i64 ln, .int .i64 mn, .int .i64 bn, .bool hi, .int .i64 lo] → Blk W b2 26 [.slice A n c] → Blk W b3 26 [.slice A2 n2 c2] →
      Calls Tryz.prog 27 #[scV f0 rb f1 z, .func (.func 50) #[] #[.pointer (some ⟨b1, 0, none⟩), .pointer (some ⟨b2, 0, none⟩), .pointer (some ⟨b3, 0, none⟩)]] W (Fresh (.int .i64 x) W))) :
    Calls Tryz.prog 11 #[vV hn ln mn bn hi lo, .slice A n c, .slice A2 n2 c2] w (Fresh (pairV r code) w) := by
  have KO := Lib.hid (fun (W : World) => handsOf_any hn ln mn bn hi lo A c n A2 c2 n2 W)
  have KQ := Lib.hid (fun (W : World) => countsAsLow_any hn ln mn bn hi lo x W)
  rw [hok] at KQ
  have hd0 : (lo == 0) = false := by simpa using hl0
  have N0 := Lib.hid (blk_new w 25 [.int .i64 hn, .int .i64 ln, .int .i64 mn, .int .i64 bn, .bool hi, .int .i64 lo])
  have B0 := Lib.hid (bl_alloc (bl_refl w) (.cells ([.int .i64 hn, .int .i64 ln, .int .i64 mn, .int .i64 bn, .bool hi, .int .i64 lo] : List Value).toArray 25))
  have hmx : Tryz.prog.follows .mixedOrders = true := by kernel_rfl
  unfold vV scV at *
  go_enter Tryz.func11, Tryz.ntmps11
  go_wp2_with (go_at_call 24; refine (KC.out _ B0.out).mono ?_; rintro e w1 ⟨rfl, hb1⟩; have HN1 := Lib.hid (N0.out.below hb1); have B1 := Lib.hid (bl_trans B0.out hb1); clear hb1; obtain ⟨q5, _⟩ := HN1.out.cell 5 _ rfl)
  clear q5
  refine wp_region_R (R := fun a b => Below a.heap.size a b) (I := fun W' => Below w1.heap.size w1 W') (last := 7) (k := 7) (fun _ => bl_refl _) hmx rfl (fun HC0 => ?_)
  refine wpAnyR_take (i := 0) (kw := 10) (v := .agg #[.int .i64 hn, .int .i64 ln, .int .i64 mn, .int .i64 bn, .bool hi, .int .i64 lo]) (fun _ => bl_refl _) (fun p q => bl_trans p q) rfl (by kernel_rfl) (by kernel_rfl) (by kernel_rfl) (by kernel_rfl) (fun _ _ _ h => h) HC0 (Or.inl ⟨by rfl, fun W' hI => ?_⟩) (fun HC1 => ?_)
  · have hv : Blk W' w.heap.size 25 [.int .i64 hn, .int .i64 ln, .int .i64 mn, .int .i64 bn, .bool hi, .int .i64 lo] := HN1.out.below hI
    obtain ⟨q0, _⟩ := hv.cell 0 _ rfl; obtain ⟨q1, _⟩ := hv.cell 1 _ rfl; obtain ⟨q2, _⟩ := hv.cell 2 _ rfl; obtain ⟨q3, _⟩ := hv.cell 3 _ rfl; obtain ⟨q4, _⟩ := hv.cell 4 _ rfl; obtain ⟨q5, _⟩ := hv.cell 5 _ rfl
    exact .inl (by go_simp)
  refine wpAnyR_take (i := 1) (kw := 10) (v := .agg #[.func f0 rb #[], .func (.func f1) #[] #[], .int .i64 z]) (fun _ => bl_refl _) (fun p q => bl_trans p q) rfl (by kernel_rfl) (by kernel_rfl) (by kernel_rfl) (by kernel_rfl) (fun _ _ _ h => h) HC1 (Or.inl ⟨by rfl, fun W' hI => ?_⟩) (fun HC2 => ?_)
  · exact .inr ⟨37, #[.agg #[.int .i64 hn, .int .i64 ln, .int .i64 mn, .int .i64 bn, .bool hi, .int .i64 lo]], by go_simp, (KS.out W').mono fun e w' h => h⟩
  refine wpAnyR_take (i := 2) (kw := 10) (v := .agg #[.int .i64 hn, .int .i64 ln, .int .i64 mn, .int .i64 bn, .bool hi, .int .i64 lo]) (fun _ => bl_refl _) (fun p q => bl_trans p q) rfl (by kernel_rfl) (by kernel_rfl) (by kernel_rfl) (by kernel_rfl) (fun _ _ _ h => h) HC2 (Or.inl ⟨by rfl, fun W' hI => ?_⟩) (fun HC3 => ?_)
  · have hv : Blk W' w.heap.size 25 [.int .i64 hn, .int .i64 ln, .int .i64 mn, .int .i64 bn, .bool hi, .int .i64 lo] := HN1.out.below hI
    obtain ⟨q0, _⟩ := hv.cell 0 _ rfl; obtain ⟨q1, _⟩ := hv.cell 1 _ rfl; obtain ⟨q2, _⟩ := hv.cell 2 _ rfl; obtain ⟨q3, _⟩ := hv.cell 3 _ rfl; obtain ⟨q4, _⟩ := hv.cell 4 _ rfl; obtain ⟨q5, _⟩ := hv.cell 5 _ rfl
    exact .inl (by go_simp)
  refine wpAnyR_take (i := 3) (kw := 10) (v := .slice A n c) (fun _ => bl_refl _) (fun p q => bl_trans p q) rfl (by kernel_rfl) (by kernel_rfl) (by kernel_rfl) (by kernel_rfl) (fun _ _ _ h => h) HC3 (Or.inl ⟨by rfl, fun W' hI => ?_⟩) (fun HC4 => ?_)
  · exact .inl (by go_simp)
  refine wpAnyR_take (i := 4) (kw := 10) (v := .slice A2 n2 c2) (fun _ => bl_refl _) (fun p q => bl_trans p q) rfl (by kernel_rfl) (by kernel_rfl) (by kernel_rfl) (by kernel_rfl) (fun _ _ _ h => h) HC4 (Or.inl ⟨by rfl, fun W' hI => ?_⟩) (fun HC5 => ?_)
  · exact .inl (by go_simp)
  refine wpAnyR_one HC5 (i := 5) (by kernel_rfl) rfl (by rfl) (fun w5 hr5 => ⟨bl_drewR hr5, fun K hK => ?_⟩)
  have hI5 : Below w1.heap.size w1 w5 := bl_drewR hr5
  go_simp
  go_wp2_with (go_at_call 26; refine (KO.out w5).mono ?_; rintro e w6 ⟨rfl, v1, v2, v3, hb6⟩)
  have hI6 : Below w1.heap.size w1 w6 := bl_trans hI5 hb6
  intro HC6
  refine wpAnyR_one HC6 (i := 6) (by kernel_rfl) rfl (by rfl) (fun w7 hr7 => ⟨bl_trans hI6 hr7, fun K hK => ?_⟩)
  have V := Lib.hid (And.intro (v1.below hr7) (And.intro (v2.below hr7) (v3.below hr7)))
  have C7 := Lib.hid (bl_trans B1.out (bl_trans hI6 hr7))
  go_simp
  go_wp2_with (go_at_call 27; refine (KB.out _ _ _ w7 C7.out V.out.1 V.out.2.1 V.out.2.2).mono ?_; rintro e w8 ⟨rfl, hb8⟩)
  have hI8 : Below w1.heap.size w1 w8 := bl_trans (bl_trans hI6 hr7) hb8
  intro HC7
  refine wpAnyR_last (by kernel_rfl) (by kernel_rfl) rfl (by rfl) (fun w9 hr9 => ⟨bl_trans hI8 hr9, fun K hK => ?_⟩)
  go_simp
  refine hK _ _ ?_
  clear hK K
  have hI9 : Below w1.heap.size w1 w9 := bl_trans hI8 hr9
  have N9 := Lib.hid (HN1.out.below hI9)
  have B9 := Lib.hid (bl_trans B1.out hI9)
  clear hI9 hI8 hI6 hI5 hr9 hr7 hr5 hb8 hb6 v1 v2 v3
  obtain ⟨p0, _⟩ := N9.out.cell 0 _ rfl
  obtain ⟨p1, _⟩ := N9.out.cell 1 _ rfl
  obtain ⟨p2, _⟩ := N9.out.cell 2 _ rfl
  obtain ⟨p3, _⟩ := N9.out.cell 3 _ rfl
  obtain ⟨p4, _⟩ := N9.out.cell 4 _ rfl
  obtain ⟨p5, _⟩ := N9.out.cell 5 _ rfl
  cases ok with
  | true =>
    obtain ⟨rfl, rfl⟩ := HY.out rfl
    clear HY HZ hok
    go_wp2_with (go_at_call 28; refine (KQ.out w9).mono ?_; rintro e w10 ⟨rfl, hb10⟩; have B10 := Lib.hid (bl_trans B9.out hb10); clear hb10)
    go_ret2
    exact ⟨rfl, B10.out⟩
  | false =>
    obtain ⟨rfl, rfl⟩ := HZ.out rfl
    clear HY HZ hok
    go_wp2_with (go_at_call 28; refine (KQ.out w9).mono ?_; rintro e w10 ⟨rfl, hb10⟩; have B10 := Lib.hid (bl_trans B9.out hb10); clear hb10)
    go_ret2
    exact ⟨rfl, B10.out⟩
set_option maxRecDepth 100000 in
set_option maxHeartbeats 4000000 in
theorem specLow_walk (hn ln mn bn : Int) (hi : Bool) (lo : Int) (hl0 : lo ≠ 0) (A : Option Addr) (c n : Nat) (A2 : Option Addr) (c2 n2 : Nat) (L : List (List Int)) (ix : Nat) (x : Int) (ok : Bool) (r code : Int) (hok : countsB lo x = ok) (HY : Hid (ok = true → r = x ∧ code = 0)) (HZ : Hid (ok = false → r = 0 ∧ code = 4)) (w : World)
    (KC : Hid (∀ W, Below w.heap.size w W → Calls Tryz.prog 31 #[vV hn ln mn bn hi lo, .slice A n c, .slice A2 n2 c2] W (Fresh (.int .i64 0) W)))
    (KH : Hid (∀ W, Below w.heap.size w W → Calls Tryz.prog 32 #[vV hn ln mn bn hi lo, .slice A n c, .slice A2 n2 c2] W (fun e w' => ∃ A c AA CC, e = .returned (.slice A L.length c) ∧ Fam w' W.heap.size A L.length (fun h => L.getD h []) AA CC ∧ Below W.heap.size W w')))
    (KT : Hid (∀ (A5 : Option Addr) (c5 : Nat) (AA : Nat → Option Addr) (CC : Nat → Nat) (n : Nat) (w2 : World), Fam w2 n A5 L.length (fun h => L.getD h []) AA CC → Calls Tryz.prog 34 #[vV hn ln mn bn hi lo, .slice A5 L.length c5] w2 (Fresh (.tuple #[.int .i64 (ix : Nat), .int .i64 x]) w2))) :
    Calls Tryz.prog 12 #[vV hn ln mn bn hi lo, .slice A n c, .slice A2 n2 c2] w (Fresh (pairV r code) w) := by
  have KQ := Lib.hid (fun (W : World) => l06Counts_any hn ln mn bn hi lo x W)
  rw [hok] at KQ
  have hd0 : (lo == 0) = false := by simpa using hl0
  have N0 := Lib.hid (blk_new w 25 [.int .i64 hn, .int .i64 ln, .int .i64 mn, .int .i64 bn, .bool hi, .int .i64 lo])
  have B0 := Lib.hid (bl_alloc (bl_refl w) (.cells ([.int .i64 hn, .int .i64 ln, .int .i64 mn, .int .i64 bn, .bool hi, .int .i64 lo] : List Value).toArray 25))
  have hmx : Tryz.prog.follows .mixedOrders = true := by kernel_rfl
  unfold vV at *
  go_enter Tryz.func12, Tryz.ntmps12
  go_wp2_with (go_at_call 31; refine (KC.out _ B0.out).mono ?_; rintro e w1 ⟨rfl, hb1⟩; have HN1 := Lib.hid (N0.out.below hb1); have B1 := Lib.hid (bl_trans B0.out hb1); clear hb1; obtain ⟨q5, _⟩ := HN1.out.cell 5 _ rfl)
  clear q5
  refine wp_region_R (R := fun a b => Below a.heap.size a b) (I := fun W' => Below w1.heap.size w1 W') (last := 10) (k := 10) (fun _ => bl_refl _) hmx rfl (fun HC0 => ?_)
  refine wpAnyR_take (i := 0) (kw := 10) (v := .agg #[.int .i64 hn, .int .i64 ln, .int .i64 mn, .int .i64 bn, .bool hi, .int .i64 lo]) (fun _ => bl_refl _) (fun p q => bl_trans p q) rfl (by kernel_rfl) (by kernel_rfl) (by kernel_rfl) (by kernel_rfl) (fun _ _ _ h => h) HC0 (Or.inl ⟨by rfl, fun W' hI => ?_⟩) (fun HC1 => ?_)
  · have hv : Blk W' w.heap.size 25 [.int .i64 hn, .int .i64 ln, .int .i64 mn, .int .i64 bn, .bool hi, .int .i64 lo] := HN1.out.below hI
    obtain ⟨q0, _⟩ := hv.cell 0 _ rfl; obtain ⟨q1, _⟩ := hv.cell 1 _ rfl; obtain ⟨q2, _⟩ := hv.cell 2 _ rfl; obtain ⟨q3, _⟩ := hv.cell 3 _ rfl; obtain ⟨q4, _⟩ := hv.cell 4 _ rfl; obtain ⟨q5, _⟩ := hv.cell 5 _ rfl
    exact .inl (by go_simp)
  refine wpAnyR_take (i := 1) (kw := 10) (v := .agg #[.int .i64 hn, .int .i64 ln, .int .i64 mn, .int .i64 bn, .bool hi, .int .i64 lo]) (fun _ => bl_refl _) (fun p q => bl_trans p q) rfl (by kernel_rfl) (by kernel_rfl) (by kernel_rfl) (by kernel_rfl) (fun _ _ _ h => h) HC1 (Or.inl ⟨by rfl, fun W' hI => ?_⟩) (fun HC2 => ?_)
  · have hv : Blk W' w.heap.size 25 [.int .i64 hn, .int .i64 ln, .int .i64 mn, .int .i64 bn, .bool hi, .int .i64 lo] := HN1.out.below hI
    obtain ⟨q0, _⟩ := hv.cell 0 _ rfl; obtain ⟨q1, _⟩ := hv.cell 1 _ rfl; obtain ⟨q2, _⟩ := hv.cell 2 _ rfl; obtain ⟨q3, _⟩ := hv.cell 3 _ rfl; obtain ⟨q4, _⟩ := hv.cell 4 _ rfl; obtain ⟨q5, _⟩ := hv.cell 5 _ rfl
    exact .inl (by go_simp)
  refine wpAnyR_take (i := 2) (kw := 10) (v := .slice A n c) (fun _ => bl_refl _) (fun p q => bl_trans p q) rfl (by kernel_rfl) (by kernel_rfl) (by kernel_rfl) (by kernel_rfl) (fun _ _ _ h => h) HC2 (Or.inl ⟨by rfl, fun W' hI => ?_⟩) (fun HC3 => ?_)
  · exact .inl (by go_simp)
  refine wpAnyR_take (i := 3) (kw := 10) (v := .slice A2 n2 c2) (fun _ => bl_refl _) (fun p q => bl_trans p q) rfl (by kernel_rfl) (by kernel_rfl) (by kernel_rfl) (by kernel_rfl) (fun _ _ _ h => h) HC3 (Or.inl ⟨by rfl, fun W' hI => ?_⟩) (fun HC4 => ?_)
  · exact .inl (by go_simp)
  refine wpAnyR_one HC4 (i := 4) (by kernel_rfl) rfl (by rfl) (fun w5 hr5 => ⟨bl_drewR hr5, fun K hK => ?_⟩)
  have hI5 : Below w1.heap.size w1 w5 := bl_drewR hr5
  have C5 := Lib.hid (bl_trans B1.out hI5)
  go_simp
  go_wp2_with (go_at_call 32; refine (KH.out w5 C5.out).mono ?_; rintro e w6 ⟨A5, c5, AA, CC, rfl, hf, hb6⟩)
  have hI6 : Below w1.heap.size w1 w6 := bl_trans hI5 hb6
  have F6 := Lib.hid hf
  clear hf
  intro HC5
  refine wpAnyR_one HC5 (i := 5) (by kernel_rfl) rfl (by rfl) (fun w7 hr7 => ⟨bl_trans hI6 hr7, fun K hK => ?_⟩)
  have F7 := Lib.hid (F6.out.below hr7)
  go_simp
  go_wp2_with (go_at_call 34; refine (KT.out _ _ _ _ _ _ F7.out).mono ?_; rintro e w8 ⟨rfl, hb8⟩)
  have hI8 : Below w1.heap.size w1 w8 := bl_trans (bl_trans hI6 hr7) hb8
  intro HC6
  refine wpAnyR_take (i := 6) (kw := 10) (v := .tuple #[.int .i64 (ix : Nat), .int .i64 x]) (fun _ => bl_refl _) (fun p q => bl_trans p q) rfl (by kernel_rfl) (by kernel_rfl) (by kernel_rfl) (by kernel_rfl) (fun _ _ _ h => h) HC6 (Or.inl ⟨by rfl, fun W' hI => ?_⟩) (fun HC7 => ?_)
  · exact .inl (by go_simp)
  refine wpAnyR_take (i := 7) (kw := 10) (v := .int .i64 (ix : Nat)) (fun _ => bl_refl _) (fun p q => bl_trans p q) rfl (by kernel_rfl) (by kernel_rfl) (by kernel_rfl) (by kernel_rfl) (fun _ _ _ h => h) HC7 (Or.inl ⟨by rfl, fun W' hI => ?_⟩) (fun HC8 => ?_)
  · exact .inl (by go_simp)
  refine wpAnyR_take (i := 8) (kw := 10) (v := .int .i64 x) (fun _ => bl_refl _) (fun p q => bl_trans p q) rfl (by kernel_rfl) (by kernel_rfl) (by kernel_rfl) (by kernel_rfl) (fun _ _ _ h => h) HC8 (Or.inl ⟨by rfl, fun W' hI => ?_⟩) (fun HC9 => ?_)
  · exact .inl (by go_simp)
  refine wpAnyR_one HC9 (i := 9) (by kernel_rfl) rfl (by rfl) (fun w9 hr9 => ⟨bl_trans hI8 hr9, fun K hK => ?_⟩)
  go_simp
  refine hK _ _ ?_
  clear hK K
  intro HC10
  refine wpAnyR_last (by kernel_rfl) (by kernel_rfl) rfl (by rfl) (fun w10 hr10 => ⟨bl_trans (bl_trans hI8 hr9) hr10, fun K hK => ?_⟩)
  go_simp
  refine hK _ _ ?_
  clear hK K
  have hI9 : Below w1.heap.size w1 w10 := bl_trans (bl_trans hI8 hr9) hr10
  have N9 := Lib.hid (HN1.out.below hI9)
  have B9 := Lib.hid (bl_trans B1.out hI9)
  clear hI9 hI8 hI6 hI5 hr10 hr9 hr7 hr5 hb8 hb6
  obtain ⟨p0, _⟩ := N9.out.cell 0 _ rfl
  obtain ⟨p1, _⟩ := N9.out.cell 1 _ rfl
  obtain ⟨p2, _⟩ := N9.out.cell 2 _ rfl
  obtain ⟨p3, _⟩ := N9.out.cell 3 _ rfl
  obtain ⟨p4, _⟩ := N9.out.cell 4 _ rfl
  obtain ⟨p5, _⟩ := N9.out.cell 5 _ rfl
  cases ok with
  | true =>
    obtain ⟨rfl, rfl⟩ := HY.out rfl
    clear HY HZ hok
    go_wp2_with (go_at_call 35; refine (KQ.out w10).mono ?_; rintro e w11 ⟨rfl, hb11⟩; have B11 := Lib.hid (bl_trans B9.out hb11); clear hb11)
    go_ret2
    exact ⟨rfl, B11.out⟩
  | false =>
    obtain ⟨rfl, rfl⟩ := HZ.out rfl
    clear HY HZ hok
    go_wp2_with (go_at_call 35; refine (KQ.out w10).mono ?_; rintro e w11 ⟨rfl, hb11⟩; have B11 := Lib.hid (bl_trans B9.out hb11); clear hb11)
    go_ret2
    exact ⟨rfl, B11.out⟩
end Go.Proofs.YtlpkaflmhdgmmaaGreatDoor

/-! LowIn of both, put together. -/
namespace Go.Proofs.YtlpkaflmhdgmmaaGreatDoor
open Go.RowKit
set_option linter.unusedVariables false

theorem lw_yes {l m : Nat} {hi : Bool} {lo : Int} {hs bs : List Int} (hcz : codeH (hs.length : Int) l m (bs.length : Int) hi lo hs bs = 0) (hl : lo ≠ 0) (h : countsB lo (beV false lo (hRows hs bs l (m + 1 - l))) = true) :
    lwR (hs.length : Int) l m (bs.length : Int) hi lo hs bs = beV false lo (hRows hs bs l (m + 1 - l)) ∧ lwC (hs.length : Int) l m (bs.length : Int) hi lo hs bs = 0 := by
  have e : lwC (hs.length : Int) l m (bs.length : Int) hi lo hs bs = 0 := by
    unfold lwC
    rw [if_pos hcz, if_neg hl, if_pos (show countsB lo (beV false lo (handsH l m hs bs)) = true from h)]
  refine ⟨?_, e⟩
  unfold lwR
  rw [if_pos e]
  rfl
theorem lw_no {l m : Nat} {hi : Bool} {lo : Int} {hs bs : List Int} (hcz : codeH (hs.length : Int) l m (bs.length : Int) hi lo hs bs = 0) (hl : lo ≠ 0) (h : countsB lo (beV false lo (hRows hs bs l (m + 1 - l))) = false) :
    lwR (hs.length : Int) l m (bs.length : Int) hi lo hs bs = 0 ∧ lwC (hs.length : Int) l m (bs.length : Int) hi lo hs bs = 4 := by
  have e : lwC (hs.length : Int) l m (bs.length : Int) hi lo hs bs = 4 := by
    unfold lwC
    rw [if_pos hcz, if_neg hl, if_neg (show ¬ countsB lo (beV false lo (handsH l m hs bs)) = true from by rw [show countsB lo (beV false lo (handsH l m hs bs)) = false from h]; decide)]
  refine ⟨?_, e⟩
  unfold lwR
  rw [e]
  rfl
set_option maxRecDepth 100000 in
set_option maxHeartbeats 4000000 in
theorem implLow_yes (l m : Nat) (hi : Bool) (lo : Int) (A : Option Addr) (c : Nat) (hs : List Int) (A2 : Option Addr) (c2 : Nat) (bs : List Int) (B : Nat) (wt w : World) (ht : Hid (Low B wt)) (hB : Hid (Below B wt w)) (hBw : Hid (B ≤ w.heap.size)) (hcz : codeH (hs.length : Int) l m (bs.length : Int) hi lo hs bs = 0) (hl0 : lo ≠ 0) (hr : Rd w A hs) (hr2 : Rd w A2 bs) :
    Calls Tryz.prog 11 #[vV (hs.length : Int) l m (bs.length : Int) hi lo, .slice A hs.length c, .slice A2 bs.length c2] w (Fresh (pairV (lwR (hs.length : Int) l m (bs.length : Int) hi lo hs bs) (lwC (hs.length : Int) l m (bs.length : Int) hi lo hs bs)) w) := by
  obtain ⟨hvv, _⟩ := code_zero hcz
  have hcc := code_cards hcz
  obtain ⟨⟨f1, f2⟩, ⟨f3, f4⟩, ⟨f5, f6⟩, ⟨f7, f8⟩, f9⟩ := hasCards_iff.1 (isVar_cards hvv)
  have hh : hs.length ≤ 7 := by omega
  have hb7 : bs.length ≤ 7 := by omega
  have hlm : l ≤ m := by omega
  have hm5 : m ≤ 5 := by omega
  have hm64 : i64B (m : Int) := by unfold i64B; omega
  have hpos : 0 < (hRows hs bs l (m + 1 - l)).length := hRows_pos hs bs l m hh hb7 hlm hm5 (by omega) (by omega)
  have hcd := fun k hk => hRows_cards_at hs bs l (m + 1 - l) (by omega) hcc k hk
  obtain ⟨_, _, hF⟩ := be_facts false lo (hRows hs bs l (m + 1 - l)) hpos hcd
  obtain ⟨_, _, t3⟩ := hF rfl
  have HY : Hid (countsB lo (beV false lo (hRows hs bs l (m + 1 - l))) = true → lwR (hs.length : Int) l m (bs.length : Int) hi lo hs bs = beV false lo (hRows hs bs l (m + 1 - l)) ∧ lwC (hs.length : Int) l m (bs.length : Int) hi lo hs bs = 0) := Lib.hid (fun h => lw_yes hcz hl0 h)
  have HZ : Hid (countsB lo (beV false lo (hRows hs bs l (m + 1 - l))) = false → lwR (hs.length : Int) l m (bs.length : Int) hi lo hs bs = 0 ∧ lwC (hs.length : Int) l m (bs.length : Int) hi lo hs bs = 4) := Lib.hid (fun h => lw_no hcz hl0 h)
  have KC := Lib.hid (fun (W : World) (hb : Below w.heap.size w W) => codeFor_any (hs.length : Int) l m (bs.length : Int) hi lo A c hs A2 c2 bs W hm64 (hr.below hb) (hr2.below hb) (by omega) (by omega))
  rw [hcz] at KC
  by_cases hl : lo = 3
  · have el : ∀ xs, loS lo xs = duS xs := fun xs => by unfold loS; rw [if_pos hl]
    simp only [el] at t3
    refine implLow_walk _ _ _ _ hi lo hl0 A c _ A2 c2 _ lowF #[.iface 92 (.agg #[])] 63 9223372036854775807 (beV false lo (hRows hs bs l (m + 1 - l))) _ _ _ rfl HY HZ w KC
      (Lib.hid fun W' => by
        have h := lowScale_deu (hs.length : Int) l m (bs.length : Int) hi lo W' hl
        rw [show loV lo = deuV from by unfold loV; rw [if_pos hl]] at h
        exact h)
      (Lib.hid fun b1 b2 b3 W hb h1 h2 h3 => by
        have h := bestdeu_any A c hs A2 c2 bs l m b1 b2 b3 hi lo B wt W ht (Lib.hid (hB.out.trans (hb.mono hBw.out))) (Lib.hid (Nat.le_trans hBw.out hb.size)) h1 h2 h3 (hr.below hb) (hr2.below hb) hh hb7 hlm hm5 hcc
        rw [t3] at h
        exact h)
  · have el : ∀ xs, loS lo xs = aceS xs := fun xs => by unfold loS; rw [if_neg hl]
    simp only [el] at t3
    refine implLow_walk _ _ _ _ hi lo hl0 A c _ A2 c2 _ lowF #[.iface 71 (.agg #[])] 63 9223372036854775807 (beV false lo (hRows hs bs l (m + 1 - l))) _ _ _ rfl HY HZ w KC
      (Lib.hid fun W' => by
        have h := lowScale_ace (hs.length : Int) l m (bs.length : Int) hi lo W' hl
        rw [show loV lo = aceV from by unfold loV; rw [if_neg hl]] at h
        exact h)
      (Lib.hid fun b1 b2 b3 W hb h1 h2 h3 => by
        have h := bestace_any A c hs A2 c2 bs l m b1 b2 b3 hi lo B wt W ht (Lib.hid (hB.out.trans (hb.mono hBw.out))) (Lib.hid (Nat.le_trans hBw.out hb.size)) h1 h2 h3 (hr.below hb) (hr2.below hb) hh hb7 hlm hm5 hcc
        rw [t3] at h
        exact h)

set_option maxRecDepth 100000 in
set_option maxHeartbeats 4000000 in
theorem specLow_yes (l m : Nat) (hi : Bool) (lo : Int) (A : Option Addr) (c : Nat) (hs : List Int) (A2 : Option Addr) (c2 : Nat) (bs : List Int) (w : World) (hcz : codeH (hs.length : Int) l m (bs.length : Int) hi lo hs bs = 0) (hl0 : lo ≠ 0) (hr : Rd w A hs) (hr2 : Rd w A2 bs) (hc : hs.length ≤ c) (hc2 : bs.length ≤ c2) :
    Calls Tryz.prog 12 #[vV (hs.length : Int) l m (bs.length : Int) hi lo, .slice A hs.length c, .slice A2 bs.length c2] w (Fresh (pairV (lwR (hs.length : Int) l m (bs.length : Int) hi lo hs bs) (lwC (hs.length : Int) l m (bs.length : Int) hi lo hs bs)) w) := by
  obtain ⟨hvv, _⟩ := code_zero hcz
  have hcc := code_cards hcz
  obtain ⟨⟨f1, f2⟩, ⟨f3, f4⟩, ⟨f5, f6⟩, ⟨f7, f8⟩, f9⟩ := hasCards_iff.1 (isVar_cards hvv)
  have hh : hs.length ≤ 7 := by omega
  have hb7 : bs.length ≤ 7 := by omega
  have hlm : l ≤ m := by omega
  have hm5 : m ≤ 5 := by omega
  have hm64 : i64B (m : Int) := by unfold i64B; omega
  have hpos : 0 < (hRows hs bs l (m + 1 - l)).length := hRows_pos hs bs l m hh hb7 hlm hm5 (by omega) (by omega)
  have hcd := fun k hk => hRows_cards_at hs bs l (m + 1 - l) (by omega) hcc k hk
  have KC := Lib.hid (fun (W : World) (hb : Below w.heap.size w W) => specCode_any (hs.length : Int) l m (bs.length : Int) hi lo A c hs A2 c2 bs W hm64 (hr.below hb) (hr2.below hb) (by omega) (by omega))
  rw [hcz] at KC
  have KH := Lib.hid (fun (W : World) (hb : Below w.heap.size w W) => specHands_any l m (hs.length : Int) hi lo A c hs A2 c2 bs W hlm hm5 hh hb7 (hr.below hb) (hr2.below hb) hc hc2)
  have HT := hRows_le hs bs l hh hb7 (m + 1 - l) (by omega)
  have HT2 : (m + 1 - l) * 1225 ≤ 6 * 1225 := Nat.mul_le_mul_right _ (by omega)
  have hH : (hRows hs bs l (m + 1 - l)).length ≤ 4000000 := by omega
  unfold HandsFam at KH
  have HY : Hid (countsB lo (beV false lo (hRows hs bs l (m + 1 - l))) = true → lwR (hs.length : Int) l m (bs.length : Int) hi lo hs bs = beV false lo (hRows hs bs l (m + 1 - l)) ∧ lwC (hs.length : Int) l m (bs.length : Int) hi lo hs bs = 0) := Lib.hid (fun h => lw_yes hcz hl0 h)
  have HZ : Hid (countsB lo (beV false lo (hRows hs bs l (m + 1 - l))) = false → lwR (hs.length : Int) l m (bs.length : Int) hi lo hs bs = 0 ∧ lwC (hs.length : Int) l m (bs.length : Int) hi lo hs bs = 4) := Lib.hid (fun h => lw_no hcz hl0 h)
  have KT : Hid (∀ (A5 : Option Addr) (c5 : Nat) (AA : Nat → Option Addr) (CC : Nat → Nat) (n : Nat) (w2 : World), Fam w2 n A5 (hRows hs bs l (m + 1 - l)).length (fun h => (hRows hs bs l (m + 1 - l)).getD h []) AA CC → Calls Tryz.prog 34 #[vV (hs.length : Int) l m (bs.length : Int) hi lo, .slice A5 (hRows hs bs l (m + 1 - l)).length c5] w2 (Fresh (.tuple #[.int .i64 (beI false lo (hRows hs bs l (m + 1 - l)) : Nat), .int .i64 (beV false lo (hRows hs bs l (m + 1 - l)))]) w2)) :=
    Lib.hid (fun A5 c5 AA CC n w2 hf => by
      by_cases hl : lo = 3
      · have el : (fun k => loS lo ((hRows hs bs l (m + 1 - l)).getD k [])) = fun k => duS ((hRows hs bs l (m + 1 - l)).getD k []) := by funext k; unfold loS; rw [if_pos hl]
        have h := l06Low_deu (hs.length : Int) l m (bs.length : Int) hi lo hl A5 c5 n (hRows hs bs l (m + 1 - l)).length (fun h => (hRows hs bs l (m + 1 - l)).getD h []) AA CC (fun k => aceS ((hRows hs bs l (m + 1 - l)).getD k [])) (fun k => duS ((hRows hs bs l (m + 1 - l)).getD k [])) w2 hf (fun k hk => (hcd k hk).2) hH
          (fun k hk W hb => l05Ace_any (AA k) (CC k) ((hRows hs bs l (m + 1 - l)).getD k []) W ((hf.below hb).row k hk).rd (hcd k hk).2 (hcd k hk).1) (fun k hk W hb => l05Deuce_any (AA k) (CC k) ((hRows hs bs l (m + 1 - l)).getD k []) W ((hf.below hb).row k hk).rd (hcd k hk).2 (hcd k hk).1)
        rw [← el] at h
        exact h
      · have el : (fun k => loS lo ((hRows hs bs l (m + 1 - l)).getD k [])) = fun k => aceS ((hRows hs bs l (m + 1 - l)).getD k []) := by funext k; unfold loS; rw [if_neg hl]
        have h := l06Low_ace (hs.length : Int) l m (bs.length : Int) hi lo hl A5 c5 n (hRows hs bs l (m + 1 - l)).length (fun h => (hRows hs bs l (m + 1 - l)).getD h []) AA CC (fun k => aceS ((hRows hs bs l (m + 1 - l)).getD k [])) (fun k => aceS ((hRows hs bs l (m + 1 - l)).getD k [])) w2 hf (fun k hk => (hcd k hk).2) hH
          (fun k hk W hb => l05Ace_any (AA k) (CC k) ((hRows hs bs l (m + 1 - l)).getD k []) W ((hf.below hb).row k hk).rd (hcd k hk).2 (hcd k hk).1)
        rw [← el] at h
        exact h)
  exact specLow_walk _ _ _ _ hi lo hl0 A c _ A2 c2 _ (hRows hs bs l (m + 1 - l)) _ _ _ _ _ rfl HY HZ w KC KH KT
set_option maxRecDepth 100000 in
set_option maxHeartbeats 4000000 in
theorem implLowIn_any (h l m b : Int) (hi : Bool) (lo : Int) (A : Option Addr) (c : Nat) (hs : List Int) (A2 : Option Addr) (c2 : Nat) (bs : List Int) (B : Nat) (wt w : World) (ht : Hid (Low B wt)) (hB : Hid (Below B wt w)) (hBw : Hid (B ≤ w.heap.size)) (hm64 : i64B m) (hr : Rd w A hs) (hr2 : Rd w A2 bs) (hn : hs.length ≤ 2000000) (hn2 : bs.length ≤ 2000000) :
    Calls Tryz.prog 11 #[vV h l m b hi lo, .slice A hs.length c, .slice A2 bs.length c2] w (Fresh (pairV (lwR h l m b hi lo hs bs) (lwC h l m b hi lo hs bs)) w) := by
  by_cases h0 : codeH h l m b hi lo hs bs = 0
  · by_cases hl0 : lo = 0
    · have e : lwC h l m b hi lo hs bs = 5 := by unfold lwC; rw [if_pos h0, if_pos hl0]
      have e2 : lwR h l m b hi lo hs bs = 0 := by unfold lwR; rw [e]; rfl
      rw [e, e2]
      have KC := Lib.hid (fun (W : World) (hb : Below w.heap.size w W) => codeFor_any h l m b hi lo A c hs A2 c2 bs W hm64 (hr.below hb) (hr2.below hb) hn hn2)
      rw [h0] at KC
      subst hl0
      have N0 := Lib.hid (blk_new w 25 [.int .i64 h, .int .i64 l, .int .i64 m, .int .i64 b, .bool hi, .int .i64 0])
      have B0 := Lib.hid (bl_alloc (bl_refl w) (.cells ([.int .i64 h, .int .i64 l, .int .i64 m, .int .i64 b, .bool hi, .int .i64 0] : List Value).toArray 25))
      clear hr hr2 h0 e e2
      unfold vV at *
      go_enter Tryz.func11, Tryz.ntmps11
      go_wp2_with (go_at_call 24; refine (KC.out _ B0.out).mono ?_; rintro e w1 ⟨rfl, hb1⟩; have HN1 := N0.out.below hb1; have B1 := Lib.hid (bl_trans B0.out hb1); clear hb1; obtain ⟨q5, _⟩ := HN1.cell 5 _ rfl; clear HN1)
      go_ret2
      exact ⟨rfl, B1.out⟩
    · obtain ⟨hv, e1, e2⟩ := code_zero h0
      subst e1
      subst e2
      obtain ⟨_, _, ⟨f5, f6⟩, _⟩ := hasCards_iff.1 (isVar_cards hv)
      obtain ⟨l', rfl⟩ := Int.eq_ofNat_of_zero_le f5
      obtain ⟨m', rfl⟩ := Int.eq_ofNat_of_zero_le (Int.le_trans f5 f6)
      exact implLow_yes l' m' hi lo A c hs A2 c2 bs B wt w ht hB hBw h0 hl0 hr hr2
  · have e : lwC h l m b hi lo hs bs = codeH h l m b hi lo hs bs := by unfold lwC; rw [if_neg h0]
    have e2 : lwR h l m b hi lo hs bs = 0 := by unfold lwR; rw [e, if_neg h0]
    rw [e, e2]
    have KC := Lib.hid (fun (W : World) (hb : Below w.heap.size w W) => codeFor_any h l m b hi lo A c hs A2 c2 bs W hm64 (hr.below hb) (hr2.below hb) hn hn2)
    have B0 := Lib.hid (bl_alloc (bl_refl w) (.cells ([.int .i64 h, .int .i64 l, .int .i64 m, .int .i64 b, .bool hi, .int .i64 lo] : List Value).toArray 25))
    clear e e2
    generalize codeH h l m b hi lo hs bs = k at *
    have hk : (k == 0) = false := by simp [h0]
    clear hr hr2
    unfold vV at *
    go_enter Tryz.func11, Tryz.ntmps11
    go_wp2_with (go_at_call 24; refine (KC.out _ B0.out).mono ?_; rintro e w1 ⟨rfl, hb1⟩; have B1 := Lib.hid (bl_trans B0.out hb1); clear hb1)
    go_ret2
    exact ⟨rfl, B1.out⟩
set_option maxRecDepth 100000 in
set_option maxHeartbeats 4000000 in
theorem specLowIn_any (h l m b : Int) (hi : Bool) (lo : Int) (A : Option Addr) (c : Nat) (hs : List Int) (A2 : Option Addr) (c2 : Nat) (bs : List Int) (w : World) (hm64 : i64B m) (hr : Rd w A hs) (hr2 : Rd w A2 bs) (hn : hs.length ≤ 2000000) (hn2 : bs.length ≤ 2000000) (hc : hs.length ≤ c) (hc2 : bs.length ≤ c2) :
    Calls Tryz.prog 12 #[vV h l m b hi lo, .slice A hs.length c, .slice A2 bs.length c2] w (Fresh (pairV (lwR h l m b hi lo hs bs) (lwC h l m b hi lo hs bs)) w) := by
  by_cases h0 : codeH h l m b hi lo hs bs = 0
  · by_cases hl0 : lo = 0
    · have e : lwC h l m b hi lo hs bs = 5 := by unfold lwC; rw [if_pos h0, if_pos hl0]
      have e2 : lwR h l m b hi lo hs bs = 0 := by unfold lwR; rw [e]; rfl
      rw [e, e2]
      have KC := Lib.hid (fun (W : World) (hb : Below w.heap.size w W) => specCode_any h l m b hi lo A c hs A2 c2 bs W hm64 (hr.below hb) (hr2.below hb) hn hn2)
      rw [h0] at KC
      subst hl0
      have N0 := Lib.hid (blk_new w 25 [.int .i64 h, .int .i64 l, .int .i64 m, .int .i64 b, .bool hi, .int .i64 0])
      have B0 := Lib.hid (bl_alloc (bl_refl w) (.cells ([.int .i64 h, .int .i64 l, .int .i64 m, .int .i64 b, .bool hi, .int .i64 0] : List Value).toArray 25))
      clear hr hr2 h0 e e2
      unfold vV at *
      go_enter Tryz.func12, Tryz.ntmps12
      go_wp2_with (go_at_call 31; refine (KC.out _ B0.out).mono ?_; rintro e w1 ⟨rfl, hb1⟩; have HN1 := N0.out.below hb1; have B1 := Lib.hid (bl_trans B0.out hb1); clear hb1; obtain ⟨q5, _⟩ := HN1.cell 5 _ rfl; clear HN1)
      go_ret2
      exact ⟨rfl, B1.out⟩
    · obtain ⟨hv, e1, e2⟩ := code_zero h0
      subst e1
      subst e2
      obtain ⟨_, _, ⟨f5, f6⟩, _⟩ := hasCards_iff.1 (isVar_cards hv)
      obtain ⟨l', rfl⟩ := Int.eq_ofNat_of_zero_le f5
      obtain ⟨m', rfl⟩ := Int.eq_ofNat_of_zero_le (Int.le_trans f5 f6)
      exact specLow_yes l' m' hi lo A c hs A2 c2 bs w h0 hl0 hr hr2 hc hc2
  · have e : lwC h l m b hi lo hs bs = codeH h l m b hi lo hs bs := by unfold lwC; rw [if_neg h0]
    have e2 : lwR h l m b hi lo hs bs = 0 := by unfold lwR; rw [e, if_neg h0]
    rw [e, e2]
    have KC := Lib.hid (fun (W : World) (hb : Below w.heap.size w W) => specCode_any h l m b hi lo A c hs A2 c2 bs W hm64 (hr.below hb) (hr2.below hb) hn hn2)
    have B0 := Lib.hid (bl_alloc (bl_refl w) (.cells ([.int .i64 h, .int .i64 l, .int .i64 m, .int .i64 b, .bool hi, .int .i64 lo] : List Value).toArray 25))
    clear e e2
    generalize codeH h l m b hi lo hs bs = k at *
    have hk : (k == 0) = false := by simp [h0]
    clear hr hr2
    unfold vV at *
    go_enter Tryz.func12, Tryz.ntmps12
    go_wp2_with (go_at_call 31; refine (KC.out _ B0.out).mono ?_; rintro e w1 ⟨rfl, hb1⟩; have B1 := Lib.hid (bl_trans B0.out hb1); clear hb1)
    go_ret2
    exact ⟨rfl, B1.out⟩
end Go.Proofs.YtlpkaflmhdgmmaaGreatDoor
