/-
  l01Dec, l01Number: a number in decimal.
-/
import Derived.Test.YtohhjcnkbifdbaaDoorFrame
import Derived.Test.YtohhjcnkbifdbaaDoorRatio
import Derived.Lib.ItoaNum
import Derived.Lib.ItoaLen
import Derived.Laws.Concat
import Derived.Deep.RegionWith
import Derived.WalkLawsBesides
import Derived.WalkSpells
namespace Go.Proofs.YtohhjcnkbifdbaaDoor
open Go.RowKit
set_option linter.unusedVariables false

abbrev strV (l : List UInt8) : Value := .string ⟨l.toArray⟩

theorem conv_cell (W : World) (b : Nat) (z : Int) (h : W.cell? ⟨b, 0, none⟩ = some (.int .u8 z)) :
    (convert 22 9 (.slice (some ⟨b, 0, none⟩) 1 1)).run Tryd.prog W = .ok (.string ⟨#[UInt8.ofNat z.toNat]⟩) W := by
  refine run_convert_bytes_arg W 22 5 Tryd.underlying22 Tryd.underlying5 b 0 1 1 [z] rfl (fun i hi => ?_) 9 Tryd.underlying9
  obtain rfl : i = 0 := by omega
  exact h
theorem conv_new (w : World) (z : Int) :
    (convert 22 9 (.slice (some ⟨w.heap.size, 0, none⟩) 1 1)).run Tryd.prog (w.alloc (.cells #[.int .u8 z] 5)) = .ok (.string ⟨#[UInt8.ofNat z.toNat]⟩) (w.alloc (.cells #[.int .u8 z] 5)) :=
  conv_cell _ _ z (by simp [go_sem])
theorem conv_drew (w : World) (z : Int) :
    (convert 22 9 (.slice (some ⟨w.heap.size, 0, none⟩) 1 1)).run Tryd.prog (w.alloc (.cells #[.int .u8 z] 5)).drew = .ok (.string ⟨#[UInt8.ofNat z.toNat]⟩) (w.alloc (.cells #[.int .u8 z] 5)).drew :=
  conv_cell _ _ z (by simp [go_sem])
theorem dec_len (u : Nat) (h : u < 18446744073709551616) : (Lib.decDigits u).length ≤ 20 := by rw [Lib.decDigits_length]; exact Lib.nDigits_le20 u h
theorem strV_eq {a b : List UInt8} (h : a = b) : Ending.returned (.string ⟨a.toArray⟩) = .returned (strV b) := by rw [h]

set_option maxRecDepth 100000 in
set_option maxHeartbeats 400000 in
theorem dec_small (n : Int) (w : World) (h0 : 0 ≤ n) (h1 : n < 10) :
    Calls Tryd.prog 44 #[.int .i64 n] w (Fresh (strV (Lib.decDigits n.toNat)) w) := by
  have c1 := fun W z => conv_new W z
  go_enter Tryd.func44, Tryd.ntmps44
  go_wp2_with fail
  go_ret
  refine ⟨strV_eq (a := [UInt8.ofNat (48 + n).toNat]) ?_, bl_alloc (bl_refl _) _⟩
  rw [Lib.decDigits_one (by omega)]
  congr 2
  omega

theorem dec_big (n : Int) (h0 : 10 ≤ n) : Ending.returned (.string (⟨(Lib.decDigits (n / 10).toNat).toArray⟩ ++ ⟨#[UInt8.ofNat (48 + n % 10).toNat]⟩)) = .returned (strV (Lib.decDigits n.toNat)) := by
  have e : Lib.decDigits n.toNat = Lib.decDigits (n / 10).toNat ++ [UInt8.ofNat (48 + n % 10).toNat] := by
    rw [Lib.decDigits, dif_neg (by omega)]
    have e1 : n.toNat / 10 = (n / 10).toNat := by omega
    have e2 : 48 + n.toNat % 10 = (48 + n % 10).toNat := by omega
    rw [e1, e2]
  rw [e, ByteArray.mk_append_mk]

/-- A call of l01Dec behind a new byte: the byte is there still. -/
def DecNew (v : Value) (X : World) (z : Int) (w : World) (e : Ending) (w' : World) : Prop :=
  e = .returned v ∧ Below w.heap.size w w' ∧ (convert 22 9 (.slice (some ⟨X.heap.size, 0, none⟩) 1 1)).run Tryd.prog w' = .ok (.string ⟨#[UInt8.ofNat z.toNat]⟩) w'
theorem dec_new {f : FuncId} {args : Array Value} {v : Value} {X : World} {z : Int} (h : Calls Tryd.prog f args (X.alloc (.cells #[.int .u8 z] 5)).drew (Fresh v (X.alloc (.cells #[.int .u8 z] 5)).drew)) :
    Calls Tryd.prog f args (X.alloc (.cells #[.int .u8 z] 5)).drew (DecNew v X z (X.alloc (.cells #[.int .u8 z] 5)).drew) :=
  h.mono fun _ w' ⟨he, hb⟩ => ⟨he, hb, conv_cell _ _ z ((hb.cell (p := ⟨X.heap.size, 0, none⟩) (by show X.heap.size < (X.alloc _).heap.size; simp)).trans (by simp [go_sem]))⟩

set_option maxRecDepth 100000 in
set_option maxHeartbeats 1000000 in
theorem dec_step (n : Int) (w : World) (h0 : 10 ≤ n) (h1 : n ≤ 4000000000000000000) (K : Hid (∀ W, Calls Tryd.prog 44 #[.int .i64 (n / 10)] W (Fresh (strV (Lib.decDigits (n / 10).toNat)) W))) :
    Calls Tryd.prog 44 #[.int .i64 n] w (Fresh (strV (Lib.decDigits n.toNat)) w) := by
  have c1 := fun W z => conv_new W z
  have c2 := fun W z => conv_drew W z
  have m0 : 0 ≤ n % 10 := Int.emod_nonneg _ (by omega)
  have m1 : n % 10 < 10 := Int.emod_lt_of_pos _ (by omega)
  have hlen : (Lib.decDigits (n / 10).toNat).length ≤ 20 := dec_len _ (by omega)
  have e1 : n.tdiv 10 = n / 10 := Int.tdiv_eq_ediv_of_nonneg (by omega)
  have e2 : n.tmod 10 = n % 10 := Int.tmod_eq_emod_of_nonneg (by omega)
  have e3 : IntKind.i64.wrap (n / 10) = n / 10 := IntWalk.i64_in _ (by omega)
  have e4 : IntKind.i64.wrap (48 + n % 10) = 48 + n % 10 := IntWalk.i64_in _ (by omega)
  have e5 : IntKind.u8.wrap (48 + n % 10) = 48 + n % 10 := IntWalk.u8_in _ (by omega)
  go_enter Tryd.func44, Tryd.ntmps44
  go_wp2_with fail
  go_region_with ((go_at_call 44; first | ((with_reducible refine (dec_new (K.out _)).mono ?_); rintro e w1 ⟨rfl, hb, hv⟩) | ((with_reducible refine (K.out _).mono ?_); rintro e w1 ⟨rfl, hb⟩)))
  all_goals
    go_wp2_with fail
    go_ret
    refine ⟨dec_big n h0, ?_⟩
    repeat (first | exact bl_refl _ | (refine bl_trans ?_ (by assumption)) | apply bl_alloc | apply bl_drewN | apply bl_drew)

theorem dec_any (k : Nat) : ∀ (n : Int) (w : World), n ≤ k → 0 ≤ n → n ≤ 4000000000000000000 →
    Calls Tryd.prog 44 #[.int .i64 n] w (Fresh (strV (Lib.decDigits n.toNat)) w) := by
  induction k with
  | zero =>
    intro n w hk h0 h1
    exact dec_small n w h0 (by omega)
  | succ k ih =>
    intro n w hk h0 h1
    by_cases h : n < 10
    · exact dec_small n w h0 h
    · exact dec_step n w (by omega) h1 (Lib.hid fun W => ih (n / 10) W (by omega) (by omega) (by omega))

/-- A number in decimal. -/
theorem dec_of (n : Int) (w : World) (h0 : 0 ≤ n) (h1 : n ≤ 4000000000000000000) :
    Calls Tryd.prog 44 #[.int .i64 n] w (Fresh (strV (Lib.decDigits n.toNat)) w) := dec_any n.toNat n w (by omega) h0 h1

theorem itoa_len (n : Int) (h0 : -4000000000000000000 ≤ n) (h1 : n ≤ 4000000000000000000) : (Lib.itoa n).length ≤ 21 := by
  unfold Lib.itoa
  split
  · have := dec_len n.natAbs (by omega)
    simp; omega
  · have := dec_len n.toNat (by omega)
    omega

set_option maxRecDepth 100000 in
set_option maxHeartbeats 400000 in
theorem number_neg (n : Int) (w : World) (h0 : -4000000000000000000 ≤ n) (h1 : n < 0) :
    Calls Tryd.prog 43 #[.int .i64 n] w (Fresh (strV (Lib.itoa n)) w) := by
  have hlen : (Lib.decDigits (-n).toNat).length ≤ 20 := dec_len _ (by omega)
  have hi : Hid (Lib.itoa n = 45 :: Lib.decDigits (-n).toNat) := Lib.hid (by unfold Lib.itoa; rw [if_pos h1]; congr 2; omega)
  have K := Lib.hid (fun W => dec_of (-n) W (by omega) (by omega))
  go_enter Tryd.func43, Tryd.ntmps43
  go_wp2_with (go_at_call 44; refine (K.out _).mono ?_; rintro e w1 ⟨rfl, hb⟩)
  go_ret
  refine ⟨?_, hb⟩
  rw [hi.out]
  rfl
set_option maxRecDepth 100000 in
set_option maxHeartbeats 400000 in
theorem number_pos (n : Int) (w : World) (h0 : 0 ≤ n) (h1 : n ≤ 4000000000000000000) :
    Calls Tryd.prog 43 #[.int .i64 n] w (Fresh (strV (Lib.itoa n)) w) := by
  have hi : Hid (Lib.itoa n = Lib.decDigits n.toNat) := Lib.hid (by unfold Lib.itoa; rw [if_neg (by omega)])
  have K := Lib.hid (fun W => dec_of n W (by omega) (by omega))
  go_enter Tryd.func43, Tryd.ntmps43
  go_wp2_with (go_at_call 44; refine (K.out _).mono ?_; rintro e w1 ⟨rfl, hb⟩)
  go_ret
  refine ⟨?_, hb⟩
  rw [hi.out]
  rfl
theorem number_of (n : Int) (w : World) (h0 : -4000000000000000000 ≤ n) (h1 : n ≤ 4000000000000000000) :
    Calls Tryd.prog 43 #[.int .i64 n] w (Fresh (strV (Lib.itoa n)) w) := by
  by_cases h : n < 0
  · exact number_neg n w h0 h
  · exact number_pos n w (by omega) h1

end Go.Proofs.YtohhjcnkbifdbaaDoor
