/-
  RatioText: the walks of the model's and of the program's function.
-/
import Derived.Test.YtohhjcnkbifdbaaDoorReadPure
import Derived.Test.YtohhjcnkbifdbaaDoorDec
import Derived.Test.YtohhjcnkbifdbaaDoorRatioOf
import Derived.Test.YtohhjcnkbifdbaaDoorShelf
import Derived.Lib.AppendIntMem
import Derived.Deep.RegionHeld3
namespace Go.Proofs.YtohhjcnkbifdbaaDoor
open Go.RowKit
set_option linter.unusedVariables false

theorem str_three (a b : List UInt8) : (⟨a.toArray⟩ : ByteArray) ++ ⟨#[47]⟩ ++ ⟨b.toArray⟩ = ⟨(a ++ [47] ++ b).toArray⟩ := by
  have e : (⟨#[47]⟩ : ByteArray) = ⟨([47] : List UInt8).toArray⟩ := rfl
  rw [e, ByteArray.mk_append_mk, ByteArray.mk_append_mk]

theorem ret_three (a b : List UInt8) : Ending.returned (.string ((⟨a.toArray⟩ : ByteArray) ++ ⟨#[47]⟩ ++ ⟨b.toArray⟩)) = .returned (strV (a ++ [47] ++ b)) := by rw [str_three]
/-- What a library call leaves: new blocks and draws. -/
theorem below_grow (w : World) (k : Nat) (os : Array Obj) : Below w.heap.size w (Go.Sort.grow (w.drewN k) os) :=
  ⟨rfl, rfl, rfl, by simp [Go.Sort.grow], fun i hi => by simp [Go.Sort.grow, Array.getElem?_append, hi]⟩

set_option maxRecDepth 100000 in
set_option maxHeartbeats 400000 in
theorem specText_no (n d : Int) (w : World) (h : Hid (isR n d = false)) :
    Calls Tryd.prog 18 #[.agg #[.int .i64 n, .int .i64 d]] w (Fresh (strV []) w) := by
  go_enter Tryd.func18, Tryd.ntmps18
  go_wp2_with (go_at_call 42; refine (specIs_no _ _ _ h.out).mono ?_; rintro e w2 ⟨rfl, hb2⟩)
  go_ret
  exact ⟨rfl, bl_trans (bl_alloc (bl_refl _) _) hb2⟩

set_option maxRecDepth 100000 in
set_option maxHeartbeats 400000 in
theorem specText_one (n : Int) (w : World) (h : Hid (isR n 1 = true)) (h0 : -1000000000 ≤ n) (h1 : n ≤ 1000000000) :
    Calls Tryd.prog 18 #[.agg #[.int .i64 n, .int .i64 1]] w (Fresh (strV (Lib.itoa n)) w) := by
  have K := Lib.hid (fun W => number_of n W (by omega) (by omega))
  go_enter Tryd.func18, Tryd.ntmps18
  go_wp2_with (go_at_call 42; refine (specIs_yes _ _ _ h.out).mono ?_; rintro e w2 ⟨rfl, hb2⟩; obtain ⟨hc2, hf2⟩ := bcell hb2)
  go_wp2_with (go_at_call 43; refine (K.out _).mono ?_; rintro e w3 ⟨rfl, hb3⟩)
  go_ret
  exact ⟨rfl, bl_trans (bl_trans (bl_alloc (bl_refl _) _) hb2) hb3⟩

theorem box_call {w W W1 : World} {n d : Int} (h : W.cell? ⟨w.heap.size, 0, none⟩ = some (.int .i64 n) ∧ W.cell? ⟨w.heap.size, 1, none⟩ = some (.int .i64 d) ∧ Below w.heap.size w W) (hb : Below W.heap.size W W1) :
    W1.cell? ⟨w.heap.size, 0, none⟩ = some (.int .i64 n) ∧ W1.cell? ⟨w.heap.size, 1, none⟩ = some (.int .i64 d) ∧ Below w.heap.size w W1 := by
  have hg := World.block_lt_of_cell? W _ h.1
  exact ⟨(hb.cell (p := ⟨w.heap.size, 0, none⟩) hg).trans h.1, (hb.cell (p := ⟨w.heap.size, 1, none⟩) hg).trans h.2.1, bl_trans h.2.2 hb⟩
theorem box_fin {w W : World} {n d : Int} (h : W.cell? ⟨w.heap.size, 0, none⟩ = some (.int .i64 n) ∧ W.cell? ⟨w.heap.size, 1, none⟩ = some (.int .i64 d) ∧ Below w.heap.size w W) : Below w.heap.size w W := h.2.2
theorem box_new (w : World) (n d : Int) (t : TypeId) : (w.alloc (.cells #[.int .i64 n, .int .i64 d] t)).cell? ⟨w.heap.size, 0, none⟩ = some (.int .i64 n) ∧ (w.alloc (.cells #[.int .i64 n, .int .i64 d] t)).cell? ⟨w.heap.size, 1, none⟩ = some (.int .i64 d) ∧ Below w.heap.size w (w.alloc (.cells #[.int .i64 n, .int .i64 d] t)) :=
  ⟨by simp [go_sem], by simp [go_sem], bl_alloc (bl_refl _) _⟩

set_option maxRecDepth 100000 in
set_option maxHeartbeats 1000000 in
theorem specText_two (n d : Int) (w : World) (h : Hid (isR n d = true)) (h0 : -1000000000 ≤ n) (h1 : n ≤ 1000000000) (h2 : 1 < d) (h3 : d ≤ 1000000000) :
    Calls Tryd.prog 18 #[.agg #[.int .i64 n, .int .i64 d]] w (Fresh (strV (Lib.itoa n ++ [47] ++ Lib.itoa d)) w) := by
  have K := Lib.hid (fun W => number_of n W (by omega) (by omega))
  have hd : Hid (Lib.itoa d = Lib.decDigits d.toNat) := Lib.hid (by unfold Lib.itoa; rw [if_neg (by omega)])
  have K2 := Lib.hid (fun W => dec_of d W (by omega) (by omega))
  have l1 := itoa_len n (by omega) (by omega)
  have l2 : (Lib.decDigits d.toNat).length ≤ 20 := dec_len _ (by omega)
  have q1 : ∀ W : World, (Op.stringOp .add ⟨(Lib.itoa n).toArray⟩ ⟨#[47]⟩).run Tryd.prog W = .ok (.string (⟨(Lib.itoa n).toArray⟩ ++ ⟨#[47]⟩)) W := fun W => run_string_add W _ _ (by simp [ByteArray.size]; omega) (by simp [ByteArray.size])
  have q2 : ∀ W : World, (Op.stringOp .add (⟨(Lib.itoa n).toArray⟩ ++ ⟨#[47]⟩) ⟨(Lib.decDigits d.toNat).toArray⟩).run Tryd.prog W = .ok (.string (⟨(Lib.itoa n).toArray⟩ ++ ⟨#[47]⟩ ++ ⟨(Lib.decDigits d.toNat).toArray⟩)) W := fun W => run_string_add W _ _ (by rw [ByteArray.size_append]; simp [ByteArray.size]; omega) (by simp [ByteArray.size]; omega)
  clear l1 l2
  go_enter Tryd.func18, Tryd.ntmps18
  go_wp2_with (go_at_call 42; refine (specIs_yes _ _ _ h.out).mono ?_; rintro e w2 ⟨rfl, hb2⟩; have S2 := box_call (box_new w n d _) hb2)
  go_region_held3 (fun w' => w'.cell? ⟨w.heap.size, 0, none⟩ = some (.int .i64 n) ∧ w'.cell? ⟨w.heap.size, 1, none⟩ = some (.int .i64 d) ∧ Below w.heap.size w w')
    (first | exact box_call S2 (bl_drew (bl_refl _)) | exact box_call (by assumption) hb | go_keep)
    (first | (go_at_call 43; refine (K.out _).mono ?_; rintro e w3 ⟨rfl, hb⟩) | (go_at_call 44; refine (K2.out _).mono ?_; rintro e w4 ⟨rfl, hb⟩))
  go_wp2_with fail
  go_ret
  refine ⟨?_, box_fin (by assumption)⟩
  rw [hd.out]
  exact ret_three _ _

theorem specText_any (n d : Int) (w : World) :
    Calls Tryd.prog 18 #[.agg #[.int .i64 n, .int .i64 d]] w (Fresh (strV (textR n d)) w) := by
  rcases h : isR n d with _ | _
  · rw [textR_no n d h]; exact specText_no n d w (Lib.hid h)
  · obtain ⟨a1, a2, a3, a4⟩ := isR_bd' n d h
    by_cases hd : d = 1
    · subst hd; rw [textR_one n h]; exact specText_one n w (Lib.hid h) a1 a2
    · rw [textR_two n d h hd]; exact specText_two n d w (Lib.hid h) a1 a2 (by omega) a4

/-- The library's table of powers of ten stands from here on. -/
def Pow10 (B : Nat) (w : World) : Prop := Lib.TabBelow Tryd.prog B w "internal/strconv.uint64pow10" .u64 Lib.pow10Tab
theorem fmt_at {B : Nat} {w : World} (H : Pow10 B w) (W : World) (hb : Below B w W) (n : Int) (h0 : -9223372036854775808 ≤ n) (h1 : n ≤ 9223372036854775807) :
    Calls Tryd.prog 24 #[.int .i64 n, .int .i64 10] W (Fresh (strV (Lib.itoa n)) W) :=
  (Tryd.strconv_FormatInt_10 n h0 h1 W (H W hb)).mono fun _ _ ⟨he, k, os, hw⟩ => ⟨he, hw ▸ below_grow W k os⟩

set_option maxRecDepth 100000 in
set_option maxHeartbeats 400000 in
theorem implText_no (n d : Int) (w : World) (h : Hid (isR n d = false)) :
    Calls Tryd.prog 8 #[.agg #[.int .i64 n, .int .i64 d]] w (Fresh (strV []) w) := by
  go_enter Tryd.func8, Tryd.ntmps8
  go_wp2_with (go_at_call 19; refine (implIs_no _ _ _ h.out).mono ?_; rintro e w2 ⟨rfl, hb2⟩)
  go_ret
  exact ⟨rfl, bl_trans (bl_alloc (bl_refl _) _) hb2⟩
set_option maxRecDepth 100000 in
set_option maxHeartbeats 400000 in
theorem implText_one (n : Int) (w : World) (B : Nat) (htab : Hid (Pow10 B w)) (hB : B ≤ w.heap.size) (h : Hid (isR n 1 = true)) (h0 : -1000000000 ≤ n) (h1 : n ≤ 1000000000) :
    Calls Tryd.prog 8 #[.agg #[.int .i64 n, .int .i64 1]] w (Fresh (strV (Lib.itoa n)) w) := by
  have K := Lib.hid (fun W (hb : Below w.heap.size w W) => fmt_at htab.out W (hb.mono hB) n (by omega) (by omega))
  go_enter Tryd.func8, Tryd.ntmps8
  go_wp2_with (go_at_call 19; refine (implIs_yes _ _ _ h.out).mono ?_; rintro e w2 ⟨rfl, hb2⟩; have S2 := box_call (box_new w n 1 _) hb2; have HS2 := Lib.hid S2)
  go_wp2_with (go_at_call 24; refine (K.out _ HS2.out.2.2).mono ?_; rintro e w3 ⟨rfl, hb3⟩; have S3 := box_call HS2.out hb3; have HS3 := Lib.hid S3; clear S2)
  go_ret
  exact ⟨rfl, HS3.out.2.2⟩
set_option maxRecDepth 100000 in
set_option maxHeartbeats 400000 in
theorem implText_two (n d : Int) (w : World) (B : Nat) (htab : Hid (Pow10 B w)) (hB : B ≤ w.heap.size) (h : Hid (isR n d = true)) (h0 : -1000000000 ≤ n) (h1 : n ≤ 1000000000) (h2 : 1 < d) (h3 : d ≤ 1000000000) :
    Calls Tryd.prog 8 #[.agg #[.int .i64 n, .int .i64 d]] w (Fresh (strV (Lib.itoa n ++ [47] ++ Lib.itoa d)) w) := by
  have K := Lib.hid (fun W (hb : Below w.heap.size w W) => fmt_at htab.out W (hb.mono hB) n (by omega) (by omega))
  have K2 := Lib.hid (fun W (hb : Below w.heap.size w W) => fmt_at htab.out W (hb.mono hB) d (by omega) (by omega))
  have l1 := itoa_len n (by omega) (by omega)
  have l2 := itoa_len d (by omega) (by omega)
  have hd1 : (d == 1) = false := by simp; omega
  go_enter Tryd.func8, Tryd.ntmps8
  go_wp2_with (go_at_call 19; refine (implIs_yes _ _ _ h.out).mono ?_; rintro e w2 ⟨rfl, hb2⟩; have S2 := box_call (box_new w n d _) hb2; have HS2 := Lib.hid S2)
  go_wp2_with (go_at_call 24; first | ((with_reducible refine (K.out _ HS2.out.2.2).mono ?_); rintro e w3 ⟨rfl, hb3⟩; have S3 := box_call HS2.out hb3; have HS3 := Lib.hid S3; clear S2) | ((with_reducible refine (K2.out _ HS3.out.2.2).mono ?_); rintro e w4 ⟨rfl, hb4⟩))
  go_ret
  refine ⟨?_, bl_trans HS3.out.2.2 hb4⟩
  exact ret_three _ _
theorem implText_any (n d : Int) (w : World) (B : Nat) (htab : Pow10 B w) (hB : B ≤ w.heap.size) :
    Calls Tryd.prog 8 #[.agg #[.int .i64 n, .int .i64 d]] w (Fresh (strV (textR n d)) w) := by
  rcases h : isR n d with _ | _
  · rw [textR_no n d h]; exact implText_no n d w (Lib.hid h)
  · obtain ⟨a1, a2, a3, a4⟩ := isR_bd' n d h
    by_cases hd : d = 1
    · subst hd; rw [textR_one n h]; exact implText_one n w B (Lib.hid htab) hB (Lib.hid h) a1 a2
    · rw [textR_two n d h hd]; exact implText_two n d w B (Lib.hid htab) hB (Lib.hid h) a1 a2 (by omega) a4

end Go.Proofs.YtohhjcnkbifdbaaDoor
