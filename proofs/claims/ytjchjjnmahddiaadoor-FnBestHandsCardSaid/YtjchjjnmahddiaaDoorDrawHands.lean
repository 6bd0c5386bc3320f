/-
  What the laws on hands draw from their code: a list, two lists.
-/
import Derived.Test.YtjchjjnmahddiaaDoorDrawSome
namespace Go.Proofs.YtjchjjnmahddiaaDoor
open Go.RowKit
set_option linter.unusedVariables false

/-- A list that a law draws. -/
def DrawnM (N : Nat) (w : World) (e : Ending) (w' : World) : Prop :=
  ∃ (xs : List Int) (A : Option Addr) (cc : Nat), e = .returned (.slice A xs.length cc) ∧ 4 ≤ xs.length ∧ xs.length ≤ N ∧ xs.length ≤ cc ∧ Rd w' A xs ∧ Below w.heap.size w w'
/-- Two lists that a law draws. -/
def DrawnMM (N : Nat) (w : World) (e : Ending) (w' : World) : Prop :=
  ∃ (xs : List Int) (A : Option Addr) (cc : Nat) (ys : List Int) (B : Option Addr) (cd : Nat), e = .returned (.tuple #[.slice A xs.length cc, .slice B ys.length cd]) ∧ xs.length ≤ N ∧ xs.length ≤ cc ∧ Rd w' A xs ∧ ys.length ≤ N ∧ ys.length ≤ cd ∧ Rd w' B ys ∧ Below w.heap.size w w'
theorem below_srcM {w w1 w2 : World} {s : Nat} (hb : Below w.heap.size w w1) (hs : w.heap.size ≤ s) (hy : Only s w1 w2) : Below w.heap.size w w2 :=
  Below.grown (row := some s) hb hy hb.size (fun j hj => by injection hj with hj; omega)
set_option maxRecDepth 100000 in
set_option maxHeartbeats 1000000 in
theorem drawBestFive_any (a : Option Addr) (L c : Nat) (zs : Nat → Int) (w : World) (hL : L ≤ 4096) (hc : CodeIn w a L zs) :
    Calls Tryd.prog 27 #[.slice a L c] w (DrawnM 10 w) := by
  have K := Lib.hid (from_any a L c zs w hL hc)
  clear hc
  go_enter Tryd.func27, Tryd.ntmps27
  go_wp2_with (go_at_call 39; refine K.out.mono ?_; rintro e w1 ⟨rfl, hs1, hb1⟩; have S1 := Lib.hid hs1; have B1 := Lib.hid hb1; clear hs1 hb1)
  go_wp2_with (go_at_call 56; refine (drawMore_any _ _ _ _ _ _ S1.out).mono ?_; rintro e w2 ⟨xs, A, cc, rfl, h4, hN, hcap, hr, hA, hs2, hy⟩; have R2 := Lib.hid hr; have Y2 := Lib.hid hy; clear hr hy hs2 hA)
  go_ret
  exact ⟨xs, A, cc, rfl, h4, hN, hcap, R2.out, below_srcM B1.out (Nat.le_refl _) Y2.out⟩

set_option maxRecDepth 100000 in
set_option maxHeartbeats 2000000 in
theorem drawCompareHigh_any (a : Option Addr) (L c : Nat) (zs : Nat → Int) (w : World) (hL : L ≤ 4096) (hc : CodeIn w a L zs) :
    Calls Tryd.prog 30 #[.slice a L c] w (DrawnMM 10 w) := by
  have K := Lib.hid (from_any a L c zs w hL hc)
  clear hc
  go_enter Tryd.func30, Tryd.ntmps30
  go_wp2_with (go_at_call 39; refine K.out.mono ?_; rintro e w1 ⟨rfl, hs1, hb1⟩; have S1 := Lib.hid hs1; have B1 := Lib.hid hb1; clear hs1 hb1)
  go_wp2_with (go_at_call 56; refine (drawMore_any _ _ _ _ _ _ S1.out).mono ?_; rintro e w2 ⟨xs, A, cc, rfl, h4, h10, hcap, hr, hA, hs2, hy2⟩; have R2 := Lib.hid hr; have Y2 := Lib.hid hy2; have S2 := Lib.hid hs2; have HA := Lib.hid hA; clear hr hy2 hs2 hA)
  obtain ⟨b, off, rfl, _⟩ := R2.out (by omega)
  have HS := src_lt S1.out
  have HAb : Hid (w1.heap.size ≤ b) := Lib.hid (HA.out _ rfl)
  have K4 := Lib.hid (fun W (h : Src W w.heap.size a L c zs) => drawMore_any w.heap.size a L c zs W h)
  have KN := Lib.hid (fun W (h : Src W w.heap.size a L c zs) => next_any w.heap.size 3 a L c zs W (by omega) (by omega) h)
  clear HA
  by_cases h5 : 4 < xs.length
  · have h5' : (4 : Int) < (xs.length : Int) := by omega
    have hc5 : (5 : Int) ≤ (cc : Int) := by omega
    have e5 : (xs.take 5).length = 5 := by rw [List.length_take]; omega
    have KP : Hid (∀ W : World, Rd W (some ⟨b, off, none⟩) xs → Src W w.heap.size a L c zs → Calls Tryd.prog 57 #[.pointer (some ⟨w.heap.size, 0, none⟩), .slice (some ⟨b, off, none⟩) 5 cc] W (PermL (xs.take 5) W w.heap.size a L c zs)) := Lib.hid (fun W q1 q2 => by
      have := pickList_any w.heap.size (some ⟨b, off, none⟩) cc (xs.take 5) a L c zs W (rd_to (n := 5) q1) (fun x e => by obtain rfl := Option.some.inj e; have := HAb.out; show b ≠ w.heap.size; omega) (by omega) q2
      rw [e5] at this
      exact this)
    have E5 := Lib.hid e5
    clear e5
    go_wp2_with (first
      | (go_at_call 40; ((with_reducible refine (KN.out _ S2.out).mono ?_); rintro e w3 ⟨x, rfl, x0, x1, hs3, ho3⟩; have S3 := Lib.hid hs3; have Y3 := Lib.hid (only_trans Y2.out ho3); have R3 := Lib.hid (rd_onlyM R2.out ho3 HS (fun b' e => by obtain rfl := Option.some.inj e; exact HAb.out)); clear hs3 ho3))
      | (go_at_call 57; ((with_reducible refine (KP.out _ R3.out S3.out).mono ?_); rintro e w4 ⟨ys, B, cd, rfl, ho4, hs4, hy4, hp4⟩; have L4 : Hid (ys.length ≤ 10) := Lib.hid (by rw [hp4.length_eq, E5.out]; omega); have R4 := Lib.hid ho4.rd; have C4 := Lib.hid (own_cap ho4); have R5 := Lib.hid (rd_onlyM R3.out hy4 HS (fun b' e => by obtain rfl := Option.some.inj e; exact HAb.out)); have Y4 := Lib.hid (only_trans Y3.out hy4); clear ho4 hy4 hs4 hp4))
      | (go_at_call 56; ((with_reducible refine (K4.out _ S3.out).mono ?_); rintro e w4 ⟨ys, B, cd, rfl, g4, g10, gcap, hr4, hB4, hs4, hy4⟩; have R4 := Lib.hid hr4; have R5 := Lib.hid (rd_onlyM R3.out hy4 HS (fun b' e => by obtain rfl := Option.some.inj e; exact HAb.out)); have Y4 := Lib.hid (only_trans Y3.out hy4); clear hr4 hy4 hs4 hB4)))
    · go_ret2
      exact ⟨xs, some ⟨b, off, none⟩, cc, ys, B, cd, rfl, h10, hcap, R5.out, L4.out, C4.out, R4.out, below_srcM B1.out (Nat.le_refl _) Y4.out⟩
    · go_ret2
      exact ⟨xs, some ⟨b, off, none⟩, cc, ys, B, cd, rfl, h10, hcap, R5.out, g10, gcap, R4.out, below_srcM B1.out (Nat.le_refl _) Y4.out⟩
  · have h5' : (xs.length : Int) ≤ 4 := by omega
    go_wp2_with (first
      | (go_at_call 40; ((with_reducible refine (KN.out _ S2.out).mono ?_); rintro e w3 ⟨x, rfl, x0, x1, hs3, ho3⟩; have S3 := Lib.hid hs3; have Y3 := Lib.hid (only_trans Y2.out ho3); have R3 := Lib.hid (rd_onlyM R2.out ho3 HS (fun b' e => by obtain rfl := Option.some.inj e; exact HAb.out)); clear hs3 ho3))
      | (go_at_call 56; ((with_reducible refine (K4.out _ S3.out).mono ?_); rintro e w4 ⟨ys, B, cd, rfl, g4, g10, gcap, hr4, hB4, hs4, hy4⟩; have R4 := Lib.hid hr4; have R5 := Lib.hid (rd_onlyM R3.out hy4 HS (fun b' e => by obtain rfl := Option.some.inj e; exact HAb.out)); have Y4 := Lib.hid (only_trans Y3.out hy4); clear hr4 hy4 hs4 hB4)))
    all_goals
      go_ret2
      exact ⟨xs, some ⟨b, off, none⟩, cc, ys, B, cd, rfl, h10, hcap, R5.out, g10, gcap, R4.out, below_srcM B1.out (Nat.le_refl _) Y4.out⟩
end Go.Proofs.YtjchjjnmahddiaaDoor
