/-
  Put together, what this law needs of: SpecBetL, BetRules, BetHas, BetHasA, BetHasB.
-/
import Derived.Test.YtnllndcajdofjaaQbSpecBetC
import Derived.MapKept
import Derived.Deep.RegionWith
namespace Go.Proofs.Ytnllndcajdofjaa
open Go.RowKit
set_option linter.unusedVariables false

/-- An action is one of these choices. -/
def legV (c : Bool) (ca le mo k x : Int) : Bool :=
  if k = 0 then x == 0 else if k = 1 then x == 0 && c else if k = 2 then x == 0 && decide (0 < ca) else if k = 3 then decide (0 < mo) && decide (le ≤ x) && decide (x ≤ mo) else false
theorem leg_same (b : Bt) (k x : Int) : legB b k x = legV (checkB b) (callI b) (leastI b) (mostI b) k x := rfl
theorem legV_0 (c : Bool) (ca le mo x : Int) : legV c ca le mo 0 x = (x == 0) := rfl
theorem legV_1 (c : Bool) (ca le mo x : Int) : legV c ca le mo 1 x = (x == 0 && c) := rfl
theorem legV_2 (c : Bool) (ca le mo x : Int) : legV c ca le mo 2 x = (x == 0 && decide (0 < ca)) := rfl
theorem legV_3 (c : Bool) (ca le mo x : Int) : legV c ca le mo 3 x = (decide (0 < mo) && decide (le ≤ x) && decide (x ≤ mo)) := rfl
theorem legV_no (c : Bool) (ca le mo k x : Int) (h0 : k ≠ 0) (h1 : k ≠ 1) (h2 : k ≠ 2) (h3 : k ≠ 3) : legV c ca le mo k x = false := by unfold legV; rw [if_neg h0, if_neg h1, if_neg h2, if_neg h3]
set_option maxRecDepth 100000 in
set_option maxHeartbeats 3000000 in
theorem l10Legal_any (L : At5) (b : Bt) (k x : Int) (w : World) (h : Rd5 w L b) (kk : Ok b) (ho : openB b = true) :
    Calls Try.prog 84 #[bV L b, .agg #[.int .i64 k, .int .i64 x]] w (Fresh (.bool (legB b k x)) w) := by
  rw [leg_same]
  have KC := Lib.hid (fun (W : World) (hW : Rd5 W L b) => l10Choices_any L b W hW kk ho)
  have KI := Lib.hid (fun (le mo : Int) (W : World) => specIn_any x le mo W)
  have BT := (btAt_new h).below (bl_alloc (bl_refl _) (.cells ([.int .i64 k, .int .i64 x] : List Value).toArray 34))
  have B := Lib.hid (bl_alloc (bl_box (w := w) (L := L) (b := b)) (.cells ([.int .i64 k, .int .i64 x] : List Value).toArray 34))
  have N0 := blk_new (w.alloc (.cells (btL L b).toArray 27)) 34 [.int .i64 k, .int .i64 x]
  rw [World.size_alloc] at N0
  have NA := Lib.hid N0
  have BH := Lib.hid BT
  generalize checkB b = c at *
  generalize callI b = ca at *
  generalize leastI b = le at *
  generalize mostI b = mo at *
  have KI := Lib.hid (KI.out le mo)
  obtain ⟨q0, -⟩ := BT.blk.cell 0 _ rfl
  obtain ⟨q1, -⟩ := BT.blk.cell 1 _ rfl
  obtain ⟨q2, -⟩ := BT.blk.cell 2 _ rfl
  obtain ⟨q3, -⟩ := BT.blk.cell 3 _ rfl
  obtain ⟨q4, -⟩ := BT.blk.cell 4 _ rfl
  obtain ⟨q5, -⟩ := BT.blk.cell 5 _ rfl
  obtain ⟨q6, -⟩ := BT.blk.cell 6 _ rfl
  obtain ⟨q7, -⟩ := BT.blk.cell 7 _ rfl
  obtain ⟨q8, -⟩ := BT.blk.cell 8 _ rfl
  clear h kk ho BT N0
  unfold bV chV at *
  by_cases k0 : k = 0
  · subst k0
    rw [legV_0]
    go_enter Try.func84, Try.ntmps84
    go_wp2_with (first
        | (go_at_call 70; refine (KC.out _ BH.out.rd).mono ?_; rintro e w3 ⟨rfl, hb⟩; have Ba := Lib.hid (bl_trans B.out (bl_trans hb (bl_alloc (bl_refl w3) (.cells ([.bool c, .int .i64 ca, .int .i64 le, .int .i64 mo] : List Value).toArray 30)))); have N5 := blk_new w3 30 [.bool c, .int .i64 ca, .int .i64 le, .int .i64 mo]; have N4 := (NA.out.below hb).below (bl_alloc (bl_refl w3) (.cells ([.bool c, .int .i64 ca, .int .i64 le, .int .i64 mo] : List Value).toArray 30)); obtain ⟨p0, -⟩ := N4.cell 0 _ rfl; obtain ⟨p1, -⟩ := N4.cell 1 _ rfl; obtain ⟨r0, -⟩ := N5.cell 0 _ rfl; obtain ⟨r1, -⟩ := N5.cell 1 _ rfl; obtain ⟨r2, -⟩ := N5.cell 2 _ rfl; obtain ⟨r3, -⟩ := N5.cell 3 _ rfl; clear N4 N5))
    go_ret
    exact ⟨ret_bool rfl, Ba.out⟩
  by_cases k1 : k = 1
  · subst k1
    rw [legV_1]
    rcases x0 : (x == 0) with _ | _
    all_goals
      go_enter Try.func84, Try.ntmps84
      go_wp2_with (first
          | (go_at_call 70; refine (KC.out _ BH.out.rd).mono ?_; rintro e w3 ⟨rfl, hb⟩; have Ba := Lib.hid (bl_trans B.out (bl_trans hb (bl_alloc (bl_refl w3) (.cells ([.bool c, .int .i64 ca, .int .i64 le, .int .i64 mo] : List Value).toArray 30)))); have N5 := blk_new w3 30 [.bool c, .int .i64 ca, .int .i64 le, .int .i64 mo]; have N4 := (NA.out.below hb).below (bl_alloc (bl_refl w3) (.cells ([.bool c, .int .i64 ca, .int .i64 le, .int .i64 mo] : List Value).toArray 30)); obtain ⟨p0, -⟩ := N4.cell 0 _ rfl; obtain ⟨p1, -⟩ := N4.cell 1 _ rfl; obtain ⟨r0, -⟩ := N5.cell 0 _ rfl; obtain ⟨r1, -⟩ := N5.cell 1 _ rfl; obtain ⟨r2, -⟩ := N5.cell 2 _ rfl; obtain ⟨r3, -⟩ := N5.cell 3 _ rfl; clear N4 N5))
      go_ret
      exact ⟨ret_bool (by simp), Ba.out⟩
  by_cases k2 : k = 2
  · subst k2
    rw [legV_2]
    rcases x0 : (x == 0) with _ | _
    all_goals
      go_enter Try.func84, Try.ntmps84
      go_wp2_with (first
          | (go_at_call 70; refine (KC.out _ BH.out.rd).mono ?_; rintro e w3 ⟨rfl, hb⟩; have Ba := Lib.hid (bl_trans B.out (bl_trans hb (bl_alloc (bl_refl w3) (.cells ([.bool c, .int .i64 ca, .int .i64 le, .int .i64 mo] : List Value).toArray 30)))); have N5 := blk_new w3 30 [.bool c, .int .i64 ca, .int .i64 le, .int .i64 mo]; have N4 := (NA.out.below hb).below (bl_alloc (bl_refl w3) (.cells ([.bool c, .int .i64 ca, .int .i64 le, .int .i64 mo] : List Value).toArray 30)); obtain ⟨p0, -⟩ := N4.cell 0 _ rfl; obtain ⟨p1, -⟩ := N4.cell 1 _ rfl; obtain ⟨r0, -⟩ := N5.cell 0 _ rfl; obtain ⟨r1, -⟩ := N5.cell 1 _ rfl; obtain ⟨r2, -⟩ := N5.cell 2 _ rfl; obtain ⟨r3, -⟩ := N5.cell 3 _ rfl; clear N4 N5))
      go_ret
      exact ⟨ret_bool (by simp), Ba.out⟩
  by_cases k3 : k = 3
  · subst k3
    rw [legV_3]
    by_cases m0 : 0 < mo
    · have m1 : decide (0 < mo) = true := decide_eq_true m0
      have HV : Hid (inB x le mo = (decide (0 < mo) && decide (le ≤ x) && decide (x ≤ mo))) := Lib.hid (by unfold inB; rw [m1]; simp [Bool.decide_and])
      go_enter Try.func84, Try.ntmps84
      go_wp2_with (first
          | (go_at_call 70; refine (KC.out _ BH.out.rd).mono ?_; rintro e w3 ⟨rfl, hb⟩; have Ba := Lib.hid (bl_trans B.out (bl_trans hb (bl_alloc (bl_refl w3) (.cells ([.bool c, .int .i64 ca, .int .i64 le, .int .i64 mo] : List Value).toArray 30)))); have N5 := blk_new w3 30 [.bool c, .int .i64 ca, .int .i64 le, .int .i64 mo]; have N4 := (NA.out.below hb).below (bl_alloc (bl_refl w3) (.cells ([.bool c, .int .i64 ca, .int .i64 le, .int .i64 mo] : List Value).toArray 30)); obtain ⟨p0, -⟩ := N4.cell 0 _ rfl; obtain ⟨p1, -⟩ := N4.cell 1 _ rfl; obtain ⟨r0, -⟩ := N5.cell 0 _ rfl; obtain ⟨r1, -⟩ := N5.cell 1 _ rfl; obtain ⟨r2, -⟩ := N5.cell 2 _ rfl; obtain ⟨r3, -⟩ := N5.cell 3 _ rfl; clear N4 N5)
          | (go_at_call 79; refine (KI.out _).mono ?_; rintro e w4 ⟨rfl, rfl⟩))
      go_ret
      exact ⟨ret_bool HV.out, Ba.out⟩
    · have m1 : decide (0 < mo) = false := decide_eq_false m0
      go_enter Try.func84, Try.ntmps84
      go_wp2_with (first
          | (go_at_call 70; refine (KC.out _ BH.out.rd).mono ?_; rintro e w3 ⟨rfl, hb⟩; have Ba := Lib.hid (bl_trans B.out (bl_trans hb (bl_alloc (bl_refl w3) (.cells ([.bool c, .int .i64 ca, .int .i64 le, .int .i64 mo] : List Value).toArray 30)))); have N5 := blk_new w3 30 [.bool c, .int .i64 ca, .int .i64 le, .int .i64 mo]; have N4 := (NA.out.below hb).below (bl_alloc (bl_refl w3) (.cells ([.bool c, .int .i64 ca, .int .i64 le, .int .i64 mo] : List Value).toArray 30)); obtain ⟨p0, -⟩ := N4.cell 0 _ rfl; obtain ⟨p1, -⟩ := N4.cell 1 _ rfl; obtain ⟨r0, -⟩ := N5.cell 0 _ rfl; obtain ⟨r1, -⟩ := N5.cell 1 _ rfl; obtain ⟨r2, -⟩ := N5.cell 2 _ rfl; obtain ⟨r3, -⟩ := N5.cell 3 _ rfl; clear N4 N5))
      go_ret
      exact ⟨ret_bool (by rw [m1]; rfl), Ba.out⟩
  · rw [legV_no _ _ _ _ _ _ k0 k1 k2 k3]
    have t0 : (k == 0) = false := by simpa using k0
    have t1 : (k == 1) = false := by simpa using k1
    have t2 : (k == 2) = false := by simpa using k2
    have t3 : (k == 3) = false := by simpa using k3
    clear k0 k1 k2 k3
    go_enter Try.func84, Try.ntmps84
    go_wp2_with (first
        | (go_at_call 70; refine (KC.out _ BH.out.rd).mono ?_; rintro e w3 ⟨rfl, hb⟩; have Ba := Lib.hid (bl_trans B.out (bl_trans hb (bl_alloc (bl_refl w3) (.cells ([.bool c, .int .i64 ca, .int .i64 le, .int .i64 mo] : List Value).toArray 30)))); have N5 := blk_new w3 30 [.bool c, .int .i64 ca, .int .i64 le, .int .i64 mo]; have N4 := (NA.out.below hb).below (bl_alloc (bl_refl w3) (.cells ([.bool c, .int .i64 ca, .int .i64 le, .int .i64 mo] : List Value).toArray 30)); obtain ⟨p0, -⟩ := N4.cell 0 _ rfl; obtain ⟨p1, -⟩ := N4.cell 1 _ rfl; obtain ⟨r0, -⟩ := N5.cell 0 _ rfl; obtain ⟨r1, -⟩ := N5.cell 1 _ rfl; obtain ⟨r2, -⟩ := N5.cell 2 _ rfl; obtain ⟨r3, -⟩ := N5.cell 3 _ rfl; clear N4 N5))
    go_ret
    exact ⟨ret_bool rfl, Ba.out⟩
end Go.Proofs.Ytnllndcajdofjaa

namespace Go.Proofs.Ytnllndcajdofjaa
open Go.RowKit
set_option linter.unusedVariables false

/-- The rules. -/
def rulV : Nat → Value
  | 0 => .agg #[.func (.func 143) #[] #[], .func (.func 144) #[] #[]]
  | 1 => .agg #[.func (.func 145) #[] #[], .func (.func 146) #[] #[]]
  | 2 => .agg #[.func (.func 147) #[] #[], .func (.func 148) #[] #[]]
  | _ => .agg #[.func (.func 149) #[] #[], .func (.func 150) #[] #[]]
def rulE (n : Nat) : Array MapEntry := ((List.range n).map (fun j : Nat => ({ key := .int .i64 j, val := rulV j, born := j } : MapEntry))).toArray
theorem rulE_push (n : Nat) : (rulE n).push { key := .int .i64 n, val := rulV n, born := n } = rulE (n + 1) := by
  unfold rulE
  rw [List.range_succ, List.map_append]
  simp
theorem uRM : Try.prog.underlying 100 = some (.map 2 99) := by kernel_rfl
theorem findR (d : Nat) : ∀ (l : List Nat) (k : Int) (hk : ∀ j ∈ l, (j : Int) ≠ k), Instr.findNow (.int .i64) (.int .i64 k) (l.map (fun j : Nat => ({ key := .int .i64 j, val := rulV j, born := j } : MapEntry))) d = some none
  | [], k, _ => rfl
  | j :: l, k, hk => by
    have h1 : (k == (j : Int)) = false := by
      have := hk j (List.mem_cons_self ..)
      simp; omega
    simp only [List.map_cons, Instr.findNow, Instr.sameNow, if_true, h1]
    exact findR (d + 1) l k (fun j' h => hk j' (List.mem_cons_of_mem _ h))
theorem run_insR (n : Nat) {w : World} {g : Nat} (h : w.heap[g]? = some (.map (rulE n) n)) :
    (Instr.mapUpdate 100 (.map (some g)) (.int .i64 n) (rulV n)).run Try.prog w = .ok () { w with heap := w.heap.setIfInBounds g (.map (rulE (n + 1)) (n + 1)) } := by
  have h1 : Instr.findNow (.int .i64) (.int .i64 (n : Int)) (rulE n).toList 0 = some none := by
    unfold rulE
    exact findR 0 _ _ (fun j hj => by have := List.mem_range.1 hj; omega)
  unfold Instr.mapUpdate
  simp only [Sem.run_bind, run_underlying uRM, Result.andThen, Go.MapKept.run_getObj_map h, Go.MapKept.run_checkKey Try.underlying2 (show Go.MapKept.IsKey (.int .i64) (.int .i64 (n : Int)) from rfl), Go.MapKept.run_findKey Try.underlying2 h1, Go.MapKept.run_setObj_map _ h, rulE_push]
theorem wpList_insR {ops : Array Oper} {rest : List Oper} {o : Oper} {a : Go.Act} {w : World} {Q : Exit → Go.Act → World → Prop} (hgd : o.guard = none) (m x v : Operand) (ho : o.op = .insert 100 m x v)
    (n g : Nat) (hm : a.eval m = .map (some g)) (hx : a.eval x = .int .i64 n) (hv : a.eval v = rulV n) (hM : w.heap[g]? = some (.map (rulE n) n))
    (h : ∀ w', w'.heap[g]? = some (.map (rulE (n + 1)) (n + 1)) → w.grownBy w' (some g) → wpList Try.prog ops Q rest (a.put o.dst undef) w') : wpList Try.prog ops Q (o :: rest) a w :=
  wpList_plain hgd fun _ hK => by
    unfold Oper.wp execOp
    simp only [ho, hm, hx, hv, Sem.run_bind, Sem.run_pure, Result.andThen_ok, run_insR n hM]
    obtain ⟨k1, k2⟩ := Go.MapKept.heap_set (o' := .map (rulE (n + 1)) (n + 1)) hM
    exact hK _ _ (h _ k1 ⟨rfl, rfl, rfl, by simp, fun r hr hne => k2 r (fun e => hne (by rw [e]))⟩)
/-- What actionRules leaves. -/
def NewRul (w : World) (e : Ending) (w' : World) : Prop := ∃ g, e = .returned (.map (some g)) ∧ w.heap.size ≤ g ∧ w'.heap[g]? = some (.map (rulE 4) 4) ∧ Below w.heap.size w w'
set_option maxRecDepth 100000 in
set_option maxHeartbeats 2000000 in
theorem actionRules_any (w : World) : Calls Try.prog 86 #[] w (NewRul w) := by
  have M0 : Hid ((w.alloc (.map #[] 0)).heap[w.heap.size]? = some (.map (rulE 0) 0)) := Lib.hid (Go.MapKept.heap_alloc w _).1
  have B0 := Lib.hid (bl_alloc (bl_refl w) (.map #[] 0))
  have hmm : (Instr.makeMap 100 none).run Try.prog w = .ok (.map (some w.heap.size)) (w.alloc (.map #[] 0)) := rfl
  go_enter Try.func86, Try.ntmps86
  go_wp2_with (first
    | ((with_reducible refine wpList_insR rfl (.tmp 1) _ (.tmp 2) rfl 0 w.heap.size rfl ?_ ?_ M0.out ?_); (exact rfl); (exact rfl); intro w1 k1 g1; have M1 := Lib.hid k1; have B1 := Lib.hid (below_grown1 B0.out g1 (Nat.le_refl _)); clear k1 g1)
    | ((with_reducible refine wpList_insR rfl (.tmp 1) _ (.tmp 3) rfl 1 w.heap.size rfl ?_ ?_ M1.out ?_); (exact rfl); (exact rfl); intro w2 k1 g1; have M2 := Lib.hid k1; have B2 := Lib.hid (below_grown1 B1.out g1 (Nat.le_refl _)); clear k1 g1)
    | ((with_reducible refine wpList_insR rfl (.tmp 1) _ (.tmp 4) rfl 2 w.heap.size rfl ?_ ?_ M2.out ?_); (exact rfl); (exact rfl); intro w3 k1 g1; have M3 := Lib.hid k1; have B3 := Lib.hid (below_grown1 B2.out g1 (Nat.le_refl _)); clear k1 g1)
    | ((with_reducible refine wpList_insR rfl (.tmp 1) _ (.tmp 5) rfl 3 w.heap.size rfl ?_ ?_ M3.out ?_); (exact rfl); (exact rfl); intro w4 k1 g1; have M4 := Lib.hid k1; have B4 := Lib.hid (below_grown1 B3.out g1 (Nat.le_refl _)); clear k1 g1))
  go_ret
  exact ⟨_, rfl, Nat.le_refl _, M4.out, B4.out⟩
/-- A rule is found; none is. -/
theorem run_lookR (k : Nat) (hk : k < 4) {w : World} {g : Nat} (h : w.heap[g]? = some (.map (rulE 4) 4)) (ok : Bool) :
    (Instr.lookup 100 (.map (some g)) (.int .i64 k) ok).run Try.prog w = .ok (if ok then .tuple #[rulV k, .bool true] else rulV k) w := by
  have h1 : Instr.findNow (.int .i64) (.int .i64 (k : Int)) (rulE 4).toList 0 = some (some (k, rulV k)) := by
    rcases (by omega : k = 0 ∨ k = 1 ∨ k = 2 ∨ k = 3) with rfl | rfl | rfl | rfl <;> rfl
  unfold Instr.lookup
  simp only [Sem.run_bind, run_underlying uRM, Result.andThen, Go.MapKept.run_getObj_map h, Go.MapKept.run_checkKey Try.underlying2 (show Go.MapKept.IsKey (.int .i64) (.int .i64 (k : Int)) from rfl), Go.MapKept.run_findKey Try.underlying2 h1, Sem.run_pure]
theorem zR : (Try.prog.info? 99).map (·.zero) = some (some (.agg #[.nilFunc, .nilFunc])) := by kernel_rfl
theorem run_lookN (k : Int) (hk : ¬ (0 ≤ k ∧ k ≤ 3)) {w : World} {g : Nat} (h : w.heap[g]? = some (.map (rulE 4) 4)) :
    (Instr.lookup 100 (.map (some g)) (.int .i64 k) true).run Try.prog w = .ok (.tuple #[.agg #[.nilFunc, .nilFunc], .bool false]) w := by
  have h1 : Instr.findNow (.int .i64) (.int .i64 k) (rulE 4).toList 0 = some none := by
    unfold rulE
    exact findR 0 _ _ (fun j hj => by have := List.mem_range.1 hj; omega)
  obtain ⟨i0, hi, hz⟩ : ∃ i, Try.prog.info? 99 = some i ∧ i.zero = some (.agg #[.nilFunc, .nilFunc]) := by
    cases h : Try.prog.info? 99 with
    | none => have := zR; rw [h] at this; cases this
    | some i => have := zR; rw [h] at this; exact ⟨i, rfl, Option.some.inj this⟩
  unfold Instr.lookup
  simp [Sem.run_bind, run_underlying uRM, Result.andThen, Go.MapKept.run_getObj_map h, Go.MapKept.run_checkKey Try.underlying2 (show Go.MapKept.IsKey (.int .i64) (.int .i64 k) from rfl), Go.MapKept.run_findKey Try.underlying2 h1, Sem.run_pure, zeroValue, typeInfo, hi, hz]
end Go.Proofs.Ytnllndcajdofjaa

namespace Go.Proofs.Ytnllndcajdofjaa
open Go.RowKit
set_option linter.unusedVariables false

set_option maxRecDepth 100000 in
set_option maxHeartbeats 1000000 in
theorem hasFold_any (c : Bool) (ca le mo x : Int) (w : World) :
    Calls Try.prog 143 #[.agg #[.bool c, .int .i64 ca, .int .i64 le, .int .i64 mo], .int .i64 x] w (Fresh (.bool (legV c ca le mo 0 x)) w) := by
  rw [legV_0]
  have N0 := blk_new w 30 [.bool c, .int .i64 ca, .int .i64 le, .int .i64 mo]
  obtain ⟨q0, -⟩ := N0.cell 0 _ rfl
  obtain ⟨q1, -⟩ := N0.cell 1 _ rfl
  obtain ⟨q2, -⟩ := N0.cell 2 _ rfl
  obtain ⟨q3, -⟩ := N0.cell 3 _ rfl
  have B := Lib.hid (bl_alloc (bl_refl w) (.cells ([.bool c, .int .i64 ca, .int .i64 le, .int .i64 mo] : List Value).toArray 30))
  clear N0
  go_enter Try.func143, Try.ntmps143
  go_wp2_with fail
  go_ret
  exact ⟨ret_bool (by first | rfl | simp), B.out⟩
set_option maxRecDepth 100000 in
set_option maxHeartbeats 1000000 in
theorem hasCheck_any (c : Bool) (ca le mo x : Int) (w : World) :
    Calls Try.prog 145 #[.agg #[.bool c, .int .i64 ca, .int .i64 le, .int .i64 mo], .int .i64 x] w (Fresh (.bool (legV c ca le mo 1 x)) w) := by
  rw [legV_1]
  have N0 := blk_new w 30 [.bool c, .int .i64 ca, .int .i64 le, .int .i64 mo]
  obtain ⟨q0, -⟩ := N0.cell 0 _ rfl
  obtain ⟨q1, -⟩ := N0.cell 1 _ rfl
  obtain ⟨q2, -⟩ := N0.cell 2 _ rfl
  obtain ⟨q3, -⟩ := N0.cell 3 _ rfl
  have B := Lib.hid (bl_alloc (bl_refl w) (.cells ([.bool c, .int .i64 ca, .int .i64 le, .int .i64 mo] : List Value).toArray 30))
  clear N0
  rcases x0 : (x == 0) with _ | _
  all_goals
    go_enter Try.func145, Try.ntmps145
    go_wp2_with fail
    go_ret
    exact ⟨ret_bool (by first | rfl | simp), B.out⟩
set_option maxRecDepth 100000 in
set_option maxHeartbeats 1000000 in
theorem hasCall_any (c : Bool) (ca le mo x : Int) (w : World) :
    Calls Try.prog 147 #[.agg #[.bool c, .int .i64 ca, .int .i64 le, .int .i64 mo], .int .i64 x] w (Fresh (.bool (legV c ca le mo 2 x)) w) := by
  rw [legV_2]
  have N0 := blk_new w 30 [.bool c, .int .i64 ca, .int .i64 le, .int .i64 mo]
  obtain ⟨q0, -⟩ := N0.cell 0 _ rfl
  obtain ⟨q1, -⟩ := N0.cell 1 _ rfl
  obtain ⟨q2, -⟩ := N0.cell 2 _ rfl
  obtain ⟨q3, -⟩ := N0.cell 3 _ rfl
  have B := Lib.hid (bl_alloc (bl_refl w) (.cells ([.bool c, .int .i64 ca, .int .i64 le, .int .i64 mo] : List Value).toArray 30))
  clear N0
  rcases x0 : (x == 0) with _ | _
  all_goals
    go_enter Try.func147, Try.ntmps147
    go_wp2_with fail
    go_ret
    exact ⟨ret_bool (by first | rfl | simp), B.out⟩
set_option maxRecDepth 100000 in
set_option maxHeartbeats 1000000 in
theorem hasRaise_any (c : Bool) (ca le mo x : Int) (w : World) :
    Calls Try.prog 149 #[.agg #[.bool c, .int .i64 ca, .int .i64 le, .int .i64 mo], .int .i64 x] w (Fresh (.bool (legV c ca le mo 3 x)) w) := by
  rw [legV_3]
  have N0 := blk_new w 30 [.bool c, .int .i64 ca, .int .i64 le, .int .i64 mo]
  obtain ⟨q0, -⟩ := N0.cell 0 _ rfl
  obtain ⟨q1, -⟩ := N0.cell 1 _ rfl
  obtain ⟨q2, -⟩ := N0.cell 2 _ rfl
  obtain ⟨q3, -⟩ := N0.cell 3 _ rfl
  have B := Lib.hid (bl_alloc (bl_refl w) (.cells ([.bool c, .int .i64 ca, .int .i64 le, .int .i64 mo] : List Value).toArray 30))
  clear N0
  by_cases m0 : 0 < mo
  · have m1 : decide (0 < mo) = true := decide_eq_true m0
    rw [m1]
    clear m0
    by_cases m2 : le ≤ x
    · have m3 : decide (le ≤ x) = true := decide_eq_true m2
      rw [m3]
      clear m2
      go_enter Try.func149, Try.ntmps149
      go_wp2_with fail
      go_ret
      exact ⟨ret_bool (by first | rfl | simp), B.out⟩
    · have m3 : decide (le ≤ x) = false := decide_eq_false m2
      rw [m3]
      clear m2
      go_enter Try.func149, Try.ntmps149
      go_wp2_with fail
      go_ret
      exact ⟨ret_bool (by first | rfl | simp), B.out⟩
  · have m1 : decide (0 < mo) = false := decide_eq_false m0
    rw [m1]
    clear m0
    go_enter Try.func149, Try.ntmps149
    go_wp2_with fail
    go_ret
    exact ⟨ret_bool (by first | rfl | simp), B.out⟩
end Go.Proofs.Ytnllndcajdofjaa

namespace Go.Proofs.Ytnllndcajdofjaa
open Go.RowKit
set_option linter.unusedVariables false

set_option maxRecDepth 100000 in
set_option maxHeartbeats 6000000 in
theorem has0_any (c : Bool) (ca le mo x : Int) (w : World) :
    Calls Try.prog 83 #[.agg #[.bool c, .int .i64 ca, .int .i64 le, .int .i64 mo], .agg #[.int .i64 0, .int .i64 x]] w (Fresh (.bool (legV c ca le mo 0 x)) w) := by
  have hmx : Try.prog.follows .mixedOrders = true := by kernel_rfl
  have NC := Lib.hid ((blk_new w 30 [.bool c, .int .i64 ca, .int .i64 le, .int .i64 mo]).below (bl_alloc (bl_refl _) (.cells ([.int .i64 0, .int .i64 x] : List Value).toArray 34)))
  have N0 := blk_new (w.alloc (.cells ([.bool c, .int .i64 ca, .int .i64 le, .int .i64 mo] : List Value).toArray 30)) 34 [.int .i64 0, .int .i64 x]
  rw [World.size_alloc] at N0
  have NA := Lib.hid N0
  have B := Lib.hid (bl_alloc (bl_alloc (bl_refl w) (.cells ([.bool c, .int .i64 ca, .int .i64 le, .int .i64 mo] : List Value).toArray 30)) (.cells ([.int .i64 0, .int .i64 x] : List Value).toArray 34))
  have NA1 := NA.out
  obtain ⟨y0, -⟩ := NA1.cell 0 _ rfl
  obtain ⟨y1, -⟩ := NA1.cell 1 _ rfl
  clear N0 NA1
  have hs0 := fun (W : World) (a : Addr) => run_store Try.prog W a (.func (.func 143) #[] #[]) .plain rfl
  have hs1 := fun (W : World) (a : Addr) => run_store Try.prog W a (.func (.func 144) #[] #[]) .plain rfl
  go_enter Try.func83, Try.ntmps83
  go_wp2_with fail
  go_region_with (first
      | (go_at_call 86; refine (actionRules_any _).mono ?_; rintro e w3 ⟨gm, rfl, hgl, hm, hb⟩; have N5 := (blk_new _ 99 [.nilFunc, .nilFunc]).below (bl_trans (bl_drew (bl_refl _)) hb); simp only [World.size_alloc] at N5; have N5h := Lib.hid N5; obtain ⟨n50, f50⟩ := N5.cell 0 _ rfl; obtain ⟨n51, f51⟩ := N5.cell 1 _ rfl; have hl : (Instr.lookup 100 (.map (some gm)) (.int .i64 (0 : Int)) true).run Try.prog w3 = .ok (.tuple #[.agg #[.func (.func 143) #[] #[], .func (.func 144) #[] #[]], .bool true]) w3 := run_lookR 0 (by omega) hm true; have XW := Lib.hid (bl_trans (bl_drew (bl_alloc (bl_refl _) _)) hb); obtain ⟨z0, -⟩ := (NA.out.below XW.out).cell 0 _ rfl; clear N5 hm hb hgl)
      | (go_at_call 86; refine (actionRules_any _).mono ?_; rintro e w3 ⟨gm, rfl, hgl, hm, hb⟩; have hl : (Instr.lookup 100 (.map (some gm)) (.int .i64 (0 : Int)) true).run Try.prog w3 = .ok (.tuple #[.agg #[.func (.func 143) #[] #[], .func (.func 144) #[] #[]], .bool true]) w3 := run_lookR 0 (by omega) hm true; have hm2 : (w3.alloc (.cells #[.nilFunc, .nilFunc] 99)).heap[gm]? = some (.map (rulE 4) 4) := ((Go.MapKept.heap_alloc w3 _).2 gm (Array.getElem?_eq_some_iff.1 hm).1).trans hm; have hl2 : (Instr.lookup 100 (.map (some gm)) (.int .i64 (0 : Int)) true).run Try.prog (w3.alloc (.cells #[.nilFunc, .nilFunc] 99)) = .ok (.tuple #[.agg #[.func (.func 143) #[] #[], .func (.func 144) #[] #[]], .bool true]) (w3.alloc (.cells #[.nilFunc, .nilFunc] 99)) := run_lookR 0 (by omega) hm2 true; have XW := Lib.hid (bl_trans (bl_drew (bl_refl _)) hb); obtain ⟨zz0, -⟩ := (NA.out.below (bl_trans XW.out (bl_alloc (bl_refl w3) (.cells #[.nilFunc, .nilFunc] 99)))).cell 0 _ rfl; obtain ⟨z0, -⟩ := (NA.out.below XW.out).cell 0 _ rfl; clear hm hm2 hb hgl))
  all_goals first
    | (have N6 := blk_new w3 99 [.func (.func 143) #[] #[], .func (.func 144) #[] #[]]; have NC6 := (NC.out.below XW.out).below (bl_alloc (bl_refl w3) (.cells #[.func (.func 143) #[] #[], .func (.func 144) #[] #[]] 99)); have NA6 := (NA.out.below XW.out).below (bl_alloc (bl_refl w3) (.cells #[.func (.func 143) #[] #[], .func (.func 144) #[] #[]] 99)); have BW := Lib.hid (bl_alloc (bl_trans B.out XW.out) (.cells #[.func (.func 143) #[] #[], .func (.func 144) #[] #[]] 99)); obtain ⟨c0, -⟩ := NC6.cell 0 _ rfl; obtain ⟨c1, -⟩ := NC6.cell 1 _ rfl; obtain ⟨c2, -⟩ := NC6.cell 2 _ rfl; obtain ⟨c3, -⟩ := NC6.cell 3 _ rfl; obtain ⟨a0, -⟩ := NA6.cell 0 _ rfl; obtain ⟨a1, -⟩ := NA6.cell 1 _ rfl; obtain ⟨r0, -⟩ := N6.cell 0 _ rfl; obtain ⟨r1, -⟩ := N6.cell 1 _ rfl; clear N6 NC6 NA6 hs0 hs1; go_wp2_with (go_at_call 143; refine (hasFold_any c ca le mo x _).mono ?_; rintro e w9 ⟨rfl, hb9⟩; have B9 := Lib.hid (bl_trans BW.out hb9)); go_ret; exact ⟨rfl, B9.out⟩)
    | (obtain ⟨k5, g5⟩ := blk_set N5h.out 0 (.func (.func 143) #[] #[]); obtain ⟨k6, g6⟩ := blk_set k5 1 (.func (.func 144) #[] #[]); obtain ⟨w6, e6⟩ : ∃ w6, w6 = (w3.setCell ⟨w.heap.size + 1 + 1, 0, none⟩ (.func (.func 143) #[] #[])).setCell ⟨w.heap.size + 1 + 1, 1, none⟩ (.func (.func 144) #[] #[]) := ⟨_, rfl⟩; rw [← e6] at k6 g6 ⊢; have N6 : Blk w6 (w.heap.size + 1 + 1) 99 [.func (.func 143) #[] #[], .func (.func 144) #[] #[]] := k6; have NC6 := ((NC.out.below XW.out).grown g5 (fun e => by have := Option.some.inj e; omega)).grown g6 (fun e => by have := Option.some.inj e; omega); have NA6 := ((NA.out.below XW.out).grown g5 (fun e => by have := Option.some.inj e; omega)).grown g6 (fun e => by have := Option.some.inj e; omega); have BW := Lib.hid (below_grown1 (below_grown1 (bl_trans B.out XW.out) g5 (by omega)) g6 (by omega)); clear e6 g5 g6 k5 k6 n50 n51 f50 f51; obtain ⟨c0, -⟩ := NC6.cell 0 _ rfl; obtain ⟨c1, -⟩ := NC6.cell 1 _ rfl; obtain ⟨c2, -⟩ := NC6.cell 2 _ rfl; obtain ⟨c3, -⟩ := NC6.cell 3 _ rfl; obtain ⟨a0, -⟩ := NA6.cell 0 _ rfl; obtain ⟨a1, -⟩ := NA6.cell 1 _ rfl; obtain ⟨r0, -⟩ := N6.cell 0 _ rfl; obtain ⟨r1, -⟩ := N6.cell 1 _ rfl; clear N6 NC6 NA6 hs0 hs1; go_wp2_with (go_at_call 143; refine (hasFold_any c ca le mo x _).mono ?_; rintro e w9 ⟨rfl, hb9⟩; have B9 := Lib.hid (bl_trans BW.out hb9)); go_ret; exact ⟨rfl, B9.out⟩)
set_option maxRecDepth 100000 in
set_option maxHeartbeats 6000000 in
theorem has1_any (c : Bool) (ca le mo x : Int) (w : World) :
    Calls Try.prog 83 #[.agg #[.bool c, .int .i64 ca, .int .i64 le, .int .i64 mo], .agg #[.int .i64 1, .int .i64 x]] w (Fresh (.bool (legV c ca le mo 1 x)) w) := by
  have hmx : Try.prog.follows .mixedOrders = true := by kernel_rfl
  have NC := Lib.hid ((blk_new w 30 [.bool c, .int .i64 ca, .int .i64 le, .int .i64 mo]).below (bl_alloc (bl_refl _) (.cells ([.int .i64 1, .int .i64 x] : List Value).toArray 34)))
  have N0 := blk_new (w.alloc (.cells ([.bool c, .int .i64 ca, .int .i64 le, .int .i64 mo] : List Value).toArray 30)) 34 [.int .i64 1, .int .i64 x]
  rw [World.size_alloc] at N0
  have NA := Lib.hid N0
  have B := Lib.hid (bl_alloc (bl_alloc (bl_refl w) (.cells ([.bool c, .int .i64 ca, .int .i64 le, .int .i64 mo] : List Value).toArray 30)) (.cells ([.int .i64 1, .int .i64 x] : List Value).toArray 34))
  have NA1 := NA.out
  obtain ⟨y0, -⟩ := NA1.cell 0 _ rfl
  obtain ⟨y1, -⟩ := NA1.cell 1 _ rfl
  clear N0 NA1
  have hs0 := fun (W : World) (a : Addr) => run_store Try.prog W a (.func (.func 145) #[] #[]) .plain rfl
  have hs1 := fun (W : World) (a : Addr) => run_store Try.prog W a (.func (.func 146) #[] #[]) .plain rfl
  go_enter Try.func83, Try.ntmps83
  go_wp2_with fail
  go_region_with (first
      | (go_at_call 86; refine (actionRules_any _).mono ?_; rintro e w3 ⟨gm, rfl, hgl, hm, hb⟩; have N5 := (blk_new _ 99 [.nilFunc, .nilFunc]).below (bl_trans (bl_drew (bl_refl _)) hb); simp only [World.size_alloc] at N5; have N5h := Lib.hid N5; obtain ⟨n50, f50⟩ := N5.cell 0 _ rfl; obtain ⟨n51, f51⟩ := N5.cell 1 _ rfl; have hl : (Instr.lookup 100 (.map (some gm)) (.int .i64 (1 : Int)) true).run Try.prog w3 = .ok (.tuple #[.agg #[.func (.func 145) #[] #[], .func (.func 146) #[] #[]], .bool true]) w3 := run_lookR 1 (by omega) hm true; have XW := Lib.hid (bl_trans (bl_drew (bl_alloc (bl_refl _) _)) hb); obtain ⟨z0, -⟩ := (NA.out.below XW.out).cell 0 _ rfl; clear N5 hm hb hgl)
      | (go_at_call 86; refine (actionRules_any _).mono ?_; rintro e w3 ⟨gm, rfl, hgl, hm, hb⟩; have hl : (Instr.lookup 100 (.map (some gm)) (.int .i64 (1 : Int)) true).run Try.prog w3 = .ok (.tuple #[.agg #[.func (.func 145) #[] #[], .func (.func 146) #[] #[]], .bool true]) w3 := run_lookR 1 (by omega) hm true; have hm2 : (w3.alloc (.cells #[.nilFunc, .nilFunc] 99)).heap[gm]? = some (.map (rulE 4) 4) := ((Go.MapKept.heap_alloc w3 _).2 gm (Array.getElem?_eq_some_iff.1 hm).1).trans hm; have hl2 : (Instr.lookup 100 (.map (some gm)) (.int .i64 (1 : Int)) true).run Try.prog (w3.alloc (.cells #[.nilFunc, .nilFunc] 99)) = .ok (.tuple #[.agg #[.func (.func 145) #[] #[], .func (.func 146) #[] #[]], .bool true]) (w3.alloc (.cells #[.nilFunc, .nilFunc] 99)) := run_lookR 1 (by omega) hm2 true; have XW := Lib.hid (bl_trans (bl_drew (bl_refl _)) hb); obtain ⟨zz0, -⟩ := (NA.out.below (bl_trans XW.out (bl_alloc (bl_refl w3) (.cells #[.nilFunc, .nilFunc] 99)))).cell 0 _ rfl; obtain ⟨z0, -⟩ := (NA.out.below XW.out).cell 0 _ rfl; clear hm hm2 hb hgl))
  all_goals first
    | (have N6 := blk_new w3 99 [.func (.func 145) #[] #[], .func (.func 146) #[] #[]]; have NC6 := (NC.out.below XW.out).below (bl_alloc (bl_refl w3) (.cells #[.func (.func 145) #[] #[], .func (.func 146) #[] #[]] 99)); have NA6 := (NA.out.below XW.out).below (bl_alloc (bl_refl w3) (.cells #[.func (.func 145) #[] #[], .func (.func 146) #[] #[]] 99)); have BW := Lib.hid (bl_alloc (bl_trans B.out XW.out) (.cells #[.func (.func 145) #[] #[], .func (.func 146) #[] #[]] 99)); obtain ⟨c0, -⟩ := NC6.cell 0 _ rfl; obtain ⟨c1, -⟩ := NC6.cell 1 _ rfl; obtain ⟨c2, -⟩ := NC6.cell 2 _ rfl; obtain ⟨c3, -⟩ := NC6.cell 3 _ rfl; obtain ⟨a0, -⟩ := NA6.cell 0 _ rfl; obtain ⟨a1, -⟩ := NA6.cell 1 _ rfl; obtain ⟨r0, -⟩ := N6.cell 0 _ rfl; obtain ⟨r1, -⟩ := N6.cell 1 _ rfl; clear N6 NC6 NA6 hs0 hs1; go_wp2_with (go_at_call 145; refine (hasCheck_any c ca le mo x _).mono ?_; rintro e w9 ⟨rfl, hb9⟩; have B9 := Lib.hid (bl_trans BW.out hb9)); go_ret; exact ⟨rfl, B9.out⟩)
    | (obtain ⟨k5, g5⟩ := blk_set N5h.out 0 (.func (.func 145) #[] #[]); obtain ⟨k6, g6⟩ := blk_set k5 1 (.func (.func 146) #[] #[]); obtain ⟨w6, e6⟩ : ∃ w6, w6 = (w3.setCell ⟨w.heap.size + 1 + 1, 0, none⟩ (.func (.func 145) #[] #[])).setCell ⟨w.heap.size + 1 + 1, 1, none⟩ (.func (.func 146) #[] #[]) := ⟨_, rfl⟩; rw [← e6] at k6 g6 ⊢; have N6 : Blk w6 (w.heap.size + 1 + 1) 99 [.func (.func 145) #[] #[], .func (.func 146) #[] #[]] := k6; have NC6 := ((NC.out.below XW.out).grown g5 (fun e => by have := Option.some.inj e; omega)).grown g6 (fun e => by have := Option.some.inj e; omega); have NA6 := ((NA.out.below XW.out).grown g5 (fun e => by have := Option.some.inj e; omega)).grown g6 (fun e => by have := Option.some.inj e; omega); have BW := Lib.hid (below_grown1 (below_grown1 (bl_trans B.out XW.out) g5 (by omega)) g6 (by omega)); clear e6 g5 g6 k5 k6 n50 n51 f50 f51; obtain ⟨c0, -⟩ := NC6.cell 0 _ rfl; obtain ⟨c1, -⟩ := NC6.cell 1 _ rfl; obtain ⟨c2, -⟩ := NC6.cell 2 _ rfl; obtain ⟨c3, -⟩ := NC6.cell 3 _ rfl; obtain ⟨a0, -⟩ := NA6.cell 0 _ rfl; obtain ⟨a1, -⟩ := NA6.cell 1 _ rfl; obtain ⟨r0, -⟩ := N6.cell 0 _ rfl; obtain ⟨r1, -⟩ := N6.cell 1 _ rfl; clear N6 NC6 NA6 hs0 hs1; go_wp2_with (go_at_call 145; refine (hasCheck_any c ca le mo x _).mono ?_; rintro e w9 ⟨rfl, hb9⟩; have B9 := Lib.hid (bl_trans BW.out hb9)); go_ret; exact ⟨rfl, B9.out⟩)
end Go.Proofs.Ytnllndcajdofjaa

namespace Go.Proofs.Ytnllndcajdofjaa
open Go.RowKit
set_option linter.unusedVariables false

set_option maxRecDepth 100000 in
set_option maxHeartbeats 6000000 in
theorem has2_any (c : Bool) (ca le mo x : Int) (w : World) :
    Calls Try.prog 83 #[.agg #[.bool c, .int .i64 ca, .int .i64 le, .int .i64 mo], .agg #[.int .i64 2, .int .i64 x]] w (Fresh (.bool (legV c ca le mo 2 x)) w) := by
  have hmx : Try.prog.follows .mixedOrders = true := by kernel_rfl
  have NC := Lib.hid ((blk_new w 30 [.bool c, .int .i64 ca, .int .i64 le, .int .i64 mo]).below (bl_alloc (bl_refl _) (.cells ([.int .i64 2, .int .i64 x] : List Value).toArray 34)))
  have N0 := blk_new (w.alloc (.cells ([.bool c, .int .i64 ca, .int .i64 le, .int .i64 mo] : List Value).toArray 30)) 34 [.int .i64 2, .int .i64 x]
  rw [World.size_alloc] at N0
  have NA := Lib.hid N0
  have B := Lib.hid (bl_alloc (bl_alloc (bl_refl w) (.cells ([.bool c, .int .i64 ca, .int .i64 le, .int .i64 mo] : List Value).toArray 30)) (.cells ([.int .i64 2, .int .i64 x] : List Value).toArray 34))
  have NA1 := NA.out
  obtain ⟨y0, -⟩ := NA1.cell 0 _ rfl
  obtain ⟨y1, -⟩ := NA1.cell 1 _ rfl
  clear N0 NA1
  have hs0 := fun (W : World) (a : Addr) => run_store Try.prog W a (.func (.func 147) #[] #[]) .plain rfl
  have hs1 := fun (W : World) (a : Addr) => run_store Try.prog W a (.func (.func 148) #[] #[]) .plain rfl
  go_enter Try.func83, Try.ntmps83
  go_wp2_with fail
  go_region_with (first
      | (go_at_call 86; refine (actionRules_any _).mono ?_; rintro e w3 ⟨gm, rfl, hgl, hm, hb⟩; have N5 := (blk_new _ 99 [.nilFunc, .nilFunc]).below (bl_trans (bl_drew (bl_refl _)) hb); simp only [World.size_alloc] at N5; have N5h := Lib.hid N5; obtain ⟨n50, f50⟩ := N5.cell 0 _ rfl; obtain ⟨n51, f51⟩ := N5.cell 1 _ rfl; have hl : (Instr.lookup 100 (.map (some gm)) (.int .i64 (2 : Int)) true).run Try.prog w3 = .ok (.tuple #[.agg #[.func (.func 147) #[] #[], .func (.func 148) #[] #[]], .bool true]) w3 := run_lookR 2 (by omega) hm true; have XW := Lib.hid (bl_trans (bl_drew (bl_alloc (bl_refl _) _)) hb); obtain ⟨z0, -⟩ := (NA.out.below XW.out).cell 0 _ rfl; clear N5 hm hb hgl)
      | (go_at_call 86; refine (actionRules_any _).mono ?_; rintro e w3 ⟨gm, rfl, hgl, hm, hb⟩; have hl : (Instr.lookup 100 (.map (some gm)) (.int .i64 (2 : Int)) true).run Try.prog w3 = .ok (.tuple #[.agg #[.func (.func 147) #[] #[], .func (.func 148) #[] #[]], .bool true]) w3 := run_lookR 2 (by omega) hm true; have hm2 : (w3.alloc (.cells #[.nilFunc, .nilFunc] 99)).heap[gm]? = some (.map (rulE 4) 4) := ((Go.MapKept.heap_alloc w3 _).2 gm (Array.getElem?_eq_some_iff.1 hm).1).trans hm; have hl2 : (Instr.lookup 100 (.map (some gm)) (.int .i64 (2 : Int)) true).run Try.prog (w3.alloc (.cells #[.nilFunc, .nilFunc] 99)) = .ok (.tuple #[.agg #[.func (.func 147) #[] #[], .func (.func 148) #[] #[]], .bool true]) (w3.alloc (.cells #[.nilFunc, .nilFunc] 99)) := run_lookR 2 (by omega) hm2 true; have XW := Lib.hid (bl_trans (bl_drew (bl_refl _)) hb); obtain ⟨zz0, -⟩ := (NA.out.below (bl_trans XW.out (bl_alloc (bl_refl w3) (.cells #[.nilFunc, .nilFunc] 99)))).cell 0 _ rfl; obtain ⟨z0, -⟩ := (NA.out.below XW.out).cell 0 _ rfl; clear hm hm2 hb hgl))
  all_goals first
    | (have N6 := blk_new w3 99 [.func (.func 147) #[] #[], .func (.func 148) #[] #[]]; have NC6 := (NC.out.below XW.out).below (bl_alloc (bl_refl w3) (.cells #[.func (.func 147) #[] #[], .func (.func 148) #[] #[]] 99)); have NA6 := (NA.out.below XW.out).below (bl_alloc (bl_refl w3) (.cells #[.func (.func 147) #[] #[], .func (.func 148) #[] #[]] 99)); have BW := Lib.hid (bl_alloc (bl_trans B.out XW.out) (.cells #[.func (.func 147) #[] #[], .func (.func 148) #[] #[]] 99)); obtain ⟨c0, -⟩ := NC6.cell 0 _ rfl; obtain ⟨c1, -⟩ := NC6.cell 1 _ rfl; obtain ⟨c2, -⟩ := NC6.cell 2 _ rfl; obtain ⟨c3, -⟩ := NC6.cell 3 _ rfl; obtain ⟨a0, -⟩ := NA6.cell 0 _ rfl; obtain ⟨a1, -⟩ := NA6.cell 1 _ rfl; obtain ⟨r0, -⟩ := N6.cell 0 _ rfl; obtain ⟨r1, -⟩ := N6.cell 1 _ rfl; clear N6 NC6 NA6 hs0 hs1; go_wp2_with (go_at_call 147; refine (hasCall_any c ca le mo x _).mono ?_; rintro e w9 ⟨rfl, hb9⟩; have B9 := Lib.hid (bl_trans BW.out hb9)); go_ret; exact ⟨rfl, B9.out⟩)
    | (obtain ⟨k5, g5⟩ := blk_set N5h.out 0 (.func (.func 147) #[] #[]); obtain ⟨k6, g6⟩ := blk_set k5 1 (.func (.func 148) #[] #[]); obtain ⟨w6, e6⟩ : ∃ w6, w6 = (w3.setCell ⟨w.heap.size + 1 + 1, 0, none⟩ (.func (.func 147) #[] #[])).setCell ⟨w.heap.size + 1 + 1, 1, none⟩ (.func (.func 148) #[] #[]) := ⟨_, rfl⟩; rw [← e6] at k6 g6 ⊢; have N6 : Blk w6 (w.heap.size + 1 + 1) 99 [.func (.func 147) #[] #[], .func (.func 148) #[] #[]] := k6; have NC6 := ((NC.out.below XW.out).grown g5 (fun e => by have := Option.some.inj e; omega)).grown g6 (fun e => by have := Option.some.inj e; omega); have NA6 := ((NA.out.below XW.out).grown g5 (fun e => by have := Option.some.inj e; omega)).grown g6 (fun e => by have := Option.some.inj e; omega); have BW := Lib.hid (below_grown1 (below_grown1 (bl_trans B.out XW.out) g5 (by omega)) g6 (by omega)); clear e6 g5 g6 k5 k6 n50 n51 f50 f51; obtain ⟨c0, -⟩ := NC6.cell 0 _ rfl; obtain ⟨c1, -⟩ := NC6.cell 1 _ rfl; obtain ⟨c2, -⟩ := NC6.cell 2 _ rfl; obtain ⟨c3, -⟩ := NC6.cell 3 _ rfl; obtain ⟨a0, -⟩ := NA6.cell 0 _ rfl; obtain ⟨a1, -⟩ := NA6.cell 1 _ rfl; obtain ⟨r0, -⟩ := N6.cell 0 _ rfl; obtain ⟨r1, -⟩ := N6.cell 1 _ rfl; clear N6 NC6 NA6 hs0 hs1; go_wp2_with (go_at_call 147; refine (hasCall_any c ca le mo x _).mono ?_; rintro e w9 ⟨rfl, hb9⟩; have B9 := Lib.hid (bl_trans BW.out hb9)); go_ret; exact ⟨rfl, B9.out⟩)
set_option maxRecDepth 100000 in
set_option maxHeartbeats 6000000 in
theorem has3_any (c : Bool) (ca le mo x : Int) (w : World) :
    Calls Try.prog 83 #[.agg #[.bool c, .int .i64 ca, .int .i64 le, .int .i64 mo], .agg #[.int .i64 3, .int .i64 x]] w (Fresh (.bool (legV c ca le mo 3 x)) w) := by
  have hmx : Try.prog.follows .mixedOrders = true := by kernel_rfl
  have NC := Lib.hid ((blk_new w 30 [.bool c, .int .i64 ca, .int .i64 le, .int .i64 mo]).below (bl_alloc (bl_refl _) (.cells ([.int .i64 3, .int .i64 x] : List Value).toArray 34)))
  have N0 := blk_new (w.alloc (.cells ([.bool c, .int .i64 ca, .int .i64 le, .int .i64 mo] : List Value).toArray 30)) 34 [.int .i64 3, .int .i64 x]
  rw [World.size_alloc] at N0
  have NA := Lib.hid N0
  have B := Lib.hid (bl_alloc (bl_alloc (bl_refl w) (.cells ([.bool c, .int .i64 ca, .int .i64 le, .int .i64 mo] : List Value).toArray 30)) (.cells ([.int .i64 3, .int .i64 x] : List Value).toArray 34))
  have NA1 := NA.out
  obtain ⟨y0, -⟩ := NA1.cell 0 _ rfl
  obtain ⟨y1, -⟩ := NA1.cell 1 _ rfl
  clear N0 NA1
  have hs0 := fun (W : World) (a : Addr) => run_store Try.prog W a (.func (.func 149) #[] #[]) .plain rfl
  have hs1 := fun (W : World) (a : Addr) => run_store Try.prog W a (.func (.func 150) #[] #[]) .plain rfl
  go_enter Try.func83, Try.ntmps83
  go_wp2_with fail
  go_region_with (first
      | (go_at_call 86; refine (actionRules_any _).mono ?_; rintro e w3 ⟨gm, rfl, hgl, hm, hb⟩; have N5 := (blk_new _ 99 [.nilFunc, .nilFunc]).below (bl_trans (bl_drew (bl_refl _)) hb); simp only [World.size_alloc] at N5; have N5h := Lib.hid N5; obtain ⟨n50, f50⟩ := N5.cell 0 _ rfl; obtain ⟨n51, f51⟩ := N5.cell 1 _ rfl; have hl : (Instr.lookup 100 (.map (some gm)) (.int .i64 (3 : Int)) true).run Try.prog w3 = .ok (.tuple #[.agg #[.func (.func 149) #[] #[], .func (.func 150) #[] #[]], .bool true]) w3 := run_lookR 3 (by omega) hm true; have XW := Lib.hid (bl_trans (bl_drew (bl_alloc (bl_refl _) _)) hb); obtain ⟨z0, -⟩ := (NA.out.below XW.out).cell 0 _ rfl; clear N5 hm hb hgl)
      | (go_at_call 86; refine (actionRules_any _).mono ?_; rintro e w3 ⟨gm, rfl, hgl, hm, hb⟩; have hl : (Instr.lookup 100 (.map (some gm)) (.int .i64 (3 : Int)) true).run Try.prog w3 = .ok (.tuple #[.agg #[.func (.func 149) #[] #[], .func (.func 150) #[] #[]], .bool true]) w3 := run_lookR 3 (by omega) hm true; have hm2 : (w3.alloc (.cells #[.nilFunc, .nilFunc] 99)).heap[gm]? = some (.map (rulE 4) 4) := ((Go.MapKept.heap_alloc w3 _).2 gm (Array.getElem?_eq_some_iff.1 hm).1).trans hm; have hl2 : (Instr.lookup 100 (.map (some gm)) (.int .i64 (3 : Int)) true).run Try.prog (w3.alloc (.cells #[.nilFunc, .nilFunc] 99)) = .ok (.tuple #[.agg #[.func (.func 149) #[] #[], .func (.func 150) #[] #[]], .bool true]) (w3.alloc (.cells #[.nilFunc, .nilFunc] 99)) := run_lookR 3 (by omega) hm2 true; have XW := Lib.hid (bl_trans (bl_drew (bl_refl _)) hb); obtain ⟨zz0, -⟩ := (NA.out.below (bl_trans XW.out (bl_alloc (bl_refl w3) (.cells #[.nilFunc, .nilFunc] 99)))).cell 0 _ rfl; obtain ⟨z0, -⟩ := (NA.out.below XW.out).cell 0 _ rfl; clear hm hm2 hb hgl))
  all_goals first
    | (have N6 := blk_new w3 99 [.func (.func 149) #[] #[], .func (.func 150) #[] #[]]; have NC6 := (NC.out.below XW.out).below (bl_alloc (bl_refl w3) (.cells #[.func (.func 149) #[] #[], .func (.func 150) #[] #[]] 99)); have NA6 := (NA.out.below XW.out).below (bl_alloc (bl_refl w3) (.cells #[.func (.func 149) #[] #[], .func (.func 150) #[] #[]] 99)); have BW := Lib.hid (bl_alloc (bl_trans B.out XW.out) (.cells #[.func (.func 149) #[] #[], .func (.func 150) #[] #[]] 99)); obtain ⟨c0, -⟩ := NC6.cell 0 _ rfl; obtain ⟨c1, -⟩ := NC6.cell 1 _ rfl; obtain ⟨c2, -⟩ := NC6.cell 2 _ rfl; obtain ⟨c3, -⟩ := NC6.cell 3 _ rfl; obtain ⟨a0, -⟩ := NA6.cell 0 _ rfl; obtain ⟨a1, -⟩ := NA6.cell 1 _ rfl; obtain ⟨r0, -⟩ := N6.cell 0 _ rfl; obtain ⟨r1, -⟩ := N6.cell 1 _ rfl; clear N6 NC6 NA6 hs0 hs1; go_wp2_with (go_at_call 149; refine (hasRaise_any c ca le mo x _).mono ?_; rintro e w9 ⟨rfl, hb9⟩; have B9 := Lib.hid (bl_trans BW.out hb9)); go_ret; exact ⟨rfl, B9.out⟩)
    | (obtain ⟨k5, g5⟩ := blk_set N5h.out 0 (.func (.func 149) #[] #[]); obtain ⟨k6, g6⟩ := blk_set k5 1 (.func (.func 150) #[] #[]); obtain ⟨w6, e6⟩ : ∃ w6, w6 = (w3.setCell ⟨w.heap.size + 1 + 1, 0, none⟩ (.func (.func 149) #[] #[])).setCell ⟨w.heap.size + 1 + 1, 1, none⟩ (.func (.func 150) #[] #[]) := ⟨_, rfl⟩; rw [← e6] at k6 g6 ⊢; have N6 : Blk w6 (w.heap.size + 1 + 1) 99 [.func (.func 149) #[] #[], .func (.func 150) #[] #[]] := k6; have NC6 := ((NC.out.below XW.out).grown g5 (fun e => by have := Option.some.inj e; omega)).grown g6 (fun e => by have := Option.some.inj e; omega); have NA6 := ((NA.out.below XW.out).grown g5 (fun e => by have := Option.some.inj e; omega)).grown g6 (fun e => by have := Option.some.inj e; omega); have BW := Lib.hid (below_grown1 (below_grown1 (bl_trans B.out XW.out) g5 (by omega)) g6 (by omega)); clear e6 g5 g6 k5 k6 n50 n51 f50 f51; obtain ⟨c0, -⟩ := NC6.cell 0 _ rfl; obtain ⟨c1, -⟩ := NC6.cell 1 _ rfl; obtain ⟨c2, -⟩ := NC6.cell 2 _ rfl; obtain ⟨c3, -⟩ := NC6.cell 3 _ rfl; obtain ⟨a0, -⟩ := NA6.cell 0 _ rfl; obtain ⟨a1, -⟩ := NA6.cell 1 _ rfl; obtain ⟨r0, -⟩ := N6.cell 0 _ rfl; obtain ⟨r1, -⟩ := N6.cell 1 _ rfl; clear N6 NC6 NA6 hs0 hs1; go_wp2_with (go_at_call 149; refine (hasRaise_any c ca le mo x _).mono ?_; rintro e w9 ⟨rfl, hb9⟩; have B9 := Lib.hid (bl_trans BW.out hb9)); go_ret; exact ⟨rfl, B9.out⟩)
end Go.Proofs.Ytnllndcajdofjaa
