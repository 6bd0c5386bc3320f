/-
  The program's rules of actions: a map of function values; what each says of the choices.
-/
import Derived.Test.YthgfohdjpfhebaaSpecBetL
import Derived.MapKept
namespace Go.Proofs.Ythgfohdjpfhebaa
open Go.RowKit
set_option linter.unusedVariables false

/-- The rules. -/
def rulV : Nat → Value
  | 0 => .agg #[.func (.func 149) #[] #[], .func (.func 150) #[] #[]]
  | 1 => .agg #[.func (.func 151) #[] #[], .func (.func 152) #[] #[]]
  | 2 => .agg #[.func (.func 153) #[] #[], .func (.func 154) #[] #[]]
  | _ => .agg #[.func (.func 155) #[] #[], .func (.func 156) #[] #[]]
def rulE (n : Nat) : Array MapEntry := ((List.range n).map (fun j : Nat => ({ key := .int .i64 j, val := rulV j, born := j } : MapEntry))).toArray
theorem rulE_push (n : Nat) : (rulE n).push { key := .int .i64 n, val := rulV n, born := n } = rulE (n + 1) := by
  unfold rulE
  rw [List.range_succ, List.map_append]
  simp
theorem uRM : Try.prog.underlying 106 = some (.map 2 105) := by kernel_rfl
theorem findR (d : Nat) : ∀ (l : List Nat) (k : Int) (hk : ∀ j ∈ l, (j : Int) ≠ k), Instr.findNow (.int .i64) (.int .i64 k) (l.map (fun j : Nat => ({ key := .int .i64 j, val := rulV j, born := j } : MapEntry))) d = some none
  | [], k, _ => rfl
  | j :: l, k, hk => by
    have h1 : (k == (j : Int)) = false := by
      have := hk j (List.mem_cons_self ..)
      simp; omega
    simp only [List.map_cons, Instr.findNow, Instr.sameNow, if_true, h1]
    exact findR (d + 1) l k (fun j' h => hk j' (List.mem_cons_of_mem _ h))
theorem run_insR (n : Nat) {w : World} {g : Nat} (h : w.heap[g]? = some (.map (rulE n) n)) :
    (Instr.mapUpdate 106 (.map (some g)) (.int .i64 n) (rulV n)).run Try.prog w = .ok () { w with heap := w.heap.setIfInBounds g (.map (rulE (n + 1)) (n + 1)) } := by
  have h1 : Instr.findNow (.int .i64) (.int .i64 (n : Int)) (rulE n).toList 0 = some none := by
    unfold rulE
    exact findR 0 _ _ (fun j hj => by have := List.mem_range.1 hj; omega)
  unfold Instr.mapUpdate
  simp only [Sem.run_bind, run_underlying uRM, Result.andThen, Go.MapKept.run_getObj_map h, Go.MapKept.run_checkKey Try.underlying2 (show Go.MapKept.IsKey (.int .i64) (.int .i64 (n : Int)) from rfl), Go.MapKept.run_findKey Try.underlying2 h1, Go.MapKept.run_setObj_map _ h, rulE_push]
theorem wpList_insR {ops : Array Oper} {rest : List Oper} {o : Oper} {a : Act} {w : World} {Q : Exit → Act → World → Prop} (hgd : o.guard = none) (m x v : Operand) (ho : o.op = .insert 106 m x v)
    (n g : Nat) (hm : a.eval m = .map (some g)) (hx : a.eval x = .int .i64 n) (hv : a.eval v = rulV n) (hM : w.heap[g]? = some (.map (rulE n) n))
    (h : ∀ w', w'.heap[g]? = some (.map (rulE (n + 1)) (n + 1)) → w.grownBy w' (some g) → wpList Try.prog ops Q rest (a.put o.dst undef) w') : wpList Try.prog ops Q (o :: rest) a w :=
  wpList_plain hgd fun _ hK => by
    unfold Oper.wp execOp
    simp only [ho, hm, hx, hv, Sem.run_bind, Sem.run_pure, Result.andThen_ok, run_insR n hM]
    obtain ⟨k1, k2⟩ := Go.MapKept.heap_set (o' := .map (rulE (n + 1)) (n + 1)) hM
    exact hK _ _ (h _ k1 ⟨rfl, rfl, rfl, by simp, fun r hr hne => k2 r (fun e => hne (by rw [e]))⟩)
/-- What actionRules leaves. -/
def NewRul (w : World) (e : Ending) (w' : World) : Prop := ∃ g, e = .returned (.map (some g)) ∧ w.heap.size ≤ g ∧ w'.heap[g]? = some (.map (rulE 4) 4) ∧ Below w.heap.size w w'
set_option maxRecDepth 100000 in
set_option maxHeartbeats 2000000 in
theorem actionRules_any (w : World) : Calls Try.prog 97 #[] w (NewRul w) := by
  have M0 : Hid ((w.alloc (.map #[] 0)).heap[w.heap.size]? = some (.map (rulE 0) 0)) := Lib.hid (Go.MapKept.heap_alloc w _).1
  have B0 := Lib.hid (bl_alloc (bl_refl w) (.map #[] 0))
  have hmm : (Instr.makeMap 106 none).run Try.prog w = .ok (.map (some w.heap.size)) (w.alloc (.map #[] 0)) := rfl
  go_enter Try.func97, Try.ntmps97
  go_wp2_with (first
    | ((with_reducible refine wpList_insR rfl (.tmp 1) _ (.tmp 2) rfl 0 w.heap.size rfl ?_ ?_ M0.out ?_); (exact rfl); (exact rfl); intro w1 k1 g1; have M1 := Lib.hid k1; have B1 := Lib.hid (below_grown1 B0.out g1 (Nat.le_refl _)); clear k1 g1)
    | ((with_reducible refine wpList_insR rfl (.tmp 1) _ (.tmp 3) rfl 1 w.heap.size rfl ?_ ?_ M1.out ?_); (exact rfl); (exact rfl); intro w2 k1 g1; have M2 := Lib.hid k1; have B2 := Lib.hid (below_grown1 B1.out g1 (Nat.le_refl _)); clear k1 g1)
    | ((with_reducible refine wpList_insR rfl (.tmp 1) _ (.tmp 4) rfl 2 w.heap.size rfl ?_ ?_ M2.out ?_); (exact rfl); (exact rfl); intro w3 k1 g1; have M3 := Lib.hid k1; have B3 := Lib.hid (below_grown1 B2.out g1 (Nat.le_refl _)); clear k1 g1)
    | ((with_reducible refine wpList_insR rfl (.tmp 1) _ (.tmp 5) rfl 3 w.heap.size rfl ?_ ?_ M3.out ?_); (exact rfl); (exact rfl); intro w4 k1 g1; have M4 := Lib.hid k1; have B4 := Lib.hid (below_grown1 B3.out g1 (Nat.le_refl _)); clear k1 g1))
  go_ret
  exact ⟨_, rfl, Nat.le_refl _, M4.out, B4.out⟩
/-- A rule is found; none is. -/
theorem run_lookR (k : Nat) (hk : k < 4) {w : World} {g : Nat} (h : w.heap[g]? = some (.map (rulE 4) 4)) (ok : Bool) :
    (Instr.lookup 106 (.map (some g)) (.int .i64 k) ok).run Try.prog w = .ok (if ok then .tuple #[rulV k, .bool true] else rulV k) w := by
  have h1 : Instr.findNow (.int .i64) (.int .i64 (k : Int)) (rulE 4).toList 0 = some (some (k, rulV k)) := by
    rcases (by omega : k = 0 ∨ k = 1 ∨ k = 2 ∨ k = 3) with rfl | rfl | rfl | rfl <;> rfl
  unfold Instr.lookup
  simp only [Sem.run_bind, run_underlying uRM, Result.andThen, Go.MapKept.run_getObj_map h, Go.MapKept.run_checkKey Try.underlying2 (show Go.MapKept.IsKey (.int .i64) (.int .i64 (k : Int)) from rfl), Go.MapKept.run_findKey Try.underlying2 h1, Sem.run_pure]
theorem zR : (Try.prog.info? 105).map (·.zero) = some (some (.agg #[.nilFunc, .nilFunc])) := by kernel_rfl
theorem run_lookN (k : Int) (hk : ¬ (0 ≤ k ∧ k ≤ 3)) {w : World} {g : Nat} (h : w.heap[g]? = some (.map (rulE 4) 4)) :
    (Instr.lookup 106 (.map (some g)) (.int .i64 k) true).run Try.prog w = .ok (.tuple #[.agg #[.nilFunc, .nilFunc], .bool false]) w := by
  have h1 : Instr.findNow (.int .i64) (.int .i64 k) (rulE 4).toList 0 = some none := by
    unfold rulE
    exact findR 0 _ _ (fun j hj => by have := List.mem_range.1 hj; omega)
  obtain ⟨i0, hi, hz⟩ : ∃ i, Try.prog.info? 105 = some i ∧ i.zero = some (.agg #[.nilFunc, .nilFunc]) := by
    cases h : Try.prog.info? 105 with
    | none => have := zR; rw [h] at this; cases this
    | some i => have := zR; rw [h] at this; exact ⟨i, rfl, Option.some.inj this⟩
  unfold Instr.lookup
  simp [Sem.run_bind, run_underlying uRM, Result.andThen, Go.MapKept.run_getObj_map h, Go.MapKept.run_checkKey Try.underlying2 (show Go.MapKept.IsKey (.int .i64) (.int .i64 k) from rfl), Go.MapKept.run_findKey Try.underlying2 h1, Sem.run_pure, zeroValue, typeInfo, hi, hz]
end Go.Proofs.Ythgfohdjpfhebaa
