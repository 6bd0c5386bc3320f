/-
  Put together, what this law needs of: AnyS, AnyR, AnyL, Base, Mark.
-/
import Derived.OrdersIn
import Derived.TacticsIn
import Derived.Orders
import Derived.Below
import Derived.Lib.Hide
import Derived.Test.YtnllndcajdofjaaRows
import Derived.WalkKit
import Derived.ProofKit
import Derived.OpenShut
import Derived.Deep.QuietTactic
import Derived.WalkLawsBesides
import Derived.Lib.TrailingZeros
import Derived.BigQuiet
import Derived.Lib.SmallJoins
import Derived.OwnWalk
import Derived.Laws.OwnMore
import Derived.Deep.AppendLies
import Derived.RegionTactic
import Derived.Outline
import Derived.Laws.BitsLemmas
import Derived.Laws.Bits64
import Derived.Deep.MidRow
namespace Go.Proofs.Ytnllndcajdofjaa
open Go
set_option linter.unusedVariables false

variable {F : Fence} {n : Nat} {P : Program} {ops : Array Oper} {md : Region.Mode} {Q : Exit → Go.Act → World → Prop} {S : World → Prop} {last m : Nat}

/-- Does operation x wait for i (through others, k steps at most)? -/
def waitsB (md : Region.Mode) (ops : Array Oper) (i : Nat) : Nat → Nat → Bool
  | 0, _ => false
  | k + 1, x => match ops[x]? with
    | none => false
    | some o => o.after.any fun e => Region.binds md e && (e.on == i || waitsB md ops i k e.on)
/-- What has come up has what it waits for behind it. -/
def closedB (md : Region.Mode) (ops : Array Oper) (listed : Array Bool) : Prop :=
  ∀ x o, ops[x]? = some o → listed.getD x false = true → ∀ e ∈ o.after, Region.binds md e = true → listed.getD e.on false = true

theorem getD_false_true {l : Array Bool} {i : Nat} (h : l.getD i true = false) : l.getD i false = false := by
  by_cases hi : i < l.size
  · simp [hi] at h ⊢; exact h
  · simp [hi] at h
theorem closed_start (k : Nat) : closedB md ops (Array.replicate k false) := fun x o _ h => by
  by_cases hx : x < k
  · simp [hx] at h
  · simp [hx] at h
theorem getD_set (l : Array Bool) (i j : Nat) : (l.setIfInBounds i true).getD j false = true → j = i ∨ l.getD j false = true := by
  intro h
  by_cases e : i = j
  · exact .inl e.symm
  · right
    by_cases hj : j < l.size
    · simp [hj, e] at h ⊢; exact h
    · simp [hj] at h
theorem getD_set_of (l : Array Bool) (i j : Nat) (h : l.getD j false = true) : (l.setIfInBounds i true).getD j false = true := by
  by_cases hj : j < l.size
  · simp [hj, Array.getElem_setIfInBounds] at h ⊢
    exact .inr h
  · simp [hj] at h
theorem closed_set {listed : Array Bool} {j : Nat} (hc : closedB md ops listed) (hj : j ∈ Region.ready md ops listed) : closedB md ops (listed.setIfInBounds j true) := by
  intro x o ho hx e he hb
  rcases getD_set listed j x hx with rfl | h
  · obtain ⟨_, o', ho', hall⟩ := mem_ready.1 hj
    rw [ho] at ho'
    cases ho'
    exact getD_set_of _ _ _ (hall e he hb)
  · exact getD_set_of _ _ _ (hc x o ho h e he hb)
theorem waits_unlisted {listed : Array Bool} {i : Nat} (hc : closedB md ops listed) (hi : listed.getD i false = false) : ∀ (k x : Nat), waitsB md ops i k x = true → listed.getD x false = false
  | 0, _, h => by cases h
  | k + 1, x, h => by
    unfold waitsB at h
    split at h
    · cases h
    · rename_i o ho
      obtain ⟨e, he, hb⟩ := Array.any_eq_true'.1 h
      rw [Bool.and_eq_true] at hb
      cases hx : listed.getD x false
      · rfl
      · have := hc x o ho hx e he hb.1
        rcases Bool.or_eq_true_iff.1 hb.2 with q | q
        · rw [beq_iff_eq.1 q, hi] at this; cases this
        · rw [waits_unlisted hc hi k e.on q] at this; cases this
theorem waits_not_ready {listed : Array Bool} {i : Nat} (hc : closedB md ops listed) (hi : listed.getD i false = false) {k x : Nat} (h : waitsB md ops i k x = true) : x ∉ Region.ready md ops listed := fun hx => by
  obtain ⟨_, o', ho', hall⟩ := mem_ready.1 hx
  cases k with
  | zero => cases h
  | succ k =>
    unfold waitsB at h
    rw [ho'] at h
    obtain ⟨e, he, hb⟩ := Array.any_eq_true'.1 h
    rw [Bool.and_eq_true] at hb
    have := hall e he hb.1
    rcases Bool.or_eq_true_iff.1 hb.2 with q | q
    · rw [beq_iff_eq.1 q, hi] at this; cases this
    · rw [waits_unlisted hc hi k e.on q] at this; cases this

end Go.Proofs.Ytnllndcajdofjaa

namespace Go.Proofs.Ytnllndcajdofjaa
open Go
set_option linter.unusedVariables false

variable {P : Program} {ops : Array Oper} {md : Region.Mode} {Q : Exit → Go.Act → World → Prop} {R : World → World → Prop} {I : World → Prop} {last : Nat}

/-- Whatever order is picked from here on, in every world that has grown by R; all the others come up ahead of 'last'. -/
def wpAnyR (P : Program) (md : Region.Mode) (ops : Array Oper) (R : World → World → Prop) (I : World → Prop) (last : Nat) (Q : Exit → Go.Act → World → Prop) : Nat → Array Bool → Go.Act → World → Prop
  | 0, listed, a, w => ∀ w', R w w' → I w' ∧ (∀ i ∈ Region.ready md ops listed, i = last) ∧ Region.ready md ops listed ≠ [] ∧ wpOp P ops Q last (wpAny P md ops Q 0 (listed.setIfInBounds last true)) a w'
  | fuel + 1, listed, a, w => ∀ w', R w w' → I w' ∧ Region.ready md ops listed ≠ [] ∧ ∀ i ∈ Region.ready md ops listed, wpOp P ops Q i (wpAnyR P md ops R I last Q fuel (listed.setIfInBounds i true)) a w'

theorem wpAny_of_R (hR : ∀ w, R w w) : ∀ (fuel : Nat) (listed : Array Bool) (a : Go.Act) (w : World), wpAnyR P md ops R I last Q fuel listed a w → wpAny P md ops Q (fuel + 1) listed a w
  | 0, listed, a, w, h => by
    obtain ⟨_, h1, h2, h3⟩ := h w (hR w)
    refine ⟨fun h0 => absurd h0 h2, fun i hi => ?_⟩
    have := h1 i hi
    subst this
    exact h3
  | fuel + 1, listed, a, w, h => by
    obtain ⟨_, h2, h3⟩ := h w (hR w)
    exact ⟨fun h0 => absurd h0 h2, fun i hi => wpOp_mono (fun a' w' hh => wpAny_of_R hR fuel _ a' w' hh) (h3 i hi)⟩
theorem wpAnyR_grow (hT : ∀ {a b c : World}, R a b → R b c → R a c) {fuel : Nat} {listed : Array Bool} {a : Go.Act} {w w1 : World} (h : wpAnyR P md ops R I last Q fuel listed a w) (hr : R w w1) : wpAnyR P md ops R I last Q fuel listed a w1 := by
  cases fuel with
  | zero => exact fun w' h' => h w' (hT hr h')
  | succ fuel => exact fun w' h' => h w' (hT hr h')

/-- In state 'a', in every world of the class, operation 'o' yields 'v', by itself or by a call after which the world has grown. -/
def SoftR (P : Program) (ops : Array Oper) (R : World → World → Prop) (I : World → Prop) (o : Oper) (v : Value) (a : Go.Act) : Prop :=
  (Region.wanted o (yielded ops a.tmps) = true ∧ ∀ w, I w → ((execOp a.eval o).run P w = .ok (.value v) w ∨
    ∃ f args, (execOp a.eval o).run P w = .ok (.enter f args) w ∧ Calls P f args w fun e w' => e = .returned v ∧ R w w')) ∨
  (Region.wanted o (yielded ops a.tmps) = false ∧ v = undef)

theorem SoftR.wpOp {i : Nat} {o : Oper} {v : Value} {a : Go.Act} (hR : ∀ w, R w w) (hi : ops[i]? = some o) (hy : SoftR P ops R I o v a)
    {K : Go.Act → World → Prop} {w : World} (hs : I w) (h : ∀ w', R w w' → K (a.put o.dst v) w') : wpOp P ops Q i K a w := by
  unfold Go.wpOp
  simp only [hi]
  rcases hy with ⟨hw, hv⟩ | ⟨hw, rfl⟩
  · simp only [hw, if_true, Oper.wp]
    rcases hv w hs with hv | ⟨f, args, hv, hc⟩
    · rw [hv]; exact .inl (h w (hR w))
    · rw [hv]
      refine .inl (Calls.mono hc fun e w' he => ?_)
      obtain ⟨rfl, hr⟩ := he
      exact h w' hr
  · simp only [hw, Bool.false_eq_true, if_false]; exact h w (hR w)

theorem SoftR.of_same {o : Oper} {v : Value} {a a' : Go.Act} (hy : SoftR P ops R I o v a) (he : execOp a'.eval o = execOp a.eval o)
    (hw : Region.wanted o (yielded ops a'.tmps) = Region.wanted o (yielded ops a.tmps)) : SoftR P ops R I o v a' := by
  unfold SoftR at *
  rw [he, hw]
  exact hy

theorem wpOp_putR {j : Nat} {oi oj : Oper} {v : Value} (hj : ops[j]? = some oj) (hap : oi.apart ops oj = true)
    (hsi : ∀ cs b, oi.op ≠ .select cs b) (hsj : ∀ cs b, oj.op ≠ .select cs b)
    (hQ : ∀ c a w, Q (.panic c) (a.put oi.dst v) w → Q (.panic c) a w) {K : Go.Act → World → Prop} {a : Go.Act} {w : World}
    (hy : SoftR P ops R I oi v a) (h : wpOp P ops Q j K (a.put oi.dst v) w) :
    wpOp P ops Q j (fun a' w' => SoftR P ops R I oi v a' ∧ K (a'.put oi.dst v) w') a w := by
  obtain ⟨h1, h2, h3⟩ := Oper.apart_spec hap
  have keep : ∀ (a : Go.Act), SoftR P ops R I oi v a → ∀ u, SoftR P ops R I oi v (a.put oj.dst u) := fun a hy u =>
    hy.of_same (execOp_put oi hsi a oj.dst u h3) (wanted_put oi a oj.dst u h3)
  have keepD : ∀ d, SoftR P ops R I oi v { a with defers := d :: a.defers } := fun d => hy.of_same rfl rfl
  unfold wpOp at *
  simp only [hj] at *
  rw [wanted_put oj a oi.dst v h1] at h
  split
  · rename_i hw
    simp only [hw, if_true] at h
    rcases h with h | ⟨hasks, hlets⟩
    case inr => exact .inr ⟨by unfold Oper.asks at *; rw [execOp_put oj hsj a oi.dst v h1] at hasks; exact hasks, hlets⟩
    refine .inl ?_
    unfold Oper.wp at *
    rw [execOp_put oj hsj a oi.dst v h1] at h
    generalize (execOp a.eval oj).run P w = r at *
    cases r with
    | ok n w' =>
      cases n <;> simp only [Oper.upon] at h ⊢
      case value u => exact ⟨keep a hy u, by rw [← Act.put_comm a v u h2]; exact h⟩
      case skip => exact ⟨keep a hy _, by rw [← Act.put_comm a v undef h2]; exact h⟩
      case defer d =>
        refine ⟨keep _ (keepD d) _, ?_⟩
        rw [← Act.put_comm _ v undef h2, ← Act.put_defers]
        exact h
      case enter f args =>
        refine Calls.mono h fun e w'' he => ?_
        cases e with
        | returned u => exact ⟨keep a hy u, by rw [← Act.put_comm a v u h2]; exact he⟩
        | panicked c => exact hQ _ _ _ he
        | outgrown => exact he
      case row row args => exact Rows.mono h fun u w'' he => ⟨keep a hy u, by rw [← Act.put_comm a v u h2]; exact he⟩
    | halt x w' =>
      cases x <;> simp only [Oper.upon] at h ⊢
      case panic u => exact hQ _ _ _ h
  · rename_i hw
    simp only [hw] at h
    exact ⟨keep a hy _, by rw [← Act.put_comm a v undef h2]; exact h⟩

theorem wpAnyR_first {i : Nat} {oi : Oper} {v : Value} (hR : ∀ w, R w w) (hT : ∀ {a b c : World}, R a b → R b c → R a c) (hi : ops[i]? = some oi) (hsel : ∀ (j : Nat) (o : Oper) cs b, ops[j]? = some o → o.op ≠ .select cs b)
    (hQ : ∀ c a w, Q (.panic c) (a.put oi.dst v) w → Q (.panic c) a w) {kw : Nat} (hwt : waitsB md ops i kw last = true) :
    ∀ (fuel : Nat) (listed : Array Bool) (a : Go.Act) (w : World), closedB md ops listed →
      (∀ j oj, ops[j]? = some oj → j ≠ i → listed.getD j true = false → (∀ e ∈ oj.after, Region.binds md e = true → e.on ≠ i) → oi.apart ops oj = true) →
      i ∈ Region.ready md ops listed → SoftR P ops R I oi v a →
      wpAnyR P md ops R I last Q fuel (listed.setIfInBounds i true) (a.put oi.dst v) w → wpAnyR P md ops R I last Q (fuel + 1) listed a w := by
  intro fuel
  induction fuel with
  | zero =>
    intro listed a w hcl _ hr hy H w' hw
    have hI := (H w' hw).1
    refine ⟨hI, fun h => (by rw [h] at hr; cases hr), fun j hj => ?_⟩
    by_cases hji : j = i
    · subst hji; exact hy.wpOp (K := wpAnyR P md ops R I last Q 0 (listed.setIfInBounds j true)) hR hi hI (fun w2 h2 => (have h5 : R w w2 := hT hw h2; wpAnyR_grow (R := R) (w := w) (w1 := w2) (fun p q => hT p q) H h5))
    · have hl := (H w' hw).2.1 j (ready_mono hj hji)
      subst hl
      exact absurd hj (waits_not_ready hcl (getD_false_true (mem_ready.1 hr).1) hwt)
  | succ fuel ih =>
    intro listed a w hcl hfree hr hy H w' hw
    have hI := (H w' hw).1
    refine ⟨hI, fun h => (by rw [h] at hr; cases hr), fun j hj => ?_⟩
    by_cases hji : j = i
    · subst hji; exact hy.wpOp (K := wpAnyR P md ops R I last Q (fuel + 1) (listed.setIfInBounds j true)) hR hi hI (fun w2 h2 => (have h5 : R w w2 := hT hw h2; wpAnyR_grow (R := R) (w := w) (w1 := w2) (fun p q => hT p q) H h5))
    · have h1 := (H w' hw).2.2 j (ready_mono hj hji)
      obtain ⟨hjun, oj, hoj, hall⟩ := mem_ready.1 hj
      have hnot : ∀ e ∈ oj.after, Region.binds md e = true → e.on ≠ i := fun e he hb heq => by
        have h1 := hall e he hb
        have h0 := (mem_ready.1 hr).1
        rw [heq] at h1
        rcases Nat.lt_or_ge i listed.size with h' | h'
        · simp [h'] at h0 h1; rw [h0] at h1; cases h1
        · simp [Array.getElem?_eq_none h'] at h1
      have h2 := wpOp_putR hoj (hfree j oj hoj hji hjun hnot) (fun cs b => hsel i oi cs b hi) (fun cs b => hsel j oj cs b hoj) hQ hy h1
      have hfree' : ∀ k ok, ops[k]? = some ok → k ≠ i → (listed.setIfInBounds j true).getD k true = false →
          (∀ e ∈ ok.after, Region.binds md e = true → e.on ≠ i) → oi.apart ops ok = true := fun k ok hk hki hun hno => by
        refine hfree k ok hk hki ?_ hno
        by_cases hjk : j = k
        · subst hjk; exact hjun
        · rw [getD_set_ne true hjk] at hun; exact hun
      refine wpOp_mono (fun a' w2 h3 => ?_) h2
      have hr' := ready_mono hr (Ne.symm hji)
      obtain ⟨hy', h4⟩ := h3
      rw [Array.setIfInBounds_comm _ _ (Ne.symm hji)] at h4
      exact ih (listed.setIfInBounds j true) a' w2 (closed_set hcl hj) hfree' hr' hy' h4

theorem wpAnyR_take {i kw : Nat} {oi : Oper} {v : Value} {fuel : Nat} {listed : Array Bool} {a : Go.Act} {w : World} (hR : ∀ w, R w w) (hT : ∀ {a b c : World}, R a b → R b c → R a c) (hi : ops[i]? = some oi)
    (hs : Region.noSelect ops = true) (hf : Region.free md ops listed i = true) (hr : (Region.ready md ops listed).contains i = true) (hwt : waitsB md ops i kw last = true)
    (hQ : ∀ c a w, Q (.panic c) (a.put oi.dst v) w → Q (.panic c) a w) (hcl : closedB md ops listed) (hy : SoftR P ops R I oi v a)
    (h : closedB md ops (listed.setIfInBounds i true) → wpAnyR P md ops R I last Q fuel (listed.setIfInBounds i true) (a.put oi.dst v) w) : wpAnyR P md ops R I last Q (fuel + 1) listed a w :=
  wpAnyR_first hR hT hi (Region.noSelect_spec hs) hQ hwt fuel listed a w hcl (Region.free_spec hi hf) (by simpa using hr) hy (h (closed_set hcl (by simpa using hr)))
/-- One operation alone may come up. -/
theorem wpAnyR_one {i : Nat} {o : Oper} {fuel : Nat} {listed : Array Bool} {a : Go.Act} {w : World} (hcl : closedB md ops listed) (hr : Region.ready md ops listed = [i]) (ho : ops[i]? = some o) (hwt : Region.wanted o (yielded ops a.tmps) = true)
    (h : ∀ w', R w w' → I w' ∧ ∀ K' : Go.Act → World → Prop, (∀ a w, (closedB md ops (listed.setIfInBounds i true) → wpAnyR P md ops R I last Q fuel (listed.setIfInBounds i true) a w) → K' a w) → Oper.wp P o a w' K' Q) : wpAnyR P md ops R I last Q (fuel + 1) listed a w := by
  have hc : closedB md ops (listed.setIfInBounds i true) := closed_set hcl (by rw [hr]; exact List.mem_singleton.2 rfl)
  intro w' hw
  obtain ⟨hI, hK⟩ := h w' hw
  refine ⟨hI, by rw [hr]; simp, fun j hj => ?_⟩
  rw [hr] at hj
  obtain rfl := List.mem_singleton.1 hj
  unfold wpOp
  simp only [ho, hwt, if_true]
  exact .inl (hK _ (fun a w q => q hc))
/-- The last operation. -/
theorem wpAnyR_last {o : Oper} {listed : Array Bool} {a : Go.Act} {w : World} (hr : Region.ready md ops listed = [last]) (hr' : Region.ready md ops (listed.setIfInBounds last true) = []) (ho : ops[last]? = some o) (hwt : Region.wanted o (yielded ops a.tmps) = true)
    (h : ∀ w', R w w' → I w' ∧ ∀ K' : Go.Act → World → Prop, (∀ a w, Q .normal a w → K' a w) → Oper.wp P o a w' K' Q) : wpAnyR P md ops R I last Q 0 listed a w := by
  intro w' hw
  obtain ⟨hI, hK⟩ := h w' hw
  refine ⟨hI, fun j hj => by rw [hr] at hj; exact List.mem_singleton.1 hj, by rw [hr]; simp, ?_⟩
  unfold wpOp
  simp only [ho, hwt, if_true]
  exact .inl (hK _ (fun a w q => ⟨hr', q⟩))
/-- The whole region. -/
theorem wp_region_R {id k : Nat} {a : Go.Act} {w : World} (hR : ∀ w, R w w) (hm : P.follows .mixedOrders = true) (hk : ops.size = k + 1)
    (h : closedB .any ops (Array.replicate ops.size false) → wpAnyR P .any ops R I last Q k (Array.replicate ops.size false) a w.drew) : (Code.region id ops true).wp P Q a w := by
  refine wp_region_any hm ?_
  have := wpAny_of_R hR k _ a w.drew (h (closed_start _))
  rw [← hk] at this
  exact this
end Go.Proofs.Ytnllndcajdofjaa

namespace Go.Proofs.Ytnllndcajdofjaa
open Go
set_option linter.unusedVariables false

variable {P : Program} {ops : Array Oper} {md : Region.Mode} {Q : Exit → Go.Act → World → Prop} {R : World → World → Prop} {I : World → Prop} {last : Nat}

theorem wpAnyR_takeL {i kw : Nat} {oi : Oper} {d : Option Tmp} {v : Value} {fuel : Nat} {listed : Array Bool} {a : Go.Act} {w : World} (hR : ∀ w, R w w) (hT : ∀ {a b c : World}, R a b → R b c → R a c) (hi : ops.toList[i]? = some oi) (hd : oi.dst = d)
    (hs : Region.noSelect ops = true) (hf : Region.free md ops listed i = true) (hr : (Region.ready md ops listed).contains i = true) (hwt : waitsB md ops i kw last = true)
    (hQ : ∀ c a w, Q (.panic c) (a.put d v) w → Q (.panic c) a w) (hcl : closedB md ops listed) (hy : SoftR P ops R I oi v a)
    (h : closedB md ops (listed.setIfInBounds i true) → wpAnyR P md ops R I last Q fuel (listed.setIfInBounds i true) (a.put d v) w) : wpAnyR P md ops R I last Q (fuel + 1) listed a w := by
  subst hd
  exact wpAnyR_take hR hT (by rw [← Array.getElem?_toList]; exact hi) hs hf hr hwt hQ hcl hy h
theorem wpAnyR_oneL {i : Nat} {o : Oper} {fuel : Nat} {listed : Array Bool} {a : Go.Act} {w : World} (hcl : closedB md ops listed) (hr : Region.ready md ops listed = [i]) (ho : ops.toList[i]? = some o) (hwt : Region.wanted o (yielded ops a.tmps) = true)
    (h : ∀ w', R w w' → I w' ∧ ∀ K' : Go.Act → World → Prop, (∀ a w, (closedB md ops (listed.setIfInBounds i true) → wpAnyR P md ops R I last Q fuel (listed.setIfInBounds i true) a w) → K' a w) → Oper.wp P o a w' K' Q) : wpAnyR P md ops R I last Q (fuel + 1) listed a w :=
  wpAnyR_one hcl hr (by rw [← Array.getElem?_toList]; exact ho) hwt h
theorem wpAnyR_lastL {o : Oper} {listed : Array Bool} {a : Go.Act} {w : World} (hr : Region.ready md ops listed = [last]) (hr' : Region.ready md ops (listed.setIfInBounds last true) = []) (ho : ops.toList[last]? = some o) (hwt : Region.wanted o (yielded ops a.tmps) = true)
    (h : ∀ w', R w w' → I w' ∧ ∀ K' : Go.Act → World → Prop, (∀ a w, Q .normal a w → K' a w) → Oper.wp P o a w' K' Q) : wpAnyR P md ops R I last Q 0 listed a w :=
  wpAnyR_last hr hr' (by rw [← Array.getElem?_toList]; exact ho) hwt h
end Go.Proofs.Ytnllndcajdofjaa


/-! Plain facts on integers: the greatest common divisor. Nothing of the program is imported. -/
namespace Go.Proofs.Ytnllndcajdofjaa

theorem ret_int {k : IntKind} {a b : Int} (h : a = b) : Ending.returned (.int k a) = .returned (.int k b) := by rw [h]
/-- Two numbers as a result. -/
abbrev pairV (a b : Int) : Value := .tuple #[.int .i64 a, .int .i64 b]
/-- A number lies in a range. -/
def inB (n lo hi : Int) : Bool := decide (lo ≤ n ∧ n ≤ hi)
theorem inB_yes (n lo hi : Int) (h : lo ≤ n) (h' : n ≤ hi) : inB n lo hi = true := by unfold inB; simp [h, h']
theorem inB_lo (n lo hi : Int) (h : n < lo) : inB n lo hi = false := by unfold inB; simp; omega
theorem inB_hi (n lo hi : Int) (h : hi < n) : inB n lo hi = false := by unfold inB; simp; omega

end Go.Proofs.Ytnllndcajdofjaa

/-! The frame of a law's proof: a law that returns true and writes into nothing that was there leaves each argument as it read. -/
namespace Go.Proofs.Ytnllndcajdofjaa
open Go.ChangeShapes Go.WideShapes Go.ChangeAt Go.RowKit

theorem own : ownKnob Try.prog.godebug = none := by kernel_rfl
theorem laidOut : laidOutB Try.prog = true := by kernel_rfl

theorem trodAll_below {H : Type} {enc : TypeId × Value → H} {P : Program} (hl : laidOutB P = true) {W W' : World} (hb : Below W.heap.size W W') :
    ∀ (ts : List TypeId) (vs : List Value) (ds : List (DataW H)) (ps : List MemPlace), (∀ t ∈ ts, P.readableRec t = true ∧ t < P.types.size) →
      DataW.TrodAll enc P W 0 (fun _ => true) true ts vs ds ps → (∀ x ∈ ps, x.block < W.heap.size) →
      DataW.TrodAll enc P W' 0 (fun b => decide (b < W.heap.size)) true ts vs ds ps
  | [], [], [], _, _, h, _ => h
  | t :: ts, v :: vs, d :: ds, ps, hr, h, hlt => by
    obtain ⟨p, q, h0, h1, rfl⟩ := h
    have h2 := hr t (List.mem_cons_self ..)
    exact ⟨p, q, Below.trod hl h2.1 h2.2 h0 hb (fun x hx => hlt x (List.mem_append.2 (.inl hx))),
      trodAll_below hl hb ts vs ds q (fun t' ht => hr t' (List.mem_cons_of_mem _ ht)) h1 (fun x hx => hlt x (List.mem_append.2 (.inr hx))), rfl⟩
  | [], _ :: _, _, _, _, h, _ => by cases h
  | [], [], _ :: _, _, _, h, _ => by cases h
  | _ :: _, [], _, _, _, h, _ => by cases h
  | _ :: _, _ :: _, [], _, _, h, _ => by cases h

theorem trodAll_len {H : Type} {enc : TypeId × Value → H} {P : Program} {W : World} {b : Nat} {sp : Nat → Bool} {hd : Bool} :
    ∀ (ts : List TypeId) (vs : List Value) (ds : List (DataW H)) (ps : List MemPlace), DataW.TrodAll enc P W b sp hd ts vs ds ps → ds.length = ts.length
  | [], [], [], _, _ => rfl
  | t :: ts, v :: vs, d :: ds, ps, h => by
    obtain ⟨p, q, _, h1, _⟩ := h
    simp [trodAll_len ts vs ds q h1]
  | [], _ :: _, _, _, h => by cases h
  | [], [], _ :: _, _, h => by cases h
  | _ :: _, [], _, _, h => by cases h
  | _ :: _, _ :: _, [], _, h => by cases h

theorem bl_refl (w : World) : Below w.heap.size w w := Below.refl _ _
theorem bl_alloc {a w : World} (h : Below a.heap.size a w) (o : Obj) : Below a.heap.size a (w.alloc o) := h.alloc h.size o
theorem bl_drew {a w : World} (h : Below a.heap.size a w) : Below a.heap.size a w.drew := h.drew
theorem bl_drewN {a w : World} (h : Below a.heap.size a w) (n : Nat) : Below a.heap.size a (w.drewN n) := ⟨h.os, h.tape, h.output, h.size, h.block⟩
theorem bl_trans {a b c : World} (h : Below a.heap.size a b) (k : Below b.heap.size b c) : Below a.heap.size a c := h.trans (k.mono h.size)
set_option maxRecDepth 100000 in
/-- The whole of a law's row but for its walk. -/
theorem law_lifted {os : Os} (started : os.Started) {H : Type} {enc : TypeId × Value → H} {F : FuncId} {fn : Func} {s : ChangeSpec} {conds : List PathCond}
    (noInit : Try.checked.prog.inits.idxOf? F = none) (hfn : Try.checked.prog.funcs[F]? = some fn) (hres : fn.resultTypes = #[4]) (hvars : s.vars = [])
    (hspec : ∀ ds : List (DataW H), ds.length = fn.params.toList.length → s.fn H ds = { results := [.lit (.bool true)], args := ds })
    (hrec : ∀ t ∈ fn.params.toList, Try.prog.readableRec t = true ∧ t < Try.prog.types.size)
    (witness : ∃ (w : World) (tape : Tape) (i : Input), w.os = os ∧ (w.forCall tape i).Shaped Try.checked.prog ∧ i.vars = [] ∧ Input.okWide Try.checked.prog (w.forCall tape i) .any w.heap.size F i ∧
      s.pre6 enc Try.checked.prog fn conds false (w.forCall tape i).memory i.args ∧ ({} : Assume).holds Try.checked.prog (lone (Frame.enter Try.checked.prog F i.args .normal) [] (w.forCall tape i)))
    (walk : ∀ (W : World) (base : Nat) (args : Array Value) (ds : List (DataW H)) (ps : List MemPlace),
      (∀ (j : Nat) t v, fn.params[j]? = some t → args[j]? = some v → Value.okWide Try.prog W .any base t v) →
      DataW.TrodAll enc Try.prog W 0 (fun _ => true) true fn.params.toList args.toList ds ps →
      Calls Try.prog F args W fun e W' => e = .returned (.bool true) ∧ Below W.heap.size W W') :
    ReturnsInHanded {} Try.checked os F .any (s.pre6 enc Try.prog fn conds false) (s.post enc Try.prog fn false true false false) := by
  refine returnsInHanded_of_change (C := Try.checked) own started noInit hfn witness ?_
  intro W base args ds gs before hval hW _ _
  have hW' := hW
  obtain ⟨p, q, hA, hV, rfl, hfz, hnd⟩ := hW
  rw [hvars] at hV
  obtain ⟨rfl, rfl⟩ := trodVars_none hV
  have hlt : ∀ x ∈ p, x.block < W.heap.size := fun x hx => hW'.lt x (by simp [hx])
  have hl := trodAll_len _ _ _ _ hA
  refine (walk W base args ds p hval hA).mono fun e W' ⟨he, hb⟩ => ⟨.bool true, he, ?_⟩
  have e1 : s.fn H (ds ++ []) = { results := [.lit (.bool true)], args := ds } := by rw [List.append_nil]; exact hspec ds hl
  refine ⟨ds, [], p ++ [], [], p, [], hW', ?_, ?_, ?_, hb.frame _, fun h => by cases h⟩
  · rw [e1, hres]; exact trodAll_cons_mk (shut_bool Try.underlying4 _) trodAll_mk0
  · rw [e1]; exact trodAll_below laidOut hb _ _ _ _ hrec hA hlt
  · rw [e1, hvars]; rfl

end Go.Proofs.Ytnllndcajdofjaa

/-! What a call leaves that makes memory; the model's test of a range. -/
namespace Go.Proofs.Ytnllndcajdofjaa
open Go.RowKit

/-- What a call leaves that makes memory and writes into none that was there. -/
def Fresh (v : Value) (w : World) (e : Ending) (w' : World) : Prop := e = .returned v ∧ Below w.heap.size w w'
/-- What a call leaves that changes nothing. -/
def Same (v : Value) (w : World) (e : Ending) (w' : World) : Prop := e = .returned v ∧ w = w'
theorem ret_bool {a b : Bool} (h : a = b) : Ending.returned (.bool a) = .returned (.bool b) := by rw [h]
theorem quiet_left {P : Program} {f : FuncId} {args : Array Value} {w : World} {n : Nat} {v : Value}
    (h : Calls P f args (w.drewN n) fun e w' => e = .returned v ∧ w.drewN n = w') : Calls P f args (w.drewN n) fun e w'' => e = .returned v ∧ ∃ m, w'' = w.drewN m :=
  h.mono fun _ _ ⟨he, hm⟩ => ⟨he, n, hm.symm⟩
theorem quiet_add_left {P : Program} {f : FuncId} {args : Array Value} {w : World} {a n : Nat} {v : Value}
    (h : Calls P f args (w.drewN (a + n)) fun e w' => e = .returned v ∧ w.drewN (a + n) = w') :
    Calls P f args (w.drewN (a + n)) fun e w'' => e = .returned v ∧ ∃ m, w'' = w.drewN (a + m) :=
  h.mono fun _ _ ⟨he, hm⟩ => ⟨he, n, hm.symm⟩

set_option maxHeartbeats 400000 in
theorem specIn_any (n lo hi : Int) (w : World) :
    Calls Try.prog 79 #[.int .i64 n, .int .i64 lo, .int .i64 hi] w fun e w' => e = .returned (.bool (inB n lo hi)) ∧ w = w' := by
  by_cases h1 : n < lo
  · have H := Lib.hid (inB_lo n lo hi h1)
    go_enter Try.func79, Try.ntmps79
    go_wp2
    go_ret
    exact ⟨ret_bool (by rw [H.out]), rfl⟩
  · by_cases h2 : hi < n
    · have H := Lib.hid (inB_hi n lo hi h2)
      go_enter Try.func79, Try.ntmps79
      go_wp2
      go_ret
      exact ⟨ret_bool (by rw [H.out]; exact decide_eq_false (by omega)), rfl⟩
    · have H := Lib.hid (inB_yes n lo hi (by omega) (by omega))
      go_enter Try.func79, Try.ntmps79
      go_wp2
      go_ret
      exact ⟨ret_bool (by rw [H.out]), rfl⟩

end Go.Proofs.Ytnllndcajdofjaa

/-! Plain facts: numbers as sets of bits, and how many bits a number has. Nothing of the program is imported. -/
namespace Go.Proofs.Ytnllndcajdofjaa

/-! Numbers as sets of bits. -/
/-! The bits of a union, and of a part. -/
/-! Counting bits by words (math/bits.OnesCount64). -/
end Go.Proofs.Ytnllndcajdofjaa

/-! Plain facts on lists of cards: which are cards, their set, how many have a property. Nothing of the program is imported. -/
namespace Go.Proofs.Ytnllndcajdofjaa

/-! Lists of cards. -/
theorem take_snocI (l : List Int) (k : Nat) (h : k < l.length) : l.take (k + 1) = l.take k ++ [l[k]] := by
  rw [List.take_succ_eq_append_getElem h]
end Go.Proofs.Ytnllndcajdofjaa

/-! Whether a number is a card: both texts' walks. -/
namespace Go.Proofs.Ytnllndcajdofjaa
open Go.RowKit

end Go.Proofs.Ytnllndcajdofjaa

/-! Lists of numbers in memory: how a slice reads, a row of the call's own, and a list as a law's argument. -/
namespace Go.Proofs.Ytnllndcajdofjaa
open Go.ChangeShapes Go.WideShapes Go.ChangeAt Go.RowKit Go.Joins
set_option linter.unusedVariables false

/-- The i-th number of a list; 0 past its end. -/
def nth (xs : List Int) (i : Nat) : Int := xs.getD i 0
theorem nth_eq (xs : List Int) (i : Nat) (h : i < xs.length) : nth xs i = xs[i] := by unfold nth; rw [List.getD_eq_getElem?_getD, List.getElem?_eq_getElem h]; rfl
theorem nth_mem (xs : List Int) (i : Nat) (h : i < xs.length) : nth xs i ∈ xs := by rw [nth_eq xs i h]; exact List.getElem_mem h
theorem take_nth (xs : List Int) (k : Nat) (h : k < xs.length) : xs.take (k + 1) = xs.take k ++ [nth xs k] := by rw [nth_eq xs k h]; exact take_snocI xs k h
/-- Numbers as values. -/
def ints (xs : List Int) : List Value := xs.map (Value.int .i64)
theorem ints_length (xs : List Int) : (ints xs).length = xs.length := by simp [ints]
theorem ints_snoc (xs : List Int) (x : Int) : ints (xs ++ [x]) = ints xs ++ [.int .i64 x] := by simp [ints]
theorem ints_append (xs ys : List Int) : ints (xs ++ ys) = ints xs ++ ints ys := by simp [ints]
theorem ints_get (xs : List Int) (i : Nat) (h : i < xs.length) : (ints xs)[i]? = some (.int .i64 (nth xs i)) := by simp [ints, h, nth_eq xs i h]
theorem ints_set (xs : List Int) (i : Nat) (x : Int) : (ints xs).set i (.int .i64 x) = ints (xs.set i x) := by simp [ints, List.map_set]
theorem ints_zeros (n : Nat) : List.replicate n (Value.int .i64 0) = ints (List.replicate n 0) := by simp [ints]

/-- A slice at A reads as the list. -/
def Rd (w : World) (A : Option Addr) (xs : List Int) : Prop := 0 < xs.length → ∃ b off, A = some ⟨b, off, none⟩ ∧ ∀ i, i < xs.length → w.cell? ⟨b, off + i, none⟩ = some (.int .i64 (nth xs i))
theorem Rd.lt {w : World} {A : Option Addr} {xs : List Int} (h : Rd w A xs) (h0 : 0 < xs.length) {a : Addr} (e : A = some a) : a.block < w.heap.size := by
  obtain ⟨b, off, rfl, hc⟩ := h h0
  injection e with e
  subst e
  exact World.block_lt_of_cell? w _ (hc 0 h0)
theorem Rd.below {w w' : World} {A : Option Addr} {xs : List Int} (h : Rd w A xs) (hb : Below w.heap.size w w') : Rd w' A xs := by
  intro h0
  obtain ⟨b, off, rfl, hc⟩ := h h0
  exact ⟨b, off, rfl, fun i hi => (hb.cell (p := ⟨b, off + i, none⟩) (World.block_lt_of_cell? w _ (hc i hi))).trans (hc i hi)⟩
theorem Rd.at_ {w w' : World} {A : Option Addr} {xs : List Int} (h : Rd w A xs) (hb : Below w.heap.size w w') (k : Nat) (hk : k < xs.length) : ∃ b off, A = some ⟨b, off, none⟩ ∧ w'.cell? ⟨b, off + k, none⟩ = some (.int .i64 (nth xs k)) := by
  obtain ⟨b, off, rfl, hc⟩ := (h.below hb) (by omega)
  exact ⟨b, off, rfl, hc k hk⟩
/-- A row of numbers of the call's own: none of its blocks lies below lo. -/
def Own (w : World) (lo : Nat) (v : Value) (xs : List Int) : Prop := w.ownsRow lo 2 1 v xs.length (ints xs)
theorem Own.rd {w : World} {lo : Nat} {A : Option Addr} {c : Nat} {xs : List Int} (h : Own w lo (.slice A xs.length c) xs) : Rd w A xs := by
  intro h0
  rcases h.2 with ⟨e, hn⟩ | ⟨g, cap, cur, hv, hb, hg, hnc, _⟩
  · omega
  · have hv' := hv
    injection hv' with hA _ hc
    subst hA hc
    refine ⟨g, 0, rfl, fun i hi => ?_⟩
    rw [Nat.zero_add, World.ownsRow.cellAt h i (by omega), ints_get xs i hi]
theorem Own.lo_le {w : World} {lo : Nat} {A : Option Addr} {c n : Nat} {xs : List Int} (h : Own w lo (.slice A n c) xs) (a : Addr) (e : A = some a) : lo ≤ a.block ∧ a.block < w.heap.size := by
  subst e
  exact World.ownsRow.lt h a.block rfl
theorem Own.below {w w' : World} {lo : Nat} {v : Value} {xs : List Int} (h : Own w lo v xs) (hb : Below w.heap.size w w') : Own w' lo v xs := by
  refine ⟨h.1, ?_⟩
  rcases h.2 with hn | ⟨g, cap, cur, rfl, hl, hgg, rest⟩
  · exact .inl hn
  · exact .inr ⟨g, cap, cur, rfl, hl, (hb.block g (Array.getElem?_eq_some_iff.1 hgg).1).trans hgg, rest⟩
theorem Own.less {w : World} {lo lo' : Nat} {v : Value} {xs : List Int} (h : Own w lo v xs) (hl : lo' ≤ lo) : Own w lo' v xs := by
  refine ⟨h.1, ?_⟩
  rcases h.2 with hn | ⟨g, cap, cur, rfl, hlo, rest⟩
  · exact .inl hn
  · exact .inr ⟨g, cap, cur, rfl, Nat.le_trans hl hlo, rest⟩
theorem Own.grown {w w' : World} {lo : Nat} {v : Value} {xs : List Int} {row : Option Nat} (h : Own w lo v xs) (hg : w.grownBy w' row) (hne : v.ownBlock = none ∨ v.ownBlock ≠ row) : Own w' lo v xs := World.ownsRow.kept h hg hne
theorem Own.nil (w : World) (lo : Nat) : Own w lo (.slice none 0 0) [] := World.ownsRow_nil w lo 2 1
/-- What a call leaves that returns a list in new memory. -/
def NewL (xs : List Int) (w : World) (e : Ending) (w' : World) : Prop := ∃ A c, e = .returned (.slice A xs.length c) ∧ Own w' w.heap.size (.slice A xs.length c) xs ∧ Below w.heap.size w w'
theorem infoInt : (Try.prog.info? 2).map (fun i => (i.zero, i.size, i.bytes)) = some (some (.int .i64 0), 1, 8) := by kernel_rfl
end Go.Proofs.Ytnllndcajdofjaa

/-! Plain facts on decks: rearranged lists, cuts, riffles, shuffles, hands that are dealt. Nothing of the program is imported. -/
namespace Go.Proofs.Ytnllndcajdofjaa

/-- The i-th number of a list; 0 past its end. -/
def ix (xs : List Int) (i : Nat) : Int := xs.getD i 0
theorem ix_eq (xs : List Int) (i : Nat) (h : i < xs.length) : ix xs i = xs[i] := by unfold ix; rw [List.getD_eq_getElem?_getD, List.getElem?_eq_getElem h]; rfl
theorem ix_drop (xs : List Int) (n i : Nat) : ix (xs.drop n) i = ix xs (n + i) := by
  unfold ix; rw [List.getD_eq_getElem?_getD, List.getD_eq_getElem?_getD, List.getElem?_drop]
theorem ix_set_same (xs : List Int) (i : Nat) (x : Int) (h : i < xs.length) : ix (xs.set i x) i = x := by
  rw [ix_eq _ i (by simpa using h), List.getElem_set_self]
theorem ix_set_other (xs : List Int) (i j : Nat) (x : Int) (h : i ≠ j) : ix (xs.set i x) j = ix xs j := by
  unfold ix; rw [List.getD_eq_getElem?_getD, List.getD_eq_getElem?_getD, List.getElem?_set_ne h]

/-! Cuts. -/
/-! The model's forms. -/
/-! Shuffles. -/
/-! Places. -/
/-! Hands. -/
end Go.Proofs.Ytnllndcajdofjaa

/-! Rows of the call's own wherever they begin in their block, whatever the block's type: how they read. -/
namespace Go.Proofs.Ytnllndcajdofjaa
open Go.RowKit
set_option linter.unusedVariables false

/-- A row of the call's own: its block does not lie below lo. -/
def Row (w : World) (lo : Nat) (A : Option Addr) (xs : List Int) : Prop :=
  (∀ a, A = some a → lo ≤ a.block ∧ a.block < w.heap.size) ∧
  (0 < xs.length → ∃ g off, A = some ⟨g, off, none⟩ ∧ ∀ i, i < xs.length → w.cell? ⟨g, off + i, none⟩ = some (.int .i64 (nth xs i)) ∧ w.frozen? ⟨g, off + i, none⟩ = false)
theorem Row.rd {w : World} {lo : Nat} {A : Option Addr} {xs : List Int} (h : Row w lo A xs) : Rd w A xs := fun h0 => by
  obtain ⟨g, off, e, hc⟩ := h.2 h0
  exact ⟨g, off, e, fun i hi => (hc i hi).1⟩
theorem Row.less {w : World} {lo lo' : Nat} {A : Option Addr} {xs : List Int} (h : Row w lo A xs) (hl : lo' ≤ lo) : Row w lo' A xs :=
  ⟨fun a e => ⟨Nat.le_trans hl (h.1 a e).1, (h.1 a e).2⟩, h.2⟩
theorem Row.grown {w w' : World} {lo : Nat} {A : Option Addr} {xs : List Int} {row : Option Nat} (h : Row w lo A xs) (hg : w.grownBy w' row) (hne : ∀ a, A = some a → some a.block ≠ row) : Row w' lo A xs := by
  refine ⟨fun a e => ⟨(h.1 a e).1, Nat.lt_of_lt_of_le (h.1 a e).2 hg.size⟩, fun h0 => ?_⟩
  obtain ⟨g, off, rfl, hc⟩ := h.2 h0
  have hb := hg.block g (h.1 _ rfl).2 (hne _ rfl)
  exact ⟨g, off, rfl, fun i hi => ⟨(World.cell?_of_block (a := ⟨g, off + i, none⟩) hb).trans (hc i hi).1, (World.frozen?_of_block (a := ⟨g, off + i, none⟩) hb).trans (hc i hi).2⟩⟩
theorem Row.below {w w' : World} {lo : Nat} {A : Option Addr} {xs : List Int} (h : Row w lo A xs) (hb : Below w.heap.size w w') : Row w' lo A xs :=
  Row.grown (row := none) h ⟨hb.os, hb.tape, hb.output, hb.size, fun k hk _ => hb.block k hk⟩ (fun _ _ => by simp)
theorem Row.nil (w : World) (lo : Nat) : Row w lo none [] := ⟨(fun a e => by cases e), (fun h => by simp at h)⟩
theorem Row.of_own {w : World} {lo : Nat} {A : Option Addr} {c : Nat} {xs : List Int} (h : Own w lo (.slice A xs.length c) xs) : Row w lo A xs := by
  refine ⟨fun a e => h.lo_le a e, fun h0 => ?_⟩
  rcases h.2 with ⟨_, hn⟩ | ⟨g, cap, cur, hv, _⟩
  · omega
  · injection hv with hA _ hc
    subst hA hc
    refine ⟨g, 0, rfl, fun i hi => ?_⟩
    rw [Nat.zero_add]
    exact ⟨by rw [World.ownsRow.cellAt h i (by omega), ints_get xs i hi], World.ownsRow.frozenAt h i⟩
/-- A row's end. -/
theorem Row.drop {w : World} {lo g off : Nat} {xs : List Int} (h : Row w lo (some ⟨g, off, none⟩) xs) (n : Nat) : Row w lo (some ⟨g, off + n, none⟩) (xs.drop n) := by
  refine ⟨fun a e => ?_, fun h0 => ⟨g, off + n, rfl, fun i hi => ?_⟩⟩
  · obtain rfl := Option.some.inj e
    exact h.1 ⟨g, off, none⟩ rfl
  · rw [List.length_drop] at hi
    obtain ⟨g', off', e, hc⟩ := h.2 (by omega)
    injection e with e
    injection e with e1 e2
    subst e1 e2
    have := hc (n + i) (by omega)
    rw [← Nat.add_assoc] at this
    rw [show nth (xs.drop n) i = nth xs (n + i) from ix_drop xs n i]
    exact this
/-- The same with a code beside it. -/
def NewRC (xs : List Int) (code : Int) (w : World) (e : Ending) (w' : World) : Prop := ∃ A c, e = .returned (.tuple #[.slice A xs.length c, .int .i64 code]) ∧ Row w' w.heap.size A xs ∧ Below w.heap.size w w'
end Go.Proofs.Ytnllndcajdofjaa

/-! Lists of counts: how many cards have each key. -/
namespace Go.Proofs.Ytnllndcajdofjaa
open Go.RowKit
set_option linter.unusedVariables false

end Go.Proofs.Ytnllndcajdofjaa

/-! The model's counts of ranks and of suits. -/
namespace Go.Proofs.Ytnllndcajdofjaa
open Go.RowKit
set_option linter.unusedVariables false

end Go.Proofs.Ytnllndcajdofjaa

/-! The set of a list of cards: the program's asSet, setOf and AreCards. -/
namespace Go.Proofs.Ytnllndcajdofjaa
open Go.RowKit
set_option linter.unusedVariables false

end Go.Proofs.Ytnllndcajdofjaa

/-! The model's AreCards: a row of marks. -/
namespace Go.Proofs.Ytnllndcajdofjaa
open Go.RowKit
set_option linter.unusedVariables false

end Go.Proofs.Ytnllndcajdofjaa

/-! Blocks of cells, known whole: arrays and structs of the program's own. -/
namespace Go.Proofs.Ytnllndcajdofjaa
open Go.RowKit
set_option linter.unusedVariables false

/-- Block g holds these cells, as a variable of type t. -/
def Blk (w : World) (g : Nat) (t : TypeId) (vs : List Value) : Prop := w.heap[g]? = some (.cells vs.toArray t (0, 0))
theorem Blk.lt {w : World} {g : Nat} {t : TypeId} {vs : List Value} (h : Blk w g t vs) : g < w.heap.size := (Array.getElem?_eq_some_iff.1 h).1
theorem Blk.range {w : World} {g : Nat} {t : TypeId} {vs : List Value} (h : Blk w g t vs) : w.rangeAt g 0 vs := fun j v hv => by
  rw [Nat.zero_add, cell_of_row w g j _ _ _ h]; simpa using hv
theorem Blk.cell {w : World} {g : Nat} {t : TypeId} {vs : List Value} (h : Blk w g t vs) (i : Nat) (v : Value) (hv : vs[i]? = some v) : w.cell? ⟨g, i, none⟩ = some v ∧ w.frozen? ⟨g, i, none⟩ = false := by
  refine ⟨?_, frozen_of_row w g i _ _ h⟩
  rw [cell_of_row w g i _ _ _ h]; simpa using hv
theorem Blk.below {w w' : World} {g : Nat} {t : TypeId} {vs : List Value} (h : Blk w g t vs) (hb : Below w.heap.size w w') : Blk w' g t vs := (hb.block g h.lt).trans h
theorem Blk.grown {w w' : World} {g : Nat} {t : TypeId} {vs : List Value} {row : Option Nat} (h : Blk w g t vs) (hg : w.grownBy w' row) (hne : some g ≠ row) : Blk w' g t vs := (hg.block g h.lt hne).trans h
theorem blk_new (w : World) (t : TypeId) (vs : List Value) : Blk (w.alloc (.cells vs.toArray t)) w.heap.size t vs := heap_alloc_new w _
theorem blk_set {w : World} {g : Nat} {t : TypeId} {vs : List Value} (h : Blk w g t vs) (i : Nat) (x : Value) : Blk (w.setCell ⟨g, i, none⟩ x) g t (vs.set i x) ∧ w.grownBy (w.setCell ⟨g, i, none⟩ x) (some g) := by
  constructor
  · unfold Blk at h ⊢
    rw [heap_setCell_same w g i _ _ _ h]
    simp
  · exact ⟨rfl, rfl, rfl, by simp [World.setCell], fun k hk hne => Below.heap_setCell w ⟨g, i, none⟩ _ k (fun e => hne (by rw [e]))⟩
theorem Blk.int {w : World} {g : Nat} {t : TypeId} {xs : List Int} (h : Blk w g t (ints xs)) (i : Nat) (hi : i < xs.length) : w.cell? ⟨g, i, none⟩ = some (.int .i64 (nth xs i)) ∧ w.frozen? ⟨g, i, none⟩ = false :=
  h.cell i _ (ints_get xs i hi)
/-- A whole variable is loaded. -/
theorem wpList_load_blk {ops : Array Oper} {rest : List Oper} {o : Oper} {a : Go.Act} {w : World} {Q : Exit → Go.Act → World → Prop} (t : TypeId) (d : TypeDesc) (n : Nat) (hgd : o.guard = none) (x : Operand) (ho : o.op = .load t x)
    (hu : Try.prog.underlying t = some d) (hd : d.isRow = true) (hi : (Try.prog.info? t).map (·.size) = some n)
    (b off : Nat) (hx : a.eval x = .pointer (some ⟨b, off, none⟩)) (vs : List Value) (hl : vs.length = n) (hc : w.rangeAt b off vs)
    (h : wpList Try.prog ops Q rest (a.put o.dst (.agg vs.toArray)) w) : wpList Try.prog ops Q (o :: rest) a w :=
  wpList_load_mid hgd t x ho b off hx vs d hc hu hd (by rw [hl]; exact hi) h
/-- A whole variable is stored. -/
theorem wpList_store_blk {ops : Array Oper} {rest : List Oper} {o : Oper} {a : Go.Act} {w : World} {Q : Exit → Go.Act → World → Prop} (t : TypeId) (n : Nat) (hgd : o.guard = none) (x y : Operand) (ho : o.op = .store t x y)
    (hi : (Try.prog.info? t).map (·.size) = some n)
    (g : Nat) (hx : a.eval x = .pointer (some ⟨g, 0, none⟩)) (vs : List Value) (hy : a.eval y = .agg vs.toArray) (hl : vs.length = n) (h1 : ∀ v ∈ vs, v.oneCell' = true) (old : Array Value) (hg : w.heap[g]? = some (.cells old t (0, 0))) (hs : old.size = n)
    (h : ∀ w', Blk w' g t vs → w.grownBy w' (some g) → wpList Try.prog ops Q rest (a.put o.dst undef) w') : wpList Try.prog ops Q (o :: rest) a w :=
  wpList_plain hgd fun _ hK => by
    have hr := run_storeVar_row (P := Try.prog) w g t t old vs.toArray hg (by rw [List.size_toArray, hl]; exact hi) (by simp [hl, hs]) (all_oneCell_toArray h1)
    unfold Oper.wp execOp
    simp only [ho, hx, hy, Instr.storeAt, Instr.sureAddr, Sem.run_bind, Sem.run_pure, Result.andThen_ok, hr]
    exact hK _ _ (h _ (setRow_heap w g old _ _ _ hg) ⟨rfl, rfl, rfl, by simp, fun k hk hne => setRow_other w g k _ (fun e => hne (by rw [e]))⟩)
end Go.Proofs.Ytnllndcajdofjaa

/-! A block known whole as a row; a slice of five made. -/
namespace Go.Proofs.Ytnllndcajdofjaa
open Go.RowKit
set_option linter.unusedVariables false

end Go.Proofs.Ytnllndcajdofjaa

/-! The tests of a list of cards of some size, and the code that goes with them. -/
namespace Go.Proofs.Ytnllndcajdofjaa
open Go.RowKit
set_option linter.unusedVariables false

end Go.Proofs.Ytnllndcajdofjaa

/-! Ranks and suits: the walks of both texts' functions on single cards. -/
namespace Go.Proofs.Ytnllndcajdofjaa
open Go.RowKit

end Go.Proofs.Ytnllndcajdofjaa


/-! The laws' own helpers on lists of numbers: eqInt64S, markInt64S, heldInt64S. -/
namespace Go.Proofs.Ytnllndcajdofjaa
open Go.RowKit
set_option linter.unusedVariables false

end Go.Proofs.Ytnllndcajdofjaa

/-! Rows of the call's own wherever they begin: how a law marks them. -/
namespace Go.Proofs.Ytnllndcajdofjaa
open Go.RowKit
set_option linter.unusedVariables false

theorem nth_set_same (xs : List Int) (k : Nat) (x : Int) (h : k < xs.length) : nth (xs.set k x) k = x := ix_set_same xs k x h
theorem nth_set_other (xs : List Int) (k i : Nat) (x : Int) (h : k ≠ i) : nth (xs.set k x) i = nth xs i := ix_set_other xs k i x h
end Go.Proofs.Ytnllndcajdofjaa

/-! The laws' own helpers on lists of numbers: toInt64S (the others: MarkLaw). -/
namespace Go.Proofs.Ytnllndcajdofjaa
open Go.RowKit
set_option linter.unusedVariables false

end Go.Proofs.Ytnllndcajdofjaa

/-! Rows of the call's own that lie apart: what is kept when one of them is written. -/
namespace Go.Proofs.Ytnllndcajdofjaa
open Go.RowKit
set_option linter.unusedVariables false

end Go.Proofs.Ytnllndcajdofjaa
