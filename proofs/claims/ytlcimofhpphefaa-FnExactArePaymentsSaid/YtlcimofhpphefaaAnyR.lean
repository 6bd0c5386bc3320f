/-
  A region that draws its order: an operation that yields one value, whatever has been done meanwhile, may be taken first, a call too that makes memory; what is left need hold only for every world that has grown so.
-/
import Derived.Test.YtlcimofhpphefaaAnyS
import Derived.Orders
namespace Go.Proofs.Ytlcimofhpphefaa
open Go
set_option linter.unusedVariables false

variable {P : Program} {ops : Array Oper} {md : Region.Mode} {Q : Exit → Act → World → Prop} {R : World → World → Prop} {I : World → Prop} {last : Nat}

/-- Whatever order is picked from here on, in every world that has grown by R; all the others come up ahead of 'last'. -/
def wpAnyR (P : Program) (md : Region.Mode) (ops : Array Oper) (R : World → World → Prop) (I : World → Prop) (last : Nat) (Q : Exit → Act → World → Prop) : Nat → Array Bool → Act → World → Prop
  | 0, listed, a, w => ∀ w', R w w' → I w' ∧ (∀ i ∈ Region.ready md ops listed, i = last) ∧ Region.ready md ops listed ≠ [] ∧ wpOp P ops Q last (wpAny P md ops Q 0 (listed.setIfInBounds last true)) a w'
  | fuel + 1, listed, a, w => ∀ w', R w w' → I w' ∧ Region.ready md ops listed ≠ [] ∧ ∀ i ∈ Region.ready md ops listed, wpOp P ops Q i (wpAnyR P md ops R I last Q fuel (listed.setIfInBounds i true)) a w'

theorem wpAny_of_R (hR : ∀ w, R w w) : ∀ (fuel : Nat) (listed : Array Bool) (a : Act) (w : World), wpAnyR P md ops R I last Q fuel listed a w → wpAny P md ops Q (fuel + 1) listed a w
  | 0, listed, a, w, h => by
    obtain ⟨_, h1, h2, h3⟩ := h w (hR w)
    refine ⟨fun h0 => absurd h0 h2, fun i hi => ?_⟩
    have := h1 i hi
    subst this
    exact h3
  | fuel + 1, listed, a, w, h => by
    obtain ⟨_, h2, h3⟩ := h w (hR w)
    exact ⟨fun h0 => absurd h0 h2, fun i hi => wpOp_mono (fun a' w' hh => wpAny_of_R hR fuel _ a' w' hh) (h3 i hi)⟩
theorem wpAnyR_grow (hT : ∀ {a b c : World}, R a b → R b c → R a c) {fuel : Nat} {listed : Array Bool} {a : Act} {w w1 : World} (h : wpAnyR P md ops R I last Q fuel listed a w) (hr : R w w1) : wpAnyR P md ops R I last Q fuel listed a w1 := by
  cases fuel with
  | zero => exact fun w' h' => h w' (hT hr h')
  | succ fuel => exact fun w' h' => h w' (hT hr h')

/-- In state 'a', in every world of the class, operation 'o' yields 'v', by itself or by a call after which the world has grown. -/
def SoftR (P : Program) (ops : Array Oper) (R : World → World → Prop) (I : World → Prop) (o : Oper) (v : Value) (a : Act) : Prop :=
  (Region.wanted o (yielded ops a.tmps) = true ∧ ∀ w, I w → ((execOp a.eval o).run P w = .ok (.value v) w ∨
    ∃ f args, (execOp a.eval o).run P w = .ok (.enter f args) w ∧ Calls P f args w fun e w' => e = .returned v ∧ R w w')) ∨
  (Region.wanted o (yielded ops a.tmps) = false ∧ v = undef)

theorem SoftR.wpOp {i : Nat} {o : Oper} {v : Value} {a : Act} (hR : ∀ w, R w w) (hi : ops[i]? = some o) (hy : SoftR P ops R I o v a)
    {K : Act → World → Prop} {w : World} (hs : I w) (h : ∀ w', R w w' → K (a.put o.dst v) w') : wpOp P ops Q i K a w := by
  unfold Go.wpOp
  simp only [hi]
  rcases hy with ⟨hw, hv⟩ | ⟨hw, rfl⟩
  · simp only [hw, if_true, Oper.wp]
    rcases hv w hs with hv | ⟨f, args, hv, hc⟩
    · rw [hv]; exact .inl (h w (hR w))
    · rw [hv]
      refine .inl (Calls.mono hc fun e w' he => ?_)
      obtain ⟨rfl, hr⟩ := he
      exact h w' hr
  · simp only [hw, Bool.false_eq_true, if_false]; exact h w (hR w)

theorem SoftR.of_same {o : Oper} {v : Value} {a a' : Act} (hy : SoftR P ops R I o v a) (he : execOp a'.eval o = execOp a.eval o)
    (hw : Region.wanted o (yielded ops a'.tmps) = Region.wanted o (yielded ops a.tmps)) : SoftR P ops R I o v a' := by
  unfold SoftR at *
  rw [he, hw]
  exact hy

theorem wpOp_putR {j : Nat} {oi oj : Oper} {v : Value} (hj : ops[j]? = some oj) (hap : oi.apart ops oj = true)
    (hsi : ∀ cs b, oi.op ≠ .select cs b) (hsj : ∀ cs b, oj.op ≠ .select cs b)
    (hQ : ∀ c a w, Q (.panic c) (a.put oi.dst v) w → Q (.panic c) a w) {K : Act → World → Prop} {a : Act} {w : World}
    (hy : SoftR P ops R I oi v a) (h : wpOp P ops Q j K (a.put oi.dst v) w) :
    wpOp P ops Q j (fun a' w' => SoftR P ops R I oi v a' ∧ K (a'.put oi.dst v) w') a w := by
  obtain ⟨h1, h2, h3⟩ := Oper.apart_spec hap
  have keep : ∀ (a : Act), SoftR P ops R I oi v a → ∀ u, SoftR P ops R I oi v (a.put oj.dst u) := fun a hy u =>
    hy.of_same (execOp_put oi hsi a oj.dst u h3) (wanted_put oi a oj.dst u h3)
  have keepD : ∀ d, SoftR P ops R I oi v { a with defers := d :: a.defers } := fun d => hy.of_same rfl rfl
  unfold wpOp at *
  simp only [hj] at *
  rw [wanted_put oj a oi.dst v h1] at h
  split
  · rename_i hw
    simp only [hw, if_true] at h
    rcases h with h | ⟨hasks, hlets⟩
    case inr => exact .inr ⟨by unfold Oper.asks at *; rw [execOp_put oj hsj a oi.dst v h1] at hasks; exact hasks, hlets⟩
    refine .inl ?_
    unfold Oper.wp at *
    rw [execOp_put oj hsj a oi.dst v h1] at h
    generalize (execOp a.eval oj).run P w = r at *
    cases r with
    | ok n w' =>
      cases n <;> simp only [Oper.upon] at h ⊢
      case value u => exact ⟨keep a hy u, by rw [← Act.put_comm a v u h2]; exact h⟩
      case skip => exact ⟨keep a hy _, by rw [← Act.put_comm a v undef h2]; exact h⟩
      case defer d =>
        refine ⟨keep _ (keepD d) _, ?_⟩
        rw [← Act.put_comm _ v undef h2, ← Act.put_defers]
        exact h
      case enter f args =>
        refine Calls.mono h fun e w'' he => ?_
        cases e with
        | returned u => exact ⟨keep a hy u, by rw [← Act.put_comm a v u h2]; exact he⟩
        | panicked c => exact hQ _ _ _ he
        | outgrown => exact he
      case row row args => exact Rows.mono h fun u w'' he => ⟨keep a hy u, by rw [← Act.put_comm a v u h2]; exact he⟩
    | halt x w' =>
      cases x <;> simp only [Oper.upon] at h ⊢
      case panic u => exact hQ _ _ _ h
  · rename_i hw
    simp only [hw] at h
    exact ⟨keep a hy _, by rw [← Act.put_comm a v undef h2]; exact h⟩

theorem wpAnyR_first {i : Nat} {oi : Oper} {v : Value} (hR : ∀ w, R w w) (hT : ∀ {a b c : World}, R a b → R b c → R a c) (hi : ops[i]? = some oi) (hsel : ∀ (j : Nat) (o : Oper) cs b, ops[j]? = some o → o.op ≠ .select cs b)
    (hQ : ∀ c a w, Q (.panic c) (a.put oi.dst v) w → Q (.panic c) a w) {kw : Nat} (hwt : waitsB md ops i kw last = true) :
    ∀ (fuel : Nat) (listed : Array Bool) (a : Act) (w : World), closedB md ops listed →
      (∀ j oj, ops[j]? = some oj → j ≠ i → listed.getD j true = false → (∀ e ∈ oj.after, Region.binds md e = true → e.on ≠ i) → oi.apart ops oj = true) →
      i ∈ Region.ready md ops listed → SoftR P ops R I oi v a →
      wpAnyR P md ops R I last Q fuel (listed.setIfInBounds i true) (a.put oi.dst v) w → wpAnyR P md ops R I last Q (fuel + 1) listed a w := by
  intro fuel
  induction fuel with
  | zero =>
    intro listed a w hcl _ hr hy H w' hw
    have hI := (H w' hw).1
    refine ⟨hI, fun h => (by rw [h] at hr; cases hr), fun j hj => ?_⟩
    by_cases hji : j = i
    · subst hji; exact hy.wpOp (K := wpAnyR P md ops R I last Q 0 (listed.setIfInBounds j true)) hR hi hI (fun w2 h2 => (have h5 : R w w2 := hT hw h2; wpAnyR_grow (R := R) (w := w) (w1 := w2) (fun p q => hT p q) H h5))
    · have hl := (H w' hw).2.1 j (ready_mono hj hji)
      subst hl
      exact absurd hj (waits_not_ready hcl (getD_false_true (mem_ready.1 hr).1) hwt)
  | succ fuel ih =>
    intro listed a w hcl hfree hr hy H w' hw
    have hI := (H w' hw).1
    refine ⟨hI, fun h => (by rw [h] at hr; cases hr), fun j hj => ?_⟩
    by_cases hji : j = i
    · subst hji; exact hy.wpOp (K := wpAnyR P md ops R I last Q (fuel + 1) (listed.setIfInBounds j true)) hR hi hI (fun w2 h2 => (have h5 : R w w2 := hT hw h2; wpAnyR_grow (R := R) (w := w) (w1 := w2) (fun p q => hT p q) H h5))
    · have h1 := (H w' hw).2.2 j (ready_mono hj hji)
      obtain ⟨hjun, oj, hoj, hall⟩ := mem_ready.1 hj
      have hnot : ∀ e ∈ oj.after, Region.binds md e = true → e.on ≠ i := fun e he hb heq => by
        have h1 := hall e he hb
        have h0 := (mem_ready.1 hr).1
        rw [heq] at h1
        rcases Nat.lt_or_ge i listed.size with h' | h'
        · simp [h'] at h0 h1; rw [h0] at h1; cases h1
        · simp [Array.getElem?_eq_none h'] at h1
      have h2 := wpOp_putR hoj (hfree j oj hoj hji hjun hnot) (fun cs b => hsel i oi cs b hi) (fun cs b => hsel j oj cs b hoj) hQ hy h1
      have hfree' : ∀ k ok, ops[k]? = some ok → k ≠ i → (listed.setIfInBounds j true).getD k true = false →
          (∀ e ∈ ok.after, Region.binds md e = true → e.on ≠ i) → oi.apart ops ok = true := fun k ok hk hki hun hno => by
        refine hfree k ok hk hki ?_ hno
        by_cases hjk : j = k
        · subst hjk; exact hjun
        · rw [getD_set_ne true hjk] at hun; exact hun
      refine wpOp_mono (fun a' w2 h3 => ?_) h2
      have hr' := ready_mono hr (Ne.symm hji)
      obtain ⟨hy', h4⟩ := h3
      rw [Array.setIfInBounds_comm _ _ (Ne.symm hji)] at h4
      exact ih (listed.setIfInBounds j true) a' w2 (closed_set hcl hj) hfree' hr' hy' h4

theorem wpAnyR_take {i kw : Nat} {oi : Oper} {v : Value} {fuel : Nat} {listed : Array Bool} {a : Act} {w : World} (hR : ∀ w, R w w) (hT : ∀ {a b c : World}, R a b → R b c → R a c) (hi : ops[i]? = some oi)
    (hs : Region.noSelect ops = true) (hf : Region.free md ops listed i = true) (hr : (Region.ready md ops listed).contains i = true) (hwt : waitsB md ops i kw last = true)
    (hQ : ∀ c a w, Q (.panic c) (a.put oi.dst v) w → Q (.panic c) a w) (hcl : closedB md ops listed) (hy : SoftR P ops R I oi v a)
    (h : closedB md ops (listed.setIfInBounds i true) → wpAnyR P md ops R I last Q fuel (listed.setIfInBounds i true) (a.put oi.dst v) w) : wpAnyR P md ops R I last Q (fuel + 1) listed a w :=
  wpAnyR_first hR hT hi (Region.noSelect_spec hs) hQ hwt fuel listed a w hcl (Region.free_spec hi hf) (by simpa using hr) hy (h (closed_set hcl (by simpa using hr)))
/-- One operation alone may come up. -/
theorem wpAnyR_one {i : Nat} {o : Oper} {fuel : Nat} {listed : Array Bool} {a : Act} {w : World} (hcl : closedB md ops listed) (hr : Region.ready md ops listed = [i]) (ho : ops[i]? = some o) (hwt : Region.wanted o (yielded ops a.tmps) = true)
    (h : ∀ w', R w w' → I w' ∧ ∀ K' : Act → World → Prop, (∀ a w, (closedB md ops (listed.setIfInBounds i true) → wpAnyR P md ops R I last Q fuel (listed.setIfInBounds i true) a w) → K' a w) → Oper.wp P o a w' K' Q) : wpAnyR P md ops R I last Q (fuel + 1) listed a w := by
  have hc : closedB md ops (listed.setIfInBounds i true) := closed_set hcl (by rw [hr]; exact List.mem_singleton.2 rfl)
  intro w' hw
  obtain ⟨hI, hK⟩ := h w' hw
  refine ⟨hI, by rw [hr]; simp, fun j hj => ?_⟩
  rw [hr] at hj
  obtain rfl := List.mem_singleton.1 hj
  unfold wpOp
  simp only [ho, hwt, if_true]
  exact .inl (hK _ (fun a w q => q hc))
/-- The last operation. -/
theorem wpAnyR_last {o : Oper} {listed : Array Bool} {a : Act} {w : World} (hr : Region.ready md ops listed = [last]) (hr' : Region.ready md ops (listed.setIfInBounds last true) = []) (ho : ops[last]? = some o) (hwt : Region.wanted o (yielded ops a.tmps) = true)
    (h : ∀ w', R w w' → I w' ∧ ∀ K' : Act → World → Prop, (∀ a w, Q .normal a w → K' a w) → Oper.wp P o a w' K' Q) : wpAnyR P md ops R I last Q 0 listed a w := by
  intro w' hw
  obtain ⟨hI, hK⟩ := h w' hw
  refine ⟨hI, fun j hj => by rw [hr] at hj; exact List.mem_singleton.1 hj, by rw [hr]; simp, ?_⟩
  unfold wpOp
  simp only [ho, hwt, if_true]
  exact .inl (hK _ (fun a w q => ⟨hr', q⟩))
/-- The whole region. -/
theorem wp_region_R {id k : Nat} {a : Act} {w : World} (hR : ∀ w, R w w) (hm : P.follows .mixedOrders = true) (hk : ops.size = k + 1)
    (h : closedB .any ops (Array.replicate ops.size false) → wpAnyR P .any ops R I last Q k (Array.replicate ops.size false) a w.drew) : (Code.region id ops true).wp P Q a w := by
  refine wp_region_any hm ?_
  have := wpAny_of_R hR k _ a w.drew (h (closed_start _))
  rw [← hk] at this
  exact this
end Go.Proofs.Ytlcimofhpphefaa
