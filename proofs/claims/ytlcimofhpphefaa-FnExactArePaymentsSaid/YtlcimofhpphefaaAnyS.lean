/-
  A region that draws its order: an operation that yields one value in every world of a class may be taken first, if every world before the last operation is one of the class.
-/
import Derived.OrdersIn
import Derived.TacticsIn
namespace Go.Proofs.Ytlcimofhpphefaa
open Go
set_option linter.unusedVariables false

variable {F : Fence} {n : Nat} {P : Program} {ops : Array Oper} {md : Region.Mode} {Q : Exit → Act → World → Prop} {S : World → Prop} {last m : Nat}

/-- Does operation x wait for i (through others, k steps at most)? -/
def waitsB (md : Region.Mode) (ops : Array Oper) (i : Nat) : Nat → Nat → Bool
  | 0, _ => false
  | k + 1, x => match ops[x]? with
    | none => false
    | some o => o.after.any fun e => Region.binds md e && (e.on == i || waitsB md ops i k e.on)
/-- What has come up has what it waits for behind it. -/
def closedB (md : Region.Mode) (ops : Array Oper) (listed : Array Bool) : Prop :=
  ∀ x o, ops[x]? = some o → listed.getD x false = true → ∀ e ∈ o.after, Region.binds md e = true → listed.getD e.on false = true

theorem getD_false_true {l : Array Bool} {i : Nat} (h : l.getD i true = false) : l.getD i false = false := by
  by_cases hi : i < l.size
  · simp [hi] at h ⊢; exact h
  · simp [hi] at h
theorem closed_start (k : Nat) : closedB md ops (Array.replicate k false) := fun x o _ h => by
  by_cases hx : x < k
  · simp [hx] at h
  · simp [hx] at h
theorem getD_set (l : Array Bool) (i j : Nat) : (l.setIfInBounds i true).getD j false = true → j = i ∨ l.getD j false = true := by
  intro h
  by_cases e : i = j
  · exact .inl e.symm
  · right
    by_cases hj : j < l.size
    · simp [hj, e] at h ⊢; exact h
    · simp [hj] at h
theorem getD_set_of (l : Array Bool) (i j : Nat) (h : l.getD j false = true) : (l.setIfInBounds i true).getD j false = true := by
  by_cases hj : j < l.size
  · simp [hj, Array.getElem_setIfInBounds] at h ⊢
    exact .inr h
  · simp [hj] at h
theorem closed_set {listed : Array Bool} {j : Nat} (hc : closedB md ops listed) (hj : j ∈ Region.ready md ops listed) : closedB md ops (listed.setIfInBounds j true) := by
  intro x o ho hx e he hb
  rcases getD_set listed j x hx with rfl | h
  · obtain ⟨_, o', ho', hall⟩ := mem_ready.1 hj
    rw [ho] at ho'
    cases ho'
    exact getD_set_of _ _ _ (hall e he hb)
  · exact getD_set_of _ _ _ (hc x o ho h e he hb)
theorem waits_unlisted {listed : Array Bool} {i : Nat} (hc : closedB md ops listed) (hi : listed.getD i false = false) : ∀ (k x : Nat), waitsB md ops i k x = true → listed.getD x false = false
  | 0, _, h => by cases h
  | k + 1, x, h => by
    unfold waitsB at h
    split at h
    · cases h
    · rename_i o ho
      obtain ⟨e, he, hb⟩ := Array.any_eq_true'.1 h
      rw [Bool.and_eq_true] at hb
      cases hx : listed.getD x false
      · rfl
      · have := hc x o ho hx e he hb.1
        rcases Bool.or_eq_true_iff.1 hb.2 with q | q
        · rw [beq_iff_eq.1 q, hi] at this; cases this
        · rw [waits_unlisted hc hi k e.on q] at this; cases this
theorem waits_not_ready {listed : Array Bool} {i : Nat} (hc : closedB md ops listed) (hi : listed.getD i false = false) {k x : Nat} (h : waitsB md ops i k x = true) : x ∉ Region.ready md ops listed := fun hx => by
  obtain ⟨_, o', ho', hall⟩ := mem_ready.1 hx
  cases k with
  | zero => cases h
  | succ k =>
    unfold waitsB at h
    rw [ho'] at h
    obtain ⟨e, he, hb⟩ := Array.any_eq_true'.1 h
    rw [Bool.and_eq_true] at hb
    have := hall e he hb.1
    rcases Bool.or_eq_true_iff.1 hb.2 with q | q
    · rw [beq_iff_eq.1 q, hi] at this; cases this
    · rw [waits_unlisted hc hi k e.on q] at this; cases this

/-- Whatever order is picked from here on, 'fuel + 1 + m' operations being left; all the others come up ahead of 'last', but for the m that wait for it. -/
def wpAnyS (F : Fence) (n : Nat) (P : Program) (md : Region.Mode) (ops : Array Oper) (S : World → Prop) (last m : Nat) (Q : Exit → Act → World → Prop) : Nat → Array Bool → Act → World → Prop
  | 0, listed, a, w => S w ∧ (∀ i ∈ Region.ready md ops listed, i = last) ∧ Region.ready md ops listed ≠ [] ∧
      wpOpIn F n P ops Q last (wpAnyIn F n P md ops Q m (listed.setIfInBounds last true)) a w
  | fuel + 1, listed, a, w => S w ∧ Region.ready md ops listed ≠ [] ∧
      ∀ i ∈ Region.ready md ops listed, wpOpIn F n P ops Q i (wpAnyS F n P md ops S last m Q fuel (listed.setIfInBounds i true)) a w

theorem wpAnyIn_of_S : ∀ (fuel : Nat) (listed : Array Bool) (a : Act) (w : World), wpAnyS F n P md ops S last m Q fuel listed a w → wpAnyIn F n P md ops Q (fuel + m + 1) listed a w
  | 0, listed, a, w, h => ⟨fun h0 => absurd h0 h.2.2.1, fun i hi => by
      have := h.2.1 i hi
      subst this
      exact wpOpIn_mono (fun a' w' hh => by rw [Nat.zero_add]; exact hh) h.2.2.2⟩
  | fuel + 1, listed, a, w, h => by
    rw [Nat.succ_add]
    exact ⟨fun h0 => absurd h0 h.2.1, fun i hi => wpOpIn_mono (fun a' w' hh => wpAnyIn_of_S fuel _ a' w' hh) (h.2.2 i hi)⟩

/-- In state 'a', in every world of the class, operation 'o' leaves 'v' and the world as it is, and makes no call. -/
def YieldsS (P : Program) (ops : Array Oper) (S : World → Prop) (o : Oper) (v : Value) (a : Act) : Prop :=
  ((Region.wanted o (yielded ops a.tmps) = true ∧ ∀ w, S w → (execOp a.eval o).run P w = .ok (.value v) w) ∨
   (Region.wanted o (yielded ops a.tmps) = false ∧ v = undef)) ∧ ∀ w, o.about P w a.eval = none

theorem YieldsS.wpOpIn {i : Nat} {o : Oper} {v : Value} {a : Act} (hro : F.round = none) (hi : ops[i]? = some o) (hy : YieldsS P ops S o v a)
    {K : Act → World → Prop} {w : World} (hs : S w) (h : K (a.put o.dst v) w) : wpOpIn F n P ops Q i K a w := by
  unfold Go.wpOpIn
  simp only [hi]
  have hab : ∀ f, o.about P w a.eval = some f → F.fn f := fun f hf => by rw [hy.2 w] at hf; cases hf
  rcases hy.1 with ⟨hw, hv⟩ | ⟨hw, rfl⟩
  · simp only [hw, if_true, Oper.wpIn, hro, Oper.semAt_none, hv w hs, Oper.uponIn]; exact ⟨hab, h⟩
  · simp only [hw, Bool.false_eq_true, if_false]; exact ⟨hab, h⟩

theorem YieldsS.of_same {o : Oper} {v : Value} {a a' : Act} (hy : YieldsS P ops S o v a) (he : execOp a'.eval o = execOp a.eval o)
    (hw : Region.wanted o (yielded ops a'.tmps) = Region.wanted o (yielded ops a.tmps)) (hb : ∀ w, o.about P w a'.eval = o.about P w a.eval) : YieldsS P ops S o v a' := by
  unfold YieldsS at *
  rw [he, hw]
  exact ⟨hy.1, fun w => by rw [hb w]; exact hy.2 w⟩

theorem wpOpIn_putS {j : Nat} {oi oj : Oper} {v : Value} (hro : F.round = none) (hj : ops[j]? = some oj) (hap : oi.apart ops oj = true)
    (hsi : ∀ cs b, oi.op ≠ .select cs b) (hsj : ∀ cs b, oj.op ≠ .select cs b)
    (hQ : ∀ c a w, Q (.panic c) (a.put oi.dst v) w → Q (.panic c) a w) {K : Act → World → Prop} {a : Act} {w : World}
    (hy : YieldsS P ops S oi v a) (h : wpOpIn F n P ops Q j K (a.put oi.dst v) w) :
    wpOpIn F n P ops Q j (fun a' w' => YieldsS P ops S oi v a' ∧ K (a'.put oi.dst v) w') a w := by
  obtain ⟨h1, h2, h3⟩ := Oper.apart_spec hap
  have keep : ∀ (a : Act), YieldsS P ops S oi v a → ∀ u, YieldsS P ops S oi v (a.put oj.dst u) := fun a hy u =>
    hy.of_same (execOp_put oi hsi a oj.dst u h3) (wanted_put oi a oj.dst u h3) (fun w => about_put oi w a oj.dst u h3)
  have keepD : ∀ d, YieldsS P ops S oi v { a with defers := d :: a.defers } := fun d => hy.of_same rfl rfl (fun _ => rfl)
  unfold wpOpIn at *
  simp only [hj] at *
  rw [wanted_put oj a oi.dst v h1, about_put oj w a oi.dst v h1] at h
  split
  · rename_i hw
    simp only [hw, if_true] at h
    unfold Oper.wpIn at *
    rw [about_put oj w a oi.dst v h1] at h
    refine ⟨h.1, ?_⟩
    have h := h.2
    rw [hro, Oper.semAt_none, execOp_put oj hsj a oi.dst v h1] at h
    rw [hro, Oper.semAt_none]
    generalize (execOp a.eval oj).run P w = r at *
    cases r with
    | ok x w' =>
      cases x <;> simp only [Oper.uponIn] at h ⊢
      case value u => exact ⟨keep a hy u, by rw [← Act.put_comm a v u h2]; exact h⟩
      case skip => exact ⟨keep a hy _, by rw [← Act.put_comm a v undef h2]; exact h⟩
      case defer d =>
        refine ⟨keep _ (keepD d) _, ?_⟩
        rw [← Act.put_comm _ v undef h2, ← Act.put_defers]
        exact h
      case enter f args =>
        refine ⟨h.1, CallsIn.mono h.2 fun e w'' he => ?_⟩
        cases e with
        | returned u => exact ⟨keep a hy u, by rw [← Act.put_comm a v u h2]; exact he⟩
        | panicked c => exact hQ _ _ _ he
        | outgrown => exact he
      case row row args => exact ⟨h.1, RowsIn.mono h.2 fun u w'' he => ⟨keep a hy u, by rw [← Act.put_comm a v u h2]; exact he⟩⟩
      case round l f tmps assign body =>
        refine ⟨h.1, RoundIn.mono h.2 fun e w'' he => ?_⟩
        cases e with
        | returned u => exact ⟨keep a hy u, by rw [← Act.put_comm a v u h2]; exact he⟩
        | panicked c => exact hQ _ _ _ he
        | outgrown => exact he
    | halt x w' =>
      cases x <;> simp only [Oper.uponIn] at h ⊢
      case panic u => exact hQ _ _ _ h
  · rename_i hw
    simp only [hw] at h
    exact ⟨h.1, keep a hy _, by rw [← Act.put_comm a v undef h2]; exact h.2⟩

theorem wpAnyS_first {i : Nat} {oi : Oper} {v : Value} (hro : F.round = none) (hi : ops[i]? = some oi) (hsel : ∀ (j : Nat) (o : Oper) cs b, ops[j]? = some o → o.op ≠ .select cs b)
    (hQ : ∀ c a w, Q (.panic c) (a.put oi.dst v) w → Q (.panic c) a w) {kw : Nat} (hwt : waitsB md ops i kw last = true) :
    ∀ (fuel : Nat) (listed : Array Bool) (a : Act) (w : World), closedB md ops listed → S w →
      (∀ j oj, ops[j]? = some oj → j ≠ i → listed.getD j true = false → (∀ e ∈ oj.after, Region.binds md e = true → e.on ≠ i) → oi.apart ops oj = true) →
      i ∈ Region.ready md ops listed → YieldsS P ops S oi v a →
      wpAnyS F n P md ops S last m Q fuel (listed.setIfInBounds i true) (a.put oi.dst v) w → wpAnyS F n P md ops S last m Q (fuel + 1) listed a w := by
  intro fuel
  induction fuel with
  | zero =>
    intro listed a w hcl hS _ hr hy H
    refine ⟨hS, fun h => (by rw [h] at hr; cases hr), fun j hj => ?_⟩
    by_cases hji : j = i
    · subst hji; exact hy.wpOpIn hro hi hS H
    · have hl := H.2.1 j (ready_mono hj hji)
      subst hl
      exact absurd hj (waits_not_ready hcl (getD_false_true (mem_ready.1 hr).1) hwt)
  | succ fuel ih =>
    intro listed a w hcl hS hfree hr hy H
    refine ⟨hS, fun h => (by rw [h] at hr; cases hr), fun j hj => ?_⟩
    by_cases hji : j = i
    · subst hji; exact hy.wpOpIn hro hi hS H
    · have h1 := H.2.2 j (ready_mono hj hji)
      obtain ⟨hjun, oj, hoj, hall⟩ := mem_ready.1 hj
      have hnot : ∀ e ∈ oj.after, Region.binds md e = true → e.on ≠ i := fun e he hb heq => by
        have h1 := hall e he hb
        have h0 := (mem_ready.1 hr).1
        rw [heq] at h1
        rcases Nat.lt_or_ge i listed.size with h' | h'
        · simp [h'] at h0 h1; rw [h0] at h1; cases h1
        · simp [Array.getElem?_eq_none h'] at h1
      have h2 := wpOpIn_putS hro hoj (hfree j oj hoj hji hjun hnot) (fun cs b => hsel i oi cs b hi) (fun cs b => hsel j oj cs b hoj) hQ hy h1
      have hfree' : ∀ k ok, ops[k]? = some ok → k ≠ i → (listed.setIfInBounds j true).getD k true = false →
          (∀ e ∈ ok.after, Region.binds md e = true → e.on ≠ i) → oi.apart ops ok = true := fun k ok hk hki hun hno => by
        refine hfree k ok hk hki ?_ hno
        by_cases hjk : j = k
        · subst hjk; exact hjun
        · rw [getD_set_ne true hjk] at hun; exact hun
      refine wpOpIn_mono (fun a' w' h3 => ?_) h2
      have hr' := ready_mono hr (Ne.symm hji)
      obtain ⟨hy', h4⟩ := h3
      rw [Array.setIfInBounds_comm _ _ (Ne.symm hji)] at h4
      cases fuel with
      | zero => exact ih (listed.setIfInBounds j true) a' w' (closed_set hcl hj) h4.1 hfree' hr' hy' h4
      | succ fuel => exact ih (listed.setIfInBounds j true) a' w' (closed_set hcl hj) h4.1 hfree' hr' hy' h4

theorem wpAnyS_take {i kw : Nat} {oi : Oper} {v : Value} {fuel : Nat} {listed : Array Bool} {a : Act} {w : World} (hro : F.round = none) (hi : ops[i]? = some oi)
    (hs : Region.noSelect ops = true) (hf : Region.free md ops listed i = true) (hr : (Region.ready md ops listed).contains i = true) (hwt : waitsB md ops i kw last = true)
    (hQ : ∀ c a w, Q (.panic c) (a.put oi.dst v) w → Q (.panic c) a w) (hcl : closedB md ops listed) (hS : S w) (hy : YieldsS P ops S oi v a)
    (h : closedB md ops (listed.setIfInBounds i true) → wpAnyS F n P md ops S last m Q fuel (listed.setIfInBounds i true) (a.put oi.dst v) w) : wpAnyS F n P md ops S last m Q (fuel + 1) listed a w :=
  wpAnyS_first hro hi (Region.noSelect_spec hs) hQ hwt fuel listed a w hcl hS (Region.free_spec hi hf) (by simpa using hr) hy (h (closed_set hcl (by simpa using hr)))
/-- One operation alone may come up. -/
theorem wpAnyS_one {i : Nat} {o : Oper} {fuel : Nat} {listed : Array Bool} {a : Act} {w : World} (hcl : closedB md ops listed) (hr : Region.ready md ops listed = [i]) (ho : ops[i]? = some o) (hS : S w)
    (h : ∀ K' : Act → World → Prop, (∀ a w, (closedB md ops (listed.setIfInBounds i true) → wpAnyS F n P md ops S last m Q fuel (listed.setIfInBounds i true) a w) → K' a w) →
      if Region.wanted o (yielded ops a.tmps) = true then Oper.wpIn F n P o a w K' Q else (∀ f, o.about P w a.eval = some f → F.fn f) ∧ K' (a.put o.dst undef) w) : wpAnyS F n P md ops S last m Q (fuel + 1) listed a w := by
  have hc : closedB md ops (listed.setIfInBounds i true) := closed_set hcl (by rw [hr]; exact List.mem_singleton.2 rfl)
  refine ⟨hS, by rw [hr]; simp, fun j hj => ?_⟩
  rw [hr] at hj
  obtain rfl := List.mem_singleton.1 hj
  exact wpOpIn_step ho (fun K' hK => h K' (fun a w q => hK a w (q hc)))
/-- The operation that the class does not outlive. -/
theorem wpAnyS_pivot {o : Oper} {listed : Array Bool} {a : Act} {w : World} (hr : Region.ready md ops listed = [last]) (ho : ops[last]? = some o) (hS : S w)
    (h : ∀ K' : Act → World → Prop, (∀ a w, wpAnyIn F n P md ops Q m (listed.setIfInBounds last true) a w → K' a w) →
      if Region.wanted o (yielded ops a.tmps) = true then Oper.wpIn F n P o a w K' Q else (∀ f, o.about P w a.eval = some f → F.fn f) ∧ K' (a.put o.dst undef) w) : wpAnyS F n P md ops S last m Q 0 listed a w := by
  refine ⟨hS, fun j hj => by rw [hr] at hj; exact List.mem_singleton.1 hj, by rw [hr]; simp, ?_⟩
  exact wpOpIn_step ho h
/-- The last operation. -/
theorem wpAnyS_last {o : Oper} {listed : Array Bool} {a : Act} {w : World} (hr : Region.ready md ops listed = [last]) (hr' : Region.ready md ops (listed.setIfInBounds last true) = []) (ho : ops[last]? = some o) (hS : S w)
    (h : ∀ K' : Act → World → Prop, (∀ a w, Q .normal a w → K' a w) →
      if Region.wanted o (yielded ops a.tmps) = true then Oper.wpIn F n P o a w K' Q else (∀ f, o.about P w a.eval = some f → F.fn f) ∧ K' (a.put o.dst undef) w) : wpAnyS F n P md ops S last 0 Q 0 listed a w :=
  wpAnyS_pivot hr ho hS (fun K' hK => h K' (fun a w q => hK a w ⟨hr', q⟩))
/-- The whole region. -/
theorem wpAnyIn_S {k : Nat} {a : Act} {w : World} (hk : ops.size = k + m + 1) (h : closedB md ops (Array.replicate ops.size false) → wpAnyS F n P md ops S last m Q k (Array.replicate ops.size false) a w) :
    wpAnyIn F n P md ops Q ops.size (Array.replicate ops.size false) a w := by
  have := wpAnyIn_of_S k _ a w (h (closed_start _))
  rw [hk] at this ⊢
  exact this
def noDeferB (ops : Array Oper) : Bool := ops.all fun o => match o.op with | .defer _ => false | _ => true
theorem noDefer_spec (h : noDeferB ops = true) : ∀ (j : Nat) (o : Oper), ops[j]? = some o → ∀ c, o.op ≠ .defer c := fun j o ho c e => by
  obtain ⟨hj, he⟩ := Array.getElem?_eq_some_iff.1 ho
  have := Array.all_eq_true.1 h j hj
  rw [he, e] at this
  cases this
end Go.Proofs.Ytlcimofhpphefaa
