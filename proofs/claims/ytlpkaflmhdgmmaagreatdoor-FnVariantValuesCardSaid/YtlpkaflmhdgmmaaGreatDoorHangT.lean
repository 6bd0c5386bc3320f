/-
  Rows of hands that an iterator leaves: what lies in blocks of other types than the iterator's own.
-/
import Derived.Test.YtlpkaflmhdgmmaaGreatDoorHandsIter
import Derived.Test.YtlpkaflmhdgmmaaGreatDoorChoiceSpec
namespace Go.Proofs.YtlpkaflmhdgmmaaGreatDoor
open Go.RowKit
set_option linter.unusedVariables false

/-- A block of cells of a type that the iterator does not keep. -/
def TyOk (W : World) (g : Nat) : Prop := ∃ (cs : Array Value) (t : TypeId) (fr : Nat × Nat), W.heap[g]? = some (Obj.cells cs t fr) ∧ kHands t = false
theorem TyOk.itw {n0 : Nat} {A B : World} {g : Nat} (h : TyOk A g) (hb : ItW kHands n0 A B) : TyOk B g ∧ B.heap[g]? = A.heap[g]? := by
  obtain ⟨cs, t, fr, hg, ht⟩ := h
  have := hb.2 g cs t fr hg ht
  exact ⟨⟨cs, t, fr, this, ht⟩, this.trans hg.symm⟩
theorem TyOk.below {A B : World} {g : Nat} (h : TyOk A g) (hb : Below A.heap.size A B) : TyOk B g := by
  obtain ⟨cs, t, fr, hg, ht⟩ := h
  exact ⟨cs, t, fr, (hb.block g (Array.getElem?_eq_some_iff.1 hg).1).trans hg, ht⟩
theorem TyOk.grown {A B : World} {g : Nat} {row : Option Nat} (h : TyOk A g) (hb : A.grownBy B row) (hne : some g ≠ row) : TyOk B g := by
  obtain ⟨cs, t, fr, hg, ht⟩ := h
  exact ⟨cs, t, fr, (hb.block g (Array.getElem?_eq_some_iff.1 hg).1 hne).trans hg, ht⟩
theorem TyOk.row {W : World} {lo n : Nat} {v : Value} {cs : List Value} (h : W.ownsRow lo 26 1 v n cs) : ∀ g, v.ownBlock = some g → TyOk W g := by
  intro g hg
  rcases h.2 with ⟨rfl, _⟩ | ⟨g', cap, cur, rfl, hb, hh, _⟩
  · cases hg
  · obtain rfl := Option.some.inj hg
    exact ⟨cur, _, _, hh, by kernel_rfl⟩
/-- Hands that hang in a row, none of them in the iterator's blocks. -/
def HangT (w : World) (K : Nat) (R : Nat → List Int) (AA : Nat → Option Addr) (CC : Nat → Nat) (v : Value) (wr : World) : Prop :=
  Hang w K 5 R AA CC v wr ∧ ∀ h, h < K → ∀ a, AA h = some a → TyOk wr a.block
theorem HangT.itw {w A B : World} {K n0 : Nat} {R : Nat → List Int} {AA : Nat → Option Addr} {CC : Nat → Nat} {v : Value} (h : HangT w K R AA CC v A) (hb : ItW kHands n0 A B) (hn : w.heap.size ≤ n0) : HangT w K R AA CC v B := by
  obtain ⟨h1, h2⟩ := h
  have hs := hb.1.size
  refine ⟨⟨?_, fun j hj => ⟨fun a e => ⟨((h1.row j hj).1 a e).1, Nat.lt_of_lt_of_le ((h1.row j hj).1 a e).2 hs⟩, fun h0 => ?_⟩, h1.len, h1.off, h1.apart, h1.below.trans (hb.1.mono hn)⟩, fun j hj a e => ((h2 j hj a e).itw hb).1⟩
  · refine ⟨h1.out.1, ?_⟩
    rcases h1.out.2 with hl | ⟨g, cap, cur, e, hg, hh, hr⟩
    · exact .inl hl
    · exact .inr ⟨g, cap, cur, e, hg, hb.2 g cur _ _ hh (by kernel_rfl), hr⟩
  · obtain ⟨g, off, e, hc⟩ := (h1.row j hj).2 h0
    have hbk := ((h2 j hj _ e).itw hb).2
    exact ⟨g, off, e, fun i hi => ⟨(World.cell?_of_block (a := ⟨g, off + i, none⟩) hbk).trans (hc i hi).1, (World.frozen?_of_block (a := ⟨g, off + i, none⟩) hbk).trans (hc i hi).2⟩⟩
theorem HangT.next {w A B : World} {K : Nat} {R : Nat → List Int} {AA : Nat → Option Addr} {CC : Nat → Nat} {v : Value} (h : HangT w K R AA CC v A) (hb : Below A.heap.size A B) : HangT w K R AA CC v B :=
  ⟨h.1.next hb, fun j hj a e => (h.2 j hj a e).below hb⟩
/-- A block that is no part of the hands changes. -/
theorem HangT.other {w A B : World} {K g : Nat} {R : Nat → List Int} {AA : Nat → Option Addr} {CC : Nat → Nat} {v : Value} (h : HangT w K R AA CC v A) (hg : A.grownBy B (some g)) (hv : v.ownBlock ≠ some g) (ha : ∀ j, j < K → ∀ a, AA j = some a → a.block ≠ g) (hl : w.heap.size ≤ g) (hA : w.heap.size ≤ A.heap.size) : HangT w K R AA CC v B :=
  ⟨⟨World.ownsRow.kept h.1.out hg (by
      rcases hq : v.ownBlock with _ | k
      · exact .inl rfl
      · exact .inr (fun e => hv (by rw [hq]; exact e))), fun j hj => (h.1.row j hj).grown hg (fun a e q => ha j hj a e (Option.some.inj q)), h.1.len, h.1.off, h.1.apart, h.1.below.grown hg hA (fun j e => by cases e; exact hl)⟩,
    fun j hj a e => (h.2 j hj a e).grown hg (fun q => ha j hj a e (Option.some.inj q))⟩
/-- A hand is hung to the others: it lies in a new block of whatever type. -/
theorem hang_addR {w wr w3 w4 : World} {K n c : Nat} {R : Nat → List Int} {AA : Nat → Option Addr} {CC : Nat → Nat} {v v' : Value} {A : Option Addr} {o : Obj} (h : Hang w K n R AA CC v wr) (hb : Below wr.heap.size wr w3) (ho : Row w3 wr.heap.size A (R K)) (hl : (R K).length = n)
    (hown : w4.ownsRow w.heap.size 26 1 v' (K + 1) (cellsS K AA CC n ++ [.slice A n c])) (hg : (w3.alloc o).grownBy w4 v.ownBlock) (hv : v'.ownBlock = v.ownBlock ∨ v'.ownBlock = some (w3.heap.size + 1)) :
    Hang w (K + 1) n R (updA AA K A) (updC CC K c) v' w4 := by
  have h3 := (h.next hb).next (bl_alloc (bl_refl w3) o)
  have hlo : ∀ j, v.ownBlock = some j → w.heap.size ≤ j ∧ j < wr.heap.size := fun j hj => World.ownsRow.lt h.out j hj
  have hold : ∀ j, j < K → ∀ a, AA j = some a → a.block < wr.heap.size := fun j hj a e => ((h.row j hj).1 a e).2
  have hnew : ∀ a, A = some a → wr.heap.size ≤ a.block ∧ a.block < w3.heap.size := fun a e => ho.1 a e
  have hrow := (ho.less (lo' := w.heap.size) h.below.size).below (bl_alloc (bl_refl w3) o)
  refine ⟨by rw [← cellsS_snoc]; exact hown, fun j hj => ?_, fun j hj => ?_, fun j hj a e => ?_, fun i hi j hj hne a e b e' => ?_, ?_⟩
  · by_cases q : j = K
    · subst q
      have := hrow.grown hg (fun a ha q => by
        have := hnew a ha
        have := hlo _ q.symm
        omega)
      simpa [updA] using this
    · have := (h3.row j (by omega)).grown hg (fun a ha => h.off j (by omega) a ha)
      simpa [updA, q] using this
  · by_cases q : j = K
    · subst q; exact hl
    · exact h.len j (by omega)
  · intro q
    by_cases p : j = K
    · subst p
      simp [updA] at e
      have := hnew a e
      rcases hv with hv | hv
      · rw [hv] at q
        have := hlo _ q.symm
        omega
      · rw [hv] at q; injection q with q; omega
    · simp [updA, p] at e
      have := hold j (by omega) a e
      rcases hv with hv | hv
      · rw [hv] at q; exact h.off j (by omega) a e q
      · rw [hv] at q; injection q with q
        have := hb.size
        omega
  · by_cases p : i = K
    · subst p
      simp [updA] at e
      have p2 : ¬ j = i := fun q => hne q.symm
      simp [updA, p2] at e'
      have := hnew a e
      have := hold j (by omega) b e'
      omega
    · simp [updA, p] at e
      by_cases p2 : j = K
      · subst p2
        simp [updA] at e'
        have := hnew b e'
        have := hold i (by omega) a e
        omega
      · simp [updA, p2] at e'
        exact h.apart i (by omega) j (by omega) hne a e b e'
  · exact (bl_alloc (bl_trans h.below hb) o).grown hg (by have := h.below.size; have := hb.size; simp; omega) (fun j hj => (hlo j hj).1)
theorem con_row {K : TypeId → Bool} {A B : World} {row : Option Nat} (hg : A.grownBy B row) (h : ∀ g, row = some g → ∃ (cs : Array Value) (t : TypeId) (fr : Nat × Nat), A.heap[g]? = some (Obj.cells cs t fr) ∧ K t = false) : Con K A B :=
  ⟨hg.size, fun i o hi ho => by
    by_cases e : some i = row
    · obtain ⟨cs, t, fr, hc, ht⟩ := h i e.symm
      rw [hc] at hi; cases hi; rw [show K t = true from ho] at ht; cases ht
    · exact (hg.block i (Array.getElem?_eq_some_iff.1 hi).1 e).trans hi⟩
set_option maxRecDepth 100000 in
theorem step_hangIn {F : Fence} {n : Nat} {ops : Array Oper} {o : Oper} {a : Act} {w : World} {K' : Act → World → Prop} {Q : Exit → Act → World → Prop} {E : Prop} (hF : ∀ f, F.fn f) (hro : F.round = none) (hgd : o.guard = none) (s x : Operand)
    (ho : o.op = .call { callee := .builtin .append, args := #[s, x], argTypes := #[35, 35] })
    (lo : Nat) (v : Value) (K : Nat) (cells : List Value) (hs : a.eval s = v) (hown : w.ownsRow lo 26 1 v K cells) (ad : Addr) (c : Nat) (u : Value) (hx : a.eval x = .slice (some ad) 1 c) (hu : w.cell? ad = some u) (h1 : u.oneCell' = true) (hb : K ≤ 4000000) (hlo : lo ≤ w.heap.size)
    (h : ∀ v' w', w'.ownsRow lo 26 1 v' (K + 1) (cells ++ [u]) → w.grownBy w' v.ownBlock → (v'.ownBlock = v.ownBlock ∨ v'.ownBlock = some w.heap.size) → K' (a.put o.dst v') w') :
    if Region.wanted o (yielded ops a.tmps) = true then Oper.wpIn F n Tryz.prog o a w K' Q else E := by
  have hw : Region.wanted o (yielded ops a.tmps) = true := by simp [Region.wanted, hgd]
  rw [if_pos hw]
  obtain ⟨iS, hiS, hzS0, hzS1, hzS2⟩ := info_parts infoSlice
  obtain ⟨v', w', hr, h2, h3, _, h5⟩ := run_append_own_at (P := Tryz.prog) w lo 35 o.type 26 iS (.slice none 0 0) 1 24 Tryz.underlying35 hiS hzS0 hzS1 hzS2 rfl (by decide) v K cells hown ad 1 c [u] rfl
    (fun j q hj => by
      match j, hj with
      | 0, hj => simp at hj; subst hj; simpa [Addr.add] using hu)
    (fun q hq => by simp at hq; subst hq; exact h1) (by unfold maxLen; omega) (by omega) hlo
  unfold Oper.wpIn
  refine ⟨fun f _ => hF f, ?_⟩
  rw [hro, Oper.semAt_none]
  unfold execOp
  simp only [ho, resolve, invoke, builtin, Sem.run_bind, Sem.run_pure, Result.andThen_ok, List.map_toArray, List.map_cons, List.map_nil, hs, hx, hr]
  exact h v' w' h2 h3 h5
set_option maxRecDepth 100000 in
set_option maxHeartbeats 400000 in
/-- The program's copy of five cards as a slice. -/
theorem fiveList_any (k0 k1 k2 k3 k4 : Int) (w : World) :
    Calls Tryz.prog 30 #[.agg #[.int .i64 k0, .int .i64 k1, .int .i64 k2, .int .i64 k3, .int .i64 k4]] w (fun e w' => e = .returned (.slice (some ⟨w.heap.size, 0, none⟩) 5 5) ∧ w' = w.alloc (.cells #[.int .i64 k0, .int .i64 k1, .int .i64 k2, .int .i64 k3, .int .i64 k4] 58)) := by
  go_enter Tryz.func30, Tryz.ntmps30
  go_wp2_with fail
  go_ret
  exact ⟨rfl, rfl⟩
end Go.Proofs.YtlpkaflmhdgmmaaGreatDoor
