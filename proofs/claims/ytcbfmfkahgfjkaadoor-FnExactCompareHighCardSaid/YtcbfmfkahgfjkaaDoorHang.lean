/-
  Slices are hung to a row of slices.
-/
import Derived.Test.YtcbfmfkahgfjkaaDoorFam
import Derived.Test.YtcbfmfkahgfjkaaDoorNewRows
namespace Go.Proofs.YtcbfmfkahgfjkaaDoor
open Go.RowKit
set_option linter.unusedVariables false

theorem infoSlice : (Tryd.prog.info? 22).map (fun i => (i.zero, i.size, i.bytes)) = some (some (.slice none 0 0), 1, 24) := by kernel_rfl
def updA (AA : Nat → Option Addr) (k : Nat) (a : Option Addr) : Nat → Option Addr := fun h => if h = k then a else AA h
/-- A slice is hung to a row of slices. -/
theorem wpList_hang {ops : Array Oper} {rest : List Oper} {o : Oper} {a : Act} {w : World} {Q : Exit → Act → World → Prop} (s x : Operand) (hgd : o.guard = none)
    (ho : o.op = .call { callee := .builtin .append, args := #[s, x], argTypes := #[78, 78] })
    (lo : Nat) (v : Value) (K : Nat) (cells : List Value) (hs : a.eval s = v) (hown : w.ownsRow lo 22 1 v K cells) (ad : Addr) (c : Nat) (u : Value) (hx : a.eval x = .slice (some ad) 1 c) (hu : w.cell? ad = some u) (h1 : u.oneCell' = true) (hb : K ≤ 4000000) (hlo : lo ≤ w.heap.size)
    (h : ∀ v' w', w'.ownsRow lo 22 1 v' (K + 1) (cells ++ [u]) → w.grownBy w' v.ownBlock → (v'.ownBlock = v.ownBlock ∨ v'.ownBlock = some w.heap.size) → wpList Tryd.prog ops Q rest (a.put o.dst v') w') : wpList Tryd.prog ops Q (o :: rest) a w :=
  wpList_plain hgd fun K' hK => by
    obtain ⟨iS, hiS, hzS0, hzS1, hzS2⟩ := info_parts infoSlice
    obtain ⟨v', w', hr, h2, h3, _, h5⟩ := run_append_own_at (P := Tryd.prog) w lo 78 o.type 22 iS (.slice none 0 0) 1 24 Tryd.underlying78 hiS hzS0 hzS1 hzS2 rfl (by decide) v K cells hown ad 1 c [u] rfl
      (fun j q hj => by
        match j, hj with
        | 0, hj => simp at hj; subst hj; simpa [Addr.add] using hu)
      (fun q hq => by simp at hq; subst hq; exact h1) (by unfold maxLen; omega) (by omega) hlo
    unfold Oper.wp execOp
    simp only [ho, resolve, invoke, builtin, Sem.run_bind, Sem.run_pure, Result.andThen_ok, List.map_toArray, List.map_cons, List.map_nil, hs, hx, hr]
    exact hK _ _ (h v' w' h2 h3 h5)
/-- The slices of the first K rows. -/
def cellsS (K : Nat) (AA : Nat → Option Addr) (CC : Nat → Nat) (n : Nat) : List Value := (List.range K).map (fun h => .slice (AA h) n (CC h))
def updC (CC : Nat → Nat) (k c : Nat) : Nat → Nat := fun h => if h = k then c else CC h
theorem cellsS_snoc (K : Nat) (AA : Nat → Option Addr) (CC : Nat → Nat) (n : Nat) (a : Option Addr) (c : Nat) : cellsS K AA CC n ++ [.slice a n c] = cellsS (K + 1) (updA AA K a) (updC CC K c) n := by
  unfold cellsS
  rw [List.range_succ, List.map_append]
  congr 1
  · apply List.map_congr_left
    intro h hh
    have : ¬ h = K := by have := List.mem_range.1 hh; omega
    simp [updA, updC, this]
  · simp [updA, updC]
theorem cellsS_get (K : Nat) (AA : Nat → Option Addr) (CC : Nat → Nat) (n h : Nat) (hh : h < K) : (cellsS K AA CC n)[h]? = some (.slice (AA h) n (CC h)) := by simp [cellsS, hh]
/-- What the model's dealing loop keeps. -/
structure Hang (w : World) (K n : Nat) (R : Nat → List Int) (AA : Nat → Option Addr) (CC : Nat → Nat) (v : Value) (wr : World) : Prop where
  out : wr.ownsRow w.heap.size 22 1 v K (cellsS K AA CC n)
  row : ∀ h, h < K → Row wr w.heap.size (AA h) (R h)
  len : ∀ h, h < K → (R h).length = n
  off : ∀ h, h < K → ∀ a, AA h = some a → some a.block ≠ v.ownBlock
  apart : ∀ h, h < K → ∀ k, k < K → h ≠ k → ∀ a, AA h = some a → ∀ b, AA k = some b → a.block ≠ b.block
  below : Below w.heap.size w wr
theorem Hang.next {w wr w' : World} {K n : Nat} {R : Nat → List Int} {AA : Nat → Option Addr} {CC : Nat → Nat} {v : Value} (h : Hang w K n R AA CC v wr) (hb : Below wr.heap.size wr w') : Hang w K n R AA CC v w' :=
  ⟨World.ownsRow.kept h.out ⟨hb.os, hb.tape, hb.output, hb.size, fun k hk _ => hb.block k hk⟩ (row := none) (by
    rcases hv : v.ownBlock with _ | k
    · exact .inl rfl
    · exact .inr (by simp)), fun j hj => (h.row j hj).below hb, h.len, h.off, h.apart, bl_trans h.below hb⟩
theorem hang_start (w : World) (n : Nat) (R : Nat → List Int) (AA : Nat → Option Addr) (CC : Nat → Nat) : Hang w 0 n R AA CC (.slice (some ⟨w.heap.size, 0, none⟩) 0 0) (w.alloc (.cells #[] 22)) :=
  ⟨World.ownsRow_made w #[] 0 (Nat.le_refl _) (by unfold maxLen; omega) rfl, (fun _ h => by omega), (fun _ h => by omega), (fun _ h => by omega), (fun _ h => by omega), bl_alloc (bl_refl _) _⟩
/-- A finished hand is hung to the others: wr: the world as the hand was begun; w3: as it was finished. -/
theorem hang_add {w wr w3 w4 : World} {K n c : Nat} {R : Nat → List Int} {AA : Nat → Option Addr} {CC : Nat → Nat} {v v' : Value} {A : Option Addr} {o : Obj} (h : Hang w K n R AA CC v wr) (hb : Below wr.heap.size wr w3) (ho : Own w3 wr.heap.size (.slice A (R K).length c) (R K)) (hl : (R K).length = n)
    (hown : w4.ownsRow w.heap.size 22 1 v' (K + 1) (cellsS K AA CC n ++ [.slice A n c])) (hg : (w3.alloc o).grownBy w4 v.ownBlock) (hv : v'.ownBlock = v.ownBlock ∨ v'.ownBlock = some (w3.heap.size + 1)) :
    Hang w (K + 1) n R (updA AA K A) (updC CC K c) v' w4 := by
  have h3 := (h.next hb).next (bl_alloc (bl_refl w3) o)
  have hlo : ∀ j, v.ownBlock = some j → w.heap.size ≤ j ∧ j < wr.heap.size := fun j hj => World.ownsRow.lt h.out j hj
  have hold : ∀ j, j < K → ∀ a, AA j = some a → a.block < wr.heap.size := fun j hj a e => ((h.row j hj).1 a e).2
  have hnew : ∀ a, A = some a → wr.heap.size ≤ a.block ∧ a.block < w3.heap.size := fun a e => ho.lo_le a e
  have hrow := ((Row.of_own ho).less (lo' := w.heap.size) h.below.size).below (bl_alloc (bl_refl w3) o)
  refine ⟨by rw [← cellsS_snoc]; exact hown, fun j hj => ?_, fun j hj => ?_, fun j hj a e => ?_, fun i hi j hj hne a e b e' => ?_, ?_⟩
  · by_cases q : j = K
    · subst q
      have := hrow.grown hg (fun a ha q => by
        have := hnew a ha
        have := hlo _ q.symm
        omega)
      simpa [updA] using this
    · have := (h3.row j (by omega)).grown hg (fun a ha => h.off j (by omega) a ha)
      simpa [updA, q] using this
  · by_cases q : j = K
    · subst q; exact hl
    · exact h.len j (by omega)
  · intro q
    by_cases p : j = K
    · subst p
      simp [updA] at e
      have := hnew a e
      rcases hv with hv | hv
      · rw [hv] at q
        have := hlo _ q.symm
        omega
      · rw [hv] at q; injection q with q; omega
    · simp [updA, p] at e
      have := hold j (by omega) a e
      rcases hv with hv | hv
      · rw [hv] at q; exact h.off j (by omega) a e q
      · rw [hv] at q; injection q with q
        have := hb.size
        omega
  · by_cases p : i = K
    · subst p
      simp [updA] at e
      have p2 : ¬ j = i := fun q => hne q.symm
      simp [updA, p2] at e'
      have := hnew a e
      have := hold j (by omega) b e'
      omega
    · simp [updA, p] at e
      by_cases p2 : j = K
      · subst p2
        simp [updA] at e'
        have := hnew b e'
        have := hold i (by omega) a e
        omega
      · simp [updA, p2] at e'
        exact h.apart i (by omega) j (by omega) hne a e b e'
  · exact (bl_alloc (bl_trans h.below hb) o).grown hg (by have := h.below.size; have := hb.size; simp; omega) (fun j hj => (hlo j hj).1)
theorem Hang.fam {w wr : World} {H n c : Nat} {R : Nat → List Int} {AA : Nat → Option Addr} {CC : Nat → Nat} {A : Option Addr} (h : Hang w H n R AA CC (.slice A H c) wr) (h0 : 0 < H) : Fam wr w.heap.size A H R AA CC := by
  rcases h.out.2 with ⟨_, hn⟩ | ⟨g, cap, cur, hv, _⟩
  · omega
  · injection hv with hA _ hc
    subst hA hc
    have hlt := World.ownsRow.lt h.out g rfl
    refine ⟨fun _ => ⟨g, 0, rfl, hlt.2, fun k hk => ?_⟩, h.row, fun a e => ?_, fun k hk a e b e' => ?_, h.apart⟩
    · rw [Nat.zero_add, World.ownsRow.cellAt h.out k (by omega), cellsS_get _ _ _ _ _ hk, h.len k hk]
    · obtain rfl := Option.some.inj e; exact hlt
    · obtain rfl := Option.some.inj e'
      intro q
      exact h.off k hk a e (by simp [Value.ownBlock, q])

end Go.Proofs.YtcbfmfkahgfjkaaDoor
