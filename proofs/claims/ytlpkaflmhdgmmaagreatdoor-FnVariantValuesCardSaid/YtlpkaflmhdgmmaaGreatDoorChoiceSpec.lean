/-
  All choices of k elements of a list: the model's walk.
-/
import Derived.Test.YtlpkaflmhdgmmaaGreatDoorIter
import Derived.Test.YtlpkaflmhdgmmaaGreatDoorRows2
namespace Go.Proofs.YtlpkaflmhdgmmaaGreatDoor
open Go.RowKit
set_option linter.unusedVariables false

/-- The choices that begin with the element at j. -/
def chHead (k : Nat) (xs : List Int) (j : Nat) : List (List Int) := (ch k (xs.drop (j + 1))).map (fun t => xs.getD j 0 :: t)
def cntC (k : Nat) (xs : List Int) (i : Nat) : Nat := ((List.range i).flatMap (chHead k xs)).length
theorem ch_succ (k : Nat) (xs : List Int) : ch (k + 1) xs = (List.range (xs.length - k)).flatMap (chHead k xs) := rfl
theorem cntC_zero (k : Nat) (xs : List Int) : cntC k xs 0 = 0 := rfl
theorem heads_succ (k : Nat) (xs : List Int) (i : Nat) : (List.range (i + 1)).flatMap (chHead k xs) = (List.range i).flatMap (chHead k xs) ++ chHead k xs i := by
  rw [List.range_succ, List.flatMap_append, List.flatMap_cons, List.flatMap_nil, List.append_nil]
theorem cntC_succ (k : Nat) (xs : List Int) (i : Nat) : cntC k xs (i + 1) = cntC k xs i + (ch k (xs.drop (i + 1))).length := by
  unfold cntC
  rw [heads_succ, List.length_append]
  unfold chHead
  rw [List.length_map]
theorem cntC_end (k : Nat) (xs : List Int) : cntC k xs (xs.length - k) = (ch (k + 1) xs).length := rfl
theorem heads_split (k : Nat) (xs : List Int) (i : Nat) : ∀ m, i < m → ∃ tl, (List.range m).flatMap (chHead k xs) = (List.range i).flatMap (chHead k xs) ++ (chHead k xs i ++ tl) := by
  intro m
  induction m with
  | zero => intro h; omega
  | succ m ih =>
    intro h
    rw [heads_succ]
    by_cases e : i = m
    · subst e; exact ⟨[], by rw [List.append_nil]⟩
    · obtain ⟨tl, ht⟩ := ih (by omega)
      exact ⟨tl ++ chHead k xs m, by rw [ht]; simp only [List.append_assoc]⟩
theorem ch_row (k : Nat) (xs : List Int) (i j : Nat) (hi : i < xs.length - k) (hj : j < (ch k (xs.drop (i + 1))).length) : (ch (k + 1) xs).getD (cntC k xs i + j) [] = xs.getD i 0 :: (ch k (xs.drop (i + 1))).getD j [] := by
  obtain ⟨tl, ht⟩ := heads_split k xs i _ hi
  rw [ch_succ, ht]
  unfold cntC
  rw [List.getD_eq_getElem?_getD, List.getElem?_append_right (by omega), Nat.add_sub_cancel_left]
  have hl : j < (chHead k xs i).length := by unfold chHead; rw [List.length_map]; exact hj
  rw [List.getElem?_append_left hl]
  unfold chHead
  rw [List.getElem?_map, List.getElem?_eq_getElem hj, List.getD_eq_getElem?_getD (l := ch k (xs.drop (i + 1))), List.getElem?_eq_getElem hj]
  rfl
theorem cntC_le (k : Nat) (xs : List Int) (i : Nat) (hi : i < xs.length - k) : cntC k xs i + (ch k (xs.drop (i + 1))).length ≤ (ch (k + 1) xs).length := by
  obtain ⟨tl, ht⟩ := heads_split k xs i _ hi
  rw [ch_succ, ht]
  unfold cntC
  rw [List.length_append, List.length_append]
  unfold chHead
  rw [List.length_map]
  omega
def lenOk : Bool := (List.range 6).all fun k => (List.range 9).all fun n => decide ((ch k ((List.range n).map (fun i : Nat => (i : Int)))).length ≤ 70)
theorem len_ok : lenOk = true := by decide +kernel
theorem ch_le (k : Nat) (l : List Int) (hk : k ≤ 5) (hl : l.length ≤ 8) : (ch k l).length ≤ 70 := by
  have e : l = ((List.range l.length).map (fun i : Nat => (i : Int))).map (fun i : Int => l.getD i.toNat 0) := by
    rw [List.map_map]
    exact (range_get l).symm
  have h := len_ok
  unfold lenOk at h
  rw [List.all_eq_true] at h
  have h1 := h k (List.mem_range.2 (by omega))
  rw [List.all_eq_true] at h1
  have h2 := of_decide_eq_true (h1 l.length (List.mem_range.2 (by omega)))
  have e2 := ch_map (fun i : Int => l.getD i.toNat 0) k ((List.range l.length).map (fun i : Nat => (i : Int)))
  rw [← e] at e2
  rw [e2, List.length_map]
  exact h2
theorem ch_rowlen (k : Nat) (l : List Int) (j : Nat) (hj : j < (ch k l).length) : ((ch k l).getD j []).length = k := by
  have hm : (ch k l).getD j [] ∈ ch k l := by
    rw [List.getD_eq_getElem?_getD, List.getElem?_eq_getElem hj]; exact List.getElem_mem hj
  exact (ch_mem k l _ hm).2
/-- What a call leaves that returns all choices. -/
def ChFam (k : Nat) (xs : List Int) (w : World) (e : Ending) (w' : World) : Prop :=
  ∃ A c AA CC, e = .returned (.slice A (ch k xs).length c) ∧ Fam w' w.heap.size A (ch k xs).length (fun h => (ch k xs).getD h []) AA CC ∧ Below w.heap.size w w'
/-- A slice is hung to a row of slices, in a region that draws its order. -/
theorem step_hang {ops : Array Oper} {o : Oper} {a : Act} {w : World} {K' : Act → World → Prop} {Q : Exit → Act → World → Prop} {E : Prop} (hgd : o.guard = none) (s x : Operand)
    (ho : o.op = .call { callee := .builtin .append, args := #[s, x], argTypes := #[35, 35] })
    (lo : Nat) (v : Value) (K : Nat) (cells : List Value) (hs : a.eval s = v) (hown : w.ownsRow lo 26 1 v K cells) (ad : Addr) (c : Nat) (u : Value) (hx : a.eval x = .slice (some ad) 1 c) (hu : w.cell? ad = some u) (h1 : u.oneCell' = true) (hb : K ≤ 4000000) (hlo : lo ≤ w.heap.size)
    (h : ∀ v' w', w'.ownsRow lo 26 1 v' (K + 1) (cells ++ [u]) → w.grownBy w' v.ownBlock → (v'.ownBlock = v.ownBlock ∨ v'.ownBlock = some w.heap.size) → K' (a.put o.dst v') w') :
    if Region.wanted o (yielded ops a.tmps) = true then Oper.wp Tryz.prog o a w K' Q else E := by
  have hw : Region.wanted o (yielded ops a.tmps) = true := by simp [Region.wanted, hgd]
  rw [if_pos hw]
  obtain ⟨iS, hiS, hzS0, hzS1, hzS2⟩ := info_parts infoSlice
  obtain ⟨v', w', hr, h2, h3, _, h5⟩ := run_append_own_at (P := Tryz.prog) w lo 35 o.type 26 iS (.slice none 0 0) 1 24 Tryz.underlying35 hiS hzS0 hzS1 hzS2 rfl (by decide) v K cells hown ad 1 c [u] rfl
    (fun j q hj => by
      match j, hj with
      | 0, hj => simp at hj; subst hj; simpa [Addr.add] using hu)
    (fun q hq => by simp at hq; subst hq; exact h1) (by unfold maxLen; omega) (by omega) hlo
  unfold Oper.wp execOp
  simp only [ho, resolve, invoke, builtin, Sem.run_bind, Sem.run_pure, Result.andThen_ok, List.map_toArray, List.map_cons, List.map_nil, hs, hx, hr]
  exact h v' w' h2 h3 h5
theorem own_form2 {w : World} {lo K n : Nat} {AA : Nat → Option Addr} {CC : Nat → Nat} {v : Value} (h : w.ownsRow lo 26 1 v K (cellsS K AA CC n)) : ∃ A c, v = .slice A K c := by
  rcases h.2 with ⟨e, hn⟩ | ⟨g, cap, cur, e, _⟩
  · subst e; exact ⟨none, 0, by rw [hn]⟩
  · exact ⟨_, _, e⟩
theorem Hang.fam0 {w wr : World} {H n c : Nat} {R : Nat → List Int} {AA : Nat → Option Addr} {CC : Nat → Nat} {A : Option Addr} (h : Hang w H n R AA CC (.slice A H c) wr) : Fam wr w.heap.size A H R AA CC := by
  by_cases h0 : 0 < H
  · exact h.fam h0
  · obtain rfl : H = 0 := by omega
    refine ⟨fun hh => absurd hh h0, (fun _ hh => by omega), (fun a e => ?_), (fun _ hh => by omega), (fun _ hh => by omega)⟩
    rcases h.out.2 with ⟨e', hn⟩ | ⟨g, cap, cur, e', _⟩
    · injection e' with e1; rw [e1] at e; cases e
    · injection e' with e1
      rw [e1] at e
      obtain rfl := Option.some.inj e
      subst e1
      exact World.ownsRow.lt h.out g rfl
set_option maxRecDepth 100000 in
set_option maxHeartbeats 400000 in
theorem choices_zero (A : Option Addr) (c : Nat) (xs : List Int) (w : World) :
    Calls Tryz.prog 57 #[.slice A xs.length c, .int .i64 0] w (ChFam 0 xs w) := by
  go_enter Tryz.func57, Tryz.ntmps57
  go_wp2_with fail
  go_ret
  refine ⟨some ⟨w.heap.size + 1, 0, none⟩, 1, fun _ => some ⟨w.heap.size, 0, none⟩, fun _ => 0, rfl, ⟨fun _ => ⟨w.heap.size + 1, 0, rfl, by simp, fun h hh => ?_⟩, fun h hh => ⟨fun a e => ?_, fun hl => ?_⟩, fun a e => ?_, fun h hh a e b e' => ?_, fun h hh k hk hne => ?_⟩, bl_alloc (bl_alloc (bl_refl w) _) _⟩
  · obtain rfl : h = 0 := by have : h < 1 := hh; omega
    rw [Nat.zero_add]
    have := heap_alloc_new (w.alloc (.cells #[] 2)) (.cells #[.slice (some ⟨w.heap.size, 0, none⟩) 0 0] 26)
    rw [World.size_alloc] at this
    rw [cell_of_row _ _ _ _ _ _ this]
    rfl
  · obtain rfl := Option.some.inj e
    exact ⟨Nat.le_refl _, by simp; omega⟩
  · obtain rfl : h = 0 := by have : h < 1 := hh; omega
    exact absurd hl (by simp [ch])
  · obtain rfl := Option.some.inj e
    exact ⟨by simp, by simp⟩
  · obtain rfl := Option.some.inj e
    obtain rfl := Option.some.inj e'
    simp
  · have h1 : h < 1 := hh
    have h2 : k < 1 := hk
    omega
theorem own_one (w : World) (x : Int) : Own (w.alloc (.cells #[.int .i64 x] 2)) w.heap.size (.slice (some ⟨w.heap.size, 0, none⟩) 1 1) [x] :=
  ⟨by simp [ints], .inr ⟨w.heap.size, 1, #[.int .i64 x], rfl, Nat.le_refl _, heap_alloc_new w _, Nat.le_refl _, by unfold maxLen; omega, rfl, by simp [ints]⟩⟩
/-- What the inner loop keeps of the rest's choices. -/
def KeepRest (wq wr : World) (v0 v : Value) : Prop := wq.grownBy wr v0.ownBlock ∧ (v.ownBlock = v0.ownBlock ∨ ∀ b, v.ownBlock = some b → wq.heap.size ≤ b)
theorem keepRest_next {wq wr w3 w4 : World} {v0 v v' : Value} {o : Obj} (h : KeepRest wq wr v0 v) (hb : Below wr.heap.size wr w3) (hg : (w3.alloc o).grownBy w4 v.ownBlock) (hv : v'.ownBlock = v.ownBlock ∨ v'.ownBlock = some (w3.heap.size + 1)) : KeepRest wq w4 v0 v' := by
  have hb3 := bl_alloc hb o
  have hsz := h.1.size
  refine ⟨⟨hg.os.trans (hb3.os.trans h.1.os), hg.tape.trans (hb3.tape.trans h.1.tape), hg.output.trans (hb3.output.trans h.1.output), Nat.le_trans hsz (Nat.le_trans hb3.size hg.size), fun k hk hne => ?_⟩, ?_⟩
  · have hkr : k < wr.heap.size := by omega
    have hk3 := Nat.lt_of_lt_of_le hkr hb3.size
    refine (hg.block k hk3 (fun e => ?_)).trans ((hb3.block k hkr).trans (h.1.block k hk hne))
    rcases h.2 with h2 | h2
    · exact hne (e.trans h2)
    · have := h2 k e.symm; omega
  · rcases hv with hv | hv
    · rw [hv]; exact h.2
    · right
      intro b hb'
      rw [hv] at hb'
      injection hb' with hb'
      have := hb.size
      omega
theorem keepR_refl (w : World) (row : Option Nat) : w.grownBy w row := ⟨rfl, rfl, rfl, Nat.le_refl _, fun _ _ _ => rfl⟩
theorem fam_keep {w0 wo wq wr : World} {K n H : Nat} {R0 R : Nat → List Int} {AA0 AA : Nat → Option Addr} {CC0 CC : Nat → Nat} {v0 v : Value} {A : Option Addr} (h : Fam wq wo.heap.size A H R AA CC) (hs : Hang w0 K n R0 AA0 CC0 v0 wo) (hk : KeepRest wq wr v0 v) : Fam wr wo.heap.size A H R AA CC :=
  h.grown hk.1 (fun a e q => by
    have := (h.lo a e).1
    have := (World.ownsRow.lt hs.out _ q.symm).2
    omega) (fun j hj a e q => by
    have := ((h.row j hj).1 a e).1
    have := (World.ownsRow.lt hs.out _ q.symm).2
    omega)
set_option maxRecDepth 100000 in
set_option maxHeartbeats 4000000 in
theorem choices_succ (k : Nat) (hk : k < 5)
    (ih : ∀ (A : Option Addr) (c : Nat) (xs : List Int) (w : World), Rd w A xs → xs.length ≤ 8 → xs.length ≤ c → Calls Tryz.prog 57 #[.slice A xs.length c, .int .i64 k] w (ChFam k xs w))
    (A : Option Addr) (c : Nat) (xs : List Int) (w : World) (hr : Rd w A xs) (h8 : xs.length ≤ 8) (hcap : xs.length ≤ c) :
    Calls Tryz.prog 57 #[.slice A xs.length c, .int .i64 ((k : Int) + 1)] w (ChFam (k + 1) xs w) := by
  have HR := Lib.hid hr
  have IH := Lib.hid ih
  clear ih hr
  have h0k : ((k : Int) + 1 == 0) = false := by simp; omega
  have HH := Lib.hid (ch_le (k + 1) xs (by omega) h8)
  obtain ⟨w0, rfl⟩ : ∃ w0 : World, w0 = w := ⟨w, rfl⟩
  go_enter Tryz.func57, Tryz.ntmps57
  go_wp2_with fail
  go_loopw [5, 6] (fun v i wr => ∃ (m : Nat) (AA : Nat → Option Addr) (CC : Nat → Nat), m ≤ xs.length - k ∧ i = .int .i64 m ∧ Hid (Hang w0 (cntC k xs m) (k + 1) (fun h => (ch (k + 1) xs).getD h []) AA CC v wr)) (fun _ i _ => (xs.length - k) - (intOf i).toNat)
  case atStart => exact ⟨0, fun _ => none, fun _ => 0, Nat.zero_le _, rfl, Lib.hid (hang_start w0 _ _ _ _)⟩
  case round =>
    obtain ⟨m, AA, CC, hm, rfl, hs⟩ := hrel
    obtain ⟨wo, rfl⟩ : ∃ wo : World, wo = wr := ⟨_, rfl⟩
    by_cases hlt : m < xs.length - k
    · have hlt' : (m : Int) + ((k : Int) + 1) ≤ xs.length := by omega
      obtain ⟨b, off, rfl, hc⟩ := HR.out (by omega)
      have hsl := run_sliceFrom b off xs.length c (m + 1) (by omega)
      rw [show ((m + 1 : Nat) : Int) = (m : Int) + 1 by omega] at hsl
      have HW := Lib.hid (bl_trans (bl_refl w0) hs.out.below)
      have K1 := Lib.hid (IH.out (fromAt b off c (m + 1)) (c - (m + 1)) (xs.drop (m + 1)) wo (rd_from (HR.out.below hs.out.below) (.inl hcap)) (by rw [List.length_drop]; omega) (by rw [List.length_drop]; omega))
      rw [List.length_drop] at K1
      have e1 : (k : Int) + 1 - 1 = k := by omega
      go_wp2_with (go_at_call 57; refine K1.out.mono ?_; rintro e wq ⟨A', c', AA', CC', rfl, hF, hb⟩; have HF := Lib.hid hF; have HB := Lib.hid hb; clear hF hb)
      go_loopw [5, 8] (fun v i wr => ∃ (j : Nat) (AA : Nat → Option Addr) (CC : Nat → Nat), j ≤ (ch k (xs.drop (m + 1))).length ∧ i = .int .i64 j ∧ Hid (Hang w0 (cntC k xs m + j) (k + 1) (fun h => (ch (k + 1) xs).getD h []) AA CC v wr) ∧ Hid (KeepRest wq wr u5 v)) (fun _ i _ => (ch k (xs.drop (m + 1))).length - (intOf i).toNat)
      case atStart => exact ⟨0, AA, CC, Nat.zero_le _, rfl, Lib.hid (hs.out.next HB.out), Lib.hid ⟨keepR_refl _ _, .inl rfl⟩⟩
      case round =>
        obtain ⟨j, AA2, CC2, hj, rfl, hg, hk2⟩ := hrel
        by_cases hlt2 : j < (ch k (xs.drop (m + 1))).length
        · have hF := fam_keep HF.out hs.out hk2.out
          have ER := Lib.hid (ch_row k xs m j hlt hlt2)
          have hl := ch_rowlen k (xs.drop (m + 1)) j hlt2
          have RY := Lib.hid (hF.row j hlt2).rd
          obtain ⟨g2, off2, rfl, hc2⟩ := hF.at_ (bl_refl wr) j hlt2
          have hcx : wr.cell? ⟨b, off + m, none⟩ = some (.int .i64 (nth xs m)) := ((hg.out.below).cell (p := ⟨b, off + m, none⟩) (World.block_lt_of_cell? w0 _ (hc m (by omega)))).trans (hc m (by omega))
          have hc3 : (wr.alloc (.cells #[.int .i64 (nth xs m)] 2)).cell? ⟨g2, off2 + j, none⟩ = some (.slice (AA' j) ((ch k (xs.drop (m + 1))).getD j []).length (CC' j)) := ((bl_alloc (bl_refl wr) _).cell (p := ⟨g2, off2 + j, none⟩) (World.block_lt_of_cell? wr _ hc2)).trans hc2
          have hlt3 : (j : Int) < (ch k (xs.drop (m + 1))).length := by omega
          have hmx : (m : Int) < xs.length := by omega
          have HJ := Lib.hid hlt2
          have hM : (ch k (xs.drop (m + 1))).length ≤ 70 := by have := cntC_le k xs m hlt; have := HH.out; omega
          have BND := Lib.hid (cntC_le k xs m hlt)
          generalize (ch k (xs.drop (m + 1))).getD j [] = ys at *
          rw [hl] at hc2 hc3
          have HLY := Lib.hid hl
          have EX : Hid (xs.getD m 0 = nth xs m) := Lib.hid rfl
          generalize nth xs m = x at *
          generalize AA' j = ay at *
          generalize CC' j = cy at *
          clear hc hF hl
          go_wp2_with fail
          have HO1 := Lib.hid (Own.below (own_one wr x) (bl_drew (bl_refl _)))
          have HG1 : Hid ([x].length + ys.length ≤ 4000000) := Lib.hid (by rw [HLY.out]; simp; omega)
          have HG2 : Hid (wr.heap.size ≤ (wr.alloc (.cells #[.int .i64 x] 2)).drew.heap.size) := Lib.hid (by show wr.heap.size ≤ (wr.alloc _).heap.size; simp)
          have RY2 := Lib.hid (RY.out.below (bl_drew (bl_alloc (bl_refl wr) (.cells #[.int .i64 x] 2))))
          have HB1 := Lib.hid (bl_drew (bl_alloc (bl_refl wr) (.cells #[.int .i64 x] 2)))
          go_region_law (first
            | (refine step_glue rfl (.tmp 40) (.tmp 44) rfl wr.heap.size (.slice (some ⟨wr.heap.size, 0, none⟩) 1 1) [x] ys ay cy (by simp [Act.eval]) HO1.out (by rw [HLY.out]; simp [Act.eval]) RY2.out HG1.out HG2.out ?_
               intro A3 c3 ws3 w3 e3 ho3 hg3 _)
            | (have B3 := Lib.hid (bl_app HB1.out HO1.out (Nat.le_refl _) hg3)
               have HL3 : Hid (ws3.length = k + 1) := Lib.hid (by rw [e3.out]; simp [HLY.out])
               have HRK : Hid ((ch (k + 1) xs).getD (cntC k xs m + j) [] = ws3) := Lib.hid (by rw [ER.out, EX.out, e3.out]; rfl)
               have HX := Lib.hid ((hg.out.next B3.out).next (bl_alloc (bl_refl w3) (.cells #[.slice A3 ws3.length c3] 26)))
               have HCU : Hid ((w3.alloc (.cells #[.slice A3 ws3.length c3] 26)).cell? ⟨w3.heap.size, 0, none⟩ = some (.slice A3 ws3.length c3)) := Lib.hid (by simp [go_sem])
               refine step_hang rfl (.tmp 35) (.tmp 46) rfl w0.heap.size u5 (cntC k xs m + j) (cellsS (cntC k xs m + j) AA2 CC2 (k + 1)) (by simp [Act.eval]) HX.out.out ⟨w3.heap.size, 0, none⟩ 1 (.slice A3 ws3.length c3) (by simp [Act.eval]) HCU.out rfl (by have := BND.out; have := HH.out; omega) (by have := hg.out.below.size; have := B3.out.size; simp; omega) ?_
               intro v' w4 hown4 hg4 hv4))
          all_goals
            have HN : Hid (Hang w0 (cntC k xs m + j + 1) (k + 1) (fun h => (ch (k + 1) xs).getD h []) (updA AA2 (cntC k xs m + j) A3) (updC CC2 (cntC k xs m + j) c3) v' w4) := Lib.hid (hang_add hg.out B3.out (by show Own w3 wr.heap.size (.slice A3 ((ch (k + 1) xs).getD (cntC k xs m + j) []).length c3) ((ch (k + 1) xs).getD (cntC k xs m + j) []); rw [HRK.out]; exact ho3) (by show ((ch (k + 1) xs).getD (cntC k xs m + j) []).length = k + 1; rw [HRK.out]; exact HL3.out) (by rw [← HL3.out] at hown4 ⊢; exact hown4) hg4 (by simpa using hv4))
            have HK := Lib.hid (keepRest_next hk2.out B3.out hg4 (by simpa using hv4))
            clear hown4 hg4 hv4 ho3 hg3
            go_wp2_with fail
            go_roundw
            case rel => exact ⟨j + 1, _, _, by have := HJ.out; omega, by go_num, HN, HK⟩
            case measure => have := HJ.out; simp [intOf]; omega
        · obtain rfl : j = (ch k (xs.drop (m + 1))).length := by omega
          have HN : Hid (Hang w0 (cntC k xs (m + 1)) (k + 1) (fun h => (ch (k + 1) xs).getD h []) AA2 CC2 u5 wr) := Lib.hid (by rw [cntC_succ]; exact hg.out)
          go_wp2_with fail
          go_roundw
          case rel => exact ⟨m + 1, _, _, by omega, by go_num, HN⟩
          case measure => simp [intOf]; omega
    · obtain rfl : m = xs.length - k := by omega
      have hlt' : (xs.length : Int) < ((xs.length - k : Nat) : Int) + ((k : Int) + 1) := by omega
      have hz := hs.out
      rw [cntC_end] at hz
      obtain ⟨A', c', rfl⟩ := own_form2 hz.out
      have HF := Lib.hid hz.fam0
      have HBL := Lib.hid hz.below
      clear hz hs
      go_wp2_with fail
      go_ret
      exact ⟨A', c', AA, CC, rfl, HF.out, HBL.out⟩
theorem choices_all : ∀ (k : Nat), k ≤ 5 → ∀ (A : Option Addr) (c : Nat) (xs : List Int) (w : World), Rd w A xs → xs.length ≤ 8 → xs.length ≤ c → Calls Tryz.prog 57 #[.slice A xs.length c, .int .i64 k] w (ChFam k xs w)
  | 0, _, A, c, xs, w, _, _, _ => choices_zero A c xs w
  | k + 1, hk, A, c, xs, w, hr, h8, hc => choices_succ k (by omega) (choices_all k (by omega)) A c xs w hr h8 hc
end Go.Proofs.YtlpkaflmhdgmmaaGreatDoor
