/-
  The draw of a table.
-/
import Derived.Test.YtimdgaclmejjhaaDrawTab
import Derived.Test.YtimdgaclmejjhaaGlue
import Derived.Test.YtimdgaclmejjhaaAnyL
namespace Go.Proofs.Ytimdgaclmejjhaa
open Go.RowKit
set_option linter.unusedVariables false

/-- What holds while a table is drawn: the box of the table, the result's, the source. -/
structure TabS (w0 : World) (s : Nat) (a : Option Addr) (L c : Nat) (zs : Nat → Int) (gb : Nat) (A : Option Addr) (k : Nat) (xs : List Int) (b p g t l : Int) (W : World) : Prop where
  own : Own W (w0.heap.size + 1) (.slice A xs.length k) xs
  src : Src W s a L c zs
  only : Only s w0 W
  box : Blk W gb 26 [.slice A xs.length k, .int .i64 b, .int .i64 p, .int .i64 g, .int .i64 t, .int .i64 l]
  res : Blk W w0.heap.size 26 [.slice none 0 0, .int .i64 0, .int .i64 0, .int .i64 0, .int .i64 0, .int .i64 0]
theorem own_setC {w : World} {lo g k : Nat} {xs : List Int} (h : Own w lo (.slice (some ⟨g, 0, none⟩) xs.length k) xs) (i : Nat) (u : Int) :
    Own (w.setCell ⟨g, i, none⟩ (.int .i64 u)) lo (.slice (some ⟨g, 0, none⟩) (xs.set i u).length k) (xs.set i u) ∧ w.grownBy (w.setCell ⟨g, i, none⟩ (.int .i64 u)) (some g) := by
  have h1 := World.ownsRow.stored h i (.int .i64 u)
  rw [ints_set] at h1
  unfold Own
  rw [List.length_set]
  exact h1
theorem own_atC {w : World} {lo g k : Nat} {xs : List Int} (h : Own w lo (.slice (some ⟨g, 0, none⟩) xs.length k) xs) (i : Nat) (hi : i < xs.length) :
    w.cell? ⟨g, i, none⟩ = some (.int .i64 (nth xs i)) ∧ w.frozen? ⟨g, i, none⟩ = false :=
  ⟨by rw [World.ownsRow.cellAt h i (by omega), ints_get _ _ hi], World.ownsRow.frozenAt h i⟩
theorem pickB_row (ys : List Int) (n q : Nat) (W : World) (s : Nat) (a : Option Addr) (L c : Nat) (zs : Nat → Int) (hB : Blk W q 2 (ints ys)) (h : Src W s a L c zs) (hN : ys.length = n) (h1 : 1 < n) (h2 : n ≤ 100) (hne : q ≠ s) (lo hi : Int) (hb : ∀ y ∈ ys, lo ≤ y ∧ y ≤ hi) :
    Calls Try.prog 16 #[.pointer (some ⟨s, 0, none⟩), .slice (some ⟨q, 0, none⟩) n n] W (Drew lo hi W s a L c zs) :=
  pick_any s q n (nth ys) lo hi a L c zs _ (by omega) (by omega) (fun i hi => (hB.int i (by omega)).1) (fun i hi => hb _ (nth_mem ys i (by omega))) hne h
theorem rd_blk {W : World} {q : Nat} {ys : List Int} (hB : Blk W q 2 (ints ys)) : Rd W (some ⟨q, 0, none⟩) ys := fun _ => ⟨q, 0, rfl, fun i hi => by rw [Nat.zero_add]; exact (hB.int i hi).1⟩
theorem wp_glueT {o : Oper} {a : Act} {w : World} {K : Act → World → Prop} {Q : Exit → Act → World → Prop} (s x : Operand)
    (ho : o.op = .call { callee := .builtin .append, args := #[s, x], argTypes := #[24, 24] })
    (lo : Nat) (v : Value) (xs ys : List Int) (A : Option Addr) (c : Nat) (hs : a.eval s = v) (hown : Own w lo v xs) (hx : a.eval x = .slice A ys.length c) (hsrc : Rd w A ys) (hb : xs.length + ys.length ≤ 4000000) (hlo : lo ≤ w.heap.size)
    (h : ∀ A' c' ws w', ws = xs ++ ys → Own w' lo (.slice A' ws.length c') ws → w.grownBy w' v.ownBlock → K (a.put o.dst (.slice A' ws.length c')) w') : o.wp Try.prog a w K Q := by
  obtain ⟨v', w', hr, h4, h3, _⟩ := run_glue w o.type lo v xs ys A c hown hsrc hb hlo
  obtain ⟨A', c', rfl, h5⟩ := own_form h4
  unfold Oper.wp execOp
  simp only [ho, resolve, invoke, builtin, Sem.run_bind, Sem.run_pure, Result.andThen_ok, List.map_toArray, List.map_cons, List.map_nil, hs, hx, hr]
  exact h A' c' _ w' rfl h5 h3
theorem TabS.drew {w0 W W' : World} {s : Nat} {a : Option Addr} {L c : Nat} {zs : Nat → Int} {gb : Nat} {A : Option Addr} {k : Nat} {xs : List Int} {b p g t l : Int} (h : TabS w0 s a L c zs gb A k xs b p g t l W) (hs : s < w0.heap.size) (hgb : w0.heap.size < gb) (hsrc : Src W' s a L c zs) (ho : Only s W W') : TabS w0 s a L c zs gb A k xs b p g t l W' :=
  ⟨own_only h.own ho (by omega), hsrc, only_trans h.only ho, blk_only h.box ho (by omega), blk_only h.res ho (by omega)⟩
theorem TabS.next {w0 W W' : World} {s : Nat} {a : Option Addr} {L c : Nat} {zs : Nat → Int} {gb : Nat} {A : Option Addr} {k : Nat} {xs : List Int} {b p g t l : Int} (h : TabS w0 s a L c zs gb A k xs b p g t l W) (hb : Below W.heap.size W W') : TabS w0 s a L c zs gb A k xs b p g t l W' :=
  ⟨h.own.below hb, h.src.below hb, only_trans h.only (only_below hb), h.box.below hb, h.res.below hb⟩
/-- A block of the call's own that is no row has been written. -/
theorem own_keptT {W W' : World} {lo g : Nat} {v : Value} {ys : List Int} {vs : List Value} {t : TypeId} (ho : Own W lo v ys) (hb : Blk W g t vs) (ht : t ≠ 2) (hg : W.grownBy W' (some g)) : Own W' lo v ys :=
  World.ownsRow.kept ho hg (by
    rcases hq : v.ownBlock with _ | j
    · exact .inl rfl
    · exact .inr (fun e => own_ne_blkT ho hb ht (by rw [hq, e])))
theorem src_boxT {w0 W W' : World} {s g : Nat} {a : Option Addr} {L c : Nat} {zs : Nat → Int} (h : Src W s a L c zs) (hs : s < w0.heap.size) (hB : CodeB w0.heap.size a L) (hg : W.grownBy W' (some g)) (hl : w0.heap.size ≤ g) : Src W' s a L c zs :=
  src_grown (B := w0.heap.size) h hg (fun j e => by injection e with e; omega) hs hB
theorem only_boxT {w0 W W' : World} {s g : Nat} (h : Only s w0 W) (hg : W.grownBy W' (some g)) (hl : w0.heap.size ≤ g) : Only s w0 W' :=
  only_grown h hg (fun j e => by injection e with e; omega)
/-- Two operations may come up. -/
theorem wpAnyR_twoT {P : Program} {ops : Array Oper} {md : Region.Mode} {Q : Exit → Act → World → Prop} {R : World → World → Prop} {I : World → Prop} {last : Nat} {i j : Nat} {o p : Oper} {fuel : Nat} {listed : Array Bool} {a : Act} {w : World} (hcl : closedB md ops listed) (hr : Region.ready md ops listed = [i, j]) (ho : ops.toList[i]? = some o) (hp : ops.toList[j]? = some p)
    (hwi : Region.wanted o (yielded ops a.tmps) = true) (hwj : Region.wanted p (yielded ops a.tmps) = true) (hI : ∀ w', R w w' → I w')
    (h : ∀ w', R w w' → ∀ K' : Act → World → Prop, (∀ a w, (closedB md ops (listed.setIfInBounds i true) → wpAnyR P md ops R I last Q fuel (listed.setIfInBounds i true) a w) → K' a w) → Oper.wp P o a w' K' Q)
    (h2 : ∀ w', R w w' → ∀ K' : Act → World → Prop, (∀ a w, (closedB md ops (listed.setIfInBounds j true) → wpAnyR P md ops R I last Q fuel (listed.setIfInBounds j true) a w) → K' a w) → Oper.wp P p a w' K' Q) : wpAnyR P md ops R I last Q (fuel + 1) listed a w := by
  have hci : closedB md ops (listed.setIfInBounds i true) := closed_set hcl (by rw [hr]; exact List.mem_cons_self ..)
  have hcj : closedB md ops (listed.setIfInBounds j true) := closed_set hcl (by rw [hr]; exact List.mem_cons_of_mem _ (List.mem_singleton.2 rfl))
  rw [Array.getElem?_toList] at ho hp
  intro w' hw
  refine ⟨hI w' hw, by rw [hr]; simp, fun k hk => ?_⟩
  rw [hr] at hk
  rcases List.mem_cons.1 hk with rfl | hk
  · unfold wpOp
    simp only [ho, hwi, if_true]
    exact .inl (h w' hw _ (fun a w q => q hci))
  · obtain rfl := List.mem_singleton.1 hk
    unfold wpOp
    simp only [hp, hwj, if_true]
    exact .inl (h2 w' hw _ (fun a w q => q hcj))
set_option maxRecDepth 100000 in
set_option maxHeartbeats 4000000 in
theorem drawT_any (s : Nat) (a : Option Addr) (L c : Nat) (zs : Nat → Int) (w : World) (h : Src w s a L c zs) :
    Calls Try.prog 15 #[.pointer (some ⟨s, 0, none⟩)] w (TabD 11 w.heap.size w s a L c zs) := by
  have HS := src_lt h
  have HB := Lib.hid (codeB_of h)
  have uT := Try.underlying26
  have iT : (Try.prog.info? 26).map (·.size) = some 6 := by kernel_rfl
  have i1 : (Try.prog.info? 2).map (·.size) = some 1 := by kernel_rfl
  have hmx : Try.prog.follows .mixedOrders = true := by kernel_rfl
  obtain ⟨w0, rfl⟩ : ∃ w0 : World, w0 = w := ⟨w, rfl⟩
  obtain ⟨W1, e1⟩ : ∃ W1, W1 = w0.alloc (.cells (([.slice none 0 0, .int .i64 0, .int .i64 0, .int .i64 0, .int .i64 0, .int .i64 0] : List Value)).toArray 26) := ⟨_, rfl⟩
  have N1 : Hid (Blk W1 w0.heap.size 26 [.slice none 0 0, .int .i64 0, .int .i64 0, .int .i64 0, .int .i64 0, .int .i64 0]) := Lib.hid (by rw [e1]; exact blk_new w0 _ _)
  have S1 : Hid (Src W1 s a L c zs) := Lib.hid (by rw [e1]; exact src_alloc h _)
  have Y1 : Hid (Only s w0 W1) := Lib.hid (by rw [e1]; exact only_alloc (only_refl _ _) _)
  have z1 : W1.heap.size = w0.heap.size + 1 := by rw [e1]; exact World.size_alloc _ _
  clear h
  subst e1
  go_enter Try.func15, Try.ntmps15
  go_wp2_with (go_at_call 33; refine (validT_any _ _ _ _ _ _ S1.out).mono ?_; rintro e w2 ⟨A1, k1, xs, b, p, g, t, l, rfl, hx2, hx11, hg0, hg1, ho, hs2, ho2⟩; rw [World.size_alloc] at ho; have TB : Hid (TabS w0 s a L c zs w2.heap.size A1 k1 xs b p g t l (w2.alloc (.cells ([.slice A1 xs.length k1, .int .i64 b, .int .i64 p, .int .i64 g, .int .i64 t, .int .i64 l] : List Value).toArray 26))) := Lib.hid ⟨ho.below (bl_alloc (bl_refl _) _), src_alloc hs2 _, only_alloc (only_trans Y1.out ho2) _, blk_new w2 _ _, (blk_only N1.out ho2 (by omega)).below (bl_alloc (bl_refl _) _)⟩; have hgb : w0.heap.size < w2.heap.size := (by have := ho2.size; rw [World.size_alloc] at this; omega); clear ho hs2 ho2 N1 Y1 S1)
  go_wp2_with (first
    | (go_at_call 17; ((with_reducible refine (next_any _ 30 _ _ _ _ _ (by omega) (by omega) TB.out.src).mono ?_); rintro e w3 ⟨x, rfl, x0, x1, hs3, ho3⟩; have T3 := Lib.hid (TB.out.drew HS hgb hs3 ho3); clear hs3 ho3 TB; obtain ⟨q0, _⟩ := T3.out.box.cell 0 _ rfl; obtain ⟨q1, _⟩ := T3.out.box.cell 1 _ rfl; obtain ⟨q2, _⟩ := T3.out.box.cell 2 _ rfl; obtain ⟨q3, _⟩ := T3.out.box.cell 3 _ rfl; obtain ⟨q4, _⟩ := T3.out.box.cell 4 _ rfl; obtain ⟨q5, _⟩ := T3.out.box.cell 5 _ rfl))
    | (refine wpList_store_blk 26 6 rfl (.tmp 2) (.tmp 64) rfl iT w0.heap.size rfl [.slice A1 xs.length k1, .int .i64 b, .int .i64 p, .int .i64 g, .int .i64 t, .int .i64 l] rfl rfl (by simp [Value.oneCell']) _ T3.out.res rfl ?_; intro w9 k9 g9; have HO9 := Lib.hid (own_keptT T3.out.own T3.out.res (by decide) g9); have HS9 := Lib.hid (src_boxT T3.out.src HS HB.out g9 (Nat.le_refl _)); have HY9 := Lib.hid (only_boxT T3.out.only g9 (Nat.le_refl _)); have K9 := Lib.hid k9; clear k9 g9))
  · obtain ⟨gA, rfl, hA1, hA2, hA3, _⟩ := own_some T3.out.own (by omega)
    have hx0 : (0 : Int) < xs.length := by omega
    clear q0 q1 q2 q3 q4 q5
    refine wp_region_R (R := fun a b => Below a.heap.size a b) (I := fun W' => Only s w3 W') (last := 6) (k := 6) (fun _ => bl_refl _) hmx rfl (fun HC0 => ?_)
    refine wpAnyR_takeL (i := 0) (kw := 4) (v := .pointer (some ⟨w2.heap.size, 0, none⟩)) (fun _ => bl_refl _) (fun p q => bl_trans p q) rfl rfl (by kernel_rfl) (by kernel_rfl) (by kernel_rfl) (by kernel_rfl) (fun _ _ _ h => h) HC0 (Or.inl ⟨by kernel_rfl, fun W' hI => ?_⟩) (fun HC1 => ?_)
    · exact .inl (by go_simp)
    refine wpAnyR_takeL (i := 1) (kw := 4) (v := .slice (some ⟨gA, 0, none⟩) xs.length k1) (fun _ => bl_refl _) (fun p q => bl_trans p q) rfl rfl (by kernel_rfl) (by kernel_rfl) (by kernel_rfl) (by kernel_rfl) (fun _ _ _ h => h) HC1 (Or.inl ⟨by kernel_rfl, fun W' hI => ?_⟩) (fun HC2 => ?_)
    · have hv := blk_only T3.out.box hI (by omega)
      obtain ⟨q0, _⟩ := hv.cell 0 _ rfl
      exact .inl (by go_simp)
    refine wpAnyR_takeL (i := 2) (kw := 4) (v := .pointer (some ⟨s, 0, none⟩)) (fun _ => bl_refl _) (fun p q => bl_trans p q) rfl rfl (by kernel_rfl) (by kernel_rfl) (by kernel_rfl) (by kernel_rfl) (fun _ _ _ h => h) HC2 (Or.inl ⟨by kernel_rfl, fun W' hI => ?_⟩) (fun HC3 => ?_)
    · exact .inl (by go_simp)
    refine wpAnyR_oneL HC3 (i := 3) (by kernel_rfl) rfl (by kernel_rfl) (fun w5 hr5 => ⟨only_below (bl_drewT hr5), ?_⟩)
    intro K hK
    go_simp
    refine hK _ _ ?_
    clear hK K
    intro HC5
    have T5 := Lib.hid (T3.out.next (bl_drewT hr5))
    have T6 := Lib.hid (T5.out.next (bl_alloc (bl_refl w5) (.cells #[.int .i64 0, .int .i64 100000, .int .i64 100001] 2)))
    have NB := Lib.hid (blk_new w5 2 (ints [0, 100000, 100001]))
    have OY := Lib.hid (only_below (s := s) (bl_trans (bl_drewT hr5) (bl_alloc (bl_refl w5) (.cells #[.int .i64 0, .int .i64 100000, .int .i64 100001] 2))))
    refine wpAnyR_oneL HC5 (i := 4) (by kernel_rfl) rfl (by kernel_rfl) (fun w7 hr7 => ⟨only_trans OY.out (only_below hr7), ?_⟩)
    intro K hK
    have T7 := Lib.hid (T6.out.next hr7)
    have KP := Lib.hid (pickB_row [0, 100000, 100001] 3 w5.heap.size w7 s a L c zs (NB.out.below hr7) T7.out.src rfl (by omega) (by omega) (by have := src_lt T5.out.src; omega) 0 100001 (by intro y hy; simp at hy; omega))
    have OY7 := Lib.hid (only_trans OY.out (only_below hr7))
    go_simp
    go_wp2_with (go_at_call 16; refine (KP.out).mono ?_; rintro e w8 ⟨z, rfl, z0, z1, hs4, ho4⟩; have T8 := Lib.hid (T7.out.drew HS hgb hs4 ho4); have OY8 := Lib.hid (only_trans OY7.out ho4); clear hs4 ho4)
    intro HC6
    refine wpAnyR_takeL (i := 5) (kw := 6) (v := .pointer (some ⟨gA, 0, none⟩)) (fun _ => bl_refl _) (fun p q => bl_trans p q) rfl rfl (by kernel_rfl) (by kernel_rfl) (by kernel_rfl) (by kernel_rfl) (fun _ _ _ h => h) HC6 (Or.inl ⟨by kernel_rfl, fun W' hI => ?_⟩) (fun HC7 => ?_)
    · exact .inl (by go_simp; intro e; exact absurd hx0 (by rw [e]; simp))
    refine wpAnyR_lastL (by kernel_rfl) (by kernel_rfl) rfl (by kernel_rfl) (fun w9 hr9 => ⟨only_trans OY8.out (only_below hr9), ?_⟩)
    intro K hK
    have T9 := Lib.hid (T8.out.next hr9)
    have cf := own_atC T9.out.own 0 (by omega)
    have c9 := cf.1
    have f9 := cf.2
    have S := own_setC T9.out.own 0 z
    have hneB := own_ne_blkT T9.out.own T9.out.box (by decide)
    have hneR := own_ne_blkT T9.out.own T9.out.res (by decide)
    go_simp
    refine hK _ _ ?_
    clear hK K hr9 hr7 hr5 c9 f9 cf
    obtain ⟨w4, e4⟩ : ∃ w4, w4 = w9.setCell ⟨gA, 0, none⟩ (.int .i64 z) := ⟨_, rfl⟩
    rw [← e4] at S ⊢
    obtain ⟨us, eu⟩ : ∃ us, us = xs.set 0 z := ⟨_, rfl⟩
    have hul : us.length = xs.length := by rw [eu]; exact List.length_set ..
    rw [← eu] at S
    have TE : Hid (TabS w0 s a L c zs w2.heap.size (some ⟨gA, 0, none⟩) k1 us b p g t l w4) := Lib.hid ⟨S.1, src_grown (B := w0.heap.size) T9.out.src S.2 (fun j e => by injection e with e; omega) HS HB.out, only_grown T9.out.only S.2 (fun j e => by injection e with e; omega), by rw [hul]; exact T9.out.box.grown S.2 hneB, T9.out.res.grown S.2 hneR⟩
    have HUL := Lib.hid hul
    clear S e4 eu hneB hneR T9 T8 T7 T6 T5 KP hul
    have BX : Hid (Blk w4 w2.heap.size 26 [.slice (some ⟨gA, 0, none⟩) xs.length k1, .int .i64 b, .int .i64 p, .int .i64 g, .int .i64 t, .int .i64 l]) := Lib.hid (by have h := TE.out.box; rw [HUL.out] at h; exact h)
    go_wp2_with (first
      | (with_reducible refine wpList_load_blk 26 _ 6 rfl (.tmp 3) rfl uT rfl iT w2.heap.size 0 rfl [.slice (some ⟨gA, 0, none⟩) xs.length k1, .int .i64 b, .int .i64 p, .int .i64 g, .int .i64 t, .int .i64 l] rfl BX.out.range ?_)
      | (refine wpList_store_blk 26 6 rfl (.tmp 2) (.tmp 64) rfl iT w0.heap.size rfl [.slice (some ⟨gA, 0, none⟩) xs.length k1, .int .i64 b, .int .i64 p, .int .i64 g, .int .i64 t, .int .i64 l] rfl rfl (by simp [Value.oneCell']) _ TE.out.res rfl ?_; intro w9 k9 g9; have HO9 := Lib.hid (own_keptT TE.out.own TE.out.res (by decide) g9); have HS9 := Lib.hid (src_boxT TE.out.src HS HB.out g9 (Nat.le_refl _)); have HY9 := Lib.hid (only_boxT TE.out.only g9 (Nat.le_refl _)); have K9 := Lib.hid k9; clear k9 g9))
    obtain ⟨z0', _⟩ := K9.out.cell 0 _ rfl
    obtain ⟨z1', _⟩ := K9.out.cell 1 _ rfl
    obtain ⟨z2', _⟩ := K9.out.cell 2 _ rfl
    obtain ⟨z3', _⟩ := K9.out.cell 3 _ rfl
    obtain ⟨z4', _⟩ := K9.out.cell 4 _ rfl
    obtain ⟨z5', _⟩ := K9.out.cell 5 _ rfl
    exact bodyPost_ret (v := .agg #[.slice (some ⟨gA, 0, none⟩) xs.length k1, .int .i64 b, .int .i64 p, .int .i64 g, .int .i64 t, .int .i64 l]) (by simp [results, Try.results15, go_sem, z0', z1', z2', z3', z4', z5']) rfl ⟨(some ⟨gA, 0, none⟩), k1, us, b, p, g, t, l, by rw [HUL.out], by (have := HUL.out; omega), by (have := HUL.out; omega), by omega, by omega, HO9.out.less (Nat.le_succ _), HS9.out, HY9.out⟩
  · have KP := Lib.hid (pickT_row [-1, (xs.length : Int)] 2 w3 s a L c zs T3.out.src rfl (by omega) (by omega) (-1) 11 (by intro y hy; simp at hy; omega))
    simp only [List.map_cons, List.map_nil] at KP
    clear q0 q1 q2 q3 q4 q5
    go_wp2_with (first
      | (go_at_call 16; refine (KP.out).mono ?_; rintro e w4 ⟨z, rfl, z0, z1, hs4, ho4⟩; have T4 := Lib.hid ((T3.out.next (bl_alloc (bl_refl w3) _)).drew HS hgb hs4 ho4); clear hs4 ho4)
      | ((with_reducible refine wpList_store_at 2 rfl (.tmp 24) (.tmp 23) rfl i1 w2.heap.size 1 rfl (.int .i64 z) rfl rfl _ _ T4.out.box ?_ ?_); (exact (by simp)); intro w5 k5 g5; have TE : Hid (TabS w0 s a L c zs w2.heap.size A1 k1 xs z  p  g  t  l w5) := Lib.hid ⟨own_keptT T4.out.own T4.out.box (by decide) g5, src_boxT T4.out.src HS HB.out g5 (Nat.le_of_lt hgb), only_boxT T4.out.only g5 (Nat.le_of_lt hgb), k5, T4.out.res.grown g5 (fun e => by injection e with e; omega)⟩; clear k5 g5)
      | (with_reducible refine wpList_load_blk 26 _ 6 rfl (.tmp 3) rfl uT rfl iT w2.heap.size 0 rfl [.slice A1 xs.length k1, .int .i64 z, .int .i64 p, .int .i64 g, .int .i64 t, .int .i64 l] rfl TE.out.box.range ?_)
      | (refine wpList_store_blk 26 6 rfl (.tmp 2) (.tmp 64) rfl iT w0.heap.size rfl [.slice A1 xs.length k1, .int .i64 z, .int .i64 p, .int .i64 g, .int .i64 t, .int .i64 l] rfl rfl (by simp [Value.oneCell']) _ TE.out.res rfl ?_; intro w9 k9 g9; have HO9 := Lib.hid (own_keptT TE.out.own TE.out.res (by decide) g9); have HS9 := Lib.hid (src_boxT TE.out.src HS HB.out g9 (Nat.le_refl _)); have HY9 := Lib.hid (only_boxT TE.out.only g9 (Nat.le_refl _)); have K9 := Lib.hid k9; clear k9 g9))
    obtain ⟨z0', _⟩ := K9.out.cell 0 _ rfl
    obtain ⟨z1', _⟩ := K9.out.cell 1 _ rfl
    obtain ⟨z2', _⟩ := K9.out.cell 2 _ rfl
    obtain ⟨z3', _⟩ := K9.out.cell 3 _ rfl
    obtain ⟨z4', _⟩ := K9.out.cell 4 _ rfl
    obtain ⟨z5', _⟩ := K9.out.cell 5 _ rfl
    exact bodyPost_ret (v := .agg #[.slice A1 xs.length k1, .int .i64 z, .int .i64 p, .int .i64 g, .int .i64 t, .int .i64 l]) (by simp [results, Try.results15, go_sem, z0', z1', z2', z3', z4', z5']) rfl ⟨A1, k1, xs, z, p, g, t, l, rfl, by omega, by omega, by omega, by omega, HO9.out.less (Nat.le_succ _), HS9.out, HY9.out⟩
  · have KP := Lib.hid (pickT_row [-1, g, g + 1] 3 w3 s a L c zs T3.out.src rfl (by omega) (by omega) (-1) 200001 (by intro y hy; simp at hy; omega))
    simp only [List.map_cons, List.map_nil] at KP
    clear q0 q1 q2 q3 q4 q5
    go_wp2_with (first
      | (go_at_call 16; refine (KP.out).mono ?_; rintro e w4 ⟨z, rfl, z0, z1, hs4, ho4⟩; have T4 := Lib.hid ((T3.out.next (bl_alloc (bl_refl w3) _)).drew HS hgb hs4 ho4); clear hs4 ho4)
      | ((with_reducible refine wpList_store_at 2 rfl (.tmp 35) (.tmp 34) rfl i1 w2.heap.size 2 rfl (.int .i64 z) rfl rfl _ _ T4.out.box ?_ ?_); (exact (by simp)); intro w5 k5 g5; have TE : Hid (TabS w0 s a L c zs w2.heap.size A1 k1 xs b  z  g  t  l w5) := Lib.hid ⟨own_keptT T4.out.own T4.out.box (by decide) g5, src_boxT T4.out.src HS HB.out g5 (Nat.le_of_lt hgb), only_boxT T4.out.only g5 (Nat.le_of_lt hgb), k5, T4.out.res.grown g5 (fun e => by injection e with e; omega)⟩; clear k5 g5)
      | (with_reducible refine wpList_load_blk 26 _ 6 rfl (.tmp 3) rfl uT rfl iT w2.heap.size 0 rfl [.slice A1 xs.length k1, .int .i64 b, .int .i64 z, .int .i64 g, .int .i64 t, .int .i64 l] rfl TE.out.box.range ?_)
      | (refine wpList_store_blk 26 6 rfl (.tmp 2) (.tmp 64) rfl iT w0.heap.size rfl [.slice A1 xs.length k1, .int .i64 b, .int .i64 z, .int .i64 g, .int .i64 t, .int .i64 l] rfl rfl (by simp [Value.oneCell']) _ TE.out.res rfl ?_; intro w9 k9 g9; have HO9 := Lib.hid (own_keptT TE.out.own TE.out.res (by decide) g9); have HS9 := Lib.hid (src_boxT TE.out.src HS HB.out g9 (Nat.le_refl _)); have HY9 := Lib.hid (only_boxT TE.out.only g9 (Nat.le_refl _)); have K9 := Lib.hid k9; clear k9 g9))
    obtain ⟨z0', _⟩ := K9.out.cell 0 _ rfl
    obtain ⟨z1', _⟩ := K9.out.cell 1 _ rfl
    obtain ⟨z2', _⟩ := K9.out.cell 2 _ rfl
    obtain ⟨z3', _⟩ := K9.out.cell 3 _ rfl
    obtain ⟨z4', _⟩ := K9.out.cell 4 _ rfl
    obtain ⟨z5', _⟩ := K9.out.cell 5 _ rfl
    exact bodyPost_ret (v := .agg #[.slice A1 xs.length k1, .int .i64 b, .int .i64 z, .int .i64 g, .int .i64 t, .int .i64 l]) (by simp [results, Try.results15, go_sem, z0', z1', z2', z3', z4', z5']) rfl ⟨A1, k1, xs, b, z, g, t, l, rfl, by omega, by omega, by omega, by omega, HO9.out.less (Nat.le_succ _), HS9.out, HY9.out⟩
  · have KP := Lib.hid (pickT_row [0, 100000, 100001] 3 w3 s a L c zs T3.out.src rfl (by omega) (by omega) (0) 100001 (by intro y hy; simp at hy; omega))
    simp only [List.map_cons, List.map_nil] at KP
    clear q0 q1 q2 q3 q4 q5
    go_wp2_with (first
      | (go_at_call 16; refine (KP.out).mono ?_; rintro e w4 ⟨z, rfl, z0, z1, hs4, ho4⟩; have T4 := Lib.hid ((T3.out.next (bl_alloc (bl_refl w3) _)).drew HS hgb hs4 ho4); clear hs4 ho4)
      | ((with_reducible refine wpList_store_at 2 rfl (.tmp 41) (.tmp 40) rfl i1 w2.heap.size 3 rfl (.int .i64 z) rfl rfl _ _ T4.out.box ?_ ?_); (exact (by simp)); intro w5 k5 g5; have TE : Hid (TabS w0 s a L c zs w2.heap.size A1 k1 xs b  p  z  t  l w5) := Lib.hid ⟨own_keptT T4.out.own T4.out.box (by decide) g5, src_boxT T4.out.src HS HB.out g5 (Nat.le_of_lt hgb), only_boxT T4.out.only g5 (Nat.le_of_lt hgb), k5, T4.out.res.grown g5 (fun e => by injection e with e; omega)⟩; clear k5 g5)
      | (with_reducible refine wpList_load_blk 26 _ 6 rfl (.tmp 3) rfl uT rfl iT w2.heap.size 0 rfl [.slice A1 xs.length k1, .int .i64 b, .int .i64 p, .int .i64 z, .int .i64 t, .int .i64 l] rfl TE.out.box.range ?_)
      | (refine wpList_store_blk 26 6 rfl (.tmp 2) (.tmp 64) rfl iT w0.heap.size rfl [.slice A1 xs.length k1, .int .i64 b, .int .i64 p, .int .i64 z, .int .i64 t, .int .i64 l] rfl rfl (by simp [Value.oneCell']) _ TE.out.res rfl ?_; intro w9 k9 g9; have HO9 := Lib.hid (own_keptT TE.out.own TE.out.res (by decide) g9); have HS9 := Lib.hid (src_boxT TE.out.src HS HB.out g9 (Nat.le_refl _)); have HY9 := Lib.hid (only_boxT TE.out.only g9 (Nat.le_refl _)); have K9 := Lib.hid k9; clear k9 g9))
    obtain ⟨z0', _⟩ := K9.out.cell 0 _ rfl
    obtain ⟨z1', _⟩ := K9.out.cell 1 _ rfl
    obtain ⟨z2', _⟩ := K9.out.cell 2 _ rfl
    obtain ⟨z3', _⟩ := K9.out.cell 3 _ rfl
    obtain ⟨z4', _⟩ := K9.out.cell 4 _ rfl
    obtain ⟨z5', _⟩ := K9.out.cell 5 _ rfl
    exact bodyPost_ret (v := .agg #[.slice A1 xs.length k1, .int .i64 b, .int .i64 p, .int .i64 z, .int .i64 t, .int .i64 l]) (by simp [results, Try.results15, go_sem, z0', z1', z2', z3', z4', z5']) rfl ⟨A1, k1, xs, b, p, z, t, l, rfl, by omega, by omega, by omega, by omega, HO9.out.less (Nat.le_succ _), HS9.out, HY9.out⟩
  · have KP := Lib.hid (pickT_row [-1, 100000, 100001] 3 w3 s a L c zs T3.out.src rfl (by omega) (by omega) (-1) 100001 (by intro y hy; simp at hy; omega))
    simp only [List.map_cons, List.map_nil] at KP
    clear q0 q1 q2 q3 q4 q5
    go_wp2_with (first
      | (go_at_call 16; refine (KP.out).mono ?_; rintro e w4 ⟨z, rfl, z0, z1, hs4, ho4⟩; have T4 := Lib.hid ((T3.out.next (bl_alloc (bl_refl w3) _)).drew HS hgb hs4 ho4); clear hs4 ho4)
      | ((with_reducible refine wpList_store_at 2 rfl (.tmp 47) (.tmp 46) rfl i1 w2.heap.size 4 rfl (.int .i64 z) rfl rfl _ _ T4.out.box ?_ ?_); (exact (by simp)); intro w5 k5 g5; have TE : Hid (TabS w0 s a L c zs w2.heap.size A1 k1 xs b  p  g  z  l w5) := Lib.hid ⟨own_keptT T4.out.own T4.out.box (by decide) g5, src_boxT T4.out.src HS HB.out g5 (Nat.le_of_lt hgb), only_boxT T4.out.only g5 (Nat.le_of_lt hgb), k5, T4.out.res.grown g5 (fun e => by injection e with e; omega)⟩; clear k5 g5)
      | (with_reducible refine wpList_load_blk 26 _ 6 rfl (.tmp 3) rfl uT rfl iT w2.heap.size 0 rfl [.slice A1 xs.length k1, .int .i64 b, .int .i64 p, .int .i64 g, .int .i64 z, .int .i64 l] rfl TE.out.box.range ?_)
      | (refine wpList_store_blk 26 6 rfl (.tmp 2) (.tmp 64) rfl iT w0.heap.size rfl [.slice A1 xs.length k1, .int .i64 b, .int .i64 p, .int .i64 g, .int .i64 z, .int .i64 l] rfl rfl (by simp [Value.oneCell']) _ TE.out.res rfl ?_; intro w9 k9 g9; have HO9 := Lib.hid (own_keptT TE.out.own TE.out.res (by decide) g9); have HS9 := Lib.hid (src_boxT TE.out.src HS HB.out g9 (Nat.le_refl _)); have HY9 := Lib.hid (only_boxT TE.out.only g9 (Nat.le_refl _)); have K9 := Lib.hid k9; clear k9 g9))
    obtain ⟨z0', _⟩ := K9.out.cell 0 _ rfl
    obtain ⟨z1', _⟩ := K9.out.cell 1 _ rfl
    obtain ⟨z2', _⟩ := K9.out.cell 2 _ rfl
    obtain ⟨z3', _⟩ := K9.out.cell 3 _ rfl
    obtain ⟨z4', _⟩ := K9.out.cell 4 _ rfl
    obtain ⟨z5', _⟩ := K9.out.cell 5 _ rfl
    exact bodyPost_ret (v := .agg #[.slice A1 xs.length k1, .int .i64 b, .int .i64 p, .int .i64 g, .int .i64 z, .int .i64 l]) (by simp [results, Try.results15, go_sem, z0', z1', z2', z3', z4', z5']) rfl ⟨A1, k1, xs, b, p, g, z, l, rfl, by omega, by omega, by omega, by omega, HO9.out.less (Nat.le_succ _), HS9.out, HY9.out⟩
  · have KP := Lib.hid (pickT_row [-1, 3] 2 w3 s a L c zs T3.out.src rfl (by omega) (by omega) (-1) 3 (by intro y hy; simp at hy; omega))
    simp only [List.map_cons, List.map_nil] at KP
    clear q0 q1 q2 q3 q4 q5
    go_wp2_with (first
      | (go_at_call 16; refine (KP.out).mono ?_; rintro e w4 ⟨z, rfl, z0, z1, hs4, ho4⟩; have T4 := Lib.hid ((T3.out.next (bl_alloc (bl_refl w3) _)).drew HS hgb hs4 ho4); clear hs4 ho4)
      | ((with_reducible refine wpList_store_at 2 rfl (.tmp 53) (.tmp 52) rfl i1 w2.heap.size 5 rfl (.int .i64 z) rfl rfl _ _ T4.out.box ?_ ?_); (exact (by simp)); intro w5 k5 g5; have TE : Hid (TabS w0 s a L c zs w2.heap.size A1 k1 xs b  p  g  t  z w5) := Lib.hid ⟨own_keptT T4.out.own T4.out.box (by decide) g5, src_boxT T4.out.src HS HB.out g5 (Nat.le_of_lt hgb), only_boxT T4.out.only g5 (Nat.le_of_lt hgb), k5, T4.out.res.grown g5 (fun e => by injection e with e; omega)⟩; clear k5 g5)
      | (with_reducible refine wpList_load_blk 26 _ 6 rfl (.tmp 3) rfl uT rfl iT w2.heap.size 0 rfl [.slice A1 xs.length k1, .int .i64 b, .int .i64 p, .int .i64 g, .int .i64 t, .int .i64 z] rfl TE.out.box.range ?_)
      | (refine wpList_store_blk 26 6 rfl (.tmp 2) (.tmp 64) rfl iT w0.heap.size rfl [.slice A1 xs.length k1, .int .i64 b, .int .i64 p, .int .i64 g, .int .i64 t, .int .i64 z] rfl rfl (by simp [Value.oneCell']) _ TE.out.res rfl ?_; intro w9 k9 g9; have HO9 := Lib.hid (own_keptT TE.out.own TE.out.res (by decide) g9); have HS9 := Lib.hid (src_boxT TE.out.src HS HB.out g9 (Nat.le_refl _)); have HY9 := Lib.hid (only_boxT TE.out.only g9 (Nat.le_refl _)); have K9 := Lib.hid k9; clear k9 g9))
    obtain ⟨z0', _⟩ := K9.out.cell 0 _ rfl
    obtain ⟨z1', _⟩ := K9.out.cell 1 _ rfl
    obtain ⟨z2', _⟩ := K9.out.cell 2 _ rfl
    obtain ⟨z3', _⟩ := K9.out.cell 3 _ rfl
    obtain ⟨z4', _⟩ := K9.out.cell 4 _ rfl
    obtain ⟨z5', _⟩ := K9.out.cell 5 _ rfl
    exact bodyPost_ret (v := .agg #[.slice A1 xs.length k1, .int .i64 b, .int .i64 p, .int .i64 g, .int .i64 t, .int .i64 z]) (by simp [results, Try.results15, go_sem, z0', z1', z2', z3', z4', z5']) rfl ⟨A1, k1, xs, b, p, g, t, z, rfl, by omega, by omega, by omega, by omega, HO9.out.less (Nat.le_succ _), HS9.out, HY9.out⟩
  · have hxn : xs.length ≤ 4000000 := by omega
    have h03 : w0.heap.size ≤ w3.heap.size := by have := T3.out.box.lt; omega
    clear q0 q1 q2 q3 q4 q5
    refine wp_region_R (R := fun a b => Below a.heap.size a b) (I := fun W' => Below w3.heap.size w3 W') (last := 8) (k := 8) (fun _ => bl_refl _) hmx rfl (fun HC0 => ?_)
    refine wpAnyR_takeL (i := 0) (kw := 4) (v := .pointer (some ⟨w2.heap.size, 0, none⟩)) (fun _ => bl_refl _) (fun p q => bl_trans p q) rfl rfl (by kernel_rfl) (by kernel_rfl) (by kernel_rfl) (by kernel_rfl) (fun _ _ _ h => h) HC0 (Or.inl ⟨by kernel_rfl, fun W' hI => ?_⟩) (fun HC1 => ?_)
    · exact .inl (by go_simp)
    refine wpAnyR_takeL (i := 1) (kw := 4) (v := .slice A1 xs.length k1) (fun _ => bl_refl _) (fun p q => bl_trans p q) rfl rfl (by kernel_rfl) (by kernel_rfl) (by kernel_rfl) (by kernel_rfl) (fun _ _ _ h => h) HC1 (Or.inl ⟨by kernel_rfl, fun W' hI => ?_⟩) (fun HC2 => ?_)
    · have hv := T3.out.box.below hI
      obtain ⟨q0, _⟩ := hv.cell 0 _ rfl
      exact .inl (by go_simp)
    refine wpAnyR_takeL (i := 5) (kw := 4) (v := .pointer (some ⟨w2.heap.size, 1, none⟩)) (fun _ => bl_refl _) (fun p q => bl_trans p q) rfl rfl (by kernel_rfl) (by kernel_rfl) (by kernel_rfl) (by kernel_rfl) (fun _ _ _ h => h) HC2 (Or.inl ⟨by kernel_rfl, fun W' hI => ?_⟩) (fun HC3 => ?_)
    · exact .inl (by go_simp)
    refine wpAnyR_takeL (i := 6) (kw := 4) (v := .int .i64 b) (fun _ => bl_refl _) (fun p q => bl_trans p q) rfl rfl (by kernel_rfl) (by kernel_rfl) (by kernel_rfl) (by kernel_rfl) (fun _ _ _ h => h) HC3 (Or.inl ⟨by kernel_rfl, fun W' hI => ?_⟩) (fun HC4 => ?_)
    · have hv := T3.out.box.below hI
      obtain ⟨q1, _⟩ := hv.cell 1 _ rfl
      exact .inl (by go_simp)
    refine wpAnyR_twoT HC4 (i := 2) (j := 3) (by kernel_rfl) rfl rfl (by kernel_rfl) (by kernel_rfl) (fun w5 hr5 => bl_drewT hr5) (fun w5 hr5 => ?_) (fun w5 hr5 => ?_)
    · intro K hK
      have B5 := Lib.hid (bl_drewT hr5)
      have KO := Lib.hid (own_any A1 k1 xs w5 ((T3.out.next B5.out).own.rd) hxn)
      go_simp
      go_wp2_with (go_at_call 34; refine (KO.out).mono ?_; rintro e w6 ⟨A2, k2, rfl, ho6, hb6⟩; have B6 := Lib.hid (bl_trans B5.out hb6); have O6 := Lib.hid (ho6.less B5.out.size); clear ho6 hb6)
      intro HC5
      refine wpAnyR_oneL HC5 (i := 3) (by kernel_rfl) rfl (by kernel_rfl) (fun w7 hr7 => ⟨bl_trans B6.out hr7, ?_⟩)
      intro K hK
      go_simp
      refine hK _ _ ?_
      clear hK K
      intro HC6
      have B8 := Lib.hid (bl_trans (bl_trans B6.out hr7) (bl_alloc (bl_refl w7) (.cells #[.int .i64 5, .int .i64 5, .int .i64 5, .int .i64 5, .int .i64 5] 2)))
      have NB := Lib.hid (blk_new w7 2 (ints [5, 5, 5, 5, 5]))
      have O8 := Lib.hid ((O6.out.below hr7).below (bl_alloc (bl_refl w7) (.cells #[.int .i64 5, .int .i64 5, .int .i64 5, .int .i64 5, .int .i64 5] 2)))
      refine wpAnyR_oneL HC6 (i := 4) (by kernel_rfl) rfl (by kernel_rfl) (fun w9 hr9 => ⟨bl_trans B8.out hr9, ?_⟩)
      intro K hK
      have B9 := Lib.hid (bl_trans B8.out hr9)
      have O9 := Lib.hid (O8.out.below hr9)
      have R9 := Lib.hid (rd_blk (NB.out.below hr9))
      try simp only [Act.put, List.setIfInBounds_toArray, List.set_cons_succ, List.set_cons_zero]
      refine wp_glueT (.tmp 58) (.tmp 59) rfl w3.heap.size (.slice A2 xs.length k2) xs [5, 5, 5, 5, 5] (some ⟨w7.heap.size, 0, none⟩) 5 rfl O9.out rfl R9.out (by simp; omega) B9.out.size ?_
      intro A4 k4 ws w4 ew ho4 hg4
      have B4 := Lib.hid (bl_app B9.out O9.out (Nat.le_refl _) hg4)
      have O4 := Lib.hid ho4
      have hwl : ws.length = xs.length + 5 := by rw [ew]; simp
      clear ho4 hg4 ew
      refine hK _ _ ?_
      clear hK K
      intro HC7
      refine wpAnyR_takeL (i := 7) (kw := 8) (v := .agg #[.slice A4 ws.length k4, .int .i64 b, .int .i64 0, .int .i64 2, .int .i64 0, .int .i64 0]) (fun _ => bl_refl _) (fun p q => bl_trans p q) rfl rfl (by kernel_rfl) (by kernel_rfl) (by kernel_rfl) (by kernel_rfl) (fun _ _ _ h => h) HC7 (Or.inl ⟨by kernel_rfl, fun W' hI => ?_⟩) (fun HC8 => ?_)
      · exact .inl (by go_simp)
      refine wpAnyR_lastL (by kernel_rfl) (by kernel_rfl) rfl (by kernel_rfl) (fun w10 hr10 => ⟨bl_trans B4.out hr10, ?_⟩)
      intro K hK
      have T10 := Lib.hid (T3.out.next (bl_trans B4.out hr10))
      have O10 := Lib.hid (O4.out.below hr10)
      try simp only [Act.put, List.setIfInBounds_toArray, List.set_cons_succ, List.set_cons_zero]
      refine wp_store_blk 26 6 (.tmp 2) (.tmp 63) rfl iT w0.heap.size rfl [.slice A4 ws.length k4, .int .i64 b, .int .i64 0, .int .i64 2, .int .i64 0, .int .i64 0] rfl rfl (by simp [Value.oneCell']) _ T10.out.res rfl ?_
      intro w11 k11 g11
      have HO9 := Lib.hid (own_keptT O10.out T10.out.res (by decide) g11)
      have HS9 := Lib.hid (src_boxT T10.out.src HS HB.out g11 (Nat.le_refl _))
      have HY9 := Lib.hid (only_boxT T10.out.only g11 (Nat.le_refl _))
      have K9 := Lib.hid k11
      clear k11 g11
      refine hK _ _ ?_
      clear hK K
      obtain ⟨z0', _⟩ := K9.out.cell 0 _ rfl
      obtain ⟨z1', _⟩ := K9.out.cell 1 _ rfl
      obtain ⟨z2', _⟩ := K9.out.cell 2 _ rfl
      obtain ⟨z3', _⟩ := K9.out.cell 3 _ rfl
      obtain ⟨z4', _⟩ := K9.out.cell 4 _ rfl
      obtain ⟨z5', _⟩ := K9.out.cell 5 _ rfl
      go_wp2_with fail
      exact bodyPost_ret (v := .agg #[.slice A4 ws.length k4, .int .i64 b, .int .i64 0, .int .i64 2, .int .i64 0, .int .i64 0]) (by simp [results, Try.results15, go_sem, z0', z1', z2', z3', z4', z5']) rfl ⟨A4, k4, ws, b, 0, 2, 0, 0, rfl, by omega, by omega, by omega, by omega, HO9.out.less (by omega), HS9.out, HY9.out⟩
    · intro K hK
      go_simp
      refine hK _ _ ?_
      clear hK K
      intro HC5
      have B6 := Lib.hid (bl_trans (bl_drewT hr5) (bl_alloc (bl_refl w5) (.cells #[.int .i64 5, .int .i64 5, .int .i64 5, .int .i64 5, .int .i64 5] 2)))
      have N0 := Lib.hid (blk_new w5 2 (ints [5, 5, 5, 5, 5]))
      refine wpAnyR_oneL HC5 (i := 2) (by kernel_rfl) rfl (by kernel_rfl) (fun w7 hr7 => ⟨bl_trans B6.out hr7, ?_⟩)
      intro K hK
      have B7 := Lib.hid (bl_trans B6.out hr7)
      have N7 := Lib.hid (N0.out.below hr7)
      have KO := Lib.hid (own_any A1 k1 xs w7 ((T3.out.next B7.out).own.rd) hxn)
      go_simp
      go_wp2_with (go_at_call 34; refine (KO.out).mono ?_; rintro e w8 ⟨A2, k2, rfl, ho8, hb8⟩; have B8 := Lib.hid (bl_trans B7.out hb8); have O8 := Lib.hid (ho8.less B7.out.size); have NB := Lib.hid (N7.out.below hb8); clear ho8 hb8)
      intro HC6
      refine wpAnyR_oneL HC6 (i := 4) (by kernel_rfl) rfl (by kernel_rfl) (fun w9 hr9 => ⟨bl_trans B8.out hr9, ?_⟩)
      intro K hK
      have B9 := Lib.hid (bl_trans B8.out hr9)
      have O9 := Lib.hid (O8.out.below hr9)
      have R9 := Lib.hid (rd_blk (NB.out.below hr9))
      try simp only [Act.put, List.setIfInBounds_toArray, List.set_cons_succ, List.set_cons_zero]
      refine wp_glueT (.tmp 58) (.tmp 59) rfl w3.heap.size (.slice A2 xs.length k2) xs [5, 5, 5, 5, 5] (some ⟨w5.heap.size, 0, none⟩) 5 rfl O9.out rfl R9.out (by simp; omega) B9.out.size ?_
      intro A4 k4 ws w4 ew ho4 hg4
      have B4 := Lib.hid (bl_app B9.out O9.out (Nat.le_refl _) hg4)
      have O4 := Lib.hid ho4
      have hwl : ws.length = xs.length + 5 := by rw [ew]; simp
      clear ho4 hg4 ew
      refine hK _ _ ?_
      clear hK K
      intro HC7
      refine wpAnyR_takeL (i := 7) (kw := 8) (v := .agg #[.slice A4 ws.length k4, .int .i64 b, .int .i64 0, .int .i64 2, .int .i64 0, .int .i64 0]) (fun _ => bl_refl _) (fun p q => bl_trans p q) rfl rfl (by kernel_rfl) (by kernel_rfl) (by kernel_rfl) (by kernel_rfl) (fun _ _ _ h => h) HC7 (Or.inl ⟨by kernel_rfl, fun W' hI => ?_⟩) (fun HC8 => ?_)
      · exact .inl (by go_simp)
      refine wpAnyR_lastL (by kernel_rfl) (by kernel_rfl) rfl (by kernel_rfl) (fun w10 hr10 => ⟨bl_trans B4.out hr10, ?_⟩)
      intro K hK
      have T10 := Lib.hid (T3.out.next (bl_trans B4.out hr10))
      have O10 := Lib.hid (O4.out.below hr10)
      try simp only [Act.put, List.setIfInBounds_toArray, List.set_cons_succ, List.set_cons_zero]
      refine wp_store_blk 26 6 (.tmp 2) (.tmp 63) rfl iT w0.heap.size rfl [.slice A4 ws.length k4, .int .i64 b, .int .i64 0, .int .i64 2, .int .i64 0, .int .i64 0] rfl rfl (by simp [Value.oneCell']) _ T10.out.res rfl ?_
      intro w11 k11 g11
      have HO9 := Lib.hid (own_keptT O10.out T10.out.res (by decide) g11)
      have HS9 := Lib.hid (src_boxT T10.out.src HS HB.out g11 (Nat.le_refl _))
      have HY9 := Lib.hid (only_boxT T10.out.only g11 (Nat.le_refl _))
      have K9 := Lib.hid k11
      clear k11 g11
      refine hK _ _ ?_
      clear hK K
      obtain ⟨z0', _⟩ := K9.out.cell 0 _ rfl
      obtain ⟨z1', _⟩ := K9.out.cell 1 _ rfl
      obtain ⟨z2', _⟩ := K9.out.cell 2 _ rfl
      obtain ⟨z3', _⟩ := K9.out.cell 3 _ rfl
      obtain ⟨z4', _⟩ := K9.out.cell 4 _ rfl
      obtain ⟨z5', _⟩ := K9.out.cell 5 _ rfl
      go_wp2_with fail
      exact bodyPost_ret (v := .agg #[.slice A4 ws.length k4, .int .i64 b, .int .i64 0, .int .i64 2, .int .i64 0, .int .i64 0]) (by simp [results, Try.results15, go_sem, z0', z1', z2', z3', z4', z5']) rfl ⟨A4, k4, ws, b, 0, 2, 0, 0, rfl, by omega, by omega, by omega, by omega, HO9.out.less (by omega), HS9.out, HY9.out⟩
  · obtain ⟨z0', _⟩ := K9.out.cell 0 _ rfl
    obtain ⟨z1', _⟩ := K9.out.cell 1 _ rfl
    obtain ⟨z2', _⟩ := K9.out.cell 2 _ rfl
    obtain ⟨z3', _⟩ := K9.out.cell 3 _ rfl
    obtain ⟨z4', _⟩ := K9.out.cell 4 _ rfl
    obtain ⟨z5', _⟩ := K9.out.cell 5 _ rfl
    exact bodyPost_ret (v := .agg #[.slice A1 xs.length k1, .int .i64 b, .int .i64 p, .int .i64 g, .int .i64 t, .int .i64 l]) (by simp [results, Try.results15, go_sem, z0', z1', z2', z3', z4', z5']) rfl ⟨A1, k1, xs, b, p, g, t, l, rfl, by omega, by omega, by omega, by omega, HO9.out.less (Nat.le_succ _), HS9.out, HY9.out⟩
end Go.Proofs.Ytimdgaclmejjhaa
