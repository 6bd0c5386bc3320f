/-
  RangeText: the program's.
-/
import Derived.Test.YtlpkaflmhdgmmaaStrJoin
import Derived.Test.YtlpkaflmhdgmmaaBackIt
import Derived.Test.YtlpkaflmhdgmmaaAnyS
import Derived.Test.YtlpkaflmhdgmmaaRoundRegion
import Derived.Maps.AppendAt
namespace Go.Proofs.Ytlpkaflmhdgmmaa
open Go.RowKit
set_option linter.unusedVariables false
attribute [local go_sem] Oper.semAt_some

theorem infoStr : (Try.prog.info? 9).map (fun i => (i.zero, i.size, i.bytes)) = some (some (.string ⟨#[]⟩), 1, 16) := by kernel_rfl
/-- Texts as values. -/
def strs (ts : List (List UInt8)) : List Value := ts.map (fun t => .string ⟨t.toArray⟩)
theorem strs_len (ts : List (List UInt8)) : (strs ts).length = ts.length := by simp [strs]
theorem strs_snoc (ts : List (List UInt8)) (t : List UInt8) : strs (ts ++ [t]) = strs ts ++ [.string ⟨t.toArray⟩] := by simp [strs]
theorem strs_get (ts : List (List UInt8)) (i : Nat) (h : i < ts.length) : (strs ts)[i]? = some (.string ⟨(ts.getD i []).toArray⟩) := by
  simp [strs, h]
/-- A row of texts of the call's own. -/
def OwnT (w : World) (lo : Nat) (v : Value) (ts : List (List UInt8)) : Prop := w.ownsRow lo 9 1 v ts.length (strs ts)
theorem OwnT.form {w : World} {lo : Nat} {v : Value} {ts : List (List UInt8)} (h : OwnT w lo v ts) : ∃ A c, v = .slice A ts.length c ∧ RdT w A ts ∧ ts.length ≤ c := by
  have h' := h
  rcases h.2 with ⟨rfl, hn⟩ | ⟨g, cap, cur, rfl, _, _, hnc, _⟩
  · exact ⟨none, 0, by rw [hn], fun h0 => by omega, by omega⟩
  · refine ⟨_, _, rfl, fun h0 => ⟨g, 0, rfl, (World.ownsRow.lt h' g rfl).2, fun j hj => ?_⟩, hnc⟩
    rw [Nat.zero_add, World.ownsRow.cellAt h' j (by omega), strs_get ts j hj]
/-- The texts of the last i classes. -/
def txs (xs : List Int) (i : Nat) : List (List UInt8) := (xs.reverse.take i).map clsT
theorem txs_len (xs : List Int) (i : Nat) (h : i ≤ xs.length) : (txs xs i).length = i := by unfold txs; rw [List.length_map, List.length_take, List.length_reverse]; omega
theorem txs_next (xs : List Int) (i : Nat) (h : i < xs.length) : txs xs (i + 1) = txs xs i ++ [clsT (nth xs (xs.length - 1 - i))] := by
  unfold txs
  rw [take_nth xs.reverse i (by rw [List.length_reverse]; exact h), List.map_append, List.map_cons, List.map_nil, rev_nth xs i h]
theorem txs_all (xs : List Int) : Lib.join (txs xs xs.length) [44] = rtx xs.reverse := by
  unfold txs rtx
  rw [List.take_of_length_le (by rw [List.length_reverse]; exact Nat.le_refl _)]
theorem txs_short (xs : List Int) (i : Nat) : ∀ t ∈ txs xs i, t.length ≤ 3 := fun t ht => by
  unfold txs at ht
  obtain ⟨k, _, rfl⟩ := List.mem_map.1 ht
  exact (clsT_len k).2
theorem con_rowN {A B : World} {row : Option Nat} (hg : A.grownBy B row) (h : ∀ g, row = some g → ∃ (cs : Array Value) (t : TypeId) (fr : Nat × Nat), A.heap[g]? = some (Obj.cells cs t fr)) : Con kNone A B :=
  ⟨hg.size, fun i o hi ho => by
    by_cases e : some i = row
    · obtain ⟨cs, t, fr, hc⟩ := h i e.symm
      rw [hc] at hi; cases hi; cases (show kNone t = true from ho)
    · exact (hg.block i (Array.getElem?_eq_some_iff.1 hi).1 e).trans hi⟩
set_option maxRecDepth 100000 in
theorem step_textIn {F : Fence} {n : Nat} {ops : Array Oper} {o : Oper} {a : Act} {w : World} {K' : Act → World → Prop} {Q : Exit → Act → World → Prop} {E : Prop} (hF : ∀ f, F.fn f) (hro : F.round = none) (hgd : o.guard = none) (s x : Operand)
    (ho : o.op = .call { callee := .builtin .append, args := #[s, x], argTypes := #[38, 38] })
    (lo : Nat) (v : Value) (K : Nat) (cells : List Value) (hs : a.eval s = v) (hown : w.ownsRow lo 9 1 v K cells) (ad : Addr) (c : Nat) (u : Value) (hx : a.eval x = .slice (some ad) 1 c) (hu : w.cell? ad = some u) (h1 : u.oneCell' = true) (hb : K ≤ 4000000) (hlo : lo ≤ w.heap.size)
    (h : ∀ v' w', w'.ownsRow lo 9 1 v' (K + 1) (cells ++ [u]) → w.grownBy w' v.ownBlock → (v'.ownBlock = v.ownBlock ∨ v'.ownBlock = some w.heap.size) → K' (a.put o.dst v') w') :
    if Region.wanted o (yielded ops a.tmps) = true then Oper.wpIn F n Try.prog o a w K' Q else E := by
  have hw : Region.wanted o (yielded ops a.tmps) = true := by simp [Region.wanted, hgd]
  rw [if_pos hw]
  obtain ⟨iS, hiS, hzS0, hzS1, hzS2⟩ := info_parts infoStr
  obtain ⟨v', w', hr, h2, h3, _, h5⟩ := run_append_own_at (P := Try.prog) w lo 38 o.type 9 iS (.string ⟨#[]⟩) 1 16 Try.underlying38 hiS hzS0 hzS1 hzS2 rfl (by decide) v K cells hown ad 1 c [u] rfl
    (fun j q hj => by
      match j, hj with
      | 0, hj => simp at hj; subst hj; simpa [Addr.add] using hu)
    (fun q hq => by simp at hq; subst hq; exact h1) (by unfold maxLen; omega) (by omega) hlo
  unfold Oper.wpIn
  refine ⟨fun f _ => hF f, ?_⟩
  rw [hro, Oper.semAt_none]
  unfold execOp
  simp only [ho, resolve, invoke, builtin, Sem.run_bind, Sem.run_pure, Result.andThen_ok, List.map_toArray, List.map_cons, List.map_nil, hs, hx, hr]
  exact h v' w' h2 h3 h5
set_option maxHeartbeats 400000 in
theorem backward_any (A : Option Addr) (n c : Nat) (w : World) :
    Calls Try.prog 19 #[.slice A n c] w (fun e w' => e = .returned (.func (.func 37) #[] #[.pointer (some ⟨w.heap.size, 0, none⟩)]) ∧ w.alloc (.cells #[.slice A n c] 24) = w') := by
  go_enter Try.func19, Try.ntmps19
  go_wp2
  go_ret
  exact ⟨rfl, rfl⟩
/-- What the rounds keep. -/
def TSI (w0 : World) (rb bb : Nat) (A : Option Addr) (c : Nat) (xs : List Int) (i : Nat) (W : World) : Prop :=
  Blk W bb 24 [.slice A xs.length c] ∧ Below w0.heap.size w0 W ∧
  ∃ v, Blk W rb 38 [v] ∧ OwnT W w0.heap.size v (txs xs i) ∧ ∀ g, v.ownBlock = some g → g ≠ rb ∧ g ≠ bb
theorem tsi_itw {w0 : World} {rb bb n0 i : Nat} {A : Option Addr} {c : Nat} {xs : List Int} {X Y : World} (h : TSI w0 rb bb A c xs i X) (hb : ItW kNone n0 X Y) (hn : w0.heap.size ≤ n0) : TSI w0 rb bb A c xs i Y := by
  obtain ⟨h1, h2, v, h3, h4, h5⟩ := h
  refine ⟨itw_blk hb h1 rfl, h2.trans (hb.1.mono hn), v, itw_blk hb h3 rfl, ⟨h4.1, ?_⟩, h5⟩
  rcases h4.2 with hl | ⟨g, cap, cur, e, hg, hh, hr⟩
  · exact .inl hl
  · exact .inr ⟨g, cap, cur, e, hg, hb.2 g cur _ _ hh rfl, hr⟩
theorem ownT_ty {W : World} {lo : Nat} {v : Value} {ts : List (List UInt8)} (h : OwnT W lo v ts) : ∀ g, v.ownBlock = some g → ∃ (cs : Array Value) (t : TypeId) (fr : Nat × Nat), W.heap[g]? = some (Obj.cells cs t fr) := by
  intro g hg
  rcases h.2 with ⟨rfl, _⟩ | ⟨g', cap, cur, rfl, hb, hh, _⟩
  · cases hg
  · obtain rfl := Option.some.inj hg
    exact ⟨cur, _, _, hh⟩
theorem OwnT.below {w w' : World} {lo : Nat} {v : Value} {ts : List (List UInt8)} (h : OwnT w lo v ts) (hb : Below w.heap.size w w') : OwnT w' lo v ts :=
  World.ownsRow.kept h ⟨hb.os, hb.tape, hb.output, hb.size, fun k hk _ => hb.block k hk⟩ (row := none) (by cases v.ownBlock <;> simp)

set_option maxRecDepth 100000 in
set_option maxHeartbeats 2000000 in
theorem implRangeText_yes (A : Option Addr) (c : Nat) (xs : List Int) (w : World) (hr : Rd w A xs) (hx : rngB xs = true) :
    Calls Try.prog 7 #[.slice A xs.length c] w (Fresh (.tuple #[strV (rtx xs.reverse), .int .i64 0]) w) := by
  have hn := rng_len hx
  have KI := Lib.hid (fun (c : Nat) => implIsRange_same A c xs w hr (by omega))
  rw [hx] at KI
  have HR := Lib.hid hr
  have HX := Lib.hid hx
  obtain ⟨iS, hiS, hzS0, hzS1, hzS2⟩ := info_parts infoStr
  obtain ⟨cur, hcs, hmk⟩ : ∃ cur : Array Value, cur.size = xs.length * 1 ∧ ∀ W : World, (Instr.makeSlice 38 (.int .i64 0) (.int .i64 (xs.length : Int))).run Try.prog W = .ok (.slice (some ⟨W.heap.size, 0, none⟩) 0 xs.length) (W.alloc (.cells cur 9)) :=
    ⟨madeCells (Value.string ⟨#[]⟩).cells (xs.length * 1), size_madeCells _ _, fun W => by
      have h := run_makeSlice (P := Try.prog) W 38 9 iS (.string ⟨#[]⟩) Try.underlying38 hiS hzS0 .i64 .i64 0 (xs.length : Int) (by omega) (by omega) (by rw [hzS1]; omega) (by rw [hzS2]; omega) (by omega)
      rw [hzS1] at h
      simpa using h⟩
  have HCS := Lib.hid hcs
  clear hiS hzS0 hzS1 hzS2 hcs hr hx
  refine (callsIn_wide (n := 10)).1 ?_
  refine callsIn_of_wp_marks Try.func7 rfl trivial ?_ rfl
  simp only [Try.ntmps7, List.size_toArray, List.length_cons, List.length_nil, Nat.reduceAdd, Nat.reduceSub, Array.replicate_succ, Array.replicate_zero, List.push_toArray, List.append_toArray, List.nil_append, List.cons_append]
  obtain ⟨w0, rfl⟩ : ∃ w0 : World, w0 = w := ⟨w, rfl⟩
  gi_wp2_with (first
    | (refine ⟨trivial, ?_⟩; gi_at_call 13; refine (callsIn_wide.2 (KI.out _)).mono ?_; rintro e w1 ⟨rfl, rfl⟩)
    | (refine ⟨trivial, ?_⟩; gi_at_call 19; refine (callsIn_wide.2 (backward_any _ _ _ _)).mono ?_; rintro e w4 ⟨rfl, rfl⟩))
  have hz3 : (((w0.alloc (.cells cur 9)).alloc (.cells #[.slice (some ⟨w0.heap.size, 0, none⟩) 0 xs.length] 38))).heap.size = w0.heap.size + 1 + 1 := by simp
  have b3 := blk_new (w0.alloc (.cells cur 9)) 38 [.slice (some ⟨w0.heap.size, 0, none⟩) 0 xs.length]
  rw [World.size_alloc] at b3
  have b4 := blk_new ((w0.alloc (.cells cur 9)).alloc (.cells #[.slice (some ⟨w0.heap.size, 0, none⟩) 0 xs.length] 38)) 24 [.slice A xs.length c]
  rw [hz3] at b4
  have o3 : OwnT (w0.alloc (.cells cur 9)) w0.heap.size (.slice (some ⟨w0.heap.size, 0, none⟩) 0 xs.length) (txs xs 0) := World.ownsRow_made w0 cur xs.length (Nat.le_refl _) (by unfold maxLen; omega) HCS.out
  have I0 : Hid (TSI w0 (w0.heap.size + 1) (w0.heap.size + 1 + 1) A c xs 0 (((w0.alloc (.cells cur 9)).alloc (.cells #[.slice (some ⟨w0.heap.size, 0, none⟩) 0 xs.length] 38)).alloc (.cells #[.slice A xs.length c] 24))) :=
    Lib.hid ⟨b4, bl_alloc (bl_alloc (bl_alloc (bl_refl w0) _) _) _, _, b3.below (bl_alloc (bl_refl _) _), (o3.below (bl_alloc (bl_refl _) _)).below (bl_alloc (bl_refl _) _), fun g e => by
      have := Option.some.inj e
      simp only at this
      omega⟩
  have hzz : w0.heap.size ≤ (((w0.alloc (.cells cur 9)).alloc (.cells #[.slice (some ⟨w0.heap.size, 0, none⟩) 0 xs.length] 38)).alloc (.cells #[.slice A xs.length c] 24)).heap.size := by simp; omega
  simp only [List.toArray] at b3 b4
  obtain ⟨w4, e4⟩ : ∃ w4, w4 = (((w0.alloc (.cells cur 9)).alloc (.cells #[.slice (some ⟨w0.heap.size, 0, none⟩) 0 xs.length] 38)).alloc (.cells #[.slice A xs.length c] 24)) := ⟨_, rfl⟩
  rw [← e4] at I0 hzz ⊢
  have KIT := backIt_any 9 A c xs (w0.heap.size + 1 + 1) (TSI w0 (w0.heap.size + 1) (w0.heap.size + 1 + 1) A c xs) w4 (by omega) (by omega)
    (fun i W h => ⟨(h.1.cell 0 _ rfl).1, HR.out.below h.2.1⟩)
  clear e4 b3 b4 o3 hmk KI hz3
  refine wpIn_rangeC rfl (by omega) (gf := 37) (lb := #[.pointer (some ⟨w0.heap.size + 1 + 1, 0, none⟩)]) rfl trivial (enters_of Try.func37 (by kernel_rfl) rfl)
    KIT (fun i W' ar h => by rw [show ar = _ from h]; rfl) (fun i A' B' ar h _ => h)
    (fun i A' B' h hb' => tsi_itw h hb' hzz) I0.out
    (fun ar W' => { tmps := #[.slice A xs.length c, undef, .string ⟨#[]⟩, .int .i64 0, .pointer (some ⟨w0.heap.size + 1, 0, none⟩), undef, ar.getD 1 undef, .slice A xs.length c, .bool true, .bool false, .slice A xs.length c, .int .i64 xs.length, .slice (some ⟨w0.heap.size, 0, none⟩) 0 xs.length, .slice A xs.length c,
      .func (.func 37) #[] #[.pointer (some ⟨w0.heap.size + 1 + 1, 0, none⟩)], ar.getD 0 undef, ar.getD 1 undef, undef, undef, undef, undef, undef, undef, undef], defers := [] })
    (fun ar W' => W') (fun ar W' => bl_refl W') ?assign ?body ?done
  case assign =>
    intro lr i ar W' Kc h hKc
    obtain rfl : ar = _ := h
    gi_wp2
    exact hKc
  case body =>
    intro lr i ar W0 W hi1 hI h hgl hrl hW0 hca hsz
    obtain rfl : ar = _ := h
    obtain ⟨h1, h2, v, h3, h4, h5⟩ := hI
    have crb := (h3.cell 0 _ rfl).1
    have grb := h3.lt
    have gbb := h1.lt
    have hb := rng_in HX.out (xs.length - 1 - i) (by omega)
    have hi7 : i ≤ 4000000 := by omega
    have HTN := Lib.hid (txs_next xs i hi1)
    have HTL := Lib.hid (txs_len xs i (by omega))
    have HTL2 := Lib.hid (txs_len xs (i + 1) (by omega))
    have KT := Lib.hid (fun W => implText_cls (nth xs (xs.length - 1 - i)) W hb.1 hb.2)
    have P1 := Lib.hid h1
    have P2 := Lib.hid h2
    have P3 := Lib.hid h3
    have P4 := Lib.hid h4
    have P5 := Lib.hid h5
    have VL : Hid (∀ g, v.ownBlock = some g → w0.heap.size ≤ g ∧ g < W.heap.size) := Lib.hid (fun g e => World.ownsRow.lt h4 g e)
    have hmx : Try.prog.follows .mixedOrders = true := by kernel_rfl
    have wle := h2.size
    generalize clsT (nth xs (xs.length - 1 - i)) = t at *
    generalize nth xs (xs.length - 1 - i) = x at *
    clear h1 h2 h3 h4 h5 hca hsz hrl I0 KIT hb
    simp only [Array.getD_eq_getD_getElem?]
    gi_wp2
    change Code.wpIn (Fence.wide.inRound lr) _ _ _ _ _ _
    refine wpIn_region_anyR lr rfl hmx (noDefer_spec (by kernel_rfl)) ?_
    refine wpAnyIn_S (S := fun W' => Below W.heap.size W W') (last := 4) (m := 1) (k := 4) rfl (fun HC0 => ?_)
    have hS0 : Below W.heap.size W { W with drawn := W.drawn + 1 } := bl_drew (bl_refl W)
    obtain ⟨W6, eW6⟩ : ∃ W6 : World, W6 = { W with drawn := W.drawn + 1 } := ⟨_, rfl⟩
    have hz6 : W6.heap.size = W.heap.size := by rw [eW6]
    rw [← eW6] at hS0 ⊢
    clear eW6
    refine wpAnyS_take (i := 0) (kw := 4) (v := v) rfl rfl (by kernel_rfl) (by kernel_rfl) (by kernel_rfl) (by kernel_rfl) (fun _ _ _ h => h) HC0 hS0 ⟨Or.inl ⟨by rfl, fun W' hs' => ?_⟩, fun _ => rfl⟩ (fun HC1 => ?_)
    · have c := ((bcell hs').1 (w0.heap.size + 1) 0 (by omega)).trans crb
      go_simp
    refine wpAnyS_take (i := 1) (kw := 4) (v := .int .i64 x) rfl rfl (by kernel_rfl) (by kernel_rfl) (by kernel_rfl) (by kernel_rfl) (fun _ _ _ h => h) HC1 hS0 ⟨Or.inl ⟨by rfl, fun W' hs' => ?_⟩, fun _ => rfl⟩ (fun HC2 => ?_)
    · go_simp
    refine wpAnyS_one HC2 (i := 2) (by kernel_rfl) rfl hS0 (fun Kx hKx => ?_)
    go_simp
    gi_wp2_with (refine ⟨trivial, ?_⟩; gi_at_call 20; refine (callsIn_wide.2 (KT.out W6)).mono ?_; rintro e w7 ⟨rfl, hb7⟩)
    intro HC3
    have hS7 : Below W.heap.size W w7 := hS0.trans (hb7.mono (Nat.le_of_eq hz6.symm))
    have hz7 : W.heap.size ≤ w7.heap.size := hS7.size
    clear hb7
    refine wpAnyS_one HC3 (i := 3) (by kernel_rfl) rfl hS7 (fun Kx hKx => ?_)
    go_simp
    refine hKx _ _ ?_
    clear hKx Kx
    intro HC4
    have hS8 := bl_alloc hS7 (.cells #[.string ⟨t.toArray⟩] 9)
    have HX8 : Hid (OwnT (w7.alloc (.cells #[.string ⟨t.toArray⟩] 9)) w0.heap.size v (txs xs i)) := Lib.hid (P4.out.below hS8)
    have HCU : Hid ((w7.alloc (.cells #[.string ⟨t.toArray⟩] 9)).cell? ⟨w7.heap.size, 0, none⟩ = some (.string ⟨t.toArray⟩)) := Lib.hid (by simp [go_sem])
    refine wpAnyS_pivot (by kernel_rfl) rfl hS8 (fun Kx hKx => ?_)
    refine step_textIn (fun _ => trivial) rfl rfl (.tmp 17) (.tmp 20) rfl w0.heap.size v (txs xs i).length (strs (txs xs i)) (by simp [Act.eval]) HX8.out ⟨w7.heap.size, 0, none⟩ 1 (.string ⟨t.toArray⟩) (by simp [Act.eval]) HCU.out rfl (by rw [HTL.out]; exact hi7) (Nat.le_trans wle hS8.size) ?_
    intro v' w9 hown hg hv'
    refine hKx _ _ ?_
    clear hKx Kx
    have hz8 : (w7.alloc (.cells #[.string ⟨t.toArray⟩] 9)).heap.size = w7.heap.size + 1 := World.size_alloc _ _
    rw [hz8] at hv'
    have hN : OwnT w9 w0.heap.size v' (txs xs (i + 1)) := by
      unfold OwnT
      rw [HTN.out, strs_snoc, List.length_append]
      exact hown
    obtain ⟨A9, c9v, rfl, _, _⟩ := hN.form
    have vne : ∀ g, (g = w0.heap.size + 1 ∨ g = w0.heap.size + 1 + 1) → some g ≠ v.ownBlock := fun g hgv e => by
      have := P5.out g e.symm
      omega
    have B9 := (P3.out.below hS8).grown hg (vne _ (.inl rfl))
    have s := blk_set B9 0 (Value.slice A9 (txs xs (i + 1)).length c9v)
    obtain ⟨c9, f9⟩ := B9.cell 0 _ rfl
    have vbn : ∀ g, (Value.slice A9 (txs xs (i + 1)).length c9v).ownBlock = some g → g ≠ w0.heap.size + 1 ∧ g ≠ w0.heap.size + 1 + 1 := fun g e => by
      rcases hv' with h | h
      · exact P5.out g (h ▸ e)
      · rw [h] at e
        have e := Option.some.inj e
        omega
    have H10 : OwnT (w9.setCell ⟨w0.heap.size + 1, 0, none⟩ (Value.slice A9 (txs xs (i + 1)).length c9v)) w0.heap.size (Value.slice A9 (txs xs (i + 1)).length c9v) (txs xs (i + 1)) := World.ownsRow.kept hN s.2 (by
      rcases hq : (Value.slice A9 (txs xs (i + 1)).length c9v).ownBlock with _ | k
      · exact .inl rfl
      · exact .inr (fun e => (vbn k hq).1 (Option.some.inj e)))
    have hC : Con kNone W (w9.setCell ⟨w0.heap.size + 1, 0, none⟩ (Value.slice A9 (txs xs (i + 1)).length c9v)) := ((con_below hS8).trans (con_rowN hg (ownT_ty HX8.out))).trans (con_grown s.2 B9 rfl)
    have hBL : Below w0.heap.size w0 (w9.setCell ⟨w0.heap.size + 1, 0, none⟩ (Value.slice A9 (txs xs (i + 1)).length c9v)) :=
      ((bl_trans P2.out hS8).grown hg (by rw [hz8]; omega) (fun j hj => (VL.out j hj).1)).setCell (by simp) _
    have HH := Lib.hid (And.intro (⟨((P1.out.below hS8).grown hg (vne _ (.inr rfl))).grown s.2 (fun e => by have := Option.some.inj e; omega), hBL, _, s.1, H10, vbn⟩ : TSI w0 (w0.heap.size + 1) (w0.heap.size + 1 + 1) A c xs (i + 1) (w9.setCell ⟨w0.heap.size + 1, 0, none⟩ (Value.slice A9 (txs xs (i + 1)).length c9v))) hC)
    clear hN vbn H10 hC hBL s hown hg hv' B9 vne
    refine wpAnyIn_lastOne (i := 5) (by kernel_rfl) (by kernel_rfl) rfl (fun Kx hKx => ?_)
    go_simp
    refine hKx _ _ ?_
    clear hKx Kx
    gi_wp2
    exact HH.out
  case done =>
    rintro D W hD ⟨h1, h2, v, h3, h4, h5⟩ hD3
    obtain ⟨A5, c5, rfl, hrd, hcap⟩ := h4.form
    have cr := (h3.cell 0 _ rfl).1
    have KJ := Lib.hid (strJoin_any A5 c5 (txs xs xs.length) W hrd (txs_short xs xs.length) (by rw [txs_len xs _ (Nat.le_refl _)]; exact hn) hcap)
    rw [txs_all] at KJ
    have HB := Lib.hid h2
    clear h1 h2 h3 h4 h5 hrd hcap I0 KIT
    generalize rtx xs.reverse = l at *
    gi_wp2_with (refine ⟨trivial, ?_⟩; gi_at_call 21; refine (callsIn_wide.2 KJ.out).mono ?_; rintro e w5 ⟨rfl, hb5⟩)
    refine ⟨by simp, .inl ⟨_, _, rfl, run_takeDeferred ((hb5.block D (Array.getElem?_eq_some_iff.1 hD3).1).trans hD3), ?_⟩⟩
    have hD5 : D < w5.heap.size := Nat.lt_of_lt_of_le (Array.getElem?_eq_some_iff.1 hD3).1 hb5.size
    exact ⟨_, by simp [results, Try.f7, go_sem], rfl, (bl_trans HB.out hb5).trans (putObj_below w5 D _ (by omega) hD5)⟩
set_option maxRecDepth 100000 in
set_option maxHeartbeats 1000000 in
theorem implRangeText_any (A : Option Addr) (c : Nat) (xs : List Int) (w : World) (hr : Rd w A xs) (hn : xs.length ≤ 4000000) :
    Calls Try.prog 7 #[.slice A xs.length c] w (Fresh (.tuple #[strV (rngT xs), .int .i64 (rngC xs)]) w) := by
  by_cases h : rngB xs = true
  · have e := rngT_yes h
    rw [e.1, e.2]
    exact implRangeText_yes A c xs w hr h
  · have hf : rngB xs = false := by simpa using h
    have e := rngT_no hf
    rw [e.1, e.2]
    have KI := Lib.hid (fun (c : Nat) => implIsRange_same A c xs w hr hn)
    rw [hf] at KI
    clear hr h hf e
    go_enter Try.func7, Try.ntmps7
    go_wp2_with (go_at_call 13; refine (KI.out _).mono ?_; rintro e w1 ⟨rfl, rfl⟩)
    go_ret2
    exact ⟨rfl, bl_refl _⟩
end Go.Proofs.Ytlpkaflmhdgmmaa
