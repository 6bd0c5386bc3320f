/-
  Put together, what this law needs of: BetE, BetMark, BetSet.
-/
import Derived.Test.YtnllndcajdofjaaQbBetCG
import Derived.Test.YtnllndcajdofjaaQbBetCloneG
import Derived.Test.YtnllndcajdofjaaQbBetAG
import Derived.Test.YtnllndcajdofjaaQbBetToG
namespace Go.Proofs.Ytnllndcajdofjaa
open Go.RowKit
set_option linter.unusedVariables false

theorem wp_store_at {P : Program} {o : Oper} {a : Go.Act} {w : World} {K : Go.Act → World → Prop} {Q : Exit → Go.Act → World → Prop} (t : TypeId) (x y : Operand) (ho : o.op = .store t x y)
    (hi : (P.info? t).map (·.size) = some 1) (g i : Nat) (hx : a.eval x = .pointer (some ⟨g, i, none⟩)) (v : Value) (hy : a.eval y = v) (h1 : v.oneCell' = true) (T : TypeId) (vs : List Value) (hB : Blk w g T vs) (hl : i < vs.length)
    (h : ∀ w', Blk w' g T (vs.set i v) → w.grownBy w' (some g) → K (a.put o.dst undef) w') : o.wp P a w K Q := by
  obtain ⟨hc, hf⟩ := hB.cell i _ (List.getElem?_eq_getElem hl)
  unfold Oper.wp execOp
  simp only [ho, hx, hy, Instr.storeAt, Instr.sureAddr, Sem.run_bind, Sem.run_pure, Result.andThen_ok, run_store1 w _ t v _ hi h1 hc hf]
  obtain ⟨k1, k2⟩ := blk_set hB i v
  exact h _ k1 k2
theorem wp_region_W {P : Program} {ops : Array Oper} {Q : Exit → Go.Act → World → Prop} {last : Nat} {id k : Nat} {a : Go.Act} {w : World} (hm : P.follows .mixedOrders = true) (hk : ops.size = k + 1)
    (h : closedB .any ops (Array.replicate ops.size false) → wpAnyR P .any ops (fun a b => Below a.heap.size a b) (fun W' => Below w.heap.size w W') last Q k (Array.replicate ops.size false) a w.drew) : (Code.region id ops true).wp P Q a w := wp_region_R (fun _ => bl_refl _) hm hk h
set_option maxRecDepth 100000 in
set_option maxHeartbeats 4000000 in
theorem choices_any (g : Nat) (L : At5) (b : Bt) (w : World) (h : BtAt w g L b) (k : Ok b) :
    Calls Try.prog 68 #[.pointer (some ⟨g, 0, none⟩)] w (Fresh (chV (checkB b) (callI b) (leastI b) (mostI b)) w) := by
  have KM := Lib.hid (fun (W : World) (hb : Below w.heap.size w W) => fresh_of_qt (missing_any g L b W (h.below hb) k))
  have KC := Lib.hid (fun (W : World) (hb : Below w.heap.size w W) => fresh_of_qt (callSize_any g L b W (h.below hb) k))
  have KR := Lib.hid (fun (W : World) (hb : Below w.heap.size w W) => fresh_of_qt (canRaise_any g L b W (h.below hb) k))
  have KX := Lib.hid (fun (W : World) (hb : Below w.heap.size w W) => fresh_of_qt (mostRaise_any g L b W (h.below hb) k))
  have KT := Lib.hid (fun (W : World) (hb : Below w.heap.size w W) => fresh_of_qt (qt_of_same (betToMatchS_any g L b W (h.below hb) k.sd)))
  have HT := Lib.hid (fun (W : World) (hb : Below w.heap.size w W) => (h.below hb).blk)
  have hmx : Try.prog.follows .mixedOrders = true := by kernel_rfl
  have iC : (Try.prog.info? 30).map (·.size) = some 4 := by kernel_rfl
  have uC := Try.underlying30
  have i1 : (Try.prog.info? 2).map (·.size) = some 1 := by kernel_rfl
  have u1 := top_bd k.sd
  have u2 := k.u0
  have u3 := k.u1
  have HQ : Hid (∀ W : World, Below w.heap.size w W → W.cell? ⟨g, 6, none⟩ = some (.int .i64 b.un)) := Lib.hid (fun W hb => ((h.below hb).blk.cell 6 _ rfl).1)
  have HK : Hid (checkB b = (missI b == 0)) := Lib.hid rfl
  have N0 := Lib.hid (blk_new w 30 [.bool false, .int .i64 0, .int .i64 0, .int .i64 0])
  have B := Lib.hid (bl_alloc (bl_refl w) (.cells ([.bool false, .int .i64 0, .int .i64 0, .int .i64 0] : List Value).toArray 30))
  have HML : Hid (mostI b = if mayB b = true then mostR b else 0) := Lib.hid rfl
  have HLL : Hid (leastI b = if mayB b = true then minT (mostR b) (topI b + b.un) else 0) := Lib.hid rfl
  have KN := Lib.hid (fun W : World => minT_any (mostR b) (topI b + b.un) W)
  clear h k
  rw [HK.out]
  clear HK
  generalize missI b = m at *
  generalize callI b = c at *
  generalize mostI b = mo at *
  generalize leastI b = le at *
  generalize mostR b = mr at *
  generalize mayB b = my at *
  rcases my with _ | _
  · obtain rfl : mo = 0 := HML.out
    obtain rfl : le = 0 := HLL.out
    clear HML HLL KN
    go_enter Try.func68, Try.ntmps68
    go_wp2_with (first
        | (go_at_call 132; refine (KM.out _ B.out).mono ?_; rintro e w1 ⟨rfl, hb⟩; have N0a := Lib.hid (N0.out.below hb); have Ba := Lib.hid (bl_trans B.out hb); clear N0 B hb)
        | (go_at_call 133; refine (KC.out _ Ba.out).mono ?_; rintro e w2 ⟨rfl, hb⟩; have ZL := Lib.hid (N0a.out.below hb).lt; have N0b := Lib.hid ((N0a.out.below hb).below (bl_alloc (bl_refl w2) (.cells ([.bool (m == 0), .int .i64 c, .int .i64 0, .int .i64 0] : List Value).toArray 30))); have Bb := Lib.hid (bl_alloc (bl_trans Ba.out hb) (.cells ([.bool (m == 0), .int .i64 c, .int .i64 0, .int .i64 0] : List Value).toArray 30)); have N1 := Lib.hid (blk_new w2 30 [.bool (m == 0), .int .i64 c, .int .i64 0, .int .i64 0]); clear N0a Ba hb)
        | (go_at_call 134; refine (KR.out _ Bb.out).mono ?_; rintro e w3 ⟨rfl, hb⟩; have N0c := Lib.hid (N0b.out.below hb); have N1c := Lib.hid (N1.out.below hb); have Bc := Lib.hid (bl_trans Bb.out hb); clear N0b N1 Bb hb)
        | (with_reducible refine wpList_load_blk 30 _ 4 rfl (.tmp 3) rfl uC rfl iC w2.heap.size 0 rfl [.bool (m == 0), .int .i64 c, .int .i64 0, .int .i64 0] rfl N1c.out.range ?_)
        | (refine wpList_store_blk 30 4 rfl (.tmp 2) (.tmp 26) rfl iC w.heap.size rfl [.bool (m == 0), .int .i64 c, .int .i64 0, .int .i64 0] rfl rfl (by simp [Value.oneCell']) _ N0c.out rfl ?_; intro w9 k9 g9; have B9 := Lib.hid (below_grown1 Bc.out g9 (Nat.le_refl _))))
    obtain ⟨z0, _⟩ := k9.cell 0 _ rfl
    obtain ⟨z1, _⟩ := k9.cell 1 _ rfl
    obtain ⟨z2, _⟩ := k9.cell 2 _ rfl
    obtain ⟨z3, _⟩ := k9.cell 3 _ rfl
    exact bodyPost_ret (v := .agg #[.bool (m == 0), .int .i64 c, .int .i64 0, .int .i64 0]) (by simp [results, Try.results68, go_sem, z0, z1, z2, z3]) rfl ⟨rfl, B9.out⟩
  · obtain rfl : mo = mr := HML.out
    obtain rfl : le = minT mo (topI b + b.un) := HLL.out
    clear HML HLL
    generalize topI b = t at *
    generalize b.un = u at *
    go_enter Try.func68, Try.ntmps68
    go_wp2_with (first
        | (go_at_call 132; refine (KM.out _ B.out).mono ?_; rintro e w1 ⟨rfl, hb⟩; have N0a := Lib.hid (N0.out.below hb); have Ba := Lib.hid (bl_trans B.out hb); clear N0 B hb)
        | (go_at_call 133; refine (KC.out _ Ba.out).mono ?_; rintro e w2 ⟨rfl, hb⟩; have ZL := Lib.hid (N0a.out.below hb).lt; have N0b := Lib.hid ((N0a.out.below hb).below (bl_alloc (bl_refl w2) (.cells ([.bool (m == 0), .int .i64 c, .int .i64 0, .int .i64 0] : List Value).toArray 30))); have Bb := Lib.hid (bl_alloc (bl_trans Ba.out hb) (.cells ([.bool (m == 0), .int .i64 c, .int .i64 0, .int .i64 0] : List Value).toArray 30)); have N1 := Lib.hid (blk_new w2 30 [.bool (m == 0), .int .i64 c, .int .i64 0, .int .i64 0]); clear N0a Ba hb)
        | (go_at_call 134; refine (KR.out _ Bb.out).mono ?_; rintro e w3 ⟨rfl, hb⟩; have N0c := Lib.hid (N0b.out.below hb); have N1c := Lib.hid (N1.out.below hb); have Bc := Lib.hid (bl_trans Bb.out hb); clear N0b N1 Bb hb)
        | (go_at_call 135; refine (KX.out _ Bc.out).mono ?_; rintro e w4 ⟨rfl, hb⟩; have N0d := Lib.hid (N0c.out.below hb); have N1d := Lib.hid (N1c.out.below hb); have Bd := Lib.hid (bl_trans Bc.out hb); clear N0c N1c Bc hb)
        | ((with_reducible refine wpList_store_at 2 rfl (.tmp 14) (.tmp 13) rfl i1 w2.heap.size 3 rfl (.int .i64 mo) rfl rfl _ _ N1d.out ?_ ?_); (exact (by simp)); intro w5 k5 g5; have N0e := Lib.hid (N0d.out.grown g5 (fun e => by have := ZL.out; have e2 := Option.some.inj e; omega)); have N1e : Hid (Blk w5 w2.heap.size 30 [.bool (m == 0), .int .i64 c, .int .i64 0, .int .i64 mo]) := Lib.hid k5; have Be := Lib.hid (below_grown1 Bd.out g5 (Nat.le_of_lt ZL.out)); clear k5 g5 N0d N1d Bd))
    have HU : Hid (∀ W', Below w5.heap.size w5 W' → W'.cell? ⟨g, 6, none⟩ = some (.int .i64 u)) := Lib.hid (fun W' hI => (HQ.out W' (bl_trans Be.out hI)))
    refine wp_region_W (last := 11) (k := 11) hmx rfl (fun HC0 => ?_)
    refine wpAnyR_takeL (i := 0) (kw := 3) (v := .pointer (some ⟨w2.heap.size, 3, none⟩)) (fun _ => bl_refl _) (fun p q => bl_trans p q) rfl rfl (by kernel_rfl) (by kernel_rfl) (by kernel_rfl) (by kernel_rfl) (fun _ _ _ h => h) HC0 (Or.inl ⟨by kernel_rfl, fun W' hI => ?_⟩) (fun HC1 => ?_)
    · exact .inl (by go_simp)
    refine wpAnyR_takeL (i := 1) (kw := 2) (v := .int .i64 mo) (fun _ => bl_refl _) (fun p q => bl_trans p q) rfl rfl (by kernel_rfl) (by kernel_rfl) (by kernel_rfl) (by kernel_rfl) (fun _ _ _ h => h) HC1 (Or.inl ⟨by kernel_rfl, fun W' hI => ?_⟩) (fun HC2 => ?_)
    · have hv := (N1e.out).below hI
      obtain ⟨z3, _⟩ := hv.cell 3 _ rfl
      exact .inl (by go_simp)
    refine wpAnyR_takeL (i := 2) (kw := 4) (v := .pointer (some ⟨g, 0, none⟩)) (fun _ => bl_refl _) (fun p q => bl_trans p q) rfl rfl (by kernel_rfl) (by kernel_rfl) (by kernel_rfl) (by kernel_rfl) (fun _ _ _ h => h) HC2 (Or.inl ⟨by kernel_rfl, fun W' hI => ?_⟩) (fun HC3 => ?_)
    · exact .inl (by go_simp)
    refine wpAnyR_takeL (i := 3) (kw := 3) (v := .int .i64 t) (fun _ => bl_refl _) (fun p q => bl_trans p q) rfl rfl (by kernel_rfl) (by kernel_rfl) (by kernel_rfl) (by kernel_rfl) (fun _ _ _ h => h) HC3 (Or.inl ⟨by kernel_rfl, fun W' hI => ?_⟩) (fun HC4 => ?_)
    · exact .inr ⟨130, #[.pointer (some ⟨g, 0, none⟩)], by go_simp, KT.out W' (bl_trans Be.out hI)⟩
    refine wpAnyR_takeL (i := 4) (kw := 6) (v := .pointer (some ⟨g, 0, none⟩)) (fun _ => bl_refl _) (fun p q => bl_trans p q) rfl rfl (by kernel_rfl) (by kernel_rfl) (by kernel_rfl) (by kernel_rfl) (fun _ _ _ h => h) HC4 (Or.inl ⟨by kernel_rfl, fun W' hI => ?_⟩) (fun HC5 => ?_)
    · exact .inl (by go_simp)
    refine wpAnyR_takeL (i := 5) (kw := 5) (v := .pointer (some ⟨g, 0, none⟩)) (fun _ => bl_refl _) (fun p q => bl_trans p q) rfl rfl (by kernel_rfl) (by kernel_rfl) (by kernel_rfl) (by kernel_rfl) (fun _ _ _ h => h) HC5 (Or.inl ⟨by kernel_rfl, fun W' hI => ?_⟩) (fun HC6 => ?_)
    · exact .inl (by go_simp)
    refine wpAnyR_takeL (i := 6) (kw := 4) (v := .pointer (some ⟨g, 6, none⟩)) (fun _ => bl_refl _) (fun p q => bl_trans p q) rfl rfl (by kernel_rfl) (by kernel_rfl) (by kernel_rfl) (by kernel_rfl) (fun _ _ _ h => h) HC6 (Or.inl ⟨by kernel_rfl, fun W' hI => ?_⟩) (fun HC7 => ?_)
    · exact .inl (by go_simp)
    refine wpAnyR_takeL (i := 7) (kw := 3) (v := .int .i64 u) (fun _ => bl_refl _) (fun p q => bl_trans p q) rfl rfl (by kernel_rfl) (by kernel_rfl) (by kernel_rfl) (by kernel_rfl) (fun _ _ _ h => h) HC7 (Or.inl ⟨by kernel_rfl, fun W' hI => ?_⟩) (fun HC8 => ?_)
    · have hx := HU.out W' hI
      exact .inl (by go_simp)
    refine wpAnyR_takeL (i := 8) (kw := 2) (v := .int .i64 (t + u)) (fun _ => bl_refl _) (fun p q => bl_trans p q) rfl rfl (by kernel_rfl) (by kernel_rfl) (by kernel_rfl) (by kernel_rfl) (fun _ _ _ h => h) HC8 (Or.inl ⟨by kernel_rfl, fun W' hI => ?_⟩) (fun HC9 => ?_)
    · exact .inl (by go_simp; first | done | exact IntWalk.i64_in _ (by omega))
    refine wpAnyR_takeL (i := 9) (kw := 1) (v := .int .i64 (minT mo (t + u))) (fun _ => bl_refl _) (fun p q => bl_trans p q) rfl rfl (by kernel_rfl) (by kernel_rfl) (by kernel_rfl) (by kernel_rfl) (fun _ _ _ h => h) HC9 (Or.inl ⟨by kernel_rfl, fun W' hI => ?_⟩) (fun HC10 => ?_)
    · exact .inr ⟨136, #[.int .i64 mo, .int .i64 (t + u)], by go_simp, (KN.out W').mono fun e w' h => ⟨h.1, by rw [← h.2]; exact bl_refl _⟩⟩
    refine wpAnyR_takeL (i := 10) (kw := 1) (v := .pointer (some ⟨w2.heap.size, 2, none⟩)) (fun _ => bl_refl _) (fun p q => bl_trans p q) rfl rfl (by kernel_rfl) (by kernel_rfl) (by kernel_rfl) (by kernel_rfl) (fun _ _ _ h => h) HC10 (Or.inl ⟨by kernel_rfl, fun W' hI => ?_⟩) (fun HC11 => ?_)
    · exact .inl (by go_simp)
    refine wpAnyR_lastL (by kernel_rfl) (by kernel_rfl) rfl (by kernel_rfl) (fun wR hrR => ⟨bl_drewT hrR, ?_⟩)
    intro K hK
    have BR := Lib.hid (bl_drewT hrR)
    clear hrR
    have N1f := N1e.out.below BR.out
    have N0f := N0e.out.below BR.out
    try simp only [Act.put, List.setIfInBounds_toArray, List.set_cons_succ, List.set_cons_zero]
    refine wp_store_at 2 (.tmp 25) (.tmp 24) rfl i1 w2.heap.size 2 rfl (.int .i64 (minT mo (t + u))) rfl rfl _ _ N1f (by simp) (fun w6 k5 g5 => ?_)
    refine hK _ _ ?_
    clear hK K
    have N0g := Lib.hid (N0f.grown g5 (fun e => by have := ZL.out; have e2 := Option.some.inj e; omega))
    have N1g : Hid (Blk w6 w2.heap.size 30 [.bool (m == 0), .int .i64 c, .int .i64 (minT mo (t + u)), .int .i64 mo]) := Lib.hid k5
    have Bg := Lib.hid (below_grown1 (bl_trans Be.out BR.out) g5 (Nat.le_of_lt ZL.out))
    clear k5 g5 N0f N1f N0e N1e Be BR
    go_wp2_with (first
        | (with_reducible refine wpList_load_blk 30 _ 4 rfl (.tmp 3) rfl uC rfl iC w2.heap.size 0 rfl [.bool (m == 0), .int .i64 c, .int .i64 (minT mo (t + u)), .int .i64 mo] rfl N1g.out.range ?_)
        | (refine wpList_store_blk 30 4 rfl (.tmp 2) (.tmp 26) rfl iC w.heap.size rfl [.bool (m == 0), .int .i64 c, .int .i64 (minT mo (t + u)), .int .i64 mo] rfl rfl (by simp [Value.oneCell']) _ N0g.out rfl ?_; intro w9 k9 g9; have B9 := Lib.hid (below_grown1 Bg.out g9 (Nat.le_refl _))))
    obtain ⟨z0, _⟩ := k9.cell 0 _ rfl
    obtain ⟨z1, _⟩ := k9.cell 1 _ rfl
    obtain ⟨z2, _⟩ := k9.cell 2 _ rfl
    obtain ⟨z3, _⟩ := k9.cell 3 _ rfl
    exact bodyPost_ret (v := .agg #[.bool (m == 0), .int .i64 c, .int .i64 (minT mo (t + u)), .int .i64 mo]) (by simp [results, Try.results68, go_sem, z0, z1, z2, z3]) rfl ⟨rfl, B9.out⟩
end Go.Proofs.Ytnllndcajdofjaa

namespace Go.Proofs.Ytnllndcajdofjaa
open Go.RowKit
set_option linter.unusedVariables false

/-- Nothing has been written but between two blocks. -/
structure Span (w w' : World) (lo hi : Nat) : Prop where
  os : w'.os = w.os
  tape : w'.tape = w.tape
  output : w'.output = w.output
  size : w.heap.size ≤ w'.heap.size
  block : ∀ k, k < w.heap.size → ¬ (lo ≤ k ∧ k < hi) → w'.heap[k]? = w.heap[k]?
theorem Span.refl (w : World) (lo hi : Nat) : Span w w lo hi := ⟨rfl, rfl, rfl, Nat.le_refl _, fun _ _ _ => rfl⟩
theorem Span.below {w w' : World} {lo hi : Nat} (h : Below w.heap.size w w') : Span w w' lo hi := ⟨h.os, h.tape, h.output, h.size, fun k hk _ => h.block k hk⟩
theorem Span.grown {w w1 w2 : World} {lo hi : Nat} {row : Option Nat} (h : Span w w1 lo hi) (hg : w1.grownBy w2 row) (hr : ∀ j, row = some j → lo ≤ j ∧ j < hi) : Span w w2 lo hi :=
  ⟨hg.os.trans h.os, hg.tape.trans h.tape, hg.output.trans h.output, Nat.le_trans h.size hg.size, fun k hk hne =>
    (hg.block k (Nat.lt_of_lt_of_le hk h.size) (fun e => hne (hr k e.symm))).trans (h.block k hk hne)⟩
theorem Row.span {w w' : World} {lo a c : Nat} {A : Option Addr} {xs : List Int} (h : Row w lo A xs) (hs : Span w w' a c) (hne : ∀ x, A = some x → x.block < a ∨ c ≤ x.block) : Row w' lo A xs := by
  refine ⟨fun x e => ⟨(h.1 x e).1, Nat.lt_of_lt_of_le (h.1 x e).2 hs.size⟩, fun h0 => ?_⟩
  obtain ⟨g, off, rfl, hc⟩ := h.2 h0
  have hb := hs.block g (h.1 _ rfl).2 (fun q => by have := hne _ rfl; simp only at this; omega)
  exact ⟨g, off, rfl, fun i hi => ⟨(World.cell?_of_block (a := ⟨g, off + i, none⟩) hb).trans (hc i hi).1, (World.frozen?_of_block (a := ⟨g, off + i, none⟩) hb).trans (hc i hi).2⟩⟩
theorem Blk.span {w w' : World} {g a c : Nat} {t : TypeId} {vs : List Value} (h : Blk w g t vs) (hs : Span w w' a c) (hne : g < a ∨ c ≤ g) : Blk w' g t vs := (hs.block g h.lt (fun q => by omega)).trans h
theorem bl_span {a0 w w' : World} {a c : Nat} (hb : Below a0.heap.size a0 w) (hs : Span w w' a c) (hl : a0.heap.size ≤ a) : Below a0.heap.size a0 w' :=
  ⟨hs.os.trans hb.os, hs.tape.trans hb.tape, hs.output.trans hb.output, Nat.le_trans hb.size hs.size, fun k hk => (hs.block k (Nat.lt_of_lt_of_le hk hb.size) (fun q => by omega)).trans (hb.block k hk)⟩
/-- The lists lie below a block. -/
structure Hi5 (L : At5) (n : Nat) : Prop where
  h1 : ∀ a, L.a1 = some a → a.block < n
  h2 : ∀ a, L.a2 = some a → a.block < n
  h3 : ∀ a, L.a3 = some a → a.block < n
  h4 : ∀ a, L.a4 = some a → a.block < n
  h5 : ∀ a, L.a5 = some a → a.block < n
theorem Row5.hi {w : World} {lo : Nat} {L : At5} {b : Bt} (h : Row5 w lo L b) : Hi5 L w.heap.size := ⟨fun a e => (h.r1.1 a e).2, fun a e => (h.r2.1 a e).2, fun a e => (h.r3.1 a e).2, fun a e => (h.r4.1 a e).2, fun a e => (h.r5.1 a e).2⟩
theorem Row5.span {w w' : World} {lo a c : Nat} {L : At5} {b : Bt} (h : Row5 w lo L b) (hs : Span w w' a c) (hne : Hi5 L a ∨ c ≤ lo) : Row5 w' lo L b := by
  have f : ∀ (x : Addr), (lo ≤ x.block) → (Hi5 L a → x.block < a) → x.block < a ∨ c ≤ x.block := fun x q1 q2 => by
    rcases hne with h | h
    · exact .inl (q2 h)
    · exact .inr (by omega)
  have rB : ∀ {A : Option Addr} {xs : List Bool}, RowB w lo A xs → (∀ x, A = some x → x.block < a ∨ c ≤ x.block) → RowB w' lo A xs := fun {A xs} h hne => by
    refine ⟨fun x e => ⟨(h.1 x e).1, Nat.lt_of_lt_of_le (h.1 x e).2 hs.size⟩, fun h0 => ?_⟩
    obtain ⟨g, off, rfl, hc⟩ := h.2 h0
    have hb := hs.block g (h.1 _ rfl).2 (fun q => by have := hne _ rfl; simp only at this; omega)
    exact ⟨g, off, rfl, fun i hi => ⟨(World.cell?_of_block (a := ⟨g, off + i, none⟩) hb).trans (hc i hi).1, (World.frozen?_of_block (a := ⟨g, off + i, none⟩) hb).trans (hc i hi).2⟩⟩
  exact ⟨h.r1.span hs (fun x e => f x (h.r1.1 x e).1 (fun q => q.h1 x e)), h.r2.span hs (fun x e => f x (h.r2.1 x e).1 (fun q => q.h2 x e)), h.r3.span hs (fun x e => f x (h.r3.1 x e).1 (fun q => q.h3 x e)),
    rB h.r4 (fun x e => f x (h.r4.1 x e).1 (fun q => q.h4 x e)), rB h.r5 (fun x e => f x (h.r5.1 x e).1 (fun q => q.h5 x e)), h.p12, h.p13, h.p14, h.p15, h.p23, h.p24, h.p25, h.p34, h.p35, h.p45⟩
theorem apt_ne {A B : Option Addr} {n c : Nat} (p : Apt A B) : ∀ a, A = some a → some a.block ≠ (Value.slice B n c).ownBlock := fun a ea e => by
  rcases B with _ | b
  · cases e
  · exact p a b ea rfl (by injection e)
theorem apt_ne' {A B : Option Addr} {n c : Nat} (p : Apt A B) : ∀ b, B = some b → some b.block ≠ (Value.slice A n c).ownBlock := fun b eb e => by
  rcases A with _ | a
  · cases e
  · exact p a b rfl eb (by injection e with e; exact e.symm)
theorem own_in {A : Option Addr} {n c lo hi : Nat} (h1 : ∀ a, A = some a → lo ≤ a.block) (h2 : ∀ a, A = some a → a.block < hi) : ∀ j, (Value.slice A n c).ownBlock = some j → lo ≤ j ∧ j < hi := fun j e => by
  rcases A with _ | a
  · cases e
  · have : a.block = j := by injection e
    have := h1 a rfl
    have := h2 a rfl
    omega
theorem blkB_ne_ge {W : World} {lo g n c : Nat} {A : Option Addr} {xs : List Bool} (h : RowB W lo A xs) (hg : W.heap.size ≤ g) : some g ≠ (Value.slice A n c).ownBlock := by
  rcases A with _ | a
  · intro e; cases e
  · intro e
    have k := (h.1 a rfl).2
    have : g = a.block := by injection e
    omega
/-- A marked round. -/
def mkB (b : Bt) (k0 : Int) : Bt := { b with st := marks (k0) b.st.length, bt := marks (k0 + (b.st.length : Int)) b.bt.length, pd := marks (k0 + (b.st.length : Int) + (b.bt.length : Int)) b.pd.length, fo := marksB (k0 + (b.st.length : Int) + (b.bt.length : Int) + (b.pd.length : Int)) b.fo.length, ac := marksB (k0 + (b.st.length : Int) + (b.bt.length : Int) + (b.pd.length : Int) + (b.fo.length : Int)) b.ac.length }
def MarkPost5 (w : World) (lo hi : Nat) (k0 : Int) (L : At5) (b : Bt) (e : Ending) (w' : World) : Prop :=
  e = .returned (.int .i64 (k0 + (b.st.length : Int) + (b.bt.length : Int) + (b.pd.length : Int) + (b.fo.length : Int) + (b.ac.length : Int))) ∧ Row5 w' lo L (mkB b k0) ∧ Span w w' lo hi
set_option maxRecDepth 100000 in
set_option maxHeartbeats 8000000 in
theorem markBetting_any (L : At5) (lo hi : Nat) (b : Bt) (k0 : Int) (w : World) (h : Row5 w lo L b) (hh : Hi5 L hi) (m : Sm b) (h0 : 0 ≤ k0) (h1 : k0 ≤ 1000) :
    Calls Try.prog 57 #[bV L b, .int .i64 k0] w (MarkPost5 w lo hi k0 L b) := by
  have m1 := m.m1
  have m2 := m.m2
  have m3 := m.m3
  have m4 := m.m4
  have m5 := m.m5
  have P12 := Lib.hid h.p12
  have P13 := Lib.hid h.p13
  have P14 := Lib.hid h.p14
  have P15 := Lib.hid h.p15
  have P23 := Lib.hid h.p23
  have P24 := Lib.hid h.p24
  have P25 := Lib.hid h.p25
  have P34 := Lib.hid h.p34
  have P35 := Lib.hid h.p35
  have P45 := Lib.hid h.p45
  have HR := Lib.hid h
  have HH := Lib.hid hh
  have bx := bl_alloc (bl_refl w) (.cells (btL L b).toArray 27)
  have N0 := Lib.hid (blk_new w 27 (btL L b))
  have S0 := Lib.hid (Span.below (lo := lo) (hi := hi) bx)
  have R1 := Lib.hid (h.r1.below bx)
  have R2 := Lib.hid (h.r2.below bx)
  have R3 := Lib.hid (h.r3.below bx)
  have R4 := Lib.hid (h.r4.below bx)
  have R5 := Lib.hid (h.r5.below bx)
  have N1 := N0.out
  obtain ⟨q0, -⟩ := N1.cell 0 _ rfl
  obtain ⟨q1, -⟩ := N1.cell 1 _ rfl
  obtain ⟨q2, -⟩ := N1.cell 2 _ rfl
  obtain ⟨q3, -⟩ := N1.cell 3 _ rfl
  obtain ⟨q4, -⟩ := N1.cell 4 _ rfl
  clear N1 h hh m bx
  unfold bV
  go_enter Try.func57, Try.ntmps57
  go_wp2_with (first
    | (go_at_call 121; (with_reducible refine (markRow_any L.a1 L.c1 lo b.st (k0) _ R1.out (by omega) (by omega) (by omega)).mono ?_); rintro e w1 ⟨rfl, ho, hg⟩; have N1a := Lib.hid (N0.out.grown hg (blk_ne_ge HR.out.r1 (Nat.le_refl _))); have S0a := Lib.hid (S0.out.grown hg (own_in (fun a e => (HR.out.r1.1 a e).1) HH.out.h1)); have R2a := Lib.hid (R2.out.grown hg (apt_ne' P12.out)); have R3a := Lib.hid (R3.out.grown hg (apt_ne' P13.out)); have R4a := Lib.hid (R4.out.grown hg (apt_ne' P14.out)); have R5a := Lib.hid (R5.out.grown hg (apt_ne' P15.out)); have R1a := Lib.hid ho; clear ho hg N0 S0 R1 R2 R3 R4 R5; have N0 := N1a; have S0 := S0a; have R1 := R1a; have R2 := R2a; have R3 := R3a; have R4 := R4a; have R5 := R5a; clear N1a S0a R1a R2a R3a R4a R5a; obtain ⟨q0, -⟩ := N0.out.cell 0 _ rfl; obtain ⟨q1, -⟩ := N0.out.cell 1 _ rfl; obtain ⟨q2, -⟩ := N0.out.cell 2 _ rfl; obtain ⟨q3, -⟩ := N0.out.cell 3 _ rfl; obtain ⟨q4, -⟩ := N0.out.cell 4 _ rfl)
    | (go_at_call 121; (with_reducible refine (markRow_any L.a2 L.c2 lo b.bt (k0 + (b.st.length : Int)) _ R2.out (by omega) (by omega) (by omega)).mono ?_); rintro e w2 ⟨rfl, ho, hg⟩; have N2a := Lib.hid (N0.out.grown hg (blk_ne_ge HR.out.r2 (Nat.le_refl _))); have S0a := Lib.hid (S0.out.grown hg (own_in (fun a e => (HR.out.r2.1 a e).1) HH.out.h2)); have R1a := Lib.hid (R1.out.grown hg (apt_ne P12.out)); have R3a := Lib.hid (R3.out.grown hg (apt_ne' P23.out)); have R4a := Lib.hid (R4.out.grown hg (apt_ne' P24.out)); have R5a := Lib.hid (R5.out.grown hg (apt_ne' P25.out)); have R2a := Lib.hid ho; clear ho hg N0 S0 R1 R2 R3 R4 R5; have N0 := N2a; have S0 := S0a; have R1 := R1a; have R2 := R2a; have R3 := R3a; have R4 := R4a; have R5 := R5a; clear N2a S0a R1a R2a R3a R4a R5a; obtain ⟨q0, -⟩ := N0.out.cell 0 _ rfl; obtain ⟨q1, -⟩ := N0.out.cell 1 _ rfl; obtain ⟨q2, -⟩ := N0.out.cell 2 _ rfl; obtain ⟨q3, -⟩ := N0.out.cell 3 _ rfl; obtain ⟨q4, -⟩ := N0.out.cell 4 _ rfl)
    | (go_at_call 121; (with_reducible refine (markRow_any L.a3 L.c3 lo b.pd (k0 + (b.st.length : Int) + (b.bt.length : Int)) _ R3.out (by omega) (by omega) (by omega)).mono ?_); rintro e w3 ⟨rfl, ho, hg⟩; have N3a := Lib.hid (N0.out.grown hg (blk_ne_ge HR.out.r3 (Nat.le_refl _))); have S0a := Lib.hid (S0.out.grown hg (own_in (fun a e => (HR.out.r3.1 a e).1) HH.out.h3)); have R1a := Lib.hid (R1.out.grown hg (apt_ne P13.out)); have R2a := Lib.hid (R2.out.grown hg (apt_ne P23.out)); have R4a := Lib.hid (R4.out.grown hg (apt_ne' P34.out)); have R5a := Lib.hid (R5.out.grown hg (apt_ne' P35.out)); have R3a := Lib.hid ho; clear ho hg N0 S0 R1 R2 R3 R4 R5; have N0 := N3a; have S0 := S0a; have R1 := R1a; have R2 := R2a; have R3 := R3a; have R4 := R4a; have R5 := R5a; clear N3a S0a R1a R2a R3a R4a R5a; obtain ⟨q0, -⟩ := N0.out.cell 0 _ rfl; obtain ⟨q1, -⟩ := N0.out.cell 1 _ rfl; obtain ⟨q2, -⟩ := N0.out.cell 2 _ rfl; obtain ⟨q3, -⟩ := N0.out.cell 3 _ rfl; obtain ⟨q4, -⟩ := N0.out.cell 4 _ rfl)
    | (go_at_call 122; (with_reducible refine (markRow_anyB L.a4 L.c4 lo b.fo (k0 + (b.st.length : Int) + (b.bt.length : Int) + (b.pd.length : Int)) _ R4.out (by omega) (by omega) (by omega)).mono ?_); rintro e w4 ⟨rfl, ho, hg⟩; have N4a := Lib.hid (N0.out.grown hg (blkB_ne_ge HR.out.r4 (Nat.le_refl _))); have S0a := Lib.hid (S0.out.grown hg (own_in (fun a e => (HR.out.r4.1 a e).1) HH.out.h4)); have R1a := Lib.hid (R1.out.grown hg (apt_ne P14.out)); have R2a := Lib.hid (R2.out.grown hg (apt_ne P24.out)); have R3a := Lib.hid (R3.out.grown hg (apt_ne P34.out)); have R5a := Lib.hid (R5.out.grown hg (apt_ne' P45.out)); have R4a := Lib.hid ho; clear ho hg N0 S0 R1 R2 R3 R4 R5; have N0 := N4a; have S0 := S0a; have R1 := R1a; have R2 := R2a; have R3 := R3a; have R4 := R4a; have R5 := R5a; clear N4a S0a R1a R2a R3a R4a R5a; obtain ⟨q0, -⟩ := N0.out.cell 0 _ rfl; obtain ⟨q1, -⟩ := N0.out.cell 1 _ rfl; obtain ⟨q2, -⟩ := N0.out.cell 2 _ rfl; obtain ⟨q3, -⟩ := N0.out.cell 3 _ rfl; obtain ⟨q4, -⟩ := N0.out.cell 4 _ rfl)
    | (go_at_call 122; (with_reducible refine (markRow_anyB L.a5 L.c5 lo b.ac (k0 + (b.st.length : Int) + (b.bt.length : Int) + (b.pd.length : Int) + (b.fo.length : Int)) _ R5.out (by omega) (by omega) (by omega)).mono ?_); rintro e w5 ⟨rfl, ho, hg⟩; have N5a := Lib.hid (N0.out.grown hg (blkB_ne_ge HR.out.r5 (Nat.le_refl _))); have S0a := Lib.hid (S0.out.grown hg (own_in (fun a e => (HR.out.r5.1 a e).1) HH.out.h5)); have R1a := Lib.hid (R1.out.grown hg (apt_ne P15.out)); have R2a := Lib.hid (R2.out.grown hg (apt_ne P25.out)); have R3a := Lib.hid (R3.out.grown hg (apt_ne P35.out)); have R4a := Lib.hid (R4.out.grown hg (apt_ne P45.out)); have R5a := Lib.hid ho; clear ho hg N0 S0 R1 R2 R3 R4 R5; have N0 := N5a; have S0 := S0a; have R1 := R1a; have R2 := R2a; have R3 := R3a; have R4 := R4a; have R5 := R5a; clear N5a S0a R1a R2a R3a R4a R5a; obtain ⟨q0, -⟩ := N0.out.cell 0 _ rfl; obtain ⟨q1, -⟩ := N0.out.cell 1 _ rfl; obtain ⟨q2, -⟩ := N0.out.cell 2 _ rfl; obtain ⟨q3, -⟩ := N0.out.cell 3 _ rfl; obtain ⟨q4, -⟩ := N0.out.cell 4 _ rfl))
  go_ret
  exact ⟨rfl, ⟨R1.out, R2.out, R3.out, R4.out, R5.out, P12.out, P13.out, P14.out, P15.out, P23.out, P24.out, P25.out, P34.out, P35.out, P45.out⟩, S0.out⟩
set_option maxRecDepth 100000 in
set_option maxHeartbeats 6000000 in
theorem heldBetting_any (L : At5) (b : Bt) (k0 : Int) (w : World) (h : Rd5 w L (mkB b k0)) (m : Sm b) (h0 : 0 ≤ k0) (h1 : k0 ≤ 1000) :
    Calls Try.prog 58 #[bV L b, .int .i64 k0] w (Fresh (.int .i64 (k0 + (b.st.length : Int) + (b.bt.length : Int) + (b.pd.length : Int) + (b.fo.length : Int) + (b.ac.length : Int))) w) := by
  have m1 := m.m1
  have m2 := m.m2
  have m3 := m.m3
  have m4 := m.m4
  have m5 := m.m5
  have bx := bl_alloc (bl_refl w) (.cells (btL L b).toArray 27)
  have N1 := blk_new w 27 (btL L b)
  have B := Lib.hid bx
  have K1 := Lib.hid (held_any L.a1 L.c1 (k0) b.st.length _ (h.r1.below bx) (by omega) (by omega) (by omega))
  have d1 : decide (k0 + (b.st.length : Int) < 0) = false := decide_eq_false (by omega)
  have K2 := Lib.hid (held_any L.a2 L.c2 (k0 + (b.st.length : Int)) b.bt.length _ (h.r2.below bx) (by omega) (by omega) (by omega))
  have d2 : decide (k0 + (b.st.length : Int) + (b.bt.length : Int) < 0) = false := decide_eq_false (by omega)
  have K3 := Lib.hid (held_any L.a3 L.c3 (k0 + (b.st.length : Int) + (b.bt.length : Int)) b.pd.length _ (h.r3.below bx) (by omega) (by omega) (by omega))
  have d3 : decide (k0 + (b.st.length : Int) + (b.bt.length : Int) + (b.pd.length : Int) < 0) = false := decide_eq_false (by omega)
  have K4 := Lib.hid (held_anyB L.a4 L.c4 (k0 + (b.st.length : Int) + (b.bt.length : Int) + (b.pd.length : Int)) b.fo.length _ (h.r4.below bx) (by omega) (by omega) (by omega))
  have d4 : decide (k0 + (b.st.length : Int) + (b.bt.length : Int) + (b.pd.length : Int) + (b.fo.length : Int) < 0) = false := decide_eq_false (by omega)
  have K5 := Lib.hid (held_anyB L.a5 L.c5 (k0 + (b.st.length : Int) + (b.bt.length : Int) + (b.pd.length : Int) + (b.fo.length : Int)) b.ac.length _ (h.r5.below bx) (by omega) (by omega) (by omega))
  have d5 : decide (k0 + (b.st.length : Int) + (b.bt.length : Int) + (b.pd.length : Int) + (b.fo.length : Int) + (b.ac.length : Int) < 0) = false := decide_eq_false (by omega)
  obtain ⟨q0, -⟩ := N1.cell 0 _ rfl
  obtain ⟨q1, -⟩ := N1.cell 1 _ rfl
  obtain ⟨q2, -⟩ := N1.cell 2 _ rfl
  obtain ⟨q3, -⟩ := N1.cell 3 _ rfl
  obtain ⟨q4, -⟩ := N1.cell 4 _ rfl
  clear N1 h m bx
  unfold bV
  go_enter Try.func58, Try.ntmps58
  go_wp2_with (first
    | (go_at_call 123; (with_reducible refine (K1.out).mono ?_); rintro e wn ⟨rfl, rfl⟩)
    | (go_at_call 123; (with_reducible refine (K2.out).mono ?_); rintro e wn ⟨rfl, rfl⟩)
    | (go_at_call 123; (with_reducible refine (K3.out).mono ?_); rintro e wn ⟨rfl, rfl⟩)
    | (go_at_call 124; (with_reducible refine (K4.out).mono ?_); rintro e wn ⟨rfl, rfl⟩)
    | (go_at_call 124; (with_reducible refine (K5.out).mono ?_); rintro e wn ⟨rfl, rfl⟩))
  go_ret
  exact ⟨rfl, B.out⟩
end Go.Proofs.Ytnllndcajdofjaa

namespace Go.Proofs.Ytnllndcajdofjaa
open Go.RowKit
set_option linter.unusedVariables false

theorem Row.setAt {w : World} {lo g off : Nat} {xs : List Int} (h : Row w lo (some ⟨g, off, none⟩) xs) (k : Nat) (hk : k < xs.length) (v : Int) :
    Row (w.setCell ⟨g, off + k, none⟩ (.int .i64 v)) lo (some ⟨g, off, none⟩) (xs.set k v) ∧ w.grownBy (w.setCell ⟨g, off + k, none⟩ (.int .i64 v)) (some g) := by
  refine ⟨⟨fun a e => ?_, fun h0 => ⟨g, off, rfl, fun i hi => ?_⟩⟩, ⟨rfl, rfl, rfl, by simp [World.setCell], fun j hj hne => Below.heap_setCell w ⟨g, off + k, none⟩ _ j (fun e => hne (by rw [e]))⟩⟩
  · obtain ⟨h1, h2⟩ := h.1 a e
    exact ⟨h1, by simpa [World.setCell] using h2⟩
  · rw [List.length_set] at hi
    obtain ⟨g', off', e, hc⟩ := h.2 (by omega)
    injection e with e
    injection e with e1 e2
    subst e1 e2
    have hci := hc i hi
    have hck := hc k hk
    refine ⟨?_, by simp [go_sem, hci.2]⟩
    by_cases e : k = i
    · subst e
      rw [nth_set_same _ _ _ hk]
      exact World.cell?_setCell_same w _ _ hck.1
    · rw [nth_set_other _ _ _ _ e, World.cell?_setCell_other w _ _ _ (by intro q; injection q with _ q; omega)]
      exact hci.1
theorem RowB.setAt {w : World} {lo g off : Nat} {xs : List Bool} (h : RowB w lo (some ⟨g, off, none⟩) xs) (k : Nat) (hk : k < xs.length) (v : Bool) :
    RowB (w.setCell ⟨g, off + k, none⟩ (.bool v)) lo (some ⟨g, off, none⟩) (xs.set k v) ∧ w.grownBy (w.setCell ⟨g, off + k, none⟩ (.bool v)) (some g) := by
  refine ⟨⟨fun a e => ?_, fun h0 => ⟨g, off, rfl, fun i hi => ?_⟩⟩, ⟨rfl, rfl, rfl, by simp [World.setCell], fun j hj hne => Below.heap_setCell w ⟨g, off + k, none⟩ _ j (fun e => hne (by rw [e]))⟩⟩
  · obtain ⟨h1, h2⟩ := h.1 a e
    exact ⟨h1, by simpa [World.setCell] using h2⟩
  · rw [List.length_set] at hi
    obtain ⟨g', off', e, hc⟩ := h.2 (by omega)
    injection e with e
    injection e with e1 e2
    subst e1 e2
    have hci := hc i hi
    have hck := hc k hk
    refine ⟨?_, by simp [go_sem, hci.2]⟩
    by_cases e : k = i
    · subst e
      rw [nthB_set_same _ _ _ hk]
      exact World.cell?_setCell_same w _ _ hck.1
    · rw [nthB_set_other _ _ _ _ e, World.cell?_setCell_other w _ _ _ (by intro q; injection q with _ q; omega)]
      exact hci.1
/-- A round of the call's own: its box, and its lists behind the box. -/
structure NB (w : World) (g : Nat) (L : At5) (b : Bt) : Prop where
  blk : Blk w g 27 (btL L b)
  rows : Row5 w (g + 1) L b
theorem NB.at_ {w : World} {g : Nat} {L : At5} {b : Bt} (h : NB w g L b) : BtAt w g L b := ⟨h.blk, h.rows.rd⟩
theorem NB.below {w w' : World} {g : Nat} {L : At5} {b : Bt} (h : NB w g L b) (hb : Below w.heap.size w w') : NB w' g L b := ⟨h.blk.below hb, h.rows.below hb⟩
/-- Nothing below block g has been written. -/
def Frm (g : Nat) (w w' : World) : Prop := Span w w' g w.heap.size
theorem Frm.refl (g : Nat) (w : World) : Frm g w w := Span.refl w _ _
theorem Frm.trans {g : Nat} {a b c : World} (h : Frm g a b) (k : Frm g b c) : Frm g a c :=
  ⟨k.os.trans h.os, k.tape.trans h.tape, k.output.trans h.output, Nat.le_trans h.size k.size, fun i hi hne => (k.block i (Nat.lt_of_lt_of_le hi h.size) (fun q => hne ⟨q.1, hi⟩)).trans (h.block i hi hne)⟩
theorem Frm.of_below {g : Nat} {w w' : World} (h : Below w.heap.size w w') : Frm g w w' := Span.below h
theorem Frm.of_grown {g : Nat} {w w' : World} {j : Nat} (h : w.grownBy w' (some j)) (hj : g ≤ j) : Frm g w w' :=
  ⟨h.os, h.tape, h.output, h.size, fun i hi hne => h.block i hi (fun e => hne ⟨by have := Option.some.inj e; omega, hi⟩)⟩
theorem bl_frm {a w w' : World} {g : Nat} (hb : Below a.heap.size a w) (h : Frm g w w') (hl : a.heap.size ≤ g) : Below a.heap.size a w' := bl_span hb h hl
theorem NB.setSt {w : World} {g : Nat} {L : At5} {b : Bt} (h : NB w g L b) {gf off : Nat} (e : L.a1 = some ⟨gf, off, none⟩) (k : Nat) (hk : k < b.st.length) (v : Int) :
    NB (w.setCell ⟨gf, off + k, none⟩ (.int .i64 v)) g L { b with st := b.st.set k v } ∧ Frm g w (w.setCell ⟨gf, off + k, none⟩ (.int .i64 v)) := by
  have rj := h.rows.r1
  rw [e] at rj
  obtain ⟨s1, s2⟩ := rj.setAt k hk v
  have hlo := (h.rows.r1.1 _ e).1
  simp only at hlo
  refine ⟨⟨?_, ?_⟩, Frm.of_grown s2 (by omega)⟩
  · have := h.blk.grown s2 (fun q => by have := Option.some.inj q; omega)
    unfold btL at *
    simpa using this
  · exact ⟨by rw [e]; exact s1, h.rows.r2.grown s2 (fun a ea q => h.rows.p12 _ a e ea (by simpa using q.symm)), h.rows.r3.grown s2 (fun a ea q => h.rows.p13 _ a e ea (by simpa using q.symm)), h.rows.r4.grown s2 (fun a ea q => h.rows.p14 _ a e ea (by simpa using q.symm)), h.rows.r5.grown s2 (fun a ea q => h.rows.p15 _ a e ea (by simpa using q.symm)), h.rows.p12, h.rows.p13, h.rows.p14, h.rows.p15, h.rows.p23, h.rows.p24, h.rows.p25, h.rows.p34, h.rows.p35, h.rows.p45⟩
theorem NB.setBt {w : World} {g : Nat} {L : At5} {b : Bt} (h : NB w g L b) {gf off : Nat} (e : L.a2 = some ⟨gf, off, none⟩) (k : Nat) (hk : k < b.bt.length) (v : Int) :
    NB (w.setCell ⟨gf, off + k, none⟩ (.int .i64 v)) g L { b with bt := b.bt.set k v } ∧ Frm g w (w.setCell ⟨gf, off + k, none⟩ (.int .i64 v)) := by
  have rj := h.rows.r2
  rw [e] at rj
  obtain ⟨s1, s2⟩ := rj.setAt k hk v
  have hlo := (h.rows.r2.1 _ e).1
  simp only at hlo
  refine ⟨⟨?_, ?_⟩, Frm.of_grown s2 (by omega)⟩
  · have := h.blk.grown s2 (fun q => by have := Option.some.inj q; omega)
    unfold btL at *
    simpa using this
  · exact ⟨h.rows.r1.grown s2 (fun a ea q => h.rows.p12 a _ ea e (by simpa using q)), by rw [e]; exact s1, h.rows.r3.grown s2 (fun a ea q => h.rows.p23 _ a e ea (by simpa using q.symm)), h.rows.r4.grown s2 (fun a ea q => h.rows.p24 _ a e ea (by simpa using q.symm)), h.rows.r5.grown s2 (fun a ea q => h.rows.p25 _ a e ea (by simpa using q.symm)), h.rows.p12, h.rows.p13, h.rows.p14, h.rows.p15, h.rows.p23, h.rows.p24, h.rows.p25, h.rows.p34, h.rows.p35, h.rows.p45⟩
theorem NB.setFo {w : World} {g : Nat} {L : At5} {b : Bt} (h : NB w g L b) {gf off : Nat} (e : L.a4 = some ⟨gf, off, none⟩) (k : Nat) (hk : k < b.fo.length) (v : Bool) :
    NB (w.setCell ⟨gf, off + k, none⟩ (.bool v)) g L { b with fo := b.fo.set k v } ∧ Frm g w (w.setCell ⟨gf, off + k, none⟩ (.bool v)) := by
  have rj := h.rows.r4
  rw [e] at rj
  obtain ⟨s1, s2⟩ := rj.setAt k hk v
  have hlo := (h.rows.r4.1 _ e).1
  simp only at hlo
  refine ⟨⟨?_, ?_⟩, Frm.of_grown s2 (by omega)⟩
  · have := h.blk.grown s2 (fun q => by have := Option.some.inj q; omega)
    unfold btL at *
    simpa using this
  · exact ⟨h.rows.r1.grown s2 (fun a ea q => h.rows.p14 a _ ea e (by simpa using q)), h.rows.r2.grown s2 (fun a ea q => h.rows.p24 a _ ea e (by simpa using q)), h.rows.r3.grown s2 (fun a ea q => h.rows.p34 a _ ea e (by simpa using q)), by rw [e]; exact s1, h.rows.r5.grown s2 (fun a ea q => h.rows.p45 _ a e ea (by simpa using q.symm)), h.rows.p12, h.rows.p13, h.rows.p14, h.rows.p15, h.rows.p23, h.rows.p24, h.rows.p25, h.rows.p34, h.rows.p35, h.rows.p45⟩
theorem NB.setAc {w : World} {g : Nat} {L : At5} {b : Bt} (h : NB w g L b) {gf off : Nat} (e : L.a5 = some ⟨gf, off, none⟩) (k : Nat) (hk : k < b.ac.length) (v : Bool) :
    NB (w.setCell ⟨gf, off + k, none⟩ (.bool v)) g L { b with ac := b.ac.set k v } ∧ Frm g w (w.setCell ⟨gf, off + k, none⟩ (.bool v)) := by
  have rj := h.rows.r5
  rw [e] at rj
  obtain ⟨s1, s2⟩ := rj.setAt k hk v
  have hlo := (h.rows.r5.1 _ e).1
  simp only at hlo
  refine ⟨⟨?_, ?_⟩, Frm.of_grown s2 (by omega)⟩
  · have := h.blk.grown s2 (fun q => by have := Option.some.inj q; omega)
    unfold btL at *
    simpa using this
  · exact ⟨h.rows.r1.grown s2 (fun a ea q => h.rows.p15 a _ ea e (by simpa using q)), h.rows.r2.grown s2 (fun a ea q => h.rows.p25 a _ ea e (by simpa using q)), h.rows.r3.grown s2 (fun a ea q => h.rows.p35 a _ ea e (by simpa using q)), h.rows.r4.grown s2 (fun a ea q => h.rows.p45 a _ ea e (by simpa using q)), by rw [e]; exact s1, h.rows.p12, h.rows.p13, h.rows.p14, h.rows.p15, h.rows.p23, h.rows.p24, h.rows.p25, h.rows.p34, h.rows.p35, h.rows.p45⟩
theorem NB.setTu {w w' : World} {g : Nat} {L : At5} {b : Bt} (h : NB w g L b) (v : Int) (hB : Blk w' g 27 ((btL L b).set 5 (.int .i64 v))) (hg : w.grownBy w' (some g)) : NB w' g L { b with tu := v } ∧ Frm g w w' := by
  have ne : ∀ {A : Option Addr}, (∀ a, A = some a → g + 1 ≤ a.block ∧ a.block < w.heap.size) → ∀ a, A = some a → some a.block ≠ some g := fun q a ea r => by
    have := (q a ea).1
    have := Option.some.inj r
    omega
  exact ⟨⟨hB, ⟨h.rows.r1.grown hg (ne h.rows.r1.1), h.rows.r2.grown hg (ne h.rows.r2.1), h.rows.r3.grown hg (ne h.rows.r3.1), h.rows.r4.grown hg (ne h.rows.r4.1), h.rows.r5.grown hg (ne h.rows.r5.1), h.rows.p12, h.rows.p13, h.rows.p14, h.rows.p15, h.rows.p23, h.rows.p24, h.rows.p25, h.rows.p34, h.rows.p35, h.rows.p45⟩⟩, Frm.of_grown hg (Nat.le_refl _)⟩
theorem NB.setUn {w w' : World} {g : Nat} {L : At5} {b : Bt} (h : NB w g L b) (v : Int) (hB : Blk w' g 27 ((btL L b).set 6 (.int .i64 v))) (hg : w.grownBy w' (some g)) : NB w' g L { b with un := v } ∧ Frm g w w' := by
  have ne : ∀ {A : Option Addr}, (∀ a, A = some a → g + 1 ≤ a.block ∧ a.block < w.heap.size) → ∀ a, A = some a → some a.block ≠ some g := fun q a ea r => by
    have := (q a ea).1
    have := Option.some.inj r
    omega
  exact ⟨⟨hB, ⟨h.rows.r1.grown hg (ne h.rows.r1.1), h.rows.r2.grown hg (ne h.rows.r2.1), h.rows.r3.grown hg (ne h.rows.r3.1), h.rows.r4.grown hg (ne h.rows.r4.1), h.rows.r5.grown hg (ne h.rows.r5.1), h.rows.p12, h.rows.p13, h.rows.p14, h.rows.p15, h.rows.p23, h.rows.p24, h.rows.p25, h.rows.p34, h.rows.p35, h.rows.p45⟩⟩, Frm.of_grown hg (Nat.le_refl _)⟩
theorem NB.setRa {w w' : World} {g : Nat} {L : At5} {b : Bt} (h : NB w g L b) (v : Int) (hB : Blk w' g 27 ((btL L b).set 7 (.int .i64 v))) (hg : w.grownBy w' (some g)) : NB w' g L { b with ra := v } ∧ Frm g w w' := by
  have ne : ∀ {A : Option Addr}, (∀ a, A = some a → g + 1 ≤ a.block ∧ a.block < w.heap.size) → ∀ a, A = some a → some a.block ≠ some g := fun q a ea r => by
    have := (q a ea).1
    have := Option.some.inj r
    omega
  exact ⟨⟨hB, ⟨h.rows.r1.grown hg (ne h.rows.r1.1), h.rows.r2.grown hg (ne h.rows.r2.1), h.rows.r3.grown hg (ne h.rows.r3.1), h.rows.r4.grown hg (ne h.rows.r4.1), h.rows.r5.grown hg (ne h.rows.r5.1), h.rows.p12, h.rows.p13, h.rows.p14, h.rows.p15, h.rows.p23, h.rows.p24, h.rows.p25, h.rows.p34, h.rows.p35, h.rows.p45⟩⟩, Frm.of_grown hg (Nat.le_refl _)⟩
end Go.Proofs.Ytnllndcajdofjaa
