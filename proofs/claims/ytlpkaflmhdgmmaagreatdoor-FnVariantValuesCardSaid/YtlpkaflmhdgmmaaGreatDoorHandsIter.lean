/-
  The program's iterator over all hands of a player.
-/
import Derived.Test.YtlpkaflmhdgmmaaGreatDoorHandFrom
import Derived.Test.YtlpkaflmhdgmmaaGreatDoorHandsPure
import Derived.Test.YtlpkaflmhdgmmaaGreatDoorAnyS
import Derived.Test.YtlpkaflmhdgmmaaGreatDoorRoundRegion
import Derived.Sort.LoopGhostIn
namespace Go.Proofs.YtlpkaflmhdgmmaaGreatDoor
open Go.RowKit
set_option linter.unusedVariables false
attribute [local go_sem] Oper.semAt_some

/-- The blocks that the iterator keeps for itself. -/
def kHands : TypeId → Bool := fun t => t == 3 || t == 86 || t == 82
theorem kHands_int : ∀ t, kInt t = true → kHands t = true := fun t h => by unfold kInt at h; unfold kHands; rw [h]; rfl
/-- What it hands to yield at the i-th round. -/
def YH (hcs bs : List Int) (l M : Nat) (i : Nat) (W : World) (ar : Array Value) : Prop := ar = #[aggI ((hRows hcs bs l M).getD i [])] ∧ ((hRows hcs bs l M).getD i []).length = 5
/-- What the closure's boxes hold. -/
def BoxH (A : Option Addr) (c : Nat) (hcs : List Int) (A2 : Option Addr) (cb : Nat) (bs : List Int) (l m : Nat) (b1 b2 b3 : Nat) (W : World) : Prop :=
  W.cell? ⟨b1, 1, none⟩ = some (.int .i64 l) ∧ W.cell? ⟨b1, 2, none⟩ = some (.int .i64 m) ∧ W.cell? ⟨b2, 0, none⟩ = some (.slice A hcs.length c) ∧ W.cell? ⟨b3, 0, none⟩ = some (.slice A2 bs.length cb) ∧ Rd W A hcs ∧ Rd W A2 bs

/-- The marks that the ranges leave. -/
def MarksD (lo : Nat) (Ds : List Nat) (W : World) : Prop := Ds.Nodup ∧ ∀ D ∈ Ds, lo ≤ D ∧ W.heap[D]? = some (Obj.deferred (some []))
def marksL (Ds : List Nat) : List Deferred := Ds.map fun D => { target := .collected D, args := #[] }
theorem MarksD.keep {lo : Nat} {Ds : List Nat} {A B : World} (h : MarksD lo Ds A) (hk : ∀ D ∈ Ds, A.heap[D]? = some (Obj.deferred (some [])) → B.heap[D]? = some (Obj.deferred (some []))) : MarksD lo Ds B :=
  ⟨h.1, fun D hD => ⟨(h.2 D hD).1, hk D hD (h.2 D hD).2⟩⟩
theorem MarksD.below {lo : Nat} {Ds : List Nat} {A B : World} (h : MarksD lo Ds A) (hb : Below A.heap.size A B) : MarksD lo Ds B :=
  h.keep (fun D _ hD => (hb.block D (Array.getElem?_eq_some_iff.1 hD).1).trans hD)
theorem MarksD.con {K : TypeId → Bool} {lo : Nat} {Ds : List Nat} {A B : World} (h : MarksD lo Ds A) (hb : Con K A B) : MarksD lo Ds B :=
  h.keep (fun D _ hD => hb.2 D _ hD trivial)
theorem MarksD.cons {lo n0 D : Nat} {Ds : List Nat} {W : World} (h : MarksD lo Ds W) (hA : ∀ E ∈ Ds, E < n0) (hD : n0 ≤ D) (hl : lo ≤ D) (hW : W.heap[D]? = some (Obj.deferred (some []))) : MarksD lo (D :: Ds) W :=
  ⟨List.nodup_cons.2 ⟨fun hm => by have := hA D hm; omega, h.1⟩, fun E hE => by
    rcases List.mem_cons.1 hE with rfl | hE
    · exact ⟨hl, hW⟩
    · exact h.2 E hE⟩
theorem MarksD.lt {lo : Nat} {Ds : List Nat} {W : World} (h : MarksD lo Ds W) : ∀ E ∈ Ds, E < W.heap.size := fun E hE => (Array.getElem?_eq_some_iff.1 (h.2 E hE).2).1
theorem leaves_marks {K : TypeId → Bool} {n : Nat} {P : Program} {fn : Func} {tmps : Array Value} {R : Ending → World → Prop} {v : Value} {lo : Nat} (hres : ∀ W, (results fn tmps).run P W = .ok v W) :
    ∀ (Ds : List Nat) (W : World), MarksD lo Ds W → (∀ W', ItW K lo W W' → R (.returned v) W') → LeavesInM Fence.wide n P fn tmps R (marksL Ds) .returning W
  | [], W, _, hR => ⟨v, hres W, hR W (ItW.refl _ _ _)⟩
  | D :: Ds, W, h, hR => by
    obtain ⟨hl, hD⟩ := h.2 D (List.mem_cons_self ..)
    have hnd := List.nodup_cons.1 h.1
    refine ⟨by simp, .inl ⟨D, W.putObj D (.deferred none), rfl, run_takeDeferred hD, ?_⟩⟩
    refine leaves_marks hres Ds _ ⟨hnd.2, fun E hE => ?_⟩ (fun W' hW' => hR W' ((itw_put hD rfl hl).trans hW'))
    obtain ⟨h1, h2⟩ := h.2 E (List.mem_cons_of_mem _ hE)
    exact ⟨h1, (World.putObj_heap_other (by rintro rfl; exact hnd.1 hE)).trans h2⟩

theorem roundIn_wide {n n' l f : Nat} {P : Program} {tmps : Array Value} {assign body : Code} {W : World} {R : Ending → World → Prop} (h : RoundIn Fence.wide n P l f tmps assign body W R) : RoundIn Fence.wide n' P l f tmps assign body W R :=
  ⟨h.1, fun c cs _ => h.2 c cs (fun d hd => by cases hd)⟩
theorem lt_of_cellH {W : World} {b off : Nat} {v : Value} (h : W.cell? ⟨b, off, none⟩ = some v) : b < W.heap.size := by
  cases hb : W.heap[b]? with
  | none => rw [World.cell?, hb] at h; cases h
  | some o => exact (Array.getElem?_eq_some_iff.1 hb).1
/-- What the rounds over the choices of hole cards keep. -/
def OSt (W W1 : World) (lp q n o : Nat) (Ds : List Nat) (J : World → Prop) (W' : World) : Prop :=
  J W' ∧ Blk W' W.heap.size 82 [.func (.yield lp) #[] #[]] ∧ Blk W' o 3 (ints [(q : Int)]) ∧ MarksD W.heap.size Ds W' ∧ Blk W' W1.heap.size 3 (ints [(n : Int)]) ∧ Blk W' (W1.heap.size + 1) 3 (ints [(q : Int)])
theorem OSt.itw {W W1 : World} {lp q n o n0 i : Nat} {Ds : List Nat} {J : Nat → World → Prop} {A B : World} (h : OSt W W1 lp q n o Ds (J i) A) (hJ : ∀ i A B, J i A → ItW kHands W.heap.size A B → J i B) (hw : W.heap.size ≤ n0) (hz : n0 = W1.heap.size + 1 + 1)
    (hm : ∀ D ∈ Ds, D < W1.heap.size) (ho : o < W1.heap.size) (hy : W.heap.size < W1.heap.size) (hb : ItW kInt n0 A B) : OSt W W1 lp q n o Ds (J i) B := by
  obtain ⟨h1, h2, h3, h4, h5, h6⟩ := h
  have k : ∀ {g : Nat} {t : TypeId} {vs : List Value}, Blk A g t vs → g < n0 → Blk B g t vs := fun hq hg => (hb.1.block _ hg).trans hq
  exact ⟨hJ _ _ _ h1 (hb.mono hw kHands_int), k h2 (by omega), k h3 (by omega), h4.keep (fun D hD hq => (hb.1.block D (by have := hm D hD; omega)).trans hq), k h5 (by omega), k h6 (by omega)⟩
/-- What the rounds over the choices of the board's cards keep. -/
def ISt (W W0 W3 : World) (lp q p n o gb : Nat) (cs : List Int) (J : World → Prop) (W' : World) : Prop :=
  J W' ∧ Blk W' W.heap.size 82 [.func (.yield lp) #[] #[]] ∧ Blk W' o 3 (ints [(q : Int)]) ∧ Blk W' W0.heap.size 86 [.slice (some ⟨gb, 0, none⟩) q q] ∧ Blk W' gb 3 (ints cs) ∧ Blk W' W3.heap.size 3 (ints [(n : Int)]) ∧ Blk W' (W3.heap.size + 1) 3 (ints [(p : Int)]) ∧ Con kInt W3 W'
theorem ISt.itw {W W0 W3 : World} {lp q p n o gb n0 j : Nat} {cs : List Int} {J : Nat → World → Prop} {A B : World} (h : ISt W W0 W3 lp q p n o gb cs (J j) A) (hJ : ∀ i A B, J i A → ItW kHands W.heap.size A B → J i B) (hz : n0 = W3.heap.size + 1 + 1)
    (ho : o < W3.heap.size) (hy : W.heap.size < W3.heap.size) (hn : W0.heap.size < W3.heap.size) (hg : gb < W3.heap.size) (hb : ItW kInt n0 A B) : ISt W W0 W3 lp q p n o gb cs (J j) B := by
  obtain ⟨h1, h2, h3, h4, h5, h6, h7, h8⟩ := h
  have k : ∀ {g : Nat} {t : TypeId} {vs : List Value}, Blk A g t vs → g < n0 → Blk B g t vs := fun hq hg => (hb.1.block _ hg).trans hq
  have hs := hb.1.size
  exact ⟨hJ _ _ _ h1 (hb.mono (by omega) kHands_int), k h2 (by omega), k h3 (by omega), k h4 (by omega), k h5 (by omega), k h6 (by omega), k h7 (by omega),
    ⟨Nat.le_trans h8.1 hs, fun g ob hg hk => (hb.1.block g (by have := (Array.getElem?_eq_some_iff.1 hg).1; omega)).trans (h8.2 g ob hg hk)⟩⟩
/-- What the rounds over the numbers of hole cards keep. -/
def HSt (W : World) (lp l : Nat) (J : World → Prop) (k o : Nat) (Ds : List Nat) (W' : World) : Prop :=
  J W' ∧ Blk W' W.heap.size 82 [.func (.yield lp) #[] #[]] ∧ Blk W' o 3 (ints [((l + k : Nat) : Int)]) ∧ W.heap.size < o ∧ MarksD W.heap.size Ds W'

set_option maxRecDepth 100000 in
set_option maxHeartbeats 1000000 in
theorem handsIter_any (fn : Nat) (A : Option Addr) (c : Nat) (hcs : List Int) (A2 : Option Addr) (cb : Nat) (bs : List Int) (l m b1 b2 b3 : Nat) (hh : hcs.length ≤ 7) (hb : bs.length ≤ 7) (hlm : l ≤ m) (hm : m ≤ 5)
    (I : Nat → World → Prop) (w : World) (hfn : 7 ≤ fn) (hbox : ∀ i W, I i W → BoxH A c hcs A2 cb bs l m b1 b2 b3 W) :
    IterC Fence.wide fn Tryz.prog 50 #[.pointer (some ⟨b1, 0, none⟩), .pointer (some ⟨b2, 0, none⟩), .pointer (some ⟨b3, 0, none⟩)]
      (hRows hcs bs l (m + 1 - l)).length (YH hcs bs l (m + 1 - l)) kHands I w := by
  intro lp J W hW hJ hJI hY h0
  obtain ⟨M, eM⟩ : ∃ M, M = m + 1 - l := ⟨_, rfl⟩
  rw [← eM] at hY ⊢
  refine callsIn_of_wp_marks Tryz.func50 rfl trivial ?_ rfl
  simp only [Tryz.ntmps50, List.size_toArray, List.length_cons, List.length_nil, Nat.reduceAdd, Nat.reduceSub, Array.replicate_succ, Array.replicate_zero, List.push_toArray, List.append_toArray, List.nil_append, List.cons_append]
  have HBX : Hid (∀ i W', J i W' → BoxH A c hcs A2 cb bs l m b1 b2 b3 W') := Lib.hid (fun i W' h => hbox i W' (hJI i W' h))
  have HJ := Lib.hid hJ
  have hf1 : 1 ≤ fn := by omega
  have hf3 : 1 ≤ fn - 1 - 1 := by omega
  have hf5 : 1 ≤ fn - 1 - 1 - 1 - 1 := by omega
  have HY := Lib.hid hY
  have B1 := Lib.hid (bl_alloc (bl_refl W) (.cells #[.func (.yield lp) #[] #[]] 82))
  have B2 := Lib.hid (bl_alloc B1.out (.cells #[.int .i64 (l : Int)] 3))
  have hz1 : (W.alloc (.cells #[.func (.yield lp) #[] #[]] 82)).heap.size = W.heap.size + 1 := World.size_alloc _ _
  have HS : Hid (HSt W lp l (J (hRows hcs bs l 0).length) 0 (W.heap.size + 1) [] ((W.alloc (.cells #[.func (.yield lp) #[] #[]] 82)).alloc (.cells #[.int .i64 (l : Int)] 3))) :=
    Lib.hid (by
      have n2 := blk_new (W.alloc (.cells #[.func (.yield lp) #[] #[]] 82)) 3 [.int .i64 (l : Int)]
      rw [hz1] at n2
      exact ⟨hJ 0 W _ h0 (itw_below B2.out (Nat.le_refl _)), (blk_new W 82 [.func (.yield lp) #[] #[]]).below (bl_alloc (bl_refl _) _), n2, Nat.lt_succ_self _, List.nodup_nil, fun D h => by cases h⟩)
  obtain ⟨c1, _⟩ := HBX.out 0 _ (hJ 0 W _ h0 (itw_below B1.out (Nat.le_refl _)))
  clear hbox hJI hJ hY h0 hW B1 B2
  gi_wp2
  clear c1
  refine wpIn_loop_ghost_k (fun n a W' => ∃ (k o : Nat) (Ds : List Nat) (u6 u7 u8 u9 u10 u11 u12 u13 u14 u15 u16 u17 u18 u19 u20 u21 u22 u23 u24 u25 u26 u27 u28 u29 u30 u31 u32 u33 u34 u35 : Value), n = M - k ∧ k ≤ M ∧ a = { tmps := #[.func (.yield lp) #[] #[], .pointer (some ⟨b1, 0, none⟩), .pointer (some ⟨b2, 0, none⟩), .pointer (some ⟨b3, 0, none⟩), .pointer (some ⟨W.heap.size, 0, none⟩), .pointer (some ⟨o, 0, none⟩), u6, u7, u8, u9, u10, u11, u12, u13, u14, u15, u16, u17, u18, u19, u20, u21, u22, u23, u24, u25, u26, u27, u28, u29, u30, u31, u32, u33, u34, u35], defers := marksL Ds } ∧ Hid (HSt W lp l (J (hRows hcs bs l k).length) k o Ds W')) M ?atStart ?round
  case atStart =>
    refine ⟨0, W.heap.size + 1, [], _, _, _, _, _, _, _, _, _, _, _, _, _, _, _, _, _, _, _, _, _, _, _, _, _, _, _, _, _, _, by omega, by omega, rfl, HS⟩
  case round =>
    clear HS hz1
    rintro n a W1 ⟨k, o, Ds, v6, v7, v8, v9, v10, v11, v12, v13, v14, v15, v16, v17, v18, v19, v20, v21, v22, v23, v24, v25, v26, v27, v28, v29, v30, v31, v32, v33, v34, v35, hn, hk, rfl, hs⟩ J' K' hJ' hK'
    obtain ⟨s1, s2, s3, s4, s5⟩ := hs.out
    obtain ⟨c1, c2, c3, c4, _⟩ := HBX.out _ _ s1
    obtain ⟨q, eq⟩ : ∃ q, q = l + k := ⟨_, rfl⟩
    rw [← eq] at s3
    have EQ := Lib.hid eq
    have EM := Lib.hid eM
    have co := (s3.cell 0 _ rfl).1
    have S1 := Lib.hid s1
    have S2 := Lib.hid s2
    have S3 := Lib.hid s3
    have S4 := Lib.hid s4
    have S5 := Lib.hid s5
    clear hs s1 s2 s3 s4 s5 eq eM
    by_cases hlt : k < M
    · have hlt' : (q : Int) ≤ (m : Int) := by have := EQ.out; have := EM.out; omega
      have hq5 : q ≤ 5 := by have := EQ.out; have := EM.out; omega
      gi_wp2_with (refine ⟨trivial, ?_⟩; gi_at_call 51; refine (callsIn_wide.2 (choicesOfS_any (hcs.length : Int) (q : Int) W1)).mono ?_; rintro e w1 ⟨rfl, rfl⟩)
      have n1 := (blk_new W1 3 [.int .i64 (hcs.length : Int)]).below (bl_alloc (bl_refl _) (.cells #[.int .i64 (q : Int)] 3))
      have n2 := blk_new (W1.alloc (.cells #[.int .i64 (hcs.length : Int)] 3)) 3 [.int .i64 (q : Int)]
      have hz2 : ((W1.alloc (.cells #[.int .i64 (hcs.length : Int)] 3)).alloc (.cells #[.int .i64 (q : Int)] 3)).heap.size = W1.heap.size + 1 + 1 := by simp
      have hb2 := bl_alloc (bl_alloc (bl_refl W1) (.cells #[.int .i64 (hcs.length : Int)] 3)) (.cells #[.int .i64 (q : Int)] 3)
      rw [World.size_alloc] at n2
      simp only [List.toArray] at n1 n2
      obtain ⟨W2, eW2⟩ : ∃ W2, W2 = (W1.alloc (.cells #[.int .i64 (hcs.length : Int)] 3)).alloc (.cells #[.int .i64 (q : Int)] 3) := ⟨_, rfl⟩
      rw [← eW2] at n1 n2 hz2 hb2 ⊢
      clear eW2
      have LO := Lib.hid S3.out.lt
      have LY := Lib.hid S2.out.lt
      have LM := Lib.hid S5.out.lt
      have O0 : Hid (OSt W W1 lp q hcs.length o Ds (J (hNo hcs bs l k 0 0)) W2) := Lib.hid ⟨by rw [hNo_start]; exact HJ.out _ _ _ S1.out (itw_below hb2 (by have := LY.out; omega)), S2.out.below hb2, S3.out.below hb2, S5.out.below hb2, n1, n2⟩
      clear n1 n2 c1 c2 c3 c4 co hb2
      refine wpIn_rangeC rfl (by omega) (gf := 75) (lb := #[.pointer (some ⟨W1.heap.size + 1, 0, none⟩), .pointer (some ⟨W1.heap.size, 0, none⟩)]) rfl trivial (enters_of Tryz.func75 (by kernel_rfl) rfl)
        (iterC_any (fn - 1) hcs.length q (W1.heap.size + 1) W1.heap.size hh hq5 (fun i W' => OSt W W1 lp q hcs.length o Ds (J (hNo hcs bs l k i 0)) W') W2 (by omega) (fun i W' h => ⟨(h.2.2.2.2.2.cell 0 _ rfl).1, (h.2.2.2.2.1.cell 0 _ rfl).1⟩))
        (fun i W' ar h => by obtain ⟨gb, rfl, _⟩ := h; rfl) (fun i A' B' ar h hc => h.keep hc)
        (fun i A' B' h hb' => h.itw HJ.out (by have := LY.out; omega) hz2 LM.out LO.out LY.out hb') O0.out
        (fun ar W' => { tmps := #[.func (.yield lp) #[] #[], .pointer (some ⟨b1, 0, none⟩), .pointer (some ⟨b2, 0, none⟩), .pointer (some ⟨b3, 0, none⟩), .pointer (some ⟨W.heap.size, 0, none⟩), .pointer (some ⟨o, 0, none⟩),
          .pointer (some ⟨W'.heap.size, 0, none⟩), v7, v8, v9, .int .i64 q, .pointer (some ⟨b1, 2, none⟩), .int .i64 m, .bool true, v14, v15, .slice A hcs.length c, .int .i64 hcs.length, .int .i64 q,
          .func (.func 75) #[] #[.pointer (some ⟨W1.heap.size + 1, 0, none⟩), .pointer (some ⟨W1.heap.size, 0, none⟩)], ar.getD 0 undef, v21, v22, v23, v24, v25, v26, v27, v28, v29, v30, v31, v32, v33, v34, v35], defers := [] })
        (fun ar W' => W'.alloc (.cells #[ar.getD 0 undef] 86)) (fun ar W' => bl_alloc (bl_refl W') _) ?assign ?body ?done
      case assign =>
        rintro lr i ar W' Kc ⟨gb, rfl, hgb⟩ hKc
        clear hgb
        gi_wp2
        exact hKc
      case body =>
        rintro lr i ar W0 W3 hi hI ⟨gb, rfl, hgb⟩ hgl ⟨r0, hr0⟩ hW0 hca hsz
        obtain ⟨i1, i2, i3, i4, i5, i6⟩ := hI
        have n3 : Blk W3 W0.heap.size 86 [.slice (some ⟨gb, 0, none⟩) q q] := hca _ _ _ _ (blk_new W0 86 [.slice (some ⟨gb, 0, none⟩) q q])
        obtain ⟨_, _, _, c4, _, _⟩ := HBX.out _ _ i1
        have co := (i3.cell 0 _ rfl).1
        obtain ⟨p, ep⟩ : ∃ p, p = 5 - q := ⟨_, rfl⟩
        have EP := Lib.hid ep
        have hp : (5 : Int) - (q : Int) = (p : Int) := by omega
        have hp5 : (p : Int) ≤ 5 := by omega
        have I1 := Lib.hid i1
        have I2 := Lib.hid i2
        have I3 := Lib.hid i3
        have I4 := Lib.hid i4
        have I5 := Lib.hid i5
        have I6 := Lib.hid i6
        have N3 := Lib.hid n3
        have GB := Lib.hid hgb
        have HR0 := Lib.hid hr0
        clear i1 i2 i3 i4 i5 i6 n3 hgb hr0 hca hsz ep O0
        simp only [Array.getD_eq_getD_getElem?]
        gi_wp2_with (refine ⟨trivial, ?_⟩; gi_at_call 51; refine (callsIn_wide.2 (choicesOfS_any (bs.length : Int) (p : Int) W3)).mono ?_; rintro e w1 ⟨rfl, rfl⟩)
        have n1 := (blk_new W3 3 [.int .i64 (bs.length : Int)]).below (bl_alloc (bl_refl _) (.cells #[.int .i64 (p : Int)] 3))
        have n2 := blk_new (W3.alloc (.cells #[.int .i64 (bs.length : Int)] 3)) 3 [.int .i64 (p : Int)]
        have hz4 : ((W3.alloc (.cells #[.int .i64 (bs.length : Int)] 3)).alloc (.cells #[.int .i64 (p : Int)] 3)).heap.size = W3.heap.size + 1 + 1 := by simp
        have hb4 := bl_alloc (bl_alloc (bl_refl W3) (.cells #[.int .i64 (bs.length : Int)] 3)) (.cells #[.int .i64 (p : Int)] 3)
        rw [World.size_alloc] at n2
        simp only [List.toArray] at n1 n2
        obtain ⟨W4, eW4⟩ : ∃ W4, W4 = (W3.alloc (.cells #[.int .i64 (bs.length : Int)] 3)).alloc (.cells #[.int .i64 (p : Int)] 3) := ⟨_, rfl⟩
        rw [← eW4] at n1 n2 hz4 hb4 ⊢
        clear eW4
        have PO := Lib.hid I3.out.lt
        have PY := Lib.hid I2.out.lt
        have PN := Lib.hid N3.out.lt
        have PG := Lib.hid GB.out.lt
        have Q0 : Hid (ISt W W0 W3 lp q p bs.length o gb ((idxC hcs.length q).getD i []) (J (hNo hcs bs l k i 0)) W4) := Lib.hid ⟨HJ.out _ _ _ I1.out (itw_below hb4 (by have := PY.out; omega)), I2.out.below hb4, I3.out.below hb4, N3.out.below hb4, GB.out.below hb4, n1, n2, con_below hb4⟩
        have hl4 : W4.heap[lr]? = some (.loop r0) := (hb4.block lr (Array.getElem?_eq_some_iff.1 HR0.out).1).trans HR0.out
        clear n1 n2 c4 co hb4
        refine wpIn_rangeCN (l₀ := lr) rfl hl4 hf3 (gf := 75) (lb := #[.pointer (some ⟨W3.heap.size + 1, 0, none⟩), .pointer (some ⟨W3.heap.size, 0, none⟩)]) rfl trivial (enters_of Tryz.func75 (by kernel_rfl) rfl)
          ((iterC_any (fn - 1 - 1 - 1) bs.length p (W3.heap.size + 1) W3.heap.size hb (by omega) (fun j W' => ISt W W0 W3 lp q p bs.length o gb ((idxC hcs.length q).getD i []) (J (hNo hcs bs l k i j)) W') W4 (by omega) (fun j W' h => ⟨(h.2.2.2.2.2.2.1.cell 0 _ rfl).1, (h.2.2.2.2.2.1.cell 0 _ rfl).1⟩)).inRound lr)
          (fun j W' ar h => by obtain ⟨gb2, rfl, _⟩ := h; rfl) (fun j A' B' ar h hc => h.keep hc)
          (fun j A' B' h hb' => h.itw HJ.out hz4 PO.out PY.out PN.out PG.out hb') Q0.out
          (fun ar W' => { tmps := #[.func (.yield lp) #[] #[], .pointer (some ⟨b1, 0, none⟩), .pointer (some ⟨b2, 0, none⟩), .pointer (some ⟨b3, 0, none⟩), .pointer (some ⟨W.heap.size, 0, none⟩), .pointer (some ⟨o, 0, none⟩),
            .pointer (some ⟨W0.heap.size, 0, none⟩), ar.getD 0 undef, v8, v9, .int .i64 q, .pointer (some ⟨b1, 2, none⟩), .int .i64 m, .bool true, v14, v15, .slice A hcs.length c, .int .i64 hcs.length, .int .i64 q,
            .func (.func 75) #[] #[.pointer (some ⟨W1.heap.size + 1, 0, none⟩), .pointer (some ⟨W1.heap.size, 0, none⟩)], .slice (some ⟨gb, 0, none⟩) q q, .slice A2 bs.length cb, .int .i64 bs.length, .int .i64 q, .int .i64 p,
            .func (.func 75) #[] #[.pointer (some ⟨W3.heap.size + 1, 0, none⟩), .pointer (some ⟨W3.heap.size, 0, none⟩)], ar.getD 0 undef, v27, v28, v29, v30, v31, v32, v33, v34, v35], defers := [] })
          (fun ar W' => W') (fun ar W' => bl_refl W') ?assignN ?bodyN ?doneN
        case assignN =>
          rintro lr2 j ar W' Kc ⟨gb2, rfl, hgb2⟩ hKc
          clear hgb2
          gi_wp2
          exact hKc
        case bodyN =>
          rintro lr2 j ar W5' W5 hj hI2 ⟨gb2, rfl, hgb2⟩ hgl2 hrl2 hW5 hca2 hsz2
          obtain ⟨j1, j2, j3, j4, j5, j6, j7, j8⟩ := hI2
          obtain ⟨_, _, c3, c4, r1, r2⟩ := HBX.out _ _ j1
          obtain ⟨l1, x1, _, _⟩ := idxC_facts hcs.length q hh hq5 i hi
          obtain ⟨l2, x2, _, _⟩ := idxC_facts bs.length p hb (by omega) j hj
          obtain ⟨v1, v2⟩ := hNo_at hcs bs l k M i j hlt (by rw [← EQ.out]; exact hi) (by rw [← EQ.out, ← EP.out]; exact hj)
          rw [← EQ.out, ← EP.out] at v1
          have KH := Lib.hid (fun (W' : World) (hb' : Below W5.heap.size W5 W') => handFrom_any A c hcs gb q ((idxC hcs.length q).getD i []) A2 cb bs gb2 p ((idxC bs.length p).getD j []) W' (r1.below hb') (by omega) (j5.below hb') l1 x1 (r2.below hb') (by omega) (hgb2.below hb') l2 x2 (by have := EP.out; omega))
          have KY := Lib.hid (fun (W' : World) (hj' : J (hNo hcs bs l k i j) W') (hw : W.heap.size ≤ W'.heap.size) => HY.out (hNo hcs bs l k i j) #[aggI (pickL hcs ((idxC hcs.length q).getD i []) ++ pickL bs ((idxC bs.length p).getD j []))] W' v2 hj' ⟨by rw [v1], by rw [v1, List.length_append, pickL_len, pickL_len, l1, l2]; have := EP.out; omega⟩ hw)
          have cy := (j2.cell 0 _ rfl).1
          have cn := (j4.cell 0 _ rfl).1
          have gy := j2.lt
          have gn := j4.lt
          have g2 : b2 < W5.heap.size := lt_of_cellH c3
          have g3 : b3 < W5.heap.size := lt_of_cellH c4
          generalize aggI (pickL hcs ((idxC hcs.length q).getD i []) ++ pickL bs ((idxC bs.length p).getD j [])) = hv at *
          have J1 := Lib.hid j1
          have J2 := Lib.hid j2
          have J3 := Lib.hid j3
          have J4 := Lib.hid j4
          have J5 := Lib.hid j5
          have J6 := Lib.hid j6
          have J7 := Lib.hid j7
          have J8 := Lib.hid j8
          have hmx : Tryz.prog.follows .mixedOrders = true := by kernel_rfl
          clear j1 j2 j3 j4 j5 j6 j7 j8 r1 r2 l1 x1 l2 x2 v1 v2 hgb2 hca2 hsz2 hrl2 Q0 hl4
          simp only [Array.getD_eq_getD_getElem?]
          gi_wp2
          change Code.wpIn (Fence.wide.inRound lr2) _ _ _ _ _ _
          refine wpIn_region_anyR lr2 rfl hmx (noDefer_spec (by kernel_rfl)) ?_
          refine wpAnyIn_S (S := fun W' => Below W5.heap.size W5 W') (last := 6) (m := 1) (k := 6) rfl (fun HC0 => ?_)
          have hS0 : Below W5.heap.size W5 { W5 with drawn := W5.drawn + 1 } := bl_drew (bl_refl W5)
          obtain ⟨W6, eW6⟩ : ∃ W6 : World, W6 = { W5 with drawn := W5.drawn + 1 } := ⟨_, rfl⟩
          have hz6 : W6.heap.size = W5.heap.size := by rw [eW6]
          rw [← eW6] at hS0 ⊢
          clear eW6
          refine wpAnyS_take (i := 0) (kw := 2) (v := .func (.yield lp) #[] #[]) rfl rfl (by kernel_rfl) (by kernel_rfl) (by kernel_rfl) (by kernel_rfl) (fun _ _ _ h => h) HC0 hS0 ⟨Or.inl ⟨by rfl, fun W' hs => ?_⟩, fun _ => rfl⟩ (fun HC1 => ?_)
          · have c := ((bcell hs).1 W.heap.size 0 (by have := gy; omega)).trans cy
            go_simp
          refine wpAnyS_take (i := 1) (kw := 2) (v := .slice A hcs.length c) rfl rfl (by kernel_rfl) (by kernel_rfl) (by kernel_rfl) (by kernel_rfl) (fun _ _ _ h => h) HC1 hS0 ⟨Or.inl ⟨by rfl, fun W' hs => ?_⟩, fun _ => rfl⟩ (fun HC2 => ?_)
          · have c := ((bcell hs).1 b2 0 (by have := g2; omega)).trans c3
            go_simp
          refine wpAnyS_take (i := 2) (kw := 2) (v := .slice (some ⟨gb, 0, none⟩) q q) rfl rfl (by kernel_rfl) (by kernel_rfl) (by kernel_rfl) (by kernel_rfl) (fun _ _ _ h => h) HC2 hS0 ⟨Or.inl ⟨by rfl, fun W' hs => ?_⟩, fun _ => rfl⟩ (fun HC3 => ?_)
          · have c := ((bcell hs).1 W0.heap.size 0 (by have := gn; omega)).trans cn
            go_simp
          refine wpAnyS_take (i := 3) (kw := 2) (v := .slice A2 bs.length cb) rfl rfl (by kernel_rfl) (by kernel_rfl) (by kernel_rfl) (by kernel_rfl) (fun _ _ _ h => h) HC3 hS0 ⟨Or.inl ⟨by rfl, fun W' hs => ?_⟩, fun _ => rfl⟩ (fun HC4 => ?_)
          · have c := ((bcell hs).1 b3 0 (by have := g3; omega)).trans c4
            go_simp
          refine wpAnyS_take (i := 4) (kw := 2) (v := .slice (some ⟨gb2, 0, none⟩) p p) rfl rfl (by kernel_rfl) (by kernel_rfl) (by kernel_rfl) (by kernel_rfl) (fun _ _ _ h => h) HC4 hS0 ⟨Or.inl ⟨by rfl, fun W' hs => ?_⟩, fun _ => rfl⟩ (fun HC5 => ?_)
          · go_simp
          refine wpAnyS_one HC5 (i := 5) (by kernel_rfl) rfl hS0 (fun Kx hKx => ?_)
          go_simp
          gi_wp2_with (refine ⟨trivial, ?_⟩; gi_at_call 52; refine (callsIn_wide.2 (KH.out _ hS0)).mono ?_; rintro e w7 ⟨rfl, hb7⟩)
          intro HC6
          have hS7 : Below W5.heap.size W5 w7 := hS0.trans (hb7.mono (by omega))
          obtain ⟨fy, ty, ay, by', hy, hR⟩ := KY.out w7 (HJ.out _ _ _ J1.out (itw_below hS7 (by omega))) (by have := hS7.size; omega)
          refine wpAnyS_pivot (by kernel_rfl) rfl hS7 (fun Kx hKx => ?_)
          go_simp
          refine (roundIn_wide hR).mono ?_
          rintro e w8 ⟨rfl, hJ8, hC8⟩
          refine hKx _ _ ?_
          clear hKx Kx hR hy
          refine wpAnyIn_lastOne (i := 7) (by kernel_rfl) (by kernel_rfl) rfl (fun Kx hKx => ?_)
          go_simp
          refine hKx _ _ ?_
          clear hKx Kx
          gi_wp2
          have C7 := con_below (K := kHands) hS7
          have C8 := C7.trans hC8
          refine ⟨⟨?_, con_blk C8 J2.out rfl, con_blk C8 J3.out rfl, con_blk C8 J4.out rfl, con_blk C8 J5.out rfl, con_blk C8 J6.out rfl, con_blk C8 J7.out rfl, J8.out.trans (C8.mono kHands_int)⟩, C8.mono kHands_int⟩
          rw [hNo_next]
          exact hJ8
        case doneN =>
          rintro W5 ⟨j1, j2, j3, j4, j5, j6, j7, j8⟩
          gi_wp2
          refine ⟨⟨?_, j2, j3, I4.out.con j8, con_blk j8 I5.out kInt_int, con_blk j8 I6.out kInt_int⟩, j8⟩
          rw [hNo_row, ← EQ.out, ← EP.out]
          exact j1
      case done =>
        intro D W3 hD hI hD3
        obtain ⟨i1, i2, i3, i4, i5, i6⟩ := hI
        have co := (i3.cell 0 _ rfl).1
        have hq5i : (q : Int) ≤ 5 := by omega
        have I1 := Lib.hid i1
        have I2 := Lib.hid i2
        have I4 := Lib.hid i4
        have I5 := Lib.hid i5
        have D3 := Lib.hid hD3
        have HDD := Lib.hid hD
        clear i1 i2 i3 i4 i5 i6 hD3 O0 hD
        gi_wp2
        have BA := bl_alloc (bl_refl W3) (.cells #[.int .i64 ((q : Int) + 1)] 3)
        refine Handed.intro (M - (k + 1)) (by omega) (hJ' _ _ _ ⟨k + 1, W3.heap.size, D :: Ds, _, _, _, _, _, _, _, _, _, _, _, _, _, _, _, _, _, _, _, _, _, _, _, _, _, _, _, _, _, _, rfl, by omega, rfl, Lib.hid ⟨?_, I2.out.below BA, ?_, I2.out.lt, ?_⟩⟩)
        · rw [← hNo_end, ← EQ.out]
          exact HJ.out _ _ _ I1.out (itw_below BA (Nat.le_of_lt I2.out.lt))
        · have e : ((l + (k + 1) : Nat) : Int) = (q : Int) + 1 := by have := EQ.out; omega
          rw [e]
          exact blk_new W3 _ _
        · refine MarksD.cons (n0 := W1.heap.size) (I4.out.below BA) LM.out (by have := HDD.out; omega) (by have := HDD.out; have := LY.out; omega) ?_
          exact (BA.block D (Array.getElem?_eq_some_iff.1 D3.out).1).trans D3.out
    · obtain rfl : k = M := by omega
      have hlt' : ¬ (q : Int) ≤ (m : Int) := by have := EQ.out; have := EM.out; omega
      gi_wp2
      exact leaves_marks (K := kHands) (fun W' => results_none rfl _ _ _) Ds W1 S5.out (fun W' hW' => ⟨⟨_, rfl⟩, HJ.out _ _ _ S1.out hW'⟩)
end Go.Proofs.YtlpkaflmhdgmmaaGreatDoor
