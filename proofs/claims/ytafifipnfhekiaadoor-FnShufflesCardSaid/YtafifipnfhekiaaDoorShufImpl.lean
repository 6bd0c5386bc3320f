/-
  ShuffledDeck: both texts' walks.
-/
import Derived.Test.YtafifipnfhekiaaDoorShuf
import Derived.Test.YtafifipnfhekiaaDoorOtherImpl
import Derived.Test.YtafifipnfhekiaaDoorDeckAns
namespace Go.Proofs.YtafifipnfhekiaaDoor
open Go.RowKit
set_option linter.unusedVariables false

theorem bits_all : bitsI 4503599627370495 = sorted52 := by decide +kernel
/-- What the shuffling loop keeps: the seed in its cell, the deck in its array. -/
structure ShufI (w : World) (q g : Nat) (t : Int) (ys : List Int) (wr : World) : Prop where
  seed : SeedAt wr q t
  deck : Arr wr g ys
  below : Below w.heap.size w wr
  ne : q ≠ g
  lq : w.heap.size ≤ q
  lg : w.heap.size ≤ g
theorem SeedAt.lt {w : World} {q : Nat} {t : Int} (h : SeedAt w q t) : q < w.heap.size := World.block_lt_of_cell? w _ h.1
theorem shufI_next {w wr : World} {q g : Nat} {t : Int} {ys : List Int} (h : ShufI w q g t ys wr) (u : Int) : ShufI w q g u ys (wr.setCell ⟨q, 0, none⟩ (.int .i64 u)) := by
  refine ⟨⟨World.cell?_setCell_same wr _ _ h.seed.1, by simp [go_sem, h.seed.2]⟩, ?_, h.below.setCell h.lq _, h.ne, h.lq, h.lg⟩
  exact (Below.heap_setCell wr ⟨q, 0, none⟩ _ g (fun e => h.ne e.symm)).trans h.deck
theorem shufI_set {w wr : World} {q g : Nat} {t : Int} {ys : List Int} (h : ShufI w q g t ys wr) (i : Nat) (x : Int) (hi : i < ys.length) : ShufI w q g t (ys.set i x) (wr.setCell ⟨g, i, none⟩ (.int .i64 x)) := by
  refine ⟨⟨?_, by simp [go_sem, h.seed.2]⟩, (arr_set h.deck i x hi).1, h.below.setCell h.lg _, h.ne, h.lq, h.lg⟩
  rw [World.cell?_setCell_other wr _ _ _ (by intro e; injection e with e; exact h.ne e.symm)]
  exact h.seed.1
theorem shufI_drew {w wr : World} {q g : Nat} {t : Int} {ys : List Int} (h : ShufI w q g t ys wr) : ShufI w q g t ys wr.drew := ⟨h.seed, h.deck, bl_drew h.below, h.ne, h.lq, h.lg⟩

theorem SeedAt.keep {w w' : World} {q : Nat} {t : Int} (h : SeedAt w q t) (hb : w'.heap[q]? = w.heap[q]?) : SeedAt w' q t :=
  ⟨(World.cell?_of_block (w := w) (a := ⟨q, 0, none⟩) hb).trans h.1, (World.frozen?_of_block (w := w) (a := ⟨q, 0, none⟩) hb).trans h.2⟩
theorem shufI_start {w w3 w4 : World} {o o' : Obj} {s : Int} {ys : List Int} (hs : SeedAt (w.alloc o) w.heap.size s) (hb : Below (w.alloc o).heap.size (w.alloc o) w3) (ha : Arr w4 w3.heap.size ys) (hg : (w3.alloc o').grownBy w4 (some w3.heap.size)) :
    ShufI w w.heap.size w3.heap.size s ys w4 := by
  have hz := sz_new hb
  have hs3 : SeedAt w3 w.heap.size s := hs.keep (hb.block _ (by simp))
  have hs4 : SeedAt (w3.alloc o') w.heap.size s := hs3.keep (Below.heap_alloc w3 o' _ hz)
  refine ⟨hs4.keep (hg.block _ (by simp; omega) (by intro e; injection e; omega)), ha, ?_, by omega, Nat.le_refl _, by omega⟩
  have h1 : Below w.heap.size w w3 := bl_trans (bl_alloc (bl_refl w) o) hb |>.mono (Nat.le_refl _)
  exact (bl_alloc h1 o').grown hg (by simp; omega) (fun j hj => by injection hj; omega)
/-- What ShuffledDeck answers. -/
def shufR (s : Int) : List Int := if inB s 1 2147483646 = true then shuffled s else []
def codeSh (s : Int) : Int := if inB s 1 2147483646 = true then 0 else 2
theorem shufR_yes {s : Int} (h : inB s 1 2147483646 = true) : shufR s = shuffled s ∧ codeSh s = 0 := by unfold shufR codeSh; rw [h]; exact ⟨rfl, rfl⟩
theorem shufR_no {s : Int} (h : inB s 1 2147483646 = false) : shufR s = [] ∧ codeSh s = 2 := by unfold shufR codeSh; rw [h]; exact ⟨rfl, rfl⟩
theorem shuffled_len (s : Int) : (shuffled s).length = 52 := ((deck_iff _).1 (shuffled_deck s)).1
theorem shufR_len (s : Int) : (shufR s).length ≤ 52 := by unfold shufR; split <;> simp [shuffled_len]

set_option maxRecDepth 100000 in
set_option maxHeartbeats 1000000 in
theorem specShufDeck_any (s : Int) (w : World) :
    Calls Tryd.prog 8 #[.int .i64 s] w (NewRC (shufR s) (codeSh s) w) := by
  have K := Lib.hid (specSeed_any s w)
  rcases hb : inB s 1 2147483646 with _ | _
  · rw [(shufR_no hb).1, (shufR_no hb).2]
    rw [hb] at K
    clear hb
    go_enter Tryd.func8, Tryd.ntmps8
    go_wp2_with (go_at_call 26; refine K.out.mono ?_; rintro e w1 ⟨rfl, rfl⟩)
    go_ret2
    exact ⟨none, 0, rfl, Row.nil _ _, bl_refl _⟩
  · rw [(shufR_yes hb).1, (shufR_yes hb).2]
    rw [hb] at K
    obtain ⟨h0, h1⟩ := seed_bd hb
    have K2 := Lib.hid (specShuffled_any s w (by omega) h1)
    clear hb
    generalize shuffled s = zs at *
    go_enter Tryd.func8, Tryd.ntmps8
    go_wp2_with (first
      | (go_at_call 26; refine K.out.mono ?_; rintro e w1 ⟨rfl, rfl⟩)
      | (go_at_call 27; refine K2.out.mono ?_; rintro e w1 ⟨A1, c1, rfl, ho, hb⟩; have HO := Lib.hid ho; have HB := Lib.hid hb; clear ho hb))
    go_ret2
    exact ⟨A1, c1, rfl, Row.of_own HO.out, HB.out⟩

set_option maxRecDepth 100000 in
set_option maxHeartbeats 2000000 in
theorem implShufDeck_any (s : Int) (B : Nat) (wt w : World) (ht : Hid (Tz B wt)) (hB : Hid (Below B wt w)) (hBw : Hid (B ≤ w.heap.size)) :
    Calls Tryd.prog 7 #[.int .i64 s] w (NewRC (shufR s) (codeSh s) w) := by
  have K := Lib.hid (isSeed_any s w)
  rcases hb : inB s 1 2147483646 with _ | _
  · rw [(shufR_no hb).1, (shufR_no hb).2]
    rw [hb] at K
    clear hb
    go_enter Tryd.func7, Tryd.ntmps7
    go_wp2_with (go_at_call 22; refine K.out.mono ?_; rintro e w1 ⟨rfl, rfl⟩)
    go_ret2
    exact ⟨none, 0, rfl, Row.nil _ _, bl_refl _⟩
  · rw [(shufR_yes hb).1, (shufR_yes hb).2]
    rw [hb] at K
    obtain ⟨h0, h1⟩ := seed_bd hb
    have K2 := Lib.hid (seedsAfter_any s w)
    have K3 : Hid (Calls Tryd.prog 24 #[.int .u64 4503599627370495] (w.alloc (.cells #[.int .i64 s] 2)) (NewL sorted52 (w.alloc (.cells #[.int .i64 s] 2)))) := Lib.hid (by
      have := list_any 4503599627370495 B wt (w.alloc (.cells #[.int .i64 s] 2)) (by decide) ht (Lib.hid (hB.out.alloc hBw.out _)) (Lib.hid (Nat.le_trans hBw.out (by simp)))
      rw [bits_all] at this
      exact this)
    have HSE := Lib.hid (seed_new w s)
    have HL : Hid (sorted52.length = 52) := Lib.hid (by decide +kernel)
    have HE : Hid (shuf 51 s sorted52 = shuffled s) := Lib.hid rfl
    have HZ := Lib.hid (shuffled_len s)
    clear hb hB hBw ht
    obtain ⟨w0, rfl⟩ : ∃ w0 : World, w0 = w := ⟨w, rfl⟩
    generalize sorted52 = ys0 at *
    generalize shuffled s = zs at *
    have hsa := fun (b off c : Nat) (W : World) => run_arrayAt b off c W
    go_enter Tryd.func7, Tryd.ntmps7
    go_wp2_with (first
      | (go_at_call 22; refine K.out.mono ?_; rintro e w1 ⟨rfl, rfl⟩)
      | (go_at_call 23; refine K2.out.mono ?_; rintro e w2 ⟨rfl, rfl⟩)
      | (go_at_call 24; refine K3.out.mono ?_; rintro e w3 ⟨A3, c3, rfl, ho3, hb3⟩; have HO3 := Lib.hid ho3; have HB3 := Lib.hid hb3; clear ho3 hb3; obtain ⟨g3, rfl, hc3⟩ : ∃ g3, A3 = some ⟨g3, 0, none⟩ ∧ ∀ i, i < ys0.length → w3.cell? ⟨g3, 0 + i, none⟩ = some (.int .i64 (nth ys0 i)) := (by rcases HO3.out.2 with ⟨_, hn⟩ | ⟨g, cap, cur, hv, _⟩; (have := HL.out; omega); (injection hv with hA _ _; exact ⟨g, hA, fun i hi => (by subst hA; rw [Nat.zero_add, World.ownsRow.cellAt HO3.out i (by omega), ints_get ys0 i hi])⟩)); have HC3 := Lib.hid hc3; clear hc3; rw [HL.out])
      | (with_reducible refine wpList_load_arr rfl (.tmp 14) rfl g3 0 rfl ys0 HL.out (rd_range HC3.out) ?_)
      | (refine wpList_store_arr rfl (.tmp 5) (.tmp 15) rfl w3.heap.size rfl ys0 rfl HL.out _ (heap_alloc_new w3 _) rfl ?_))
    intro w4 ha4 hg4
    have HS4 := Lib.hid (shufI_start HSE.out HB3.out ha4 hg4)
    clear ha4 hg4 hsa
    obtain ⟨gd, hgd⟩ : ∃ gd, gd = w3.heap.size := ⟨_, rfl⟩
    rw [← hgd] at HS4 ⊢
    clear hgd
    go_wp2_with fail
    go_loopw [6] (fun i wr => ∃ (k : Nat) (t : Int) (ys : List Int), k ≤ 51 ∧ i = .int .i64 k ∧ 0 ≤ t ∧ t ≤ 2147483646 ∧ Hid (ShufI w0 w0.heap.size gd t ys wr) ∧ Hid (ys.length = 52) ∧ Hid (shuf k t ys = zs)) (fun i _ => (intOf i).toNat)
    case atStart => exact ⟨51, s, ys0, by omega, rfl, by omega, h1, HS4, HL, HE⟩
    case round =>
      obtain ⟨k, t, ys, hk, rfl, ht0, ht1, hs, hl, he⟩ := hrel
      by_cases hpos : 0 < k
      · have hpos' : (1 : Int) ≤ k := by omega
        have KN := Lib.hid (nextFn_any w0.heap.size t wr ht0 ht1 hs.out.seed)
        have hb := nextS_bd t
        have HQ := Lib.hid (shuf_step k t ys hpos)
        have hm0 := Int.emod_nonneg (nextS t) (b := (k : Int) + 1) (by omega)
        have hm1 := Int.emod_lt_of_pos (nextS t) (b := (k : Int) + 1) (by omega)
        have HS5 := Lib.hid (shufI_next hs.out (nextS t))
        generalize nextS t = u at *
        obtain ⟨hb0, hb1⟩ := hb
        generalize hmm : (u % ((k : Int) + 1)).toNat = m at *
        have hm : u % ((k : Int) + 1) = (m : Int) := by omega
        have hml : m ≤ k := by omega
        have hml' : (m : Int) < 52 := by omega
        have hkl' : (k : Int) < 52 := by omega
        clear hmm hm0 hm1
        go_wp2_with (go_at_call 38; refine KN.out.mono ?_; rintro e w5 ⟨rfl, rfl⟩)
        generalize wr.setCell ⟨w0.heap.size, 0, none⟩ (.int .i64 u) = w5 at *
        obtain ⟨ck, fk⟩ := HS5.out.deck.cell k (by rw [hl.out]; omega)
        obtain ⟨cm, fm⟩ := HS5.out.deck.cell m (by rw [hl.out]; omega)
        have S2 := Lib.hid (shufI_set HS5.out k (nth ys m) (by rw [hl.out]; omega))
        obtain ⟨cm2, fm2⟩ := S2.out.deck.cell m (by rw [List.length_set, hl.out]; omega)
        have S3 : Hid (ShufI w0 w0.heap.size gd u (swapL ys k m) ((w5.setCell ⟨gd, k, none⟩ (.int .i64 (nth ys m))).setCell ⟨gd, m, none⟩ (.int .i64 (nth ys k)))) := Lib.hid (shufI_set S2.out m (nth ys k) (by rw [List.length_set, hl.out]; omega))
        have L3 : Hid ((swapL ys k m).length = 52) := Lib.hid (by rw [swap_len]; exact hl.out)
        have E3 : Hid (shuf (k - 1) u (swapL ys k m) = zs) := Lib.hid (by rw [← HQ.out]; exact he.out)
        have e1 : (k : Int) - 1 = ((k - 1 : Nat) : Int) := by omega
        generalize swapL ys k m = zs' at *
        generalize nth (ys.set k (nth ys m)) m = z at *
        generalize nth ys k = x at *
        generalize nth ys m = y at *
        go_region
        all_goals
          go_wp2_with fail
          go_roundw
          case rel => exact ⟨k - 1, u, zs', by omega, by first | rfl | rw [e1], hb0, by omega, Lib.hid (shufI_drew S3.out), L3, E3⟩
          case measure => simp [intOf]; omega
      · obtain rfl : k = 0 := by omega
        have HW : Hid (ys = zs) := Lib.hid (by rw [← he.out]; rfl)
        have HA := Lib.hid hs.out.deck
        have HB := Lib.hid hs.out.below
        have hl2 := Lib.hid hl.out
        clear hl
        go_wp2_with (first
          | (with_reducible refine wpList_load_arr rfl (.tmp 5) rfl gd 0 rfl ys hl2.out (Arr.range HA.out) ?_)
          | (go_at_call 25; refine (deckList_any ys _).mono ?_; rintro e w6 ⟨rfl, rfl⟩))
        go_ret2
        refine ⟨some ⟨wr.heap.size, 0, none⟩, 52, ?_, ?_, bl_alloc HB.out _⟩
        · rw [HZ.out]; rfl
        · rw [← HW.out]; exact Row.of_arr (arr_new wr ys) HB.out.size
end Go.Proofs.YtafifipnfhekiaaDoor
