/-
  The shape of five ranks: how often they occur, and the sort.
-/
import Derived.Test.YtcbfmfkahgfjkaaDoorSortImpl
import Derived.Test.YtcbfmfkahgfjkaaDoorKickSpec
import Derived.StillTailTactics
namespace Go.Proofs.YtcbfmfkahgfjkaaDoor
open Go.RowKit
set_option linter.unusedVariables false

/-- Five numbers by value; a shape by value. -/
abbrev aggI (xs : List Int) : Value := .agg (ints xs).toArray
def shapeL (K : List Int) (m n : Int) (o : Bool) : List Value := ints K ++ [.int .i64 m, .int .i64 n, .bool o]
theorem shapeL_length (K : List Int) (m n : Int) (o : Bool) : (shapeL K m n o).length = K.length + 3 := by simp [shapeL, ints_length]
theorem u53 : Tryd.prog.underlying 53 = some (.array 5 2) := by kernel_rfl
theorem i53 : (Tryd.prog.info? 53).map (·.size) = some 5 := by kernel_rfl
theorem i55 : (Tryd.prog.info? 55).map (·.size) = some 8 := by kernel_rfl
theorem shapeL_one (K : List Int) (m n : Int) (o : Bool) : ∀ v ∈ shapeL K m n o, v.oneCell' = true := fun v hv => by
  unfold shapeL at hv
  rcases List.mem_append.1 hv with h | h
  · unfold ints at h; obtain ⟨z, _, rfl⟩ := List.mem_map.1 h; rfl
  · simp at h; rcases h with rfl | rfl | rfl <;> rfl
theorem u51 : Tryd.prog.underlying 51 = some (.array 5 2) := by kernel_rfl
theorem i51 : (Tryd.prog.info? 51).map (·.size) = some 5 := by kernel_rfl

/-- A number at a variable index of an array by value. -/
theorem run_indexI (t : TypeId) (n k : Nat) (xs : List Int) (W : World) (hu : Tryd.prog.underlying t = some (.array n 2)) (hl : xs.length = n) (hk : k < n) :
    (Instr.index t (.agg (ints xs).toArray) (.int .i64 k)).run Tryd.prog W = .ok (.int .i64 (nth xs k)) W := by
  have h1 : (0 : Int) ≤ (k : Int) ∧ (k : Int) < n := by omega
  have hg : (ints xs)[k]? = some (.int .i64 (nth xs k)) := ints_get xs k (by omega)
  obtain ⟨i0, hi, hz0, hz1, hz2⟩ := info_parts infoInt
  simp [Instr.index, run_underlying hu, go_sem, h1, sizeOf, typeInfo, hi, hz1, part, isAgg, run_underlying Tryd.underlying2, hg]
  intro h; omega
/-- Counting ranks one by one. -/
theorem occL_snoc (rs : List Int) (x : Nat) (hx : x < 13) : (occL rs).set x ((occ rs (x : Int) : Int) + 1) = occL (rs ++ [(x : Int)]) := by
  apply List.ext_getElem?
  intro i
  rw [List.getElem?_set, occL_length]
  by_cases hi : i < 13
  · have a : (occL rs)[i]? = some (occ rs (i : Int) : Int) := by simp [occL, hi]
    have b : (occL (rs ++ [(x : Int)]))[i]? = some (occ (rs ++ [(x : Int)]) (i : Int) : Int) := by simp [occL, hi]
    rw [a, b]
    unfold occ
    rw [cnt_snoc]
    by_cases h : x = i
    · subst h; rw [if_pos rfl, if_pos hi, if_pos (by simp)]; rfl
    · rw [if_neg h, if_neg (by simp; omega)]; rfl
  · have a : (occL rs)[i]? = none := by rw [List.getElem?_eq_none]; rw [occL_length]; omega
    have b : (occL (rs ++ [(x : Int)]))[i]? = none := by rw [List.getElem?_eq_none]; rw [occL_length]; omega
    rw [a, b, if_neg (by omega)]
theorem occL_nil : occL [] = List.replicate 13 0 := by decide
/-- The counting loop's state. -/
def CountSt (w : World) (rs : List Int) (k : Nat) (wr : World) : Prop :=
  Blk wr w.heap.size 53 (ints rs) ∧ Blk wr (w.heap.size + 1) 55 (shapeL [0, 0, 0, 0, 0] 0 0 false) ∧ Blk wr (w.heap.size + 1 + 1) 97 (ints (occL (rs.take k))) ∧ Below w.heap.size w wr
theorem countSt_start (w : World) (rs : List Int) : CountSt w rs 0 (((w.alloc (.cells (ints rs).toArray 53)).alloc (.cells (shapeL [0, 0, 0, 0, 0] 0 0 false).toArray 55)).alloc (.cells (ints (List.replicate 13 0)).toArray 97)) := by
  refine ⟨((blk_new w _ _).below (bl_alloc (bl_refl _) _)).below (bl_alloc (bl_refl _) _), ?_, ?_, bl_alloc (bl_alloc (bl_alloc (bl_refl _) _) _) _⟩
  · have := (blk_new (w.alloc (.cells (ints rs).toArray 53)) 55 (shapeL [0, 0, 0, 0, 0] 0 0 false)).below (bl_alloc (bl_refl _) (.cells (ints (List.replicate 13 0)).toArray 97))
    rwa [World.size_alloc] at this
  · rw [List.take_zero, occL_nil]
    have := blk_new ((w.alloc (.cells (ints rs).toArray 53)).alloc (.cells (shapeL [0, 0, 0, 0, 0] 0 0 false).toArray 55)) 97 (ints (List.replicate 13 0))
    rwa [World.size_alloc, World.size_alloc] at this
theorem countSt_step {w wr : World} {rs : List Int} {k x : Nat} (h : CountSt w rs k wr) (hk : k < rs.length) (hx : x < 13) (e : nth rs k = (x : Int)) :
    CountSt w rs (k + 1) (wr.setCell ⟨w.heap.size + 1 + 1, x, none⟩ (.int .i64 ((occ (rs.take k) (x : Int) : Int) + 1))) := by
  obtain ⟨h1, h2, h3, h4⟩ := h
  have hs := blk_setI h3 x ((occ (rs.take k) (x : Int) : Int) + 1)
  refine ⟨h1.grown hs.2 (by simp; omega), h2.grown hs.2 (by simp), ?_, bl_blk h4 hs.2 (by omega)⟩
  rw [take_nth rs k hk, e, ← occL_snoc _ _ hx]
  exact hs.1
/-- What the shape reads behind the sort. -/
theorem kk_facts (rs : List Int) (h : ranksOk rs) (h4 : ∀ r, occ rs r ≤ 4) (h5 : rs.length = 5) :
    ∃ a m b n : Nat, a < 13 ∧ b < 13 ∧ m < 5 ∧ n < 5 ∧ nth (kk rs) 0 = (a : Int) ∧ nth (kk rs) m = (b : Int) ∧ occ rs (a : Int) = m ∧ occ rs (b : Int) = n ∧ mostK (kk rs) = m ∧ nextK (kk rs) = n ∧ (kk rs).length = 5 := by
  have hp := kk_perm rs h h4
  have hl : (kk rs).length = 5 := by rw [hp.length_eq, h5]
  have hb : ∀ i, i < 5 → ∃ x : Nat, nth (kk rs) i = (x : Int) ∧ x < 13 := fun i hi => by
    have := h _ (hp.subset (nth_mem (kk rs) i (by omega)))
    exact ⟨(nth (kk rs) i).toNat, by omega, by omega⟩
  obtain ⟨a, ea, ha⟩ := hb 0 (by omega)
  have hm := h4 (a : Int)
  obtain ⟨b, eb, hb'⟩ := hb (occ rs (a : Int)) (by omega)
  have e1 : mostK (kk rs) = occ rs (a : Int) := by
    unfold mostK
    rw [occ_perm hp]
    show occ rs (nth (kk rs) 0) = _
    rw [ea]
  have hn := h4 (b : Int)
  refine ⟨a, occ rs (a : Int), b, occ rs (b : Int), ha, hb', by omega, by omega, ea, eb, rfl, rfl, e1, ?_, hl⟩
  unfold nextK
  rw [occ_perm hp, e1]
  show occ rs (nth (kk rs) _) = _
  rw [eb]
/-- What shape leaves: a struct by value. -/
def ShapeOf (K : List Int) (m n : Int) (o : Bool) (w : World) (e : Ending) (w' : World) : Prop := e = .returned (.agg (shapeL K m n o).toArray) ∧ Below w.heap.size w w'

set_option maxRecDepth 100000 in
set_option maxHeartbeats 4000000 in
theorem ranksShape_any (rs : List Int) (w : World) (h : ranksOk rs) (h4 : ∀ r, occ rs r ≤ 4) (h5 : rs.length = 5) :
    Calls Tryd.prog 99 #[aggI rs] w (ShapeOf (kk rs) (mostK (kk rs)) (nextK (kk rs)) false w) := by
  have HN := Lib.hid (ranks_nth rs h)
  have H5 := Lib.hid h5
  have KS := Lib.hid (fun (cap : Nat) (W : World) (hg : Blk W w.heap.size 53 (ints rs)) (hc : Blk W (w.heap.size + 1 + 1) 97 (ints (occL rs))) =>
    sort_any w.heap.size (w.heap.size + 1 + 1) cap _ _ rs (occL rs) W h h4 h5 hg hc (occL_length rs) (fun j hj => occL_nth rs j hj) (by omega))
  obtain ⟨a, m, b, n, ha, hb, hm, hn, ea, eb, oa, ob, em, en, hkl⟩ := kk_facts rs h h4 h5
  rw [em, en]
  have EA := Lib.hid ea
  have EB := Lib.hid eb
  have OA := Lib.hid oa
  have OB := Lib.hid ob
  have KL := Lib.hid hkl
  clear h h4 h5 em en ea eb oa ob
  generalize kk rs = K at *
  obtain ⟨k0, k1, k2, k3, k4, rfl⟩ := list_five K hkl
  clear hkl
  obtain ⟨w0, rfl⟩ : ∃ w0 : World, w0 = w := ⟨w, rfl⟩
  unfold aggI
  go_enter Tryd.func99, Tryd.ntmps99
  go_wp2_with (with_reducible refine wpList_load_blk 53 _ 5 rfl (.tmp 1) rfl u53 rfl i53 w0.heap.size 0 rfl (ints rs) (by rw [ints_length, H5.out]) ?hc ?_)
  case hc => exact (countSt_start w0 rs).1.range
  have HS := Lib.hid (countSt_start w0 rs)
  go_wp2_with fail
  go_loopw [8] (fun i wr => ∃ k : Nat, k ≤ 5 ∧ i = .int .i64 k ∧ Hid (CountSt w0 rs k wr)) (fun i _ => 5 - (intOf i).toNat)
  case atStart => exact ⟨0, by omega, rfl, HS⟩
  case round =>
    obtain ⟨k, hk, rfl, hs⟩ := hrel
    by_cases hlt : k < 5
    · have hlt' : (k : Int) < 5 := by omega
      have hx := HN.out k (by rw [H5.out]; exact hlt)
      obtain ⟨x, ex⟩ := Int.eq_ofNat_of_zero_le hx.1
      have hx13 : x < 13 := by omega
      have HE := Lib.hid ex
      have hget := ints_get rs k (by rw [H5.out]; exact hlt)
      rw [ex] at hget
      obtain ⟨hc, hf⟩ := hs.out.2.2.1.int x (by rw [occL_length]; exact hx13)
      rw [occL_nth _ x hx13] at hc
      have hle := occ_le (rs.take k) (x : Int)
      have hle2 : (rs.take k).length ≤ 5 := by rw [List.length_take]; omega
      have HP := Lib.hid (countSt_step hs.out (by rw [H5.out]; exact hlt) hx13 ex)
      generalize occ (rs.take k) (x : Int) = p at *
      have hidx := fun W => run_indexI 53 5 k rs W u53 H5.out hlt
      rw [ex] at hidx
      clear ex hx hget
      go_wp2_with fail
      go_roundw
      case rel => exact ⟨k + 1, by omega, by go_num, HP⟩
      case measure => simp [intOf]; omega
    · obtain rfl : k = 5 := by omega
      have hs := hs.out
      unfold CountSt at hs
      rw [List.take_of_length_le (by rw [H5.out]; omega)] at hs
      obtain ⟨s1, s2, s3, s4⟩ := hs
      have K5 := Lib.hid (KS.out 5 wr s1 s3)
      have S2 := Lib.hid s2
      have S3 := Lib.hid s3
      have S4 := Lib.hid s4
      clear s1 s2 s3 s4 KS
      have e5 : ((5 : Nat) : Int) = 5 := rfl
      rw [e5]
      clear e5
      go_upto_region 8 with (go_at_call 105; refine K5.out.mono ?_; rintro e w5 ⟨rfl, hk5, hg5⟩; have B5 := Lib.hid hk5; have G5 := Lib.hid hg5; clear hk5 hg5)
      have T3 := Lib.hid (S3.out.grown G5.out (by simp; omega))
      have T2 := Lib.hid (S2.out.grown G5.out (by simp))
      have T4 := Lib.hid (bl_blk S4.out G5.out (Nat.le_refl _))
      have c1 : w5.cell? ⟨w0.heap.size, 0, none⟩ = some (.int .i64 k0) := (B5.out.int 0 (by simp)).1
      have ek : k0 = (a : Int) := EA.out
      subst ek
      have q1 : w5.cell? ⟨w0.heap.size, 1, none⟩ = some (.int .i64 k1) := (B5.out.int 1 (by simp)).1
      have q2 : w5.cell? ⟨w0.heap.size, 2, none⟩ = some (.int .i64 k2) := (B5.out.int 2 (by simp)).1
      have q3 : w5.cell? ⟨w0.heap.size, 3, none⟩ = some (.int .i64 k3) := (B5.out.int 3 (by simp)).1
      have q4 : w5.cell? ⟨w0.heap.size, 4, none⟩ = some (.int .i64 k4) := (B5.out.int 4 (by simp)).1
      have c2 := (B5.out.int m (by rw [KL.out]; omega)).1
      rw [EB.out] at c2
      have c3 := (T3.out.int a (by rw [occL_length]; omega)).1
      rw [occL_nth _ a ha, OA.out] at c3
      have c4 := (T3.out.int b (by rw [occL_length]; omega)).1
      rw [occL_nth _ b hb, OB.out] at c4
      have ha' : (a : Int) < 13 := by omega
      have hb' : (b : Int) < 13 := by omega
      have hm' : (m : Int) < 5 := by omega
      go_wp2_with fail
      go_still_tail 8, (by kernel_rfl)
      have hd : ({ heap := w5.heap, tape := w5.tape, drawn := w5.drawn + 1, os := w5.os, output := w5.output } : World) = w5.drew := rfl
      rw [hd]
      clear hd c1 c2 c3 c4 q1 q2 q3 q4
      have T6 : Hid (Blk w5.drew (w0.heap.size + 1) 55 (shapeL [0, 0, 0, 0, 0] 0 0 false)) := Lib.hid T2.out
      have D6 := Lib.hid (bl_drew T4.out)
      generalize w5.drew = w6 at *
      refine wpList_store_blk 55 8 rfl (.tmp 2) (.tmp 31) rfl i55 (w0.heap.size + 1) rfl (shapeL [↑a, k1, k2, k3, k4] ↑m ↑n false) rfl rfl (shapeL_one _ _ _ _) _ T6.out rfl ?_
      intro w7 hb7 hg7
      have B7 := Lib.hid hb7
      have D7 := Lib.hid (bl_blk D6.out hg7 (by omega))
      clear hb7 hg7
      go_wp2_with fail
      exact bodyPost_ret (results_cell_row Tryd.results99 _ _ (w0.heap.size + 1) _ _ _ _ rfl B7.out Tryd.underlying55 rfl i55) rfl ⟨rfl, D7.out⟩
end Go.Proofs.YtcbfmfkahgfjkaaDoor
