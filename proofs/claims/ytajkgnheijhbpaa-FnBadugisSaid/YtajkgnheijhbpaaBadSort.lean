/-
  The program's copy of a list, and cards sorted by decreasing low ranks.
-/
import Derived.Test.YtajkgnheijhbpaaLowSort
import Derived.Test.YtajkgnheijhbpaaBadPure
import Derived.Test.YtajkgnheijhbpaaRows2
import Derived.Test.YtajkgnheijhbpaaBase
import Derived.WalkSpells
namespace Go.Proofs.Ytajkgnheijhbpaa
open Go.RowKit Go.Sort Go.Lib Go.Shelf
set_option linter.unusedVariables false

set_option maxRecDepth 100000 in
set_option maxHeartbeats 400000 in
theorem clone_any (b off : Nat) (c : Nat) (xs : List Int) (w : World) (hr : Rd w (some ⟨b, off, none⟩) xs) (hn : xs.length ≤ 4000000) :
    Calls Try.prog 80 #[.slice (some ⟨b, off, none⟩) xs.length c] w (NewL xs w) := by
  have HR := Lib.hid (hr.below (bl_alloc (bl_refl w) (.cells #[] 2)))
  have HE := Lib.hid (own_new w)
  have HB : Hid (([] : List Int).length + xs.length ≤ 4000000) := Lib.hid (by simpa using hn)
  have HZ : Hid (w.heap.size ≤ (w.alloc (.cells #[] 2)).heap.size) := Lib.hid (by simp)
  have hnil : ∀ W : World, (binOp .eql 24 (.slice (some ⟨b, off, none⟩) xs.length c) (.slice none 0 0)).run Try.prog W = .ok (.bool false) W := fun W => (Lib.run_eql_slice_nil (w := W) (P := Try.prog) 24 2 (some ⟨b, off, none⟩) xs.length c 0 0 Try.underlying24)
  clear hr
  go_enter Try.func80, Try.ntmps80
  go_wp2_with (at_builtin; refine wpList_glue (.tmp 5) (.tmp 6) rfl rfl w.heap.size (.slice (some ⟨w.heap.size, 0, none⟩) 0 0) [] xs (some ⟨b, off, none⟩) c rfl HE.out rfl HR.out HB.out HZ.out ?_)
  intro A' c' ws w' e ho hg _
  have HO := Lib.hid ho
  have HG := Lib.hid (bl_glue (bl_refl w) hg)
  have HW : Hid (ws = xs) := Lib.hid (by simpa using e.out)
  clear ho hg e
  go_wp2_with fail
  go_ret
  obtain rfl := HW.out
  exact ⟨_, _, rfl, HO.out, HG.out⟩

def encC (x : Fin 52) : Value := .int .i64 (x.val : Int)
def vC (x : Fin 52) : Int := (x.val : Int)
theorem vC_bd (x : Fin 52) : 0 ≤ vC x ∧ vC x < 52 := by unfold vC; have := x.isLt; omega
def cfB (x y : Fin 52) : Int := cmpI (lr (vC y)) (lr (vC x))
theorem ltCB (x y : Fin 52) : ltOf cfB x y = decide (lr (vC y) < lr (vC x)) := by
  unfold ltOf cfB cmpI
  rw [decide_eq_decide]
  repeat' split
  all_goals omega
theorem swoB : SWO (ltOf cfB) where
  irrefl x := by rw [ltCB]; simp
  trans x y z h1 h2 := by rw [ltCB] at *; simp only [decide_eq_true_eq] at *; omega
  ntrans x y z h1 h2 := by rw [ltCB] at *; simp only [decide_eq_false_iff_not] at *; omega
def finsC (xs : List Int) : List (Fin 52) := xs.map (fun x => Fin.ofNat 52 x.toNat)
theorem fins_len (xs : List Int) : (finsC xs).length = xs.length := by simp [finsC]
theorem fins_v (xs : List Int) (hc : ∀ x ∈ xs, 0 ≤ x ∧ x < 52) : (finsC xs).map vC = xs := by
  unfold finsC
  rw [List.map_map]
  refine (List.map_congr_left (g := fun a => a) (fun x hx => ?_)).trans (List.map_id' xs)
  have := hc x hx
  show ((x.toNat % 52 : Nat) : Int) = x
  omega
set_option maxHeartbeats 400000 in
theorem badCmp_any (x y : Fin 52) (w : World) :
    Calls Try.prog 81 #[encC x, encC y] w (Same (.int .i64 (cfB x y)) w) := by
  have hx := vC_bd x
  have hy := vC_bd y
  unfold encC cfB
  show Calls Try.prog 81 #[.int .i64 (vC x), .int .i64 (vC y)] w _
  generalize vC x = a at *
  generalize vC y = b at *
  have KA := Lib.hid (fun W => lowRank_any a W hx.1 hx.2)
  have KB := Lib.hid (fun W => lowRank_any b W hy.1 hy.2)
  have K := Lib.hid compare_any
  generalize lr a = p at *
  generalize lr b = q at *
  go_enter Try.func81, Try.ntmps81
  go_wp2_with (first
    | (go_at_call 76; refine (KB.out _).mono ?_; rintro e w1 ⟨rfl, rfl⟩; clear KB)
    | (go_at_call 76; refine (KA.out _).mono ?_; rintro e w1 ⟨rfl, rfl⟩; clear KA)
    | (go_at_call 79; refine (K.out _ _ _).mono ?_; rintro e w1 ⟨rfl, rfl⟩))
  go_ret
  exact ⟨rfl, rfl⟩
theorem sortBad_any (g off cap : Nat) (xs : List Int) (w : World) (hl : xs.length ≤ 100) (hg : g < w.heap.size)
    (hr : ∀ i, i < xs.length → w.cell? ⟨g, off + i, none⟩ = some (.int .i64 (nth xs i)) ∧ w.frozen? ⟨g, off + i, none⟩ = false) (hc : ∀ x ∈ xs, 0 ≤ x ∧ x < 52) :
    Calls Try.prog 77 #[.slice (some ⟨g, off, none⟩) xs.length cap, .func (.func 81) #[] #[]] w
      (fun e w' => e = .returned (.tuple #[]) ∧ (∃ K : List Int, K.Perm xs ∧ falls K ∧ Rd w' (some ⟨g, off, none⟩) K) ∧ w.grownBy w' (some g)) := by
  have eg : ∀ args w, (callFunc 81 args).run Try.prog w = .ok (.enter 81 args) w := enters_of Try.func81 (by kernel_rfl) rfl
  have hL := fins_len xs
  have hv := fins_v xs hc
  have hH : Holds encC w g off (finsC xs).toArray := by
    intro j hj
    have hj2 : j < (finsC xs).length := by simpa using hj
    have hj' : j < xs.length := by omega
    have e1 : (finsC xs).toArray[j]! = (finsC xs)[j] := by simp [hj2]
    obtain ⟨c1, c2⟩ := hr j hj'
    refine ⟨?_, c2⟩
    have e2 : xs[j] = vC (finsC xs)[j] := by
      have : ((finsC xs).map vC)[j]'(by simpa using hj2) = vC (finsC xs)[j] := by simp
      rw [← this]
      simp only [hv]
    rw [c1, e1, nth_eq xs j hj', e2]
    rfl
  have hC : CmpLays1 Try.prog 81 #[] encC cfB g off (finsC xs).toArray.size w := by
    intro m os dk hs x y
    refine (badCmp_any x y _).mono ?_
    rintro e w' ⟨he, hw⟩
    exact ⟨he, 0, #[], by rw [grow_empty]; exact hw.symm⟩
  have hS := Try.slices_SortFunc encC (fun _ => rfl) cfB swoB 81 #[] g off cap (finsC xs).toArray w eg hC hH hg (by simp; omega)
  have e0 : (finsC xs).toArray.size = xs.length := by simp [hL]
  rw [e0] at hS
  refine hS.mono ?_
  rintro e w' ⟨he, d', n, os, hp, hs, rfl⟩
  obtain ⟨p1, _, p3⟩ := hp
  rw [e0] at p1
  refine ⟨he, ⟨d'.toList.map vC, ?_, ?_, ?_⟩, sortWorld_grown ..⟩
  · have e3 : d'.extract 0 xs.length = d' := by rw [← p1]; simp
    have e4 : (finsC xs).toArray.extract 0 xs.length = (finsC xs).toArray := by rw [← e0]; simp
    rw [e3, e4] at p3
    have h3 := p3.map vC
    rw [show ((finsC xs).toArray.toList).map vC = xs from hv] at h3
    exact h3
  · unfold falls
    rw [List.pairwise_map, List.pairwise_iff_getElem]
    intro i j hi hj hij
    have hi' : i < d'.size := by simpa using hi
    have hj' : j < d'.size := by simpa using hj
    have h := hs i j (Nat.zero_le _) hij (by omega)
    rw [ltCB, decide_eq_false_iff_not] at h
    have e1 : d'[i]! = d'.toList[i] := by rw [getElem!_pos d' i hi']; rfl
    have e2 : d'[j]! = d'.toList[j] := by rw [getElem!_pos d' j hj']; rfl
    rw [e1, e2] at h
    omega
  · intro h0
    refine ⟨g, off, rfl, fun i hi => ?_⟩
    have hi' : i < d'.size := by simpa using hi
    have hh : Holds encC (sortWorld encC w g off n d' os) g off d' :=
      holds_grow encC _ os g off d' (by simpa using hg) (holds_putRow encC (Sort.ahead w n) g off (finsC xs).toArray d' (holds_ahead encC w n g off _ hH) (by rw [e0]; exact p1))
    rw [(hh i hi').1, nth_eq _ i hi, getElem!_pos d' i hi']
    rw [List.getElem_map]
    rfl
end Go.Proofs.Ytajkgnheijhbpaa
