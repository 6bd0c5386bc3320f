/-
  The program's ReadRange.
-/
import Derived.Test.YtlpkaflmhdgmmaaRdrParts
import Derived.Test.YtlpkaflmhdgmmaaRngSets
import Derived.Defers
import Derived.Recover
import Derived.Laws.Tables
namespace Go.Proofs.Ytlpkaflmhdgmmaa
open Go.RowKit
set_option linter.unusedVariables false

theorem catchRR_panics (a : Nat) (u : TypeId) (pv : Value) (w : World) (hc : w.cell? ⟨a, 0, none⟩ = some (.slice none 0 0)) (hz : w.frozen? ⟨a, 0, none⟩ = false) (hc2 : w.cell? ⟨a + 1, 0, none⟩ = some (.int .i64 0)) (hz2 : w.frozen? ⟨a + 1, 0, none⟩ = false) :
    CallsD Try.prog 27 #[.pointer (some ⟨a, 0, none⟩), .pointer (some ⟨a + 1, 0, none⟩)] (.panicking ({ v := .iface u pv, recovered := false } :: [])) w fun e u' w' =>
      e = .returned (.tuple #[]) ∧ u' = .panicking ({ v := .iface u pv, recovered := true } :: []) ∧ w' = (w.setCell ⟨a, 0, none⟩ (.slice none 0 0)).setCell ⟨a + 1, 0, none⟩ (.int .i64 6) := by
  refine callsD_of_wpS Try.func27 rfl fun c₀ cs hu => ?_
  apply wpS_seq
  apply wpS_region
  simp [wpOpsS, go_sem, recoverD, hu, Try.ntmps27, Exit.thenS]
  refine wpS_cond (t := true) (by simp [Act.eval, Array.replicate]) ?_
  simp only [if_true]
  apply wpS_region
  simp [wpOpsS, go_sem, hc, hz, hc2, hz2, bodyPostS, results, Try.results27]
theorem catchRR_idle (p q : Addr) (w : World) :
    CallsD Try.prog 27 #[.pointer (some p), .pointer (some q)] .returning w fun e u' w' => e = .returned (.tuple #[]) ∧ u' = .returning ∧ w' = w := by
  refine callsD_of_wpS Try.func27 rfl fun c₀ cs hu => ?_
  apply wpS_seq
  apply wpS_region
  simp [wpOpsS, go_sem, recoverD, hu, Try.ntmps27, Exit.thenS]
  refine wpS_cond (t := false) (by simp [Act.eval, Array.replicate]) ?_
  simp only [Bool.false_eq_true, if_false]
  refine wpS_of_wp (wp_skip ?_)
  cases c₀
  simp_all [bodyPostS, results, Try.results27]
theorem iRdr : (Try.prog.info? 52).map (·.size) = some 170 := by kernel_rfl
/-- The reader's cells ahead of the reading. -/
def rdr0 (l : List UInt8) : List Value := strV l :: setL (fun _ => false)
theorem zero_rdr : Try.zeroCells52 = ((.string ⟨#[]⟩ : Value) :: List.replicate 169 (Value.bool false)).toArray := by kernel_rfl
theorem zero_rdr_size : Try.zeroCells52.size = 170 := by rw [zero_rdr, List.size_toArray, List.length_cons, List.length_replicate]
theorem put_rdr (l : List UInt8) : Try.zeroCells52.setIfInBounds 0 (strV l) = (rdr0 l).toArray := by
  rw [zero_rdr]
  unfold rdr0
  rw [setL_none]
  simp
theorem third_new (w : World) (o1 o2 : Obj) (cs : Array Value) (t : TypeId) : (((w.alloc o1).alloc o2).alloc (.cells cs t)).heap[w.heap.size + 1 + 1]? = some (.cells cs t (0, 0)) := by
  have h := heap_alloc_new ((w.alloc o1).alloc o2) (.cells cs t)
  rw [World.size_alloc, World.size_alloc] at h
  exact h
set_option maxRecDepth 100000 in
set_option maxHeartbeats 4000000 in
theorem implReadRange_long (l : List UInt8) (w : World) (hl : 800 < l.length) (hm : l.length ≤ 2000000) :
    Calls Try.prog 10 #[strV l] w (NewLC [] 3 w) := by
  have hmf : ∀ (fn : Fn) (first cap : Array Value) (w : World), (Instr.makeFunc fn first cap).run Try.prog w = .ok (.func fn first cap) w := fun _ _ _ _ => rfl
  have hs : (⟨l.toArray⟩ : ByteArray).size = l.length := by show l.toArray.size = _; simp
  have e1 : (800 : Int) < (l.length : Int) := by omega
  go_enter_defers Try.func10, Try.ntmps10
  go_wp2_with fail
  refine ⟨.tuple #[.slice none 0 0, .int .i64 3], by simp [results, Try.results10, go_sem], ?_⟩
  exact newLC_nil (bl_alloc (bl_alloc (bl_refl _) _) _)
theorem rdr_range {w : World} {g : Nat} {l : List UInt8} {p : Int → Bool} (h : Rdr w g l p) : w.rangeAt g 1 (setL p) := fun j v hv => by
  have := (Blk.cell h (1 + j) v (by rw [Nat.add_comm 1 j]; exact hv)).1
  exact this
theorem own_beside {w : World} {lo b : Nat} {A : Option Addr} {n c : Nat} {xs : List Int} (h : Own w lo (.slice A n c) xs) (hb : b < lo) (v : Value) : Own (w.setCell ⟨b, 0, none⟩ v) lo (.slice A n c) xs := by
  refine h.grown (gr_cell w b 0 v) ?_
  cases A with
  | none => exact .inl rfl
  | some a =>
    right
    have := (h.lo_le a rfl).1
    exact ne_some (by omega)
/-- The named results' variables. -/
def ResB (w w1 : World) : Prop := Blk w1 w.heap.size 24 [.slice none 0 0] ∧ Blk w1 (w.heap.size + 1) 2 [.int .i64 0]
theorem ResB.grown {w w1 w2 : World} (h : ResB w w1) (hg : w1.grownBy w2 (some (w.heap.size + 1 + 1))) : ResB w w2 := ⟨h.1.grown hg (ne_some (by omega)), h.2.grown hg (ne_some (by omega))⟩
theorem ResB.below {w w1 w2 : World} (h : ResB w w1) (hb : Below w1.heap.size w1 w2) : ResB w w2 := ⟨h.1.below hb, h.2.below hb⟩
theorem ResB.c {w w1 : World} (h : ResB w w1) : w1.cell? ⟨w.heap.size, 0, none⟩ = some (.slice none 0 0) ∧ w1.frozen? ⟨w.heap.size, 0, none⟩ = false ∧ w1.cell? ⟨w.heap.size + 1, 0, none⟩ = some (.int .i64 0) ∧ w1.frozen? ⟨w.heap.size + 1, 0, none⟩ = false :=
  ⟨(h.1.cell 0 _ rfl).1, (h.1.cell 0 _ rfl).2, (h.2.cell 0 _ rfl).1, (h.2.cell 0 _ rfl).2⟩
theorem resB_new (w : World) (z : Array Value) (t : TypeId) : ResB w (((w.alloc (.cells #[.slice none 0 0] 24)).alloc (.cells #[.int .i64 0] 2)).alloc (.cells z t)) := by
  refine ⟨((blk_new w 24 [.slice none 0 0]).below (bl_alloc (bl_refl _) _)).below (bl_alloc (bl_refl _) _), ?_⟩
  have h := blk_new (w.alloc (.cells #[.slice none 0 0] 24)) 2 [.int .i64 0]
  rw [World.size_alloc] at h
  exact h.below (bl_alloc (bl_refl _) _)
theorem okK_dec (ps : List (List UInt8)) : okK ps ps.length ∨ ∃ p ∈ ps, partM p = none := by
  by_cases h : ∃ p ∈ ps, partM p = none
  · exact .inr h
  · refine .inl fun p hp => ?_
    rw [List.take_of_length_le (Nat.le_refl _)] at hp
    cases hx : partM p with
    | none => exact absurd ⟨p, hp, hx⟩ h
    | some x => rfl
theorem okK_not {ps : List (List UInt8)} {p : List UInt8} (hp : p ∈ ps) (hx : partM p = none) : ¬ okK ps ps.length := fun h => by
  have := h p (by rw [List.take_of_length_le (Nat.le_refl _)]; exact hp)
  rw [hx] at this; cases this
set_option maxRecDepth 100000 in
set_option maxHeartbeats 4000000 in
theorem implReadRange_in (l : List UInt8) (w : World) (hl : l.length ≤ 800) :
    Calls Try.prog 10 #[strV l] w (NewLC (rdR l) (rdC l) w) := by
  have hmf : ∀ (fn : Fn) (first cap : Array Value) (w : World), (Instr.makeFunc fn first cap).run Try.prog w = .ok (.func fn first cap) w := fun _ _ _ _ => rfl
  have hs : (⟨l.toArray⟩ : ByteArray).size = l.length := by show l.toArray.size = _; simp
  have e1 : ¬ (800 : Int) < (l.length : Int) := by omega
  have HP : Hid ((rdr0 l).length = 170) := Lib.hid (by unfold rdr0; rw [List.length_cons, setL_len])
  have HO1 : Hid (∀ v ∈ rdr0 l, v.oneCell' = true) := Lib.hid (fun v hv => by
    unfold rdr0 at hv
    rcases List.mem_cons.1 hv with e | e
    · rw [e]; rfl
    · exact setL_one _ v e)
  have HR0 : Hid (∀ W g, Blk W g 52 (rdr0 l) → Rdr W g l (fun _ => false)) := Lib.hid (fun W g h => h)
  have HZ := Lib.hid (congrArg Value.agg (put_rdr l))
  have HB0 : Hid (∀ z : Array Value, Below w.heap.size w (((w.alloc (.cells #[.slice none 0 0] 24)).alloc (.cells #[.int .i64 0] 2)).alloc (.cells z 52))) := Lib.hid (fun z => bl_alloc (bl_alloc (bl_alloc (bl_refl _) _) _) _)
  generalize rdr0 l = vs at *
  rcases okK_dec (splitB 44 l) with ho | ⟨p, hp, hx⟩
  · have KP : Hid (∀ g W, Rdr W g l (fun _ => false) → Calls Try.prog 28 #[.pointer (some ⟨g, 0, none⟩)] W (RdrTo g [] (hasB (accK (splitB 44 l) (splitB 44 l).length)) (.tuple #[]) W)) := Lib.hid (fun g W hW => (readParts_any g l W hW).mono fun e w' h => by
      rcases h with ⟨_, h⟩ | ⟨h, _⟩
      · exact h
      · exact absurd ho h)
    have HA := Lib.hid (rd_yes hl ho)
    clear hl ho
    rw [HA.out.1, HA.out.2]
    clear HA
    generalize hasB (accK (splitB 44 l) (splitB 44 l).length) = q at *
    have HQ := Lib.hid (setL_len q)
    have KL := Lib.hid (fun W => setList_any q W)
    have HRR : Hid (∀ W, Rdr W (w.heap.size + 1 + 1) [] q → W.rangeAt (w.heap.size + 1 + 1) 1 (setL q)) := Lib.hid (fun W h => rdr_range h)
    generalize setL q = us at *
    generalize clsIn q = zs at *
    go_enter_defers Try.func10, Try.ntmps10
    go_wp2_with (first
      | (refine wpList_store_blk 52 170 rfl (.tmp 4) (.tmp 10) rfl iRdr (w.heap.size + 1 + 1) rfl vs HZ.out HP.out HO1.out _ (third_new _ _ _ _ _) zero_rdr_size ?_; intro w1 ha1 hg1; have A1 := Lib.hid (HR0.out _ _ ha1); have C1 := Lib.hid ((resB_new w _ _).grown hg1); have B1 := Lib.hid (bl_blk (HB0.out _) hg1 (by omega)); clear ha1 hg1)
      | (go_at_call 28; ((with_reducible refine (KP.out _ _ A1.out).mono ?_); rintro e w2 ⟨rfl, hr2, hg2⟩; have R2 := Lib.hid (HRR.out _ hr2); have C2 := Lib.hid (C1.out.grown hg2); have B2 := Lib.hid (bl_blk B1.out hg2 (by omega)); clear hr2 hg2))
      | (with_reducible refine wpList_load_blk 50 _ 169 rfl (.tmp 12) rfl uSet rfl iSet (w.heap.size + 1 + 1) 1 rfl us HQ.out R2.out ?_)
      | (go_at_call 29; refine (KL.out _).mono ?_; rintro e w3 ⟨A3, c3, rfl, ho3, hb3⟩; have O3 := Lib.hid ho3; have C3 := Lib.hid (C2.out.below hb3); have B3 := Lib.hid (bl_trans B2.out hb3); have Z2 := Lib.hid B2.out.size; have Z3 : Hid (w.heap.size + 1 < w2.heap.size) := Lib.hid C2.out.2.lt; obtain ⟨r0, r1, r2, r3⟩ := C3.out.c; clear ho3 hb3))
    refine leaves_cons (f := 27) (args := #[.pointer (some ⟨w.heap.size, 0, none⟩), .pointer (some ⟨w.heap.size + 1, 0, none⟩)]) (by simp) (by simp [go_sem]) ?_
    refine (catchRR_idle ⟨w.heap.size, 0, none⟩ ⟨w.heap.size + 1, 0, none⟩ _).mono ?_
    rintro e u' w'' ⟨rfl, rfl, rfl⟩
    refine ⟨.tuple #[.slice A3 zs.length c3, .int .i64 0], by simp [results, Try.results10, go_sem, r0, r2], ?_⟩
    exact ⟨A3, c3, rfl, (own_beside (own_beside O3.out (by have := Z3.out; omega) _) Z3.out _).less Z2.out, bl_set (bl_set B3.out (by simp) _) (by simp) _⟩
  · have KP : Hid (∀ g W, Rdr W g l (fun _ => false) → Calls Try.prog 28 #[.pointer (some ⟨g, 0, none⟩)] W (RdrDies g W)) := Lib.hid (fun g W hW => (readParts_any g l W hW).mono fun e w' h => by
      rcases h with ⟨h, _⟩ | ⟨_, h⟩
      · exact absurd h (okK_not hp hx)
      · exact h)
    have HA := Lib.hid (rd_bad hl hp hx)
    clear hl hp hx
    rw [HA.out.1, HA.out.2]
    clear HA
    go_enter_defers Try.func10, Try.ntmps10
    go_wp2_with (first
      | (refine wpList_store_blk 52 170 rfl (.tmp 4) (.tmp 10) rfl iRdr (w.heap.size + 1 + 1) rfl vs HZ.out HP.out HO1.out _ (third_new _ _ _ _ _) zero_rdr_size ?_; intro w1 ha1 hg1; have A1 := Lib.hid (HR0.out _ _ ha1); have C1 := Lib.hid ((resB_new w _ _).grown hg1); have B1 := Lib.hid (bl_blk (HB0.out _) hg1 (by omega)); clear ha1 hg1)
      | (go_at_call 28; ((with_reducible refine (KP.out _ _ A1.out).mono ?_); rintro e w2 ⟨u, v, rfl, hg2⟩; have C2 := Lib.hid (C1.out.grown hg2); have B2 := Lib.hid (bl_blk B1.out hg2 (by omega)); clear hg2)))
    obtain ⟨r0, r1, r2, r3⟩ := C2.out.c
    refine leaves_cons (f := 27) (args := #[.pointer (some ⟨w.heap.size, 0, none⟩), .pointer (some ⟨w.heap.size + 1, 0, none⟩)]) (by simp) (by simp [go_sem]) ?_
    refine (catchRR_panics w.heap.size u v w2 r0 r1 r2 r3).mono ?_
    rintro e u' w'' ⟨rfl, rfl, rfl⟩
    refine ⟨.tuple #[.slice none 0 0, .int .i64 6], by simp [results, Try.results10, go_sem, r0, r2], ?_⟩
    exact newLC_nil (bl_set (bl_set B2.out (by simp) _) (by simp) _)
theorem implReadRange_any (s : ByteArray) (w : World) (hs : s.size ≤ 2000000) :
    Calls Try.prog 10 #[.string s] w (NewLC (rdR s.data.toList) (rdC s.data.toList) w) := by
  obtain ⟨⟨l⟩⟩ := s
  have hm : l.length ≤ 2000000 := by simpa [ByteArray.size] using hs
  show Calls _ _ #[strV l] w (NewLC (rdR l) (rdC l) w)
  by_cases h : l.length ≤ 800
  · exact implReadRange_in l w h
  · have e := rd_long (l := l) (by omega)
    rw [e.1, e.2]
    exact implReadRange_long l w (by omega) hm
end Go.Proofs.Ytlpkaflmhdgmmaa
