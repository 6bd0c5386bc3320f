/-
  The laws' own helpers on tables: szTable, toTable, eqTable, markTable, heldTable.
-/
import Derived.Test.YthgfohdjpfhebaaTab
import Derived.Test.YthgfohdjpfhebaaStoreB
import Derived.BigQuiet
namespace Go.Proofs.Ythgfohdjpfhebaa
open Go.RowKit
set_option linter.unusedVariables false

/-- A block lies apart from a row. -/
theorem blk_ne_lt {W : World} {lo g n c : Nat} {A : Option Addr} {xs : List Int} (h : Row W lo A xs) (hg : g < lo) : some g ≠ (Value.slice A n c).ownBlock := by
  rcases A with _ | a
  · intro e; cases e
  · intro e
    have k := (h.1 a rfl).1
    have : g = a.block := by injection e
    omega
theorem blk_ne_ge {W : World} {lo g n c : Nat} {A : Option Addr} {xs : List Int} (h : Row W lo A xs) (hg : W.heap.size ≤ g) : some g ≠ (Value.slice A n c).ownBlock := by
  rcases A with _ | a
  · intro e; cases e
  · intro e
    have k := (h.1 a rfl).2
    have : g = a.block := by injection e
    omega
/-- A new table. -/
def NewT (xs : List Int) (b s g a l : Int) (w : World) (e : Ending) (w' : World) : Prop := ∃ A c, e = .returned (.agg #[.slice A xs.length c, .int .i64 b, .int .i64 s, .int .i64 g, .int .i64 a, .int .i64 l]) ∧ Own w' w.heap.size (.slice A xs.length c) xs ∧ Below w.heap.size w w'

set_option maxRecDepth 100000 in
set_option maxHeartbeats 400000 in
theorem szInts_any (A : Option Addr) (n c : Nat) (q : Int) (w : World) (h0 : 0 ≤ q) (h1 : q ≤ 2000000) (hn : n ≤ 9223372036854775807) :
    Calls Try.prog 123 #[.slice A n c, .int .i64 q] w (Same (.int .i64 (if q - n < 0 then -1 else q - n)) w) := by
  by_cases hq : q - n < 0
  · rw [if_pos hq]
    go_enter Try.func123, Try.ntmps123
    go_wp2_with fail
    go_ret
    exact ⟨rfl, rfl⟩
  · rw [if_neg hq]
    go_enter Try.func123, Try.ntmps123
    go_wp2_with fail
    go_ret
    exact ⟨rfl, rfl⟩
set_option maxRecDepth 100000 in
set_option maxHeartbeats 1000000 in
theorem szTable_any (A : Option Addr) (n c : Nat) (b s g a l q : Int) (w : World) (h0 : 0 ≤ q) (h1 : q ≤ 2000000) (hn : n ≤ 9223372036854775807) :
    Calls Try.prog 61 #[tV A n c b s g a l, .int .i64 q] w (Fresh (.int .i64 (if q - n < 0 then -1 else q - n)) w) := by
  have K := Lib.hid (fun W : World => szInts_any A n c q W h0 h1 hn)
  have B0 := Lib.hid (bl_alloc (bl_refl w) (.cells #[.slice A n c, .int .i64 b, .int .i64 s, .int .i64 g, .int .i64 a, .int .i64 l] 69))
  unfold tV
  have hq : (q - n < 0 ∧ (if q - n < 0 then -1 else q - n) = (-1 : Int)) ∨ (¬ (q - n < 0) ∧ (if q - n < 0 then -1 else q - n) = q - n) := by split <;> omega
  generalize (if q - n < 0 then -1 else q - n) = r at *
  rcases hq with ⟨hq, rfl⟩ | ⟨hq, rfl⟩
  all_goals
    go_enter Try.func61, Try.ntmps61
    go_wp2_with (go_at_call 123; refine (K.out _).mono ?_; rintro e w1 ⟨rfl, rfl⟩)
    go_ret
    exact ⟨rfl, B0.out⟩

set_option maxRecDepth 100000 in
set_option maxHeartbeats 2000000 in
theorem toTable_any (A : Option Addr) (c : Nat) (xs : List Int) (b s g a l : Int) (w : World) (hr0 : Rd w A xs) (hn0 : xs.length ≤ 1048576) :
    Calls Try.prog 63 #[tV A xs.length c b s g a l] w (NewT xs b s g a l w) := by
  obtain ⟨w0, rfl⟩ : ∃ w0 : World, w0 = w := ⟨w, rfl⟩
  obtain ⟨W1, e1⟩ : ∃ W1, W1 = w0.alloc (.cells ([.slice A xs.length c, .int .i64 b, .int .i64 s, .int .i64 g, .int .i64 a, .int .i64 l] : List Value).toArray 69) := ⟨_, rfl⟩
  obtain ⟨W2, e2⟩ : ∃ W2, W2 = W1.alloc (.cells ([.slice none 0 0, .int .i64 0, .int .i64 0, .int .i64 0, .int .i64 0, .int .i64 0] : List Value).toArray 49) := ⟨_, rfl⟩
  obtain ⟨W3, e3⟩ : ∃ W3, W3 = W2.alloc (.cells ([.slice none 0 0, .int .i64 0, .int .i64 0, .int .i64 0, .int .i64 0, .int .i64 0] : List Value).toArray 49) := ⟨_, rfl⟩
  have z1 : W1.heap.size = w0.heap.size + 1 := by rw [e1]; simp
  have z2 : W2.heap.size = w0.heap.size + 1 + 1 := by rw [e2]; simp [z1]
  have z3 : W3.heap.size = w0.heap.size + 1 + 1 + 1 := by rw [e3]; simp [z2]
  have b1 : Below w0.heap.size w0 W1 := by rw [e1]; exact bl_alloc (bl_refl w0) _
  have b2 : Below w0.heap.size w0 W2 := by rw [e2]; exact bl_alloc b1 _
  have b3 : Below w0.heap.size w0 W3 := by rw [e3]; exact bl_alloc b2 _
  have k1 : Blk W1 w0.heap.size 69 [.slice A xs.length c, .int .i64 b, .int .i64 s, .int .i64 g, .int .i64 a, .int .i64 l] := by rw [e1]; exact blk_new w0 _ _
  have k2 : Blk W2 (w0.heap.size + 1) 49 [.slice none 0 0, .int .i64 0, .int .i64 0, .int .i64 0, .int .i64 0, .int .i64 0] := by rw [e2, ← z1]; exact blk_new W1 _ _
  have k3 : Blk W3 (w0.heap.size + 1 + 1) 49 [.slice none 0 0, .int .i64 0, .int .i64 0, .int .i64 0, .int .i64 0, .int .i64 0] := by rw [e3, ← z2]; exact blk_new W2 _ _
  have k13 : Blk W3 w0.heap.size 69 [.slice A xs.length c, .int .i64 b, .int .i64 s, .int .i64 g, .int .i64 a, .int .i64 l] := by
    rw [e3]; refine (?_ : Blk W2 _ _ _).below (bl_alloc (bl_refl W2) _); rw [e2]; exact k1.below (bl_alloc (bl_refl W1) _)
  have k23 : Blk W3 (w0.heap.size + 1) 49 [.slice none 0 0, .int .i64 0, .int .i64 0, .int .i64 0, .int .i64 0, .int .i64 0] := by rw [e3]; exact k2.below (bl_alloc (bl_refl W2) _)
  have K0 := Lib.hid (fun (W : World) (h : Below w0.heap.size w0 W) => toInts_any A c xs W (hr0.below h) hn0)
  have P1 := Lib.hid k13
  have P2 := Lib.hid k23
  have P3 := Lib.hid k3
  have PB := Lib.hid b3
  have PZ := Lib.hid z3
  have PL := Lib.hid (Nat.le_of_eq z3.symm)
  obtain ⟨q, _⟩ := k13.cell 0 _ rfl
  clear hr0 hn0 k1 k2 k3 k13 k23 b1 b2 b3 z1 z2 z3
  subst e3 e2 e1
  have uT := Try.underlying49
  have iT : (Try.prog.info? 49).map (·.size) = some 6 := by kernel_rfl
  have i1 : (Try.prog.info? 2).map (·.size) = some 1 := by kernel_rfl
  have i1s : (Try.prog.info? 24).map (·.size) = some 1 := by kernel_rfl
  unfold tV
  go_enter Try.func63, Try.ntmps63
  go_wp2_with (first
    | (go_at_call 125; refine (K0.out _ PB.out).mono ?_; rintro e x0 ⟨A0, c0, rfl, ho, hb⟩; have HO0 := Lib.hid ho; have PO0 : Hid (w0.heap.size + 1 + 1 < _) := Lib.hid (Nat.lt_of_lt_of_le (Nat.lt_succ_self _) PL.out); have P1a := Lib.hid (P1.out.below hb); have P2a := Lib.hid (P2.out.below hb); have P3a := Lib.hid (P3.out.below hb); have PBa := Lib.hid (bl_trans PB.out hb); have PLa := Lib.hid (Nat.le_trans PL.out hb.size); clear ho hb P1 P2 P3 PB PL; have P1 := P1a; have P2 := P2a; have P3 := P3a; have PB := PBa; have PL := PLa; clear P1a P2a P3a PBa PLa)
    | ((with_reducible refine wpList_store_at 24 rfl (.tmp 7) (.tmp 6) rfl i1s (w0.heap.size + 1 + 1) 0 rfl (.slice A0 xs.length c0) rfl rfl _ _ P3.out ?_ ?_); (exact (by simp)); intro y0 k5 g5; have P1a := hb_grown P1 g5 (by omega); have P2a := hb_grown P2 g5 (by omega); have P3a : Hid (Blk y0 (w0.heap.size + 1 + 1) 49 [.slice A0 xs.length c0, .int .i64 0, .int .i64 0, .int .i64 0, .int .i64 0, .int .i64 0]) := Lib.hid k5; have PBa := hbl_grown PB g5 (by omega); have PLa := hle_grown PL g5; have HO0a := ho_grown HO0 g5 PO0.out; clear HO0; have HO0 := HO0a; clear HO0a; clear k5 g5 P1 P2 P3 PB PL; have P1 := P1a; have P2 := P2a; have P3 := P3a; have PB := PBa; have PL := PLa; clear P1a P2a P3a PBa PLa; clear q; obtain ⟨q, _⟩ := P1.out.cell 1 _ rfl)
    | ((with_reducible refine wpList_store_at 2 rfl (.tmp 10) (.tmp 9) rfl i1 (w0.heap.size + 1 + 1) 1 rfl (.int .i64 b) rfl rfl _ _ P3.out ?_ ?_); (exact (by simp)); intro y1 k5 g5; have P1a := hb_grown P1 g5 (by omega); have P2a := hb_grown P2 g5 (by omega); have P3a : Hid (Blk y1 (w0.heap.size + 1 + 1) 49 [.slice A0 xs.length c0, .int .i64 b, .int .i64 0, .int .i64 0, .int .i64 0, .int .i64 0]) := Lib.hid k5; have PBa := hbl_grown PB g5 (by omega); have PLa := hle_grown PL g5; have HO0a := ho_grown HO0 g5 PO0.out; clear HO0; have HO0 := HO0a; clear HO0a; clear k5 g5 P1 P2 P3 PB PL; have P1 := P1a; have P2 := P2a; have P3 := P3a; have PB := PBa; have PL := PLa; clear P1a P2a P3a PBa PLa; clear q; obtain ⟨q, _⟩ := P1.out.cell 2 _ rfl)
    | ((with_reducible refine wpList_store_at 2 rfl (.tmp 13) (.tmp 12) rfl i1 (w0.heap.size + 1 + 1) 2 rfl (.int .i64 s) rfl rfl _ _ P3.out ?_ ?_); (exact (by simp)); intro y2 k5 g5; have P1a := hb_grown P1 g5 (by omega); have P2a := hb_grown P2 g5 (by omega); have P3a : Hid (Blk y2 (w0.heap.size + 1 + 1) 49 [.slice A0 xs.length c0, .int .i64 b, .int .i64 s, .int .i64 0, .int .i64 0, .int .i64 0]) := Lib.hid k5; have PBa := hbl_grown PB g5 (by omega); have PLa := hle_grown PL g5; have HO0a := ho_grown HO0 g5 PO0.out; clear HO0; have HO0 := HO0a; clear HO0a; clear k5 g5 P1 P2 P3 PB PL; have P1 := P1a; have P2 := P2a; have P3 := P3a; have PB := PBa; have PL := PLa; clear P1a P2a P3a PBa PLa; clear q; obtain ⟨q, _⟩ := P1.out.cell 3 _ rfl)
    | ((with_reducible refine wpList_store_at 2 rfl (.tmp 16) (.tmp 15) rfl i1 (w0.heap.size + 1 + 1) 3 rfl (.int .i64 g) rfl rfl _ _ P3.out ?_ ?_); (exact (by simp)); intro y3 k5 g5; have P1a := hb_grown P1 g5 (by omega); have P2a := hb_grown P2 g5 (by omega); have P3a : Hid (Blk y3 (w0.heap.size + 1 + 1) 49 [.slice A0 xs.length c0, .int .i64 b, .int .i64 s, .int .i64 g, .int .i64 0, .int .i64 0]) := Lib.hid k5; have PBa := hbl_grown PB g5 (by omega); have PLa := hle_grown PL g5; have HO0a := ho_grown HO0 g5 PO0.out; clear HO0; have HO0 := HO0a; clear HO0a; clear k5 g5 P1 P2 P3 PB PL; have P1 := P1a; have P2 := P2a; have P3 := P3a; have PB := PBa; have PL := PLa; clear P1a P2a P3a PBa PLa; clear q; obtain ⟨q, _⟩ := P1.out.cell 4 _ rfl)
    | ((with_reducible refine wpList_store_at 2 rfl (.tmp 19) (.tmp 18) rfl i1 (w0.heap.size + 1 + 1) 4 rfl (.int .i64 a) rfl rfl _ _ P3.out ?_ ?_); (exact (by simp)); intro y4 k5 g5; have P1a := hb_grown P1 g5 (by omega); have P2a := hb_grown P2 g5 (by omega); have P3a : Hid (Blk y4 (w0.heap.size + 1 + 1) 49 [.slice A0 xs.length c0, .int .i64 b, .int .i64 s, .int .i64 g, .int .i64 a, .int .i64 0]) := Lib.hid k5; have PBa := hbl_grown PB g5 (by omega); have PLa := hle_grown PL g5; have HO0a := ho_grown HO0 g5 PO0.out; clear HO0; have HO0 := HO0a; clear HO0a; clear k5 g5 P1 P2 P3 PB PL; have P1 := P1a; have P2 := P2a; have P3 := P3a; have PB := PBa; have PL := PLa; clear P1a P2a P3a PBa PLa; clear q; obtain ⟨q, _⟩ := P1.out.cell 5 _ rfl)
    | ((with_reducible refine wpList_store_at 2 rfl (.tmp 22) (.tmp 21) rfl i1 (w0.heap.size + 1 + 1) 5 rfl (.int .i64 l) rfl rfl _ _ P3.out ?_ ?_); (exact (by simp)); intro y5 k5 g5; have P1a := hb_grown P1 g5 (by omega); have P2a := hb_grown P2 g5 (by omega); have P3a : Hid (Blk y5 (w0.heap.size + 1 + 1) 49 [.slice A0 xs.length c0, .int .i64 b, .int .i64 s, .int .i64 g, .int .i64 a, .int .i64 l]) := Lib.hid k5; have PBa := hbl_grown PB g5 (by omega); have PLa := hle_grown PL g5; have HO0a := ho_grown HO0 g5 PO0.out; clear HO0; have HO0 := HO0a; clear HO0a; clear k5 g5 P1 P2 P3 PB PL; have P1 := P1a; have P2 := P2a; have P3 := P3a; have PB := PBa; have PL := PLa; clear P1a P2a P3a PBa PLa)
    | (with_reducible refine wpList_load_blk 49 _ 6 rfl (.tmp 3) rfl uT rfl iT (w0.heap.size + 1 + 1) 0 rfl [.slice A0 xs.length c0, .int .i64 b, .int .i64 s, .int .i64 g, .int .i64 a, .int .i64 l] rfl P3.out.range ?_)
    | (refine wpList_store_blk 49 6 rfl (.tmp 2) (.tmp 23) rfl iT (w0.heap.size + 1) rfl [.slice A0 xs.length c0, .int .i64 b, .int .i64 s, .int .i64 g, .int .i64 a, .int .i64 l] rfl rfl (by simp [Value.oneCell']) _ P2.out rfl ?_; intro y9 k9 g9; have HO0a := ho_grown HO0 g9 (Nat.lt_of_succ_lt PO0.out); have PBa := hbl_grown PB g9 (by omega); have P2a := Lib.hid k9; clear k9 g9))
  obtain ⟨z0, _⟩ := P2a.out.cell 0 _ rfl
  obtain ⟨z1, _⟩ := P2a.out.cell 1 _ rfl
  obtain ⟨z2, _⟩ := P2a.out.cell 2 _ rfl
  obtain ⟨z3, _⟩ := P2a.out.cell 3 _ rfl
  obtain ⟨z4, _⟩ := P2a.out.cell 4 _ rfl
  obtain ⟨z5, _⟩ := P2a.out.cell 5 _ rfl
  exact bodyPost_ret (v := .agg #[.slice A0 xs.length c0, .int .i64 b, .int .i64 s, .int .i64 g, .int .i64 a, .int .i64 l]) (by simp [results, Try.results63, go_sem, z0, z1, z2, z3, z4, z5]) rfl (⟨_, _, rfl, HO0a.out.less (by have := PO0.out; omega), PBa.out⟩)
-- behind toTable
set_option maxRecDepth 100000 in
set_option maxHeartbeats 1000000 in
theorem eqTable_same (A : Option Addr) (c : Nat) (A2 : Option Addr) (c2 : Nat) (xs : List Int) (b s g a l : Int) (w : World) (hr : Rd w A xs) (hq : Rd w A2 xs) (hn : xs.length ≤ 4000000) :
    Calls Try.prog 65 #[tV A xs.length c b s g a l, tV A2 xs.length c2 b s g a l] w (Fresh (.bool true) w) := by
  have K := Lib.hid (fun (W : World) (h : Below w.heap.size w W) => eqInts_same A A2 c c2 xs W (hr.below h) (hq.below h) hn)
  clear hr hq hn
  have n0 := blk_new w 49 [.slice A xs.length c, .int .i64 b, .int .i64 s, .int .i64 g, .int .i64 a, .int .i64 l]
  have n1 := blk_new (w.alloc (.cells ([.slice A xs.length c, .int .i64 b, .int .i64 s, .int .i64 g, .int .i64 a, .int .i64 l] : List Value).toArray 49)) 49 [.slice A2 xs.length c2, .int .i64 b, .int .i64 s, .int .i64 g, .int .i64 a, .int .i64 l]
  rw [World.size_alloc] at n1
  have N0 := Lib.hid (n0.below (bl_alloc (bl_refl _) (.cells ([.slice A2 xs.length c2, .int .i64 b, .int .i64 s, .int .i64 g, .int .i64 a, .int .i64 l] : List Value).toArray 49)))
  have N1 := Lib.hid n1
  have B := Lib.hid (bl_alloc (bl_alloc (bl_refl w) (.cells ([.slice A xs.length c, .int .i64 b, .int .i64 s, .int .i64 g, .int .i64 a, .int .i64 l] : List Value).toArray 49)) (.cells ([.slice A2 xs.length c2, .int .i64 b, .int .i64 s, .int .i64 g, .int .i64 a, .int .i64 l] : List Value).toArray 49))
  clear n0 n1
  unfold tV
  go_enter Try.func65, Try.ntmps65
  go_wp2_with (first
    | (go_at_call 73; refine (K.out _ B.out).mono ?_; rintro e wn ⟨rfl, hb⟩; have N0a := Lib.hid (N0.out.below hb); clear N0; have N0 := N0a; clear N0a; have N1a := Lib.hid (N1.out.below hb); clear N1; have N1 := N1a; clear N1a; have Ba := Lib.hid (bl_trans B.out hb); clear B hb; have B := Ba; clear Ba; obtain ⟨q0_0, _⟩ := N0.out.cell 0 _ rfl; obtain ⟨q0_1, _⟩ := N0.out.cell 1 _ rfl; obtain ⟨q0_2, _⟩ := N0.out.cell 2 _ rfl; obtain ⟨q0_3, _⟩ := N0.out.cell 3 _ rfl; obtain ⟨q0_4, _⟩ := N0.out.cell 4 _ rfl; obtain ⟨q0_5, _⟩ := N0.out.cell 5 _ rfl; obtain ⟨q1_0, _⟩ := N1.out.cell 0 _ rfl; obtain ⟨q1_1, _⟩ := N1.out.cell 1 _ rfl; obtain ⟨q1_2, _⟩ := N1.out.cell 2 _ rfl; obtain ⟨q1_3, _⟩ := N1.out.cell 3 _ rfl; obtain ⟨q1_4, _⟩ := N1.out.cell 4 _ rfl; obtain ⟨q1_5, _⟩ := N1.out.cell 5 _ rfl))
  go_ret
  exact ⟨rfl, B.out⟩
/-- What marking a table leaves. -/
def MarkPostT (w : World) (lo : Nat) (k0 : Int) (A : Option Addr) (c n : Nat) (e : Ending) (w' : World) : Prop :=
  e = .returned (.int .i64 (k0 + n)) ∧ Row w' lo A (marks k0 n) ∧ w.grownBy w' (Value.slice A n c).ownBlock
set_option maxRecDepth 100000 in
set_option maxHeartbeats 1000000 in
theorem markTable_any (A : Option Addr) (c lo : Nat) (xs : List Int) (b s g a l k0 : Int) (w : World) (h : Row w lo A xs) (hn : xs.length ≤ 4000000) (h0 : 0 ≤ k0) (h1 : k0 ≤ 100000000) :
    Calls Try.prog 66 #[tV A xs.length c b s g a l, .int .i64 k0] w (MarkPostT w lo k0 A c xs.length) := by
  have K := Lib.hid (fun (W : World) (hb : Below w.heap.size w W) => markRow_any A c lo xs k0 W (h.below hb) hn h0 h1)
  clear h hn h0 h1
  have n0 := blk_new w 49 [.slice A xs.length c, .int .i64 b, .int .i64 s, .int .i64 g, .int .i64 a, .int .i64 l]
  have N0 := Lib.hid n0
  have B := Lib.hid (bl_alloc (bl_refl w) (.cells ([.slice A xs.length c, .int .i64 b, .int .i64 s, .int .i64 g, .int .i64 a, .int .i64 l] : List Value).toArray 49))
  clear n0
  have G : Hid (w.grownBy (w.alloc (.cells ([.slice A xs.length c, .int .i64 b, .int .i64 s, .int .i64 g, .int .i64 a, .int .i64 l] : List Value).toArray 49)) (Value.slice A xs.length c).ownBlock) := Lib.hid ⟨B.out.os, B.out.tape, B.out.output, B.out.size, fun k hk _ => B.out.block k hk⟩
  unfold tV
  go_enter Try.func66, Try.ntmps66
  go_wp2_with (go_at_call 74; refine (K.out _ B.out).mono ?_; rintro e wn ⟨rfl, ho, hg⟩; have HO := Lib.hid ho; have HG := Lib.hid (World.grownBy.trans G.out hg); clear ho hg)
  go_ret
  exact ⟨rfl, HO.out, HG.out⟩
end Go.Proofs.Ythgfohdjpfhebaa
