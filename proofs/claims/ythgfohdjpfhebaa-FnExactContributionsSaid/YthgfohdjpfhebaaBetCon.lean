/-
  The program and the model: what each seat has paid and bet.
-/
import Derived.Test.YthgfohdjpfhebaaBetF
import Derived.Test.YthgfohdjpfhebaaSpecBetF
import Derived.Test.YthgfohdjpfhebaaAppR
namespace Go.Proofs.Ythgfohdjpfhebaa
open Go.RowKit
set_option linter.unusedVariables false

/-- What each seat has paid and bet. -/
def payL (b : Bt) : List Int := (List.range b.pd.length).map (fun i => nth b.pd i + nth b.bt i)
theorem payL_len (b : Bt) : (payL b).length = b.pd.length := by simp [payL]
theorem payL_nth (b : Bt) (i : Nat) (h : i < b.pd.length) : nth (payL b) i = nth b.pd i + nth b.bt i := by
  rw [nth_eq _ _ (by rw [payL_len]; exact h)]; simp [payL]
theorem payL_take (b : Bt) (k : Nat) (h : k < b.pd.length) : (payL b).take (k + 1) = (payL b).take k ++ [nth b.pd k + nth b.bt k] := by
  rw [take_nth _ k (by rw [payL_len]; exact h), payL_nth b k h]
/-- The first k are written. -/
def fillP (b : Bt) (k : Nat) : List Int := (payL b).take k ++ List.replicate (b.pd.length - k) 0
theorem fillP_len (b : Bt) (k : Nat) (h : k ≤ b.pd.length) : (fillP b k).length = b.pd.length := by
  unfold fillP; rw [List.length_append, List.length_take, payL_len, List.length_replicate]; omega
theorem fillP_zero (b : Bt) : fillP b 0 = List.replicate b.pd.length 0 := by simp [fillP]
theorem fillP_all (b : Bt) : fillP b b.pd.length = payL b := by
  unfold fillP; rw [Nat.sub_self, List.take_of_length_le (by rw [payL_len]; exact Nat.le_refl _)]; simp
theorem fillP_set (b : Bt) (k : Nat) (h : k < b.pd.length) : (fillP b k).set k (nth b.pd k + nth b.bt k) = fillP b (k + 1) := by
  unfold fillP
  have e : b.pd.length - k = (b.pd.length - (k + 1)) + 1 := by omega
  have hl : ((payL b).take k).length = k := by rw [List.length_take, payL_len]; omega
  rw [e, List.replicate_succ, List.set_append_right _ _ (by omega), hl, Nat.sub_self, List.set_cons_zero, payL_take b k h, List.append_assoc]
  rfl
noncomputable def conR (b : Bt) : List Int := if okB b = true then payL b else []
theorem conR_len (b : Bt) : (conR b).length ≤ 6 := by
  unfold conR
  split
  · next h => have k := ok_of h; rw [payL_len, k.l3]; exact k.n6
  · simp
theorem own_setP {w : World} {lo g k : Nat} {xs : List Int} (h : Own w lo (.slice (some ⟨g, 0, none⟩) xs.length k) xs) (i : Nat) (u : Int) :
    Own (w.setCell ⟨g, i, none⟩ (.int .i64 u)) lo (.slice (some ⟨g, 0, none⟩) (xs.set i u).length k) (xs.set i u) ∧ w.grownBy (w.setCell ⟨g, i, none⟩ (.int .i64 u)) (some g) := by
  have h1 := World.ownsRow.stored h i (.int .i64 u)
  rw [ints_set] at h1
  unfold Own
  rw [List.length_set]
  exact h1
theorem own_atP {w : World} {lo g k : Nat} {xs : List Int} (h : Own w lo (.slice (some ⟨g, 0, none⟩) xs.length k) xs) (i : Nat) (hi : i < xs.length) :
    w.cell? ⟨g, i, none⟩ = some (.int .i64 (nth xs i)) ∧ w.frozen? ⟨g, i, none⟩ = false :=
  ⟨by rw [World.ownsRow.cellAt h i (by omega), ints_get _ _ hi], World.ownsRow.frozenAt h i⟩
theorem wpList_makeI {ops : Array Oper} {rest : List Oper} {o : Oper} {a : Act} {w : World} {Q : Exit → Act → World → Prop} (hgd : o.guard = none) (l c : Operand) (ho : o.op = .makeSlice 24 l c) (n : Nat) (hl : a.eval l = .int .i64 n) (hc : a.eval c = .int .i64 n) (hn : n ≤ 1000000)
    (h : ∀ w', Own w' w.heap.size (.slice (some ⟨w.heap.size, 0, none⟩) (List.replicate n (0 : Int)).length n) (List.replicate n 0) → Below w.heap.size w w' → wpList Try.prog ops Q rest (a.put o.dst (.slice (some ⟨w.heap.size, 0, none⟩) n n)) w') : wpList Try.prog ops Q (o :: rest) a w := by
  obtain ⟨i0, hi, hz0, hz1, hz2⟩ := info_parts infoInt
  refine wpList_make_full w hgd l c 24 ho w.heap.size 2 i0 (.int .i64 0) 1 Try.underlying24 hi hz0 hz1 .i64 .i64 _ _ n hl hc rfl rfl ?_ ?_ (Nat.le_refl _) (fun w' hown hg => ?_)
  · rw [hz2]; omega
  · unfold maxLen; omega
  · refine h w' ?_ ((bl_refl _).grown hg (Nat.le_refl _) (fun j hj => by cases hj))
    have e : (madeCells (Value.int .i64 0).cells (n * 1)).toList = ints (List.replicate n 0) := by
      rw [Nat.mul_one, ← ints_zeros]; exact toList_madeCells_one _ _
    rw [e] at hown
    unfold Own
    rw [List.length_replicate]
    exact hown
/-- What the loop keeps. -/
def FS (w0 : World) (gz : Nat) (b : Bt) (k : Nat) (wr : World) : Prop := Own wr w0.heap.size (.slice (some ⟨gz, 0, none⟩) (fillP b k).length b.pd.length) (fillP b k) ∧ Below w0.heap.size w0 wr ∧ w0.heap.size ≤ gz
set_option maxRecDepth 100000 in
set_option maxHeartbeats 2000000 in
theorem contributions_any (g : Nat) (L : At5) (b : Bt) (w : World) (h : BtAt w g L b) (k : Sd b) (s3 : inC b.pd) :
    Calls Try.prog 113 #[.pointer (some ⟨g, 0, none⟩)] w (NewL (payL b) w) := by
  have hmx : Try.prog.follows .mixedOrders = true := by kernel_rfl
  have HB := Lib.hid h
  have KS := Lib.hid (seatCountB_any g L b w h)
  have n6 := k.n6
  have l2 := k.l2
  have l3 := k.l3
  rw [← l3] at n6 KS
  have hl2 : b.bt.length = b.pd.length := by omega
  have HL2 := Lib.hid hl2
  have HS2 := Lib.hid k.s2
  have HS3 := Lib.hid s3
  have HF := Lib.hid (fun (k : Nat) (hk : k < b.pd.length) => fillP_set b k hk)
  have HFL := Lib.hid (fun (k : Nat) (hk : k ≤ b.pd.length) => fillP_len b k hk)
  have HFZ := Lib.hid (fillP_zero b)
  have HFA := Lib.hid (fillP_all b)
  clear h k s3 l2 l3 hl2
  obtain ⟨w0, rfl⟩ : ∃ w0 : World, w0 = w := ⟨w, rfl⟩
  go_enter Try.func113, Try.ntmps113
  go_wp2_with (first
    | (go_at_call 100; refine KS.out.mono ?_; rintro e wn ⟨rfl, rfl⟩)
    | (at_make; (refine wpList_makeI rfl (.tmp 6) (.tmp 6) rfl b.pd.length rfl rfl (by omega) ?_); intro w1 ho hb; obtain ⟨gz, ez⟩ : ∃ g, g = w0.heap.size := ⟨_, rfl⟩; have H0 : Hid (FS w0 gz b 0 w1) := Lib.hid ⟨by rw [HFZ.out, ez]; exact ho, hb, by rw [ez]; exact Nat.le_refl _⟩; rw [← ez]; clear ho hb ez))
  go_loopw [10] (fun q wr => ∃ k : Nat, k ≤ b.pd.length ∧ q = .int .i64 k ∧ Hid (FS w0 gz b k wr)) (fun q _ => b.pd.length - (intOf q).toNat)
  case atStart => exact ⟨0, Nat.zero_le _, rfl, H0⟩
  case round =>
    obtain ⟨k, hk, rfl, HS⟩ := hrel
    by_cases hlt : k < b.pd.length
    · have hlt' : (k : Int) < b.pd.length := by omega
      have hlt2 : (k : Int) < b.bt.length := by rw [HL2.out]; omega
      have BW := HB.out.below HS.out.2.1
      obtain ⟨b2, o2, e2, hc2⟩ := BW.rd.r2.at_0 k (by rw [HL2.out]; exact hlt)
      obtain ⟨b3, o3, e3, hc3⟩ := BW.rd.r3.at_0 k hlt
      have HN : Hid (Blk wr g 27 [.slice L.a1 b.st.length L.c1, .slice (some ⟨b2, o2, none⟩) b.bt.length L.c2, .slice (some ⟨b3, o3, none⟩) b.pd.length L.c3, .slice L.a4 b.fo.length L.c4, .slice L.a5 b.ac.length L.c5, .int .i64 b.tu, .int .i64 b.un, .int .i64 b.ra, .int .i64 b.li]) := Lib.hid (by have q := BW.blk; unfold btL at q; rw [e2, e3] at q; exact q)
      have bx := HS3.out k hlt
      have bt_ := HS2.out k (by rw [HL2.out]; exact hlt)
      have HT := Lib.hid (HF.out k hlt)
      have HLK := Lib.hid (HFL.out k hk)
      generalize nth b.pd k = x at *
      generalize nth b.bt k = y at *
      have H3 : Hid (∀ W', Below wr.heap.size wr W' → W'.cell? ⟨b3, o3 + k, none⟩ = some (.int .i64 x)) := Lib.hid (fun W' hI => (hI.cell (p := ⟨b3, o3 + k, none⟩) (World.block_lt_of_cell? _ _ hc3)).trans hc3)
      have H2 : Hid (∀ W', Below wr.heap.size wr W' → W'.cell? ⟨b2, o2 + k, none⟩ = some (.int .i64 y)) := Lib.hid (fun W' hI => (hI.cell (p := ⟨b2, o2 + k, none⟩) (World.block_lt_of_cell? _ _ hc2)).trans hc2)
      clear hc2 hc3 BW e2 e3
      go_wp2_with fail
      refine wp_region_W (last := 18) (k := 18) hmx rfl (fun HC0 => ?_)
      refine wpAnyR_takeL (i := 0) (kw := 2) (v := .slice (some ⟨gz, 0, none⟩) b.pd.length b.pd.length) (fun _ => bl_refl _) (fun p q => bl_trans p q) rfl rfl (by kernel_rfl) (by kernel_rfl) (by kernel_rfl) (by kernel_rfl) (fun _ _ _ h => h) HC0 (Or.inl ⟨by kernel_rfl, fun W' hI => ?_⟩) (fun HC1 => ?_)
      · exact .inl (by go_simp)
      refine wpAnyR_takeL (i := 1) (kw := 2) (v := .int .i64 k) (fun _ => bl_refl _) (fun p q => bl_trans p q) rfl rfl (by kernel_rfl) (by kernel_rfl) (by kernel_rfl) (by kernel_rfl) (fun _ _ _ h => h) HC1 (Or.inl ⟨by kernel_rfl, fun W' hI => ?_⟩) (fun HC2 => ?_)
      · exact .inl (by go_simp)
      refine wpAnyR_takeL (i := 2) (kw := 7) (v := .pointer (some ⟨g, 0, none⟩)) (fun _ => bl_refl _) (fun p q => bl_trans p q) rfl rfl (by kernel_rfl) (by kernel_rfl) (by kernel_rfl) (by kernel_rfl) (fun _ _ _ h => h) HC2 (Or.inl ⟨by kernel_rfl, fun W' hI => ?_⟩) (fun HC3 => ?_)
      · exact .inl (by go_simp)
      refine wpAnyR_takeL (i := 3) (kw := 6) (v := .pointer (some ⟨g, 0, none⟩)) (fun _ => bl_refl _) (fun p q => bl_trans p q) rfl rfl (by kernel_rfl) (by kernel_rfl) (by kernel_rfl) (by kernel_rfl) (fun _ _ _ h => h) HC3 (Or.inl ⟨by kernel_rfl, fun W' hI => ?_⟩) (fun HC4 => ?_)
      · exact .inl (by go_simp)
      refine wpAnyR_takeL (i := 4) (kw := 5) (v := .pointer (some ⟨g, 2, none⟩)) (fun _ => bl_refl _) (fun p q => bl_trans p q) rfl rfl (by kernel_rfl) (by kernel_rfl) (by kernel_rfl) (by kernel_rfl) (fun _ _ _ h => h) HC4 (Or.inl ⟨by kernel_rfl, fun W' hI => ?_⟩) (fun HC5 => ?_)
      · exact .inl (by go_simp)
      refine wpAnyR_takeL (i := 5) (kw := 4) (v := .slice (some ⟨b3, o3, none⟩) b.pd.length L.c3) (fun _ => bl_refl _) (fun p q => bl_trans p q) rfl rfl (by kernel_rfl) (by kernel_rfl) (by kernel_rfl) (by kernel_rfl) (fun _ _ _ h => h) HC5 (Or.inl ⟨by kernel_rfl, fun W' hI => ?_⟩) (fun HC6 => ?_)
      · have hv := (HN.out).below hI
        obtain ⟨z2, _⟩ := hv.cell 2 _ rfl
        exact .inl (by go_simp)
      refine wpAnyR_takeL (i := 6) (kw := 4) (v := .int .i64 k) (fun _ => bl_refl _) (fun p q => bl_trans p q) rfl rfl (by kernel_rfl) (by kernel_rfl) (by kernel_rfl) (by kernel_rfl) (fun _ _ _ h => h) HC6 (Or.inl ⟨by kernel_rfl, fun W' hI => ?_⟩) (fun HC7 => ?_)
      · exact .inl (by go_simp)
      refine wpAnyR_takeL (i := 7) (kw := 3) (v := .pointer (some ⟨b3, o3 + k, none⟩)) (fun _ => bl_refl _) (fun p q => bl_trans p q) rfl rfl (by kernel_rfl) (by kernel_rfl) (by kernel_rfl) (by kernel_rfl) (fun _ _ _ h => h) HC7 (Or.inl ⟨by kernel_rfl, fun W' hI => ?_⟩) (fun HC8 => ?_)
      · exact .inl (by go_simp)
      refine wpAnyR_takeL (i := 8) (kw := 2) (v := .int .i64 x) (fun _ => bl_refl _) (fun p q => bl_trans p q) rfl rfl (by kernel_rfl) (by kernel_rfl) (by kernel_rfl) (by kernel_rfl) (fun _ _ _ h => h) HC8 (Or.inl ⟨by kernel_rfl, fun W' hI => ?_⟩) (fun HC9 => ?_)
      · have hx := H3.out W' hI
        exact .inl (by go_simp)
      refine wpAnyR_takeL (i := 9) (kw := 7) (v := .pointer (some ⟨g, 0, none⟩)) (fun _ => bl_refl _) (fun p q => bl_trans p q) rfl rfl (by kernel_rfl) (by kernel_rfl) (by kernel_rfl) (by kernel_rfl) (fun _ _ _ h => h) HC9 (Or.inl ⟨by kernel_rfl, fun W' hI => ?_⟩) (fun HC10 => ?_)
      · exact .inl (by go_simp)
      refine wpAnyR_takeL (i := 10) (kw := 6) (v := .pointer (some ⟨g, 0, none⟩)) (fun _ => bl_refl _) (fun p q => bl_trans p q) rfl rfl (by kernel_rfl) (by kernel_rfl) (by kernel_rfl) (by kernel_rfl) (fun _ _ _ h => h) HC10 (Or.inl ⟨by kernel_rfl, fun W' hI => ?_⟩) (fun HC11 => ?_)
      · exact .inl (by go_simp)
      refine wpAnyR_takeL (i := 11) (kw := 5) (v := .pointer (some ⟨g, 1, none⟩)) (fun _ => bl_refl _) (fun p q => bl_trans p q) rfl rfl (by kernel_rfl) (by kernel_rfl) (by kernel_rfl) (by kernel_rfl) (fun _ _ _ h => h) HC11 (Or.inl ⟨by kernel_rfl, fun W' hI => ?_⟩) (fun HC12 => ?_)
      · exact .inl (by go_simp)
      refine wpAnyR_takeL (i := 12) (kw := 4) (v := .slice (some ⟨b2, o2, none⟩) b.bt.length L.c2) (fun _ => bl_refl _) (fun p q => bl_trans p q) rfl rfl (by kernel_rfl) (by kernel_rfl) (by kernel_rfl) (by kernel_rfl) (fun _ _ _ h => h) HC12 (Or.inl ⟨by kernel_rfl, fun W' hI => ?_⟩) (fun HC13 => ?_)
      · have hv := (HN.out).below hI
        obtain ⟨z1, _⟩ := hv.cell 1 _ rfl
        exact .inl (by go_simp)
      refine wpAnyR_takeL (i := 13) (kw := 4) (v := .int .i64 k) (fun _ => bl_refl _) (fun p q => bl_trans p q) rfl rfl (by kernel_rfl) (by kernel_rfl) (by kernel_rfl) (by kernel_rfl) (fun _ _ _ h => h) HC13 (Or.inl ⟨by kernel_rfl, fun W' hI => ?_⟩) (fun HC14 => ?_)
      · exact .inl (by go_simp)
      refine wpAnyR_takeL (i := 14) (kw := 3) (v := .pointer (some ⟨b2, o2 + k, none⟩)) (fun _ => bl_refl _) (fun p q => bl_trans p q) rfl rfl (by kernel_rfl) (by kernel_rfl) (by kernel_rfl) (by kernel_rfl) (fun _ _ _ h => h) HC14 (Or.inl ⟨by kernel_rfl, fun W' hI => ?_⟩) (fun HC15 => ?_)
      · exact .inl (by go_simp)
      refine wpAnyR_takeL (i := 15) (kw := 2) (v := .int .i64 y) (fun _ => bl_refl _) (fun p q => bl_trans p q) rfl rfl (by kernel_rfl) (by kernel_rfl) (by kernel_rfl) (by kernel_rfl) (fun _ _ _ h => h) HC15 (Or.inl ⟨by kernel_rfl, fun W' hI => ?_⟩) (fun HC16 => ?_)
      · have hx := H2.out W' hI
        exact .inl (by go_simp)
      refine wpAnyR_takeL (i := 16) (kw := 1) (v := .int .i64 (x + y)) (fun _ => bl_refl _) (fun p q => bl_trans p q) rfl rfl (by kernel_rfl) (by kernel_rfl) (by kernel_rfl) (by kernel_rfl) (fun _ _ _ h => h) HC16 (Or.inl ⟨by kernel_rfl, fun W' hI => ?_⟩) (fun HC17 => ?_)
      · exact .inl (by go_simp; first | done | exact IntWalk.i64_in _ (by omega))
      refine wpAnyR_takeL (i := 17) (kw := 1) (v := .pointer (some ⟨gz, k, none⟩)) (fun _ => bl_refl _) (fun p q => bl_trans p q) rfl rfl (by kernel_rfl) (by kernel_rfl) (by kernel_rfl) (by kernel_rfl) (fun _ _ _ h => h) HC17 (Or.inl ⟨by kernel_rfl, fun W' hI => ?_⟩) (fun HC18 => ?_)
      · exact .inl (by go_simp)
      refine wpAnyR_lastL (by kernel_rfl) (by kernel_rfl) rfl (by kernel_rfl) (fun wR hrR => ⟨bl_drewT hrR, ?_⟩)
      intro K hK
      have BR := Lib.hid (bl_drewT hrR)
      clear hrR
      have HO := HS.out.1.below BR.out
      have HBB := Lib.hid (bl_trans HS.out.2.1 BR.out)
      have c4 := (own_atP HO k (by rw [HLK.out]; exact hlt)).1
      have f4 := (own_atP HO k (by rw [HLK.out]; exact hlt)).2
      go_simp
      refine hK _ _ ?_
      clear hK K
      have ss := own_setP HO k (x + y)
      rw [HT.out] at ss
      have HN2 : Hid (FS w0 gz b (k + 1) (wR.setCell ⟨gz, k, none⟩ (.int .i64 (x + y)))) := Lib.hid ⟨ss.1, below_grown1 HBB.out ss.2 HS.out.2.2, HS.out.2.2⟩
      clear ss HO c4 f4 HT
      generalize wR.setCell ⟨gz, k, none⟩ (.int .i64 (x + y)) = w5 at *
      go_wp2_with fail
      go_roundw
      case rel => exact ⟨k + 1, by omega, by go_num, HN2⟩
      case measure => simp [intOf]; omega
    · obtain rfl : k = b.pd.length := by omega
      have HO := HS.out
      unfold FS at HO
      rw [HFA.out] at HO
      have HOX := Lib.hid HO
      have hpl := payL_len b
      have HPL := Lib.hid hpl
      clear HO hpl
      go_wp2_with fail
      go_ret
      exact ⟨some ⟨gz, 0, none⟩, b.pd.length, by rw [HPL.out]; rfl, HOX.out.1, HOX.out.2.1⟩
set_option maxRecDepth 100000 in
set_option maxHeartbeats 2000000 in
theorem implContributions_any (L : At5) (b : Bt) (w : World) (h : Rd5 w L b) :
    Calls Try.prog 43 #[bV L b] w (NewRC (conR b) (okC b) w) := by
  have BT := btAt_new h
  have B := Lib.hid (bl_box (w := w) (L := L) (b := b))
  have KV := Lib.hid (fun (W : World) (hb : Below w.heap.size w W) => implIsBetting_any L b W (h.below hb))
  have KH := Lib.hid (fun (k : Ok b) (W : World) (hb : Below (w.alloc (.cells (btL L b).toArray 27)).heap.size (w.alloc (.cells (btL L b).toArray 27)) W) => contributions_any w.heap.size L b W (BT.below hb) k.sd k.s3)
  obtain ⟨q0, _⟩ := BT.blk.cell 0 _ rfl
  obtain ⟨q1, _⟩ := BT.blk.cell 1 _ rfl
  obtain ⟨q2, _⟩ := BT.blk.cell 2 _ rfl
  obtain ⟨q3, _⟩ := BT.blk.cell 3 _ rfl
  obtain ⟨q4, _⟩ := BT.blk.cell 4 _ rfl
  obtain ⟨q5, _⟩ := BT.blk.cell 5 _ rfl
  obtain ⟨q6, _⟩ := BT.blk.cell 6 _ rfl
  obtain ⟨q7, _⟩ := BT.blk.cell 7 _ rfl
  obtain ⟨q8, _⟩ := BT.blk.cell 8 _ rfl
  clear h BT
  rcases hv : okB b with _ | _
  · have e1 : conR b = [] := by unfold conR; rw [hv]; rfl
    have e2 : okC b = 1 := by unfold okC; rw [hv]; rfl
    rw [hv] at KV
    rw [e1, e2]
    clear KH hv e1 e2
    unfold bV at *
    go_enter Try.func43, Try.ntmps43
    go_wp2_with (first
        | (go_at_call 22; refine (KV.out _ B.out).mono ?_; rintro e wn ⟨rfl, hb⟩; have Ba := Lib.hid (bl_trans B.out hb)))
    go_ret2
    exact ⟨none, 0, rfl, Row.nil _ _, Ba.out⟩
  · have e1 : conR b = payL b := by unfold conR; rw [hv]; rfl
    have e2 : okC b = 0 := by unfold okC; rw [hv]; rfl
    have KK := Lib.hid (KH.out (ok_of hv))
    rw [hv] at KV
    rw [e1, e2]
    clear KH hv e1 e2
    unfold bV at *
    generalize payL b = r at *
    go_enter Try.func43, Try.ntmps43
    go_wp2_with (first
        | (go_at_call 22; refine (KV.out _ B.out).mono ?_; rintro e wn ⟨rfl, hb⟩; have HB := Lib.hid hb; have Ba := Lib.hid (bl_trans B.out hb))
        | (go_at_call 113; refine (KK.out _ HB.out).mono ?_; rintro e wm ⟨A, c, rfl, ho, hb2⟩; have HO := Lib.hid (Row.of_own (ho.less Ba.out.size)); have Bb := Lib.hid (bl_trans Ba.out hb2)))
    go_ret2
    exact ⟨A, c, rfl, HO.out, Bb.out⟩
set_option maxRecDepth 100000 in
set_option maxHeartbeats 2000000 in
theorem l11Paid_any (L : At5) (b : Bt) (w : World) (h : Rd5 w L b) (k : Sd b) (s3 : inC b.pd) :
    Calls Try.prog 119 #[bV L b] w (NewL (payL b) w) := by
  have hmx : Try.prog.follows .mixedOrders = true := by kernel_rfl
  obtain ⟨i0, hi, hz0, hz1, hz2⟩ := info_parts infoInt
  have n6 := k.n6
  have l2 := k.l2
  have l3 := k.l3
  rw [← l3] at n6
  have HL2 := Lib.hid (show b.bt.length = b.pd.length by omega)
  have HS2 := Lib.hid k.s2
  have HS3 := Lib.hid s3
  have HF := Lib.hid (fun (k : Nat) (hk : k < b.pd.length) => payL_take b k hk)
  have HFL := Lib.hid (payL_len b)
  have BT := btAt_new h
  have BH := Lib.hid BT
  obtain ⟨w0, rfl⟩ : ∃ w0 : World, w0 = w := ⟨w, rfl⟩
  have B := Lib.hid (bl_box (w := w0) (L := L) (b := b))
  obtain ⟨q0, _⟩ := BT.blk.cell 0 _ rfl
  obtain ⟨q1, _⟩ := BT.blk.cell 1 _ rfl
  obtain ⟨q2, _⟩ := BT.blk.cell 2 _ rfl
  obtain ⟨q3, _⟩ := BT.blk.cell 3 _ rfl
  obtain ⟨q4, _⟩ := BT.blk.cell 4 _ rfl
  obtain ⟨q5, _⟩ := BT.blk.cell 5 _ rfl
  obtain ⟨q6, _⟩ := BT.blk.cell 6 _ rfl
  obtain ⟨q7, _⟩ := BT.blk.cell 7 _ rfl
  obtain ⟨q8, _⟩ := BT.blk.cell 8 _ rfl
  have G0 : Hid (Grow (w0.alloc (.cells (btL L b).toArray 27)) ((payL b).take 0) (.slice (some ⟨(w0.alloc (.cells (btL L b).toArray 27)).heap.size, 0, none⟩) 0 0) ((w0.alloc (.cells (btL L b).toArray 27)).alloc (.cells #[] 2))) := Lib.hid ⟨own_new _, bl_alloc (bl_refl _) _⟩
  rw [World.size_alloc] at G0
  clear h k s3 l2 l3 BT
  unfold bV at *
  go_enter Try.func119, Try.ntmps119
  go_wp2_with fail
  go_loopw [3, 4] (fun v i wr => ∃ k : Nat, k ≤ b.pd.length ∧ i = .int .i64 k ∧ Hid (Grow (w0.alloc (.cells (btL L b).toArray 27)) ((payL b).take k) v wr)) (fun _ i _ => b.pd.length - (intOf i).toNat)
  case atStart => exact ⟨0, Nat.zero_le _, rfl, G0⟩
  case round =>
    obtain ⟨k, hk, rfl, HS⟩ := hrel
    obtain ⟨W1, e1⟩ : ∃ W1, W1 = (w0.alloc (.cells (btL L b).toArray 27)) := ⟨_, rfl⟩
    have z1 : W1.heap.size = w0.heap.size + 1 := by rw [e1]; exact World.size_alloc _ _
    rw [← e1] at HS BH B
    have E1 := Lib.hid e1
    clear e1 G0
    have BW := BH.out.below HS.out.2
    obtain ⟨q2, _⟩ := BW.blk.cell 2 _ rfl
    by_cases hlt : k < b.pd.length
    · have hlt' : (k : Int) < b.pd.length := by omega
      have hlt2 : (k : Int) < b.bt.length := by rw [HL2.out]; omega
      have hl : ((payL b).take k).length ≤ 6 := by rw [List.length_take, HFL.out]; omega
      have HO := Lib.hid (HF.out k hlt)
      obtain ⟨b2, o2, e2, hc2⟩ := BH.out.rd.r2.at_0 k (by rw [HL2.out]; exact hlt)
      obtain ⟨b3, o3, e3, hc3⟩ := BH.out.rd.r3.at_0 k hlt
      have HN : Hid (Blk W1 w0.heap.size 27 [.slice L.a1 b.st.length L.c1, .slice (some ⟨b2, o2, none⟩) b.bt.length L.c2, .slice (some ⟨b3, o3, none⟩) b.pd.length L.c3, .slice L.a4 b.fo.length L.c4, .slice L.a5 b.ac.length L.c5, .int .i64 b.tu, .int .i64 b.un, .int .i64 b.ra, .int .i64 b.li]) := Lib.hid (by have q := BH.out.blk; unfold btL at q; rw [e2, e3] at q; exact q)
      have bx := HS3.out k hlt
      have bt_ := HS2.out k (by rw [HL2.out]; exact hlt)
      generalize nth b.pd k = x at *
      generalize nth b.bt k = y at *
      generalize (payL b).take k = ys at *
      have H3 : Hid (∀ W', Below W1.heap.size W1 W' → W'.cell? ⟨b3, o3 + k, none⟩ = some (.int .i64 x)) := Lib.hid (fun W' hI => (hI.cell (p := ⟨b3, o3 + k, none⟩) (World.block_lt_of_cell? _ _ hc3)).trans hc3)
      have H2 : Hid (∀ W', Below W1.heap.size W1 W' → W'.cell? ⟨b2, o2 + k, none⟩ = some (.int .i64 y)) := Lib.hid (fun W' hI => (hI.cell (p := ⟨b2, o2 + k, none⟩) (World.block_lt_of_cell? _ _ hc2)).trans hc2)
      clear hc2 hc3 BW e2 e3
      go_wp2_with fail
      clear q2
      refine wp_region_R (R := fun a b => Below a.heap.size a b) (I := fun W' => Below W1.heap.size W1 W') (last := 14) (k := 14) (fun _ => bl_refl _) hmx rfl (fun HC0 => ?_)
      refine wpAnyR_takeL (i := 0) (kw := 2) (v := u3) (fun _ => bl_refl _) (fun p q => bl_trans p q) rfl rfl (by kernel_rfl) (by kernel_rfl) (by kernel_rfl) (by kernel_rfl) (fun _ _ _ h => h) HC0 (Or.inl ⟨by kernel_rfl, fun W' hI => ?_⟩) (fun HC1 => ?_)
      · exact .inl (by go_simp)
      refine wpAnyR_takeL (i := 1) (kw := 7) (v := .pointer (some ⟨w0.heap.size, 2, none⟩)) (fun _ => bl_refl _) (fun p q => bl_trans p q) rfl rfl (by kernel_rfl) (by kernel_rfl) (by kernel_rfl) (by kernel_rfl) (fun _ _ _ h => h) HC1 (Or.inl ⟨by kernel_rfl, fun W' hI => ?_⟩) (fun HC2 => ?_)
      · exact .inl (by go_simp)
      refine wpAnyR_takeL (i := 2) (kw := 6) (v := .slice (some ⟨b3, o3, none⟩) b.pd.length L.c3) (fun _ => bl_refl _) (fun p q => bl_trans p q) rfl rfl (by kernel_rfl) (by kernel_rfl) (by kernel_rfl) (by kernel_rfl) (fun _ _ _ h => h) HC2 (Or.inl ⟨by kernel_rfl, fun W' hI => ?_⟩) (fun HC3 => ?_)
      · have hv := (HN.out).below hI
        obtain ⟨z2, _⟩ := hv.cell 2 _ rfl
        exact .inl (by go_simp)
      refine wpAnyR_takeL (i := 3) (kw := 6) (v := .int .i64 k) (fun _ => bl_refl _) (fun p q => bl_trans p q) rfl rfl (by kernel_rfl) (by kernel_rfl) (by kernel_rfl) (by kernel_rfl) (fun _ _ _ h => h) HC3 (Or.inl ⟨by kernel_rfl, fun W' hI => ?_⟩) (fun HC4 => ?_)
      · exact .inl (by go_simp)
      refine wpAnyR_takeL (i := 4) (kw := 5) (v := .pointer (some ⟨b3, o3 + k, none⟩)) (fun _ => bl_refl _) (fun p q => bl_trans p q) rfl rfl (by kernel_rfl) (by kernel_rfl) (by kernel_rfl) (by kernel_rfl) (fun _ _ _ h => h) HC4 (Or.inl ⟨by kernel_rfl, fun W' hI => ?_⟩) (fun HC5 => ?_)
      · exact .inl (by go_simp)
      refine wpAnyR_takeL (i := 5) (kw := 4) (v := .int .i64 x) (fun _ => bl_refl _) (fun p q => bl_trans p q) rfl rfl (by kernel_rfl) (by kernel_rfl) (by kernel_rfl) (by kernel_rfl) (fun _ _ _ h => h) HC5 (Or.inl ⟨by kernel_rfl, fun W' hI => ?_⟩) (fun HC6 => ?_)
      · have hx := H3.out W' hI
        exact .inl (by go_simp)
      refine wpAnyR_takeL (i := 6) (kw := 7) (v := .pointer (some ⟨w0.heap.size, 1, none⟩)) (fun _ => bl_refl _) (fun p q => bl_trans p q) rfl rfl (by kernel_rfl) (by kernel_rfl) (by kernel_rfl) (by kernel_rfl) (fun _ _ _ h => h) HC6 (Or.inl ⟨by kernel_rfl, fun W' hI => ?_⟩) (fun HC7 => ?_)
      · exact .inl (by go_simp)
      refine wpAnyR_takeL (i := 7) (kw := 6) (v := .slice (some ⟨b2, o2, none⟩) b.bt.length L.c2) (fun _ => bl_refl _) (fun p q => bl_trans p q) rfl rfl (by kernel_rfl) (by kernel_rfl) (by kernel_rfl) (by kernel_rfl) (fun _ _ _ h => h) HC7 (Or.inl ⟨by kernel_rfl, fun W' hI => ?_⟩) (fun HC8 => ?_)
      · have hv := (HN.out).below hI
        obtain ⟨z1, _⟩ := hv.cell 1 _ rfl
        exact .inl (by go_simp)
      refine wpAnyR_takeL (i := 8) (kw := 6) (v := .int .i64 k) (fun _ => bl_refl _) (fun p q => bl_trans p q) rfl rfl (by kernel_rfl) (by kernel_rfl) (by kernel_rfl) (by kernel_rfl) (fun _ _ _ h => h) HC8 (Or.inl ⟨by kernel_rfl, fun W' hI => ?_⟩) (fun HC9 => ?_)
      · exact .inl (by go_simp)
      refine wpAnyR_takeL (i := 9) (kw := 5) (v := .pointer (some ⟨b2, o2 + k, none⟩)) (fun _ => bl_refl _) (fun p q => bl_trans p q) rfl rfl (by kernel_rfl) (by kernel_rfl) (by kernel_rfl) (by kernel_rfl) (fun _ _ _ h => h) HC9 (Or.inl ⟨by kernel_rfl, fun W' hI => ?_⟩) (fun HC10 => ?_)
      · exact .inl (by go_simp)
      refine wpAnyR_takeL (i := 10) (kw := 4) (v := .int .i64 y) (fun _ => bl_refl _) (fun p q => bl_trans p q) rfl rfl (by kernel_rfl) (by kernel_rfl) (by kernel_rfl) (by kernel_rfl) (fun _ _ _ h => h) HC10 (Or.inl ⟨by kernel_rfl, fun W' hI => ?_⟩) (fun HC11 => ?_)
      · have hx := H2.out W' hI
        exact .inl (by go_simp)
      refine wpAnyR_takeL (i := 11) (kw := 3) (v := .int .i64 (x + y)) (fun _ => bl_refl _) (fun p q => bl_trans p q) rfl rfl (by kernel_rfl) (by kernel_rfl) (by kernel_rfl) (by kernel_rfl) (fun _ _ _ h => h) HC11 (Or.inl ⟨by kernel_rfl, fun W' hI => ?_⟩) (fun HC12 => ?_)
      · exact .inl (by go_simp; first | done | exact IntWalk.i64_in _ (by omega))
      refine wpAnyR_oneL HC12 (i := 12) (by kernel_rfl) rfl (by kernel_rfl) (fun w5 hr5 => ⟨bl_trans HS.out.2 (bl_drewT hr5), ?_⟩)
      intro K hK
      have hb4 := bl_drewT hr5
      go_simp
      refine hK _ _ ?_
      clear hK K
      intro HC13
      have hb5 : Below wr.heap.size wr (w5.alloc (.cells #[.int .i64 (x + y)] 2)) := bl_trans hb4 (bl_alloc (bl_refl _) _)
      have nb := blk_new w5 2 [.int .i64 (x + y)]
      refine wpAnyR_oneL HC13 (i := 13) (by kernel_rfl) rfl (by kernel_rfl) (fun w7 hr7 => ⟨bl_trans HS.out.2 (bl_trans hb5 hr7), ?_⟩)
      intro K hK
      have hb7 : Below wr.heap.size wr w7 := bl_trans hb5 hr7
      have HW := Lib.hid (nb.below hr7)
      refine wp_app_own (.tmp 13) (.tmp 25) rfl (w0.heap.size + 1) u3 ys (by simp [Act.eval]) ?o1 ⟨w5.heap.size, 0, none⟩ 1 (x + y) (by simp [Act.eval]) (HW.out.cell 0 _ rfl).1 rfl (by omega) ?o2 ?_
      case o1 => have h := HS.out.1; rw [z1] at h; exact h.below hb7
      case o2 => have h1 := HS.out.2.size; have h2 := hb7.size; omega
      intro v' w8 ho8 hg8
      have HG := Lib.hid (grow_appR (v' := v') (w9 := w8) (x := x + y) HS.out hb7 (by rw [z1]; exact ho8) hg8)
      refine hK _ _ ?_
      clear hK K ho8 hg8
      intro HC14
      refine wpAnyR_lastL (by kernel_rfl) (by kernel_rfl) rfl (by kernel_rfl) (fun w9 hr9 => ⟨bl_trans HG.out.2 hr9, ?_⟩)
      intro K hK
      go_simp
      refine hK _ _ ?_
      clear hK K
      have HG9 := Lib.hid (grow_next HG.out hr9)
      clear hr9 HG hb7 hb5 nb HW hb4
      go_wp2_with fail
      go_roundw
      case rel => exact ⟨k + 1, by omega, by go_num, by rw [HO.out, ← E1.out]; exact HG9⟩
      case measure => simp [intOf]; omega
    · obtain rfl : k = b.pd.length := by omega
      have ha : (payL b).take b.pd.length = payL b := List.take_of_length_le (by rw [HFL.out]; exact Nat.le_refl _)
      rw [ha] at HS
      obtain ⟨A', c', rfl, hO⟩ := own_form HS.out.1
      have HO := Lib.hid hO
      clear hO ha BW
      go_wp2_with fail
      go_ret
      exact ⟨_, _, rfl, HO.out.less (by omega), bl_trans B.out HS.out.2⟩
set_option maxRecDepth 100000 in
set_option maxHeartbeats 400000 in
theorem specContributions_any (L : At5) (b : Bt) (w : World) (h : Rd5 w L b) (z : Sz b) :
    Calls Try.prog 44 #[bV L b] w (NewRC (conR b) (okC b) w) := by
  have KV := Lib.hid (fun (W : World) (hb : Below w.heap.size w W) => specIsBetting_any L b W (h.below hb) z)
  have KL := Lib.hid (fun (k : Ok b) (W : World) (hW : Rd5 W L b) => l11Paid_any L b W hW k.sd k.s3)
  have KP := Lib.hid (fun (k : Ok b) (W : World) (hW : Rd5 W L b) => l10Pot_any L b W hW (by have := k.n6; have := k.l2; omega) (by have := k.n6; have := k.l3; omega) k.s2 k.s3)
  have KS := Lib.hid (fun (k : Ok b) (W : World) (hW : Rd5 W L b) => l01SumC_any L.a1 L.c1 b.st W hW.r1 (by have := k.n6; omega) k.s1)
  have BT := btAt_new h
  have B := Lib.hid (bl_box (w := w) (L := L) (b := b))
  have BN := Lib.hid BT
  have hmx : Try.prog.follows .mixedOrders = true := by kernel_rfl
  obtain ⟨q0, _⟩ := BT.blk.cell 0 _ rfl
  obtain ⟨q1, _⟩ := BT.blk.cell 1 _ rfl
  obtain ⟨q2, _⟩ := BT.blk.cell 2 _ rfl
  obtain ⟨q3, _⟩ := BT.blk.cell 3 _ rfl
  obtain ⟨q4, _⟩ := BT.blk.cell 4 _ rfl
  obtain ⟨q5, _⟩ := BT.blk.cell 5 _ rfl
  obtain ⟨q6, _⟩ := BT.blk.cell 6 _ rfl
  obtain ⟨q7, _⟩ := BT.blk.cell 7 _ rfl
  obtain ⟨q8, _⟩ := BT.blk.cell 8 _ rfl
  clear h BT z KP KS
  rcases hv : okB b with _ | _
  · have e1 : conR b = [] := by unfold conR; rw [hv]; rfl
    have e2 : okC b = 1 := by unfold okC; rw [hv]; rfl
    rw [hv] at KV
    rw [e1, e2]
    clear KL hv e1 e2
    unfold bV at *
    go_enter Try.func44, Try.ntmps44
    go_wp2_with (first
        | (go_at_call 23; refine (KV.out _ B.out).mono ?_; rintro e w2 ⟨rfl, hb⟩; have BNa := Lib.hid (BN.out.below hb); have Ba := Lib.hid (bl_trans B.out hb); obtain ⟨u0, -⟩ := BNa.out.blk.cell 0 _ rfl; obtain ⟨u1, -⟩ := BNa.out.blk.cell 1 _ rfl; obtain ⟨u2, -⟩ := BNa.out.blk.cell 2 _ rfl; obtain ⟨u3, -⟩ := BNa.out.blk.cell 3 _ rfl; obtain ⟨u4, -⟩ := BNa.out.blk.cell 4 _ rfl; obtain ⟨u5, -⟩ := BNa.out.blk.cell 5 _ rfl; obtain ⟨u6, -⟩ := BNa.out.blk.cell 6 _ rfl; obtain ⟨u7, -⟩ := BNa.out.blk.cell 7 _ rfl; obtain ⟨u8, -⟩ := BNa.out.blk.cell 8 _ rfl))
    go_ret2
    exact ⟨none, 0, rfl, Row.nil _ _, Ba.out⟩
  · have e1 : conR b = payL b := by unfold conR; rw [hv]; rfl
    have e2 : okC b = 0 := by unfold okC; rw [hv]; rfl
    have KK := Lib.hid (KL.out (ok_of hv))
    rw [hv] at KV
    rw [e1, e2]
    clear KL hv e1 e2
    unfold bV at *
    generalize payL b = r at *
    go_enter Try.func44, Try.ntmps44
    go_wp2_with (first
        | (go_at_call 23; refine (KV.out _ B.out).mono ?_; rintro e w2 ⟨rfl, hb⟩; have BNa := Lib.hid (BN.out.below hb); have Ba := Lib.hid (bl_trans B.out hb); obtain ⟨u0, -⟩ := BNa.out.blk.cell 0 _ rfl; obtain ⟨u1, -⟩ := BNa.out.blk.cell 1 _ rfl; obtain ⟨u2, -⟩ := BNa.out.blk.cell 2 _ rfl; obtain ⟨u3, -⟩ := BNa.out.blk.cell 3 _ rfl; obtain ⟨u4, -⟩ := BNa.out.blk.cell 4 _ rfl; obtain ⟨u5, -⟩ := BNa.out.blk.cell 5 _ rfl; obtain ⟨u6, -⟩ := BNa.out.blk.cell 6 _ rfl; obtain ⟨u7, -⟩ := BNa.out.blk.cell 7 _ rfl; obtain ⟨u8, -⟩ := BNa.out.blk.cell 8 _ rfl)
        | (go_at_call 119; refine (KK.out _ BNa.out.rd).mono ?_; rintro e wm ⟨A, c, rfl, ho, hb2⟩; have HO := Lib.hid (Row.of_own (ho.less Ba.out.size)); have Bb := Lib.hid (bl_trans Ba.out hb2)))
    go_ret2
    exact ⟨A, c, rfl, HO.out, Bb.out⟩
end Go.Proofs.Ythgfohdjpfhebaa
