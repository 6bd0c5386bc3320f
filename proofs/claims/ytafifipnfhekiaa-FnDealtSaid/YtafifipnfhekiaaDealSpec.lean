/-
  DealHands: the model's walk.
-/
import Derived.Test.YtafifipnfhekiaaDealImpl
import Derived.Test.YtafifipnfhekiaaNewRows
namespace Go.Proofs.Ytafifipnfhekiaa
open Go.RowKit
set_option linter.unusedVariables false

/-- A slice is hung to a row of slices. -/
theorem wpList_hang {ops : Array Oper} {rest : List Oper} {o : Oper} {a : Act} {w : World} {Q : Exit → Act → World → Prop} (s x : Operand) (hgd : o.guard = none)
    (ho : o.op = .call { callee := .builtin .append, args := #[s, x], argTypes := #[32, 32] })
    (lo : Nat) (v : Value) (K : Nat) (cells : List Value) (hs : a.eval s = v) (hown : w.ownsRow lo 24 1 v K cells) (ad : Addr) (c : Nat) (u : Value) (hx : a.eval x = .slice (some ad) 1 c) (hu : w.cell? ad = some u) (h1 : u.oneCell' = true) (hb : K ≤ 4000000) (hlo : lo ≤ w.heap.size)
    (h : ∀ v' w', w'.ownsRow lo 24 1 v' (K + 1) (cells ++ [u]) → w.grownBy w' v.ownBlock → (v'.ownBlock = v.ownBlock ∨ v'.ownBlock = some w.heap.size) → wpList Try.prog ops Q rest (a.put o.dst v') w') : wpList Try.prog ops Q (o :: rest) a w :=
  wpList_plain hgd fun K' hK => by
    obtain ⟨iS, hiS, hzS0, hzS1, hzS2⟩ := info_parts infoSlice
    obtain ⟨v', w', hr, h2, h3, _, h5⟩ := run_append_own_at (P := Try.prog) w lo 32 o.type 24 iS (.slice none 0 0) 1 24 Try.underlying32 hiS hzS0 hzS1 hzS2 rfl (by decide) v K cells hown ad 1 c [u] rfl
      (fun j q hj => by
        match j, hj with
        | 0, hj => simp at hj; subst hj; simpa [Addr.add] using hu)
      (fun q hq => by simp at hq; subst hq; exact h1) (by unfold maxLen; omega) (by omega) hlo
    unfold Oper.wp execOp
    simp only [ho, resolve, invoke, builtin, Sem.run_bind, Sem.run_pure, Result.andThen_ok, List.map_toArray, List.map_cons, List.map_nil, hs, hx, hr]
    exact hK _ _ (h v' w' h2 h3 h5)
/-- The slices of the first K rows. -/
def cellsS (K : Nat) (AA : Nat → Option Addr) (CC : Nat → Nat) (n : Nat) : List Value := (List.range K).map (fun h => .slice (AA h) n (CC h))
def updC (CC : Nat → Nat) (k c : Nat) : Nat → Nat := fun h => if h = k then c else CC h
theorem cellsS_snoc (K : Nat) (AA : Nat → Option Addr) (CC : Nat → Nat) (n : Nat) (a : Option Addr) (c : Nat) : cellsS K AA CC n ++ [.slice a n c] = cellsS (K + 1) (updA AA K a) (updC CC K c) n := by
  unfold cellsS
  rw [List.range_succ, List.map_append]
  congr 1
  · apply List.map_congr_left
    intro h hh
    have : ¬ h = K := by have := List.mem_range.1 hh; omega
    simp [updA, updC, this]
  · simp [updA, updC]
theorem cellsS_get (K : Nat) (AA : Nat → Option Addr) (CC : Nat → Nat) (n h : Nat) (hh : h < K) : (cellsS K AA CC n)[h]? = some (.slice (AA h) n (CC h)) := by simp [cellsS, hh]
/-- What the model's dealing loop keeps. -/
structure Hang (w : World) (K n : Nat) (R : Nat → List Int) (AA : Nat → Option Addr) (CC : Nat → Nat) (v : Value) (wr : World) : Prop where
  out : wr.ownsRow w.heap.size 24 1 v K (cellsS K AA CC n)
  row : ∀ h, h < K → Row wr w.heap.size (AA h) (R h)
  len : ∀ h, h < K → (R h).length = n
  off : ∀ h, h < K → ∀ a, AA h = some a → some a.block ≠ v.ownBlock
  apart : ∀ h, h < K → ∀ k, k < K → h ≠ k → ∀ a, AA h = some a → ∀ b, AA k = some b → a.block ≠ b.block
  below : Below w.heap.size w wr
theorem Hang.next {w wr w' : World} {K n : Nat} {R : Nat → List Int} {AA : Nat → Option Addr} {CC : Nat → Nat} {v : Value} (h : Hang w K n R AA CC v wr) (hb : Below wr.heap.size wr w') : Hang w K n R AA CC v w' :=
  ⟨World.ownsRow.kept h.out ⟨hb.os, hb.tape, hb.output, hb.size, fun k hk _ => hb.block k hk⟩ (row := none) (by
    rcases hv : v.ownBlock with _ | k
    · exact .inl rfl
    · exact .inr (by simp)), fun j hj => (h.row j hj).below hb, h.len, h.off, h.apart, bl_trans h.below hb⟩
theorem hang_start (w : World) (n : Nat) (R : Nat → List Int) (AA : Nat → Option Addr) (CC : Nat → Nat) : Hang w 0 n R AA CC (.slice (some ⟨w.heap.size, 0, none⟩) 0 0) (w.alloc (.cells #[] 24)) :=
  ⟨World.ownsRow_made w #[] 0 (Nat.le_refl _) (by unfold maxLen; omega) rfl, (fun _ h => by omega), (fun _ h => by omega), (fun _ h => by omega), (fun _ h => by omega), bl_alloc (bl_refl _) _⟩
/-- A finished hand is hung to the others: wr: the world as the hand was begun; w3: as it was finished. -/
theorem hang_add {w wr w3 w4 : World} {K n c : Nat} {R : Nat → List Int} {AA : Nat → Option Addr} {CC : Nat → Nat} {v v' : Value} {A : Option Addr} {o : Obj} (h : Hang w K n R AA CC v wr) (hb : Below wr.heap.size wr w3) (ho : Own w3 wr.heap.size (.slice A (R K).length c) (R K)) (hl : (R K).length = n)
    (hown : w4.ownsRow w.heap.size 24 1 v' (K + 1) (cellsS K AA CC n ++ [.slice A n c])) (hg : (w3.alloc o).grownBy w4 v.ownBlock) (hv : v'.ownBlock = v.ownBlock ∨ v'.ownBlock = some (w3.heap.size + 1)) :
    Hang w (K + 1) n R (updA AA K A) (updC CC K c) v' w4 := by
  have h3 := (h.next hb).next (bl_alloc (bl_refl w3) o)
  have hlo : ∀ j, v.ownBlock = some j → w.heap.size ≤ j ∧ j < wr.heap.size := fun j hj => World.ownsRow.lt h.out j hj
  have hold : ∀ j, j < K → ∀ a, AA j = some a → a.block < wr.heap.size := fun j hj a e => ((h.row j hj).1 a e).2
  have hnew : ∀ a, A = some a → wr.heap.size ≤ a.block ∧ a.block < w3.heap.size := fun a e => ho.lo_le a e
  have hrow := ((Row.of_own ho).less (lo' := w.heap.size) h.below.size).below (bl_alloc (bl_refl w3) o)
  refine ⟨by rw [← cellsS_snoc]; exact hown, fun j hj => ?_, fun j hj => ?_, fun j hj a e => ?_, fun i hi j hj hne a e b e' => ?_, ?_⟩
  · by_cases q : j = K
    · subst q
      have := hrow.grown hg (fun a ha q => by
        have := hnew a ha
        have := hlo _ q.symm
        omega)
      simpa [updA] using this
    · have := (h3.row j (by omega)).grown hg (fun a ha => h.off j (by omega) a ha)
      simpa [updA, q] using this
  · by_cases q : j = K
    · subst q; exact hl
    · exact h.len j (by omega)
  · intro q
    by_cases p : j = K
    · subst p
      simp [updA] at e
      have := hnew a e
      rcases hv with hv | hv
      · rw [hv] at q
        have := hlo _ q.symm
        omega
      · rw [hv] at q; injection q with q; omega
    · simp [updA, p] at e
      have := hold j (by omega) a e
      rcases hv with hv | hv
      · rw [hv] at q; exact h.off j (by omega) a e q
      · rw [hv] at q; injection q with q
        have := hb.size
        omega
  · by_cases p : i = K
    · subst p
      simp [updA] at e
      have p2 : ¬ j = i := fun q => hne q.symm
      simp [updA, p2] at e'
      have := hnew a e
      have := hold j (by omega) b e'
      omega
    · simp [updA, p] at e
      by_cases p2 : j = K
      · subst p2
        simp [updA] at e'
        have := hnew b e'
        have := hold i (by omega) a e
        omega
      · simp [updA, p2] at e'
        exact h.apart i (by omega) j (by omega) hne a e b e'
  · exact (bl_alloc (bl_trans h.below hb) o).grown hg (by have := h.below.size; have := hb.size; simp; omega) (fun j hj => (hlo j hj).1)
theorem Hang.fam {w wr : World} {H n c : Nat} {R : Nat → List Int} {AA : Nat → Option Addr} {CC : Nat → Nat} {A : Option Addr} (h : Hang w H n R AA CC (.slice A H c) wr) (h0 : 0 < H) : Fam wr w.heap.size A H R AA CC := by
  rcases h.out.2 with ⟨_, hn⟩ | ⟨g, cap, cur, hv, _⟩
  · omega
  · injection hv with hA _ hc
    subst hA hc
    have hlt := World.ownsRow.lt h.out g rfl
    refine ⟨fun _ => ⟨g, 0, rfl, hlt.2, fun k hk => ?_⟩, h.row, fun a e => ?_, fun k hk a e b e' => ?_, h.apart⟩
    · rw [Nat.zero_add, World.ownsRow.cellAt h.out k (by omega), cellsS_get _ _ _ _ _ hk, h.len k hk]
    · obtain rfl := Option.some.inj e; exact hlt
    · obtain rfl := Option.some.inj e'
      intro q
      exact h.off k hk a e (by simp [Value.ownBlock, q])

set_option maxRecDepth 100000 in
set_option maxHeartbeats 2000000 in
theorem specDeal_yes (A : Option Addr) (c : Nat) (xs : List Int) (H n : Nat) (w : World) (hr : Rd w A xs) (hn : xs.length ≤ 4000000) (hd : deckB xs = true) (h1 : 1 ≤ H) (h2 : H ≤ 10) (h3 : H * n ≤ 52) :
    Calls Try.prog 24 #[.slice A xs.length c, .int .i64 H, .int .i64 n] w (NewFam H (fun j => dealt H n j xs) 0 w) := by
  have K := Lib.hid (fun (c : Nat) => specIsDeck_any A c xs w hr hn)
  rw [hd] at K
  have hl := ((deck_iff xs).1 hd).1
  obtain ⟨b, off, rfl, hc⟩ := hr (by omega)
  have HC : Hid (∀ (i : Nat) (W : World), i < 52 → Below w.heap.size w W → W.cell? ⟨b, off + i, none⟩ = some (.int .i64 (ix xs i))) := Lib.hid (fun i W hi hb => (hb.cell (p := ⟨b, off + i, none⟩) (World.block_lt_of_cell? w _ (hc i (by omega)))).trans (hc i (by omega)))
  have hq : (n : Int) ≤ 52 / (H : Int) := by
    have h : n ≤ 52 / H := (Nat.le_div_iff_mul_le (by omega)).2 (by rw [Nat.mul_comm]; exact h3)
    have h' := Int.ofNat_le.2 h
    simpa using h'
  have hnn : n ≤ 52 := Nat.le_trans (Nat.le_mul_of_pos_left n h1) h3
  generalize hqq : (52 : Int) / (H : Int) = qq at *
  have hH1 : (1 : Int) ≤ H := by omega
  have hH2 : (H : Int) ≤ 10 := by omega
  have hn1 : (n : Int) ≤ 52 := by omega
  have K1 := Lib.hid (fun W : World => specIn_yes (H : Int) 1 10 W (by omega) (by omega))
  have K2 := Lib.hid (fun W : World => specIn_yes (n : Int) 0 qq W (by omega) (by omega))
  have HQ : Hid (∀ t k, t < n → k < H → t * H + k < 52) := Lib.hid (fun t k ht hk => by
    have : (t + 1) * H ≤ n * H := Nat.mul_le_mul_right H ht
    rw [Nat.succ_mul] at this
    rw [Nat.mul_comm] at h3
    omega)
  rw [hl] at K ⊢
  clear hr hc hd hl hn h3
  go_enter Try.func24, Try.ntmps24
  go_wp2_with (first
    | (go_at_call 32; refine (K.out _).mono ?_; rintro e w1 ⟨rfl, hb⟩; have HB := Lib.hid hb; clear hb)
    | (go_at_call 53; first | ((with_reducible refine (K1.out _).mono ?_); rintro e w2 ⟨rfl, rfl⟩) | ((with_reducible refine (K2.out _).mono ?_); rintro e w2 ⟨rfl, rfl⟩)))
  go_loopw [8, 9] (fun v i wr => ∃ (k : Nat) (AA : Nat → Option Addr) (CC : Nat → Nat), k ≤ H ∧ i = .int .i64 k ∧ Hid (Hang w1 k n (fun j => dealt H n j xs) AA CC v wr)) (fun _ i _ => H - (intOf i).toNat)
  case atStart => exact ⟨0, fun _ => none, fun _ => 0, Nat.zero_le _, rfl, Lib.hid (hang_start w1 n _ _ _)⟩
  case round =>
    obtain ⟨k, AA, CC, hk, rfl, hs⟩ := hrel
    obtain ⟨wo, rfl⟩ : ∃ wo : World, wo = wr := ⟨_, rfl⟩
    by_cases hlt : k < H
    · have hlt' : (k : Int) < H := by omega
      go_wp2_with fail
      go_loopw [10, 11] (fun u i wr2 => ∃ t : Nat, t ≤ n ∧ i = .int .i64 t ∧ Hid (Grow wo (permN (fun j => j * H + k) t xs) u wr2)) (fun _ i _ => n - (intOf i).toNat)
      case atStart => exact ⟨0, Nat.zero_le _, rfl, Lib.hid (grow_start wo)⟩
      case round =>
        obtain ⟨t, htn, rfl, hg⟩ := hrel
        by_cases hlt2 : t < n
        · have hlt2' : (t : Int) < n := by omega
          obtain ⟨A', c', rfl, hO⟩ := own_form hg.out.1
          have HO := Lib.hid hO
          have HB2 := Lib.hid (bl_trans HB.out (bl_trans hs.out.below hg.out.2))
          have hq2 := HQ.out t k hlt2 hlt
          have cd := HC.out (t * H + k) wr hq2 HB2.out
          have HE := Lib.hid (permN_snoc (fun j => j * H + k) t xs)
          have HM : Hid ((permN (fun j => j * H + k) t xs).length + 1 ≤ 4000000) := Lib.hid (by rw [permN_length]; omega)
          have hm0 : t * H < 52 := by omega
          have e1 : (t : Int) * (H : Int) = ((t * H : Nat) : Int) := by simp
          generalize t * H = m at *
          have e3 : ((m : Int) + (k : Int)).toNat = m + k := by omega
          have e4 : (0 : Int) ≤ (m : Int) + (k : Int) := by omega
          have e5 : (m : Int) + (k : Int) < 52 := by omega
          generalize hq9 : permN (fun j => j * H + k) (t + 1) xs = acc' at *
          have Q9 := Lib.hid hq9
          clear hq9
          generalize permN (fun j => j * H + k) t xs = acc at *
          generalize ix xs (m + k) = y at *
          clear hq2 hO
          go_wp2_with (at_builtin; refine wpList_glue (.tmp 37) (.tmp 46) rfl rfl wo.heap.size (.slice A' acc.length c') acc [y] (some ⟨wr.heap.size, 0, none⟩) 1 rfl (HO.out.below (bl_alloc (bl_refl _) _)) rfl (rd_new1 wr y) HM.out (Nat.le_trans hg.out.2.size (by simp)) ?_)
          intro A3 c3 ws3 w3 e3' ho3 hg3 _
          obtain rfl : ws3 = acc' := by rw [e3'.out, HE.out]
          have HG := Lib.hid (grow_glue hg.out (bl_alloc (bl_refl _) _) ho3 hg3)
          clear ho3 hg3 e3'
          go_wp2_with fail
          go_roundw
          case rel => exact ⟨t + 1, by omega, by go_num, by rw [Q9.out]; exact HG⟩
          case measure => simp [intOf]; omega
        · obtain rfl : t = n := by omega
          obtain ⟨A', c', rfl, hO⟩ := own_form hg.out.1
          have hX := hs.out.next hg.out.2
          have HX := Lib.hid (hX.next (bl_alloc (bl_refl _) (.cells #[.slice A' t c'] 24)))
          have HSB := Lib.hid hX.below.size
          have HO := Lib.hid hO
          have HL : Hid ((permN (fun j => j * H + k) t xs).length = t) := Lib.hid (permN_length _ _ _)
          have HN := Lib.hid (fun (v' : Value) (w4 : World) (hown : w4.ownsRow w1.heap.size 24 1 v' (k + 1) (cellsS k AA CC t ++ [.slice A' t c'])) (hgr : (wr.alloc (.cells #[.slice A' t c'] 24)).grownBy w4 u8.ownBlock) (hv : v'.ownBlock = u8.ownBlock ∨ v'.ownBlock = some (wr.heap.size + 1)) => hang_add hs.out hg.out.2 hO (permN_length _ _ _) hown hgr hv)
          rw [HL.out]
          have hcu : (wr.alloc (.cells #[.slice A' t c'] 24)).cell? ⟨wr.heap.size, 0, none⟩ = some (.slice A' t c') := by simp [go_sem]
          have HCU := Lib.hid hcu
          clear hO hX hcu
          go_wp2_with (at_builtin; refine wpList_hang (.tmp 48) (.tmp 50) rfl rfl w1.heap.size u8 k (cellsS k AA CC t) rfl HX.out.out ⟨wr.heap.size, 0, none⟩ 1 (.slice A' t c') rfl HCU.out rfl (by omega) (Nat.le_trans HSB.out (by simp)) ?_)
          intro v' w4 hown4 hg4 hv4
          have HG := Lib.hid (HN.out v' w4 hown4 hg4 (by simpa using hv4))
          clear hown4 hg4 hv4
          go_wp2_with fail
          go_roundw
          case rel => exact ⟨k + 1, _, _, by omega, by go_num, HG⟩
          case measure => simp [intOf]; omega
    · obtain rfl : k = H := by omega
      have HF : Hid (∃ A c, u8 = .slice A k c) := Lib.hid (by
        rcases hs.out.out.2 with ⟨e, hn⟩ | ⟨g, cap, cur, e, _⟩
        · omega
        · exact ⟨_, _, e⟩)
      obtain ⟨A', c', rfl⟩ := HF.out
      have HR := Lib.hid (hs.out.fam h1)
      have HB2 := Lib.hid (bl_trans HB.out hs.out.below)
      clear HF
      go_wp2_with fail
      go_ret2
      exact ⟨A', c', AA, CC, rfl, HR.out.less HB.out.size, HB2.out⟩

set_option maxRecDepth 100000 in
set_option maxHeartbeats 1000000 in
theorem specDeal_no (A : Option Addr) (c : Nat) (xs : List Int) (n1 n2 : Int) (w : World) (hr : Rd w A xs) (hn : xs.length ≤ 4000000) (hd : deckB xs = false) :
    Calls Try.prog 24 #[.slice A xs.length c, .int .i64 n1, .int .i64 n2] w (Fresh (.tuple #[.slice none 0 0, .int .i64 1]) w) := by
  have K := Lib.hid (fun (c : Nat) => specIsDeck_any A c xs w hr hn)
  rw [hd] at K
  clear hr hd
  go_enter Try.func24, Try.ntmps24
  go_wp2_with (first | (go_at_call 32; refine (K.out _).mono ?_; rintro e w1 ⟨rfl, hb⟩; have HB := Lib.hid hb; clear hb))
  go_ret2
  exact ⟨rfl, HB.out⟩

set_option maxRecDepth 100000 in
set_option maxHeartbeats 1000000 in
theorem specDeal_out (A : Option Addr) (c : Nat) (xs : List Int) (n1 n2 : Int) (w : World) (hr : Rd w A xs) (hn : xs.length ≤ 4000000) (hd : deckB xs = true) (h : outB n1 1 10) :
    Calls Try.prog 24 #[.slice A xs.length c, .int .i64 n1, .int .i64 n2] w (Fresh (.tuple #[.slice none 0 0, .int .i64 2]) w) := by
  have K := Lib.hid (fun (c : Nat) => specIsDeck_any A c xs w hr hn)
  rw [hd] at K
  have K1 := Lib.hid (fun W : World => specIn_no n1 1 10 W h)
  clear h
  clear hr hd
  go_enter Try.func24, Try.ntmps24
  go_wp2_with (first | (go_at_call 32; refine (K.out _).mono ?_; rintro e w1 ⟨rfl, hb⟩; have HB := Lib.hid hb; clear hb) | (go_at_call 53; refine (K1.out _).mono ?_; rintro e w2 ⟨rfl, rfl⟩))
  go_ret2
  exact ⟨rfl, HB.out⟩

set_option maxRecDepth 100000 in
set_option maxHeartbeats 1000000 in
theorem specDeal_many (A : Option Addr) (c : Nat) (xs : List Int) (n1 n2 : Int) (w : World) (hr : Rd w A xs) (hn : xs.length ≤ 4000000) (hd : deckB xs = true) (h0 : 1 ≤ n1) (h1 : n1 ≤ 10) (h : outB n2 0 (52 / n1)) :
    Calls Try.prog 24 #[.slice A xs.length c, .int .i64 n1, .int .i64 n2] w (Fresh (.tuple #[.slice none 0 0, .int .i64 2]) w) := by
  have K := Lib.hid (fun (c : Nat) => specIsDeck_any A c xs w hr hn)
  rw [hd] at K
  have K1 := Lib.hid (fun W : World => specIn_yes n1 1 10 W h0 h1)
  generalize hq : (52 : Int) / n1 = q at *
  have K2 := Lib.hid (fun W : World => specIn_no n2 0 q W h)
  clear h
  clear hr hd
  go_enter Try.func24, Try.ntmps24
  go_wp2_with (first | (go_at_call 32; refine (K.out _).mono ?_; rintro e w1 ⟨rfl, hb⟩; have HB := Lib.hid hb; clear hb) | (go_at_call 53; first | ((with_reducible refine (K1.out _).mono ?_); rintro e w2 ⟨rfl, rfl⟩) | ((with_reducible refine (K2.out _).mono ?_); rintro e w2 ⟨rfl, rfl⟩)))
  go_ret2
  exact ⟨rfl, HB.out⟩

theorem specDeal_any (A : Option Addr) (c : Nat) (xs : List Int) (n1 n2 : Int) (w : World) (hr : Rd w A xs) (hn : xs.length ≤ 4000000) :
    Calls Try.prog 24 #[.slice A xs.length c, .int .i64 n1, .int .i64 n2] w (DealPost xs n1 n2 w) := by
  rcases hd : deckB xs with _ | _
  · refine (specDeal_no A c xs n1 n2 w hr hn hd).mono fun e w' ⟨he, hw⟩ => ?_
    subst he
    exact newFam_none (by rw [hd]; rfl) (codeD_no hd _) hw
  · have no : ∀ (hk : okDeal n1 n2 = false) (h : Calls Try.prog 24 #[.slice A xs.length c, .int .i64 n1, .int .i64 n2] w (Fresh (.tuple #[.slice none 0 0, .int .i64 2]) w)), Calls Try.prog 24 #[.slice A xs.length c, .int .i64 n1, .int .i64 n2] w (DealPost xs n1 n2 w) := fun hk h => by
      refine h.mono fun e w' ⟨he, hw⟩ => ?_
      subst he
      exact newFam_none (by rw [hk, Bool.and_false]) (by rw [hk]; exact codeD_rng hd) hw
    by_cases h1 : 1 ≤ n1 ∧ n1 ≤ 10
    · obtain ⟨h1, h2⟩ := h1
      by_cases h3 : 0 ≤ n2 ∧ n2 ≤ 52 / n1
      · obtain ⟨h3, h4⟩ := h3
        have hk : okDeal n1 n2 = true := by unfold okDeal; rw [inB_yes _ _ _ h1 h2, inB_yes _ _ _ h3 h4]; rfl
        have hm := deal_bound n1 n2 h1 h3 h4
        obtain ⟨H, rfl⟩ := Int.eq_ofNat_of_zero_le (show 0 ≤ n1 by omega)
        obtain ⟨n, rfl⟩ := Int.eq_ofNat_of_zero_le h3
        have hh : handsN xs (H : Int) (n : Int) = H := by unfold handsN; rw [hd, hk]; rfl
        have := specDeal_yes A c xs H n w hr hn hd (by omega) (by omega) hm
        unfold DealPost
        rw [hh, hk, codeD_yes hd]
        simpa only [Int.toNat_natCast] using this
      · have ho : outB n2 0 (52 / n1) := by unfold outB; omega
        exact no (by unfold okDeal; rw [outB_inB _ _ _ ho, Bool.and_false]) (specDeal_many A c xs n1 n2 w hr hn hd h1 h2 ho)
    · have ho : outB n1 1 10 := by unfold outB; omega
      exact no (by unfold okDeal; rw [outB_inB _ _ _ ho]; rfl) (specDeal_out A c xs n1 n2 w hr hn hd ho)
end Go.Proofs.Ytafifipnfhekiaa
