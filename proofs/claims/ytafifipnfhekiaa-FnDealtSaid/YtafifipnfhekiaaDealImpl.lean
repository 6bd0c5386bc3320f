/-
  DealHands: the program's walk.
-/
import Derived.Test.YtafifipnfhekiaaDealRows
import Derived.Test.YtafifipnfhekiaaDeckAns
import Derived.RegionTactic
namespace Go.Proofs.Ytafifipnfhekiaa
open Go.RowKit
set_option linter.unusedVariables false

theorem infoSlice : (Try.prog.info? 24).map (fun i => (i.zero, i.size, i.bytes)) = some (some (.slice none 0 0), 1, 24) := by kernel_rfl
/-- The slices of the first K rows; the rest is nil. -/
def cellsD (H K : Nat) (AA : Nat → Option Addr) (n : Nat) : List Value := (List.range H).map (fun h => if h < K then .slice (AA h) n n else .slice none 0 0)
theorem cellsD_len (H K : Nat) (AA : Nat → Option Addr) (n : Nat) : (cellsD H K AA n).length = H := by simp [cellsD]
theorem cellsD_get (H K : Nat) (AA : Nat → Option Addr) (n h : Nat) (hh : h < H) : (cellsD H K AA n)[h]? = some (if h < K then .slice (AA h) n n else .slice none 0 0) := by simp [cellsD, hh]
theorem cellsD_zero (H : Nat) (AA : Nat → Option Addr) (n : Nat) : cellsD H 0 AA n = List.replicate H (.slice none 0 0) := by
  rw [List.eq_replicate_iff]
  exact ⟨cellsD_len .., fun b hb => by simp [cellsD] at hb; exact hb.2.symm⟩
def updA (AA : Nat → Option Addr) (k : Nat) (a : Option Addr) : Nat → Option Addr := fun h => if h = k then a else AA h
def updR (R : Nat → List Int) (k : Nat) (xs : List Int) : Nat → List Int := fun h => if h = k then xs else R h
theorem cellsD_set (H k : Nat) (AA : Nat → Option Addr) (n : Nat) (a : Option Addr) (hk : k < H) : (cellsD H k AA n).set k (.slice a n n) = cellsD H (k + 1) (updA AA k a) n := by
  apply List.ext_getElem?
  intro i
  rw [List.getElem?_set, cellsD_len]
  by_cases hi : i < H
  · rw [cellsD_get _ _ _ _ _ hi, cellsD_get _ _ _ _ _ hi]
    by_cases e : k = i
    · subst e
      rw [if_pos rfl, if_pos hi, if_pos (by omega)]
      simp [updA]
    · rw [if_neg e]
      have : ¬ i = k := fun q => e q.symm
      by_cases h2 : i < k
      · rw [if_pos h2, if_pos (by omega)]; simp [updA, this]
      · rw [if_neg h2, if_neg (by omega)]
  · have a1 : (cellsD H k AA n)[i]? = none := by rw [List.getElem?_eq_none]; rw [cellsD_len]; omega
    have a2 : (cellsD H (k + 1) (updA AA k a) n)[i]? = none := by rw [List.getElem?_eq_none]; rw [cellsD_len]; omega
    rw [a1, a2, if_neg (by omega)]
/-- What the dealing loops keep. -/
structure Dealing (w : World) (g H n K : Nat) (R : Nat → List Int) (AA : Nat → Option Addr) (wr : World) : Prop where
  out : wr.ownsRow w.heap.size 24 1 (.slice (some ⟨g, 0, none⟩) H H) H (cellsD H K AA n)
  row : ∀ h, h < K → Row wr w.heap.size (AA h) (R h)
  len : ∀ h, h < K → (R h).length = n
  off : ∀ h, h < K → ∀ a, AA h = some a → a.block ≠ g
  apart : ∀ h, h < K → ∀ k, k < K → h ≠ k → ∀ a, AA h = some a → ∀ b, AA k = some b → a.block ≠ b.block
  below : Below w.heap.size w wr
  lg : g < wr.heap.size
theorem Dealing.cell {w wr : World} {g H n K : Nat} {R : Nat → List Int} {AA : Nat → Option Addr} (h : Dealing w g H n K R AA wr) (k : Nat) (hk : k < H) : wr.cell? ⟨g, k, none⟩ = some (if k < K then .slice (AA k) n n else .slice none 0 0) ∧ wr.frozen? ⟨g, k, none⟩ = false :=
  ⟨by rw [h.out.cellAt k (by omega), cellsD_get _ _ _ _ _ hk], h.out.frozenAt k⟩
theorem Dealing.drewN {w wr : World} {g H n K : Nat} {R : Nat → List Int} {AA : Nat → Option Addr} (h : Dealing w g H n K R AA wr) : Dealing w g H n K R AA wr.drew :=
  ⟨h.out, h.row, h.len, h.off, h.apart, bl_drew h.below, h.lg⟩
/-- A new row is laid in. -/
theorem Dealing.add {w wr w1 : World} {g H n k : Nat} {R : Nat → List Int} {AA : Nat → Option Addr} {xs : List Int} (h : Dealing w g H n k R AA wr) (hk : k < H) (hx : xs.length = n) (hg : wr.grownBy w1 none) (hn : Row w1 wr.heap.size (some ⟨wr.heap.size, 0, none⟩) xs) :
    Dealing w g H n (k + 1) (updR R k xs) (updA AA k (some ⟨wr.heap.size, 0, none⟩)) (w1.setCell ⟨g, k, none⟩ (.slice (some ⟨wr.heap.size, 0, none⟩) n n)) := by
  have hb1 : Below wr.heap.size wr w1 := (bl_refl wr).grown hg (Nat.le_refl _) (fun j hj => by cases hj)
  have hle : ∀ j, j < k → ∀ a, AA j = some a → a.block < wr.heap.size := fun j hj a e => ((h.row j hj).1 a e).2
  have hlo : w.heap.size ≤ wr.heap.size := h.below.size
  have hlg := (World.ownsRow.lt h.out g rfl).1
  have hout : w1.ownsRow w.heap.size 24 1 (.slice (some ⟨g, 0, none⟩) H H) H (cellsD H k AA n) := World.ownsRow.kept h.out hg (.inr (by simp [Value.ownBlock]))
  have hst := hout.stored k (.slice (some ⟨wr.heap.size, 0, none⟩) n n)
  rw [cellsD_set H k AA n _ hk] at hst
  have hz : (w1.setCell ⟨g, k, none⟩ (.slice (some ⟨wr.heap.size, 0, none⟩) n n)).heap.size = w1.heap.size := by simp [World.setCell]
  refine ⟨hst.1, fun j hj => ?_, fun j hj => ?_, fun j hj a e => ?_, fun i hi j hj hne a e b e' => ?_, (bl_trans h.below hb1).setCell hlg _, by rw [hz]; exact Nat.lt_of_lt_of_le h.lg hb1.size⟩
  · by_cases e : j = k
    · subst e
      have := (hn.less (lo' := w.heap.size) hlo).grown hst.2 (fun a ha => by
        obtain rfl := Option.some.inj ha
        intro q; injection q with q; have := h.lg; simp at q; omega)
      simpa [updA, updR] using this
    · have hj' : j < k := by omega
      have := ((h.row j hj').below hb1).grown hst.2 (fun a ha => by
        intro q; injection q with q; exact h.off j hj' a ha q)
      simpa [updA, updR, e] using this
  · by_cases e : j = k
    · subst e; simpa [updR] using hx
    · simpa [updR, e] using h.len j (by omega)
  · by_cases q : j = k
    · subst q
      simp [updA] at e
      subst e
      have := h.lg
      show wr.heap.size ≠ g
      omega
    · simp [updA, q] at e
      exact h.off j (by omega) a e
  · by_cases q : i = k
    · subst q
      simp [updA] at e
      subst e
      have hji : ¬ j = i := fun q => hne q.symm
      simp [updA, hji] at e'
      have := hle j (by omega) b e'
      show wr.heap.size ≠ b.block
      omega
    · simp [updA, q] at e
      by_cases q2 : j = k
      · subst q2
        simp [updA] at e'
        subst e'
        have := hle i (by omega) a e
        show a.block ≠ wr.heap.size
        omega
      · simp [updA, q2] at e'
        exact h.apart i (by omega) j (by omega) hne a e b e'
/-- A number is written into the last row. -/
theorem Dealing.put {w wr : World} {g H n k gk t : Nat} {R : Nat → List Int} {AA : Nat → Option Addr} {y : Int} (h : Dealing w g H n (k + 1) R AA wr) (hA : AA k = some ⟨gk, 0, none⟩) (ht : t < n) :
    Dealing w g H n (k + 1) (updR R k ((R k).set t y)) AA (wr.setCell ⟨gk, t, none⟩ (.int .i64 y)) := by
  have hgr : wr.grownBy (wr.setCell ⟨gk, t, none⟩ (.int .i64 y)) (some gk) := ⟨rfl, rfl, rfl, by simp [World.setCell], fun j hj hne => Below.heap_setCell wr ⟨gk, t, none⟩ _ j (fun e => hne (by rw [e]))⟩
  have hne : g ≠ gk := fun e => h.off k (by omega) _ hA e.symm
  have hrk := h.row k (by omega)
  have hgk : w.heap.size ≤ gk := (hrk.1 _ hA).1
  have hlk := h.len k (by omega)
  refine ⟨World.ownsRow.kept h.out hgr (.inr (by simp [Value.ownBlock]; exact hne)), fun j hj => ?_, fun j hj => ?_, h.off, h.apart, h.below.setCell hgk _, by simpa [World.setCell] using h.lg⟩
  · by_cases e : j = k
    · subst e
      rw [hA] at hrk ⊢
      refine ⟨fun a ha => by have := hrk.1 a ha; exact ⟨this.1, by simpa [World.setCell] using this.2⟩, fun h0 => ⟨gk, 0, rfl, fun i hi => ?_⟩⟩
      simp only [updR, if_true] at hi ⊢
      rw [List.length_set] at hi
      obtain ⟨g', o', e', hc⟩ := hrk.2 (by omega)
      injection e' with e'
      injection e' with e1 e2
      subst e1 e2
      have hci := hc i hi
      have hct := hc t (by omega)
      rw [Nat.zero_add] at hci hct ⊢
      refine ⟨?_, by simp [go_sem, hci.2]⟩
      by_cases q : t = i
      · subst q
        rw [nth_set_same _ _ _ (by omega)]
        exact World.cell?_setCell_same wr _ _ hct.1
      · rw [nth_set_other _ _ _ _ q, World.cell?_setCell_other wr _ _ _ (by intro q2; injection q2 with _ q2; omega)]
        exact hci.1
    · have := (h.row j hj).grown hgr (fun a ha => by
        intro q; injection q with q
        exact h.apart j hj k (by omega) e a ha _ hA q)
      simpa [updR, e] using this
  · by_cases e : j = k
    · subst e; simp [updR, hlk]
    · simpa [updR, e] using h.len j hj
/-- The deal is done. -/
theorem Dealing.fam {w wr : World} {g H n : Nat} {R R' : Nat → List Int} {AA : Nat → Option Addr} (h : Dealing w g H n H R AA wr) (he : ∀ j, j < H → R j = R' j) : Fam wr w.heap.size (some ⟨g, 0, none⟩) H R' AA (fun _ => n) := by
  refine ⟨fun h0 => ⟨g, 0, rfl, h.lg, fun k hk => ?_⟩, fun k hk => by rw [← he k hk]; exact h.row k hk, fun a e => ?_, fun k hk a e b e' => ?_, h.apart⟩
  · rw [Nat.zero_add, (h.cell k hk).1, if_pos hk, ← he k hk, h.len k hk]
  · obtain rfl := Option.some.inj e
    exact ⟨(World.ownsRow.lt h.out g rfl).1, h.lg⟩
  · obtain rfl := Option.some.inj e'
    exact h.off k hk a e

/-- The numbers of hands and of cards are in their ranges. -/
def okDeal (h c : Int) : Bool := inB h 1 10 && inB c 0 (52 / h)
/-- How many hands are dealt. -/
def handsN (xs : List Int) (h c : Int) : Nat := if (deckB xs && okDeal h c) = true then h.toNat else 0
theorem deal_bound (n1 n2 : Int) (h1 : 1 ≤ n1) (h2 : 0 ≤ n2) (h : n2 ≤ 52 / n1) : n1.toNat * n2.toNat ≤ 52 := by
  obtain ⟨H, rfl⟩ := Int.eq_ofNat_of_zero_le (show 0 ≤ n1 by omega)
  obtain ⟨n, rfl⟩ := Int.eq_ofNat_of_zero_le h2
  have h' : n ≤ 52 / H := by
    have e : (52 : Int) / (H : Int) = ((52 / H : Nat) : Int) := by simp
    rw [e] at h
    omega
  have := (Nat.le_div_iff_mul_le (by omega)).1 h'
  rw [Int.toNat_natCast, Int.toNat_natCast, Nat.mul_comm]
  exact this
/-- What DealHands leaves. -/
def DealPost (xs : List Int) (h c : Int) (w : World) : Ending → World → Prop := NewFam (handsN xs h c) (fun j => dealt h.toNat c.toNat j xs) (codeD xs (okDeal h c)) w
theorem deal_no {xs : List Int} {h c : Int} (hd : (deckB xs && okDeal h c) = false) : handsN xs h c = 0 := by unfold handsN; rw [hd]; rfl
theorem newFam_none {xs : List Int} {h c k : Int} {w w' : World} (hd : (deckB xs && okDeal h c) = false) (hk : codeD xs (okDeal h c) = k) (hb : Below w.heap.size w w') : DealPost xs h c w (.returned (.tuple #[.slice none 0 0, .int .i64 k])) w' := by
  unfold DealPost
  rw [deal_no hd, hk]
  exact ⟨none, 0, fun _ => none, fun _ => 0, rfl, Fam.empty _ _ _, hb⟩
/-- The t-th state of a row that is being dealt. -/
def part (H n k t : Nat) (xs : List Int) : List Int := permN (fun j => j * H + k) t xs ++ List.replicate (n - t) 0
theorem part_len (H n k t : Nat) (xs : List Int) (h : t ≤ n) : (part H n k t xs).length = n := by unfold part; rw [List.length_append, permN_length, List.length_replicate]; omega
theorem part_zero (H n k : Nat) (xs : List Int) : part H n k 0 xs = List.replicate n 0 := by simp [part, permN]
theorem part_all (H n k : Nat) (xs : List Int) : part H n k n xs = dealt H n k xs := by simp [part, dealt]
theorem part_set (H n k t : Nat) (xs : List Int) (h : t < n) : (part H n k t xs).set t (ix xs (t * H + k)) = part H n k (t + 1) xs := by
  unfold part
  rw [List.set_append_right _ _ (by rw [permN_length]; exact Nat.le_refl _), permN_length, Nat.sub_self, permN_snoc, List.append_assoc]
  congr 1
  have : n - t = (n - (t + 1)) + 1 := by omega
  rw [this, List.replicate_succ]
  rfl
theorem deal_start {w w1 : World} {H n : Nat} {xs : List Int} {AA : Nat → Option Addr} (ho : w1.ownsRow w.heap.size 24 1 (.slice (some ⟨w.heap.size, 0, none⟩) H H) H (madeCells #[Value.slice none 0 0] H).toList) (hg : w.grownBy w1 none) : Dealing w w.heap.size H n 0 (fun j => dealt H n j xs) AA w1 := by
  have e : (madeCells #[Value.slice none 0 0] H).toList = cellsD H 0 AA n := by rw [cellsD_zero]; exact toList_madeCells_one _ _
  rw [e] at ho
  exact ⟨ho, (fun _ h => by omega), (fun _ h => by omega), (fun _ h => by omega), (fun _ h => by omega), (bl_refl w).grown hg (Nat.le_refl _) (fun j hj => by cases hj), (World.ownsRow.lt ho _ rfl).2⟩
theorem deal_row {w wr w1 : World} {g H n k : Nat} {xs : List Int} {AA : Nat → Option Addr} (h : Dealing w g H n k (fun j => dealt H n j xs) AA wr) (hk : k < H) (ho : w1.ownsRow wr.heap.size 2 1 (.slice (some ⟨wr.heap.size, 0, none⟩) n n) n (madeCells #[Value.int .i64 0] n).toList) (hg : wr.grownBy w1 none) :
    Dealing w g H n (k + 1) (updR (fun j => dealt H n j xs) k (part H n k 0 xs)) (updA AA k (some ⟨wr.heap.size, 0, none⟩)) (w1.setCell ⟨g, k, none⟩ (.slice (some ⟨wr.heap.size, 0, none⟩) n n)) := by
  have e : (madeCells #[Value.int .i64 0] n).toList = ints (part H n k 0 xs) := by rw [part_zero, ← ints_zeros]; exact toList_madeCells_one _ _
  rw [e] at ho
  have hl := part_len H n k 0 xs (by omega)
  have hO : Own w1 wr.heap.size (.slice (some ⟨wr.heap.size, 0, none⟩) (part H n k 0 xs).length n) (part H n k 0 xs) := by unfold Own; rw [hl]; exact ho
  exact h.add hk hl hg (Row.of_own hO)
theorem deal_put {w wr : World} {g H n k gk t : Nat} {xs : List Int} {AA : Nat → Option Addr} (h : Dealing w g H n (k + 1) (updR (fun j => dealt H n j xs) k (part H n k t xs)) AA wr) (hA : AA k = some ⟨gk, 0, none⟩) (ht : t < n) :
    Dealing w g H n (k + 1) (updR (fun j => dealt H n j xs) k (part H n k (t + 1) xs)) AA (wr.setCell ⟨gk, t, none⟩ (.int .i64 (ix xs (t * H + k)))) := by
  have := h.put (y := ix xs (t * H + k)) hA ht
  have e : updR (updR (fun j => dealt H n j xs) k (part H n k t xs)) k ((updR (fun j => dealt H n j xs) k (part H n k t xs) k).set t (ix xs (t * H + k))) = updR (fun j => dealt H n j xs) k (part H n k (t + 1) xs) := by
    funext j
    by_cases q : j = k
    · subst q; simp [updR, part_set H n j t xs ht]
    · simp [updR, q]
  rwa [e] at this
theorem deal_next {w wr : World} {g H n k : Nat} {xs : List Int} {AA : Nat → Option Addr} (h : Dealing w g H n (k + 1) (updR (fun j => dealt H n j xs) k (part H n k n xs)) AA wr) : Dealing w g H n (k + 1) (fun j => dealt H n j xs) AA wr := by
  have e : updR (fun j => dealt H n j xs) k (part H n k n xs) = fun j => dealt H n j xs := by
    funext j
    by_cases q : j = k
    · subst q; simp [updR, part_all]
    · simp [updR, q]
  rwa [e] at h
theorem deal_cell {w wr : World} {g H n k gk t : Nat} {R : Nat → List Int} {AA : Nat → Option Addr} (h : Dealing w g H n (k + 1) R AA wr) (hA : AA k = some ⟨gk, 0, none⟩) (ht : t < n) : wr.cell? ⟨gk, t, none⟩ = some (.int .i64 (nth (R k) t)) ∧ wr.frozen? ⟨gk, t, none⟩ = false := by
  have hr := h.row k (by omega)
  rw [hA] at hr
  obtain ⟨g', o', e, hc⟩ := hr.2 (by rw [h.len k (by omega)]; omega)
  injection e with e
  injection e with e1 e2
  subst e1 e2
  have := hc t (by rw [h.len k (by omega)]; exact ht)
  rwa [Nat.zero_add] at this

set_option maxRecDepth 100000 in
set_option maxHeartbeats 2000000 in
theorem implDeal_yes (A : Option Addr) (c : Nat) (xs : List Int) (H n : Nat) (w : World) (hr : Rd w A xs) (hn : xs.length ≤ 4000000) (hd : deckB xs = true) (h1 : 1 ≤ H) (h2 : H ≤ 10) (h3 : H * n ≤ 52) :
    Calls Try.prog 23 #[.slice A xs.length c, .int .i64 H, .int .i64 n] w (NewFam H (fun j => dealt H n j xs) 0 w) := by
  obtain ⟨i0, hi, hz0, hz1, hz2⟩ := info_parts infoInt
  obtain ⟨iS, hiS, hzS0, hzS1, hzS2⟩ := info_parts infoSlice
  have K := Lib.hid (fun (c : Nat) => implIsDeck_any A c xs w hr hn)
  rw [hd] at K
  have hl := ((deck_iff xs).1 hd).1
  obtain ⟨b, off, rfl, hc⟩ := hr (by omega)
  have HC : Hid (∀ (i : Nat) (W : World), i < 52 → Below w.heap.size w W → W.cell? ⟨b, off + i, none⟩ = some (.int .i64 (ix xs i))) := Lib.hid (fun i W hi hb => (hb.cell (p := ⟨b, off + i, none⟩) (World.block_lt_of_cell? w _ (hc i (by omega)))).trans (hc i (by omega)))
  have hq : (n : Int) ≤ 52 / (H : Int) := by
    have h : n ≤ 52 / H := (Nat.le_div_iff_mul_le (by omega)).2 (by rw [Nat.mul_comm]; exact h3)
    have h' := Int.ofNat_le.2 h
    simpa using h'
  have hnn : n ≤ 52 := Nat.le_trans (Nat.le_mul_of_pos_left n h1) h3
  generalize hqq : (52 : Int) / (H : Int) = qq at *
  have hH1 : (1 : Int) ≤ H := by omega
  have hH2 : (H : Int) ≤ 10 := by omega
  have hn1 : (n : Int) ≤ 52 := by omega
  have HQ : Hid (∀ t k, t < n → k < H → t * H + k < 52) := Lib.hid (fun t k ht hk => by
    have : (t + 1) * H ≤ n * H := Nat.mul_le_mul_right H ht
    rw [Nat.succ_mul] at this
    rw [Nat.mul_comm] at h3
    omega)
  rw [hl] at K ⊢
  clear hr hc hd hl hn h3
  obtain ⟨w0, rfl⟩ : ∃ w0 : World, w0 = w := ⟨w, rfl⟩
  go_enter Try.func23, Try.ntmps23
  go_wp2_with (first
    | (go_at_call 21; refine (K.out _).mono ?_; rintro e w1 ⟨rfl, rfl⟩)
    | (at_make; refine wpList_make_full _ rfl _ _ 32 rfl w0.heap.size 24 iS (.slice none 0 0) 1 Try.underlying32 hiS hzS0 hzS1 .i64 .i64 _ _ H rfl rfl rfl rfl ?c1 ?c2 (Nat.le_refl _) ?_))
  case c1 => rw [hzS2]; omega
  case c2 => unfold maxLen; omega
  intro w1 hown hgrow
  have HS := Lib.hid (fun AA : Nat → Option Addr => deal_start (n := n) (xs := xs) (AA := AA) hown hgrow)
  clear hown hgrow
  go_wp2_with fail
  go_loopw [31] (fun i wr => ∃ (k : Nat) (AA : Nat → Option Addr), k ≤ H ∧ i = .int .i64 k ∧ Hid (Dealing w0 w0.heap.size H n k (fun j => dealt H n j xs) AA wr)) (fun i _ => H - (intOf i).toNat)
  case atStart => exact ⟨0, fun _ => none, Nat.zero_le _, rfl, Lib.hid (HS.out _)⟩
  case round =>
    obtain ⟨k, AA, hk, rfl, hs⟩ := hrel
    by_cases hlt : k < H
    · have hlt' : (k : Int) < H := by omega
      go_wp2_with (at_make; refine wpList_make_full _ rfl _ _ 24 rfl wr.heap.size 2 i0 (.int .i64 0) 1 Try.underlying24 hi hz0 hz1 .i64 .i64 _ _ n rfl rfl rfl rfl ?d1 ?d2 (Nat.le_refl _) ?_)
      case d1 => rw [hz2]; omega
      case d2 => unfold maxLen; omega
      intro w2 hown hgrow
      have hd2 := deal_row hs.out hlt hown hgrow
      have HD := Lib.hid hd2
      have hbk := hgrow.block w0.heap.size hs.out.lg (by simp)
      have hcell : w2.cell? ⟨w0.heap.size, k, none⟩ = some (.slice none 0 0) := by
        rw [World.cell?_of_block (w := wr) (a := ⟨w0.heap.size, k, none⟩) hbk, (hs.out.cell k hlt).1, if_neg (by omega)]
      have hfr : w2.frozen? ⟨w0.heap.size, k, none⟩ = false := (World.frozen?_of_block (w := wr) (a := ⟨w0.heap.size, k, none⟩) hbk).trans (hs.out.cell k hlt).2
      have HA : Hid (updA AA k (some ⟨wr.heap.size, 0, none⟩) k = some ⟨wr.heap.size, 0, none⟩) := Lib.hid (by simp [updA])
      clear hown hgrow hd2 hbk
      generalize updA AA k (some ⟨wr.heap.size, 0, none⟩) = AA' at *
      generalize wr.heap.size = gk at *
      go_wp2_with fail
      go_loopw [40] (fun i wr => ∃ t : Nat, t ≤ n ∧ i = .int .i64 t ∧ Hid (Dealing w0 w0.heap.size H n (k + 1) (updR (fun j => dealt H n j xs) k (part H n k t xs)) AA' wr)) (fun i _ => n - (intOf i).toNat)
      case atStart => exact ⟨0, Nat.zero_le _, rfl, HD⟩
      case round =>
        obtain ⟨t, htn, rfl, hs2⟩ := hrel
        by_cases hlt2 : t < n
        · have hlt2' : (t : Int) < n := by omega
          obtain ⟨co, _⟩ := hs2.out.cell k hlt
          rw [if_pos (by omega), HA.out] at co
          obtain ⟨ct, ft⟩ := deal_cell hs2.out HA.out hlt2
          have hq2 := HQ.out t k hlt2 hlt
          have cd := HC.out (t * H + k) wr hq2 hs2.out.below
          have HN := Lib.hid (deal_put hs2.out HA.out hlt2)
          have hm0 : t * H < 52 := by omega
          have e1 : (t : Int) * (H : Int) = ((t * H : Nat) : Int) := by simp
          have e1' : IntKind.i64.wrap ((t : Int) * (H : Int)) = ((t * H : Nat) : Int) := by rw [e1, IntKind.wrap_i64]; omega
          generalize t * H = m at *
          have e2 : IntKind.i64.wrap ((m : Int) + (k : Int)) = (m : Int) + (k : Int) := by rw [IntKind.wrap_i64]; omega
          have e3 : ((m : Int) + (k : Int)).toNat = m + k := by omega
          have e4 : (0 : Int) ≤ (m : Int) + (k : Int) := by omega
          have e5 : (m : Int) + (k : Int) < 52 := by omega
          generalize ix xs (m + k) = y at *
          generalize nth (updR (fun j => dealt H n j xs) k (part H n k t xs) k) t = z at *
          clear hq2 hm0
          go_wp2_with fail
          go_region
          all_goals
            go_wp2_with fail
            go_roundw
            case rel => exact ⟨t + 1, by omega, by go_num, Lib.hid HN.out.drewN⟩
            case measure => simp [intOf]; omega
        · obtain rfl : t = n := by omega
          have HN := Lib.hid (deal_next hs2.out)
          go_wp2_with fail
          go_roundw
          case rel => exact ⟨k + 1, AA', by omega, by go_num, HN⟩
          case measure => simp [intOf]; omega
    · obtain rfl : k = H := by omega
      have HF := Lib.hid (hs.out.fam (R' := fun j => dealt k n j xs) (fun _ _ => rfl))
      have HB := Lib.hid hs.out.below
      go_wp2_with fail
      go_ret2
      exact ⟨_, k, AA, fun _ => n, rfl, HF.out, HB.out⟩

set_option maxRecDepth 100000 in
set_option maxHeartbeats 1000000 in
theorem implDeal_no (A : Option Addr) (c : Nat) (xs : List Int) (n1 n2 : Int) (w : World) (hr : Rd w A xs) (hn : xs.length ≤ 4000000) (hd : deckB xs = false) :
    Calls Try.prog 23 #[.slice A xs.length c, .int .i64 n1, .int .i64 n2] w (Same (.tuple #[.slice none 0 0, .int .i64 1]) w) := by
  have K := Lib.hid (fun (c : Nat) => implIsDeck_any A c xs w hr hn)
  rw [hd] at K
  clear hr hd
  go_enter Try.func23, Try.ntmps23
  go_wp2_with (go_at_call 21; refine (K.out _).mono ?_; rintro e w1 ⟨rfl, rfl⟩)
  go_ret2
  exact ⟨rfl, rfl⟩

set_option maxRecDepth 100000 in
set_option maxHeartbeats 1000000 in
theorem implDeal_lo (A : Option Addr) (c : Nat) (xs : List Int) (n1 n2 : Int) (w : World) (hr : Rd w A xs) (hn : xs.length ≤ 4000000) (hd : deckB xs = true) (h : n1 < 1) :
    Calls Try.prog 23 #[.slice A xs.length c, .int .i64 n1, .int .i64 n2] w (Same (.tuple #[.slice none 0 0, .int .i64 2]) w) := by
  have K := Lib.hid (fun (c : Nat) => implIsDeck_any A c xs w hr hn)
  rw [hd] at K
  clear hr hd
  go_enter Try.func23, Try.ntmps23
  go_wp2_with (go_at_call 21; refine (K.out _).mono ?_; rintro e w1 ⟨rfl, rfl⟩)
  go_ret2
  exact ⟨rfl, rfl⟩

set_option maxRecDepth 100000 in
set_option maxHeartbeats 1000000 in
theorem implDeal_hi (A : Option Addr) (c : Nat) (xs : List Int) (n1 n2 : Int) (w : World) (hr : Rd w A xs) (hn : xs.length ≤ 4000000) (hd : deckB xs = true) (h : 10 < n1) :
    Calls Try.prog 23 #[.slice A xs.length c, .int .i64 n1, .int .i64 n2] w (Same (.tuple #[.slice none 0 0, .int .i64 2]) w) := by
  have K := Lib.hid (fun (c : Nat) => implIsDeck_any A c xs w hr hn)
  rw [hd] at K
  have h1 : ¬ n1 < 1 := by omega
  clear hr hd
  go_enter Try.func23, Try.ntmps23
  go_wp2_with (go_at_call 21; refine (K.out _).mono ?_; rintro e w1 ⟨rfl, rfl⟩)
  go_ret2
  exact ⟨rfl, rfl⟩

set_option maxRecDepth 100000 in
set_option maxHeartbeats 1000000 in
theorem implDeal_neg (A : Option Addr) (c : Nat) (xs : List Int) (n1 n2 : Int) (w : World) (hr : Rd w A xs) (hn : xs.length ≤ 4000000) (hd : deckB xs = true) (h0 : 1 ≤ n1) (h1 : n1 ≤ 10) (h : n2 < 0) :
    Calls Try.prog 23 #[.slice A xs.length c, .int .i64 n1, .int .i64 n2] w (Same (.tuple #[.slice none 0 0, .int .i64 2]) w) := by
  have K := Lib.hid (fun (c : Nat) => implIsDeck_any A c xs w hr hn)
  rw [hd] at K
  clear hr hd
  go_enter Try.func23, Try.ntmps23
  go_wp2_with (go_at_call 21; refine (K.out _).mono ?_; rintro e w1 ⟨rfl, rfl⟩)
  go_ret2
  exact ⟨rfl, rfl⟩

set_option maxRecDepth 100000 in
set_option maxHeartbeats 1000000 in
theorem implDeal_many (A : Option Addr) (c : Nat) (xs : List Int) (n1 n2 : Int) (w : World) (hr : Rd w A xs) (hn : xs.length ≤ 4000000) (hd : deckB xs = true) (h0 : 1 ≤ n1) (h1 : n1 ≤ 10) (h2 : 0 ≤ n2) (h : 52 / n1 < n2) :
    Calls Try.prog 23 #[.slice A xs.length c, .int .i64 n1, .int .i64 n2] w (Same (.tuple #[.slice none 0 0, .int .i64 2]) w) := by
  have K := Lib.hid (fun (c : Nat) => implIsDeck_any A c xs w hr hn)
  rw [hd] at K
  generalize hq : (52 : Int) / n1 = q at *
  clear hr hd
  go_enter Try.func23, Try.ntmps23
  go_wp2_with (go_at_call 21; refine (K.out _).mono ?_; rintro e w1 ⟨rfl, rfl⟩)
  go_ret2
  exact ⟨rfl, rfl⟩

theorem implDeal_any (A : Option Addr) (c : Nat) (xs : List Int) (n1 n2 : Int) (w : World) (hr : Rd w A xs) (hn : xs.length ≤ 4000000) :
    Calls Try.prog 23 #[.slice A xs.length c, .int .i64 n1, .int .i64 n2] w (DealPost xs n1 n2 w) := by
  rcases hd : deckB xs with _ | _
  · refine (implDeal_no A c xs n1 n2 w hr hn hd).mono fun e w' ⟨he, hw⟩ => ?_
    subst he hw
    exact newFam_none (by rw [hd]; rfl) (codeD_no hd _) (bl_refl _)
  · have no : ∀ (hk : okDeal n1 n2 = false) (h : Calls Try.prog 23 #[.slice A xs.length c, .int .i64 n1, .int .i64 n2] w (Same (.tuple #[.slice none 0 0, .int .i64 2]) w)), Calls Try.prog 23 #[.slice A xs.length c, .int .i64 n1, .int .i64 n2] w (DealPost xs n1 n2 w) := fun hk h => by
      refine h.mono fun e w' ⟨he, hw⟩ => ?_
      subst he hw
      exact newFam_none (by rw [hk, Bool.and_false]) (by rw [hk]; exact codeD_rng hd) (bl_refl _)
    by_cases h1 : n1 < 1
    · exact no (by unfold okDeal; rw [inB_lo _ _ _ h1]; rfl) (implDeal_lo A c xs n1 n2 w hr hn hd h1)
    · by_cases h2 : 10 < n1
      · exact no (by unfold okDeal; rw [inB_hi _ _ _ h2]; rfl) (implDeal_hi A c xs n1 n2 w hr hn hd h2)
      · by_cases h3 : n2 < 0
        · exact no (by unfold okDeal; rw [inB_lo _ _ _ h3, Bool.and_false]) (implDeal_neg A c xs n1 n2 w hr hn hd (by omega) (by omega) h3)
        · by_cases h4 : 52 / n1 < n2
          · exact no (by unfold okDeal; rw [inB_hi _ _ _ h4, Bool.and_false]) (implDeal_many A c xs n1 n2 w hr hn hd (by omega) (by omega) (by omega) h4)
          · have hk : okDeal n1 n2 = true := by unfold okDeal; rw [inB_yes _ _ _ (by omega) (by omega), inB_yes _ _ _ (by omega) (by omega)]; rfl
            have hm := deal_bound n1 n2 (by omega) (by omega) (by omega)
            obtain ⟨H, rfl⟩ := Int.eq_ofNat_of_zero_le (show 0 ≤ n1 by omega)
            obtain ⟨n, rfl⟩ := Int.eq_ofNat_of_zero_le (show 0 ≤ n2 by omega)
            have hh : handsN xs (H : Int) (n : Int) = H := by unfold handsN; rw [hd, hk]; rfl
            have := implDeal_yes A c xs H n w hr hn hd (by omega) (by omega) hm
            unfold DealPost
            rw [hh, hk, codeD_yes hd]
            simpa only [Int.toNat_natCast] using this
end Go.Proofs.Ytafifipnfhekiaa
