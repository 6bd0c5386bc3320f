/-
  The program's least ace-to-five value of some cards.
-/
import Derived.Test.YtajkgnheijhbpaaAceImpl
import Derived.Test.YtajkgnheijhbpaaIter
import Derived.Test.YtajkgnheijhbpaaBase
import Derived.Test.YtajkgnheijhbpaaRoundRegion
import Derived.Test.YtajkgnheijhbpaaAnyS
namespace Go.Proofs.Ytajkgnheijhbpaa
open Go.RowKit
set_option linter.unusedVariables false
attribute [local go_sem] Oper.semAt_some

/-- The least value of the first k choices. -/
def leastA (xs : List Int) (k : Nat) : Int := lowV aceS (ch 5 xs) k
def minI (a b : Int) : Int := if b < a then b else a
theorem leastA_succ (xs : List Int) (k : Nat) : leastA xs (k + 1) = minI (leastA xs k) (aceS ((ch 5 xs).getD k [])) := rfl
set_option maxHeartbeats 400000 in
theorem minimum_any (a b : Int) (w : World) :
    Calls Try.prog 98 #[.int .i64 a, .int .i64 b] w (Same (.int .i64 (minI a b)) w) := by
  by_cases h : b < a
  · have H : Hid (minI a b = b) := Lib.hid (by unfold minI; rw [if_pos h])
    go_enter Try.func98, Try.ntmps98
    go_wp2_with fail
    go_ret
    exact ⟨ret_int H.out.symm, rfl⟩
  · have H : Hid (minI a b = a) := Lib.hid (by unfold minI; rw [if_neg h])
    go_enter Try.func98, Try.ntmps98
    go_wp2_with fail
    go_ret
    exact ⟨ret_int H.out.symm, rfl⟩

/-- What the loop's rounds keep. -/
def LeastSt (w : World) (A : Option Addr) (c : Nat) (xs : List Int) (i : Nat) (W : World) : Prop :=
  Blk W w.heap.size 93 [.iface 63 (.agg #[])] ∧ Blk W (w.heap.size + 1) 24 [.slice A xs.length c] ∧ Blk W (w.heap.size + 1 + 1) 2 (ints [leastA xs i]) ∧
  Blk W (w.heap.size + 1 + 1 + 1) 3 (ints [(xs.length : Int)]) ∧ Blk W (w.heap.size + 1 + 1 + 1 + 1) 3 (ints [5]) ∧ Below w.heap.size w W
theorem LeastSt.keep {w A B : World} {Ad : Option Addr} {c : Nat} {xs : List Int} {i n0 : Nat} (h : LeastSt w Ad c xs i A) (hb : Below n0 A B) (hn : w.heap.size + 1 + 1 + 1 + 1 < n0) : LeastSt w Ad c xs i B := by
  obtain ⟨h1, h2, h3, h4, h5, h6⟩ := h
  have k : ∀ {g : Nat} {t : TypeId} {vs : List Value}, Blk A g t vs → g < n0 → Blk B g t vs := fun hq hg => (hb.block _ hg).trans hq
  exact ⟨k h1 (by omega), k h2 (by omega), k h3 (by omega), k h4 (by omega), k h5 (by omega), h6.trans (hb.mono (by omega))⟩
theorem least_start (w : World) (A : Option Addr) (c : Nat) (xs : List Int) :
    LeastSt w A c xs 0 (((((w.alloc (.cells #[.iface 63 (.agg #[])] 93)).alloc (.cells #[.slice A xs.length c] 24)).alloc (.cells #[.int .i64 9223372036854775807] 2)).alloc (.cells #[.int .i64 xs.length] 3)).alloc (.cells #[.int .i64 5] 3)) := by
  obtain ⟨o0, e0⟩ : ∃ o, o = Obj.cells #[.iface 63 (.agg #[])] 93 := ⟨_, rfl⟩
  obtain ⟨o1, e1⟩ : ∃ o, o = Obj.cells #[Value.slice A xs.length c] 24 := ⟨_, rfl⟩
  obtain ⟨o2, e2⟩ : ∃ o, o = Obj.cells #[Value.int .i64 9223372036854775807] 2 := ⟨_, rfl⟩
  obtain ⟨o3, e3⟩ : ∃ o, o = Obj.cells #[Value.int .i64 xs.length] 3 := ⟨_, rfl⟩
  obtain ⟨o4, e4⟩ : ∃ o, o = Obj.cells #[Value.int .i64 5] 3 := ⟨_, rfl⟩
  rw [← e0, ← e1, ← e2, ← e3, ← e4]
  have up : ∀ (W : World) (o : Obj) {g : Nat} {t : TypeId} {vs : List Value}, Blk W g t vs → Blk (W.alloc o) g t vs := fun W o _ _ _ h => h.below (bl_alloc (bl_refl W) o)
  have n0 : Blk (w.alloc o0) w.heap.size 93 [.iface 63 (.agg #[])] := by rw [e0]; exact blk_new w _ _
  have n1 : Blk ((w.alloc o0).alloc o1) (w.heap.size + 1) 24 [.slice A xs.length c] := by
    have := blk_new (w.alloc o0) 24 [.slice A xs.length c]; rw [World.size_alloc] at this; rw [e1]; exact this
  have n2 : Blk (((w.alloc o0).alloc o1).alloc o2) (w.heap.size + 1 + 1) 2 (ints [leastA xs 0]) := by
    have := blk_new ((w.alloc o0).alloc o1) 2 (ints [9223372036854775807]); rw [World.size_alloc, World.size_alloc] at this; rw [e2]; exact this
  have n3 : Blk ((((w.alloc o0).alloc o1).alloc o2).alloc o3) (w.heap.size + 1 + 1 + 1) 3 (ints [(xs.length : Int)]) := by
    have := blk_new (((w.alloc o0).alloc o1).alloc o2) 3 (ints [(xs.length : Int)]); rw [World.size_alloc, World.size_alloc, World.size_alloc] at this; rw [e3]; exact this
  have n4 : Blk (((((w.alloc o0).alloc o1).alloc o2).alloc o3).alloc o4) (w.heap.size + 1 + 1 + 1 + 1) 3 (ints [5]) := by
    have := blk_new ((((w.alloc o0).alloc o1).alloc o2).alloc o3) 3 (ints [5]); rw [World.size_alloc, World.size_alloc, World.size_alloc, World.size_alloc] at this; rw [e4]; exact this
  exact ⟨up _ _ (up _ _ (up _ _ (up _ _ n0))), up _ _ (up _ _ (up _ _ n1)), up _ _ (up _ _ n2), up _ _ n3, n4, bl_alloc (bl_alloc (bl_alloc (bl_alloc (bl_alloc (bl_refl w) _) _) _) _) _⟩
theorem run_arrF (b off c : Nat) (w : World) : (Instr.arrayAt 74 (.slice (some ⟨b, off, none⟩) 5 c)).run Try.prog w = .ok (.pointer (some ⟨b, off, none⟩)) w := by
  simp [Instr.arrayAt, run_underlying u51]
theorem keepsO_drew {A B : World} (h : KeepsOthers A B) (n : Nat) : KeepsOthers A (B.drewN n) := ⟨h.1, h.2⟩
set_option maxRecDepth 100000 in
set_option maxHeartbeats 8000000 in
theorem least_any (A : Option Addr) (c : Nat) (xs : List Int) (most : Int) (w : World) (hr : Rd w A xs) (hm : most ≤ 8) (hd : sizedB xs 5 most = true) :
    Calls Try.prog 60 #[.iface 63 (.agg #[]), .slice A xs.length c, .int .i64 most] w (Fresh (pairV (leastA xs (ch 5 xs).length) 0) w) := by
  obtain ⟨h5', h8', hb⟩ := sized_iff.1 hd
  have h5 : 5 ≤ xs.length := by omega
  have h8 : xs.length ≤ 8 := by omega
  have HR := Lib.hid hr
  have HC := Lib.hid hb
  have H5 := Lib.hid h5
  have H8 := Lib.hid h8
  have KZ := Lib.hid (fun (W : World) (h : Below w.heap.size w W) => implSized_any A c xs 5 most W (hr.below h) (by omega))
  rw [hd] at KZ
  have hm' : ∀ W : World, (method 257 63 (.agg #[]) "loop.example/g00910/impl.lowValue").run Try.prog W = .ok (162, .agg #[]) W := fun _ => by kernel_rfl
  have hna : ∀ W : World, (nilAhead 257 63 (.agg #[]) "loop.example/g00910/impl.lowValue").run Try.prog W = .ok (some false) W := fun _ => by kernel_rfl
  clear hr hb hd h5' h8'
  refine (callsIn_wide (n := 3)).1 ?_
  refine callsIn_of_wp_marks Try.func60 rfl trivial ?_ rfl
  simp only [Try.ntmps60, List.size_toArray, List.length_cons, List.length_nil, Nat.reduceAdd, Nat.reduceSub, Array.replicate_succ, Array.replicate_zero, List.push_toArray, List.append_toArray, List.nil_append, List.cons_append]
  obtain ⟨w0, rfl⟩ : ∃ w0 : World, w0 = w := ⟨w, rfl⟩
  have BZ := Lib.hid (bl_alloc (bl_alloc (bl_refl w0) (.cells #[.iface 63 (.agg #[])] 93)) (.cells #[.slice A xs.length c] 24))
  gi_wp2_with (first
    | (refine ⟨trivial, ?_⟩; gi_at_call 45; refine (callsIn_wide.2 (KZ.out _ BZ.out)).mono ?_; rintro e w1 ⟨rfl, rfl⟩)
    | (refine ⟨trivial, ?_⟩; gi_at_call 97; refine (callsIn_wide.2 (choicesOf_any (xs.length : Int) _)).mono ?_; rintro e w1 ⟨rfl, rfl⟩))
  have HS := Lib.hid (least_start w0 A c xs)
  have hz : (((((((w0.alloc (.cells #[.iface 63 (.agg #[])] 93)).alloc (.cells #[.slice A xs.length c] 24)).alloc (.cells #[.int .i64 9223372036854775807] 2)).alloc (.cells #[.int .i64 xs.length] 3)).alloc (.cells #[.int .i64 5] 3))).heap.size) = w0.heap.size + 1 + 1 + 1 + 1 + 1 := by simp
  obtain ⟨W0, eW⟩ : ∃ W0, W0 = (((((w0.alloc (.cells #[.iface 63 (.agg #[])] 93)).alloc (.cells #[.slice A xs.length c] 24)).alloc (.cells #[.int .i64 9223372036854775807] 2)).alloc (.cells #[.int .i64 xs.length] 3)).alloc (.cells #[.int .i64 5] 3)) := ⟨_, rfl⟩
  rw [← eW] at HS hz
  rw [← eW]
  clear eW
  refine wpIn_range_run rfl (by omega) (gf := 118) (lb := #[.pointer (some ⟨w0.heap.size + 1 + 1 + 1 + 1, 0, none⟩), .pointer (some ⟨w0.heap.size + 1 + 1 + 1, 0, none⟩)]) rfl trivial (enters_of Try.func118 (by kernel_rfl) rfl)
    (iter_any 2 xs.length (w0.heap.size + 1 + 1 + 1 + 1) (w0.heap.size + 1 + 1 + 1) h5 h8 (LeastSt w0 A c xs) W0 (by omega) (fun i W h => ⟨(h.2.2.2.2.1.cell 0 _ rfl).1, (h.2.2.2.1.cell 0 _ rfl).1⟩))
    (fun gb => rfl) (fun i A' B' h hb => h.keep hb (by omega)) (fun i gb A' B' h he => he.trans h) HS.out
    (fun gb => { tmps := #[.iface 63 (.agg #[]), .slice A xs.length c, .int .i64 most, .pointer (some ⟨w0.heap.size, 0, none⟩), .pointer (some ⟨w0.heap.size + 1, 0, none⟩), undef, .int .i64 0, .int .i64 0, .pointer (some ⟨w0.heap.size + 1 + 1, 0, none⟩), .slice (some ⟨gb, 0, none⟩) 5 5, .slice A xs.length c, .int .i64 most, .bool true, .bool false, .slice A xs.length c, .int .i64 xs.length,
      .func (.func 118) #[] #[.pointer (some ⟨w0.heap.size + 1 + 1 + 1 + 1, 0, none⟩), .pointer (some ⟨w0.heap.size + 1 + 1 + 1, 0, none⟩)], .slice (some ⟨gb, 0, none⟩) 5 5, undef, undef, undef, undef, undef, undef, undef, undef, undef, undef, undef, undef, undef], defers := [] }) ?assign ?body ?done (fun i gb W h => Blk.lt h)
  case assign =>
    intro l gb W K hK
    gi_wp2
    exact hK
  case body =>
    intro l i gb W hi hI hC hgb hgb2
    have HI := Lib.hid hI
    have HCh := Lib.hid hC
    have hlen : i < (ch 5 xs).length := by rw [ch_len]; exact hi
    obtain ⟨hcb, hc5⟩ := ch_cards xs HC.out i hlen
    obtain ⟨hl5, hxb, _⟩ := idx_facts xs.length h5 h8 i hi
    have RW := Lib.hid (HR.out.below hI.2.2.2.2.2)
    have KC := Lib.hid (fun (W' : World) (hb' : Below W.heap.size W W') => chosen_any A c gb xs ((idx xs.length).getD i []) W' (RW.out.below hb') h8 (Blk.below hC hb') hl5 (fun y hy => hxb y hy))
    rw [← ch_at xs i hi] at KC
    have KV := Lib.hid (fun (W' : World) => aceValue_any ((ch 5 xs).getD i []) W' hcb hc5)
    have HL := Lib.hid (leastA_succ xs i)
    have KM := Lib.hid minimum_any
    obtain ⟨x0, x1, x2, x3, x4, ex⟩ := list_five ((ch 5 xs).getD i []) hc5
    rw [ex] at KC KV HL
    unfold aggI at KV
    generalize aceS [x0, x1, x2, x3, x4] = v at *
    obtain ⟨r1, r2, r3, r4, r5, r6⟩ := hI
    generalize leastA xs i = q at *
    have cl := (r2.cell 0 _ rfl).1
    have ci := (r1.cell 0 _ rfl).1
    obtain ⟨cq, fq⟩ := r3.cell 0 _ rfl
    have R1 := Lib.hid r1
    have R2 := Lib.hid r2
    have R3 := Lib.hid r3
    have R4 := Lib.hid r4
    have R5 := Lib.hid r5
    have R6 := Lib.hid r6
    have hzq := r3.lt
    have hsa := fun (g : Nat) (W' : World) => run_arrF g 0 5 W'
    have hnn : 1 ≤ 3 - 1 - 1 := by omega
    have hmx : Try.prog.follows .mixedOrders = true := by kernel_rfl
    clear hcb hc5 hl5 hxb ex r1 r2 r3 r4 r5 r6 hC
    gi_wp2
    refine wpIn_region_anyR l rfl hmx (noDefer_spec (by kernel_rfl)) ?_
    refine wpAnyIn_S (S := fun W' => Below W.heap.size W W') (last := 12) (k := 12) rfl (fun HC0 => ?_)
    have hS0 : Below W.heap.size W { W with drawn := W.drawn + 1 } := bl_drew (bl_refl W)
    obtain ⟨W1, eW1⟩ : ∃ W1 : World, W1 = { W with drawn := W.drawn + 1 } := ⟨_, rfl⟩
    have hz1 : W1.heap.size = W.heap.size := by rw [eW1]
    rw [← eW1] at hS0 ⊢
    clear eW1
    refine wpAnyS_take (i := 0) (kw := 2) (v := .int .i64 q) rfl rfl (by kernel_rfl) (by kernel_rfl) (by kernel_rfl) (by kernel_rfl) (fun _ _ _ h => h) HC0 hS0 ⟨Or.inl ⟨by rfl, fun W' hs => ?_⟩, fun _ => rfl⟩ (fun HC1 => ?_)
    · have c := ((bcell hs).1 (w0.heap.size + 1 + 1) 0 (by omega)).trans cq
      go_simp
    refine wpAnyS_take (i := 1) (kw := 2) (v := .iface 63 (.agg #[])) rfl rfl (by kernel_rfl) (by kernel_rfl) (by kernel_rfl) (by kernel_rfl) (fun _ _ _ h => h) HC1 hS0 ⟨Or.inl ⟨by rfl, fun W' hs => ?_⟩, fun _ => rfl⟩ (fun HC2 => ?_)
    · have c := ((bcell hs).1 w0.heap.size 0 (by omega)).trans ci
      go_simp
    refine wpAnyS_take (i := 2) (kw := 2) (v := .slice A xs.length c) rfl rfl (by kernel_rfl) (by kernel_rfl) (by kernel_rfl) (by kernel_rfl) (fun _ _ _ h => h) HC2 hS0 ⟨Or.inl ⟨by rfl, fun W' hs => ?_⟩, fun _ => rfl⟩ (fun HC3 => ?_)
    · have c := ((bcell hs).1 (w0.heap.size + 1) 0 (by omega)).trans cl
      go_simp
    refine wpAnyS_take (i := 3) (kw := 2) (v := .slice (some ⟨gb, 0, none⟩) 5 5) rfl rfl (by kernel_rfl) (by kernel_rfl) (by kernel_rfl) (by kernel_rfl) (fun _ _ _ h => h) HC3 hS0 ⟨Or.inl ⟨by rfl, fun W' hs => ?_⟩, fun _ => rfl⟩ (fun HC4 => ?_)
    · go_simp
    refine wpAnyS_take (i := 7) (kw := 2) (v := .func (.method "loop.example/g00910/impl.lowValue") #[.iface 63 (.agg #[])] #[]) rfl rfl (by kernel_rfl) (by kernel_rfl) (by kernel_rfl) (by kernel_rfl) (fun _ _ _ h => h) HC4 hS0 ⟨Or.inl ⟨by rfl, fun W' hs => ?_⟩, fun _ => rfl⟩ (fun HC5 => ?_)
    · go_simp
    refine wpAnyS_take (i := 8) (kw := 2) (v := .func (.method "loop.example/g00910/impl.lowValue") #[.iface 63 (.agg #[])] #[]) rfl rfl (by kernel_rfl) (by kernel_rfl) (by kernel_rfl) (by kernel_rfl) (fun _ _ _ h => h) HC5 hS0 ⟨Or.inl ⟨by rfl, fun W' hs => ?_⟩, fun _ => rfl⟩ (fun HC6 => ?_)
    · go_simp
    refine wpAnyS_take (i := 9) (kw := 2) (v := .iface 63 (.agg #[])) rfl rfl (by kernel_rfl) (by kernel_rfl) (by kernel_rfl) (by kernel_rfl) (fun _ _ _ h => h) HC6 hS0 ⟨Or.inl ⟨by rfl, fun W' hs => ?_⟩, fun _ => rfl⟩ (fun HC7 => ?_)
    · go_simp
    refine wpAnyS_one HC7 (i := 4) (by kernel_rfl) rfl hS0 (fun K hK => ?_)
    go_simp
    gi_wp2_with (refine ⟨trivial, ?_⟩; gi_at_call 99; refine (callsIn_wide.2 (KC.out _ hS0)).mono ?_; rintro e w5 ⟨rfl, hn5, hb5⟩)
    intro HC8
    have hn5' : Blk w5 W.heap.size 2 (ints [x0, x1, x2, x3, x4]) := by have h := hn5; rw [hz1] at h; exact h
    have hS5 : Below W.heap.size W w5 := hS0.trans (hb5.mono (by omega))
    obtain ⟨y0, _⟩ := hn5'.cell 0 _ rfl
    obtain ⟨y1, _⟩ := hn5'.cell 1 _ rfl
    obtain ⟨y2, _⟩ := hn5'.cell 2 _ rfl
    obtain ⟨y3, _⟩ := hn5'.cell 3 _ rfl
    obtain ⟨y4, _⟩ := hn5'.cell 4 _ rfl
    clear hn5 hn5'
    refine wpAnyS_one HC8 (i := 5) (by kernel_rfl) rfl hS5 (fun K hK => ?_)
    go_simp
    refine hK _ _ ?_
    clear hK K
    intro HC9
    refine wpAnyS_one HC9 (i := 6) (by kernel_rfl) rfl hS5 (fun K hK => ?_)
    go_simp
    refine hK _ _ ?_
    clear hK K
    intro HC10
    refine wpAnyS_one HC10 (i := 10) (by kernel_rfl) rfl hS5 (fun K hK => ?_)
    go_simp
    gi_wp2_with (refine ⟨trivial, ?_⟩; gi_at_call 162; refine (callsIn_wide.2 (KV.out _)).mono ?_; rintro e w6 ⟨rfl, hb6⟩)
    intro HC11
    have hS6 : Below W.heap.size W w6 := hS5.trans (hb6.mono hS5.size)
    refine wpAnyS_one HC11 (i := 11) (by kernel_rfl) rfl hS6 (fun K hK => ?_)
    go_simp
    gi_wp2_with (refine ⟨trivial, ?_⟩; gi_at_call 98; refine (callsIn_wide.2 (KM.out _ _ _)).mono ?_; rintro e w7 ⟨rfl, rfl⟩)
    intro HC12
    have c6 := ((bcell hS6).1 (w0.heap.size + 1 + 1) 0 (by omega)).trans cq
    have f6 := ((bcell hS6).2 (w0.heap.size + 1 + 1) 0 (by omega)).trans fq
    refine wpAnyS_last (by kernel_rfl) (by kernel_rfl) rfl hS6 (fun K hK => ?_)
    go_simp
    refine hK _ _ ?_
    clear hK K
    have s := blk_setI ((R3.out.below hS6)) 0 (minI q v)
    gi_wp2
    have up : ∀ {g : Nat} {t : TypeId} {vs : List Value}, Blk W g t vs → g ≠ w0.heap.size + 1 + 1 → Blk (w6.setCell ⟨w0.heap.size + 1 + 1, 0, none⟩ (.int .i64 (minI q v))) g t vs := fun hq h1 => (hq.below hS6).grown s.2 (fun e => h1 (Option.some.inj e))
    exact ⟨⟨up R1.out (by omega), up R2.out (by omega), by rw [HL.out]; exact s.1, up R4.out (by omega), up R5.out (by omega), bl_blk (bl_trans R6.out hS6) s.2 (by omega)⟩, up HCh.out (by omega), (keeps_below hS6).trans (KeepsOthers.setCell _ _ _)⟩
  case done =>
    intro D W hD hI hK
    rw [← ch_len] at hI
    obtain ⟨r1, r2, r3, r4, r5, r6⟩ := hI
    generalize leastA xs (ch 5 xs).length = q at *
    obtain ⟨cq, fq⟩ := r3.cell 0 _ rfl
    have R6 := Lib.hid r6
    clear r1 r2 r3 r4 r5 r6
    gi_wp2
    refine ⟨by simp, .inl ⟨_, _, rfl, run_takeDeferred hK, ?_⟩⟩
    exact ⟨_, by simp [results, Try.f60, go_sem], rfl, R6.out.trans (putObj_below _ _ _ (by omega) (Array.getElem?_eq_some_iff.1 hK).1)⟩
end Go.Proofs.Ytajkgnheijhbpaa
