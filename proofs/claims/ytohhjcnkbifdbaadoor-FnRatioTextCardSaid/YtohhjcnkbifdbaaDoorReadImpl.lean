/-
  ReadRatio: the walk of the program's function.
-/
import Derived.Test.YtohhjcnkbifdbaaDoorText
import Derived.Shelf.Strconv.ParseIntPublic10
import Derived.LaidLaws
namespace Go.Proofs.YtohhjcnkbifdbaaDoor
open Go.RowKit
set_option linter.unusedVariables false

/-- What the library's own variables hold. -/
def LibCells (w : World) : Prop := (∃ m, w.cell? ⟨1, 0, none⟩ = some (.int .i64 m)) ∧ (∃ t p, w.cell? ⟨2, 0, none⟩ = some (.iface t p)) ∧ (∃ t p, w.cell? ⟨3, 0, none⟩ = some (.iface t p))
theorem cell_kept {w W : World} (hb : Below w.heap.size w W) {b : Nat} {v : Value} (h : w.cell? ⟨b, 0, none⟩ = some v) : W.cell? ⟨b, 0, none⟩ = some v :=
  (hb.cell (p := ⟨b, 0, none⟩) (World.block_lt_of_cell? w _ h)).trans h
theorem lib_kept {w W : World} (h : LibCells w) (hb : Below w.heap.size w W) : LibCells W := by
  obtain ⟨⟨m, h1⟩, ⟨t, p, h2⟩, ⟨t', p', h3⟩⟩ := h
  exact ⟨⟨m, cell_kept hb h1⟩, ⟨t, p, cell_kept hb h2⟩, ⟨t', p', cell_kept hb h3⟩⟩

theorem cut_of {w : World} (C : LibCells w) (l a b : List UInt8) (c : Bool) (h : Lib.cut l [47] = (a, b, c)) (hl : l.length ≤ 2000000) :
    Calls Tryd.prog 25 #[strV l, .string ⟨#[47]⟩] w (Drawn (.tuple #[strV a, strV b, .bool c]) w) := by
  obtain ⟨⟨m, hm⟩, _, _⟩ := C
  have K := Any.strings_Cut { Tryd.laysM145 with } ⟨l.toArray⟩ ⟨#[47]⟩ m w (by show l.length < _; omega) hm
  have e : Lib.cut (⟨l.toArray⟩ : ByteArray).data.toList (⟨#[47]⟩ : ByteArray).data.toList = (a, b, c) := h
  rw [e] at K
  exact K
theorem parse_ok (l : List UInt8) (n : Int) (w : World) (h : Lib.parseIntB 64 l = .ok n) (hl : l.length ≤ 2000000) :
    Calls Tryd.prog 26 #[strV l, .int .i64 10, .int .i64 64] w (Fresh (.tuple #[.int .i64 n, .nilIface]) w) :=
  (Tryd.strconv_ParseInt_10_at64_ok ⟨l.toArray⟩ (by show l.length ≤ _; omega) n h w).mono fun _ _ ⟨he, hw⟩ => ⟨he, by
    rcases hw with rfl | ⟨t, rfl⟩
    · exact bl_refl _
    · exact Lib.bytesWorld_below _ _ _⟩
/-- ParseInt ends in an error. -/
def Bad (w : World) (e : Ending) (w' : World) : Prop := ∃ (x : Int) (t : TypeId) (p : Addr), e = .returned (.tuple #[.int .i64 x, .iface t (.pointer (some p))]) ∧ Below w.heap.size w w'
theorem parse_bad {w : World} (C : LibCells w) (l : List UInt8) (h : ∀ n, Lib.parseIntB 64 l ≠ .ok n) (hl : l.length ≤ 2000000) :
    Calls Tryd.prog 26 #[strV l, .int .i64 10, .int .i64 64] w (Bad w) := by
  obtain ⟨_, ⟨t, p, hs⟩, ⟨t', p', hr⟩⟩ := C
  have hlim : (⟨l.toArray⟩ : ByteArray).size ≤ 281474976710656 := by show l.length ≤ _; omega
  rcases e : Lib.parseIntB 64 l with v | _ | _
  · exact absurd e (h v)
  · exact (Any.strconv_ParseInt_10_at64_syntax Tryd.laysC174 ⟨l.toArray⟩ hlim e _ w hs (Or.inr ⟨t, p, rfl⟩)).mono fun _ _ ⟨N, he, _, _, hb⟩ => ⟨_, _, _, he, hb⟩
  · exact (Any.strconv_ParseInt_10_at64_range Tryd.laysC174 ⟨l.toArray⟩ hlim e _ w hr (Or.inr ⟨t', p', rfl⟩)).mono fun _ _ ⟨N, he, _, _, hb⟩ => ⟨_, _, _, he, hb⟩

theorem bl_set2 {w W : World} {o o' : Nat} {u u' : Value} (h : Below w.heap.size w W) : Below w.heap.size w ((W.setCell ⟨w.heap.size, o, none⟩ u).setCell ⟨w.heap.size, o', none⟩ u') :=
  bl_set (bl_set h (Nat.le_refl _) _) (Nat.le_refl _) _
theorem sz_newN {w w1 : World} {o : Obj} {m : Nat} (hb : Below ((w.alloc o).drewN m).heap.size ((w.alloc o).drewN m) w1) : w.heap.size < w1.heap.size := by
  have := hb.size
  simp at this
  omega
/-- A ratio and whether there is one, as a result. -/
abbrev rdV (n d : Int) (ok : Bool) : Value := .tuple #[.agg #[.int .i64 n, .int .i64 d], .bool ok]

set_option maxRecDepth 100000 in
set_option maxHeartbeats 1000000 in
theorem implRead_bad1 (l a b : List UInt8) (c : Bool) (w : World) (K1 : Hid (∀ W, Below w.heap.size w W → Calls Tryd.prog 25 #[strV l, .string ⟨#[47]⟩] W (Drawn (.tuple #[strV a, strV b, .bool c]) W)))
    (K2 : Hid (∀ W, Below w.heap.size w W → Calls Tryd.prog 26 #[strV a, .int .i64 10, .int .i64 64] W (Bad W))) :
    Calls Tryd.prog 9 #[strV l] w (Fresh (rdV 0 0 false) w) := by
  go_enter Tryd.func9, Tryd.ntmps9
  go_wp2_with (go_at_call 25; refine (K1.out _ (bl_alloc (bl_refl _) _)).mono ?_; rintro e w1 ⟨rfl, m, rfl⟩)
  go_wp2_with (go_at_call 26; refine (K2.out _ (bl_drewN (bl_alloc (bl_refl _) _) _)).mono ?_; rintro e w2 ⟨x, t, p, rfl, hb2⟩; obtain ⟨hc2, hf2⟩ := bcell hb2; have hz2 := sz_newN hb2)
  exact bodyPost_ret (v := rdV 0 0 false) (by simp [results, Tryd.results9, go_sem, hc2]) rfl ⟨rfl, by
    repeat (first | exact bl_refl _ | (refine bl_trans ?_ (by assumption)) | apply bl_alloc | apply bl_drewN | apply bl_drew | (refine bl_set ?_ (by first | exact Nat.le_refl _ | (simp; done) | (simp; omega)) _))⟩
set_option maxRecDepth 100000 in
set_option maxHeartbeats 1000000 in
theorem implRead_onea (l a b : List UInt8) (n : Int) (w : World) (K1 : Hid (∀ W, Below w.heap.size w W → Calls Tryd.prog 25 #[strV l, .string ⟨#[47]⟩] W (Drawn (.tuple #[strV a, strV b, .bool false]) W))) (K2 : Hid (∀ W, Calls Tryd.prog 26 #[strV a, .int .i64 10, .int .i64 64] W (Fresh (.tuple #[.int .i64 n, .nilIface]) W)))
    (K3 : Hid (∀ W, Calls Tryd.prog 19 #[.agg #[.int .i64 n, .int .i64 1]] W (Fresh (.bool false) W))) :
    Calls Tryd.prog 9 #[strV l] w (Fresh (rdV 0 0 false) w) := by
  go_enter Tryd.func9, Tryd.ntmps9
  go_wp2_with (go_at_call 25; refine (K1.out _ (bl_alloc (bl_refl _) _)).mono ?_; rintro e w1 ⟨rfl, m, rfl⟩)
  go_wp2_with (go_at_call 26; refine (K2.out _).mono ?_; rintro e w2 ⟨rfl, hb2⟩; obtain ⟨hc2, hf2⟩ := bcell hb2; have hz2 := sz_newN hb2; have H2 := Lib.hid (box_call (box_new w 0 0 _) (bl_trans (bl_drewN (bl_refl _) _) hb2)))
  go_wp2_with (go_at_call 19; refine (K3.out _).mono ?_; rintro e w5 ⟨rfl, hb5⟩; obtain ⟨hc5, hf5⟩ := bcell hb5; have hz5 := sz_new hb5; have hz6 := sz_old hz2 (bl_trans (bl_alloc (bl_refl _) _) hb5); have H5 := Lib.hid (box_call H2.out (bl_trans (bl_alloc (bl_refl _) _) hb5)))
  exact bodyPost_ret (v := rdV 0 0 false) (by simp [results, Tryd.results9, go_sem, H5.out.1, H5.out.2.1]) rfl ⟨rfl, bl_set2 H5.out.2.2⟩

set_option maxRecDepth 100000 in
set_option maxHeartbeats 1000000 in
theorem implRead_oneb (l a b : List UInt8) (n : Int) (w : World) (K1 : Hid (∀ W, Below w.heap.size w W → Calls Tryd.prog 25 #[strV l, .string ⟨#[47]⟩] W (Drawn (.tuple #[strV a, strV b, .bool false]) W))) (K2 : Hid (∀ W, Calls Tryd.prog 26 #[strV a, .int .i64 10, .int .i64 64] W (Fresh (.tuple #[.int .i64 n, .nilIface]) W)))
    (K3 : Hid (∀ W, Calls Tryd.prog 19 #[.agg #[.int .i64 n, .int .i64 1]] W (Fresh (.bool true) W))) (K4 : Hid (∀ W, Below w.heap.size w W → Calls Tryd.prog 8 #[.agg #[.int .i64 n, .int .i64 1]] W (Fresh (strV l) W))) :
    Calls Tryd.prog 9 #[strV l] w (Fresh (rdV n 1 true) w) := by
  go_enter Tryd.func9, Tryd.ntmps9
  go_wp2_with (go_at_call 25; refine (K1.out _ (bl_alloc (bl_refl _) _)).mono ?_; rintro e w1 ⟨rfl, m, rfl⟩)
  go_wp2_with (go_at_call 26; refine (K2.out _).mono ?_; rintro e w2 ⟨rfl, hb2⟩; obtain ⟨hc2, hf2⟩ := bcell hb2; have hz2 := sz_newN hb2; have H2 := Lib.hid (box_call (box_new w 0 0 _) (bl_trans (bl_drewN (bl_refl _) _) hb2)))
  go_wp2_with (go_at_call 19; refine (K3.out _).mono ?_; rintro e w5 ⟨rfl, hb5⟩; obtain ⟨hc5, hf5⟩ := bcell hb5; have hz5 := sz_new hb5; have hz6 := sz_old hz2 (bl_trans (bl_alloc (bl_refl _) _) hb5); have H5 := Lib.hid (box_call H2.out (bl_trans (bl_alloc (bl_refl _) _) hb5)))
  go_wp2_with (go_at_call 8; refine (K4.out _ H5.out.2.2).mono ?_; rintro e w6 ⟨rfl, hb6⟩; obtain ⟨hc6, hf6⟩ := bcell hb6; have hz7 := sz_old hz5 hb6; have hz8 := sz_old hz6 hb6; have H6 := Lib.hid (box_call H5.out hb6))
  exact bodyPost_ret (v := rdV n 1 true) (by simp [results, Tryd.results9, go_sem, H6.out.1, H6.out.2.1]) rfl ⟨rfl, bl_set2 H6.out.2.2⟩

set_option maxRecDepth 100000 in
set_option maxHeartbeats 1000000 in
theorem implRead_onec (l a b t : List UInt8) (n : Int) (w : World) (K1 : Hid (∀ W, Below w.heap.size w W → Calls Tryd.prog 25 #[strV l, .string ⟨#[47]⟩] W (Drawn (.tuple #[strV a, strV b, .bool false]) W))) (K2 : Hid (∀ W, Calls Tryd.prog 26 #[strV a, .int .i64 10, .int .i64 64] W (Fresh (.tuple #[.int .i64 n, .nilIface]) W)))
    (K3 : Hid (∀ W, Calls Tryd.prog 19 #[.agg #[.int .i64 n, .int .i64 1]] W (Fresh (.bool true) W))) (K4 : Hid (∀ W, Below w.heap.size w W → Calls Tryd.prog 8 #[.agg #[.int .i64 n, .int .i64 1]] W (Fresh (strV t) W))) (ht : (t == l) = false) :
    Calls Tryd.prog 9 #[strV l] w (Fresh (rdV 0 0 false) w) := by
  go_enter Tryd.func9, Tryd.ntmps9
  go_wp2_with (go_at_call 25; refine (K1.out _ (bl_alloc (bl_refl _) _)).mono ?_; rintro e w1 ⟨rfl, m, rfl⟩)
  go_wp2_with (go_at_call 26; refine (K2.out _).mono ?_; rintro e w2 ⟨rfl, hb2⟩; obtain ⟨hc2, hf2⟩ := bcell hb2; have hz2 := sz_newN hb2; have H2 := Lib.hid (box_call (box_new w 0 0 _) (bl_trans (bl_drewN (bl_refl _) _) hb2)))
  go_wp2_with (go_at_call 19; refine (K3.out _).mono ?_; rintro e w5 ⟨rfl, hb5⟩; obtain ⟨hc5, hf5⟩ := bcell hb5; have hz5 := sz_new hb5; have hz6 := sz_old hz2 (bl_trans (bl_alloc (bl_refl _) _) hb5); have H5 := Lib.hid (box_call H2.out (bl_trans (bl_alloc (bl_refl _) _) hb5)))
  go_wp2_with (go_at_call 8; refine (K4.out _ H5.out.2.2).mono ?_; rintro e w6 ⟨rfl, hb6⟩; obtain ⟨hc6, hf6⟩ := bcell hb6; have hz7 := sz_old hz5 hb6; have hz8 := sz_old hz6 hb6; have H6 := Lib.hid (box_call H5.out hb6))
  exact bodyPost_ret (v := rdV 0 0 false) (by simp [results, Tryd.results9, go_sem, H6.out.1, H6.out.2.1]) rfl ⟨rfl, bl_set2 H6.out.2.2⟩

set_option maxRecDepth 100000 in
set_option maxHeartbeats 1000000 in
theorem implRead_twoa (l a b : List UInt8) (n d : Int) (w : World) (K1 : Hid (∀ W, Below w.heap.size w W → Calls Tryd.prog 25 #[strV l, .string ⟨#[47]⟩] W (Drawn (.tuple #[strV a, strV b, .bool true]) W))) (K2 : Hid (∀ W, Calls Tryd.prog 26 #[strV a, .int .i64 10, .int .i64 64] W (Fresh (.tuple #[.int .i64 n, .nilIface]) W))) (K5 : Hid (∀ W, Calls Tryd.prog 26 #[strV b, .int .i64 10, .int .i64 64] W (Fresh (.tuple #[.int .i64 d, .nilIface]) W)))
    (K3 : Hid (∀ W, Calls Tryd.prog 19 #[.agg #[.int .i64 n, .int .i64 d]] W (Fresh (.bool false) W))) :
    Calls Tryd.prog 9 #[strV l] w (Fresh (rdV 0 0 false) w) := by
  go_enter Tryd.func9, Tryd.ntmps9
  go_wp2_with (go_at_call 25; refine (K1.out _ (bl_alloc (bl_refl _) _)).mono ?_; rintro e w1 ⟨rfl, m, rfl⟩)
  go_wp2_with (go_at_call 26; first | ((with_reducible refine (K2.out _).mono ?_); rintro e w2 ⟨rfl, hb2⟩; obtain ⟨hc2, hf2⟩ := bcell hb2; have hz2 := sz_newN hb2; have H2 := Lib.hid (box_call (box_new w 0 0 _) (bl_trans (bl_drewN (bl_refl _) _) hb2))) | ((with_reducible refine (K5.out _).mono ?_); rintro e w4 ⟨rfl, hb4⟩; obtain ⟨hc4, hf4⟩ := bcell hb4; have hz4 := sz_old hz2 hb4; have H4 := Lib.hid (box_call H2.out hb4)))
  go_wp2_with (go_at_call 19; refine (K3.out _).mono ?_; rintro e w5 ⟨rfl, hb5⟩; obtain ⟨hc5, hf5⟩ := bcell hb5; have hz5 := sz_new hb5; have hz6 := sz_old hz4 (bl_trans (bl_alloc (bl_refl _) _) hb5); have H5 := Lib.hid (box_call H4.out (bl_trans (bl_alloc (bl_refl _) _) hb5)))
  exact bodyPost_ret (v := rdV 0 0 false) (by simp [results, Tryd.results9, go_sem, H5.out.1, H5.out.2.1]) rfl ⟨rfl, bl_set2 H5.out.2.2⟩

set_option maxRecDepth 100000 in
set_option maxHeartbeats 1000000 in
theorem implRead_twob (l a b : List UInt8) (n d : Int) (w : World) (K1 : Hid (∀ W, Below w.heap.size w W → Calls Tryd.prog 25 #[strV l, .string ⟨#[47]⟩] W (Drawn (.tuple #[strV a, strV b, .bool true]) W))) (K2 : Hid (∀ W, Calls Tryd.prog 26 #[strV a, .int .i64 10, .int .i64 64] W (Fresh (.tuple #[.int .i64 n, .nilIface]) W))) (K5 : Hid (∀ W, Calls Tryd.prog 26 #[strV b, .int .i64 10, .int .i64 64] W (Fresh (.tuple #[.int .i64 d, .nilIface]) W)))
    (K3 : Hid (∀ W, Calls Tryd.prog 19 #[.agg #[.int .i64 n, .int .i64 d]] W (Fresh (.bool true) W))) (K4 : Hid (∀ W, Below w.heap.size w W → Calls Tryd.prog 8 #[.agg #[.int .i64 n, .int .i64 d]] W (Fresh (strV l) W))) :
    Calls Tryd.prog 9 #[strV l] w (Fresh (rdV n d true) w) := by
  go_enter Tryd.func9, Tryd.ntmps9
  go_wp2_with (go_at_call 25; refine (K1.out _ (bl_alloc (bl_refl _) _)).mono ?_; rintro e w1 ⟨rfl, m, rfl⟩)
  go_wp2_with (go_at_call 26; first | ((with_reducible refine (K2.out _).mono ?_); rintro e w2 ⟨rfl, hb2⟩; obtain ⟨hc2, hf2⟩ := bcell hb2; have hz2 := sz_newN hb2; have H2 := Lib.hid (box_call (box_new w 0 0 _) (bl_trans (bl_drewN (bl_refl _) _) hb2))) | ((with_reducible refine (K5.out _).mono ?_); rintro e w4 ⟨rfl, hb4⟩; obtain ⟨hc4, hf4⟩ := bcell hb4; have hz4 := sz_old hz2 hb4; have H4 := Lib.hid (box_call H2.out hb4)))
  go_wp2_with (go_at_call 19; refine (K3.out _).mono ?_; rintro e w5 ⟨rfl, hb5⟩; obtain ⟨hc5, hf5⟩ := bcell hb5; have hz5 := sz_new hb5; have hz6 := sz_old hz4 (bl_trans (bl_alloc (bl_refl _) _) hb5); have H5 := Lib.hid (box_call H4.out (bl_trans (bl_alloc (bl_refl _) _) hb5)))
  go_wp2_with (go_at_call 8; refine (K4.out _ H5.out.2.2).mono ?_; rintro e w6 ⟨rfl, hb6⟩; obtain ⟨hc6, hf6⟩ := bcell hb6; have hz7 := sz_old hz5 hb6; have hz8 := sz_old hz6 hb6; have H6 := Lib.hid (box_call H5.out hb6))
  exact bodyPost_ret (v := rdV n d true) (by simp [results, Tryd.results9, go_sem, H6.out.1, H6.out.2.1]) rfl ⟨rfl, bl_set2 H6.out.2.2⟩

set_option maxRecDepth 100000 in
set_option maxHeartbeats 1000000 in
theorem implRead_twoc (l a b t : List UInt8) (n d : Int) (w : World) (K1 : Hid (∀ W, Below w.heap.size w W → Calls Tryd.prog 25 #[strV l, .string ⟨#[47]⟩] W (Drawn (.tuple #[strV a, strV b, .bool true]) W))) (K2 : Hid (∀ W, Calls Tryd.prog 26 #[strV a, .int .i64 10, .int .i64 64] W (Fresh (.tuple #[.int .i64 n, .nilIface]) W))) (K5 : Hid (∀ W, Calls Tryd.prog 26 #[strV b, .int .i64 10, .int .i64 64] W (Fresh (.tuple #[.int .i64 d, .nilIface]) W)))
    (K3 : Hid (∀ W, Calls Tryd.prog 19 #[.agg #[.int .i64 n, .int .i64 d]] W (Fresh (.bool true) W))) (K4 : Hid (∀ W, Below w.heap.size w W → Calls Tryd.prog 8 #[.agg #[.int .i64 n, .int .i64 d]] W (Fresh (strV t) W))) (ht : (t == l) = false) :
    Calls Tryd.prog 9 #[strV l] w (Fresh (rdV 0 0 false) w) := by
  go_enter Tryd.func9, Tryd.ntmps9
  go_wp2_with (go_at_call 25; refine (K1.out _ (bl_alloc (bl_refl _) _)).mono ?_; rintro e w1 ⟨rfl, m, rfl⟩)
  go_wp2_with (go_at_call 26; first | ((with_reducible refine (K2.out _).mono ?_); rintro e w2 ⟨rfl, hb2⟩; obtain ⟨hc2, hf2⟩ := bcell hb2; have hz2 := sz_newN hb2; have H2 := Lib.hid (box_call (box_new w 0 0 _) (bl_trans (bl_drewN (bl_refl _) _) hb2))) | ((with_reducible refine (K5.out _).mono ?_); rintro e w4 ⟨rfl, hb4⟩; obtain ⟨hc4, hf4⟩ := bcell hb4; have hz4 := sz_old hz2 hb4; have H4 := Lib.hid (box_call H2.out hb4)))
  go_wp2_with (go_at_call 19; refine (K3.out _).mono ?_; rintro e w5 ⟨rfl, hb5⟩; obtain ⟨hc5, hf5⟩ := bcell hb5; have hz5 := sz_new hb5; have hz6 := sz_old hz4 (bl_trans (bl_alloc (bl_refl _) _) hb5); have H5 := Lib.hid (box_call H4.out (bl_trans (bl_alloc (bl_refl _) _) hb5)))
  go_wp2_with (go_at_call 8; refine (K4.out _ H5.out.2.2).mono ?_; rintro e w6 ⟨rfl, hb6⟩; obtain ⟨hc6, hf6⟩ := bcell hb6; have hz7 := sz_old hz5 hb6; have hz8 := sz_old hz6 hb6; have H6 := Lib.hid (box_call H5.out hb6))
  exact bodyPost_ret (v := rdV 0 0 false) (by simp [results, Tryd.results9, go_sem, H6.out.1, H6.out.2.1]) rfl ⟨rfl, bl_set2 H6.out.2.2⟩

set_option maxRecDepth 100000 in
set_option maxHeartbeats 1000000 in
theorem implRead_bad2 (l a b : List UInt8) (n : Int) (w : World) (K1 : Hid (∀ W, Below w.heap.size w W → Calls Tryd.prog 25 #[strV l, .string ⟨#[47]⟩] W (Drawn (.tuple #[strV a, strV b, .bool true]) W)))
    (K2 : Hid (∀ W, Calls Tryd.prog 26 #[strV a, .int .i64 10, .int .i64 64] W (Fresh (.tuple #[.int .i64 n, .nilIface]) W)))
    (K5 : Hid (∀ W, Below w.heap.size w W → Calls Tryd.prog 26 #[strV b, .int .i64 10, .int .i64 64] W (Bad W))) :
    Calls Tryd.prog 9 #[strV l] w (Fresh (rdV 0 0 false) w) := by
  go_enter Tryd.func9, Tryd.ntmps9
  go_wp2_with (go_at_call 25; refine (K1.out _ (bl_alloc (bl_refl _) _)).mono ?_; rintro e w1 ⟨rfl, m, rfl⟩)
  go_wp2_with (go_at_call 26; first | ((with_reducible refine (K2.out _).mono ?_); rintro e w2 ⟨rfl, hb2⟩; obtain ⟨hc2, hf2⟩ := bcell hb2; have hz2 := sz_newN hb2; have H2 := Lib.hid (box_call (box_new w 0 0 _) (bl_trans (bl_drewN (bl_refl _) _) hb2))) | ((with_reducible refine (K5.out _ H2.out.2.2).mono ?_); rintro e w4 ⟨x, t, p, rfl, hb4⟩; obtain ⟨hc4, hf4⟩ := bcell hb4; have hz4 := sz_old hz2 hb4; have H4 := Lib.hid (box_call H2.out hb4)))
  exact bodyPost_ret (v := rdV 0 0 false) (by simp [results, Tryd.results9, go_sem, H4.out.1, H4.out.2.1]) rfl ⟨rfl, bl_set2 H4.out.2.2⟩

/-- What ReadRatio's two makes answer. -/
def ReadPost (l : List UInt8) (w : World) (e : Ending) (w' : World) : Prop := ∃ (n d : Int) (ok : Bool), Read l n d ok ∧ e = .returned (rdV n d ok) ∧ Below w.heap.size w w'
theorem read_post {l : List UInt8} {f : FuncId} {args : Array Value} {w : World} {n d : Int} {ok : Bool} (r : Read l n d ok) (h : Calls Tryd.prog f args w (Fresh (rdV n d ok) w)) : Calls Tryd.prog f args w (ReadPost l w) :=
  h.mono fun _ _ ⟨he, hb⟩ => ⟨n, d, ok, r, he, hb⟩
theorem beq_no {a b : List UInt8} (h : a ≠ b) : (a == b) = false := by simpa using h
/-- ReadRatio answers the valid ratio with the text, or none. -/
theorem implRead_any (l : List UInt8) (w : World) (B : Nat) (htab : Pow10 B w) (hB : B ≤ w.heap.size) (C : LibCells w) (hl : l.length ≤ 2000000) :
    Calls Tryd.prog 9 #[strV l] w (ReadPost l w) := by
  have KT : ∀ n d t, textR n d = t → Hid (∀ W, Below w.heap.size w W → Calls Tryd.prog 8 #[.agg #[.int .i64 n, .int .i64 d]] W (Fresh (strV t) W)) :=
    fun n d t ht => Lib.hid fun W hb => ht ▸ implText_any n d W B (htab.on (hb.mono hB)) (Nat.le_trans hB hb.size)
  rcases slash_or l with h | ⟨a, b, rfl, h⟩
  · have K1 : Hid (∀ W, Below w.heap.size w W → Calls Tryd.prog 25 #[strV l, .string ⟨#[47]⟩] W (Drawn (.tuple #[strV l, strV [], .bool false]) W)) :=
      Lib.hid fun W hb => cut_of (lib_kept C hb) l l [] false (cut_no l h) hl
    by_cases hp : ∃ n, Lib.parseIntB 64 l = .ok n
    · obtain ⟨n, hp⟩ := hp
      have K2 := Lib.hid fun W => parse_ok l n W hp hl
      have no : ∀ m e, isR m e = true → textR m e = l → m = n ∧ e = 1 := fun m e v t => by
        obtain ⟨he, hm⟩ := text_plain h v t
        obtain ⟨b1, b2, _, _⟩ := isR_bd' m e v
        rw [hm, parse_itoa m (by omega) (by omega)] at hp
        injection hp with hp
        exact ⟨hp, he⟩
      rcases v : isR n 1 with _ | _
      · refine read_post (.inr ⟨rfl, rfl, rfl, fun m e vm t => ?_⟩) (implRead_onea l l [] n w K1 K2 (Lib.hid fun W => implIs_no n 1 W v))
        obtain ⟨rfl, rfl⟩ := no m e vm t
        rw [vm] at v; cases v
      · by_cases ht : textR n 1 = l
        · exact read_post (read_yes v ht) (implRead_oneb l l [] n w K1 K2 (Lib.hid fun W => implIs_yes n 1 W v) (KT n 1 l ht))
        · refine read_post (.inr ⟨rfl, rfl, rfl, fun m e vm t => ?_⟩) (implRead_onec l l [] _ n w K1 K2 (Lib.hid fun W => implIs_yes n 1 W v) (KT n 1 _ rfl) (beq_no ht))
          obtain ⟨rfl, rfl⟩ := no m e vm t
          exact ht t
    · refine read_post (.inr ⟨rfl, rfl, rfl, fun m e vm t => hp ?_⟩) (implRead_bad1 l l [] false w K1 (Lib.hid fun W hb => parse_bad (lib_kept C hb) l (fun n hn => hp ⟨n, hn⟩) hl))
      obtain ⟨_, hm⟩ := text_plain h vm t
      obtain ⟨b1, b2, _, _⟩ := isR_bd' m e vm
      exact ⟨m, by rw [hm, parse_itoa m (by omega) (by omega)]⟩
  · have la : a.length ≤ 2000000 := by simp at hl; omega
    have lb : b.length ≤ 2000000 := by simp at hl; omega
    have K1 : Hid (∀ W, Below w.heap.size w W → Calls Tryd.prog 25 #[strV (a ++ 47 :: b), .string ⟨#[47]⟩] W (Drawn (.tuple #[strV a, strV b, .bool true]) W)) :=
      Lib.hid fun W hb => cut_of (lib_kept C hb) _ a b true (cut_at a b h) hl
    have no : ∀ m e, isR m e = true → textR m e = a ++ 47 :: b → Lib.parseIntB 64 a = .ok m ∧ Lib.parseIntB 64 b = .ok e := fun m e v t => by
      obtain ⟨_, ha, hb⟩ := text_slash h v t
      obtain ⟨b1, b2, b3, b4⟩ := isR_bd' m e v
      rw [ha, hb]
      exact ⟨parse_itoa m (by omega) (by omega), parse_itoa e (by omega) (by omega)⟩
    by_cases hp : ∃ n, Lib.parseIntB 64 a = .ok n
    · obtain ⟨n, hp⟩ := hp
      have K2 := Lib.hid fun W => parse_ok a n W hp la
      by_cases hq : ∃ d, Lib.parseIntB 64 b = .ok d
      · obtain ⟨d, hq⟩ := hq
        have K5 := Lib.hid fun W => parse_ok b d W hq lb
        have no' : ∀ m e, isR m e = true → textR m e = a ++ 47 :: b → m = n ∧ e = d := fun m e v t => by
          obtain ⟨h1, h2⟩ := no m e v t
          rw [hp] at h1
          rw [hq] at h2
          injection h1 with h1
          injection h2 with h2
          exact ⟨h1.symm, h2.symm⟩
        rcases v : isR n d with _ | _
        · refine read_post (.inr ⟨rfl, rfl, rfl, fun m e vm t => ?_⟩) (implRead_twoa _ a b n d w K1 K2 K5 (Lib.hid fun W => implIs_no n d W v))
          obtain ⟨rfl, rfl⟩ := no' m e vm t
          rw [vm] at v; cases v
        · by_cases ht : textR n d = a ++ 47 :: b
          · exact read_post (read_yes v ht) (implRead_twob _ a b n d w K1 K2 K5 (Lib.hid fun W => implIs_yes n d W v) (KT n d _ ht))
          · refine read_post (.inr ⟨rfl, rfl, rfl, fun m e vm t => ?_⟩) (implRead_twoc _ a b _ n d w K1 K2 K5 (Lib.hid fun W => implIs_yes n d W v) (KT n d _ rfl) (beq_no ht))
            obtain ⟨rfl, rfl⟩ := no' m e vm t
            exact ht t
      · exact read_post (.inr ⟨rfl, rfl, rfl, fun m e vm t => hq ⟨e, (no m e vm t).2⟩⟩) (implRead_bad2 _ a b n w K1 K2 (Lib.hid fun W hb => parse_bad (lib_kept C hb) b (fun n hn => hq ⟨n, hn⟩) lb))
    · exact read_post (.inr ⟨rfl, rfl, rfl, fun m e vm t => hp ⟨m, (no m e vm t).1⟩⟩) (implRead_bad1 _ a b true w K1 (Lib.hid fun W hb => parse_bad (lib_kept C hb) a (fun n hn => hp ⟨n, hn⟩) la))
end Go.Proofs.YtohhjcnkbifdbaaDoor
