/-
  The card of the law FnRatioText: it returns true for every code, and leaves it as it was: a ratio is recovered from its text, and reduced by the greatest divisor.
  Condition: the library's variables read as the program's text lays them (the card ties them).
-/
import Derived.Test.YtohhjcnkbifdbaaDoorLibLaid
import Derived.Test.YtohhjcnkbifdbaaDoorReadSpec
import Derived.Test.YtohhjcnkbifdbaaDoorDrawText
import Derived.Test.YtohhjcnkbifdbaaDoorGd
import Derived.Test.YtohhjcnkbifdbaaDoorCode
import Derived.Test.YtohhjcnkbifdbaaDoorCards
import Derived.SevenTiedAt
namespace Go.Proofs.YtohhjcnkbifdbaaDoor
open Go.ChangeShapes Go.WideShapes Go.ChangeAt Go.RowKit
set_option linter.unusedVariables false

theorem rat_eq (N D : Int) (hD : 0 < D) (h : (rat N D).2.2 = 0) : isR (rat N D).1 (rat N D).2.1 = true ∧ (rat N D).1 * D = N * (rat N D).2.1 := by
  rcases hok : ratOk N D with _ | _
  · rw [rat_no N D hok] at h; simp at h
  · rw [rat_yes N D hok]
    refine ⟨hok, ?_⟩
    have h1 := ratN_mul N D hD
    have h2 := ratD_mul N D hD
    show ratN N D * D = N * ratD N D
    calc ratN N D * D = ratN N D * (ratD N D * gcdI (absI N) D) := by rw [h2]
      _ = ratN N D * gcdI (absI N) D * ratD N D := by rw [Int.mul_comm (ratD N D), ← Int.mul_assoc]
      _ = N * ratD N D := by rw [h1]
theorem mk_eq (x y : Int) (h : (mkR x y).2.2 = 0) : isR (mkR x y).1 (mkR x y).2.1 = true ∧ (mkR x y).1 * y = x * (mkR x y).2.1 := by
  rcases in_or_out x (-1000000000) 1000000000 with ⟨h1, h2⟩ | h'
  · rcases in_or_out y 1 1000000000 with ⟨h3, h4⟩ | h'
    · rw [← mkR_yes x y h1 h2 h3 h4] at h ⊢; exact rat_eq x y (by omega) h
    · rw [mkR_den x y h'] at h; simp at h
  · rw [mkR_num x y h'] at h; simp at h
theorem read_ex (l : List UInt8) : ∃ n d ok, Read l n d ok := by
  by_cases h : ∃ n d, isR n d = true ∧ textR n d = l
  · obtain ⟨n, d, v, t⟩ := h
    exact ⟨n, d, true, read_yes v t⟩
  · exact ⟨0, 0, false, .inr ⟨rfl, rfl, rfl, fun m e v t => h ⟨m, e, v, t⟩⟩⟩
theorem read_known {l : List UInt8} {n d : Int} {ok : Bool} {f : FuncId} {args : Array Value} {W : World} (r : Read l n d ok) (h : Calls Tryd.prog f args W (ReadPost l W)) : Calls Tryd.prog f args W (Fresh (rdV n d ok) W) :=
  h.mono fun _ _ ⟨n', d', ok', r', he, hb⟩ => by
    obtain ⟨rfl, rfl, rfl⟩ := read_same r' r
    exact ⟨he, hb⟩
/-- What is read out of the text of a ratio: the ratio, or nothing where it is not valid. -/
def backR (n d : Int) : Int × Int × Bool := if isR n d then (n, d, true) else (0, 0, false)
theorem back_read (n d : Int) : Read (textR n d) (backR n d).1 (backR n d).2.1 (backR n d).2.2 := by
  unfold backR
  rcases v : isR n d with _ | _
  · rw [textR_no n d v]
    exact .inr ⟨rfl, rfl, rfl, fun m e vm t => textR_ne m e vm t⟩
  · exact read_yes v rfl
theorem prod_in (a b : Int) (ha : -1000000001 ≤ a ∧ a ≤ 1000000001) (hb : -1000000001 ≤ b ∧ b ≤ 1000000001) : IntKind.i64.wrap (a * b) = a * b := by
  have := prod_bd a b 1000000001 1000000001 ha.1 ha.2 hb.1 hb.2
  exact IntWalk.i64_in _ (by omega)

set_option maxRecDepth 100000 in
set_option maxHeartbeats 4000000 in
theorem walkText (a : Option Addr) (L c : Nat) (zs : Nat → Int) (w : World) (hL : L ≤ 4096) (hc : CodeIn w a L zs) (htab : Hid (Pow10 w.heap.size w)) (C : Hid (LibCells w)) :
    Calls Tryd.prog 3 #[.slice a L c] w (Fresh (.bool true) w) := by
  have HC := Lib.hid hc
  clear hc
  have KR : Hid (∀ (l : List UInt8) (n d : Int) (ok : Bool), l.length ≤ 2000000 → Read l n d ok → ∀ W, Below w.heap.size w W → Calls Tryd.prog 9 #[strV l] W (Fresh (rdV n d ok) W)) :=
    Lib.hid (fun l n d ok hl r W hb => read_known r (implRead_any l W w.heap.size (htab.out.on hb) hb.size (lib_kept C.out hb) hl))
  have KI : Hid (∀ (n d : Int) W, Below w.heap.size w W → Calls Tryd.prog 8 #[.agg #[.int .i64 n, .int .i64 d]] W (Fresh (strV (textR n d)) W)) :=
    Lib.hid (fun n d W hb => implText_any n d W w.heap.size (htab.out.on hb) hb.size)
  clear htab C
  go_enter Tryd.func3, Tryd.ntmps3
  go_wp2_with (go_at_call 6; refine (big_no a L c _ hL).mono ?_; rintro e w0 ⟨rfl, rfl⟩)
  go_wp2_with (go_at_call 7; refine (drawText_any a L c zs _ hL HC.out).mono ?_; rintro e w1 ⟨n, d, rfl, bn, bd, hb1⟩; have HB1 := Lib.hid (bl_alloc hb1 (.cells #[.int .i64 n, .int .i64 d] 25)); have HA1 := Lib.hid (ratAt_new w1 n d 25))
  clear bn bd
  have J : ∃ (t : List UInt8) (p q : Int) (b : Bool), Hid (∀ W, Below w.heap.size w W → Calls Tryd.prog 8 #[.agg #[.int .i64 n, .int .i64 d]] W (Fresh (strV t) W)) ∧ Hid (∀ W, Calls Tryd.prog 18 #[.agg #[.int .i64 n, .int .i64 d]] W (Fresh (strV t) W)) ∧ Hid (∀ W, Below w.heap.size w W → Calls Tryd.prog 9 #[strV t] W (Fresh (rdV p q b) W)) ∧ ((b = true ∧ p = n ∧ q = d ∧ (t == []) = false) ∨ (b = false ∧ (t == []) = true)) := by
    refine ⟨textR n d, (backR n d).1, (backR n d).2.1, (backR n d).2.2, Lib.hid (KI.out n d), Lib.hid (specText_any n d), Lib.hid (KR.out _ _ _ _ (by have := textR_len n d; omega) (back_read n d)), ?_⟩
    unfold backR
    rcases v : isR n d with _ | _
    · exact .inr ⟨rfl, by rw [textR_no n d v]; rfl⟩
    · exact .inl ⟨rfl, rfl, rfl, by have := textR_ne n d v; simpa using this⟩
  obtain ⟨t, p, q, b, hK1, hK2, hK3, ⟨rfl, hp, hq, ht⟩ | ⟨rfl, ht⟩⟩ := J
  all_goals try (subst hp hq)
  all_goals
    go_wp2_with (go_at_call 8; refine (hK1.out _ HB1.out).mono ?_; rintro e w2 ⟨rfl, hb2⟩; have HB2 := Lib.hid (bl_trans HB1.out hb2); have HA2 := Lib.hid (ratAt_below HA1.out hb2))
    clear HB1 HA1 hb2
    go_wp2_with (go_at_call 9; refine (hK3.out _ HB2.out).mono ?_; rintro e w3 ⟨rfl, hb3⟩; have HB3 := Lib.hid (bl_alloc (bl_trans HB2.out hb3) (.cells #[.int .i64 p, .int .i64 q] 25)); have HA3 := Lib.hid (ratAt_alloc (ratAt_below HA2.out hb3) (.cells #[.int .i64 p, .int .i64 q] 25)); have HX3 := Lib.hid (ratAt_new w3 p q 25))
    clear HB2 HA2 hb3
    go_wp2_with (go_at_call 10; refine (drawRead_any a L c zs _ hL (codeIn_below HC.out HB3.out)).mono ?_; rintro e w4 ⟨r, rfl, hr, hb4⟩; have HB4 := Lib.hid (bl_trans HB3.out hb4); have HA4 := Lib.hid (ratAt_below HA3.out hb4); have HX4 := Lib.hid (ratAt_below HX3.out hb4))
    clear HB3 HA3 HX3 hb4
    obtain ⟨y1, y2, y3, hy⟩ := read_ex r.data.toList
    have hK4 : Hid (∀ W, Below w.heap.size w W → Calls Tryd.prog 9 #[.string r] W (Fresh (rdV y1 y2 y3) W)) := Lib.hid (KR.out r.data.toList _ _ _ (by show r.size ≤ _; omega) hy)
    have hK5 : Hid (∀ W, Calls Tryd.prog 11 #[.string r] W (Fresh (rdV y1 y2 y3) W)) := Lib.hid (fun W => read_known hy (specRead_any r.data.toList W (by show r.size ≤ _; omega)))
    clear hy hr
    go_wp2_with (go_at_call 9; refine (hK4.out _ HB4.out).mono ?_; rintro e w5 ⟨rfl, hb5⟩; have HB5 := Lib.hid (bl_alloc (bl_trans HB4.out hb5) (.cells #[.int .i64 y1, .int .i64 y2] 25)); have HA5 := Lib.hid (ratAt_alloc (ratAt_below HA4.out hb5) (.cells #[.int .i64 y1, .int .i64 y2] 25)); have HX5 := Lib.hid (ratAt_alloc (ratAt_below HX4.out hb5) (.cells #[.int .i64 y1, .int .i64 y2] 25)); have HY5 := Lib.hid (ratAt_new w5 y1 y2 25))
    clear HB4 HA4 HX4 hb5
    go_wp2_with (go_at_call 11; refine (hK5.out _).mono ?_; rintro e w6 ⟨rfl, hb6⟩; have HB6 := Lib.hid (bl_alloc (bl_trans HB5.out hb6) (.cells #[.int .i64 y1, .int .i64 y2] 25)); have HA6 := Lib.hid (ratAt_alloc (ratAt_below HA5.out hb6) (.cells #[.int .i64 y1, .int .i64 y2] 25)); have HX6 := Lib.hid (ratAt_alloc (ratAt_below HX5.out hb6) (.cells #[.int .i64 y1, .int .i64 y2] 25)); have HY6 := Lib.hid (ratAt_alloc (ratAt_below HY5.out hb6) (.cells #[.int .i64 y1, .int .i64 y2] 25)); have HZ6 := Lib.hid (ratAt_new w6 y1 y2 25))
    clear HB5 HA5 HX5 HY5 hb6
    go_wp2_with (go_at_call 12; refine (drawMk_any a L c zs _ hL (codeIn_below HC.out HB6.out)).mono ?_; rintro e w7 ⟨x, y, rfl, bx, by', hb7⟩; have HB7 := Lib.hid (bl_trans HB6.out hb7); have HA7 := Lib.hid (ratAt_below HA6.out hb7); have HX7 := Lib.hid (ratAt_below HX6.out hb7); have HY7 := Lib.hid (ratAt_below HY6.out hb7); have HZ7 := Lib.hid (ratAt_below HZ6.out hb7))
    clear HB6 HA6 HX6 HY6 HZ6 hb7
    obtain ⟨T, hT⟩ : ∃ T, T = mkR x y := ⟨_, rfl⟩
    have hK6 : Hid (∀ W, Calls Tryd.prog 13 #[.int .i64 x, .int .i64 y] W (Fresh (tripV T) W)) := Lib.hid (fun W => hT ▸ implMk_any x y W)
    have hK7 : Hid (∀ W, Calls Tryd.prog 14 #[.int .i64 x, .int .i64 y] W (Fresh (tripV T) W)) := Lib.hid (fun W => hT ▸ specMk_any x y W)
    have HT := Lib.hid hT
    clear hT
    have HXY := Lib.hid (And.intro bx by')
    clear bx by'
    go_wp2_with (go_at_call 13; refine (hK6.out _).mono ?_; rintro e w8 ⟨rfl, hb8⟩; have HB8 := Lib.hid (bl_alloc (bl_trans HB7.out hb8) (.cells #[.int .i64 T.1, .int .i64 T.2.1] 25)); have HA8 := Lib.hid (ratAt_alloc (ratAt_below HA7.out hb8) (.cells #[.int .i64 T.1, .int .i64 T.2.1] 25)); have HX8 := Lib.hid (ratAt_alloc (ratAt_below HX7.out hb8) (.cells #[.int .i64 T.1, .int .i64 T.2.1] 25)); have HY8 := Lib.hid (ratAt_alloc (ratAt_below HY7.out hb8) (.cells #[.int .i64 T.1, .int .i64 T.2.1] 25)); have HZ8 := Lib.hid (ratAt_alloc (ratAt_below HZ7.out hb8) (.cells #[.int .i64 T.1, .int .i64 T.2.1] 25)); have HR8 := Lib.hid (ratAt_new w8 T.1 T.2.1 25))
    clear HB7 HA7 HX7 HY7 HZ7 hb8
    go_wp2_with (go_at_call 14; refine (hK7.out _).mono ?_; rintro e w9 ⟨rfl, hb9⟩; have HB9 := Lib.hid (bl_alloc (bl_trans HB8.out hb9) (.cells #[.int .i64 T.1, .int .i64 T.2.1] 25)); have HA9 := Lib.hid (ratAt_alloc (ratAt_below HA8.out hb9) (.cells #[.int .i64 T.1, .int .i64 T.2.1] 25)); have HX9 := Lib.hid (ratAt_alloc (ratAt_below HX8.out hb9) (.cells #[.int .i64 T.1, .int .i64 T.2.1] 25)); have HY9 := Lib.hid (ratAt_alloc (ratAt_below HY8.out hb9) (.cells #[.int .i64 T.1, .int .i64 T.2.1] 25)); have HZ9 := Lib.hid (ratAt_alloc (ratAt_below HZ8.out hb9) (.cells #[.int .i64 T.1, .int .i64 T.2.1] 25)); have HR9 := Lib.hid (ratAt_alloc (ratAt_below HR8.out hb9) (.cells #[.int .i64 T.1, .int .i64 T.2.1] 25)); have HM9 := Lib.hid (ratAt_new w9 T.1 T.2.1 25))
    clear HB8 HA8 HX8 HY8 HZ8 HR8 hb9
    go_wp2_with (go_at_call 15; refine (drawGd_any a L c zs _ hL (codeIn_below HC.out HB9.out)).mono ?_; rintro e w10 ⟨u, v, rfl, hb10⟩; have HB10 := Lib.hid (bl_trans HB9.out hb10); have HA10 := Lib.hid (ratAt_below HA9.out hb10); have HX10 := Lib.hid (ratAt_below HX9.out hb10); have HY10 := Lib.hid (ratAt_below HY9.out hb10); have HZ10 := Lib.hid (ratAt_below HZ9.out hb10); have HR10 := Lib.hid (ratAt_below HR9.out hb10); have HM10 := Lib.hid (ratAt_below HM9.out hb10))
    clear HB9 HA9 HX9 HY9 HZ9 HR9 HM9 hb10
    have hK8 : Hid (∀ W, Calls Tryd.prog 16 #[.int .i64 u, .int .i64 v] W (Fresh (pairV (gdR u v).1 (gdR u v).2) W)) := Lib.hid (fun W => implGd_any u v W)
    have hK9 : Hid (∀ W, Calls Tryd.prog 17 #[.int .i64 u, .int .i64 v] W (Fresh (pairV (gdR u v).1 (gdR u v).2) W)) := Lib.hid (fun W => specGd_any u v W)
    generalize (gdR u v).1 = g1 at hK8 hK9
    generalize (gdR u v).2 = g2 at hK8 hK9
    go_wp2_with (go_at_call 16; refine (hK8.out _).mono ?_; rintro e w11 ⟨rfl, hb11⟩; have HB11 := Lib.hid (bl_trans HB10.out hb11); have HA11 := Lib.hid (ratAt_below HA10.out hb11); have HX11 := Lib.hid (ratAt_below HX10.out hb11); have HY11 := Lib.hid (ratAt_below HY10.out hb11); have HZ11 := Lib.hid (ratAt_below HZ10.out hb11); have HR11 := Lib.hid (ratAt_below HR10.out hb11); have HM11 := Lib.hid (ratAt_below HM10.out hb11))
    clear HB10 HA10 HX10 HY10 HZ10 HR10 HM10 hb11
    go_wp2_with (go_at_call 17; refine (hK9.out _).mono ?_; rintro e w12 ⟨rfl, hb12⟩; have HB12 := Lib.hid (bl_trans HB11.out hb12); have HX12 := Lib.hid (ratAt_below HX11.out hb12); have HY12 := Lib.hid (ratAt_below HY11.out hb12); have HZ12 := Lib.hid (ratAt_below HZ11.out hb12); have HR12 := Lib.hid (ratAt_below HR11.out hb12); have HM12 := Lib.hid (ratAt_below HM11.out hb12); have HA12 := Lib.hid (ratAt_below HA11.out hb12); obtain ⟨A0, A1⟩ := ratAt_below HA11.out hb12)
    clear HB11 HA11 HX11 HY11 HZ11 HR11 HM11 hb12
    go_wp2_with (go_at_call 18; refine (hK2.out _).mono ?_; rintro e w13 ⟨rfl, hb13⟩; have HB13 := Lib.hid (bl_trans HB12.out hb13); obtain ⟨A2, A3⟩ := ratAt_below HA12.out hb13; obtain ⟨X0, X1⟩ := ratAt_below HX12.out hb13; obtain ⟨Y0, Y1⟩ := ratAt_below HY12.out hb13; obtain ⟨Z0, Z1⟩ := ratAt_below HZ12.out hb13; obtain ⟨R0, R1⟩ := ratAt_below HR12.out hb13; obtain ⟨M0, M1⟩ := ratAt_below HM12.out hb13)
    · have h0 : T.2.2 = 0 := by assumption
      have hv : isR T.1 T.2.1 = true := by have := HT.out; subst this; exact (mk_eq x y h0).1
      go_wp2_with (go_at_call 19; refine (implIs_yes _ _ _ hv).mono ?_; rintro e w14 ⟨rfl, hb14⟩)
      go_ret
      exact ⟨rfl, bl_trans HB13.out hb14⟩
    · exfalso
      have h0 : T.2.2 = 0 := by assumption
      have hw : ¬ wrap64 (T.1 * y) = wrap64 (x * T.2.1) := by assumption
      have := HT.out
      subst this
      exact hw (by rw [(mk_eq x y h0).2])
    · go_ret
      exact ⟨rfl, HB13.out⟩

set_option maxHeartbeats 400000 in
theorem walkText_big (a : Option Addr) (L c : Nat) (w : World) (h : 4096 < L) (hm : (L : Int) ≤ 9223372036854775807) :
    Calls Tryd.prog 3 #[.slice a L c] w (Fresh (.bool true) w) := by
  go_enter Tryd.func3, Tryd.ntmps3
  go_wp2_with (go_at_call 6; refine (big_yes a L c _ h hm).mono ?_; rintro e w0 ⟨rfl, rfl⟩)
  go_ret
  exact ⟨rfl, bl_refl _⟩

theorem door_met (os : Os) (args : Array Value) : laidMetH Tryd.prog Rows.fnRatioTextRow.laid ((World.doorLaid Tryd.prog 400 os).forCall (fun _ _ => 0) ⟨#[], args, []⟩).memory :=
  laidMetH_of_parts3 (fuel := 8) (laidMet_of_run' 8 (by kernel_rfl) (by kernel_rfl)) (by kernel_rfl) (by kernel_rfl)

set_option maxRecDepth 100000 in
theorem text_lifted (os : Os) (started : os.Started) (H : Type) (enc : TypeId × Value → H) :
    ReturnsInHanded {} Tryd.checked os 3 .any (fun w args => (Rows.fnRatioTextSpec.pre enc Tryd.prog Tryd.f3 [] false w args ∧ laidMetH Tryd.prog Rows.fnRatioTextRow.laid w) ∧ sizedMet enc Tryd.prog Tryd.f3 (OpenSpec.ofChange Rows.fnRatioTextSpec) false w args)
      (Rows.fnRatioTextSpec.post enc Tryd.prog Tryd.f3 false true false false) := by
  refine law_lifted_laid started (by kernel_rfl) Tryd.func3 (by kernel_rfl) rfl (fun ds h => ?_) ?_
    (ChangeSpec.witness_shaped (enc := enc) (C := Tryd.checked) (os := os) (X := fun w _ => laidMetH Tryd.prog Rows.fnRatioTextRow.laid w) false (World.doorLaid Tryd.prog 400 os) #[.slice none 0 0] 8 rfl (World.shaped_of_RefB (by kernel_rfl) (by kernel_rfl)) (by kernel_rfl) (by kernel_rfl) (by kernel_rfl) (door_met os _)) ?_
  · match ds, h with
    | [d], _ => rfl
  · rw [Tryd.params3]
    intro t ht
    obtain rfl : t = 22 := by simpa using ht
    exact ⟨by kernel_rfl, of_decide_eq_true (by kernel_rfl)⟩
  · intro W base args ds ps hval hA hL hSh
    rw [Tryd.params3] at hA hval
    obtain ⟨v0, d0, rfl, rfl, h0⟩ := trodAll_one hA
    obtain ⟨a, L, c, zs, rfl, hm, hc⟩ := open_code (hval 0 22 v0 rfl rfl) h0
    rw [MakeChecks.laidMetH_plain _ _ _ (by kernel_rfl)] at hL
    by_cases hLn : L ≤ 4096
    · exact walkText a L c zs W hLn hc (Lib.hid (pow10_of hL)) (Lib.hid (lib_of hL hSh))
    · exact walkText_big a L c W (by omega) (by unfold maxLen at hm; omega)

theorem text_holds : Rows.FnRatioTextSaid :=
  OpenClaim.holds_of_wide 3 Tryd.f3 rfl rfl rfl rfl rfl rfl rfl ⟨rfl, rfl, rfl, rfl, rfl⟩ rfl rfl rfl rfl rfl (by kernel_rfl) Tryd.func3 (by kernel_rfl)
    (of_decide_eq_true (by kernel_rfl)) (by unfold Func.isWrapper; first | (rw [if_pos (by decide +kernel)]; kernel_rfl) | (rw [if_neg (by decide +kernel)]; exact ⟨rfl, rfl⟩))
    (fun os started H enc _ => text_lifted os started H enc)

/-- The tied card: a ratio is recovered from its text, for every code. -/
theorem text_card : Rows.FnRatioTextCardSaid :=
  Claim7.holds_tied_plain_at .later [] [.data, .data, .data, .sentinel, .sentinel] true (true, "bbb80da66b5700419a9d0ecc12b23ea58a5d7980060c533bad0d331ebd56c40e") true
    text_holds (fun _ h => by cases h) (by kernel_rfl) (fun _ h => by cases h) fnRatioText_row_tie rfl ⟨rfl, rfl⟩ (by kernel_rfl) rfl
    (fun f fn hf hfn => by
      obtain rfl : f = 3 := Option.some.inj ((show Tryd.prog.funcNamed "loop.example/g00910/laws.FnRatioText" = some 3 by kernel_rfl).symm.trans hf) |>.symm
      obtain rfl : fn = Tryd.f3 := (Option.some.inj (Tryd.func3.symm.trans hfn)).symm
      exact ⟨by kernel_rfl, fun j t ht => by
        rw [Tryd.params3] at ht
        have hm : t ∈ [22] := by simpa using Array.mem_of_getElem? ht
        have hall : ([22].all fun u => !Tryd.prog.wantsStandIn u) = true := by kernel_rfl
        exact (show Tryd.prog.wantsStandIn t = false by simpa using List.all_eq_true.1 hall t hm)⟩)
    (by kernel_rfl)

end Go.Proofs.YtohhjcnkbifdbaaDoor
