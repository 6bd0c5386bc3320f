/-
  l08DrawPart, DrawReadRange: a range text, drawn; DrawRangeText. (Written by gen_s9f.py.)
-/
import Derived.Test.YtlpkaflmhdgmmaaDrawRng
import Derived.Test.YtlpkaflmhdgmmaaDamage
import Derived.Test.YtlpkaflmhdgmmaaClsText
namespace Go.Proofs.Ytlpkaflmhdgmmaa
open Go.RowKit
set_option linter.unusedVariables false

theorem cat_ex (s t : ByteArray) (h : s.size + t.size ≤ 1000000) : ∃ r : ByteArray, r.size = s.size + t.size ∧ ∀ W, (Op.stringOp .add s t).run Try.prog W = .ok (.string r) W :=
  ⟨s ++ t, ByteArray.size_append, fun W => run_string_add W _ _ (by omega) (by omega)⟩
set_option maxRecDepth 100000 in
theorem conv1_at (w : World) (x : UInt8) (n : Nat) (hn : n = w.heap.size) : (convert 22 9 (.slice (some ⟨n, 0, none⟩) 1 1)).run Try.prog (w.alloc (.cells #[.int .u8 x.toNat] 5)) = .ok (strV [x]) (w.alloc (.cells #[.int .u8 x.toNat] 5)) := by
  subst hn
  exact conv_row _ _ [x] (fun i hi => match i, hi with
    | 0, _ => by simp [go_sem])
/-- The three kinds of groups that are drawn. -/
def knd (i : Nat) : ByteArray := ([⟨#[]⟩, ⟨#[115]⟩, ⟨#[111]⟩] : List ByteArray).getD i ByteArray.empty
theorem knd_size (i : Nat) : (knd i).size ≤ 1 := by
  match i with
  | 0 => exact Nat.zero_le _
  | 1 | 2 => exact Nat.le_refl _
  | i + 3 => exact Nat.zero_le _
def NextK (b : Nat) (w : World) (s : Nat) (a : Option Addr) (L c : Nat) (zs : Nat → Int) (e : Ending) (w' : World) : Prop :=
  ∃ i : Nat, e = .returned (.int .i64 i) ∧ i < 3 ∧ w'.cell? ⟨b, i, none⟩ = some (.string (knd i)) ∧ Src w' s a L c zs ∧ Only s w w'
theorem next_k (s : Nat) (a : Option Addr) (L c : Nat) (zs : Nat → Int) (w : World) (h : Src w s a L c zs) :
    Calls Try.prog 25 #[.pointer (some ⟨s, 0, none⟩), .int .i64 3] (w.alloc (.cells #[.string ⟨#[]⟩, .string ⟨#[115]⟩, .string ⟨#[111]⟩] 9)) (NextK w.heap.size (w.alloc (.cells #[.string ⟨#[]⟩, .string ⟨#[115]⟩, .string ⟨#[111]⟩] 9)) s a L c zs) := by
  refine (next_any s 3 a L c zs _ (by omega) (by omega) (src_alloc h _)).mono fun e w1 hh => ?_
  obtain ⟨x, he, x0, x1, hs1, ho1⟩ := hh
  obtain ⟨i, rfl⟩ := Int.eq_ofNat_of_zero_le x0
  have hi : i < 3 := by omega
  refine ⟨i, he, hi, ?_, hs1, ho1⟩
  refine (only_cell ho1 (by simp) (Nat.ne_of_gt (src_lt h))).trans ?_
  match i, hi with
  | 0, _ | 1, _ | 2, _ => simp [go_sem, knd]
set_option maxRecDepth 100000 in
set_option maxHeartbeats 4000000 in
theorem drawPart_any (s : Nat) (a : Option Addr) (L c : Nat) (zs : Nat → Int) (w : World) (h : Src w s a L c zs) :
    Calls Try.prog 24 #[.pointer (some ⟨s, 0, none⟩)] w (DrewS 8 w s a L c zs) := by
  have HS := Lib.hid h
  clear h
  go_enter Try.func24, Try.ntmps24
  go_wp2_with (first
    | (go_at_call 25; ((with_reducible refine (next_any _ 12 _ _ _ _ w (by omega) (by omega) HS.out).mono ?_); rintro e w1 ⟨x, rfl, x0, x1, hs1, ho1⟩; obtain ⟨p, rfl⟩ := Int.eq_ofNat_of_zero_le x0; have S1 := Lib.hid hs1; have O1 := Lib.hid ho1; clear hs1 ho1 x0))
    | (go_at_call 25; ((with_reducible refine (next_pos _ _ _ _ _ _ w1 (by omega) (by omega) S1.out).mono ?_); rintro e w2 ⟨y, rfl, y0, y1, hs2, ho2⟩; obtain ⟨q, rfl⟩ := Int.eq_ofNat_of_zero_le y0; have S2 := Lib.hid hs2; have O2 := Lib.hid (only_trans O1.out ho2); clear hs2 ho2 y0))
    | (go_at_call 25; ((with_reducible refine (next_pos _ _ _ _ _ _ w2 (by omega) (by omega) S2.out).mono ?_); rintro e w3 ⟨z, rfl, z0, z1, hs3, ho3⟩; obtain ⟨r, rfl⟩ := Int.eq_ofNat_of_zero_le z0; have S3 := Lib.hid hs3; have O3 := Lib.hid (only_trans O2.out ho3); clear hs3 ho3 z0)))
  have hr1 : (1 + (p : Int)) = ((p + 1 : Nat) : Int) := by omega
  have k1 := index_rk (p + 1) (by omega)
  have k2 := index_rk q (by omega)
  have k3 := index_rk r (by omega)
  clear x1 y1 z1
  generalize rankCh (p + 1) = h1 at *
  generalize rankCh q = h2 at *
  generalize rankCh r = h3 at *
  rw [← hr1] at k1
  clear hr1
  obtain ⟨A, ea⟩ : ∃ A : ByteArray, A = ⟨#[h1]⟩ := ⟨_, rfl⟩
  obtain ⟨B, eb⟩ : ∃ B : ByteArray, B = ⟨#[h2]⟩ := ⟨_, rfl⟩
  obtain ⟨D, ed⟩ : ∃ D : ByteArray, D = ⟨#[h3]⟩ := ⟨_, rfl⟩
  have za : A.size = 1 := by rw [ea]; rfl
  have zb : B.size = 1 := by rw [eb]; rfl
  have zd : D.size = 1 := by rw [ed]; rfl
  have cv1 : ∀ (w : World) (n : Nat), n = w.heap.size → (convert 22 9 (.slice (some ⟨n, 0, none⟩) 1 1)).run Try.prog (w.alloc (.cells #[.int .u8 h1.toNat] 5)) = .ok (.string A) (w.alloc (.cells #[.int .u8 h1.toNat] 5)) := fun w n hn => by rw [ea]; exact conv1_at w h1 n hn
  have cv2 : ∀ (w : World) (n : Nat), n = w.heap.size → (convert 22 9 (.slice (some ⟨n, 0, none⟩) 1 1)).run Try.prog (w.alloc (.cells #[.int .u8 h2.toNat] 5)) = .ok (.string B) (w.alloc (.cells #[.int .u8 h2.toNat] 5)) := fun w n hn => by rw [eb]; exact conv1_at w h2 n hn
  have cv3 : ∀ (w : World) (n : Nat), n = w.heap.size → (convert 22 9 (.slice (some ⟨n, 0, none⟩) 1 1)).run Try.prog (w.alloc (.cells #[.int .u8 h3.toNat] 5)) = .ok (.string D) (w.alloc (.cells #[.int .u8 h3.toNat] 5)) := fun w n hn => by rw [ed]; exact conv1_at w h3 n hn
  clear ea eb ed
  have zP : (⟨#[43]⟩ : ByteArray).size = 1 := rfl
  have zM : (⟨#[45]⟩ : ByteArray).size = 1 := rfl
  obtain ⟨taa, zaa, qaa⟩ := cat_ex A A (by omega)
  obtain ⟨tbb, zbb, qbb⟩ := cat_ex B B (by omega)
  obtain ⟨tbbp, zbbp, qbbp⟩ := cat_ex tbb ⟨#[43]⟩ (by omega)
  obtain ⟨tab, zab, qab⟩ := cat_ex A B (by omega)
  obtain ⟨taam, zaam, qaam⟩ := cat_ex taa ⟨#[45]⟩ (by omega)
  obtain ⟨taamb, zaamb, qaamb⟩ := cat_ex taam B (by omega)
  obtain ⟨taambb, zaambb, qaambb⟩ := cat_ex taamb B (by omega)
  go_wp2_with (first
    | (go_at_call 25; ((with_reducible refine (next_any _ 6 _ _ _ _ _ (by omega) (by omega) (src_alloc (src_alloc (src_alloc S4.out _) _) _)).mono ?_); rintro e w5 ⟨u, rfl, u0, u1, hs5, ho5⟩; have S5 := Lib.hid hs5; have O5 := Lib.hid (only_trans (only_alloc (only_alloc (only_alloc O4.out _) _) _) ho5); clear hs5 ho5))
    | (go_at_call 25; (refine (next_k _ _ _ _ _ w3 S3.out).mono ?_); rintro e w4 ⟨i, rfl, hi, hcell, hs4, ho4⟩; have hi3 : (i : Int) < 3 := (by omega); have HK := Lib.hid (knd_size i); generalize knd i = K at *; have S4 := Lib.hid hs4; have O4 := Lib.hid (only_trans (only_alloc O3.out _) ho4); clear hs4 ho4; have hk := HK.out; obtain ⟨tabk, zabk, qabk⟩ := cat_ex tab K (by omega); obtain ⟨tabkp, zabkp, qabkp⟩ := cat_ex tabk ⟨#[43]⟩ (by omega); obtain ⟨tabkm, zabkm, qabkm⟩ := cat_ex tabk ⟨#[45]⟩ (by omega); obtain ⟨tabkma, zabkma, qabkma⟩ := cat_ex tabkm A (by omega); obtain ⟨tabkmad, zabkmad, qabkmad⟩ := cat_ex tabkma D (by omega); obtain ⟨tabkmadk, zabkmadk, qabkmadk⟩ := cat_ex tabkmad K (by omega); have HZ : Hid (taa.size ≤ 8 ∧ tbbp.size ≤ 8 ∧ tabkp.size ≤ 8 ∧ taambb.size ≤ 8 ∧ tabkmadk.size ≤ 8 ∧ tabk.size ≤ 8) := Lib.hid (by omega); clear za zb zd zP zM hk zaa zbb zbbp zab zaam zaamb zaambb zabk zabkp zabkm zabkma zabkmad zabkmadk))
  all_goals
    go_ret
    exact ⟨_, rfl, by first | exact HZ.out.1 | exact HZ.out.2.1 | exact HZ.out.2.2.1 | exact HZ.out.2.2.2.1 | exact HZ.out.2.2.2.2.1 | exact HZ.out.2.2.2.2.2, S5.out, O5.out⟩
def strLen (v : Value) : Nat := match v with | .string s => s.size | _ => 0
theorem srcB_next {w w1 w2 : World} {s : Nat} {a : Option Addr} {L c : Nat} {zs : Nat → Int} (hb : Below w.heap.size w w1) (hs : w.heap.size ≤ s) (ho : Only s w1 w2) : Below w.heap.size w w2 := bl_trans' hb hs ho
set_option maxRecDepth 100000 in
set_option maxHeartbeats 4000000 in
theorem drawReadRange_any (a : Option Addr) (L c : Nat) (zs : Nat → Int) (w : World) (hL : L ≤ 4096) (hc : CodeIn w a L zs) :
    Calls Try.prog 9 #[.slice a L c] w fun e w' => ∃ r : ByteArray, e = .returned (.string r) ∧ r.size ≤ 900 ∧ Below w.heap.size w w' := by
  have K := Lib.hid (from_any a L c zs w hL hc)
  have z44 : Hid ((⟨#[44]⟩ : ByteArray).size = 1) := Lib.hid rfl
  have z3 : Hid ((⟨#[44, 65, 65]⟩ : ByteArray).size = 3) := Lib.hid rfl
  clear hc
  obtain ⟨w0, rfl⟩ : ∃ w0 : World, w0 = w := ⟨w, rfl⟩
  go_enter Try.func9, Try.ntmps9
  go_wp2_with (first
    | (go_at_call 18; refine K.out.mono ?_; rintro e w1 ⟨rfl, hs1, hb1⟩; have S1 := Lib.hid hs1; have B1 := Lib.hid hb1; clear hs1 hb1)
    | (go_at_call 24; ((with_reducible refine (drawPart_any _ _ _ _ _ w1 S1.out).mono ?_); rintro e w2 ⟨t, rfl, ht, hs2, ho2⟩; have S2 := Lib.hid hs2; have B2 := Lib.hid (bl_trans' B1.out (Nat.le_refl _) ho2); clear hs2 ho2))
    | (go_at_call 25; ((with_reducible refine (next_any _ 4 _ _ _ _ w2 (by omega) (by omega) S2.out).mono ?_); rintro e w3 ⟨x, rfl, x0, x1, hs3, ho3⟩; obtain ⟨n, rfl⟩ := Int.eq_ofNat_of_zero_le x0; have S3 := Lib.hid hs3; have B3 := Lib.hid (bl_trans' B2.out (Nat.le_refl _) ho3); clear hs3 ho3 x0)))
  go_loopw [4, 5] (fun v n wr => ∃ (q : Nat) (r : ByteArray), q ≤ 3 ∧ n = .int .i64 q ∧ v = .string r ∧ r.size + 9 * q ≤ 35 ∧ Hid (Src wr w0.heap.size a L c zs) ∧ Hid (Below w0.heap.size w0 wr)) (fun _ n _ => (intOf n).toNat)
  case atStart => exact ⟨n, t, by omega, rfl, rfl, by omega, S3, B3⟩
  case round =>
    obtain ⟨q, r, hq, rfl, rfl, hr, hs, hb⟩ := hrel
    by_cases hlt : 0 < q
    · have hgt : decide ((0 : Int) < (q : Int)) = true := decide_eq_true (by omega)
      obtain ⟨r1, zr1, qr1⟩ := cat_ex r ⟨#[44]⟩ (by have := z44.out; omega)
      have ZR := Lib.hid zr1
      clear zr1
      go_wp2_with (go_at_call 24; ((with_reducible refine (drawPart_any _ _ _ _ _ _ hs.out).mono ?_); rintro e w4 ⟨p, rfl, hp, hs4, ho4⟩; have S4 := Lib.hid hs4; have B4 := Lib.hid (bl_trans' hb.out (Nat.le_refl _) ho4); obtain ⟨r2, zr2, qr2⟩ := cat_ex r1 p (by have := z44.out; have := ZR.out; omega); have ZR2 := Lib.hid zr2; clear hs4 ho4 zr2))
      go_roundw
      case rel => exact ⟨q - 1, r2, by omega, by rw [show ((q - 1 : Nat) : Int) = (q : Int) - 1 by omega], rfl, by have := z44.out; have := ZR.out; have := ZR2.out; omega, S4, B4⟩
      case measure => simp [intOf]; omega
    · obtain rfl : q = 0 := by omega
      have ZX : Hid (r.size ≤ 35) := Lib.hid (by omega)
      clear hr
      go_wp2_with (go_at_call 25; ((with_reducible refine (next_any _ 60 _ _ _ _ _ (by omega) (by omega) hs.out).mono ?_); rintro e w5 ⟨y, rfl, y0, y1, hs5, ho5⟩; have S5 := Lib.hid hs5; have B5 := Lib.hid (bl_trans' hb.out (Nat.le_refl _) ho5); clear hs5 ho5))
      · go_loop [4] (fun v => ∃ r : ByteArray, v = .string r ∧ r.size ≤ 803) (fun v => 804 - strLen v)
        case atStart => exact ⟨r, rfl, by have := ZX.out; omega⟩
        case round =>
          obtain ⟨r0, rfl, hr0⟩ := hrel
          have ZY : Hid (r0.size ≤ 803) := Lib.hid hr0
          by_cases hle : r0.size ≤ 800
          · have hle' : (r0.size : Int) ≤ 800 := by omega
            obtain ⟨r8, zr8, qr8⟩ := cat_ex r0 ⟨#[44, 65, 65]⟩ (by have := z3.out; omega)
            have ZR8 := Lib.hid zr8
            clear zr8
            go_wp2_with fail
            go_round
            case rel => exact ⟨r8, rfl, by have := ZR8.out; have := z3.out; omega⟩
            case measure => show 804 - r8.size < 804 - r0.size; have := ZY.out; have := ZR8.out; have := z3.out; omega
          · have hle' : ¬ (r0.size : Int) ≤ 800 := by omega
            clear hle hr0
            go_wp2_with (first
              | (go_at_call 25; ((with_reducible refine (next_any _ 4 _ _ _ _ _ (by omega) (by omega) S5.out).mono ?_); rintro e w6 ⟨z, rfl, z0, z1, hs6, ho6⟩; have S6 := Lib.hid hs6; have B6 := Lib.hid (bl_trans' B5.out (Nat.le_refl _) ho6); clear hs6 ho6))
              | (go_at_call 26; ((with_reducible refine (damage_any _ _ _ _ _ _ _ (by have := ZY.out; omega) S6.out).mono ?_); rintro e w7 ⟨r7, rfl, hr7, hs7, ho7⟩; have B7 := Lib.hid (bl_trans' B6.out (Nat.le_refl _) ho7); clear hs7 ho7)))
            · go_ret
              exact ⟨r7, rfl, by have := ZY.out; omega, B7.out⟩
            · go_ret
              exact ⟨_, rfl, by have := ZY.out; omega, B6.out⟩
      · skip
        go_wp2_with (first
          | (go_at_call 25; ((with_reducible refine (next_any _ 4 _ _ _ _ _ (by omega) (by omega) S5.out).mono ?_); rintro e w6 ⟨z, rfl, z0, z1, hs6, ho6⟩; have S6 := Lib.hid hs6; have B6 := Lib.hid (bl_trans' B5.out (Nat.le_refl _) ho6); clear hs6 ho6))
          | (go_at_call 26; ((with_reducible refine (damage_any _ _ _ _ _ _ _ (by have := ZX.out; omega) S6.out).mono ?_); rintro e w7 ⟨r7, rfl, hr7, hs7, ho7⟩; have B7 := Lib.hid (bl_trans' B6.out (Nat.le_refl _) ho7); clear hs7 ho7)))
        · go_ret
          exact ⟨r7, rfl, by have := ZX.out; omega, B7.out⟩
        · go_ret
          exact ⟨_, rfl, by have := ZX.out; omega, B6.out⟩
set_option maxRecDepth 100000 in
set_option maxHeartbeats 4000000 in
theorem drawRangeText_any (a : Option Addr) (L c : Nat) (zs : Nat → Int) (w : World) (hL : L ≤ 4096) (hc : CodeIn w a L zs) :
    Calls Try.prog 6 #[.slice a L c] w (DrawnL 170 w) := by
  have KF := Lib.hid (from_any a L c zs w hL hc)
  clear hc
  go_enter Try.func6, Try.ntmps6
  go_wp2_with (first
    | (go_at_call 18; refine (KF.out).mono ?_; rintro e w1 ⟨rfl, hs1, hb1⟩; have KD := Lib.hid (l08Draw_any _ _ _ _ _ _ hs1); have B1 := Lib.hid hb1; clear hs1 hb1)
    | (go_at_call 17; refine (KD.out).mono ?_; rintro e w2 hd; have D2 := Lib.hid hd; obtain ⟨xs, A2, c2, rfl, _⟩ := hd))
  go_ret
  exact drawnL_of B1.out (Nat.le_refl _) D2.out
end Go.Proofs.Ytlpkaflmhdgmmaa
