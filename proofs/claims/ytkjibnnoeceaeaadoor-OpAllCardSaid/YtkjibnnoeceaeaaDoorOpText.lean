/- op.hex, octet, word, indexed, pair, pushed, register, target, loadText: their contracts. -/
import Derived.Test.YtkjibnnoeceaeaaDoorOpMem
import Derived.Test.YtkjibnnoeceaeaaDoorQuiet
import Derived.Deep.QuietTactic
import Derived.BigQuiet
import Derived.Deep.RegionHeld3
namespace Go.Proofs.YtkjibnnoeceaeaaDoor
open Go.RowKit

theorem balloc (w : World) (o : Obj) : Below w.heap.size w (w.alloc o) := (Below.refl _ _).alloc (Nat.le_refl _) _
/-- What lies in a box of the call's own, later. -/
theorem box_at {w w1 : World} {cs : Array Value} {t : TypeId} (hb : Below (w.alloc (.cells cs t)).heap.size (w.alloc (.cells cs t)) w1) (j : Nat) (v : Value) (hv : cs[j]? = some v) : w1.cell? ⟨w.heap.size, j, none⟩ = some v := by
  rw [hb.cell (p := ⟨w.heap.size, j, none⟩) (by simp), cell_of_row _ _ j cs t (0, 0) (heap_alloc_new _ _), hv]
theorem strL_lit (a : Array UInt8) : (⟨a⟩ : ByteArray) = strL a.toList := by simp [strL]

set_option maxHeartbeats 800000 in
theorem hex_core (T R Z : ByteArray) (d n k : Nat) (w : World) (hF : ∀ w, Tab w → Calls Tryd.prog 72 #[.int .u64 n, .int .i64 16] w fun e w' => e = .returned (.string T) ∧ Below w.heap.size w w')
    (hR : ∀ w, Calls Tryd.prog 73 #[.string ⟨#[48]⟩, .int .i64 ((d : Int) - (k : Int))] w fun e w' => e = .returned (.string R) ∧ Below w.heap.size w w')
    (h : Tab w) (hr : R.size ≤ 10) (ht : T.size = k) (hk : k ≤ 4) (hd : d ≤ 4) (hn : n < 65536) (hz : ⟨#[36]⟩ ++ R ++ T = Z) :
    Calls Tryd.prog 68 #[.int .u16 n, .int .i64 d] w fun e w' => e = .returned (.string Z) ∧ Below w.heap.size w w' := by
  have HF := Lib.hid hF
  have HR := Lib.hid hR
  have H := Lib.hid h
  have HZ := Lib.hid hz
  clear hF hR h hz
  go_enter Tryd.func68, Tryd.ntmps68
  go_wp2_with fail
  refine (HF.out _ H.out).mono ?_
  rintro e w1 ⟨rfl, hb1⟩
  go_wp2_with fail
  refine (HR.out _).mono ?_
  rintro e w2 ⟨rfl, hb2⟩
  have HB := Lib.hid (below_step hb1 hb2)
  clear hb1 hb2
  go_wp2_with fail
  go_ret
  exact ⟨by rw [← HZ.out]; rfl, HB.out⟩
theorem hex_any (d n : Nat) (w : World) (h : Tab w) (d1 : 1 ≤ d) (hd : d ≤ 4) (hn : n < 16 ^ d) (hn6 : n < 65536) :
    Calls Tryd.prog 68 #[.int .u16 n, .int .i64 d] w fun e w' => e = .returned (.string (strL (36 :: hexN d n))) ∧ Below w.heap.size w w' := by
  obtain ⟨k, k1, k4, hk, hc⟩ := digits_of n hn6
  have hkd : k ≤ d := by
    have e : d = 1 ∨ d = 2 ∨ d = 3 ∨ d = 4 := by omega
    clear hk
    rcases e with rfl | rfl | rfl | rfl
    all_goals omega
  refine hex_core (strL (hexN k n)) (strL (List.replicate (d - k) 48)) _ d n k w (fun w h => fmtU n k w h hn6 hc) (fun w => fill_is k d w hkd hd) h (by rw [strL_size, List.length_replicate]; omega) (by rw [strL_size, hexN_len]) k4 hd hn6 ?_
  show strL [36] ++ _ ++ _ = _
  rw [strL_app, strL_app]
  have := hexN_pad (d - k) k n hk
  rw [show d - k + k = d by omega] at this
  rw [this]
  simp
theorem hex_is (m : Int) (d n : Nat) (w : World) (h : Tab w) (d1 : 1 ≤ d) (hd : d ≤ 4) (hn : n < 16 ^ d) (hn6 : n < 65536) (hm : m = (n : Int)) :
    Calls Tryd.prog 68 #[.int .u16 m, .int .i64 d] w fun e w' => e = .returned (.string (strL (36 :: hexN d n))) ∧ Below w.heap.size w w' := by
  subst hm; exact hex_any d n w h d1 hd hn hn6

set_option maxHeartbeats 400000 in
theorem opOct (n : Nat) (w : World) (h : OpTab w) : Calls Tryd.prog 59 #[.int .u16 n] w fun e w' => e = .returned (.string (strL (octL n))) ∧ Below w.heap.size w w' := by
  have H := Lib.hid h
  clear h
  have wr : IntKind.u16.wrap ((n : Int) % 256) = (n : Int) % 256 := by simp [IntKind.wrap, IntKind.bits, IntKind.signed]; omega
  have HX := Lib.hid (fun w h => hex_is ((n : Int) % 256) 2 (n % 256) w h (by decide) (by decide) (by omega) (by omega) (by omega))
  go_enter Tryd.func59, Tryd.ntmps59
  go_wp2_with fail
  refine (loO _ _).mono ?_
  rintro e w' ⟨rfl, rfl⟩
  go_wp2_with fail
  refine (HX.out _ H.out.hex).mono ?_
  rintro e w1 ⟨rfl, hb1⟩
  go_wp2_with fail
  go_ret
  exact ⟨rfl, hb1⟩
set_option maxHeartbeats 400000 in
theorem opWord (n : Nat) (w : World) (h : OpTab w) (hn : n < 65536) : Calls Tryd.prog 57 #[.int .u16 n] w fun e w' => e = .returned (.string (strL (wordL n))) ∧ Below w.heap.size w w' := by
  have H := Lib.hid h
  clear h
  go_enter Tryd.func57, Tryd.ntmps57
  go_wp2_with fail
  refine (hex_is _ 4 n _ H.out.hex (by decide) (by decide) (by omega) (by omega) rfl).mono ?_
  rintro e w1 ⟨rfl, hb1⟩
  go_wp2_with fail
  go_ret
  exact ⟨rfl, hb1⟩

theorem opItoa (n : Int) (s : List UInt8) (w : World) (h : OpTab w) (h0 : -9223372036854775808 ≤ n) (h1 : n ≤ 9223372036854775807) (hs : Lib.itoa n = s) :
    Calls Tryd.prog 43 #[.int .i64 n] w fun e w' => e = .returned (.string (strL s)) ∧ Below w.heap.size w w' := by
  subst hs
  exact (Tryd.strconv_Itoa n h0 h1 w h.pow).mono fun e w' ⟨he, k, os, hw⟩ => ⟨he, by rw [hw]; exact below_grow w k os⟩
theorem itoa_lo (d : Nat) (h : d < 128) : Lib.itoa (sgn d) = Lib.decDigits d := by
  unfold Lib.itoa sgn
  rw [if_neg (by omega), if_neg (by omega), Int.toNat_natCast]
theorem itoa_hi (d : Nat) (h : 128 ≤ d) (h2 : d < 256) : Lib.itoa (sgn d) = 45 :: Lib.decDigits (256 - d) := by
  unfold Lib.itoa sgn
  rw [if_pos (by omega), if_pos (by omega)]
  congr 2; omega

set_option maxRecDepth 100000 in
set_option maxHeartbeats 800000 in
theorem opIdx (x : In) (w : World) (h : OpTab w) (hd : x.d < 256) : Calls Tryd.prog 45 #[.agg x.arr] w fun e w' => e = .returned (.string (strL (awL x.ix x.d))) ∧ Below w.heap.size w w' := by
  have ed := wrap_i8 x.d (by omega) (by omega)
  have s0 : -128 ≤ sgn x.d := by unfold sgn; split <;> omega
  have s1 : sgn x.d ≤ 127 := by unfold sgn; split <;> omega
  have n2 : (strL (nameL x.ix)).size ≤ 2 := strL_le _ _ (Nat.le_of_eq (nameL_len _))
  have H := Lib.hid h
  unfold In.arr
  clear h
  by_cases hlt : x.d < 128
  · have HI := Lib.hid (fun w h => opItoa (sgn x.d) _ w h (by omega) (by omega) (itoa_lo x.d hlt))
    have i2 : (strL (Lib.decDigits x.d)).size ≤ 3 := strL_le _ _ (dec_len _ (by omega)).2
    have HZ := Lib.hid (show (⟨#[40]⟩ : ByteArray) ++ strL (nameL x.ix) ++ (⟨#[43]⟩ ++ strL (Lib.decDigits x.d)) ++ ⟨#[41]⟩ = strL (awL x.ix x.d) by
      show strL [40] ++ strL (nameL x.ix) ++ (strL [43] ++ strL (Lib.decDigits x.d)) ++ strL [41] = _
      rw [strL_app, strL_app, strL_app, strL_app]
      unfold awL distL
      rw [if_pos hlt]; rfl)
    go_enter Tryd.func45, Tryd.ntmps45
    go_wp2_with fail
    refine (HI.out _ (H.out.alloc _)).mono ?_
    rintro e w1 ⟨rfl, hb1⟩
    have c1 := box_at hb1 1 _ rfl
    have c3 := box_at hb1 3 _ rfl
    have HB := Lib.hid (below_step (balloc w _) hb1)
    clear hb1
    go_wp2_with fail
    clear c1 c3
    go_wp2_with fail
    refine (opName _ _).mono ?_
    rintro e w' ⟨rfl, rfl⟩
    go_wp2_with fail
    go_ret
    exact ⟨by rw [← HZ.out]; rfl, HB.out⟩
  · have HI := Lib.hid (fun w h => opItoa (sgn x.d) _ w h (by omega) (by omega) (itoa_hi x.d (by omega) hd))
    have i2 : (strL (45 :: Lib.decDigits (256 - x.d))).size ≤ 4 := strL_le _ _ (by have := (dec_len (256 - x.d) (by omega)).2; simp; omega)
    have HZ := Lib.hid (show (⟨#[40]⟩ : ByteArray) ++ strL (nameL x.ix) ++ strL (45 :: Lib.decDigits (256 - x.d)) ++ ⟨#[41]⟩ = strL (awL x.ix x.d) by
      show strL [40] ++ strL (nameL x.ix) ++ strL _ ++ strL [41] = _
      rw [strL_app, strL_app, strL_app]
      unfold awL distL
      rw [if_neg hlt])
    go_enter Tryd.func45, Tryd.ntmps45
    go_wp2_with fail
    refine (HI.out _ (H.out.alloc _)).mono ?_
    rintro e w1 ⟨rfl, hb1⟩
    have c1 := box_at hb1 1 _ rfl
    have c3 := box_at hb1 3 _ rfl
    have HB := Lib.hid (below_step (balloc w _) hb1)
    clear hb1
    go_wp2_with fail
    clear c1 c3
    go_wp2_with fail
    refine (opName _ _).mono ?_
    rintro e w' ⟨rfl, rfl⟩
    go_wp2_with fail
    go_ret
    exact ⟨by rw [← HZ.out]; rfl, HB.out⟩

end Go.Proofs.YtkjibnnoeceaeaaDoor
