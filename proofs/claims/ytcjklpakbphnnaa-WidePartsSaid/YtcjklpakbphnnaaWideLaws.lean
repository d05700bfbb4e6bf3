/- The laws of layer 3, walked. -/
import Derived.Test.YtcjklpakbphnnaaWideAdd
import Derived.Test.YtcjklpakbphnnaaWideRefAdd
namespace Go.Proofs.Ytcjklpakbphnnaa
open Go.RowKit

set_option maxHeartbeats 3200000 in
theorem wideSums_walk (a b f : Int) (w0 : (Lit.int .u16 a).wf = true) (w1 : (Lit.int .u16 b).wf = true) (w2 : (Lit.int .u8 f).wf = true) (w : World) :
    Calls Try.prog 3 #[.int .u16 a, .int .u16 b, .int .u8 f] w fun e w' => e = .returned (.bool true) ∧ Below w.heap.size w w' := by
  obtain ⟨a0, a1⟩ := bounds_u16 w0
  obtain ⟨b0, b1⟩ := bounds_u16 w1
  obtain ⟨f0, f1⟩ := u8_bd w2
  clear w0 w1 w2
  go_enter Try.func3, Try.ntmps3
  go_wp2_with fail
  refine (wideAdd_any _ _ _ _ a0 a1 b0 b1 f0 f1).mono ?_
  rintro e w1 ⟨rfl, hb1⟩
  go_wp2_with fail
  refine (wideAdc_any _ _ _ _ a0 a1 b0 b1 f0 f1).mono ?_
  rintro e w2 ⟨rfl, hb2⟩
  go_wp2_with fail
  refine (wideSbc_any _ _ _ _ a0 a1 b0 b1 f0 f1).mono ?_
  rintro e w3 ⟨rfl, hb3⟩
  go_wp2_with fail
  refine (refAddW_any _ _ _ _ a0 a1 b0 b1 f0 f1).mono ?_
  rintro e w4 ⟨rfl, hb4⟩
  go_wp2_with fail
  refine (refAdcW_any _ _ _ _ a0 a1 b0 b1 f0 f1).mono ?_
  rintro e w5 ⟨rfl, hb5⟩
  go_wp2_with fail
  refine (refSbcW_any _ _ _ _ a0 a1 b0 b1 f0 f1).mono ?_
  rintro e w6 ⟨rfl, hb6⟩
  go_wp2_with fail
  refine (lives3_any _).mono ?_
  rintro e w7 ⟨rfl, hb7⟩
  go_wp2_with fail
  go_ret
  exact ⟨rfl, below_step (below_step (below_step (below_step (below_step (below_step hb1 hb2) hb3) hb4) hb5) hb6) hb7⟩

theorem word_is (h l r : Int) (w : World) (h0 : 0 ≤ h) (h1 : h ≤ 255) (l0 : 0 ≤ l) (l1 : l ≤ 255) (hr : h * 256 + l = r) : Calls Try.prog 16 #[.int .u8 h, .int .u8 l] w fun e w' => e = .returned (.int .u16 r) ∧ w = w' := by
  subst hr; exact word_any h l w h0 h1 l0 l1

set_option maxHeartbeats 3200000 in
theorem wideParts_walk (a h l : Int) (w0 : (Lit.int .u16 a).wf = true) (w1 : (Lit.int .u8 h).wf = true) (w2 : (Lit.int .u8 l).wf = true) (w : World) :
    Calls Try.prog 4 #[.int .u16 a, .int .u8 h, .int .u8 l] w fun e w' => e = .returned (.bool true) ∧ Below w.heap.size w w' := by
  obtain ⟨a0, a1⟩ := bounds_u16 w0
  obtain ⟨h0, h1⟩ := u8_bd w1
  obtain ⟨l0, l1⟩ := u8_bd w2
  clear w0 w1 w2
  have HW := Lib.hid (show h * 256 + l = 256 * h + l by omega)
  go_enter Try.func4, Try.ntmps4
  go_wp2_with fail
  refine (hi_any _ _ a0 a1).mono ?_
  rintro e w' ⟨rfl, rfl⟩
  go_wp2_with fail
  refine (lo_any _ _).mono ?_
  rintro e w' ⟨rfl, rfl⟩
  go_wp2_with fail
  refine (word_is _ _ _ _ h0 h1 l0 l1 HW.out).mono ?_
  rintro e w' ⟨rfl, rfl⟩
  go_wp2_with fail
  refine (plus_any _ _ _ l0 l1).mono ?_
  rintro e w' ⟨rfl, rfl⟩
  go_wp2_with fail
  refine (refPlus_any _ _ _ a0 a1 l0 l1).mono ?_
  rintro e w' ⟨rfl, rfl⟩
  go_wp2_with fail
  refine (lives3_any _).mono ?_
  rintro e w1 ⟨rfl, hb1⟩
  go_wp2_with fail
  go_ret
  exact ⟨rfl, hb1⟩

/-- F without C, and with it. -/
def offC (f : Int) : Int := flagsOf (bitN f 0) (bitN f 1) (bitN f 2) (bitN f 3) (bitN f 4) (bitN f 5) (bitN f 6) false
def onC (f : Int) : Int := flagsOf (bitN f 0) (bitN f 1) (bitN f 2) (bitN f 3) (bitN f 4) (bitN f 5) (bitN f 6) true
theorem offC_is (f : Int) (f0 : 0 ≤ f) (f1 : f ≤ 255) : bits .andNot .u8 f 1 = offC f := by
  have h := with_C (bitN f 0) (bitN f 1) (bitN f 2) (bitN f 3) (bitN f 4) (bitN f 5) (bitN f 6) (bitN f 7) false
  rw [flags_self f f0 f1] at h
  exact h
theorem onC_is (f : Int) (f0 : 0 ≤ f) (f1 : f ≤ 255) : bits .or .u8 f 1 = onC f := by
  have h := with_C (bitN f 0) (bitN f 1) (bitN f 2) (bitN f 3) (bitN f 4) (bitN f 5) (bitN f 6) (bitN f 7) true
  rw [flags_self f f0 f1] at h
  exact h
theorem offC_bd (f : Int) : 0 ≤ offC f ∧ offC f ≤ 255 := flags_bd _ _ _ _ _ _ _ _
theorem onC_bd (f : Int) : 0 ≤ onC f ∧ onC f ≤ 255 := flags_bd _ _ _ _ _ _ _ _
theorem offC_7 (f : Int) : bitN (offC f) 7 = false := (bit_flags _ _ _ _ _ _ _ _).2.2.2.2.2.2.2
theorem onC_7 (f : Int) : bitN (onC f) 7 = true := (bit_flags _ _ _ _ _ _ _ _).2.2.2.2.2.2.2
theorem addWF_bd (a b f : Int) : 0 ≤ addWF a b f ∧ addWF a b f ≤ 255 := flags_bd _ _ _ _ _ _ _ _
theorem sbcWF_bd (a b : Int) (c : Bool) : 0 ≤ sbcWF a b c ∧ sbcWF a b c ≤ 255 := flags_bd _ _ _ _ _ _ _ _
theorem back_W (a b : Int) (a0 : 0 ≤ a) (a1 : a ≤ 65535) : wsub (wadd a b false) b false = a := by unfold wsub wadd; simp [cN]; omega
theorem self_W (a : Int) : wsub a a true = 65535 := by unfold wsub; simp [cN]
theorem add_c (a b f : Int) : (bits .and .u8 (addWF a b f) 1 != 0) = waddC a b false := by
  rw [has_1 _ (addWF_bd a b f).1 (addWF_bd a b f).2]
  exact (bit_flags _ _ _ _ _ _ _ _).2.2.2.2.2.2.2
theorem sbc_c (a b : Int) (c : Bool) : (bits .and .u8 (sbcWF a b c) 1 != 0) = wsubC a b c := by
  rw [has_1 _ (sbcWF_bd a b c).1 (sbcWF_bd a b c).2]
  exact (bit_flags _ _ _ _ _ _ _ _).2.2.2.2.2.2.2
theorem carry_back (a b : Int) (a0 : 0 ≤ a) (a1 : a ≤ 65535) (b0 : 0 ≤ b) (b1 : b ≤ 65535) : wsubC (wadd a b false) b false = waddC a b false := by
  unfold wsubC waddC wadd
  rw [decide_eq_decide]
  simp [cN]; omega
theorem keep_and (s z y h x p n c : Bool) : bits .and .u8 (flagsOf s z y h x p n c) 196 = flagsOf s z false false false p false false := by revert s z y h x p n c; decide +kernel
theorem add_keeps (a b f : Int) (f0 : 0 ≤ f) (f1 : f ≤ 255) : bits .and .u8 (addWF a b (offC f)) 196 = bits .and .u8 f 196 := by
  conv => rhs; rw [← flags_self f f0 f1]
  unfold addWF
  rw [keep_and, keep_and]
  obtain ⟨h0, h1, _, _, _, h5, _, _⟩ := bit_flags (bitN f 0) (bitN f 1) (bitN f 2) (bitN f 3) (bitN f 4) (bitN f 5) (bitN f 6) false
  unfold offC
  rw [h0, h1, h5]

set_option maxHeartbeats 3200000 in
theorem wideBack_walk (a b f : Int) (w0 : (Lit.int .u16 a).wf = true) (w1 : (Lit.int .u16 b).wf = true) (w2 : (Lit.int .u8 f).wf = true) (w : World) :
    Calls Try.prog 5 #[.int .u16 a, .int .u16 b, .int .u8 f] w fun e w' => e = .returned (.bool true) ∧ Below w.heap.size w w' := by
  obtain ⟨a0, a1⟩ := bounds_u16 w0
  obtain ⟨b0, b1⟩ := bounds_u16 w1
  obtain ⟨f0, f1⟩ := u8_bd w2
  clear w0 w1 w2
  obtain ⟨o0, o1⟩ := offC_bd f
  obtain ⟨p0, p1⟩ := onC_bd f
  obtain ⟨r0, r1⟩ := wadd_bd a b false
  have eo := offC_is f f0 f1
  have ep := onC_is f f0 f1
  have H1 := Lib.hid (show wadd a b (bitN (offC f) 7) = wadd a b false by rw [offC_7])
  have H2 := Lib.hid (show wsub (wadd a b false) b (bitN (offC f) 7) = a by rw [offC_7]; exact back_W a b a0 a1)
  have H3 := Lib.hid (show sbcWF (wadd a b false) b (bitN (offC f) 7) = sbcWF (wadd a b false) b false by rw [offC_7])
  have H4 := Lib.hid (show wsub a a (bitN (onC f) 7) = 65535 by rw [onC_7]; exact self_W a)
  have H5 := Lib.hid (show a / 256 * 256 + a % 256 = a by omega)
  have c1 := add_c a b (offC f)
  have c2 := (sbc_c (wadd a b false) b false).trans (carry_back a b a0 a1 b0 b1)
  have hk := add_keeps a b f f0 f1
  go_enter Try.func5, Try.ntmps5
  go_wp2_with fail
  refine (wideAdd_any _ _ _ _ a0 a1 b0 b1 o0 o1).mono ?_
  rintro e w1 ⟨rfl, hb1⟩
  go_wp2_with fail
  refine (wideAdc_is _ _ _ _ _ _ a0 a1 b0 b1 o0 o1 H1.out rfl).mono ?_
  rintro e w2 ⟨rfl, hb2⟩
  go_wp2_with fail
  refine (wideSbc_is _ _ _ _ _ _ r0 r1 b0 b1 o0 o1 H2.out H3.out).mono ?_
  rintro e w3 ⟨rfl, hb3⟩
  go_wp2_with fail
  refine (wideSbc_is _ _ _ _ _ _ a0 a1 a0 a1 p0 p1 H4.out rfl).mono ?_
  rintro e w4 ⟨rfl, hb4⟩
  go_wp2_with fail
  refine (hi_any _ _ a0 a1).mono ?_
  rintro e w' ⟨rfl, rfl⟩
  go_wp2_with fail
  refine (lo_any _ _).mono ?_
  rintro e w' ⟨rfl, rfl⟩
  go_wp2_with fail
  refine (word_is _ _ _ _ (by omega) (by omega) (by omega) (by omega) H5.out).mono ?_
  rintro e w' ⟨rfl, rfl⟩
  go_wp2_with fail
  refine (lives3_any _).mono ?_
  rintro e w5 ⟨rfl, hb5⟩
  go_wp2_with fail
  go_ret
  exact ⟨rfl, below_step (below_step (below_step (below_step hb1 hb2) hb3) hb4) hb5⟩

end Go.Proofs.Ytcjklpakbphnnaa
