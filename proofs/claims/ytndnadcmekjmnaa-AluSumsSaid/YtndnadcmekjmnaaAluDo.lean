/- alu.Do and the document's Do: their contracts; the chapter's examples. -/
import Derived.Test.YtndnadcmekjmnaaAluDaa
import Derived.Test.YtndnadcmekjmnaaAluScf
import Derived.Test.YtndnadcmekjmnaaAluJoin
namespace Go.Proofs.Ytndnadcmekjmnaa
open Go.RowKit

theorem ne_all (k : Int) (h : k < 0 ∨ 7 < k) : (k == 0) = false ∧ (k == 1) = false ∧ (k == 2) = false ∧ (k == 3) = false ∧ (k == 4) = false ∧ (k == 5) = false ∧ (k == 6) = false ∧ (k == 7) = false := by
  refine ⟨?_, ?_, ?_, ?_, ?_, ?_, ?_, ?_⟩ <;> (rw [beq_eq_false_iff_ne]; omega)
theorem eight_or (k : Int) : (k < 0 ∨ 7 < k) ∨ k = 0 ∨ k = 1 ∨ k = 2 ∨ k = 3 ∨ k = 4 ∨ k = 5 ∨ k = 6 ∨ k = 7 := by omega

set_option maxHeartbeats 3200000 in
theorem do_any (k a b f : Int) (w : World) (a0 : 0 ≤ a) (a1 : a ≤ 255) (b0 : 0 ≤ b) (b1 : b ≤ 255) (f0 : 0 ≤ f) (f1 : f ≤ 255) :
    Calls Try.prog 17 #[.int .i64 k, .int .u8 a, .int .u8 b, .int .u8 f] w fun e w' => e = .returned (.tuple #[.int .u8 (doV k a b f).1, .int .u8 (doV k a b f).2]) ∧ Below w.heap.size w w' := by
  have HC := Lib.hid (has_1 f f0 f1)
  rcases eight_or k with hk | rfl | rfl | rfl | rfl | rfl | rfl | rfl | rfl
  · rw [doV_else k a b f hk]
    obtain ⟨k0, k1, k2, k3, k4, k5, k6, k7⟩ := ne_all k hk
    clear hk
    go_enter Try.func17, Try.ntmps17
    go_wp2_with fail
    refine (has_is _ _ _ _ HC.out).mono ?_
    rintro e w' ⟨rfl, rfl⟩
    go_wp2_with fail
    go_ret2
    exact ⟨rfl, Below.refl _ _⟩
  · rw [doV_0]
    go_enter Try.func17, Try.ntmps17
    go_wp2_with fail
    refine (has_is _ _ _ _ HC.out).mono ?_
    rintro e w' ⟨rfl, rfl⟩
    go_wp2_with fail
    refine (add_any _ _ _ _ a0 a1 b0 b1).mono ?_
    rintro e w1 ⟨rfl, hb1⟩
    go_wp2_with fail
    go_ret2
    exact ⟨rfl, hb1⟩
  · rw [doV_1]
    go_enter Try.func17, Try.ntmps17
    go_wp2_with fail
    refine (has_is _ _ _ _ HC.out).mono ?_
    rintro e w' ⟨rfl, rfl⟩
    go_wp2_with fail
    refine (add_any _ _ _ _ a0 a1 b0 b1).mono ?_
    rintro e w1 ⟨rfl, hb1⟩
    go_wp2_with fail
    go_ret2
    exact ⟨rfl, hb1⟩
  · rw [doV_2]
    go_enter Try.func17, Try.ntmps17
    go_wp2_with fail
    refine (has_is _ _ _ _ HC.out).mono ?_
    rintro e w' ⟨rfl, rfl⟩
    go_wp2_with fail
    refine (sub_any _ _ _ _ a0 a1 b0 b1).mono ?_
    rintro e w1 ⟨rfl, hb1⟩
    go_wp2_with fail
    go_ret2
    exact ⟨rfl, hb1⟩
  · rw [doV_3]
    go_enter Try.func17, Try.ntmps17
    go_wp2_with fail
    refine (has_is _ _ _ _ HC.out).mono ?_
    rintro e w' ⟨rfl, rfl⟩
    go_wp2_with fail
    refine (sub_any _ _ _ _ a0 a1 b0 b1).mono ?_
    rintro e w1 ⟨rfl, hb1⟩
    go_wp2_with fail
    go_ret2
    exact ⟨rfl, hb1⟩
  · rw [doV_4]
    go_enter Try.func17, Try.ntmps17
    go_wp2_with fail
    refine (has_is _ _ _ _ HC.out).mono ?_
    rintro e w' ⟨rfl, rfl⟩
    go_wp2_with fail
    refine (and_any _ _ _ a0 a1 b0 b1).mono ?_
    rintro e w1 ⟨rfl, hb1⟩
    go_wp2_with fail
    go_ret2
    exact ⟨rfl, hb1⟩
  · rw [doV_5]
    go_enter Try.func17, Try.ntmps17
    go_wp2_with fail
    refine (has_is _ _ _ _ HC.out).mono ?_
    rintro e w' ⟨rfl, rfl⟩
    go_wp2_with fail
    refine (xor_any _ _ _ a0 a1 b0 b1).mono ?_
    rintro e w1 ⟨rfl, hb1⟩
    go_wp2_with fail
    go_ret2
    exact ⟨rfl, hb1⟩
  · rw [doV_6]
    go_enter Try.func17, Try.ntmps17
    go_wp2_with fail
    refine (has_is _ _ _ _ HC.out).mono ?_
    rintro e w' ⟨rfl, rfl⟩
    go_wp2_with fail
    refine (or_any _ _ _ a0 a1 b0 b1).mono ?_
    rintro e w1 ⟨rfl, hb1⟩
    go_wp2_with fail
    go_ret2
    exact ⟨rfl, hb1⟩
  · rw [doV_7]
    go_enter Try.func17, Try.ntmps17
    go_wp2_with fail
    refine (has_is _ _ _ _ HC.out).mono ?_
    rintro e w' ⟨rfl, rfl⟩
    go_wp2_with fail
    refine (cp_any _ _ _ a0 a1 b0 b1).mono ?_
    rintro e w1 ⟨rfl, hb1⟩
    go_wp2_with fail
    go_ret2
    exact ⟨rfl, hb1⟩

set_option maxHeartbeats 3200000 in
theorem refDo_any (k a b f : Int) (w : World) (a0 : 0 ≤ a) (a1 : a ≤ 255) (b0 : 0 ≤ b) (b1 : b ≤ 255) (f0 : 0 ≤ f) (f1 : f ≤ 255) :
    Calls Try.prog 18 #[.int .i64 k, .int .u8 a, .int .u8 b, .int .u8 f] w fun e w' => e = .returned (.tuple #[.int .u8 (doV k a b f).1, .int .u8 (doV k a b f).2]) ∧ Below w.heap.size w w' := by
  obtain ⟨s0, s1⟩ := subF_bd a b false
  rcases eight_or k with hk | rfl | rfl | rfl | rfl | rfl | rfl | rfl | rfl
  · rw [doV_else k a b f hk]
    obtain ⟨k0, k1, k2, k3, k4, k5, k6, k7⟩ := ne_all k hk
    clear hk
    go_enter Try.func18, Try.ntmps18
    go_wp2_with fail
    refine (bit_any _ _ _ f0 f1 (by decide) (by decide)).mono ?_
    rintro e w0 ⟨rfl, hb0⟩
    go_wp2_with fail
    go_ret2
    exact ⟨rfl, hb0⟩
  · rw [doV_0]
    go_enter Try.func18, Try.ntmps18
    go_wp2_with fail
    refine (bit_any _ _ _ f0 f1 (by decide) (by decide)).mono ?_
    rintro e w0 ⟨rfl, hb0⟩
    go_wp2_with fail
    refine (refAdd_any _ _ _ _ a0 a1 b0 b1).mono ?_
    rintro e w1 ⟨rfl, hb1⟩
    go_wp2_with fail
    go_ret2
    exact ⟨rfl, below_step (hb0) hb1⟩
  · rw [doV_1]
    go_enter Try.func18, Try.ntmps18
    go_wp2_with fail
    refine (bit_any _ _ _ f0 f1 (by decide) (by decide)).mono ?_
    rintro e w0 ⟨rfl, hb0⟩
    go_wp2_with fail
    refine (refAdd_any _ _ _ _ a0 a1 b0 b1).mono ?_
    rintro e w1 ⟨rfl, hb1⟩
    go_wp2_with fail
    go_ret2
    exact ⟨rfl, below_step (hb0) hb1⟩
  · rw [doV_2]
    go_enter Try.func18, Try.ntmps18
    go_wp2_with fail
    refine (bit_any _ _ _ f0 f1 (by decide) (by decide)).mono ?_
    rintro e w0 ⟨rfl, hb0⟩
    go_wp2_with fail
    refine (refSub_any _ _ _ _ a0 a1 b0 b1).mono ?_
    rintro e w1 ⟨rfl, hb1⟩
    go_wp2_with fail
    go_ret2
    exact ⟨rfl, below_step (hb0) hb1⟩
  · rw [doV_3]
    go_enter Try.func18, Try.ntmps18
    go_wp2_with fail
    refine (bit_any _ _ _ f0 f1 (by decide) (by decide)).mono ?_
    rintro e w0 ⟨rfl, hb0⟩
    go_wp2_with fail
    refine (refSub_any _ _ _ _ a0 a1 b0 b1).mono ?_
    rintro e w1 ⟨rfl, hb1⟩
    go_wp2_with fail
    go_ret2
    exact ⟨rfl, below_step (hb0) hb1⟩
  · rw [doV_4]
    go_enter Try.func18, Try.ntmps18
    go_wp2_with fail
    refine (bit_any _ _ _ f0 f1 (by decide) (by decide)).mono ?_
    rintro e w0 ⟨rfl, hb0⟩
    go_wp2_with fail
    refine (join4_any _ _ _ a0 a1 b0 b1).mono ?_
    rintro e w1 ⟨rfl, hb1⟩
    go_wp2_with fail
    go_ret2
    exact ⟨rfl, below_step (hb0) hb1⟩
  · rw [doV_5]
    go_enter Try.func18, Try.ntmps18
    go_wp2_with fail
    refine (bit_any _ _ _ f0 f1 (by decide) (by decide)).mono ?_
    rintro e w0 ⟨rfl, hb0⟩
    go_wp2_with fail
    refine (join5_any _ _ _ a0 a1 b0 b1).mono ?_
    rintro e w1 ⟨rfl, hb1⟩
    go_wp2_with fail
    go_ret2
    exact ⟨rfl, below_step (hb0) hb1⟩
  · rw [doV_6]
    go_enter Try.func18, Try.ntmps18
    go_wp2_with fail
    refine (bit_any _ _ _ f0 f1 (by decide) (by decide)).mono ?_
    rintro e w0 ⟨rfl, hb0⟩
    go_wp2_with fail
    refine (join6_any _ _ _ a0 a1 b0 b1).mono ?_
    rintro e w1 ⟨rfl, hb1⟩
    go_wp2_with fail
    go_ret2
    exact ⟨rfl, below_step (hb0) hb1⟩
  · rw [doV_7]
    go_enter Try.func18, Try.ntmps18
    go_wp2_with fail
    refine (bit_any _ _ _ f0 f1 (by decide) (by decide)).mono ?_
    rintro e w0 ⟨rfl, hb0⟩
    go_wp2_with fail
    refine (refSub_any _ _ _ _ a0 a1 b0 b1).mono ?_
    rintro e w1 ⟨rfl, hb1⟩
    go_wp2_with fail
    refine (mix_any _ _ _ s0 s1 b0 b1).mono ?_
    rintro e w2 ⟨rfl, hb2⟩
    go_wp2_with fail
    go_ret2
    exact ⟨rfl, below_step (below_step (hb0) hb1) hb2⟩

theorem add_is (a b r f : Int) (c : Bool) (w : World) (a0 : 0 ≤ a) (a1 : a ≤ 255) (b0 : 0 ≤ b) (b1 : b ≤ 255) (hr : addR a b c = r) (hf : addF a b c = f) :
    Calls Try.prog 10 #[.int .u8 a, .int .u8 b, .bool c] w fun e w' => e = .returned (.tuple #[.int .u8 r, .int .u8 f]) ∧ Below w.heap.size w w' := by
  subst hr hf; exact add_any a b c w a0 a1 b0 b1
theorem sub_is (a b r f : Int) (c : Bool) (w : World) (a0 : 0 ≤ a) (a1 : a ≤ 255) (b0 : 0 ≤ b) (b1 : b ≤ 255) (hr : subR a b c = r) (hf : subF a b c = f) :
    Calls Try.prog 11 #[.int .u8 a, .int .u8 b, .bool c] w fun e w' => e = .returned (.tuple #[.int .u8 r, .int .u8 f]) ∧ Below w.heap.size w w' := by
  subst hr hf; exact sub_any a b c w a0 a1 b0 b1
theorem daa_is (a f r g : Int) (w : World) (a0 : 0 ≤ a) (a1 : a ≤ 255) (f0 : 0 ≤ f) (f1 : f ≤ 255) (hr : daaR a f = r) (hf : daaF a f = g) :
    Calls Try.prog 27 #[.int .u8 a, .int .u8 f] w fun e w' => e = .returned (.tuple #[.int .u8 r, .int .u8 g]) ∧ Below w.heap.size w w' := by
  subst hr hf; exact daa_any a f w a0 a1 f0 f1
set_option maxHeartbeats 800000 in
theorem lives2_any (w : World) :
    Calls Try.prog 16 #[] w fun e w' => e = .returned (.bool true) ∧ Below w.heap.size w w' := by
  go_enter Try.func16, Try.ntmps16
  go_wp2_with fail
  refine (add_is _ _ 128 148 _ _ (by decide) (by decide) (by decide) (by decide) (by decide +kernel) (by decide +kernel)).mono ?_
  rintro e w1 ⟨rfl, hb1⟩
  go_wp2_with fail
  refine (daa_is _ _ 0 85 _ (by decide) (by decide) (by decide) (by decide) (by decide +kernel) (by decide +kernel)).mono ?_
  rintro e w2 ⟨rfl, hb2⟩
  go_wp2_with fail
  go_ret
  exact ⟨rfl, below_step hb1 hb2⟩

end Go.Proofs.Ytndnadcmekjmnaa
