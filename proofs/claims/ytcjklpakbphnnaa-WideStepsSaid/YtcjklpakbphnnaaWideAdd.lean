/- The contracts of layer 3's three sums with their flags, and of the laws' fixed answer. -/
import Derived.Test.YtcjklpakbphnnaaWideSum
namespace Go.Proofs.Ytcjklpakbphnnaa
open Go.RowKit

set_option maxHeartbeats 800000 in
theorem wideAdd_any (a b f : Int) (w : World) (a0 : 0 ≤ a) (a1 : a ≤ 65535) (b0 : 0 ≤ b) (b1 : b ≤ 65535) (f0 : 0 ≤ f) (f1 : f ≤ 255) :
    Calls Try.prog 8 #[.int .u16 a, .int .u16 b, .int .u8 f] w fun e w' => e = .returned (.tuple #[.int .u16 (wadd a b false), .int .u8 (addWF a b f)]) ∧ Below w.heap.size w w' := by
  have HS := Lib.hid (has_128 f f0 f1)
  have HZ := Lib.hid (has_64 f f0 f1)
  have HP := Lib.hid (has_4 f f0 f1)
  go_enter Try.func8, Try.ntmps8
  go_wp2_with fail
  refine (sum_any _ _ _ false _ a0 a1 b0 b1 rfl).mono ?_
  rintro e w1 ⟨rfl, hb1⟩
  go_wp2_with fail
  refine (has_is _ _ _ _ HS.out).mono ?_
  rintro e w' ⟨rfl, rfl⟩
  go_wp2_with fail
  refine (has_is _ _ _ _ HZ.out).mono ?_
  rintro e w' ⟨rfl, rfl⟩
  go_wp2_with fail
  refine (has_is _ _ _ _ HP.out).mono ?_
  rintro e w' ⟨rfl, rfl⟩
  go_wp2_with fail
  refine (pack_any _ _ _ _ _ _ _ _ _).mono ?_
  rintro e w2 ⟨rfl, hb2⟩
  go_wp2_with fail
  go_ret2
  exact ⟨rfl, below_step hb1 (below_boxed hb2)⟩

set_option maxHeartbeats 800000 in
theorem wideAdc_any (a b f : Int) (w : World) (a0 : 0 ≤ a) (a1 : a ≤ 65535) (b0 : 0 ≤ b) (b1 : b ≤ 65535) (f0 : 0 ≤ f) (f1 : f ≤ 255) :
    Calls Try.prog 9 #[.int .u16 a, .int .u16 b, .int .u8 f] w fun e w' => e = .returned (.tuple #[.int .u16 (wadd a b (bitN f 7)), .int .u8 (adcWF a b (bitN f 7))]) ∧ Below w.heap.size w w' := by
  go_enter Try.func9, Try.ntmps9
  go_wp2_with fail
  refine (carryW_any _ _ f0 f1).mono ?_
  rintro e w' ⟨rfl, rfl⟩
  go_wp2_with fail
  refine (sum_any _ _ _ (bitN f 7) _ a0 a1 b0 b1 rfl).mono ?_
  rintro e w1 ⟨rfl, hb1⟩
  go_wp2_with fail
  refine (pack_any _ _ _ _ _ _ _ _ _).mono ?_
  rintro e w2 ⟨rfl, hb2⟩
  go_wp2_with fail
  go_ret2
  exact ⟨rfl, below_step hb1 (below_boxed hb2)⟩

set_option maxHeartbeats 800000 in
theorem wideSbc_any (a b f : Int) (w : World) (a0 : 0 ≤ a) (a1 : a ≤ 65535) (b0 : 0 ≤ b) (b1 : b ≤ 65535) (f0 : 0 ≤ f) (f1 : f ≤ 255) :
    Calls Try.prog 10 #[.int .u16 a, .int .u16 b, .int .u8 f] w fun e w' => e = .returned (.tuple #[.int .u16 (wsub a b (bitN f 7)), .int .u8 (sbcWF a b (bitN f 7))]) ∧ Below w.heap.size w w' := by
  go_enter Try.func10, Try.ntmps10
  go_wp2_with fail
  refine (carryW_any _ _ f0 f1).mono ?_
  rintro e w' ⟨rfl, rfl⟩
  go_wp2_with fail
  refine (rest_any _ _ _ (bitN f 7) _ a0 a1 b0 b1 rfl).mono ?_
  rintro e w1 ⟨rfl, hb1⟩
  go_wp2_with fail
  refine (pack_any _ _ _ _ _ _ _ _ _).mono ?_
  rintro e w2 ⟨rfl, hb2⟩
  go_wp2_with fail
  go_ret2
  exact ⟨rfl, below_step hb1 (below_boxed hb2)⟩

theorem wideAdc_is (a b f r g : Int) (w : World) (a0 : 0 ≤ a) (a1 : a ≤ 65535) (b0 : 0 ≤ b) (b1 : b ≤ 65535) (f0 : 0 ≤ f) (f1 : f ≤ 255) (hr : wadd a b (bitN f 7) = r) (hg : adcWF a b (bitN f 7) = g) :
    Calls Try.prog 9 #[.int .u16 a, .int .u16 b, .int .u8 f] w fun e w' => e = .returned (.tuple #[.int .u16 r, .int .u8 g]) ∧ Below w.heap.size w w' := by
  subst hr hg; exact wideAdc_any a b f w a0 a1 b0 b1 f0 f1
theorem wideSbc_is (a b f r g : Int) (w : World) (a0 : 0 ≤ a) (a1 : a ≤ 65535) (b0 : 0 ≤ b) (b1 : b ≤ 65535) (f0 : 0 ≤ f) (f1 : f ≤ 255) (hr : wsub a b (bitN f 7) = r) (hg : sbcWF a b (bitN f 7) = g) :
    Calls Try.prog 10 #[.int .u16 a, .int .u16 b, .int .u8 f] w fun e w' => e = .returned (.tuple #[.int .u16 r, .int .u8 g]) ∧ Below w.heap.size w w' := by
  subst hr hg; exact wideSbc_any a b f w a0 a1 b0 b1 f0 f1
theorem wideAdd_is (a b f r g : Int) (w : World) (a0 : 0 ≤ a) (a1 : a ≤ 65535) (b0 : 0 ≤ b) (b1 : b ≤ 65535) (f0 : 0 ≤ f) (f1 : f ≤ 255) (hr : wadd a b false = r) (hg : addWF a b f = g) :
    Calls Try.prog 8 #[.int .u16 a, .int .u16 b, .int .u8 f] w fun e w' => e = .returned (.tuple #[.int .u16 r, .int .u8 g]) ∧ Below w.heap.size w w' := by
  subst hr hg; exact wideAdd_any a b f w a0 a1 b0 b1 f0 f1

set_option maxHeartbeats 400000 in
theorem lives3_any (w : World) : Calls Try.prog 13 #[] w fun e w' => e = .returned (.bool true) ∧ Below w.heap.size w w' := by
  go_enter Try.func13, Try.ntmps13
  go_wp2_with fail
  refine (wideAdc_is _ _ _ 32768 148 _ (by decide) (by decide) (by decide) (by decide) (by decide) (by decide) (by decide +kernel) (by decide +kernel)).mono ?_
  rintro e w1 ⟨rfl, hb1⟩
  go_wp2_with fail
  go_ret
  exact ⟨rfl, hb1⟩

end Go.Proofs.Ytcjklpakbphnnaa
