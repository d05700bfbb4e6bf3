/- The document's Halves: its contract. -/
import Derived.Test.YtcafoomnfekglaaTurnDoc
namespace Go.Proofs.Ytcafoomnfekglaa
open Go.RowKit

set_option maxHeartbeats 1600000 in
theorem refUp_any (a m f : Int) (w : World) (a0 : 0 ≤ a) (a1 : a ≤ 255) (m0 : 0 ≤ m) (m1 : m ≤ 255) (f0 : 0 ≤ f) (f1 : f ≤ 255) :
    Calls Try.prog 20 #[.int .u8 a, .int .u8 m, .int .u8 f, .bool true] w fun e w' => e = .returned (.tuple #[.int .u8 (rldA a m), .int .u8 (rldM a m), .int .u8 (turnF (rldA a m) (bitN f 7))]) ∧ Below w.heap.size w w' := by
  obtain ⟨r0, r1⟩ := rldA_bd a m a0 a1 m0 m1
  have e1 : 16 * (a / 16) + m / 16 = rldA a m := by unfold rldA; omega
  have e2 : 16 * (m % 16) + a % 16 = rldM a m := by unfold rldM; omega
  go_enter Try.func20, Try.ntmps20
  go_wp2_with fail
  refine (bit_any _ _ _ r0 r1 (by decide) (by decide)).mono ?_
  rintro e w1 ⟨rfl, hb1⟩
  go_wp2_with fail
  refine (bit_any _ _ _ r0 r1 (by decide) (by decide)).mono ?_
  rintro e w2 ⟨rfl, hb2⟩
  go_wp2_with fail
  refine (bit_any _ _ _ r0 r1 (by decide) (by decide)).mono ?_
  rintro e w3 ⟨rfl, hb3⟩
  go_wp2_with fail
  refine (refEven_any _ _ r0 r1).mono ?_
  rintro e w4 ⟨rfl, hb4⟩
  go_wp2_with fail
  refine (bit_any _ _ _ f0 f1 (by decide) (by decide)).mono ?_
  rintro e w5 ⟨rfl, hb5⟩
  go_wp2_with fail
  refine (flags_any _ _ _ _ _ _ _ _ _).mono ?_
  rintro e w6 ⟨rfl, hb6⟩
  go_wp2_with fail
  exact bodyPost_ret (v := .tuple #[.int .u8 (rldA a m), .int .u8 (rldM a m), .int .u8 (turnF (rldA a m) (bitN f 7))]) (by simp [results, Try.results20, go_sem, turnF]) rfl ⟨rfl, below_step (below_step (below_step (below_step (below_step hb1 hb2) hb3) hb4) hb5) hb6⟩

set_option maxHeartbeats 1600000 in
theorem refDown_any (a m f : Int) (w : World) (a0 : 0 ≤ a) (a1 : a ≤ 255) (m0 : 0 ≤ m) (m1 : m ≤ 255) (f0 : 0 ≤ f) (f1 : f ≤ 255) :
    Calls Try.prog 20 #[.int .u8 a, .int .u8 m, .int .u8 f, .bool false] w fun e w' => e = .returned (.tuple #[.int .u8 (rrdA a m), .int .u8 (rrdM a m), .int .u8 (turnF (rrdA a m) (bitN f 7))]) ∧ Below w.heap.size w w' := by
  obtain ⟨r0, r1⟩ := rrdA_bd a m a0 a1
  have e1 : 16 * (a / 16) + m % 16 = rrdA a m := by unfold rrdA; omega
  have e2 : 16 * (a % 16) + m / 16 = rrdM a m := by unfold rrdM; omega
  go_enter Try.func20, Try.ntmps20
  go_wp2_with fail
  refine (bit_any _ _ _ r0 r1 (by decide) (by decide)).mono ?_
  rintro e w1 ⟨rfl, hb1⟩
  go_wp2_with fail
  refine (bit_any _ _ _ r0 r1 (by decide) (by decide)).mono ?_
  rintro e w2 ⟨rfl, hb2⟩
  go_wp2_with fail
  refine (bit_any _ _ _ r0 r1 (by decide) (by decide)).mono ?_
  rintro e w3 ⟨rfl, hb3⟩
  go_wp2_with fail
  refine (refEven_any _ _ r0 r1).mono ?_
  rintro e w4 ⟨rfl, hb4⟩
  go_wp2_with fail
  refine (bit_any _ _ _ f0 f1 (by decide) (by decide)).mono ?_
  rintro e w5 ⟨rfl, hb5⟩
  go_wp2_with fail
  refine (flags_any _ _ _ _ _ _ _ _ _).mono ?_
  rintro e w6 ⟨rfl, hb6⟩
  go_wp2_with fail
  exact bodyPost_ret (v := .tuple #[.int .u8 (rrdA a m), .int .u8 (rrdM a m), .int .u8 (turnF (rrdA a m) (bitN f 7))]) (by simp [results, Try.results20, go_sem, turnF]) rfl ⟨rfl, below_step (below_step (below_step (below_step (below_step hb1 hb2) hb3) hb4) hb5) hb6⟩

end Go.Proofs.Ytcafoomnfekglaa
