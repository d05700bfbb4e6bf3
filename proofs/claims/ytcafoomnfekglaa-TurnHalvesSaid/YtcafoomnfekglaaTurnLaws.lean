/- The laws of layer 4, walked. -/
import Derived.Test.YtcafoomnfekglaaTurnMore
import Derived.Test.YtcafoomnfekglaaTurnHalves
namespace Go.Proofs.Ytcafoomnfekglaa
open Go.RowKit

set_option maxHeartbeats 3200000 in
theorem turnDoes_walk (k b f : Int) (_w0 : (Lit.int .i64 k).wf = true) (w1 : (Lit.int .u8 b).wf = true) (w2 : (Lit.int .u8 f).wf = true) (w : World) :
    Calls Try.prog 3 #[.int .i64 k, .int .u8 b, .int .u8 f] w fun e w' => e = .returned (.bool true) ∧ Below w.heap.size w w' := by
  obtain ⟨b0, b1⟩ := u8_bd w1
  obtain ⟨f0, f1⟩ := u8_bd w2
  clear _w0 w1 w2
  go_enter Try.func3, Try.ntmps3
  go_wp2_with fail
  refine (doT_any _ _ _ _ b0 b1 f0 f1).mono ?_
  rintro e w' ⟨rfl, rfl⟩
  go_wp2_with fail
  refine (accT_any _ _ _ _ b0 b1 f0 f1).mono ?_
  rintro e w' ⟨rfl, rfl⟩
  go_wp2_with fail
  refine (refDoT_any _ _ _ _ b0 b1 f0 f1).mono ?_
  rintro e w1 ⟨rfl, hb1⟩
  go_wp2_with fail
  refine (refAccT_any _ _ _ _ b0 b1 f0 f1).mono ?_
  rintro e w2 ⟨rfl, hb2⟩
  go_wp2_with fail
  refine (lives4_any _).mono ?_
  rintro e w' ⟨rfl, rfl⟩
  go_wp2_with fail
  go_ret
  exact ⟨rfl, below_step hb1 hb2⟩

set_option maxHeartbeats 3200000 in
theorem turnHalves_walk (a m f : Int) (w0 : (Lit.int .u8 a).wf = true) (w1 : (Lit.int .u8 m).wf = true) (w2 : (Lit.int .u8 f).wf = true) (w : World) :
    Calls Try.prog 5 #[.int .u8 a, .int .u8 m, .int .u8 f] w fun e w' => e = .returned (.bool true) ∧ Below w.heap.size w w' := by
  obtain ⟨a0, a1⟩ := u8_bd w0
  obtain ⟨m0, m1⟩ := u8_bd w1
  obtain ⟨f0, f1⟩ := u8_bd w2
  clear w0 w1 w2
  go_enter Try.func5, Try.ntmps5
  go_wp2_with fail
  refine (rld_any _ _ _ _ a0 a1 m0 m1 f0 f1).mono ?_
  rintro e w' ⟨rfl, rfl⟩
  go_wp2_with fail
  refine (rrd_any _ _ _ _ a0 a1 m0 m1 f0 f1).mono ?_
  rintro e w' ⟨rfl, rfl⟩
  go_wp2_with fail
  refine (refUp_any _ _ _ _ a0 a1 m0 m1 f0 f1).mono ?_
  rintro e w1 ⟨rfl, hb1⟩
  go_wp2_with fail
  refine (refDown_any _ _ _ _ a0 a1 m0 m1 f0 f1).mono ?_
  rintro e w2 ⟨rfl, hb2⟩
  go_wp2_with fail
  refine (lives4_any _).mono ?_
  rintro e w' ⟨rfl, rfl⟩
  go_wp2_with fail
  go_ret
  exact ⟨rfl, below_step hb1 hb2⟩

set_option maxHeartbeats 3200000 in
theorem turnBits_walk (n b f : Int) (_w0 : (Lit.int .i64 n).wf = true) (w1 : (Lit.int .u8 b).wf = true) (w2 : (Lit.int .u8 f).wf = true) (w : World) :
    Calls Try.prog 4 #[.int .i64 n, .int .u8 b, .int .u8 f] w fun e w' => e = .returned (.bool true) ∧ Below w.heap.size w w' := by
  obtain ⟨b0, b1⟩ := u8_bd w1
  obtain ⟨f0, f1⟩ := u8_bd w2
  clear _w0 w1 w2
  go_enter Try.func4, Try.ntmps4
  go_wp2_with fail
  go_loopw [7] (fun i wr => ∃ x : Int, 0 ≤ x ∧ x ≤ 272 ∧ i = .int .i64 x ∧ Below w.heap.size w wr) (fun i _ => 272 - (intOf i).toNat)
  case atStart => exact ⟨0, by omega, by omega, rfl, Below.refl _ _⟩
  case round =>
    obtain ⟨x, x0, x1, rfl, hnx⟩ := hrel
    by_cases hlt : x < 256
    · have t1 : x ≤ 255 := by omega
      go_wp2_with fail
      refine (test_any _ _ _ _ _ b0 b1 x0 t1 f0 f1).mono ?_
      rintro e w' ⟨rfl, rfl⟩
      go_wp2_with fail
      refine (refTest_any _ _ _ _ _ b0 b1 x0 t1 f0 f1).mono ?_
      rintro e w1 ⟨rfl, hb1⟩
      go_wp2_with fail
      go_roundw
      case rel => exact ⟨x + 17, by omega, by omega, rfl, below_step hnx hb1⟩
      case measure => simp [intOf]; omega
    · have hd : decide (x < 256) = false := decide_eq_false hlt
      go_wp2_with fail
      refine (setV_any _ _ _ b0 b1).mono ?_
      rintro e w' ⟨rfl, rfl⟩
      go_wp2_with fail
      refine (refPut_any _ _ _ _ b0 b1).mono ?_
      rintro e w1 ⟨rfl, hb1⟩
      go_wp2_with fail
      refine (resV_any _ _ _ b0 b1).mono ?_
      rintro e w' ⟨rfl, rfl⟩
      go_wp2_with fail
      refine (refPut_any _ _ _ _ b0 b1).mono ?_
      rintro e w2 ⟨rfl, hb2⟩
      go_wp2_with fail
      refine (lives4_any _).mono ?_
      rintro e w' ⟨rfl, rfl⟩
      go_wp2_with fail
      go_ret
      exact ⟨rfl, below_step (below_step hnx hb1) hb2⟩

end Go.Proofs.Ytcafoomnfekglaa
