/- The laws of layer 2 that hold the program against the document, walked. -/
import Derived.Test.YtndnadcmekjmnaaAluDo
namespace Go.Proofs.Ytndnadcmekjmnaa
open Go.RowKit

set_option maxHeartbeats 3200000 in
theorem aluSums_walk (a b : Int) (c : Bool) (w0 : (Lit.int .u8 a).wf = true) (w1 : (Lit.int .u8 b).wf = true) (w : World) :
    Calls Try.prog 3 #[.int .u8 a, .int .u8 b, .bool c] w fun e w' => e = .returned (.bool true) ∧ Below w.heap.size w w' := by
  obtain ⟨a0, a1⟩ := u8_bd w0
  obtain ⟨b0, b1⟩ := u8_bd w1
  clear w0 w1
  obtain ⟨s0, s1⟩ := subF_bd a b false
  go_enter Try.func3, Try.ntmps3
  go_wp2_with fail
  refine (add_any _ _ _ _ a0 a1 b0 b1).mono ?_
  rintro e w1 ⟨rfl, hb1⟩
  go_wp2_with fail
  refine (sub_any _ _ _ _ a0 a1 b0 b1).mono ?_
  rintro e w2 ⟨rfl, hb2⟩
  go_wp2_with fail
  refine (refAdd_any _ _ _ _ a0 a1 b0 b1).mono ?_
  rintro e w3 ⟨rfl, hb3⟩
  go_wp2_with fail
  refine (refSub_any _ _ _ _ a0 a1 b0 b1).mono ?_
  rintro e w4 ⟨rfl, hb4⟩
  go_wp2_with fail
  refine (refSub_any _ _ _ _ a0 a1 b0 b1).mono ?_
  rintro e w5 ⟨rfl, hb5⟩
  go_wp2_with fail
  refine (cp_any _ _ _ a0 a1 b0 b1).mono ?_
  rintro e w6 ⟨rfl, hb6⟩
  go_wp2_with fail
  refine (mix_any _ _ _ s0 s1 b0 b1).mono ?_
  rintro e w7 ⟨rfl, hb7⟩
  go_wp2_with fail
  refine (lives2_any _).mono ?_
  rintro e w8 ⟨rfl, hb8⟩
  go_wp2_with fail
  go_ret
  exact ⟨rfl, below_step (below_step (below_step (below_step (below_step (below_step (below_step hb1 hb2) hb3) hb4) hb5) hb6) hb7) hb8⟩

set_option maxHeartbeats 3200000 in
theorem aluOnes_walk (a f : Int) (w0 : (Lit.int .u8 a).wf = true) (w1 : (Lit.int .u8 f).wf = true) (w : World) :
    Calls Try.prog 5 #[.int .u8 a, .int .u8 f] w fun e w' => e = .returned (.bool true) ∧ Below w.heap.size w w' := by
  obtain ⟨a0, a1⟩ := u8_bd w0
  obtain ⟨f0, f1⟩ := u8_bd w1
  clear w0 w1
  obtain ⟨s0, s1⟩ := subF_bd a 1 false
  obtain ⟨t0, t1⟩ := addF_bd a 1 false
  go_enter Try.func5, Try.ntmps5
  go_wp2_with fail
  refine (inc_any _ _ _ a0 a1 f0 f1).mono ?_
  rintro e w1 ⟨rfl, hb1⟩
  go_wp2_with fail
  refine (dec_any _ _ _ a0 a1 f0 f1).mono ?_
  rintro e w2 ⟨rfl, hb2⟩
  go_wp2_with fail
  refine (neg_any _ _ a0 a1).mono ?_
  rintro e w3 ⟨rfl, hb3⟩
  go_wp2_with fail
  refine (cpl_any _ _ _ a0 a1 f0 f1).mono ?_
  rintro e w4 ⟨rfl, hb4⟩
  go_wp2_with fail
  refine (daa_any _ _ _ a0 a1 f0 f1).mono ?_
  rintro e w5 ⟨rfl, hb5⟩
  go_wp2_with fail
  refine (refAdd_any _ _ _ _ a0 a1 (by decide) (by decide)).mono ?_
  rintro e w6 ⟨rfl, hb6⟩
  go_wp2_with fail
  refine (refSub_any _ _ _ _ a0 a1 (by decide) (by decide)).mono ?_
  rintro e w7 ⟨rfl, hb7⟩
  go_wp2_with fail
  refine (refSub_any _ _ _ _ (by decide) (by decide) a0 a1).mono ?_
  rintro e w8 ⟨rfl, hb8⟩
  go_wp2_with fail
  refine (refCpl_any _ _ _ a0 a1 f0 f1).mono ?_
  rintro e w9 ⟨rfl, hb9⟩
  go_wp2_with fail
  refine (refDaa_any _ _ _ a0 a1 f0 f1).mono ?_
  rintro e w10 ⟨rfl, hb10⟩
  go_wp2_with fail
  refine (keep_any _ _ _ t0 t1 f0 f1).mono ?_
  rintro e w11 ⟨rfl, hb11⟩
  go_wp2_with fail
  refine (keep_any _ _ _ s0 s1 f0 f1).mono ?_
  rintro e w12 ⟨rfl, hb12⟩
  go_wp2_with fail
  refine (lives2_any _).mono ?_
  rintro e w13 ⟨rfl, hb13⟩
  go_wp2_with fail
  go_ret
  exact ⟨rfl, below_step (below_step (below_step (below_step (below_step (below_step (below_step (below_step (below_step (below_step (below_step (below_step hb1 hb2) hb3) hb4) hb5) hb6) hb7) hb8) hb9) hb10) hb11) hb12) hb13⟩

set_option maxHeartbeats 3200000 in
theorem aluCarries_walk (a f q : Int) (w0 : (Lit.int .u8 a).wf = true) (w1 : (Lit.int .u8 f).wf = true) (w2 : (Lit.int .u8 q).wf = true) (w : World) :
    Calls Try.prog 6 #[.int .u8 a, .int .u8 f, .int .u8 q] w fun e w' => e = .returned (.bool true) ∧ Below w.heap.size w w' := by
  obtain ⟨a0, a1⟩ := u8_bd w0
  obtain ⟨f0, f1⟩ := u8_bd w1
  obtain ⟨q0, q1⟩ := u8_bd w2
  clear w0 w1 w2
  go_enter Try.func6, Try.ntmps6
  go_wp2_with fail
  refine (scf_any _ _ _ _ a0 a1 f0 f1 q0 q1).mono ?_
  rintro e w1 ⟨rfl, hb1⟩
  go_wp2_with fail
  refine (refScf_any _ _ _ _ a0 a1 f0 f1 q0 q1).mono ?_
  rintro e w2 ⟨rfl, hb2⟩
  go_wp2_with fail
  refine (ccf_any _ _ _ _ a0 a1 f0 f1 q0 q1).mono ?_
  rintro e w3 ⟨rfl, hb3⟩
  go_wp2_with fail
  refine (refCcf_any _ _ _ _ a0 a1 f0 f1 q0 q1).mono ?_
  rintro e w4 ⟨rfl, hb4⟩
  go_wp2_with fail
  refine (lives2_any _).mono ?_
  rintro e w5 ⟨rfl, hb5⟩
  go_wp2_with fail
  go_ret
  exact ⟨rfl, below_step (below_step (below_step (below_step hb1 hb2) hb3) hb4) hb5⟩

set_option maxRecDepth 100000 in
set_option maxHeartbeats 3200000 in
theorem aluDoes_walk (k a b : Int) (_w0 : (Lit.int .i64 k).wf = true) (w1 : (Lit.int .u8 a).wf = true) (w2 : (Lit.int .u8 b).wf = true) (w : World) :
    Calls Try.prog 4 #[.int .i64 k, .int .u8 a, .int .u8 b] w fun e w' => e = .returned (.bool true) ∧ Below w.heap.size w w' := by
  obtain ⟨a0, a1⟩ := u8_bd w1
  obtain ⟨b0, b1⟩ := u8_bd w2
  clear _w0 w1 w2
  go_enter Try.func4, Try.ntmps4
  go_wp2_with fail
  go_loopw [7] (fun i wr => ∃ n : Nat, n ≤ 306 ∧ i = .int .i64 n ∧ Below w.heap.size w wr) (fun i _ => 306 - (intOf i).toNat)
  case atStart => exact ⟨0, by omega, rfl, Below.refl _ _⟩
  case round =>
    obtain ⟨n, hn, rfl, hnx⟩ := hrel
    by_cases hlt : n < 256
    · have n0 : (0 : Int) ≤ (n : Int) := by omega
      have n1 : (n : Int) ≤ 255 := by omega
      go_wp2_with fail
      refine (do_any _ _ _ _ _ a0 a1 b0 b1 n0 n1).mono ?_
      rintro e w1 ⟨rfl, hb1⟩
      go_wp2_with fail
      refine (refDo_any _ _ _ _ _ a0 a1 b0 b1 n0 n1).mono ?_
      rintro e w2 ⟨rfl, hb2⟩
      go_wp2_with fail
      go_roundw
      case rel => exact ⟨n + 51, by omega, by go_num, below_step (below_step hnx hb1) hb2⟩
      case measure => simp [intOf]; omega
    · go_wp2_with fail
      refine (and_any _ _ _ a0 a1 b0 b1).mono ?_
      rintro e w1 ⟨rfl, hb1⟩
      go_wp2_with fail
      refine (xor_any _ _ _ a0 a1 b0 b1).mono ?_
      rintro e w2 ⟨rfl, hb2⟩
      go_wp2_with fail
      refine (or_any _ _ _ a0 a1 b0 b1).mono ?_
      rintro e w3 ⟨rfl, hb3⟩
      go_wp2_with fail
      refine (join4_any _ _ _ a0 a1 b0 b1).mono ?_
      rintro e w4 ⟨rfl, hb4⟩
      go_wp2_with fail
      refine (join5_any _ _ _ a0 a1 b0 b1).mono ?_
      rintro e w5 ⟨rfl, hb5⟩
      go_wp2_with fail
      refine (join6_any _ _ _ a0 a1 b0 b1).mono ?_
      rintro e w6 ⟨rfl, hb6⟩
      go_wp2_with fail
      refine (lives2_any _).mono ?_
      rintro e w7 ⟨rfl, hb7⟩
      go_wp2_with fail
      go_ret
      exact ⟨rfl, below_step (below_step (below_step (below_step (below_step (below_step (below_step hnx hb1) hb2) hb3) hb4) hb5) hb6) hb7⟩

end Go.Proofs.Ytndnadcmekjmnaa
