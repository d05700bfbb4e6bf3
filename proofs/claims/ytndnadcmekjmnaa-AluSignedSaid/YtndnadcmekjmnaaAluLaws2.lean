/- The laws of layer 2 without the document's answer, walked. -/
import Derived.Test.YtndnadcmekjmnaaAluDo
namespace Go.Proofs.Ytndnadcmekjmnaa
open Go.RowKit

theorem back_sum (a b : Int) (c : Bool) (a0 : 0 ≤ a) (a1 : a ≤ 255) : subR (addR a b c) b c = a := by unfold subR addR; omega
theorem back_neg (a b : Int) : subR 0 (subR a b false) false = subR b a false := by unfold subR; simp [cN]; omega
theorem back_one (a : Int) (a0 : 0 ≤ a) (a1 : a ≤ 255) : subR (addR a 1 false) 1 false = a := by unfold subR addR; omega
theorem back_two (a : Int) (a0 : 0 ≤ a) (a1 : a ≤ 255) : subR 0 (subR 0 a false) false = a := by unfold subR; simp [cN]; omega
theorem subF_z (a b : Int) (a0 : 0 ≤ a) (a1 : a ≤ 255) (b0 : 0 ≤ b) (b1 : b ≤ 255) : (bits .and .u8 (subF a b false) 64 != 0) = (a == b) := by
  rw [has_64 _ (subF_bd a b false).1 (subF_bd a b false).2]
  refine ((bit_flags _ _ _ _ _ _ _ _).2.1).trans ?_
  rw [Bool.eq_iff_iff, beq_iff_eq, beq_iff_eq]
  unfold subR; simp [cN]; omega
theorem subF_c (a b : Int) : (bits .and .u8 (subF a b false) 1 != 0) = decide (a < b) := by
  rw [has_1 _ (subF_bd a b false).1 (subF_bd a b false).2]
  refine ((bit_flags _ _ _ _ _ _ _ _).2.2.2.2.2.2.2).trans ?_
  rw [decide_eq_decide]
  simp [cN]; omega
theorem neg_is (a r f : Int) (w : World) (a0 : 0 ≤ a) (a1 : a ≤ 255) (hr : subR 0 a false = r) (hf : subF 0 a false = f) :
    Calls Try.prog 25 #[.int .u8 a] w fun e w' => e = .returned (.tuple #[.int .u8 r, .int .u8 f]) ∧ Below w.heap.size w w' := by
  subst hr hf; exact neg_any a w a0 a1
theorem dec_is (a f r g : Int) (w : World) (a0 : 0 ≤ a) (a1 : a ≤ 255) (f0 : 0 ≤ f) (f1 : f ≤ 255) (hr : subR a 1 false = r) (hf : keepF (subF a 1 false) f = g) :
    Calls Try.prog 24 #[.int .u8 a, .int .u8 f] w fun e w' => e = .returned (.tuple #[.int .u8 r, .int .u8 g]) ∧ Below w.heap.size w w' := by
  subst hr hf; exact dec_any a f w a0 a1 f0 f1

set_option maxHeartbeats 3200000 in
theorem aluBack_walk (a b : Int) (c : Bool) (w0 : (Lit.int .u8 a).wf = true) (w1 : (Lit.int .u8 b).wf = true) (w : World) :
    Calls Try.prog 7 #[.int .u8 a, .int .u8 b, .bool c] w fun e w' => e = .returned (.bool true) ∧ Below w.heap.size w w' := by
  obtain ⟨a0, a1⟩ := u8_bd w0
  obtain ⟨b0, b1⟩ := u8_bd w1
  clear w0 w1
  obtain ⟨r0, r1⟩ := addR_bd a b c
  obtain ⟨s0, s1⟩ := subR_bd a b false
  obtain ⟨i0, i1⟩ := addR_bd a 1 false
  have H1 := Lib.hid (back_sum a b c a0 a1)
  have H2 := Lib.hid (back_neg a b)
  have H3 := Lib.hid (back_one a a0 a1)
  have hz := subF_z a b a0 a1 b0 b1
  have hc := subF_c a b
  go_enter Try.func7, Try.ntmps7
  go_wp2_with fail
  refine (add_any _ _ _ _ a0 a1 b0 b1).mono ?_
  rintro e w1 ⟨rfl, hb1⟩
  go_wp2_with fail
  refine (sub_is _ _ _ _ _ _ r0 r1 b0 b1 H1.out rfl).mono ?_
  rintro e w2 ⟨rfl, hb2⟩
  go_wp2_with fail
  refine (sub_any _ _ _ _ a0 a1 b0 b1).mono ?_
  rintro e w3 ⟨rfl, hb3⟩
  go_wp2_with fail
  refine (neg_is _ _ _ _ s0 s1 H2.out rfl).mono ?_
  rintro e w4 ⟨rfl, hb4⟩
  go_wp2_with fail
  refine (sub_any _ _ _ _ b0 b1 a0 a1).mono ?_
  rintro e w5 ⟨rfl, hb5⟩
  go_wp2_with fail
  refine (inc_any _ _ _ a0 a1 (by decide) (by decide)).mono ?_
  rintro e w6 ⟨rfl, hb6⟩
  go_wp2_with fail
  refine (dec_is _ _ _ _ _ i0 i1 (by decide) (by decide) H3.out rfl).mono ?_
  rintro e w7 ⟨rfl, hb7⟩
  go_wp2_with fail
  refine (lives2_any _).mono ?_
  rintro e w8 ⟨rfl, hb8⟩
  go_wp2_with fail
  go_ret
  exact ⟨rfl, below_step (below_step (below_step (below_step (below_step (below_step (below_step hb1 hb2) hb3) hb4) hb5) hb6) hb7) hb8⟩

theorem signed_less (a b : Int) (a0 : 0 ≤ a) (a1 : a ≤ 255) (b0 : 0 ≤ b) (b1 : b ≤ 255) :
    ((bits .and .u8 (mixF (subF a b false) b) 128 != 0) != (bits .and .u8 (mixF (subF a b false) b) 4 != 0)) = decide (sgn a < sgn b) := by
  have hb : 0 ≤ mixF (subF a b false) b ∧ mixF (subF a b false) b ≤ 255 := flags_bd _ _ _ _ _ _ _ _
  rw [has_128 _ hb.1 hb.2, has_4 _ hb.1 hb.2]
  have h1 : bitN (mixF (subF a b false) b) 0 = bitN (subR a b false) 0 := ((bit_flags _ _ _ _ _ _ _ _).1).trans ((bit_flags _ _ _ _ _ _ _ _).1)
  have h2 : bitN (mixF (subF a b false) b) 5 = outB (sgn a - sgn b - cN false) := ((bit_flags _ _ _ _ _ _ _ _).2.2.2.2.2.1).trans ((bit_flags _ _ _ _ _ _ _ _).2.2.2.2.2.1)
  rw [h1, h2]
  have h3 : bitN (subR a b false) 0 = decide (128 ≤ subR a b false) := by
    have h := subR_bd a b false
    unfold bitN
    rw [Bool.eq_iff_iff, beq_iff_eq, decide_eq_true_eq]
    omega
  rw [h3]
  have h4 : ∀ x y z : Bool, (x != y) = z ↔ (x = true ↔ ¬ (y = z)) := by decide
  rw [h4]
  unfold outB subR sgn
  simp only [cN]
  by_cases g1 : sgn a - sgn b < -128 <;> by_cases g2 : 127 < sgn a - sgn b <;> by_cases g3 : sgn a < sgn b
  all_goals
    unfold sgn at g1 g2 g3
    simp [g1, g2, g3]
    split at g1 <;> split at g1 <;> omega
theorem mix_z (a b : Int) (a0 : 0 ≤ a) (a1 : a ≤ 255) (b0 : 0 ≤ b) (b1 : b ≤ 255) : (bits .and .u8 (mixF (subF a b false) b) 64 != 0) = (a == b) := by
  have hb : 0 ≤ mixF (subF a b false) b ∧ mixF (subF a b false) b ≤ 255 := flags_bd _ _ _ _ _ _ _ _
  rw [← subF_z a b a0 a1 b0 b1, has_64 _ hb.1 hb.2, has_64 _ (subF_bd a b false).1 (subF_bd a b false).2]
  exact (bit_flags _ _ _ _ _ _ _ _).2.1

set_option maxHeartbeats 3200000 in
theorem aluSigned_walk (a b : Int) (w0 : (Lit.int .u8 a).wf = true) (w1 : (Lit.int .u8 b).wf = true) (w : World) :
    Calls Try.prog 9 #[.int .u8 a, .int .u8 b] w fun e w' => e = .returned (.bool true) ∧ Below w.heap.size w w' := by
  obtain ⟨a0, a1⟩ := u8_bd w0
  obtain ⟨b0, b1⟩ := u8_bd w1
  clear w0 w1
  obtain ⟨s0, s1⟩ := subR_bd 0 a false
  have H1 := Lib.hid (back_two a a0 a1)
  have hz := mix_z a b a0 a1 b0 b1
  have hl := signed_less a b a0 a1 b0 b1
  have ea := wrap_i8 a a0 a1
  have eb := wrap_i8 b b0 b1
  generalize hx : (bits .and .u8 (mixF (subF a b false) b) 128 != 0) = x at hl
  generalize hy : (bits .and .u8 (mixF (subF a b false) b) 4 != 0) = y at hl
  cases x
  · cases y
    · have hd : decide (sgn a < sgn b) = false := hl.symm
      clear hl
      go_enter Try.func9, Try.ntmps9
      go_wp2_with fail
      refine (cp_any _ _ _ a0 a1 b0 b1).mono ?_
      rintro e w1 ⟨rfl, hb1⟩
      go_wp2_with fail
      refine (neg_any _ _ a0 a1).mono ?_
      rintro e w2 ⟨rfl, hb2⟩
      go_wp2_with fail
      refine (neg_is _ _ _ _ s0 s1 H1.out rfl).mono ?_
      rintro e w3 ⟨rfl, hb3⟩
      go_wp2_with fail
      refine (lives2_any _).mono ?_
      rintro e w4 ⟨rfl, hb4⟩
      go_wp2_with fail
      go_ret
      exact ⟨rfl, below_step (below_step (below_step hb1 hb2) hb3) hb4⟩
    · have hd : decide (sgn a < sgn b) = true := hl.symm
      clear hl
      go_enter Try.func9, Try.ntmps9
      go_wp2_with fail
      refine (cp_any _ _ _ a0 a1 b0 b1).mono ?_
      rintro e w1 ⟨rfl, hb1⟩
      go_wp2_with fail
      refine (neg_any _ _ a0 a1).mono ?_
      rintro e w2 ⟨rfl, hb2⟩
      go_wp2_with fail
      refine (neg_is _ _ _ _ s0 s1 H1.out rfl).mono ?_
      rintro e w3 ⟨rfl, hb3⟩
      go_wp2_with fail
      refine (lives2_any _).mono ?_
      rintro e w4 ⟨rfl, hb4⟩
      go_wp2_with fail
      go_ret
      exact ⟨rfl, below_step (below_step (below_step hb1 hb2) hb3) hb4⟩
  · cases y
    · have hd : decide (sgn a < sgn b) = true := hl.symm
      clear hl
      go_enter Try.func9, Try.ntmps9
      go_wp2_with fail
      refine (cp_any _ _ _ a0 a1 b0 b1).mono ?_
      rintro e w1 ⟨rfl, hb1⟩
      go_wp2_with fail
      refine (neg_any _ _ a0 a1).mono ?_
      rintro e w2 ⟨rfl, hb2⟩
      go_wp2_with fail
      refine (neg_is _ _ _ _ s0 s1 H1.out rfl).mono ?_
      rintro e w3 ⟨rfl, hb3⟩
      go_wp2_with fail
      refine (lives2_any _).mono ?_
      rintro e w4 ⟨rfl, hb4⟩
      go_wp2_with fail
      go_ret
      exact ⟨rfl, below_step (below_step (below_step hb1 hb2) hb3) hb4⟩
    · have hd : decide (sgn a < sgn b) = false := hl.symm
      clear hl
      go_enter Try.func9, Try.ntmps9
      go_wp2_with fail
      refine (cp_any _ _ _ a0 a1 b0 b1).mono ?_
      rintro e w1 ⟨rfl, hb1⟩
      go_wp2_with fail
      refine (neg_any _ _ a0 a1).mono ?_
      rintro e w2 ⟨rfl, hb2⟩
      go_wp2_with fail
      refine (neg_is _ _ _ _ s0 s1 H1.out rfl).mono ?_
      rintro e w3 ⟨rfl, hb3⟩
      go_wp2_with fail
      refine (lives2_any _).mono ?_
      rintro e w4 ⟨rfl, hb4⟩
      go_wp2_with fail
      go_ret
      exact ⟨rfl, below_step (below_step (below_step hb1 hb2) hb3) hb4⟩

end Go.Proofs.Ytndnadcmekjmnaa
