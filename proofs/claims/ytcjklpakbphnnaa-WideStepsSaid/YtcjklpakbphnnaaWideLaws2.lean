/- The laws of layer 3 on steps and on signs, walked. -/
import Derived.Test.YtcjklpakbphnnaaWideLaws
namespace Go.Proofs.Ytcjklpakbphnnaa
open Go.RowKit

theorem plus_is (a d r : Int) (w : World) (d0 : 0 ≤ d) (d1 : d ≤ 255) (hr : plusW a d = r) : Calls Try.prog 17 #[.int .u16 a, .int .u8 d] w fun e w' => e = .returned (.int .u16 r) ∧ w = w' := by
  subst hr; exact plus_any a d w d0 d1
/-- How far a byte with a sign goes, as a word. -/
def stepW (d : Int) : Int := sgn d % 65536
theorem step_eq (a d : Int) : IntKind.u16.wrap (plusW a d - a) = stepW d := by
  rw [wrap_u16w]; unfold plusW stepW; omega
theorem step_128 (a : Int) : IntKind.u16.wrap (a - 128) = plusW a 128 := by
  rw [wrap_u16w]; unfold plusW; simp [sgn]; omega
theorem step_back (a d : Int) (a0 : 0 ≤ a) (a1 : a ≤ 65535) (d0 : 0 ≤ d) (d1 : d ≤ 255) (hd : d ≠ 128) : plusW (plusW a d) ((-d) % 256) = a := by
  unfold plusW sgn
  split <;> split <;> omega
theorem step_none (a : Int) (a0 : 0 ≤ a) (a1 : a ≤ 65535) : plusW a 0 = a := by unfold plusW; simp [sgn]; omega
theorem step_low (d : Int) (d0 : 0 ≤ d) (d1 : d ≤ 127) : stepW d ≤ 127 := by unfold stepW sgn; split <;> omega
theorem step_high (d : Int) (d0 : 128 ≤ d) (d1 : d ≤ 255) : 65408 ≤ stepW d := by unfold stepW sgn; split <;> omega

set_option maxHeartbeats 3200000 in
theorem wideSteps_walk (a d : Int) (w0 : (Lit.int .u16 a).wf = true) (w1 : (Lit.int .u8 d).wf = true) (w : World) :
    Calls Try.prog 6 #[.int .u16 a, .int .u8 d] w fun e w' => e = .returned (.bool true) ∧ Below w.heap.size w w' := by
  obtain ⟨a0, a1⟩ := bounds_u16 w0
  obtain ⟨d0, d1⟩ := u8_bd w1
  clear w0 w1
  by_cases h : d = 128
  · subst h
    have e1 := step_128 a
    go_enter Try.func6, Try.ntmps6
    go_wp2_with fail
    refine (plus_any _ _ _ (by decide) (by decide)).mono ?_
    rintro e w' ⟨rfl, rfl⟩
    go_wp2_with fail
    refine (lives3_any _).mono ?_
    rintro e w1 ⟨rfl, hb1⟩
    go_wp2_with fail
    go_ret
    exact ⟨rfl, hb1⟩
  · have hb := beq_false_of_ne h
    have HB := Lib.hid (step_back a d a0 a1 d0 d1 h)
    have HN := Lib.hid (step_none a a0 a1)
    have e1 := step_eq a d
    by_cases g : d ≤ 127
    · have hl : decide (stepW d ≤ 127) = true := decide_eq_true (step_low d d0 g)
      clear h
      go_enter Try.func6, Try.ntmps6
      go_wp2_with fail
      refine (plus_any _ _ _ d0 d1).mono ?_
      rintro e w' ⟨rfl, rfl⟩
      go_wp2_with fail
      refine (plus_is _ _ _ _ (by omega) (by omega) HB.out).mono ?_
      rintro e w' ⟨rfl, rfl⟩
      go_wp2_with fail
      refine (plus_is _ _ _ _ (by decide) (by decide) HN.out).mono ?_
      rintro e w' ⟨rfl, rfl⟩
      go_wp2_with fail
      refine (lives3_any _).mono ?_
      rintro e w1 ⟨rfl, hb1⟩
      go_wp2_with fail
      go_ret
      exact ⟨rfl, hb1⟩
    · have hh := step_high d (by omega) d1
      have hl : decide (stepW d ≤ 127) = false := decide_eq_false (by omega)
      have hk : decide (65408 ≤ stepW d) = true := decide_eq_true hh
      clear h hh
      go_enter Try.func6, Try.ntmps6
      go_wp2_with fail
      refine (plus_any _ _ _ d0 d1).mono ?_
      rintro e w' ⟨rfl, rfl⟩
      go_wp2_with fail
      refine (plus_is _ _ _ _ (by omega) (by omega) HB.out).mono ?_
      rintro e w' ⟨rfl, rfl⟩
      go_wp2_with fail
      refine (plus_is _ _ _ _ (by decide) (by decide) HN.out).mono ?_
      rintro e w' ⟨rfl, rfl⟩
      go_wp2_with fail
      refine (lives3_any _).mono ?_
      rintro e w1 ⟨rfl, hb1⟩
      go_wp2_with fail
      go_ret
      exact ⟨rfl, hb1⟩

theorem sbc_z (a b : Int) (a0 : 0 ≤ a) (a1 : a ≤ 65535) (b0 : 0 ≤ b) (b1 : b ≤ 65535) : (bits .and .u8 (sbcWF a b false) 64 != 0) = (a == b) := by
  rw [has_64 _ (sbcWF_bd a b false).1 (sbcWF_bd a b false).2]
  refine ((bit_flags _ _ _ _ _ _ _ _).2.1).trans ?_
  rw [Bool.eq_iff_iff, beq_iff_eq, beq_iff_eq]
  unfold wsub; simp [cN]; omega
theorem sbc_less (a b : Int) : (bits .and .u8 (sbcWF a b false) 1 != 0) = decide (a < b) := by
  rw [sbc_c]; unfold wsubC; rw [decide_eq_decide]; simp [cN]; omega
theorem signed_W (a b : Int) (a0 : 0 ≤ a) (a1 : a ≤ 65535) (b0 : 0 ≤ b) (b1 : b ≤ 65535) :
    ((bits .and .u8 (sbcWF a b false) 128 != 0) != (bits .and .u8 (sbcWF a b false) 4 != 0)) = decide (sgnW a < sgnW b) := by
  have hb := sbcWF_bd a b false
  rw [has_128 _ hb.1 hb.2, has_4 _ hb.1 hb.2]
  have h1 : bitN (sbcWF a b false) 0 = bitW (wsub a b false) 15 := (bit_flags _ _ _ _ _ _ _ _).1
  have h2 : bitN (sbcWF a b false) 5 = outW (sgnW a - sgnW b - cN false) := (bit_flags _ _ _ _ _ _ _ _).2.2.2.2.2.1
  rw [h1, h2]
  have h3 : bitW (wsub a b false) 15 = decide (32768 ≤ wsub a b false) := by
    have h := wsub_bd a b false
    unfold bitW
    rw [Bool.eq_iff_iff, beq_iff_eq, decide_eq_true_eq]
    omega
  rw [h3]
  have h4 : ∀ x y z : Bool, (x != y) = z ↔ (x = true ↔ ¬ (y = z)) := by decide
  rw [h4]
  unfold outW wsub sgnW
  simp only [cN]
  by_cases g1 : sgnW a - sgnW b < -32768 <;> by_cases g2 : 32767 < sgnW a - sgnW b <;> by_cases g3 : sgnW a < sgnW b
  all_goals
    unfold sgnW at g1 g2 g3
    simp [g1, g2, g3]
    split at g1 <;> split at g1 <;> omega
theorem add_swap (a b : Int) : wadd b a false = wadd a b false := by unfold wadd; rw [Int.add_comm b a]
theorem addF_swap (a b f : Int) : addWF b a f = addWF a b f := by
  unfold addWF waddH waddC
  rw [add_swap a b, Int.add_comm b a, Int.add_comm (b % 4096) (a % 4096)]

set_option maxHeartbeats 3200000 in
theorem wideSigned_walk (a b f : Int) (w0 : (Lit.int .u16 a).wf = true) (w1 : (Lit.int .u16 b).wf = true) (w2 : (Lit.int .u8 f).wf = true) (w : World) :
    Calls Try.prog 7 #[.int .u16 a, .int .u16 b, .int .u8 f] w fun e w' => e = .returned (.bool true) ∧ Below w.heap.size w w' := by
  obtain ⟨a0, a1⟩ := bounds_u16 w0
  obtain ⟨b0, b1⟩ := bounds_u16 w1
  obtain ⟨f0, f1⟩ := u8_bd w2
  clear w0 w1 w2
  obtain ⟨o0, o1⟩ := offC_bd f
  have eo := offC_is f f0 f1
  have H1 := Lib.hid (show sbcWF a b (bitN (offC f) 7) = sbcWF a b false by rw [offC_7])
  have H2 := Lib.hid (add_swap a b)
  have H3 := Lib.hid (addF_swap a b f)
  have hz := sbc_z a b a0 a1 b0 b1
  have hc := sbc_less a b
  have hl := signed_W a b a0 a1 b0 b1
  have ea := wrap_i16 a a0 a1
  have eb := wrap_i16 b b0 b1
  generalize hx : (bits .and .u8 (sbcWF a b false) 128 != 0) = x at hl
  generalize hy : (bits .and .u8 (sbcWF a b false) 4 != 0) = y at hl
  cases x
  all_goals
    cases y
    all_goals
      have hd := hl.symm
      simp only [bne_self_eq_false, Bool.bne_false, Bool.bne_true, Bool.not_false] at hd
      clear hl
      go_enter Try.func7, Try.ntmps7
      go_wp2_with fail
      refine (wideSbc_is _ _ _ _ _ _ a0 a1 b0 b1 o0 o1 rfl H1.out).mono ?_
      rintro e w1 ⟨rfl, hb1⟩
      go_wp2_with fail
      refine (wideAdd_any _ _ _ _ a0 a1 b0 b1 f0 f1).mono ?_
      rintro e w2 ⟨rfl, hb2⟩
      go_wp2_with fail
      refine (wideAdd_is _ _ _ _ _ _ b0 b1 a0 a1 f0 f1 H2.out H3.out).mono ?_
      rintro e w3 ⟨rfl, hb3⟩
      go_wp2_with fail
      refine (lives3_any _).mono ?_
      rintro e w4 ⟨rfl, hb4⟩
      go_wp2_with fail
      go_ret
      exact ⟨rfl, below_step (below_step (below_step hb1 hb2) hb3) hb4⟩

end Go.Proofs.Ytcjklpakbphnnaa
