/- The document's answers for layer 2: their contracts. -/
import Derived.Test.YtbpmhbgdainpdaaAluMath
import Derived.Test.YtbpmhbgdainpdaaFlagHeld
namespace Go.Proofs.Ytbpmhbgdainpdaa
open Go.RowKit

set_option maxHeartbeats 400000 in
theorem signed_any (a : Int) (w : World) (h0 : 0 ≤ a) (h1 : a ≤ 255) : Calls Try.prog 39 #[.int .u8 a] w fun e w' => e = .returned (.int .i64 (sgn a)) ∧ w = w' := by
  unfold sgn
  by_cases h : 128 ≤ a
  · go_enter Try.func39, Try.ntmps39
    go_wp2_with fail
    go_ret
    exact ⟨by simp, rfl⟩
  · have hd : decide (128 ≤ a) = false := decide_eq_false h
    go_enter Try.func39, Try.ntmps39
    go_wp2_with fail
    go_ret
    exact ⟨by simp, rfl⟩
set_option maxHeartbeats 400000 in
theorem mod_any (n : Int) (w : World) (h0 : -512 ≤ n) (h1 : n ≤ 1000) : Calls Try.prog 40 #[.int .i64 n] w fun e w' => e = .returned (.int .u8 (n % 256)) ∧ w = w' := by
  have he := Lib.hid (show (n + 512) % 256 = n % 256 by omega)
  go_enter Try.func40, Try.ntmps40
  have he := he.out
  go_wp2_with fail
  go_ret
  exact ⟨rfl, rfl⟩
theorem mod_eq (n r : Int) (w : World) (h0 : -512 ≤ n) (h1 : n ≤ 1000) (h : n % 256 = r) : Calls Try.prog 40 #[.int .i64 n] w fun e w' => e = .returned (.int .u8 r) ∧ w = w' := by
  subst h; exact mod_any n w h0 h1
set_option maxHeartbeats 400000 in
theorem carry_any (c : Bool) (w : World) : Calls Try.prog 38 #[.bool c] w fun e w' => e = .returned (.int .i64 (cN c)) ∧ w = w' := by
  cases c
  all_goals
    go_enter Try.func38, Try.ntmps38
    go_wp2_with fail
    go_ret
    exact ⟨rfl, rfl⟩

theorem refSub_flags (a b : Int) (c p : Bool) (hp : p = outB (sgn a - sgn b - cN c)) :
    flagsOf (bitN (subR a b c) 0) (subR a b c == 0) (bitN (subR a b c) 2) (decide (a % 16 < b % 16 + cN c)) (bitN (subR a b c) 4) p true (decide (a - b - cN c < 0)) = subF a b c := by
  subst hp
  unfold subF
  rw [show decide (a % 16 < b % 16 + cN c) = decide (a % 16 - b % 16 - cN c < 0) by simp only [decide_eq_decide]; omega]
set_option maxHeartbeats 800000 in
theorem refSub_any (a b : Int) (c : Bool) (w : World) (a0 : 0 ≤ a) (a1 : a ≤ 255) (b0 : 0 ≤ b) (b1 : b ≤ 255) :
    Calls Try.prog 25 #[.int .u8 a, .int .u8 b, .bool c] w fun e w' => e = .returned (.tuple #[.int .u8 (subR a b c), .int .u8 (subF a b c)]) ∧ Below w.heap.size w w' := by
  obtain ⟨c0, c1⟩ := cN_bd c
  obtain ⟨s0, s1⟩ := sgn_bd a a0 a1
  obtain ⟨t0, t1⟩ := sgn_bd b b0 b1
  obtain ⟨r0, r1⟩ := subR_bd a b c
  by_cases hs : sgn a - sgn b - cN c < -128
  · have HF := Lib.hid (refSub_flags a b c true (by simp [outB, hs]))
    go_enter Try.func25, Try.ntmps25
    go_wp2_with fail
    refine (carry_any _ _).mono ?_
    rintro e w' ⟨rfl, rfl⟩
    go_wp2_with fail
    refine (signed_any _ _ a0 a1).mono ?_
    rintro e w' ⟨rfl, rfl⟩
    go_wp2_with fail
    refine (signed_any _ _ b0 b1).mono ?_
    rintro e w' ⟨rfl, rfl⟩
    go_wp2_with fail
    refine (carry_any _ _).mono ?_
    rintro e w' ⟨rfl, rfl⟩
    go_wp2_with fail
    refine (mod_eq _ (subR a b c) _ (by omega) (by omega) (by unfold subR; omega)).mono ?_
    rintro e w' ⟨rfl, rfl⟩
    go_wp2_with fail
    refine (bit_any _ _ _ r0 r1 (by decide) (by decide)).mono ?_
    rintro e w1 ⟨rfl, hb1⟩
    go_wp2_with fail
    refine (bit_any _ _ _ r0 r1 (by decide) (by decide)).mono ?_
    rintro e w2 ⟨rfl, hb2⟩
    go_wp2_with fail
    refine (carry_any _ _).mono ?_
    rintro e w' ⟨rfl, rfl⟩
    go_wp2_with fail
    refine (bit_any _ _ _ r0 r1 (by decide) (by decide)).mono ?_
    rintro e w3 ⟨rfl, hb3⟩
    go_wp2_with fail
    refine (flags_is _ _ _ _ _ _ _ _ _ _ HF.out).mono ?_
    rintro e w4 ⟨rfl, hb4⟩
    go_wp2_with fail
    go_ret2
    exact ⟨rfl, below_step (below_step (below_step hb1 hb2) hb3) hb4⟩
  · have hd : decide (sgn a - sgn b - cN c < -128) = false := decide_eq_false hs
    have HF := Lib.hid (refSub_flags a b c (decide (127 < sgn a - sgn b - cN c)) (by simp [outB, hs]))
    go_enter Try.func25, Try.ntmps25
    go_wp2_with fail
    refine (carry_any _ _).mono ?_
    rintro e w' ⟨rfl, rfl⟩
    go_wp2_with fail
    refine (signed_any _ _ a0 a1).mono ?_
    rintro e w' ⟨rfl, rfl⟩
    go_wp2_with fail
    refine (signed_any _ _ b0 b1).mono ?_
    rintro e w' ⟨rfl, rfl⟩
    go_wp2_with fail
    refine (carry_any _ _).mono ?_
    rintro e w' ⟨rfl, rfl⟩
    go_wp2_with fail
    refine (mod_eq _ (subR a b c) _ (by omega) (by omega) (by unfold subR; omega)).mono ?_
    rintro e w' ⟨rfl, rfl⟩
    go_wp2_with fail
    refine (bit_any _ _ _ r0 r1 (by decide) (by decide)).mono ?_
    rintro e w1 ⟨rfl, hb1⟩
    go_wp2_with fail
    refine (bit_any _ _ _ r0 r1 (by decide) (by decide)).mono ?_
    rintro e w2 ⟨rfl, hb2⟩
    go_wp2_with fail
    refine (carry_any _ _).mono ?_
    rintro e w' ⟨rfl, rfl⟩
    go_wp2_with fail
    refine (bit_any _ _ _ r0 r1 (by decide) (by decide)).mono ?_
    rintro e w3 ⟨rfl, hb3⟩
    go_wp2_with fail
    refine (flags_is _ _ _ _ _ _ _ _ _ _ HF.out).mono ?_
    rintro e w4 ⟨rfl, hb4⟩
    go_wp2_with fail
    go_ret2
    exact ⟨rfl, below_step (below_step (below_step hb1 hb2) hb3) hb4⟩


end Go.Proofs.Ytbpmhbgdainpdaa
