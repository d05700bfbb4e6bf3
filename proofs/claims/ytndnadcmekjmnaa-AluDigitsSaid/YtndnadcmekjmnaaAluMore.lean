/- The contracts of layer 2's other calls. -/
import Derived.Test.YtndnadcmekjmnaaAluWalk
namespace Go.Proofs.Ytndnadcmekjmnaa
open Go.RowKit

set_option maxHeartbeats 800000 in
theorem cp_any (a b : Int) (w : World) (a0 : 0 ≤ a) (a1 : a ≤ 255) (b0 : 0 ≤ b) (b1 : b ≤ 255) :
    Calls Try.prog 14 #[.int .u8 a, .int .u8 b] w fun e w' => e = .returned (.int .u8 (mixF (subF a b false) b)) ∧ Below w.heap.size w w' := by
  have hs := subF_bd a b false
  have HP := Lib.hid (mix_put (subF a b false) b hs.1 hs.2)
  have H2 := Lib.hid (has_32 b b0 b1)
  have H4 := Lib.hid (has_8 b b0 b1)
  clear hs
  go_enter Try.func14, Try.ntmps14
  go_wp2_with fail
  refine (sub_any _ _ _ _ a0 a1 b0 b1).mono ?_
  rintro e w1 ⟨rfl, hb1⟩
  go_wp2_with fail
  refine (has_is _ _ _ _ H2.out).mono ?_
  rintro e w' ⟨rfl, rfl⟩
  go_wp2_with fail
  refine (has_is _ _ _ _ H4.out).mono ?_
  rintro e w' ⟨rfl, rfl⟩
  go_wp2_with fail
  refine (put2 _ _ _ _ _ _ _ _ HP.out).mono ?_
  rintro e w2 ⟨rfl, hb2⟩
  go_wp2_with fail
  go_ret
  exact ⟨rfl, below_step hb1 hb2⟩

set_option maxHeartbeats 800000 in
theorem and_any (a b : Int) (w : World) (a0 : 0 ≤ a) (a1 : a ≤ 255) (b0 : 0 ≤ b) (b1 : b ≤ 255) :
    Calls Try.prog 19 #[.int .u8 a, .int .u8 b] w fun e w' => e = .returned (.tuple #[.int .u8 (andR a b), .int .u8 (joinF (andR a b) true)]) ∧ Below w.heap.size w w' := by
  have e : bits .and .u8 a b = andR a b := bits_and a b a0 a1 b0 b1
  obtain ⟨r0, r1⟩ := andR_bd a b
  have HP := Lib.hid (join_put (andR a b) r0 r1 true)
  go_enter Try.func19, Try.ntmps19
  go_wp2_with fail
  refine (ofP_any _ _ r0 r1).mono ?_
  rintro e w' ⟨rfl, rfl⟩
  go_wp2_with fail
  refine (put1 _ _ _ _ _ _ HP.out).mono ?_
  rintro e w1 ⟨rfl, hb1⟩
  go_wp2_with fail
  go_ret2
  exact ⟨rfl, hb1⟩

set_option maxHeartbeats 800000 in
theorem xor_any (a b : Int) (w : World) (a0 : 0 ≤ a) (a1 : a ≤ 255) (b0 : 0 ≤ b) (b1 : b ≤ 255) :
    Calls Try.prog 20 #[.int .u8 a, .int .u8 b] w fun e w' => e = .returned (.tuple #[.int .u8 (xorR a b), .int .u8 (joinF (xorR a b) false)]) ∧ Below w.heap.size w w' := by
  have e : bits .xor .u8 a b = xorR a b := bits_xor a b a0 a1 b0 b1
  obtain ⟨r0, r1⟩ := xorR_bd a b
  have HP := Lib.hid (join_ofP (xorR a b) r0 r1)
  go_enter Try.func20, Try.ntmps20
  go_wp2_with fail
  refine (ofP_is _ _ _ r0 r1 HP.out).mono ?_
  rintro e w' ⟨rfl, rfl⟩
  go_wp2_with fail
  go_ret2
  exact ⟨rfl, Below.refl _ _⟩

set_option maxHeartbeats 800000 in
theorem or_any (a b : Int) (w : World) (a0 : 0 ≤ a) (a1 : a ≤ 255) (b0 : 0 ≤ b) (b1 : b ≤ 255) :
    Calls Try.prog 21 #[.int .u8 a, .int .u8 b] w fun e w' => e = .returned (.tuple #[.int .u8 (orR a b), .int .u8 (joinF (orR a b) false)]) ∧ Below w.heap.size w w' := by
  have e : bits .or .u8 a b = orR a b := bits_or a b a0 a1 b0 b1
  obtain ⟨r0, r1⟩ := orR_bd a b
  have HP := Lib.hid (join_ofP (orR a b) r0 r1)
  go_enter Try.func21, Try.ntmps21
  go_wp2_with fail
  refine (ofP_is _ _ _ r0 r1 HP.out).mono ?_
  rintro e w' ⟨rfl, rfl⟩
  go_wp2_with fail
  go_ret2
  exact ⟨rfl, Below.refl _ _⟩

set_option maxHeartbeats 800000 in
theorem inc_any (a f : Int) (w : World) (a0 : 0 ≤ a) (a1 : a ≤ 255) (f0 : 0 ≤ f) (f1 : f ≤ 255) :
    Calls Try.prog 23 #[.int .u8 a, .int .u8 f] w fun e w' => e = .returned (.tuple #[.int .u8 (addR a 1 false), .int .u8 (keepF (addF a 1 false) f)]) ∧ Below w.heap.size w w' := by
  have hs := addF_bd a 1 false
  have HP := Lib.hid (keep_put (addF a 1 false) f hs.1 hs.2)
  have H1 := Lib.hid (has_1 f f0 f1)
  clear hs
  go_enter Try.func23, Try.ntmps23
  go_wp2_with fail
  refine (add_any _ _ _ _ a0 a1 (by decide) (by decide)).mono ?_
  rintro e w1 ⟨rfl, hb1⟩
  go_wp2_with fail
  refine (has_is _ _ _ _ H1.out).mono ?_
  rintro e w' ⟨rfl, rfl⟩
  go_wp2_with fail
  refine (put1 _ _ _ _ _ _ HP.out).mono ?_
  rintro e w2 ⟨rfl, hb2⟩
  go_wp2_with fail
  go_ret2
  exact ⟨rfl, below_step hb1 hb2⟩

set_option maxHeartbeats 800000 in
theorem dec_any (a f : Int) (w : World) (a0 : 0 ≤ a) (a1 : a ≤ 255) (f0 : 0 ≤ f) (f1 : f ≤ 255) :
    Calls Try.prog 24 #[.int .u8 a, .int .u8 f] w fun e w' => e = .returned (.tuple #[.int .u8 (subR a 1 false), .int .u8 (keepF (subF a 1 false) f)]) ∧ Below w.heap.size w w' := by
  have hs := subF_bd a 1 false
  have HP := Lib.hid (keep_put (subF a 1 false) f hs.1 hs.2)
  have H1 := Lib.hid (has_1 f f0 f1)
  clear hs
  go_enter Try.func24, Try.ntmps24
  go_wp2_with fail
  refine (sub_any _ _ _ _ a0 a1 (by decide) (by decide)).mono ?_
  rintro e w1 ⟨rfl, hb1⟩
  go_wp2_with fail
  refine (has_is _ _ _ _ H1.out).mono ?_
  rintro e w' ⟨rfl, rfl⟩
  go_wp2_with fail
  refine (put1 _ _ _ _ _ _ HP.out).mono ?_
  rintro e w2 ⟨rfl, hb2⟩
  go_wp2_with fail
  go_ret2
  exact ⟨rfl, below_step hb1 hb2⟩

set_option maxHeartbeats 800000 in
theorem neg_any (a : Int) (w : World) (a0 : 0 ≤ a) (a1 : a ≤ 255) :
    Calls Try.prog 25 #[.int .u8 a] w fun e w' => e = .returned (.tuple #[.int .u8 (subR 0 a false), .int .u8 (subF 0 a false)]) ∧ Below w.heap.size w w' := by
  go_enter Try.func25, Try.ntmps25
  go_wp2_with fail
  refine (sub_any _ _ _ _ (by decide) (by decide) a0 a1).mono ?_
  rintro e w1 ⟨rfl, hb1⟩
  go_wp2_with fail
  go_ret2
  exact ⟨rfl, hb1⟩

set_option maxHeartbeats 800000 in
theorem cpl_any (a f : Int) (w : World) (a0 : 0 ≤ a) (a1 : a ≤ 255) (f0 : 0 ≤ f) (f1 : f ≤ 255) :
    Calls Try.prog 26 #[.int .u8 a, .int .u8 f] w fun e w' => e = .returned (.tuple #[.int .u8 (255 - a), .int .u8 (cplF a f)]) ∧ Below w.heap.size w w' := by
  have HP := Lib.hid (cpl_put a f f0 f1)
  have H2 := Lib.hid (has_32 (255 - a) (by omega) (by omega))
  have H4 := Lib.hid (has_8 (255 - a) (by omega) (by omega))
  have e := not_u8 a a0 a1
  go_enter Try.func26, Try.ntmps26
  go_wp2_with fail
  refine (has_is _ _ _ _ H2.out).mono ?_
  rintro e w' ⟨rfl, rfl⟩
  go_wp2_with fail
  refine (has_is _ _ _ _ H4.out).mono ?_
  rintro e w' ⟨rfl, rfl⟩
  go_wp2_with fail
  refine (put3 _ _ _ _ _ _ _ _ _ _ HP.out).mono ?_
  rintro e w1 ⟨rfl, hb1⟩
  go_wp2_with fail
  go_ret2
  exact ⟨rfl, hb1⟩

set_option maxHeartbeats 800000 in
theorem leaked_any (a f q : Int) (w : World) (a0 : 0 ≤ a) (a1 : a ≤ 255) (f0 : 0 ≤ f) (f1 : f ≤ 255) (q0 : 0 ≤ q) (q1 : q ≤ 255) :
    Calls Try.prog 50 #[.int .u8 a, .int .u8 f, .int .u8 q] w fun e w' => e = .returned (.int .u8 (leakF a f q)) ∧ Below w.heap.size w w' := by
  have HP := Lib.hid (leak_put a f q f0 f1)
  obtain ⟨l0, l1, l2⟩ := leak_bit a f q a0 a1 f0 f1 q0 q1 2 (by decide)
  obtain ⟨_, _, l4⟩ := leak_bit a f q a0 a1 f0 f1 q0 q1 4 (by decide)
  have H2 := Lib.hid ((has_32 (leakR a f q) l0 l1).trans l2)
  have H4 := Lib.hid ((has_8 (leakR a f q) l0 l1).trans l4)
  clear l0 l1 l2 l4
  go_enter Try.func50, Try.ntmps50
  go_wp2_with fail
  refine (has_is _ _ _ _ H2.out).mono ?_
  rintro e w' ⟨rfl, rfl⟩
  go_wp2_with fail
  refine (has_is _ _ _ _ H4.out).mono ?_
  rintro e w' ⟨rfl, rfl⟩
  go_wp2_with fail
  refine (put2 _ _ _ _ _ _ _ _ HP.out).mono ?_
  rintro e w1 ⟨rfl, hb1⟩
  go_wp2_with fail
  go_ret
  exact ⟨rfl, hb1⟩

set_option maxHeartbeats 800000 in
theorem scf_any (a f q : Int) (w : World) (a0 : 0 ≤ a) (a1 : a ≤ 255) (f0 : 0 ≤ f) (f1 : f ≤ 255) (q0 : 0 ≤ q) (q1 : q ≤ 255) :
    Calls Try.prog 31 #[.int .u8 a, .int .u8 f, .int .u8 q] w fun e w' => e = .returned (.int .u8 (scfF a f q)) ∧ Below w.heap.size w w' := by
  have HP := Lib.hid (scf_put a f q)
  go_enter Try.func31, Try.ntmps31
  go_wp2_with fail
  refine (leaked_any _ _ _ _ a0 a1 f0 f1 q0 q1).mono ?_
  rintro e w1 ⟨rfl, hb1⟩
  go_wp2_with fail
  refine (put2 _ _ _ _ _ _ _ _ HP.out).mono ?_
  rintro e w2 ⟨rfl, hb2⟩
  go_wp2_with fail
  go_ret
  exact ⟨rfl, below_step hb1 hb2⟩

set_option maxHeartbeats 800000 in
theorem ccf_any (a f q : Int) (w : World) (a0 : 0 ≤ a) (a1 : a ≤ 255) (f0 : 0 ≤ f) (f1 : f ≤ 255) (q0 : 0 ≤ q) (q1 : q ≤ 255) :
    Calls Try.prog 33 #[.int .u8 a, .int .u8 f, .int .u8 q] w fun e w' => e = .returned (.int .u8 (ccfF a f q)) ∧ Below w.heap.size w w' := by
  have HP := Lib.hid (ccf_put a f q)
  have H1 := Lib.hid (has_1 f f0 f1)
  go_enter Try.func33, Try.ntmps33
  go_wp2_with fail
  refine (has_is _ _ _ _ H1.out).mono ?_
  rintro e w' ⟨rfl, rfl⟩
  go_wp2_with fail
  refine (leaked_any _ _ _ _ a0 a1 f0 f1 q0 q1).mono ?_
  rintro e w1 ⟨rfl, hb1⟩
  go_wp2_with fail
  refine (put3 _ _ _ _ _ _ _ _ _ _ HP.out).mono ?_
  rintro e w2 ⟨rfl, hb2⟩
  go_wp2_with fail
  go_ret
  exact ⟨rfl, below_step hb1 hb2⟩

end Go.Proofs.Ytndnadcmekjmnaa
