/- The contracts of layer 4's calls. -/
import Derived.Test.YtcafoomnfekglaaTurnMath
import Derived.Test.YtcafoomnfekglaaFlagWalk
import Derived.Test.YtcafoomnfekglaaKit
namespace Go.Proofs.Ytcafoomnfekglaa
open Go.RowKit

theorem with_is (f b r : Int) (o : Bool) (w : World) (h : withB f b o = r) : Calls Try.prog 23 #[.int .u8 f, .int .u8 b, .bool o] w fun e w' => e = .returned (.int .u8 r) ∧ w = w' := by
  subst h; exact with_any f b o w

set_option maxHeartbeats 400000 in
theorem up_any (b : Int) (i : Bool) (w : World) (h0 : 0 ≤ b) (h1 : b ≤ 255) : Calls Try.prog 36 #[.int .u8 b, .bool i] w fun e w' => e = .returned (.int .u8 (upR b i)) ∧ w = w' := by
  have H := Lib.hid (up_is b i h0 h1)
  go_enter Try.func36, Try.ntmps36
  go_wp2_with fail
  refine (with_is _ _ _ _ _ H.out).mono ?_
  rintro e w' ⟨rfl, rfl⟩
  go_wp2_with fail
  go_ret
  exact ⟨rfl, rfl⟩
set_option maxHeartbeats 400000 in
theorem down_any (b : Int) (i : Bool) (w : World) (h0 : 0 ≤ b) (h1 : b ≤ 255) : Calls Try.prog 37 #[.int .u8 b, .bool i] w fun e w' => e = .returned (.int .u8 (downR b i)) ∧ w = w' := by
  have H := Lib.hid (down_is b i h0 h1)
  go_enter Try.func37, Try.ntmps37
  go_wp2_with fail
  refine (with_is _ _ _ _ _ H.out).mono ?_
  rintro e w' ⟨rfl, rfl⟩
  go_wp2_with fail
  go_ret
  exact ⟨rfl, rfl⟩

set_option maxHeartbeats 1600000 in
theorem turned_any (k b : Int) (c : Bool) (w : World) (k0 : 0 ≤ k) (k7 : k ≤ 7) (h0 : 0 ≤ b) (h1 : b ≤ 255) :
    Calls Try.prog 21 #[.int .i64 k, .int .u8 b, .bool c] w fun e w' => e = .returned (.tuple #[.int .u8 (turnV k b c).1, .bool (turnV k b c).2]) ∧ w = w' := by
  have HH := Lib.hid (has_128 b h0 h1)
  have HL := Lib.hid (has_1 b h0 h1)
  rcases eight_in k k0 k7 with rfl | rfl | rfl | rfl | rfl | rfl | rfl | rfl
  · rw [turnV_0]
    clear k0 k7
    go_enter Try.func21, Try.ntmps21
    go_wp2_with fail
    refine (has_is _ _ _ _ HH.out).mono ?_
    rintro e w' ⟨rfl, rfl⟩
    go_wp2_with fail
    refine (has_is _ _ _ _ HL.out).mono ?_
    rintro e w' ⟨rfl, rfl⟩
    go_wp2_with fail
    refine (up_any _ _ _ h0 h1).mono ?_
    rintro e w' ⟨rfl, rfl⟩
    go_wp2_with fail
    go_ret2
    exact ⟨rfl, rfl⟩
  · rw [turnV_1]
    clear k0 k7
    go_enter Try.func21, Try.ntmps21
    go_wp2_with fail
    refine (has_is _ _ _ _ HH.out).mono ?_
    rintro e w' ⟨rfl, rfl⟩
    go_wp2_with fail
    refine (has_is _ _ _ _ HL.out).mono ?_
    rintro e w' ⟨rfl, rfl⟩
    go_wp2_with fail
    refine (down_any _ _ _ h0 h1).mono ?_
    rintro e w' ⟨rfl, rfl⟩
    go_wp2_with fail
    go_ret2
    exact ⟨rfl, rfl⟩
  · rw [turnV_2]
    clear k0 k7
    go_enter Try.func21, Try.ntmps21
    go_wp2_with fail
    refine (has_is _ _ _ _ HH.out).mono ?_
    rintro e w' ⟨rfl, rfl⟩
    go_wp2_with fail
    refine (has_is _ _ _ _ HL.out).mono ?_
    rintro e w' ⟨rfl, rfl⟩
    go_wp2_with fail
    refine (up_any _ _ _ h0 h1).mono ?_
    rintro e w' ⟨rfl, rfl⟩
    go_wp2_with fail
    go_ret2
    exact ⟨rfl, rfl⟩
  · rw [turnV_3]
    clear k0 k7
    go_enter Try.func21, Try.ntmps21
    go_wp2_with fail
    refine (has_is _ _ _ _ HH.out).mono ?_
    rintro e w' ⟨rfl, rfl⟩
    go_wp2_with fail
    refine (has_is _ _ _ _ HL.out).mono ?_
    rintro e w' ⟨rfl, rfl⟩
    go_wp2_with fail
    refine (down_any _ _ _ h0 h1).mono ?_
    rintro e w' ⟨rfl, rfl⟩
    go_wp2_with fail
    go_ret2
    exact ⟨rfl, rfl⟩
  · rw [turnV_4]
    clear k0 k7
    go_enter Try.func21, Try.ntmps21
    go_wp2_with fail
    refine (has_is _ _ _ _ HH.out).mono ?_
    rintro e w' ⟨rfl, rfl⟩
    go_wp2_with fail
    refine (has_is _ _ _ _ HL.out).mono ?_
    rintro e w' ⟨rfl, rfl⟩
    go_wp2_with fail
    refine (up_any _ _ _ h0 h1).mono ?_
    rintro e w' ⟨rfl, rfl⟩
    go_wp2_with fail
    go_ret2
    exact ⟨rfl, rfl⟩
  · rw [turnV_5]
    clear k0 k7
    go_enter Try.func21, Try.ntmps21
    go_wp2_with fail
    refine (has_is _ _ _ _ HH.out).mono ?_
    rintro e w' ⟨rfl, rfl⟩
    go_wp2_with fail
    refine (has_is _ _ _ _ HL.out).mono ?_
    rintro e w' ⟨rfl, rfl⟩
    go_wp2_with fail
    refine (down_any _ _ _ h0 h1).mono ?_
    rintro e w' ⟨rfl, rfl⟩
    go_wp2_with fail
    go_ret2
    exact ⟨rfl, rfl⟩
  · rw [turnV_6]
    clear k0 k7
    go_enter Try.func21, Try.ntmps21
    go_wp2_with fail
    refine (has_is _ _ _ _ HH.out).mono ?_
    rintro e w' ⟨rfl, rfl⟩
    go_wp2_with fail
    refine (has_is _ _ _ _ HL.out).mono ?_
    rintro e w' ⟨rfl, rfl⟩
    go_wp2_with fail
    refine (up_any _ _ _ h0 h1).mono ?_
    rintro e w' ⟨rfl, rfl⟩
    go_wp2_with fail
    go_ret2
    exact ⟨rfl, rfl⟩
  · rw [turnV_7]
    clear k0 k7
    go_enter Try.func21, Try.ntmps21
    go_wp2_with fail
    refine (has_is _ _ _ _ HH.out).mono ?_
    rintro e w' ⟨rfl, rfl⟩
    go_wp2_with fail
    refine (has_is _ _ _ _ HL.out).mono ?_
    rintro e w' ⟨rfl, rfl⟩
    go_wp2_with fail
    refine (down_any _ _ _ h0 h1).mono ?_
    rintro e w' ⟨rfl, rfl⟩
    go_wp2_with fail
    go_ret2
    exact ⟨rfl, rfl⟩

set_option maxHeartbeats 800000 in
theorem doT_any (k b f : Int) (w : World) (h0 : 0 ≤ b) (h1 : b ≤ 255) (f0 : 0 ≤ f) (f1 : f ≤ 255) :
    Calls Try.prog 8 #[.int .i64 k, .int .u8 b, .int .u8 f] w fun e w' => e = .returned (.tuple #[.int .u8 (doV4 k b f).1, .int .u8 (doV4 k b f).2]) ∧ w = w' := by
  by_cases hl : k < 0
  · rw [doV4_out k b f (.inl hl)]
    have hd : decide (k < 0) = true := decide_eq_true hl
    go_enter Try.func8, Try.ntmps8
    go_wp2_with fail
    go_ret2
    exact ⟨rfl, rfl⟩
  have hd : decide (k < 0) = false := decide_eq_false hl
  by_cases hh : 7 < k
  · rw [doV4_out k b f (.inr hh)]
    have he : decide (7 < k) = true := decide_eq_true hh
    go_enter Try.func8, Try.ntmps8
    go_wp2_with fail
    go_ret2
    exact ⟨rfl, rfl⟩
  have he : decide (7 < k) = false := decide_eq_false hh
  have k0 : 0 ≤ k := by omega
  have k7 : k ≤ 7 := by omega
  rw [doV4_in k b f k0 k7]
  have HC := Lib.hid (has_1 f f0 f1)
  have hbd := turnV_bd k b (bitN f 7)
  have HP := Lib.hid (turn_put (turnV k b (bitN f 7)).1 (turnV k b (bitN f 7)).2 hbd.1 hbd.2)
  obtain ⟨r0, r1⟩ := hbd
  go_enter Try.func8, Try.ntmps8
  go_wp2_with fail
  refine (has_is _ _ _ _ HC.out).mono ?_
  rintro e w' ⟨rfl, rfl⟩
  go_wp2_with fail
  refine (turned_any _ _ _ _ k0 k7 h0 h1).mono ?_
  rintro e w' ⟨rfl, rfl⟩
  go_wp2_with fail
  refine (ofP_any _ _ r0 r1).mono ?_
  rintro e w' ⟨rfl, rfl⟩
  go_wp2_with fail
  refine (with_is _ _ _ _ _ HP.out).mono ?_
  rintro e w' ⟨rfl, rfl⟩
  go_wp2_with fail
  go_ret2
  exact ⟨rfl, rfl⟩

set_option maxHeartbeats 800000 in
theorem accT_any (k b f : Int) (w : World) (h0 : 0 ≤ b) (h1 : b ≤ 255) (f0 : 0 ≤ f) (f1 : f ≤ 255) :
    Calls Try.prog 9 #[.int .i64 k, .int .u8 b, .int .u8 f] w fun e w' => e = .returned (.tuple #[.int .u8 (accV4 k b f).1, .int .u8 (accV4 k b f).2]) ∧ w = w' := by
  by_cases hl : k < 0
  · rw [accV4_out k b f (.inl hl)]
    have hd : decide (k < 0) = true := decide_eq_true hl
    go_enter Try.func9, Try.ntmps9
    go_wp2_with fail
    go_ret2
    exact ⟨rfl, rfl⟩
  have hd : decide (k < 0) = false := decide_eq_false hl
  by_cases hh : 3 < k
  · rw [accV4_out k b f (.inr hh)]
    have he : decide (3 < k) = true := decide_eq_true hh
    go_enter Try.func9, Try.ntmps9
    go_wp2_with fail
    go_ret2
    exact ⟨rfl, rfl⟩
  have he : decide (3 < k) = false := decide_eq_false hh
  have HD := doT_any k b f w h0 h1 f0 f1
  rw [doV4_in k b f (by omega) (by omega)] at HD
  rw [accV4_in k b f (by omega) (by omega)]
  have HA := acc_put f (turnV k b (bitN f 7)).1 (turnV k b (bitN f 7)).2 f0 f1
  generalize (turnV k b (bitN f 7)).1 = r at *
  generalize (turnV k b (bitN f 7)).2 = o at *
  have HD := Lib.hid HD
  go_enter Try.func9, Try.ntmps9
  go_wp2_with fail
  refine (HD.out).mono ?_
  rintro e w' ⟨rfl, rfl⟩
  go_wp2_with fail
  go_ret2
  exact ⟨rfl, rfl⟩

end Go.Proofs.Ytcafoomnfekglaa
