/- The contracts of layer 5's calls that go on. -/
import Derived.Test.YtbpmhbgdainpdaaBulkMore
namespace Go.Proofs.Ytbpmhbgdainpdaa
open Go.RowKit

set_option maxHeartbeats 400000 in
theorem again_any (f pc : Int) (w : World) (f0 : 0 ≤ f) (f1 : f ≤ 255) (p0 : 0 ≤ pc) (p1 : pc ≤ 65535) :
    Calls Try.prog 14 #[.int .u8 f, .int .u16 pc] w fun e w' => e = .returned (.int .u8 (againF f pc)) ∧ w = w' := by
  have h0 : 0 ≤ pc / 256 := by omega
  have h1 : pc / 256 ≤ 255 := by omega
  have HY := Lib.hid (has_32 (pc / 256) h0 h1)
  have HX := Lib.hid (has_8 (pc / 256) h0 h1)
  have HP := Lib.hid (show withB (withB f 32 (bitN (pc / 256) 2)) 8 (bitN (pc / 256) 4) = againF f pc from again_put f _ _ f0 f1)
  go_enter Try.func14, Try.ntmps14
  go_wp2_with fail
  refine (has_is _ _ _ _ HY.out).mono ?_
  rintro e w' ⟨rfl, rfl⟩
  go_wp2_with fail
  refine (with_any _ _ _ _).mono ?_
  rintro e w' ⟨rfl, rfl⟩
  go_wp2_with fail
  refine (has_is _ _ _ _ HX.out).mono ?_
  rintro e w' ⟨rfl, rfl⟩
  go_wp2_with fail
  refine (with_is _ _ _ _ _ HP.out).mono ?_
  rintro e w' ⟨rfl, rfl⟩
  go_wp2_with fail
  go_ret
  exact ⟨rfl, rfl⟩

theorem turn_P (s z y h x p m c e : Bool) : (if e then flagsOf s z y h x p m c else bits .xor .u8 (flagsOf s z y h x p m c) 4) = flagsOf s z y h x (p == e) m c := by
  cases e
  · simp only [Bool.false_eq_true, if_false, xor_P]; cases p <;> rfl
  · simp only [if_true]; cases p <;> rfl
set_option maxHeartbeats 400000 in
theorem turnedP_any (f n m r : Int) (w : World) (n0 : 0 ≤ n) (n1 : n ≤ 255) (hm : n % 8 = m) (h : (if evenB m then f else bits .xor .u8 f 4) = r) :
    Calls Try.prog 31 #[.int .u8 f, .int .u8 n] w fun e w' => e = .returned (.int .u8 r) ∧ w = w' := by
  have m0 : 0 ≤ m := by omega
  have m1 : m ≤ 255 := by omega
  have HM := Lib.hid hm
  clear hm
  generalize he : evenB m = ev at h
  have HE := Lib.hid he
  clear he
  cases ev
  · simp only [Bool.false_eq_true, if_false] at h
    go_enter Try.func31, Try.ntmps31
    go_wp2_with fail
    refine (lowest_is _ _ _ n0 n1 HM.out).mono ?_
    rintro e w' ⟨rfl, rfl⟩
    go_wp2_with fail
    refine (even_is _ _ _ m0 m1 HE.out).mono ?_
    rintro e w' ⟨rfl, rfl⟩
    go_wp2_with fail
    go_ret
    exact ⟨rfl, rfl⟩
  · simp only [if_true] at h
    subst h
    go_enter Try.func31, Try.ntmps31
    go_wp2_with fail
    refine (lowest_is _ _ _ n0 n1 HM.out).mono ?_
    rintro e w' ⟨rfl, rfl⟩
    go_wp2_with fail
    refine (even_is _ _ _ m0 m1 HE.out).mono ?_
    rintro e w' ⟨rfl, rfl⟩
    go_wp2_with fail
    go_ret
    exact ⟨rfl, rfl⟩

set_option maxHeartbeats 1600000 in
theorem portAgain_any (f v b pc : Int) (w : World) (f0 : 0 ≤ f) (f1 : f ≤ 255) (v0 : 0 ≤ v) (v1 : v ≤ 255) (b0 : 0 ≤ b) (b1 : b ≤ 255) (p0 : 0 ≤ pc) (p1 : pc ≤ 65535) :
    Calls Try.prog 16 #[.int .u8 f, .int .u8 v, .int .u8 b, .int .u16 pc] w fun e w' => e = .returned (.int .u8 (onF f v b pc)) ∧ w = w' := by
  have HA := fun w => again_any f pc w f0 f1 p0 p1
  have hc : (bits .and .u8 (againF f pc) 1 != 0) = bitN f 7 := (has_1 _ (againF_bd f pc).1 (againF_bd f pc).2).trans (bit_flags _ _ _ _ _ _ _ _).2.2.2.2.2.2.2
  have hv := has_128 v v0 v1
  cases c : bitN f 7
  · rw [c] at hc
    have HT := Lib.hid (show (if evenB (b % 8) then againF f pc else bits .xor .u8 (againF f pc) 4) = onF f v b pc by
      unfold againF onF onH onN; rw [turn_P, c]; simp)
    generalize againF f pc = g at *
    generalize onF f v b pc = r at *
    have HA := Lib.hid HA
    have HC := Lib.hid hc
    clear hc hv c
    go_enter Try.func16, Try.ntmps16
    go_wp2_with fail
    refine (HA.out _).mono ?_
    rintro e w' ⟨rfl, rfl⟩
    go_wp2_with fail
    refine (has_is _ _ _ _ HC.out).mono ?_
    rintro e w' ⟨rfl, rfl⟩
    go_wp2_with fail
    refine (turnedP_any _ _ _ _ _ b0 b1 rfl HT.out).mono ?_
    rintro e w' ⟨rfl, rfl⟩
    go_wp2_with fail
    go_ret
    exact ⟨rfl, rfl⟩
  · rw [c] at hc
    cases s : bitN v 0
    · rw [s] at hv
      have ht : (if evenB ((b + 1) % 8) then againF f pc else bits .xor .u8 (againF f pc) 4) = flagsOf (bitN f 0) (bitN f 1) (bitN (pc / 256) 2) (bitN f 3) (bitN (pc / 256) 4) (bitN f 5 == evenB ((b + 1) % 8)) (bitN f 6) (bitN f 7) := by
        unfold againF; rw [turn_P]
      have hw : withB (flagsOf (bitN f 0) (bitN f 1) (bitN (pc / 256) 2) (bitN f 3) (bitN (pc / 256) 4) (bitN f 5 == evenB ((b + 1) % 8)) (bitN f 6) (bitN f 7)) 16 (b % 16 == 15) = onF f v b pc := by
        unfold onF onH onN; rw [with_H, c, s]; simp
      have HM := Lib.hid (show (b + 1) % 256 % 8 = (b + 1) % 8 by omega)
      generalize flagsOf (bitN f 0) (bitN f 1) (bitN (pc / 256) 2) (bitN f 3) (bitN (pc / 256) 4) (bitN f 5 == evenB ((b + 1) % 8)) (bitN f 6) (bitN f 7) = q at ht hw
      generalize againF f pc = g at *
      generalize onF f v b pc = r at *
      have HA := Lib.hid HA
      have HC := Lib.hid hc
      have HV := Lib.hid hv
      have HT := Lib.hid ht
      have HW := Lib.hid hw
      clear hc hv c s ht hw
      go_enter Try.func16, Try.ntmps16
      go_wp2_with fail
      refine (HA.out _).mono ?_
      rintro e w' ⟨rfl, rfl⟩
      go_wp2_with fail
      refine (has_is _ _ _ _ HC.out).mono ?_
      rintro e w' ⟨rfl, rfl⟩
      go_wp2_with fail
      refine (has_is _ _ _ _ HV.out).mono ?_
      rintro e w' ⟨rfl, rfl⟩
      go_wp2_with fail
      refine (turnedP_any _ _ _ _ _ (by omega) (by omega) HM.out HT.out).mono ?_
      rintro e w' ⟨rfl, rfl⟩
      go_wp2_with fail
      refine (with_is _ _ _ _ _ HW.out).mono ?_
      rintro e w' ⟨rfl, rfl⟩
      go_wp2_with fail
      go_ret
      exact ⟨rfl, rfl⟩
    · rw [s] at hv
      have ht : (if evenB ((b + 7) % 8) then againF f pc else bits .xor .u8 (againF f pc) 4) = flagsOf (bitN f 0) (bitN f 1) (bitN (pc / 256) 2) (bitN f 3) (bitN (pc / 256) 4) (bitN f 5 == evenB ((b + 7) % 8)) (bitN f 6) (bitN f 7) := by
        unfold againF; rw [turn_P]
      have hw : withB (flagsOf (bitN f 0) (bitN f 1) (bitN (pc / 256) 2) (bitN f 3) (bitN (pc / 256) 4) (bitN f 5 == evenB ((b + 7) % 8)) (bitN f 6) (bitN f 7)) 16 (b % 16 == 0) = onF f v b pc := by
        unfold onF onH onN; rw [with_H, c, s]; simp
      have HM := Lib.hid (show (b - 1) % 256 % 8 = (b + 7) % 8 by omega)
      generalize flagsOf (bitN f 0) (bitN f 1) (bitN (pc / 256) 2) (bitN f 3) (bitN (pc / 256) 4) (bitN f 5 == evenB ((b + 7) % 8)) (bitN f 6) (bitN f 7) = q at ht hw
      generalize againF f pc = g at *
      generalize onF f v b pc = r at *
      have HA := Lib.hid HA
      have HC := Lib.hid hc
      have HV := Lib.hid hv
      have HT := Lib.hid ht
      have HW := Lib.hid hw
      clear hc hv c s ht hw
      go_enter Try.func16, Try.ntmps16
      go_wp2_with fail
      refine (HA.out _).mono ?_
      rintro e w' ⟨rfl, rfl⟩
      go_wp2_with fail
      refine (has_is _ _ _ _ HC.out).mono ?_
      rintro e w' ⟨rfl, rfl⟩
      go_wp2_with fail
      refine (has_is _ _ _ _ HV.out).mono ?_
      rintro e w' ⟨rfl, rfl⟩
      go_wp2_with fail
      refine (turnedP_any _ _ _ _ _ (by omega) (by omega) HM.out HT.out).mono ?_
      rintro e w' ⟨rfl, rfl⟩
      go_wp2_with fail
      refine (with_is _ _ _ _ _ HW.out).mono ?_
      rintro e w' ⟨rfl, rfl⟩
      go_wp2_with fail
      go_ret
      exact ⟨rfl, rfl⟩

theorem copy_is (a v bc f r : Int) (w : World) (b0 : 0 ≤ bc) (f0 : 0 ≤ f) (f1 : f ≤ 255) (h : copyF a v bc f = r) :
    Calls Try.prog 7 #[.int .u8 a, .int .u8 v, .int .u16 bc, .int .u8 f] w fun e w' => e = .returned (.int .u8 r) ∧ Below w.heap.size w w' := by
  subst h; exact copy_any a v bc f w b0 f0 f1
set_option maxHeartbeats 400000 in
theorem lives5_any (w : World) : Calls Try.prog 11 #[] w fun e w' => e = .returned (.bool true) ∧ Below w.heap.size w w' := by
  go_enter Try.func11, Try.ntmps11
  go_wp2_with fail
  refine (copy_is _ _ _ _ 37 _ (by decide) (by decide) (by decide) (by decide +kernel)).mono ?_
  rintro e w1 ⟨rfl, hb1⟩
  go_wp2_with fail
  go_ret
  exact ⟨rfl, hb1⟩

end Go.Proofs.Ytbpmhbgdainpdaa
