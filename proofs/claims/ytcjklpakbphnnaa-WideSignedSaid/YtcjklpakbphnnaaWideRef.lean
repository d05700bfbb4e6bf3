/- The document's answers for layer 3: their contracts. -/
import Derived.Test.YtcjklpakbphnnaaWideMath
import Derived.Test.YtcjklpakbphnnaaFlagRef
import Derived.Deep.RegionHeld3
namespace Go.Proofs.Ytcjklpakbphnnaa
open Go.RowKit

set_option maxHeartbeats 400000 in
theorem signedW_any (a : Int) (w : World) (h0 : 0 ≤ a) (h1 : a ≤ 65535) : Calls Try.prog 32 #[.int .u16 a] w fun e w' => e = .returned (.int .i64 (sgnW a)) ∧ w = w' := by
  unfold sgnW
  by_cases h : 32768 ≤ a
  · go_enter Try.func32, Try.ntmps32
    go_wp2_with fail
    go_ret
    exact ⟨by simp, rfl⟩
  · have hd : decide (32768 ≤ a) = false := decide_eq_false h
    go_enter Try.func32, Try.ntmps32
    go_wp2_with fail
    go_ret
    exact ⟨by simp, rfl⟩

/-- What bit has left of n behind j rounds. -/
def halfN (n : Int) (j : Nat) : Int := n / 2 ^ j
theorem halfN_zero (n : Int) : halfN n 0 = n := by simp [halfN]
theorem halfN_succ (n : Int) (j : Nat) : halfN n j / 2 = halfN n (j + 1) := by
  unfold halfN
  rw [Int.pow_succ, Int.ediv_ediv_of_nonneg (Int.le_of_lt (Int.pow_pos (by decide)))]
theorem halfN_bd (n : Int) (h0 : 0 ≤ n) (h1 : n ≤ 65535) (j : Nat) : 0 ≤ halfN n j ∧ halfN n j ≤ 65535 := by
  induction j with
  | zero => rw [halfN_zero]; exact ⟨h0, h1⟩
  | succ j ih => rw [← halfN_succ]; omega

set_option maxHeartbeats 800000 in
theorem bitW_any (n k : Int) (w : World) (h0 : 0 ≤ n) (h1 : n ≤ 65535) (k0 : 0 ≤ k) (k1 : k ≤ 15) :
    Calls Try.prog 27 #[.int .i64 n, .int .i64 k] w fun e w' => e = .returned (.bool (bitW n k.toNat)) ∧ w = w' := by
  obtain ⟨K, rfl⟩ := Int.eq_ofNat_of_zero_le k0
  rw [Int.toNat_natCast]
  go_enter Try.func27, Try.ntmps27
  go_wp2_with fail
  go_loop [0, 5] (fun m i => ∃ j : Nat, j ≤ K ∧ i = .int .i64 j ∧ m = .int .i64 (halfN n j)) (fun _ i => K - (intOf i).toNat)
  case atStart => exact ⟨0, by omega, rfl, by rw [halfN_zero]⟩
  case round =>
    obtain ⟨j, hj, rfl, rfl⟩ := hrel
    obtain ⟨m0, m1⟩ := halfN_bd n h0 h1 j
    by_cases hlt : j < K
    · have HS := Lib.hid (halfN_succ n j)
      go_wp2_with fail
      go_round
      case rel => exact ⟨j + 1, by omega, by go_num, by rw [HS.out]⟩
      case measure => simp [intOf]; omega
    · obtain rfl : j = K := by omega
      go_wp2_with fail
      go_ret
      exact ⟨rfl, rfl⟩

set_option maxHeartbeats 400000 in
theorem refPlus_any (a d : Int) (w : World) (a0 : 0 ≤ a) (a1 : a ≤ 65535) (d0 : 0 ≤ d) (d1 : d ≤ 255) :
    Calls Try.prog 18 #[.int .u16 a, .int .u8 d] w fun e w' => e = .returned (.int .u16 (plusW a d)) ∧ w = w' := by
  by_cases h : 128 ≤ d
  · have HP := Lib.hid (show plusW a d = (a + d - 256) % 65536 by unfold plusW sgn; rw [if_pos h]; omega)
    go_enter Try.func18, Try.ntmps18
    go_wp2_with fail
    go_ret
    exact ⟨by rw [HP.out]; rfl, rfl⟩
  · have hd : decide (128 ≤ d) = false := decide_eq_false h
    have HP := Lib.hid (show plusW a d = (a + d) % 65536 by unfold plusW sgn; rw [if_neg h])
    go_enter Try.func18, Try.ntmps18
    go_wp2_with fail
    go_ret
    exact ⟨by rw [HP.out]; rfl, rfl⟩

theorem sumUp_eq (a b : Int) (c : Bool) : (a + b + cN c + 131072) % 65536 = wadd a b c ∧ decide (4096 ≤ a % 4096 + b % 4096 + cN c) = waddH a b c ∧ decide (65536 ≤ a + b + cN c) = waddC a b c := by
  refine ⟨by unfold wadd; omega, ?_, ?_⟩
  · unfold waddH; rw [decide_eq_decide]; omega
  · unfold waddC; rw [decide_eq_decide]; omega
theorem sumDown_eq (a b : Int) (c : Bool) : (a - b - cN c + 131072) % 65536 = wsub a b c ∧ decide (a % 4096 < b % 4096 + cN c) = wsubH a b c ∧ decide (a - b - cN c < 0) = wsubC a b c := by
  refine ⟨by unfold wsub; omega, ?_, rfl⟩
  unfold wsubH; rw [decide_eq_decide]; omega

set_option maxHeartbeats 800000 in
theorem sumUp_any (a b n : Int) (c : Bool) (w : World) (a0 : 0 ≤ a) (a1 : a ≤ 65535) (b0 : 0 ≤ b) (b1 : b ≤ 65535) (hn : cN c = n) :
    Calls Try.prog 24 #[.int .u16 a, .int .u16 b, .int .i64 n, .bool true] w fun e w' => e = .returned (.tuple #[.int .u16 (wadd a b c), .bool (waddH a b c), .bool (waddP a b c), .bool (waddC a b c)]) ∧ w = w' := by
  subst hn
  obtain ⟨c0, c1⟩ := cN_bd c
  obtain ⟨s0, s1⟩ := sgnW_bd a a0 a1
  obtain ⟨t0, t1⟩ := sgnW_bd b b0 b1
  obtain ⟨e1, e2, e3⟩ := sumUp_eq a b c
  by_cases h : sgnW a + sgnW b + cN c < -32768
  · have HP := Lib.hid (show waddP a b c = true by simp [waddP, outW, h])
    go_enter Try.func24, Try.ntmps24
    go_wp2_with fail
    refine (signedW_any _ _ a0 a1).mono ?_
    rintro e w' ⟨rfl, rfl⟩
    go_wp2_with fail
    refine (signedW_any _ _ b0 b1).mono ?_
    rintro e w' ⟨rfl, rfl⟩
    go_wp2_with fail
    exact bodyPost_ret (v := .tuple #[.int .u16 (wadd a b c), .bool (waddH a b c), .bool true, .bool (waddC a b c)]) (by simp [results, Try.results24, go_sem]) rfl ⟨by rw [HP.out], rfl⟩
  · have hd : decide (sgnW a + sgnW b + cN c < -32768) = false := decide_eq_false h
    have HP := Lib.hid (show waddP a b c = decide (32767 < sgnW a + sgnW b + cN c) by simp [waddP, outW, h])
    go_enter Try.func24, Try.ntmps24
    go_wp2_with fail
    refine (signedW_any _ _ a0 a1).mono ?_
    rintro e w' ⟨rfl, rfl⟩
    go_wp2_with fail
    refine (signedW_any _ _ b0 b1).mono ?_
    rintro e w' ⟨rfl, rfl⟩
    go_wp2_with fail
    exact bodyPost_ret (v := .tuple #[.int .u16 (wadd a b c), .bool (waddH a b c), .bool (decide (32767 < sgnW a + sgnW b + cN c)), .bool (waddC a b c)]) (by simp [results, Try.results24, go_sem]) rfl ⟨by rw [HP.out], rfl⟩

set_option maxHeartbeats 800000 in
theorem sumDown_any (a b n : Int) (c : Bool) (w : World) (a0 : 0 ≤ a) (a1 : a ≤ 65535) (b0 : 0 ≤ b) (b1 : b ≤ 65535) (hn : cN c = n) :
    Calls Try.prog 24 #[.int .u16 a, .int .u16 b, .int .i64 n, .bool false] w fun e w' => e = .returned (.tuple #[.int .u16 (wsub a b c), .bool (wsubH a b c), .bool (wsubP a b c), .bool (wsubC a b c)]) ∧ w = w' := by
  subst hn
  obtain ⟨c0, c1⟩ := cN_bd c
  obtain ⟨s0, s1⟩ := sgnW_bd a a0 a1
  obtain ⟨t0, t1⟩ := sgnW_bd b b0 b1
  obtain ⟨e1, e2, e3⟩ := sumDown_eq a b c
  by_cases h : sgnW a - sgnW b - cN c < -32768
  · have HP := Lib.hid (show wsubP a b c = true by simp [wsubP, outW, h])
    go_enter Try.func24, Try.ntmps24
    go_wp2_with fail
    refine (signedW_any _ _ a0 a1).mono ?_
    rintro e w' ⟨rfl, rfl⟩
    go_wp2_with fail
    refine (signedW_any _ _ b0 b1).mono ?_
    rintro e w' ⟨rfl, rfl⟩
    go_wp2_with fail
    refine (signedW_any _ _ a0 a1).mono ?_
    rintro e w' ⟨rfl, rfl⟩
    go_wp2_with fail
    refine (signedW_any _ _ b0 b1).mono ?_
    rintro e w' ⟨rfl, rfl⟩
    go_wp2_with fail
    exact bodyPost_ret (v := .tuple #[.int .u16 (wsub a b c), .bool (wsubH a b c), .bool true, .bool (wsubC a b c)]) (by simp [results, Try.results24, go_sem]) rfl ⟨by rw [HP.out], rfl⟩
  · have hd : decide (sgnW a - sgnW b - cN c < -32768) = false := decide_eq_false h
    have HP := Lib.hid (show wsubP a b c = decide (32767 < sgnW a - sgnW b - cN c) by simp [wsubP, outW, h])
    go_enter Try.func24, Try.ntmps24
    go_wp2_with fail
    refine (signedW_any _ _ a0 a1).mono ?_
    rintro e w' ⟨rfl, rfl⟩
    go_wp2_with fail
    refine (signedW_any _ _ b0 b1).mono ?_
    rintro e w' ⟨rfl, rfl⟩
    go_wp2_with fail
    refine (signedW_any _ _ a0 a1).mono ?_
    rintro e w' ⟨rfl, rfl⟩
    go_wp2_with fail
    refine (signedW_any _ _ b0 b1).mono ?_
    rintro e w' ⟨rfl, rfl⟩
    go_wp2_with fail
    exact bodyPost_ret (v := .tuple #[.int .u16 (wsub a b c), .bool (wsubH a b c), .bool (decide (32767 < sgnW a - sgnW b - cN c)), .bool (wsubC a b c)]) (by simp [results, Try.results24, go_sem]) rfl ⟨by rw [HP.out], rfl⟩

theorem bitW_held {S : World → Prop} (_hS : ∀ w w', S w → Below w.heap.size w w' → S w') (n k : Int) (w : World) (h0 : 0 ≤ n) (h1 : n ≤ 65535) (k0 : 0 ≤ k) (k1 : k ≤ 15) (h : S w) :
    Calls Try.prog 27 #[.int .i64 n, .int .i64 k] w fun e w' => e = .returned (.bool (bitW n k.toNat)) ∧ S w' :=
  (bitW_any n k w h0 h1 k0 k1).mono fun _ _ ⟨he, hw⟩ => ⟨he, hw ▸ h⟩
theorem flagsW_held {S : World → Prop} (hS : ∀ w w', S w → Below w.heap.size w w' → S w') (s z y h x p n c : Bool) (w : World) (hw : S w) :
    Calls Try.prog 26 #[.bool s, .bool z, .bool y, .bool h, .bool x, .bool p, .bool n, .bool c] w fun e w' => e = .returned (.int .u8 (flagsOf s z y h x p n c)) ∧ S w' :=
  (flags_any s z y h x p n c w).mono fun _ _ ⟨he, hb⟩ => ⟨he, hS _ _ hw hb⟩
theorem bitF_is (b k : Int) (r : Bool) (w : World) (h0 : 0 ≤ b) (h1 : b ≤ 255) (k0 : 0 ≤ k) (k7 : k ≤ 7) (h : bitN b (7 - k.toNat) = r) :
    Calls Try.prog 28 #[.int .u8 b, .int .i64 k] w fun e w' => e = .returned (.bool r) ∧ Below w.heap.size w w' := by
  subst h; exact bit_any b k w h0 h1 k0 k7

end Go.Proofs.Ytcjklpakbphnnaa
