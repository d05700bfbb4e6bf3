/- The contracts of layer 4's calls on bits and halves. -/
import Derived.Test.YtcafoomnfekglaaTurnWalk
namespace Go.Proofs.Ytcafoomnfekglaa
open Go.RowKit

set_option maxHeartbeats 800000 in
theorem bitV_any (n : Int) (w : World) : Calls Try.prog 30 #[.int .i64 n] w fun e w' => e = .returned (.int .u8 (bitV n)) ∧ w = w' := by
  by_cases hl : n < 0
  · rw [bitV_out n (.inl hl)]
    have hd : decide (n < 0) = true := decide_eq_true hl
    go_enter Try.func30, Try.ntmps30
    go_wp2_with fail
    go_ret
    exact ⟨rfl, rfl⟩
  by_cases hh : 7 < n
  · rw [bitV_out n (.inr hh)]
    have hd : decide (n < 0) = false := decide_eq_false hl
    have he : decide (7 < n) = true := decide_eq_true hh
    go_enter Try.func30, Try.ntmps30
    go_wp2_with fail
    go_ret
    exact ⟨rfl, rfl⟩
  rcases eight_in n (by omega) (by omega) with rfl | rfl | rfl | rfl | rfl | rfl | rfl | rfl
  all_goals
    clear hl hh
    go_enter Try.func30, Try.ntmps30
    go_wp2_with fail
    go_ret
    exact ⟨rfl, rfl⟩

set_option maxHeartbeats 800000 in
theorem setV_any (n b : Int) (w : World) (h0 : 0 ≤ b) (h1 : b ≤ 255) : Calls Try.prog 15 #[.int .i64 n, .int .u8 b] w fun e w' => e = .returned (.int .u8 (putV n b true)) ∧ w = w' := by
  have H := Lib.hid (put_is n b true h0 h1)
  go_enter Try.func15, Try.ntmps15
  go_wp2_with fail
  refine (bitV_any _ _).mono ?_
  rintro e w' ⟨rfl, rfl⟩
  go_wp2_with fail
  refine (with_is _ _ _ _ _ H.out).mono ?_
  rintro e w' ⟨rfl, rfl⟩
  go_wp2_with fail
  go_ret
  exact ⟨rfl, rfl⟩
set_option maxHeartbeats 800000 in
theorem resV_any (n b : Int) (w : World) (h0 : 0 ≤ b) (h1 : b ≤ 255) : Calls Try.prog 17 #[.int .i64 n, .int .u8 b] w fun e w' => e = .returned (.int .u8 (putV n b false)) ∧ w = w' := by
  have H := Lib.hid (put_is n b false h0 h1)
  go_enter Try.func17, Try.ntmps17
  go_wp2_with fail
  refine (bitV_any _ _).mono ?_
  rintro e w' ⟨rfl, rfl⟩
  go_wp2_with fail
  refine (with_is _ _ _ _ _ H.out).mono ?_
  rintro e w' ⟨rfl, rfl⟩
  go_wp2_with fail
  go_ret
  exact ⟨rfl, rfl⟩

set_option maxHeartbeats 800000 in
theorem test_any (n b yx f : Int) (w : World) (h0 : 0 ≤ b) (h1 : b ≤ 255) (y0 : 0 ≤ yx) (y1 : yx ≤ 255) (f0 : 0 ≤ f) (f1 : f ≤ 255) :
    Calls Try.prog 13 #[.int .i64 n, .int .u8 b, .int .u8 yx, .int .u8 f] w fun e w' => e = .returned (.int .u8 (testV n b yx f)) ∧ w = w' := by
  by_cases hn : 0 ≤ n ∧ n ≤ 7
  · rw [testV_in n b yx f hn.1 hn.2]
    have HH := bitV_has b n h0 h1 hn.1 hn.2
    obtain ⟨hz, hs⟩ := bitV_ne n hn.1 hn.2
    have hb := test_base yx f y0 y1 f0 f1
    unfold testF
    generalize bitN b (7 - n.toNat) = on at *
    have HV := bitV_any n w
    generalize bitV n = t at *
    have HH := Lib.hid HH
    have HV := Lib.hid HV
    clear hn
    cases on
    · have HS := Lib.hid (with_S false true (bitN yx 2) true (bitN yx 4) true false (bitN f 7) false)
      clear hs
      go_enter Try.func13, Try.ntmps13
      go_wp2_with fail
      refine (HV.out).mono ?_
      rintro e w' ⟨rfl, rfl⟩
      go_wp2_with fail
      refine (has_is _ _ _ _ HH.out).mono ?_
      rintro e w' ⟨rfl, rfl⟩
      go_wp2_with fail
      refine (with_is _ _ _ _ _ (with_ZP _ _ _ _ _ _ _ _ _)).mono ?_
      rintro e w' ⟨rfl, rfl⟩
      go_wp2_with fail
      refine (with_is _ _ _ _ _ (with_S _ _ _ _ _ _ _ _ _)).mono ?_
      rintro e w' ⟨rfl, rfl⟩
      go_wp2_with fail
      go_ret
      exact ⟨rfl, rfl⟩
    · go_enter Try.func13, Try.ntmps13
      go_wp2_with fail
      refine (HV.out).mono ?_
      rintro e w' ⟨rfl, rfl⟩
      go_wp2_with fail
      refine (has_is _ _ _ _ HH.out).mono ?_
      rintro e w' ⟨rfl, rfl⟩
      go_wp2_with fail
      refine (with_is _ _ _ _ _ (with_ZP _ _ _ _ _ _ _ _ _)).mono ?_
      rintro e w' ⟨rfl, rfl⟩
      go_wp2_with fail
      refine (with_is _ _ _ _ _ (with_S _ _ _ _ _ _ _ _ _)).mono ?_
      rintro e w' ⟨rfl, rfl⟩
      go_wp2_with fail
      go_ret
      exact ⟨rfl, rfl⟩
  · rw [testV_out n b yx f (by omega)]
    have HV := bitV_any n w
    rw [bitV_out n (by omega)] at HV
    have HV := Lib.hid HV
    go_enter Try.func13, Try.ntmps13
    go_wp2_with fail
    refine (HV.out).mono ?_
    rintro e w' ⟨rfl, rfl⟩
    go_wp2_with fail
    go_ret
    exact ⟨rfl, rfl⟩

set_option maxHeartbeats 400000 in
theorem upper_any (b : Int) (w : World) : Calls Try.prog 33 #[.int .u8 b] w fun e w' => e = .returned (.int .u8 (b / 16)) ∧ w = w' := by
  go_enter Try.func33, Try.ntmps33
  go_wp2_with fail
  go_ret
  exact ⟨rfl, rfl⟩
set_option maxHeartbeats 400000 in
theorem lower_any (b : Int) (w : World) (h0 : 0 ≤ b) (h1 : b ≤ 255) : Calls Try.prog 34 #[.int .u8 b] w fun e w' => e = .returned (.int .u8 (b % 16)) ∧ w = w' := by
  have hl := low_mod b h0 h1
  go_enter Try.func34, Try.ntmps34
  go_wp2_with fail
  go_ret
  exact ⟨rfl, rfl⟩
set_option maxHeartbeats 400000 in
theorem joined_any (h l : Int) (w : World) (h0 : 0 ≤ h) (h1 : h ≤ 15) (l0 : 0 ≤ l) (l1 : l ≤ 15) : Calls Try.prog 32 #[.int .u8 h, .int .u8 l] w fun e w' => e = .returned (.int .u8 (h * 16 + l)) ∧ w = w' := by
  have hj := join_half h l h0 h1 l0 l1
  go_enter Try.func32, Try.ntmps32
  go_wp2_with fail
  go_ret
  exact ⟨rfl, rfl⟩
theorem joined_is (h l r : Int) (w : World) (h0 : 0 ≤ h) (h1 : h ≤ 15) (l0 : 0 ≤ l) (l1 : l ≤ 15) (e : h * 16 + l = r) : Calls Try.prog 32 #[.int .u8 h, .int .u8 l] w fun e w' => e = .returned (.int .u8 r) ∧ w = w' := by
  subst e; exact joined_any h l w h0 h1 l0 l1
set_option maxHeartbeats 400000 in
theorem digitF_any (a f : Int) (w : World) (a0 : 0 ≤ a) (a1 : a ≤ 255) (f0 : 0 ≤ f) (f1 : f ≤ 255) : Calls Try.prog 35 #[.int .u8 a, .int .u8 f] w fun e w' => e = .returned (.int .u8 (turnF a (bitN f 7))) ∧ w = w' := by
  have HC := Lib.hid (has_1 f f0 f1)
  have HP := Lib.hid (turn_put a (bitN f 7) a0 a1)
  go_enter Try.func35, Try.ntmps35
  go_wp2_with fail
  refine (ofP_any _ _ a0 a1).mono ?_
  rintro e w' ⟨rfl, rfl⟩
  go_wp2_with fail
  refine (has_is _ _ _ _ HC.out).mono ?_
  rintro e w' ⟨rfl, rfl⟩
  go_wp2_with fail
  refine (with_is _ _ _ _ _ HP.out).mono ?_
  rintro e w' ⟨rfl, rfl⟩
  go_wp2_with fail
  go_ret
  exact ⟨rfl, rfl⟩

set_option maxHeartbeats 800000 in
theorem rld_any (a m f : Int) (w : World) (a0 : 0 ≤ a) (a1 : a ≤ 255) (m0 : 0 ≤ m) (m1 : m ≤ 255) (f0 : 0 ≤ f) (f1 : f ≤ 255) :
    Calls Try.prog 18 #[.int .u8 a, .int .u8 m, .int .u8 f] w fun e w' => e = .returned (.tuple #[.int .u8 (rldA a m), .int .u8 (rldM a m), .int .u8 (turnF (rldA a m) (bitN f 7))]) ∧ w = w' := by
  obtain ⟨r0, r1⟩ := rldA_bd a m a0 a1 m0 m1
  have E1 := Lib.hid (show a / 16 * 16 + m / 16 = rldA a m from rfl)
  have E2 := Lib.hid (show m % 16 * 16 + a % 16 = rldM a m from rfl)
  go_enter Try.func18, Try.ntmps18
  go_wp2_with fail
  refine (upper_any _ _).mono ?_
  rintro e w' ⟨rfl, rfl⟩
  go_wp2_with fail
  refine (upper_any _ _).mono ?_
  rintro e w' ⟨rfl, rfl⟩
  go_wp2_with fail
  refine (joined_is _ _ _ _ (by omega) (by omega) (by omega) (by omega) E1.out).mono ?_
  rintro e w' ⟨rfl, rfl⟩
  go_wp2_with fail
  refine (lower_any _ _ m0 m1).mono ?_
  rintro e w' ⟨rfl, rfl⟩
  go_wp2_with fail
  refine (lower_any _ _ a0 a1).mono ?_
  rintro e w' ⟨rfl, rfl⟩
  go_wp2_with fail
  refine (joined_is _ _ _ _ (by omega) (by omega) (by omega) (by omega) E2.out).mono ?_
  rintro e w' ⟨rfl, rfl⟩
  go_wp2_with fail
  refine (digitF_any _ _ _ r0 r1 f0 f1).mono ?_
  rintro e w' ⟨rfl, rfl⟩
  go_wp2_with fail
  exact bodyPost_ret (v := .tuple #[.int .u8 (rldA a m), .int .u8 (rldM a m), .int .u8 (turnF (rldA a m) (bitN f 7))]) (by simp [results, Try.results18, go_sem]) rfl ⟨rfl, rfl⟩
set_option maxHeartbeats 800000 in
theorem rrd_any (a m f : Int) (w : World) (a0 : 0 ≤ a) (a1 : a ≤ 255) (m0 : 0 ≤ m) (m1 : m ≤ 255) (f0 : 0 ≤ f) (f1 : f ≤ 255) :
    Calls Try.prog 19 #[.int .u8 a, .int .u8 m, .int .u8 f] w fun e w' => e = .returned (.tuple #[.int .u8 (rrdA a m), .int .u8 (rrdM a m), .int .u8 (turnF (rrdA a m) (bitN f 7))]) ∧ w = w' := by
  obtain ⟨r0, r1⟩ := rrdA_bd a m a0 a1
  have E1 := Lib.hid (show a / 16 * 16 + m % 16 = rrdA a m from rfl)
  have E2 := Lib.hid (show a % 16 * 16 + m / 16 = rrdM a m from rfl)
  go_enter Try.func19, Try.ntmps19
  go_wp2_with fail
  refine (upper_any _ _).mono ?_
  rintro e w' ⟨rfl, rfl⟩
  go_wp2_with fail
  refine (lower_any _ _ m0 m1).mono ?_
  rintro e w' ⟨rfl, rfl⟩
  go_wp2_with fail
  refine (joined_is _ _ _ _ (by omega) (by omega) (by omega) (by omega) E1.out).mono ?_
  rintro e w' ⟨rfl, rfl⟩
  go_wp2_with fail
  refine (lower_any _ _ a0 a1).mono ?_
  rintro e w' ⟨rfl, rfl⟩
  go_wp2_with fail
  refine (upper_any _ _).mono ?_
  rintro e w' ⟨rfl, rfl⟩
  go_wp2_with fail
  refine (joined_is _ _ _ _ (by omega) (by omega) (by omega) (by omega) E2.out).mono ?_
  rintro e w' ⟨rfl, rfl⟩
  go_wp2_with fail
  refine (digitF_any _ _ _ r0 r1 f0 f1).mono ?_
  rintro e w' ⟨rfl, rfl⟩
  go_wp2_with fail
  exact bodyPost_ret (v := .tuple #[.int .u8 (rrdA a m), .int .u8 (rrdM a m), .int .u8 (turnF (rrdA a m) (bitN f 7))]) (by simp [results, Try.results19, go_sem]) rfl ⟨rfl, rfl⟩

theorem doT_is (k b f r g : Int) (w : World) (h0 : 0 ≤ b) (h1 : b ≤ 255) (f0 : 0 ≤ f) (f1 : f ≤ 255) (h : doV4 k b f = (r, g)) :
    Calls Try.prog 8 #[.int .i64 k, .int .u8 b, .int .u8 f] w fun e w' => e = .returned (.tuple #[.int .u8 r, .int .u8 g]) ∧ w = w' := by
  have hd := doT_any k b f w h0 h1 f0 f1
  rw [h] at hd; exact hd
theorem rld_is (a m f r n g : Int) (w : World) (a0 : 0 ≤ a) (a1 : a ≤ 255) (m0 : 0 ≤ m) (m1 : m ≤ 255) (f0 : 0 ≤ f) (f1 : f ≤ 255) (hr : rldA a m = r) (hn : rldM a m = n) (hg : turnF (rldA a m) (bitN f 7) = g) :
    Calls Try.prog 18 #[.int .u8 a, .int .u8 m, .int .u8 f] w fun e w' => e = .returned (.tuple #[.int .u8 r, .int .u8 n, .int .u8 g]) ∧ w = w' := by
  subst hr hn hg; exact rld_any a m f w a0 a1 m0 m1 f0 f1
set_option maxHeartbeats 800000 in
theorem lives4_any (w : World) : Calls Try.prog 12 #[] w fun e w' => e = .returned (.bool true) ∧ w = w' := by
  go_enter Try.func12, Try.ntmps12
  go_wp2_with fail
  refine (doT_is _ _ _ 1 1 _ (by decide) (by decide) (by decide) (by decide) (by decide +kernel)).mono ?_
  rintro e w' ⟨rfl, rfl⟩
  go_wp2_with fail
  refine (rld_is _ _ _ 19 66 0 _ (by decide) (by decide) (by decide) (by decide) (by decide) (by decide) (by decide) (by decide) (by decide +kernel)).mono ?_
  rintro e w' ⟨rfl, rfl⟩
  go_wp2_with fail
  go_ret
  exact ⟨rfl, rfl⟩

end Go.Proofs.Ytcafoomnfekglaa
