/- The contracts of layer 3's calls. -/
import Derived.Test.YtcjklpakbphnnaaWideMath
import Derived.Test.YtcjklpakbphnnaaFlagRef
import Derived.Deep.RegionHeld3
namespace Go.Proofs.Ytcjklpakbphnnaa
open Go.RowKit

set_option maxHeartbeats 400000 in
theorem hi_any (a : Int) (w : World) (h0 : 0 ≤ a) (h1 : a ≤ 65535) : Calls Try.prog 14 #[.int .u16 a] w fun e w' => e = .returned (.int .u8 (a / 256)) ∧ w = w' := by
  go_enter Try.func14, Try.ntmps14
  go_wp2_with fail
  go_ret
  exact ⟨rfl, rfl⟩
set_option maxHeartbeats 400000 in
theorem lo_any (a : Int) (w : World) : Calls Try.prog 15 #[.int .u16 a] w fun e w' => e = .returned (.int .u8 (a % 256)) ∧ w = w' := by
  go_enter Try.func15, Try.ntmps15
  go_wp2_with fail
  go_ret
  exact ⟨rfl, rfl⟩
set_option maxHeartbeats 400000 in
theorem word_any (h l : Int) (w : World) (h0 : 0 ≤ h) (h1 : h ≤ 255) (l0 : 0 ≤ l) (l1 : l ≤ 255) : Calls Try.prog 16 #[.int .u8 h, .int .u8 l] w fun e w' => e = .returned (.int .u16 (h * 256 + l)) ∧ w = w' := by
  have hw := word_of h l h0 h1 l0 l1
  go_enter Try.func16, Try.ntmps16
  go_wp2_with fail
  go_ret
  exact ⟨rfl, rfl⟩
set_option maxHeartbeats 400000 in
theorem plus_any (a d : Int) (w : World) (d0 : 0 ≤ d) (d1 : d ≤ 255) : Calls Try.prog 17 #[.int .u16 a, .int .u8 d] w fun e w' => e = .returned (.int .u16 (plusW a d)) ∧ w = w' := by
  have ed := wrap_i8 d d0 d1
  have ep := wrap_plus a d
  go_enter Try.func17, Try.ntmps17
  go_wp2_with fail
  go_ret
  exact ⟨rfl, rfl⟩
set_option maxHeartbeats 400000 in
theorem outW_any (n : Int) (w : World) : Calls Try.prog 30 #[.int .i64 n] w fun e w' => e = .returned (.bool (outW n)) ∧ w = w' := by
  unfold outW
  by_cases h : n < -32768
  · have hd : decide (n < -32768) = true := decide_eq_true h
    go_enter Try.func30, Try.ntmps30
    go_wp2_with fail
    go_ret
    exact ⟨by simp [h], rfl⟩
  · have hd : decide (n < -32768) = false := decide_eq_false h
    go_enter Try.func30, Try.ntmps30
    go_wp2_with fail
    go_ret
    exact ⟨by simp, rfl⟩
set_option maxHeartbeats 400000 in
theorem carryW_any (f : Int) (w : World) (h0 : 0 ≤ f) (h1 : f ≤ 255) : Calls Try.prog 22 #[.int .u8 f] w fun e w' => e = .returned (.int .i64 (cN (bitN f 7))) ∧ w = w' := by
  have he := and_C f h0 h1
  obtain ⟨c0, c1⟩ := cN_bd (bitN f 7)
  go_enter Try.func22, Try.ntmps22
  go_wp2_with fail
  go_ret
  exact ⟨rfl, rfl⟩

set_option maxHeartbeats 400000 in
theorem shape_any (r : Int) (w : World) (h0 : 0 ≤ r) (h1 : r ≤ 65535) :
    Calls Try.prog 29 #[.int .u16 r] w fun e w' => e = .returned (.agg #[.bool (bitW r 15), .bool (r == 0), .bool (bitW r 13), .bool false, .bool (bitW r 11), .bool false, .bool false, .bool false]) ∧ Below w.heap.size w w' := by
  have b0 : 0 ≤ r / 256 := by omega
  have b1 : r / 256 ≤ 255 := by omega
  have HS := Lib.hid ((has_128 _ b0 b1).trans (hi_S r))
  have HY := Lib.hid ((has_32 _ b0 b1).trans (hi_Y r))
  have HX := Lib.hid ((has_8 _ b0 b1).trans (hi_X r))
  go_enter Try.func29, Try.ntmps29
  go_wp2_with fail
  refine (hi_any _ _ h0 h1).mono ?_
  rintro e w' ⟨rfl, rfl⟩
  go_wp2_with fail
  refine (has_is _ _ _ _ HS.out).mono ?_
  rintro e w' ⟨rfl, rfl⟩
  go_wp2_with fail
  refine (has_is _ _ _ _ HY.out).mono ?_
  rintro e w' ⟨rfl, rfl⟩
  go_wp2_with fail
  refine (has_is _ _ _ _ HX.out).mono ?_
  rintro e w' ⟨rfl, rfl⟩
  go_wp2_with fail

  exact bodyPost_ret (v := .agg #[.bool (bitW r 15), .bool (r == 0), .bool (bitW r 13), .bool false, .bool (bitW r 11), .bool false, .bool false, .bool false]) (by simp [results, Try.results29, go_sem]) rfl ⟨rfl, (Below.refl _ _).alloc (Nat.le_refl _) _⟩

/-- What pack makes of the flags, one behind the other. -/
theorem withW_is (f b r : Int) (o : Bool) (w : World) (h : withB f b o = r) : Calls Try.prog 31 #[.int .u8 f, .int .u8 b, .bool o] w fun e w' => e = .returned (.int .u8 r) ∧ w = w' := by
  subst h; exact with_any f b o w
theorem with_S0 (o : Bool) : withB 0 128 o = flagsOf o false false false false false false false := with_S false false false false false false false false o
set_option maxHeartbeats 1600000 in
theorem pack_any (s z y h x p n c : Bool) (w : World) :
    Calls Try.prog 21 #[.agg #[.bool s, .bool z, .bool y, .bool h, .bool x, .bool p, .bool n, .bool c]] w fun e w' => e = .returned (.int .u8 (flagsOf s z y h x p n c)) ∧ Below w.heap.size w w' := by
  cases s; cases z; cases y; cases h; cases x; cases p; cases n; cases c
  · go_enter Try.func21, Try.ntmps21
    go_wp2_with fail
    go_ret
    exact ⟨rfl, (Below.refl _ _).alloc (Nat.le_refl _) _⟩
  all_goals
    go_enter Try.func21, Try.ntmps21
    go_wp2_with fail
    refine (withW_is _ _ _ _ _ (with_S0 _)).mono ?_
    rintro e w' ⟨rfl, rfl⟩
    go_wp2_with fail
    refine (withW_is _ _ _ _ _ (with_Z _ _ _ _ _ _ _ _ _)).mono ?_
    rintro e w' ⟨rfl, rfl⟩
    go_wp2_with fail
    refine (withW_is _ _ _ _ _ (with_Y _ _ _ _ _ _ _ _ _)).mono ?_
    rintro e w' ⟨rfl, rfl⟩
    go_wp2_with fail
    refine (withW_is _ _ _ _ _ (with_H _ _ _ _ _ _ _ _ _)).mono ?_
    rintro e w' ⟨rfl, rfl⟩
    go_wp2_with fail
    refine (withW_is _ _ _ _ _ (with_X _ _ _ _ _ _ _ _ _)).mono ?_
    rintro e w' ⟨rfl, rfl⟩
    go_wp2_with fail
    refine (withW_is _ _ _ _ _ (with_P _ _ _ _ _ _ _ _ _)).mono ?_
    rintro e w' ⟨rfl, rfl⟩
    go_wp2_with fail
    refine (withW_is _ _ _ _ _ (with_N _ _ _ _ _ _ _ _ _)).mono ?_
    rintro e w' ⟨rfl, rfl⟩
    go_wp2_with fail
    refine (withW_is _ _ _ _ _ (with_C _ _ _ _ _ _ _ _ _)).mono ?_
    rintro e w' ⟨rfl, rfl⟩
    go_wp2_with fail
    go_ret
    exact ⟨rfl, (Below.refl _ _).alloc (Nat.le_refl _) _⟩

end Go.Proofs.Ytcjklpakbphnnaa
