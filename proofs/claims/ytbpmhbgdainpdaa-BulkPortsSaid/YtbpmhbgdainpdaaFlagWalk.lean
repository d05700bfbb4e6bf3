/- The contracts of layer 1's other calls. -/
import Derived.Test.YtbpmhbgdainpdaaFlagHas
namespace Go.Proofs.Ytbpmhbgdainpdaa
open Go.RowKit

set_option maxHeartbeats 400000 in
theorem bitAt_any (k : Int) (w : World) (h0 : 0 ≤ k) (h7 : k ≤ 7) :
    Calls Try.prog 41 #[.int .i64 k] w fun e w' => e = .returned (.int .u8 (128 / 2 ^ k.toNat)) ∧ w = w' := by
  go_enter Try.func41, Try.ntmps41
  go_wp2
  go_ret
  exact ⟨rfl, rfl⟩

set_option maxHeartbeats 400000 in
theorem even_any (b : Int) (w : World) (h0 : 0 ≤ b) (h1 : b ≤ 255) :
    Calls Try.prog 28 #[.int .u8 b] w fun e w' => e = .returned (.bool (evenB b)) ∧ w = w' := by
  go_enter Try.func28, Try.ntmps28
  go_wp2_with fail
  go_loop [3, 5] (fun v i => ∃ k : Nat, k ≤ 8 ∧ i = .int .i64 k ∧ v = .bool (evenTo b k)) (fun _ i => 8 - (intOf i).toNat)
  case atStart => exact ⟨0, Nat.zero_le _, rfl, rfl⟩
  case round =>
    obtain ⟨k, hk, rfl, rfl⟩ := hrel
    by_cases hlt : k < 8
    · have hbit := has_bit b h0 h1 k hlt
      have hsucc := evenTo_succ b k
      have HS := Lib.hid hsucc
      clear hsucc
      have HB := Lib.hid hbit
      clear hbit
      generalize hx : bitN b k = x at HS HB
      generalize evenTo b k = ev at HS ⊢
      cases x
      all_goals
        go_wp2_with fail
        refine (bitAt_any _ _ (by omega) (by omega)).mono ?_
        rintro e w' ⟨rfl, rfl⟩
        go_wp2_with fail
        refine (has_is _ _ _ _ HB.out).mono ?_
        rintro e w' ⟨rfl, rfl⟩
        go_wp2_with fail
        go_round
        case rel => exact ⟨k + 1, by omega, by go_num, by rw [HS.out]; simp⟩
        case measure => simp [intOf]; omega
    · obtain rfl : k = 8 := by omega
      go_wp2_with fail
      go_ret
      exact ⟨rfl, rfl⟩

set_option maxHeartbeats 400000 in
theorem of_any (b : Int) (w : World) :
    Calls Try.prog 27 #[.int .u8 b] w fun e w' => e = .returned (.int .u8 (ofB b)) ∧ w = w' := by
  go_enter Try.func27, Try.ntmps27
  go_wp2_with fail
  refine (with_any _ _ _ _).mono ?_
  rintro e w' ⟨rfl, rfl⟩
  go_wp2_with fail
  go_ret
  exact ⟨rfl, rfl⟩

theorem of_is (b r : Int) (w : World) (h : ofB b = r) : Calls Try.prog 27 #[.int .u8 b] w fun e w' => e = .returned (.int .u8 r) ∧ w = w' := by
  rw [← h]; exact of_any b w
end Go.Proofs.Ytbpmhbgdainpdaa
