/- The document's Even: its contract; and all of layer 1's plain calls with it. -/
import Derived.Test.YtbpmhbgdainpdaaFlagWalk
import Derived.Test.YtbpmhbgdainpdaaFlagRef
namespace Go.Proofs.Ytbpmhbgdainpdaa
open Go.RowKit

set_option maxHeartbeats 800000 in
theorem refEven_any (b : Int) (w : World) (h0 : 0 ≤ b) (h1 : b ≤ 255) :
    Calls Try.prog 32 #[.int .u8 b] w fun e w' => e = .returned (.bool (evenB b)) ∧ Below w.heap.size w w' := by
  go_enter Try.func32, Try.ntmps32
  go_wp2_with fail
  refine (bits_any _ _ h0 h1).mono ?_
  rintro e w1 ⟨v, rfl, hv, hb⟩
  obtain ⟨g, cap, rfl, hg, hc, hm, hcell⟩ := bits_cells hv
  have HC := Lib.hid hcell
  clear hcell hv
  go_wp2_with fail
  go_loop [4, 5] (fun v i => ∃ k : Nat, k ≤ 8 ∧ i = .int .i64 k ∧ v = .bool (evenTo b k)) (fun _ i => 8 - (intOf i).toNat)
  case atStart => exact ⟨0, Nat.zero_le _, rfl, rfl⟩
  case round =>
    obtain ⟨k, hk, rfl, rfl⟩ := hrel
    by_cases hlt : k < 8
    · have hsucc := evenTo_succ b k
      have hck := HC.out k hlt
      have HS := Lib.hid hsucc; clear hsucc
      generalize hx : bitN b k = x at HS hck
      generalize evenTo b k = ev at HS ⊢
      clear hx
      cases x
      all_goals
        go_wp2_with fail
        go_round
        case rel => exact ⟨k + 1, by omega, by go_num, by rw [HS.out]; simp⟩
        case measure => simp [intOf]; omega
    · obtain rfl : k = 8 := by omega
      go_wp2_with fail
      go_ret
      exact ⟨rfl, hb⟩

end Go.Proofs.Ytbpmhbgdainpdaa
