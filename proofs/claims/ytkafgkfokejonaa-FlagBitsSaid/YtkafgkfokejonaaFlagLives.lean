/- The chapter's examples, and what the laws of layer 1 lean on. -/
import Derived.Test.YtkafgkfokejonaaFlagRead
import Derived.Test.YtkafgkfokejonaaFlagCond
namespace Go.Proofs.Ytkafgkfokejonaa
open Go.RowKit

theorem of_is (b r : Int) (w : World) (h : ofB b = r) : Calls Try.prog 10 #[.int .u8 b] w fun e w' => e = .returned (.int .u8 r) ∧ w = w' := by
  rw [← h]; exact of_any b w
theorem ofP_is (b r : Int) (w : World) (h0 : 0 ≤ b) (h1 : b ≤ 255) (h : ofPB b = r) : Calls Try.prog 12 #[.int .u8 b] w fun e w' => e = .returned (.int .u8 r) ∧ w = w' := by
  rw [← h]; exact ofP_any b w h0 h1
theorem show_is (b : Int) (r : ByteArray) (w : World) (h0 : 0 ≤ b) (h1 : b ≤ 255) (h : showS b = r) : Calls Try.prog 23 #[.int .u8 b] w fun e w' => e = .returned (.string r) ∧ Below w.heap.size w w' := by
  rw [← h]; exact show_any b w h0 h1

theorem of_40 : ofB 40 = 40 := by decide +kernel
theorem ofP_0 : ofPB 0 = 68 := by decide +kernel
theorem show_65 : showS 65 = ⟨#[45, 90, 45, 45, 45, 45, 45, 67]⟩ := by decide +kernel

set_option maxHeartbeats 800000 in
theorem lives_any (w : World) :
    Calls Try.prog 14 #[] w fun e w' => e = .returned (.bool true) ∧ Below w.heap.size w w' := by
  go_enter Try.func14, Try.ntmps14
  go_wp2_with fail
  refine (of_is _ _ _ of_40).mono ?_
  rintro e w' ⟨rfl, rfl⟩
  go_wp2_with fail
  refine (ofP_is _ _ _ (by decide) (by decide) ofP_0).mono ?_
  rintro e w' ⟨rfl, rfl⟩
  go_wp2_with fail
  refine (show_is _ _ _ (by decide) (by decide) show_65).mono ?_
  rintro e w1 ⟨rfl, hb⟩
  go_wp2_with fail
  go_ret
  exact ⟨rfl, hb⟩

end Go.Proofs.Ytkafgkfokejonaa
