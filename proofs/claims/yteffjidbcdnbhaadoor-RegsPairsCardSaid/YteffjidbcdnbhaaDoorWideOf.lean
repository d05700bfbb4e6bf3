/- wide.Hi, Lo, Of: their contracts. -/
import Derived.Test.YteffjidbcdnbhaaDoorWideMath
import Derived.Test.YteffjidbcdnbhaaDoorKit
import Derived.Test.YteffjidbcdnbhaaDoorChecked
namespace Go.Proofs.YteffjidbcdnbhaaDoor
open Go.RowKit

set_option maxHeartbeats 400000 in
theorem hi_any (a : Int) (w : World) (h0 : 0 ≤ a) (h1 : a ≤ 65535) : Calls Tryd.prog 31 #[.int .u16 a] w fun e w' => e = .returned (.int .u8 (a / 256)) ∧ w = w' := by
  go_enter Tryd.func31, Tryd.ntmps31
  go_wp2_with fail
  go_ret
  exact ⟨rfl, rfl⟩
set_option maxHeartbeats 400000 in
theorem lo_any (a : Int) (w : World) : Calls Tryd.prog 30 #[.int .u16 a] w fun e w' => e = .returned (.int .u8 (a % 256)) ∧ w = w' := by
  go_enter Tryd.func30, Tryd.ntmps30
  go_wp2_with fail
  go_ret
  exact ⟨rfl, rfl⟩
set_option maxHeartbeats 400000 in
theorem word_any (h l : Int) (w : World) (h0 : 0 ≤ h) (h1 : h ≤ 255) (l0 : 0 ≤ l) (l1 : l ≤ 255) : Calls Tryd.prog 29 #[.int .u8 h, .int .u8 l] w fun e w' => e = .returned (.int .u16 (h * 256 + l)) ∧ w = w' := by
  have hw := word_of h l h0 h1 l0 l1
  go_enter Tryd.func29, Tryd.ntmps29
  go_wp2_with fail
  go_ret
  exact ⟨rfl, rfl⟩

end Go.Proofs.YteffjidbcdnbhaaDoor
