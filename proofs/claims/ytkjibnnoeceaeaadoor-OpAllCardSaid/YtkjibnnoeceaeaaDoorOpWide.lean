/- wide.Lo, Of, Plus and the document's Plus: their contracts. -/
import Derived.Test.YtkjibnnoeceaeaaDoorWideMath
import Derived.Test.YtkjibnnoeceaeaaDoorKit
import Derived.Test.YtkjibnnoeceaeaaDoorChecked
import Derived.Lib.Hide
namespace Go.Proofs.YtkjibnnoeceaeaaDoor
open Go.RowKit

set_option maxHeartbeats 400000 in
theorem loO (a : Int) (w : World) : Calls Tryd.prog 69 #[.int .u16 a] w fun e w' => e = .returned (.int .u8 (a % 256)) ∧ w = w' := by
  go_enter Tryd.func69, Tryd.ntmps69
  go_wp2_with fail
  go_ret
  exact ⟨rfl, rfl⟩
set_option maxHeartbeats 400000 in
theorem ofO (h l : Int) (w : World) (h0 : 0 ≤ h) (h1 : h ≤ 255) (l0 : 0 ≤ l) (l1 : l ≤ 255) : Calls Tryd.prog 66 #[.int .u8 h, .int .u8 l] w fun e w' => e = .returned (.int .u16 (h * 256 + l)) ∧ w = w' := by
  have hw := word_of h l h0 h1 l0 l1
  go_enter Tryd.func66, Tryd.ntmps66
  go_wp2_with fail
  go_ret
  exact ⟨rfl, rfl⟩
set_option maxHeartbeats 400000 in
theorem plusO (a d : Int) (w : World) (d0 : 0 ≤ d) (d1 : d ≤ 255) : Calls Tryd.prog 71 #[.int .u16 a, .int .u8 d] w fun e w' => e = .returned (.int .u16 (plusW a d)) ∧ w = w' := by
  have ed := wrap_i8 d d0 d1
  have ep := wrap_plus a d
  go_enter Tryd.func71, Tryd.ntmps71
  go_wp2_with fail
  go_ret
  exact ⟨rfl, rfl⟩
set_option maxHeartbeats 400000 in
theorem refPlusO (a d : Int) (w : World) (a0 : 0 ≤ a) (a1 : a ≤ 65535) (d0 : 0 ≤ d) (d1 : d ≤ 255) :
    Calls Tryd.prog 52 #[.int .u16 a, .int .u8 d] w fun e w' => e = .returned (.int .u16 (plusW a d)) ∧ w = w' := by
  by_cases h : 128 ≤ d
  · have HP := Lib.hid (show plusW a d = (a + d - 256) % 65536 by unfold plusW sgn; rw [if_pos h]; omega)
    go_enter Tryd.func52, Tryd.ntmps52
    go_wp2_with fail
    go_ret
    exact ⟨by rw [HP.out]; rfl, rfl⟩
  · have hd : decide (128 ≤ d) = false := decide_eq_false h
    have HP := Lib.hid (show plusW a d = (a + d) % 65536 by unfold plusW sgn; rw [if_neg h])
    go_enter Tryd.func52, Tryd.ntmps52
    go_wp2_with fail
    go_ret
    exact ⟨by rw [HP.out]; rfl, rfl⟩

end Go.Proofs.YtkjibnnoeceaeaaDoor
