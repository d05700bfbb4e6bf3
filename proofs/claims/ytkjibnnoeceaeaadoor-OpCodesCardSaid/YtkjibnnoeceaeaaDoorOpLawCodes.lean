/- OpCodes: its walk. -/
import Derived.Test.YtkjibnnoeceaeaaDoorOpArgs
import Derived.Test.YtkjibnnoeceaeaaDoorOpPlainL
import Derived.Test.YtkjibnnoeceaeaaDoorOpLives
namespace Go.Proofs.YtkjibnnoeceaeaaDoor
open Go.RowKit

set_option maxHeartbeats 1600000 in
theorem codes_walk (c : Nat) (w : World) (hc : c < 256) (h : OpTab w) : Calls Tryd.prog 5 #[.int .u8 c] w fun e w' => e = .returned (.bool true) ∧ Below w.heap.size w w' := by
  have H := Lib.hid h
  clear h
  obtain ⟨n, hn⟩ : ∃ n, argC c = n := ⟨_, rfl⟩
  obtain ⟨m, hm⟩ : ∃ m, memC c = m := ⟨_, rfl⟩
  have H1 := Lib.hid (fun w => hn ▸ opArgs c w hc)
  have H2 := Lib.hid (fun w => hn ▸ refArgs c w hc)
  have H3 := Lib.hid (fun w => hm ▸ opMem c w hc)
  have H4 := Lib.hid (fun w => hm ▸ refMemory c w hc)
  clear hn hm
  go_enter Tryd.func5, Tryd.ntmps5
  go_wp2_with fail
  refine (H1.out _).mono ?_
  rintro e w1 ⟨rfl, hb1⟩
  go_wp2_with fail
  refine (H2.out _).mono ?_
  rintro e w2 ⟨rfl, hb2⟩
  have B2 := Lib.hid (below_step hb1 hb2)
  clear hb1 hb2
  go_wp2_with fail
  refine (H3.out _).mono ?_
  rintro e w3 ⟨rfl, hb3⟩
  go_wp2_with fail
  refine (H4.out _).mono ?_
  rintro e w4 ⟨rfl, hb4⟩
  have B4 := Lib.hid (below_step (below_step B2.out hb3) hb4)
  clear hb3 hb4 B2
  go_wp2_with fail
  refine (lives7 _ (H.out.below B4.out)).mono ?_
  rintro e w5 ⟨rfl, hb5⟩
  have B5 := Lib.hid (below_step B4.out hb5)
  clear hb5
  go_wp2_with fail
  go_ret
  exact ⟨by simp, B5.out⟩

theorem codes_law (a : Int) (wa : (Lit.int .u8 a).wf = true) (w : World) (h : OpTab w) : Calls Tryd.prog 5 #[.int .u8 a] w fun e w' => e = .returned (.bool true) ∧ Below w.heap.size w w' := by
  obtain ⟨a0, a1⟩ := u8_bd wa
  obtain ⟨n, rfl⟩ := Int.eq_ofNat_of_zero_le a0
  exact codes_walk n w (by omega) h

end Go.Proofs.YtkjibnnoeceaeaaDoor
