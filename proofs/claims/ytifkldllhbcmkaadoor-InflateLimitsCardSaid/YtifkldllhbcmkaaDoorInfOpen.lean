/- What the laws of layer 15 take: the order of lengths of lengths, as the rows list it. -/
import Derived.Test.YtifkldllhbcmkaaDoorInfLawBack
import Derived.Test.YtifkldllhbcmkaaDoorBytesOpen
import Derived.Test.YtifkldllhbcmkaaDoorRows
import Derived.ProofKit
import Derived.OpenShut
import Derived.ChangeArms
import Derived.ChangeSame
import Derived.ChangeOld
import Derived.Lib.LaidTab
import Derived.Stop.LaidErr
import Derived.LaidMore
import Derived.MakeChecks
namespace Go.Proofs.YtifkldllhbcmkaaDoor
open Go.ChangeShapes Go.WideShapes Go.ChangeAt Go.RowKit
set_option linter.unusedVariables false

theorem own : ownKnob Tryd.prog.godebug = none := by kernel_rfl
theorem ord_of_laid {W : World} (h : laidMetH Tryd.prog Rows.inflateBackRow.laid W) : OrdAt W.heap.size W := by
  rw [MakeChecks.laidMetH_plain _ _ _ (by kernel_rfl)] at h
  have h2 : laidMet Tryd.prog [("squeal/inflate.lengthOrder", Rows.laid_squeal_inflate_lengthOrder)] W := h
  have g : Tryd.prog.globalNamed "squeal/inflate.lengthOrder" = some 0 := by kernel_rfl
  have t := Lib.tabIs_of_head (P := Tryd.prog) (W := W) (name := "squeal/inflate.lengthOrder") (k := .i64) (zs := [16, 17, 18, 0, 8, 7, 9, 6, 10, 5, 11, 4, 12, 3, 13, 2, 14, 1, 15]) (rest := []) g (by kernel_rfl) Tryd.underlying78 Tryd.underlying3 (by kernel_rfl) (by kernel_rfl) h2
  have c0 := t.cell g 0 (by decide)
  refine ⟨blk_lt c0, fun j hj => ?_⟩
  have e : j = 0 ∨ j = 1 ∨ j = 2 ∨ j = 3 ∨ j = 4 ∨ j = 5 ∨ j = 6 ∨ j = 7 ∨ j = 8 ∨ j = 9 ∨ j = 10 ∨ j = 11 ∨ j = 12 ∨ j = 13 ∨ j = 14 ∨ j = 15 ∨ j = 16 ∨ j = 17 ∨ j = 18 := by omega
  rcases e with rfl | rfl | rfl | rfl | rfl | rfl | rfl | rfl | rfl | rfl | rfl | rfl | rfl | rfl | rfl | rfl | rfl | rfl | rfl
  · exact t.cell g 0 (by decide)
  · exact t.cell g 1 (by decide)
  · exact t.cell g 2 (by decide)
  · exact t.cell g 3 (by decide)
  · exact t.cell g 4 (by decide)
  · exact t.cell g 5 (by decide)
  · exact t.cell g 6 (by decide)
  · exact t.cell g 7 (by decide)
  · exact t.cell g 8 (by decide)
  · exact t.cell g 9 (by decide)
  · exact t.cell g 10 (by decide)
  · exact t.cell g 11 (by decide)
  · exact t.cell g 12 (by decide)
  · exact t.cell g 13 (by decide)
  · exact t.cell g 14 (by decide)
  · exact t.cell g 15 (by decide)
  · exact t.cell g 16 (by decide)
  · exact t.cell g 17 (by decide)
  · exact t.cell g 18 (by decide)

end Go.Proofs.YtifkldllhbcmkaaDoor
