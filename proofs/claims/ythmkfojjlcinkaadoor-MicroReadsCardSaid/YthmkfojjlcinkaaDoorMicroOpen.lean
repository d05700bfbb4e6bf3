/- What the laws of layer 8 take: the table of modes, as the rows list it. -/
import Derived.Test.YthmkfojjlcinkaaDoorMicroC
import Derived.Test.YthmkfojjlcinkaaDoorRows
import Derived.ProofKit
import Derived.OpenShut
import Derived.Lib.LaidTab
import Derived.Stop.LaidErr
import Derived.LaidMore
import Derived.MakeChecks
namespace Go.Proofs.YthmkfojjlcinkaaDoor
open Go.ChangeShapes Go.WideShapes Go.ChangeAt Go.RowKit

theorem own : ownKnob Tryd.prog.godebug = none := by kernel_rfl
theorem modes_of_laid {W : World} (h : laidMetH Tryd.prog Rows.microTimesRow.laid W) : Modes W := by
  rw [MakeChecks.laidMetH_plain _ _ _ (by kernel_rfl)] at h
  have h2 : laidMet Tryd.prog [("squeal/micro.modes", Rows.laid_squeal_micro_modes)] W := h
  have g : Tryd.prog.globalNamed "squeal/micro.modes" = some 0 := by kernel_rfl
  have t := Lib.tabIs_of_head (P := Tryd.prog) (W := W) (name := "squeal/micro.modes") (k := .i64) (zs := [0, 0, 1, 2]) (rest := []) g (by kernel_rfl) Tryd.underlying70 Tryd.underlying3 (by kernel_rfl) (by kernel_rfl) h2
  have c0 : W.cell? ⟨0, 0, none⟩ = some (.int .i64 0) := t.cell g 0 (by decide)
  exact ⟨⟨c0, t.cell g 1 (by decide), t.cell g 2 (by decide), t.cell g 3 (by decide)⟩, World.block_lt_of_cell? W _ c0⟩

end Go.Proofs.YthmkfojjlcinkaaDoor
