/-
  DERIVED. GIVEN WITH THE SEED: THE CARDS: each row of YtkjibnnoeceaeaaDoorRows.lean that lists a variable, with what it lists TIED to the program's text (the seventh form; the later family's looks); each row that meets fmt, with fmt's text TOLD by the authors' own Lean function (tested against real Go, not proved from fmt's source: count such statements apart). THE CARD IS WHAT COUNTS. Prove the row's statement (the work); the ties are given (YtkjibnnoeceaeaaDoorTie.lean); close each card by the builder's one call (the guide's Derived/Test/ToyasCard.lean, 'card_holds'). Laid BY PROGRAM, IN A SANDBOX (cutbox-door.mjs). By AI agents, Wed Nov 11 2026. No macro, syntax, notation, axiom, sorry.
-/
import Derived.Test.YtkjibnnoeceaeaaDoorRows
import GoSem.ClaimSeven
namespace Go.Proofs.YtkjibnnoeceaeaaDoor
namespace Rows

/-- THE TIED CARD OF 'squeallaw07.OpReads'. -/
def opReadsCard : Claim7 := { stood := { row := opReadsRow, standIns := [], harness := (true, "327cb4869fbfdee57080fa64839241d15defb47bd2da8a8e16d08b49a08763be"), looks := false }, kinds := [], alts := [], laidByText := true, laidKinds := [.data, .data, .data, .data, .data, .data, .data, .data, .data, .data, .data, .data, .data], laidTests := true, laidLooks := .later }
def OpReadsCardSaid : Prop := Claim7.holds Tryd.pinned (.plain (OpenSpec.ofChange opReadsSpec)) opReadsCard

/-- THE TIED CARD OF 'squeallaw07.OpShows'. -/
def opShowsCard : Claim7 := { stood := { row := opShowsRow, standIns := [], harness := (true, "327cb4869fbfdee57080fa64839241d15defb47bd2da8a8e16d08b49a08763be"), looks := false }, kinds := [], alts := [], laidByText := true, laidKinds := [.data, .data, .data, .data, .data, .data, .data, .data, .data, .data, .data, .data, .data], laidTests := true, laidLooks := .later }
def OpShowsCardSaid : Prop := Claim7.holds Tryd.pinned (.plain (OpenSpec.ofChange opShowsSpec)) opShowsCard

/-- THE TIED CARD OF 'squeallaw07.OpCodes'. -/
def opCodesCard : Claim7 := { stood := { row := opCodesRow, standIns := [], harness := (true, "327cb4869fbfdee57080fa64839241d15defb47bd2da8a8e16d08b49a08763be"), looks := false }, kinds := [], alts := [], laidByText := true, laidKinds := [.data, .data, .data, .data, .data, .data, .data, .data, .data, .data, .data, .data, .data], laidTests := true, laidLooks := .later }
def OpCodesCardSaid : Prop := Claim7.holds Tryd.pinned (.plain (OpenSpec.ofChange opCodesSpec)) opCodesCard

/-- THE TIED CARD OF 'squeallaw07.OpAll'. -/
def opAllCard : Claim7 := { stood := { row := opAllRow, standIns := [], harness := (true, "327cb4869fbfdee57080fa64839241d15defb47bd2da8a8e16d08b49a08763be"), looks := false }, kinds := [], alts := [], laidByText := true, laidKinds := [.data, .data, .data, .data, .data, .data, .data, .data, .data, .data, .data, .data, .data], laidTests := true, laidLooks := .later }
def OpAllCardSaid : Prop := Claim7.holds Tryd.pinned (.plain (OpenSpec.ofChange opAllSpec)) opAllCard

/-- THE TIED CARD OF 'squeallaw07.OpAlone'. -/
def opAloneCard : Claim7 := { stood := { row := opAloneRow, standIns := [], harness := (true, "327cb4869fbfdee57080fa64839241d15defb47bd2da8a8e16d08b49a08763be"), looks := false }, kinds := [], alts := [], laidByText := true, laidKinds := [.data, .data, .data, .data, .data, .data, .data, .data, .data, .data, .data, .data, .data], laidTests := true, laidLooks := .later }
def OpAloneCardSaid : Prop := Claim7.holds Tryd.pinned (.plain (OpenSpec.ofChange opAloneSpec)) opAloneCard

/-- THE SECOND FORM's CARD OF 'squeallaw07.OpReads'. -/
def opReadsUptoCard : Claim7 := { stood := { row := opReadsUptoRow, standIns := [], harness := (true, "327cb4869fbfdee57080fa64839241d15defb47bd2da8a8e16d08b49a08763be"), looks := false }, kinds := [], alts := [], laidByText := true, laidKinds := [.data, .data, .data, .data, .data, .data, .data, .data, .data, .data, .data, .data, .data], laidTests := true, laidLooks := .later }
def OpReadsUptoCardSaid : Prop := Claim7.holds Tryd.pinned (.plain (OpenSpec.upto opReadsSpec)) opReadsUptoCard

/-- THE SECOND FORM's CARD OF 'squeallaw07.OpShows'. -/
def opShowsUptoCard : Claim7 := { stood := { row := opShowsUptoRow, standIns := [], harness := (true, "327cb4869fbfdee57080fa64839241d15defb47bd2da8a8e16d08b49a08763be"), looks := false }, kinds := [], alts := [], laidByText := true, laidKinds := [.data, .data, .data, .data, .data, .data, .data, .data, .data, .data, .data, .data, .data], laidTests := true, laidLooks := .later }
def OpShowsUptoCardSaid : Prop := Claim7.holds Tryd.pinned (.plain (OpenSpec.upto opShowsSpec)) opShowsUptoCard

/-- THE SECOND FORM's CARD OF 'squeallaw07.OpCodes'. -/
def opCodesUptoCard : Claim7 := { stood := { row := opCodesUptoRow, standIns := [], harness := (true, "327cb4869fbfdee57080fa64839241d15defb47bd2da8a8e16d08b49a08763be"), looks := false }, kinds := [], alts := [], laidByText := true, laidKinds := [.data, .data, .data, .data, .data, .data, .data, .data, .data, .data, .data, .data, .data], laidTests := true, laidLooks := .later }
def OpCodesUptoCardSaid : Prop := Claim7.holds Tryd.pinned (.plain (OpenSpec.upto opCodesSpec)) opCodesUptoCard

/-- THE SECOND FORM's CARD OF 'squeallaw07.OpAll'. -/
def opAllUptoCard : Claim7 := { stood := { row := opAllUptoRow, standIns := [], harness := (true, "327cb4869fbfdee57080fa64839241d15defb47bd2da8a8e16d08b49a08763be"), looks := false }, kinds := [], alts := [], laidByText := true, laidKinds := [.data, .data, .data, .data, .data, .data, .data, .data, .data, .data, .data, .data, .data], laidTests := true, laidLooks := .later }
def OpAllUptoCardSaid : Prop := Claim7.holds Tryd.pinned (.plain (OpenSpec.upto opAllSpec)) opAllUptoCard

/-- THE SECOND FORM's CARD OF 'squeallaw07.OpAlone'. -/
def opAloneUptoCard : Claim7 := { stood := { row := opAloneUptoRow, standIns := [], harness := (true, "327cb4869fbfdee57080fa64839241d15defb47bd2da8a8e16d08b49a08763be"), looks := false }, kinds := [], alts := [], laidByText := true, laidKinds := [.data, .data, .data, .data, .data, .data, .data, .data, .data, .data, .data, .data, .data], laidTests := true, laidLooks := .later }
def OpAloneUptoCardSaid : Prop := Claim7.holds Tryd.pinned (.plain (OpenSpec.upto opAloneSpec)) opAloneUptoCard
end Rows
end Go.Proofs.YtkjibnnoeceaeaaDoor
