/-
  DERIVED. GIVEN WITH THE SEED: THE CARDS: each row of YthmkfojjlcinkaaDoorRows.lean that lists a variable, with what it lists TIED to the program's text (the seventh form; the later family's looks); each row that meets fmt, with fmt's text TOLD by the authors' own Lean function (tested against real Go, not proved from fmt's source: count such statements apart). THE CARD IS WHAT COUNTS. Prove the row's statement (the work); the ties are given (YthmkfojjlcinkaaDoorTie.lean); close each card by the builder's one call (the guide's Derived/Test/ToyasCard.lean, 'card_holds'). Laid BY PROGRAM, IN A SANDBOX (cutbox-door.mjs). By AI agents, Wed Nov 11 2026. No macro, syntax, notation, axiom, sorry.
-/
import Derived.Test.YthmkfojjlcinkaaDoorRows
import GoSem.ClaimSeven
namespace Go.Proofs.YthmkfojjlcinkaaDoor
namespace Rows

/-- THE TIED CARD OF 'squeallaw08.MicroTimes'. -/
def microTimesCard : Claim7 := { stood := { row := microTimesRow, standIns := [], harness := (true, "b7ab2ffe3a06352e640b053bc0b2735702dcfb740ef9b3a220de84ea40c4a285"), looks := false }, kinds := [], alts := [], laidByText := true, laidKinds := [.data], laidTests := true, laidLooks := .later }
def MicroTimesCardSaid : Prop := Claim7.holds Tryd.pinned (.plain (OpenSpec.ofChange microTimesSpec)) microTimesCard

/-- THE TIED CARD OF 'squeallaw08.MicroAll'. -/
def microAllCard : Claim7 := { stood := { row := microAllRow, standIns := [], harness := (true, "b7ab2ffe3a06352e640b053bc0b2735702dcfb740ef9b3a220de84ea40c4a285"), looks := false }, kinds := [], alts := [], laidByText := true, laidKinds := [.data], laidTests := true, laidLooks := .later }
def MicroAllCardSaid : Prop := Claim7.holds Tryd.pinned (.plain (OpenSpec.ofChange microAllSpec)) microAllCard

/-- THE TIED CARD OF 'squeallaw08.MicroReads'. -/
def microReadsCard : Claim7 := { stood := { row := microReadsRow, standIns := [], harness := (true, "b7ab2ffe3a06352e640b053bc0b2735702dcfb740ef9b3a220de84ea40c4a285"), looks := false }, kinds := [], alts := [], laidByText := true, laidKinds := [.data], laidTests := true, laidLooks := .later }
def MicroReadsCardSaid : Prop := Claim7.holds Tryd.pinned (.plain (OpenSpec.ofChange microReadsSpec)) microReadsCard

/-- THE SECOND FORM's CARD OF 'squeallaw08.MicroTimes'. -/
def microTimesUptoCard : Claim7 := { stood := { row := microTimesUptoRow, standIns := [], harness := (true, "b7ab2ffe3a06352e640b053bc0b2735702dcfb740ef9b3a220de84ea40c4a285"), looks := false }, kinds := [], alts := [], laidByText := true, laidKinds := [.data], laidTests := true, laidLooks := .later }
def MicroTimesUptoCardSaid : Prop := Claim7.holds Tryd.pinned (.plain (OpenSpec.upto microTimesSpec)) microTimesUptoCard

/-- THE SECOND FORM's CARD OF 'squeallaw08.MicroAll'. -/
def microAllUptoCard : Claim7 := { stood := { row := microAllUptoRow, standIns := [], harness := (true, "b7ab2ffe3a06352e640b053bc0b2735702dcfb740ef9b3a220de84ea40c4a285"), looks := false }, kinds := [], alts := [], laidByText := true, laidKinds := [.data], laidTests := true, laidLooks := .later }
def MicroAllUptoCardSaid : Prop := Claim7.holds Tryd.pinned (.plain (OpenSpec.upto microAllSpec)) microAllUptoCard

/-- THE SECOND FORM's CARD OF 'squeallaw08.MicroReads'. -/
def microReadsUptoCard : Claim7 := { stood := { row := microReadsUptoRow, standIns := [], harness := (true, "b7ab2ffe3a06352e640b053bc0b2735702dcfb740ef9b3a220de84ea40c4a285"), looks := false }, kinds := [], alts := [], laidByText := true, laidKinds := [.data], laidTests := true, laidLooks := .later }
def MicroReadsUptoCardSaid : Prop := Claim7.holds Tryd.pinned (.plain (OpenSpec.upto microReadsSpec)) microReadsUptoCard
end Rows
end Go.Proofs.YthmkfojjlcinkaaDoor
