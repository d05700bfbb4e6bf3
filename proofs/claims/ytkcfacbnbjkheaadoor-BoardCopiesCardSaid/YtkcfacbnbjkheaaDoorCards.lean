/-
  DERIVED. GIVEN WITH THE SEED: THE CARDS: each row of YtkcfacbnbjkheaaDoorRows.lean that lists a variable, with what it lists TIED to the program's text (the seventh form; the later family's looks); each row that meets fmt, with fmt's text TOLD by the authors' own Lean function (tested against real Go, not proved from fmt's source: count such statements apart). THE CARD IS WHAT COUNTS. Prove the row's statement (the work); the ties are given (YtkcfacbnbjkheaaDoorTie.lean); close each card by the builder's one call (the guide's Derived/Test/ToyasCard.lean, 'card_holds'). Laid BY PROGRAM, IN A SANDBOX (cutbox-door.mjs). By AI agents, Wed Nov 11 2026. No macro, syntax, notation, axiom, sorry.
-/
import Derived.Test.YtkcfacbnbjkheaaDoorRows
import GoSem.ClaimSeven
namespace Go.Proofs.YtkcfacbnbjkheaaDoor
namespace Rows

/-- THE TIED CARD OF 'squeallaw11.BoardPlays'. -/
def boardPlaysCard : Claim7 := { stood := { row := boardPlaysRow, standIns := [], harness := (true, "a4c6a2821a8b94d2d06996320d32ee2910f50c90e4227fc0671d77258c97e763"), looks := false }, kinds := [], alts := [], laidByText := true, laidKinds := [.widerDeep, .data], laidTests := true, laidLooks := .later }
def BoardPlaysCardSaid : Prop := Claim7.holds Tryd.pinned (.plain (OpenSpec.ofChange boardPlaysSpec)) boardPlaysCard

/-- THE TIED CARD OF 'squeallaw11.BoardCopies'. -/
def boardCopiesCard : Claim7 := { stood := { row := boardCopiesRow, standIns := [], harness := (true, "a4c6a2821a8b94d2d06996320d32ee2910f50c90e4227fc0671d77258c97e763"), looks := false }, kinds := [], alts := [], laidByText := true, laidKinds := [.widerDeep, .data], laidTests := true, laidLooks := .later }
def BoardCopiesCardSaid : Prop := Claim7.holds Tryd.pinned (.plain (OpenSpec.ofChange boardCopiesSpec)) boardCopiesCard

/-- THE SECOND FORM's CARD OF 'squeallaw11.BoardPlays'. -/
def boardPlaysUptoCard : Claim7 := { stood := { row := boardPlaysUptoRow, standIns := [], harness := (true, "a4c6a2821a8b94d2d06996320d32ee2910f50c90e4227fc0671d77258c97e763"), looks := false }, kinds := [], alts := [], laidByText := true, laidKinds := [.widerDeep, .data], laidTests := true, laidLooks := .later }
def BoardPlaysUptoCardSaid : Prop := Claim7.holds Tryd.pinned (.plain (OpenSpec.upto boardPlaysSpec)) boardPlaysUptoCard

/-- THE SECOND FORM's CARD OF 'squeallaw11.BoardCopies'. -/
def boardCopiesUptoCard : Claim7 := { stood := { row := boardCopiesUptoRow, standIns := [], harness := (true, "a4c6a2821a8b94d2d06996320d32ee2910f50c90e4227fc0671d77258c97e763"), looks := false }, kinds := [], alts := [], laidByText := true, laidKinds := [.widerDeep, .data], laidTests := true, laidLooks := .later }
def BoardCopiesUptoCardSaid : Prop := Claim7.holds Tryd.pinned (.plain (OpenSpec.upto boardCopiesSpec)) boardCopiesUptoCard
end Rows
end Go.Proofs.YtkcfacbnbjkheaaDoor
