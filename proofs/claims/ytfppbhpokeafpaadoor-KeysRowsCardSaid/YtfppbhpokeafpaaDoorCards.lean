/-
  DERIVED. GIVEN WITH THE SEED: THE CARDS: each row of YtfppbhpokeafpaaDoorRows.lean that lists a variable, with what it lists TIED to the program's text (the seventh form; the later family's looks); each row that meets fmt, with fmt's text TOLD by the authors' own Lean function (tested against real Go, not proved from fmt's source: count such statements apart). THE CARD IS WHAT COUNTS. Prove the row's statement (the work); the ties are given (YtfppbhpokeafpaaDoorTie.lean); close each card by the builder's one call (the guide's Derived/Test/ToyasCard.lean, 'card_holds'). Laid BY PROGRAM, IN A SANDBOX (cutbox-door.mjs). By AI agents, Wed Nov 11 2026. No macro, syntax, notation, axiom, sorry.
-/
import Derived.Test.YtfppbhpokeafpaaDoorRows
import GoSem.ClaimSeven
namespace Go.Proofs.YtfppbhpokeafpaaDoor
namespace Rows

/-- THE TIED CARD OF 'squeallaw10.KeysPlays'. -/
def keysPlaysCard : Claim7 := { stood := { row := keysPlaysRow, standIns := [], harness := (true, "596661ded70ae96a2093a3be14b3fbcb81b0a5b3e6e6ed71510f980c9cea07a1"), looks := false }, kinds := [], alts := [], laidByText := true, laidKinds := [.widerDeep], laidTests := true, laidLooks := .later }
def KeysPlaysCardSaid : Prop := Claim7.holds Tryd.pinned (.plain (OpenSpec.ofChange keysPlaysSpec)) keysPlaysCard

/-- THE TIED CARD OF 'squeallaw10.KeysFinds'. -/
def keysFindsCard : Claim7 := { stood := { row := keysFindsRow, standIns := [], harness := (true, "596661ded70ae96a2093a3be14b3fbcb81b0a5b3e6e6ed71510f980c9cea07a1"), looks := false }, kinds := [], alts := [], laidByText := true, laidKinds := [.widerDeep], laidTests := true, laidLooks := .later }
def KeysFindsCardSaid : Prop := Claim7.holds Tryd.pinned (.plain (OpenSpec.ofChange keysFindsSpec)) keysFindsCard

/-- THE TIED CARD OF 'squeallaw10.KeysRows'. -/
def keysRowsCard : Claim7 := { stood := { row := keysRowsRow, standIns := [], harness := (true, "596661ded70ae96a2093a3be14b3fbcb81b0a5b3e6e6ed71510f980c9cea07a1"), looks := false }, kinds := [], alts := [], laidByText := true, laidKinds := [.widerDeep], laidTests := true, laidLooks := .later }
def KeysRowsCardSaid : Prop := Claim7.holds Tryd.pinned (.plain (OpenSpec.ofChange keysRowsSpec)) keysRowsCard

/-- THE TIED CARD OF 'squeallaw10.KeysNils'. -/
def keysNilsCard : Claim7 := { stood := { row := keysNilsRow, standIns := [], harness := (true, "596661ded70ae96a2093a3be14b3fbcb81b0a5b3e6e6ed71510f980c9cea07a1"), looks := false }, kinds := [], alts := [], laidByText := true, laidKinds := [.widerDeep], laidTests := true, laidLooks := .later }
def KeysNilsCardSaid : Prop := Claim7.holds Tryd.pinned (.plain (OpenSpec.ofChange keysNilsSpec)) keysNilsCard

/-- THE SECOND FORM's CARD OF 'squeallaw10.KeysPlays'. -/
def keysPlaysUptoCard : Claim7 := { stood := { row := keysPlaysUptoRow, standIns := [], harness := (true, "596661ded70ae96a2093a3be14b3fbcb81b0a5b3e6e6ed71510f980c9cea07a1"), looks := false }, kinds := [], alts := [], laidByText := true, laidKinds := [.widerDeep], laidTests := true, laidLooks := .later }
def KeysPlaysUptoCardSaid : Prop := Claim7.holds Tryd.pinned (.plain (OpenSpec.upto keysPlaysSpec)) keysPlaysUptoCard

/-- THE SECOND FORM's CARD OF 'squeallaw10.KeysFinds'. -/
def keysFindsUptoCard : Claim7 := { stood := { row := keysFindsUptoRow, standIns := [], harness := (true, "596661ded70ae96a2093a3be14b3fbcb81b0a5b3e6e6ed71510f980c9cea07a1"), looks := false }, kinds := [], alts := [], laidByText := true, laidKinds := [.widerDeep], laidTests := true, laidLooks := .later }
def KeysFindsUptoCardSaid : Prop := Claim7.holds Tryd.pinned (.plain (OpenSpec.upto keysFindsSpec)) keysFindsUptoCard

/-- THE SECOND FORM's CARD OF 'squeallaw10.KeysRows'. -/
def keysRowsUptoCard : Claim7 := { stood := { row := keysRowsUptoRow, standIns := [], harness := (true, "596661ded70ae96a2093a3be14b3fbcb81b0a5b3e6e6ed71510f980c9cea07a1"), looks := false }, kinds := [], alts := [], laidByText := true, laidKinds := [.widerDeep], laidTests := true, laidLooks := .later }
def KeysRowsUptoCardSaid : Prop := Claim7.holds Tryd.pinned (.plain (OpenSpec.upto keysRowsSpec)) keysRowsUptoCard

/-- THE SECOND FORM's CARD OF 'squeallaw10.KeysNils'. -/
def keysNilsUptoCard : Claim7 := { stood := { row := keysNilsUptoRow, standIns := [], harness := (true, "596661ded70ae96a2093a3be14b3fbcb81b0a5b3e6e6ed71510f980c9cea07a1"), looks := false }, kinds := [], alts := [], laidByText := true, laidKinds := [.widerDeep], laidTests := true, laidLooks := .later }
def KeysNilsUptoCardSaid : Prop := Claim7.holds Tryd.pinned (.plain (OpenSpec.upto keysNilsSpec)) keysNilsUptoCard
end Rows
end Go.Proofs.YtfppbhpokeafpaaDoor
