/-
  DERIVED. GIVEN WITH THE SEED: THE CARDS: each row of YteffjidbcdnbhaaDoorRows.lean that lists a variable, with what it lists TIED to the program's text (the seventh form; the later family's looks); each row that meets fmt, with fmt's text TOLD by the authors' own Lean function (tested against real Go, not proved from fmt's source: count such statements apart). THE CARD IS WHAT COUNTS. Prove the row's statement (the work); the ties are given (YteffjidbcdnbhaaDoorTie.lean); close each card by the builder's one call (the guide's Derived/Test/ToyasCard.lean, 'card_holds'). Laid BY PROGRAM, IN A SANDBOX (cutbox-door.mjs). By AI agents, Wed Nov 11 2026. No macro, syntax, notation, axiom, sorry.
-/
import Derived.Test.YteffjidbcdnbhaaDoorRows
import GoSem.ClaimSeven
namespace Go.Proofs.YteffjidbcdnbhaaDoor
namespace Rows

/-- THE TIED CARD OF 'squeallaw06.RegsBytes'. -/
def regsBytesCard : Claim7 := { stood := { row := regsBytesRow, standIns := [], harness := (true, "bdfe8bc13f8cf8b60eda581146927e8ffd5027683b6fc059c6c890ef6ce93c1b"), looks := false }, kinds := [], alts := [], laidByText := true, laidKinds := [.data, .data, .data], laidTests := true, laidLooks := .later }
def RegsBytesCardSaid : Prop := Claim7.holds Tryd.pinned (.plain (OpenSpec.ofChange regsBytesSpec)) regsBytesCard

/-- THE TIED CARD OF 'squeallaw06.RegsPairs'. -/
def regsPairsCard : Claim7 := { stood := { row := regsPairsRow, standIns := [], harness := (true, "bdfe8bc13f8cf8b60eda581146927e8ffd5027683b6fc059c6c890ef6ce93c1b"), looks := false }, kinds := [], alts := [], laidByText := true, laidKinds := [.data, .data, .data], laidTests := true, laidLooks := .later }
def RegsPairsCardSaid : Prop := Claim7.holds Tryd.pinned (.plain (OpenSpec.ofChange regsPairsSpec)) regsPairsCard

/-- THE TIED CARD OF 'squeallaw06.RegsShows'. -/
def regsShowsCard : Claim7 := { stood := { row := regsShowsRow, standIns := [], harness := (true, "bdfe8bc13f8cf8b60eda581146927e8ffd5027683b6fc059c6c890ef6ce93c1b"), looks := false }, kinds := [], alts := [], laidByText := true, laidKinds := [.data, .data, .data], laidTests := true, laidLooks := .later }
def RegsShowsCardSaid : Prop := Claim7.holds Tryd.pinned (.plain (OpenSpec.ofChange regsShowsSpec)) regsShowsCard

/-- THE TIED CARD OF 'squeallaw06.RegsBack'. -/
def regsBackCard : Claim7 := { stood := { row := regsBackRow, standIns := [], harness := (true, "bdfe8bc13f8cf8b60eda581146927e8ffd5027683b6fc059c6c890ef6ce93c1b"), looks := false }, kinds := [], alts := [], laidByText := true, laidKinds := [.data, .data, .data], laidTests := true, laidLooks := .later }
def RegsBackCardSaid : Prop := Claim7.holds Tryd.pinned (.plain (OpenSpec.ofChange regsBackSpec)) regsBackCard

/-- THE TIED CARD OF 'squeallaw06.RegsNils'. -/
def regsNilsCard : Claim7 := { stood := { row := regsNilsRow, standIns := [], harness := (true, "bdfe8bc13f8cf8b60eda581146927e8ffd5027683b6fc059c6c890ef6ce93c1b"), looks := false }, kinds := [], alts := [], laidByText := true, laidKinds := [.data, .data, .data], laidTests := true, laidLooks := .later }
def RegsNilsCardSaid : Prop := Claim7.holds Tryd.pinned (.plain (OpenSpec.ofChange regsNilsSpec)) regsNilsCard

/-- THE SECOND FORM's CARD OF 'squeallaw06.RegsBytes'. -/
def regsBytesUptoCard : Claim7 := { stood := { row := regsBytesUptoRow, standIns := [], harness := (true, "bdfe8bc13f8cf8b60eda581146927e8ffd5027683b6fc059c6c890ef6ce93c1b"), looks := false }, kinds := [], alts := [], laidByText := true, laidKinds := [.data, .data, .data], laidTests := true, laidLooks := .later }
def RegsBytesUptoCardSaid : Prop := Claim7.holds Tryd.pinned (.plain (OpenSpec.upto regsBytesSpec)) regsBytesUptoCard

/-- THE SECOND FORM's CARD OF 'squeallaw06.RegsPairs'. -/
def regsPairsUptoCard : Claim7 := { stood := { row := regsPairsUptoRow, standIns := [], harness := (true, "bdfe8bc13f8cf8b60eda581146927e8ffd5027683b6fc059c6c890ef6ce93c1b"), looks := false }, kinds := [], alts := [], laidByText := true, laidKinds := [.data, .data, .data], laidTests := true, laidLooks := .later }
def RegsPairsUptoCardSaid : Prop := Claim7.holds Tryd.pinned (.plain (OpenSpec.upto regsPairsSpec)) regsPairsUptoCard

/-- THE SECOND FORM's CARD OF 'squeallaw06.RegsShows'. -/
def regsShowsUptoCard : Claim7 := { stood := { row := regsShowsUptoRow, standIns := [], harness := (true, "bdfe8bc13f8cf8b60eda581146927e8ffd5027683b6fc059c6c890ef6ce93c1b"), looks := false }, kinds := [], alts := [], laidByText := true, laidKinds := [.data, .data, .data], laidTests := true, laidLooks := .later }
def RegsShowsUptoCardSaid : Prop := Claim7.holds Tryd.pinned (.plain (OpenSpec.upto regsShowsSpec)) regsShowsUptoCard

/-- THE SECOND FORM's CARD OF 'squeallaw06.RegsBack'. -/
def regsBackUptoCard : Claim7 := { stood := { row := regsBackUptoRow, standIns := [], harness := (true, "bdfe8bc13f8cf8b60eda581146927e8ffd5027683b6fc059c6c890ef6ce93c1b"), looks := false }, kinds := [], alts := [], laidByText := true, laidKinds := [.data, .data, .data], laidTests := true, laidLooks := .later }
def RegsBackUptoCardSaid : Prop := Claim7.holds Tryd.pinned (.plain (OpenSpec.upto regsBackSpec)) regsBackUptoCard

/-- THE SECOND FORM's CARD OF 'squeallaw06.RegsNils'. -/
def regsNilsUptoCard : Claim7 := { stood := { row := regsNilsUptoRow, standIns := [], harness := (true, "bdfe8bc13f8cf8b60eda581146927e8ffd5027683b6fc059c6c890ef6ce93c1b"), looks := false }, kinds := [], alts := [], laidByText := true, laidKinds := [.data, .data, .data], laidTests := true, laidLooks := .later }
def RegsNilsUptoCardSaid : Prop := Claim7.holds Tryd.pinned (.plain (OpenSpec.upto regsNilsSpec)) regsNilsUptoCard
end Rows
end Go.Proofs.YteffjidbcdnbhaaDoor
