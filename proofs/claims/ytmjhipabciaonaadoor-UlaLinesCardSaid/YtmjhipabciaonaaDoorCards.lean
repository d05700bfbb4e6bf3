/-
  DERIVED. GIVEN WITH THE SEED: THE CARDS: each row of YtmjhipabciaonaaDoorRows.lean that lists a variable, with what it lists TIED to the program's text (the seventh form; the later family's looks); each row that meets fmt, with fmt's text TOLD by the authors' own Lean function (tested against real Go, not proved from fmt's source: count such statements apart). THE CARD IS WHAT COUNTS. Prove the row's statement (the work); the ties are given (YtmjhipabciaonaaDoorTie.lean); close each card by the builder's one call (the guide's Derived/Test/ToyasCard.lean, 'card_holds'). Laid BY PROGRAM, IN A SANDBOX (cutbox-door.mjs). By AI agents, Wed Nov 11 2026. No macro, syntax, notation, axiom, sorry.
-/
import Derived.Test.YtmjhipabciaonaaDoorRows
import GoSem.ClaimSeven
namespace Go.Proofs.YtmjhipabciaonaaDoor
namespace Rows

/-- THE TIED CARD OF 'squeallaw09.UlaWaits'. -/
def ulaWaitsCard : Claim7 := { stood := { row := ulaWaitsRow, standIns := [], harness := (true, "5a406a5a3430bd01115205c6121e06e5cd2e7e25e2f3e9aa1f0186d5b5a59359"), looks := false }, kinds := [], alts := [], laidByText := true, laidKinds := [.data], laidTests := true, laidLooks := .later }
def UlaWaitsCardSaid : Prop := Claim7.holds Tryd.pinned (.plain (OpenSpec.ofChange ulaWaitsSpec)) ulaWaitsCard

/-- THE TIED CARD OF 'squeallaw09.UlaCells'. -/
def ulaCellsCard : Claim7 := { stood := { row := ulaCellsRow, standIns := [], harness := (true, "5a406a5a3430bd01115205c6121e06e5cd2e7e25e2f3e9aa1f0186d5b5a59359"), looks := false }, kinds := [], alts := [], laidByText := true, laidKinds := [.data], laidTests := true, laidLooks := .later }
def UlaCellsCardSaid : Prop := Claim7.holds Tryd.pinned (.plain (OpenSpec.ofChange ulaCellsSpec)) ulaCellsCard

/-- THE TIED CARD OF 'squeallaw09.UlaFetches'. -/
def ulaFetchesCard : Claim7 := { stood := { row := ulaFetchesRow, standIns := [], harness := (true, "5a406a5a3430bd01115205c6121e06e5cd2e7e25e2f3e9aa1f0186d5b5a59359"), looks := false }, kinds := [], alts := [], laidByText := true, laidKinds := [.data], laidTests := true, laidLooks := .later }
def UlaFetchesCardSaid : Prop := Claim7.holds Tryd.pinned (.plain (OpenSpec.ofChange ulaFetchesSpec)) ulaFetchesCard

/-- THE TIED CARD OF 'squeallaw09.UlaLines'. -/
def ulaLinesCard : Claim7 := { stood := { row := ulaLinesRow, standIns := [], harness := (true, "5a406a5a3430bd01115205c6121e06e5cd2e7e25e2f3e9aa1f0186d5b5a59359"), looks := false }, kinds := [], alts := [], laidByText := true, laidKinds := [.data], laidTests := true, laidLooks := .later }
def UlaLinesCardSaid : Prop := Claim7.holds Tryd.pinned (.plain (OpenSpec.ofChange ulaLinesSpec)) ulaLinesCard

/-- THE TIED CARD OF 'squeallaw09.UlaApart'. -/
def ulaApartCard : Claim7 := { stood := { row := ulaApartRow, standIns := [], harness := (true, "5a406a5a3430bd01115205c6121e06e5cd2e7e25e2f3e9aa1f0186d5b5a59359"), looks := false }, kinds := [], alts := [], laidByText := true, laidKinds := [.data], laidTests := true, laidLooks := .later }
def UlaApartCardSaid : Prop := Claim7.holds Tryd.pinned (.plain (OpenSpec.ofChange ulaApartSpec)) ulaApartCard

/-- THE SECOND FORM's CARD OF 'squeallaw09.UlaWaits'. -/
def ulaWaitsUptoCard : Claim7 := { stood := { row := ulaWaitsUptoRow, standIns := [], harness := (true, "5a406a5a3430bd01115205c6121e06e5cd2e7e25e2f3e9aa1f0186d5b5a59359"), looks := false }, kinds := [], alts := [], laidByText := true, laidKinds := [.data], laidTests := true, laidLooks := .later }
def UlaWaitsUptoCardSaid : Prop := Claim7.holds Tryd.pinned (.plain (OpenSpec.upto ulaWaitsSpec)) ulaWaitsUptoCard

/-- THE SECOND FORM's CARD OF 'squeallaw09.UlaCells'. -/
def ulaCellsUptoCard : Claim7 := { stood := { row := ulaCellsUptoRow, standIns := [], harness := (true, "5a406a5a3430bd01115205c6121e06e5cd2e7e25e2f3e9aa1f0186d5b5a59359"), looks := false }, kinds := [], alts := [], laidByText := true, laidKinds := [.data], laidTests := true, laidLooks := .later }
def UlaCellsUptoCardSaid : Prop := Claim7.holds Tryd.pinned (.plain (OpenSpec.upto ulaCellsSpec)) ulaCellsUptoCard

/-- THE SECOND FORM's CARD OF 'squeallaw09.UlaFetches'. -/
def ulaFetchesUptoCard : Claim7 := { stood := { row := ulaFetchesUptoRow, standIns := [], harness := (true, "5a406a5a3430bd01115205c6121e06e5cd2e7e25e2f3e9aa1f0186d5b5a59359"), looks := false }, kinds := [], alts := [], laidByText := true, laidKinds := [.data], laidTests := true, laidLooks := .later }
def UlaFetchesUptoCardSaid : Prop := Claim7.holds Tryd.pinned (.plain (OpenSpec.upto ulaFetchesSpec)) ulaFetchesUptoCard

/-- THE SECOND FORM's CARD OF 'squeallaw09.UlaLines'. -/
def ulaLinesUptoCard : Claim7 := { stood := { row := ulaLinesUptoRow, standIns := [], harness := (true, "5a406a5a3430bd01115205c6121e06e5cd2e7e25e2f3e9aa1f0186d5b5a59359"), looks := false }, kinds := [], alts := [], laidByText := true, laidKinds := [.data], laidTests := true, laidLooks := .later }
def UlaLinesUptoCardSaid : Prop := Claim7.holds Tryd.pinned (.plain (OpenSpec.upto ulaLinesSpec)) ulaLinesUptoCard

/-- THE SECOND FORM's CARD OF 'squeallaw09.UlaApart'. -/
def ulaApartUptoCard : Claim7 := { stood := { row := ulaApartUptoRow, standIns := [], harness := (true, "5a406a5a3430bd01115205c6121e06e5cd2e7e25e2f3e9aa1f0186d5b5a59359"), looks := false }, kinds := [], alts := [], laidByText := true, laidKinds := [.data], laidTests := true, laidLooks := .later }
def UlaApartUptoCardSaid : Prop := Claim7.holds Tryd.pinned (.plain (OpenSpec.upto ulaApartSpec)) ulaApartUptoCard
end Rows
end Go.Proofs.YtmjhipabciaonaaDoor
