/-
  DERIVED. GIVEN WITH THE SEED: THE CARDS: each row of YtcfkpeemhleleaaGreatDoorRows.lean that lists a variable, with what it lists TIED to the program's text (the seventh form; the later family's looks); each row that meets fmt, with fmt's text TOLD by the authors' own Lean function (tested against real Go, not proved from fmt's source: count such statements apart). THE CARD IS WHAT COUNTS. Prove the row's statement (the work); the ties are given (YtcfkpeemhleleaaGreatDoorTie.lean); close each card by the builder's one call (the guide's Derived/Test/ToyasCard.lean, 'card_holds'). Laid BY PROGRAM, IN A SANDBOX (cutbox-door.mjs). By AI agents, Wed Nov 11 2026. No macro, syntax, notation, axiom, sorry.
-/
import Derived.Test.YtcfkpeemhleleaaGreatDoorRows
import GoSem.ClaimSeven
namespace Go.Proofs.YtcfkpeemhleleaaGreatDoor
namespace Rows

/-- THE TIED CARD OF 'squeallaw12.CpuTimes'. -/
def cpuTimesCard : Claim7 := { stood := { row := cpuTimesRow, standIns := [], harness := (true, "735cbd3241e69c3e383c3873632d27747709c5aac1e56d7dbc7fa7155e206d1e"), looks := false }, kinds := [], alts := [], laidByText := true, laidKinds := [.data], laidTests := true, laidLooks := .later }
def CpuTimesCardSaid : Prop := Claim7.holds Tryz.pinned (.plain (OpenSpec.ofChange cpuTimesSpec)) cpuTimesCard

/-- THE TIED CARD OF 'squeallaw12.CpuCopies'. -/
def cpuCopiesCard : Claim7 := { stood := { row := cpuCopiesRow, standIns := [], harness := (true, "735cbd3241e69c3e383c3873632d27747709c5aac1e56d7dbc7fa7155e206d1e"), looks := false }, kinds := [], alts := [], laidByText := true, laidKinds := [.data], laidTests := true, laidLooks := .later }
def CpuCopiesCardSaid : Prop := Claim7.holds Tryz.pinned (.plain (OpenSpec.ofChange cpuCopiesSpec)) cpuCopiesCard

/-- THE TIED CARD OF 'squeallaw12.CpuNils'. -/
def cpuNilsCard : Claim7 := { stood := { row := cpuNilsRow, standIns := [], harness := (true, "735cbd3241e69c3e383c3873632d27747709c5aac1e56d7dbc7fa7155e206d1e"), looks := false }, kinds := [], alts := [], laidByText := true, laidKinds := [.data], laidTests := true, laidLooks := .later }
def CpuNilsCardSaid : Prop := Claim7.holds Tryz.pinned (.plain (OpenSpec.ofChange cpuNilsSpec)) cpuNilsCard

/-- THE TIED CARD OF 'squeallaw12.CpuCalls'. -/
def cpuCallsCard : Claim7 := { stood := { row := cpuCallsRow, standIns := [], harness := (true, "735cbd3241e69c3e383c3873632d27747709c5aac1e56d7dbc7fa7155e206d1e"), looks := false }, kinds := [], alts := [], laidByText := true, laidKinds := [.data], laidTests := true, laidLooks := .later }
def CpuCallsCardSaid : Prop := Claim7.holds Tryz.pinned (.plain (OpenSpec.ofChange cpuCallsSpec)) cpuCallsCard

/-- THE SECOND FORM's CARD OF 'squeallaw12.CpuTimes'. -/
def cpuTimesUptoCard : Claim7 := { stood := { row := cpuTimesUptoRow, standIns := [], harness := (true, "735cbd3241e69c3e383c3873632d27747709c5aac1e56d7dbc7fa7155e206d1e"), looks := false }, kinds := [], alts := [], laidByText := true, laidKinds := [.data], laidTests := true, laidLooks := .later }
def CpuTimesUptoCardSaid : Prop := Claim7.holds Tryz.pinned (.plain (OpenSpec.upto cpuTimesSpec)) cpuTimesUptoCard

/-- THE SECOND FORM's CARD OF 'squeallaw12.CpuCopies'. -/
def cpuCopiesUptoCard : Claim7 := { stood := { row := cpuCopiesUptoRow, standIns := [], harness := (true, "735cbd3241e69c3e383c3873632d27747709c5aac1e56d7dbc7fa7155e206d1e"), looks := false }, kinds := [], alts := [], laidByText := true, laidKinds := [.data], laidTests := true, laidLooks := .later }
def CpuCopiesUptoCardSaid : Prop := Claim7.holds Tryz.pinned (.plain (OpenSpec.upto cpuCopiesSpec)) cpuCopiesUptoCard

/-- THE SECOND FORM's CARD OF 'squeallaw12.CpuNils'. -/
def cpuNilsUptoCard : Claim7 := { stood := { row := cpuNilsUptoRow, standIns := [], harness := (true, "735cbd3241e69c3e383c3873632d27747709c5aac1e56d7dbc7fa7155e206d1e"), looks := false }, kinds := [], alts := [], laidByText := true, laidKinds := [.data], laidTests := true, laidLooks := .later }
def CpuNilsUptoCardSaid : Prop := Claim7.holds Tryz.pinned (.plain (OpenSpec.upto cpuNilsSpec)) cpuNilsUptoCard

/-- THE SECOND FORM's CARD OF 'squeallaw12.CpuCalls'. -/
def cpuCallsUptoCard : Claim7 := { stood := { row := cpuCallsUptoRow, standIns := [], harness := (true, "735cbd3241e69c3e383c3873632d27747709c5aac1e56d7dbc7fa7155e206d1e"), looks := false }, kinds := [], alts := [], laidByText := true, laidKinds := [.data], laidTests := true, laidLooks := .later }
def CpuCallsUptoCardSaid : Prop := Claim7.holds Tryz.pinned (.plain (OpenSpec.upto cpuCallsSpec)) cpuCallsUptoCard
end Rows
end Go.Proofs.YtcfkpeemhleleaaGreatDoor
