/-
  No cell of these rows narrows 'for every input' (looked for: loops, veiled, ifaces, maps, wideKeys, modest, calm, conditions, laid).
  DERIVED. THE GIVEN ROWS OF THIS SEAT. 3 by the template 'for every input the law returns true; each argument reads behind the call as it read before'; 0 by the template 'total and deterministic' (their statements: YthlaglhlmbkniaaTotals.lean).
  GIVEN WITH THE SEED: the statements are not yours to turn. If you find one false, say at which input.
  Laid BY PROGRAM, IN A SANDBOX (cutbox-rows.mjs): the forced cells as the released guide's own fill.sh prints them over the translation 123f5798f6a228eb… (all of the seat's roots in one cut). By AI agents, Wed Nov 11 2026. No macro, syntax, notation, axiom, sorry.
-/
import Derived.Test.YthlaglhlmbkniaaChecked
import GoSem.Claim
import GoSem.ClaimJoined
import GoSem.ClaimMapViews
import Derived.JoinedTies
import Derived.KernelRfl
namespace Go.Proofs.Ythlaglhlmbkniaa
/- THE CELL 'sum', in the pinned program and in every row, IS THE sha256 OF THE DUMP (.gsa) THAT YthlaglhlmbkniaaProg.lean LOADS. Nothing in Lean hashes anything: it is a label: what it is worth is what the hold of that sum in a sandbox is worth. -/
noncomputable def Try.pinned : Pinned := { name := "ythlaglhlmbkniaa", sum := "123f5798f6a228eb491f1408f8ac6f03932b9bbcc13d567518a53c3ab8328347", checked := Try.checked }
namespace Rows
def none {H : Type} : Left H := { results := [], args := [] }

/-- 'squeallaw19.TzxSounds': WHATEVER THE INPUT: true; the input reads as it did. -/
def tzxSoundsSpec : ChangeSpec := { name := "tzxSounds", fn := fun _ => fun
  | [d1, d2] => { results := [.lit (.bool true)], args := [d1, d2] }
  | _ => none }
def tzxSoundsRow : OpenClaim := { program := "ythlaglhlmbkniaa", sum := "123f5798f6a228eb491f1408f8ac6f03932b9bbcc13d567518a53c3ab8328347", func := "squeal/squeallaw19.TzxSounds", spec := "tzxSounds", unfollowed := true, recurses := true, apart := false }
def TzxSoundsSaid : Prop := tzxSoundsRow.holds Try.pinned (OpenSpec.ofChange tzxSoundsSpec)

/-- ITS FALSE NEIGHBOUR: 'it returns false'. Refute it at one input. -/
def tzxSoundsWrong : ChangeSpec := { name := "tzxSounds", fn := fun _ => fun
  | [d1, d2] => { results := [.lit (.bool false)], args := [d1, d2] }
  | _ => none }
def TzxSoundsWrongFalsely : Prop := tzxSoundsRow.holds Try.pinned (OpenSpec.ofChange tzxSoundsWrong)

/-- 'squeallaw19.TzxSymbols': WHATEVER THE INPUT: true; the input reads as it did. -/
def tzxSymbolsSpec : ChangeSpec := { name := "tzxSymbols", fn := fun _ => fun
  | [d1, d2, d3] => { results := [.lit (.bool true)], args := [d1, d2, d3] }
  | _ => none }
def tzxSymbolsRow : OpenClaim := { program := "ythlaglhlmbkniaa", sum := "123f5798f6a228eb491f1408f8ac6f03932b9bbcc13d567518a53c3ab8328347", func := "squeal/squeallaw19.TzxSymbols", spec := "tzxSymbols", unfollowed := true, recurses := true, apart := false }
def TzxSymbolsSaid : Prop := tzxSymbolsRow.holds Try.pinned (OpenSpec.ofChange tzxSymbolsSpec)

/-- ITS FALSE NEIGHBOUR: 'it returns false'. Refute it at one input. -/
def tzxSymbolsWrong : ChangeSpec := { name := "tzxSymbols", fn := fun _ => fun
  | [d1, d2, d3] => { results := [.lit (.bool false)], args := [d1, d2, d3] }
  | _ => none }
def TzxSymbolsWrongFalsely : Prop := tzxSymbolsRow.holds Try.pinned (OpenSpec.ofChange tzxSymbolsWrong)

/-- 'squeallaw19.TzxAhead': WHATEVER THE INPUT: true; the input reads as it did. -/
def tzxAheadSpec : ChangeSpec := { name := "tzxAhead", fn := fun _ => fun
  | [d1, d2] => { results := [.lit (.bool true)], args := [d1, d2] }
  | _ => none }
def tzxAheadRow : OpenClaim := { program := "ythlaglhlmbkniaa", sum := "123f5798f6a228eb491f1408f8ac6f03932b9bbcc13d567518a53c3ab8328347", func := "squeal/squeallaw19.TzxAhead", spec := "tzxAhead", unfollowed := true, recurses := true, apart := false }
def TzxAheadSaid : Prop := tzxAheadRow.holds Try.pinned (OpenSpec.ofChange tzxAheadSpec)

/-- ITS FALSE NEIGHBOUR: 'it returns false'. Refute it at one input. -/
def tzxAheadWrong : ChangeSpec := { name := "tzxAhead", fn := fun _ => fun
  | [d1, d2] => { results := [.lit (.bool false)], args := [d1, d2] }
  | _ => none }
def TzxAheadWrongFalsely : Prop := tzxAheadRow.holds Try.pinned (OpenSpec.ofChange tzxAheadWrong)

/- THE SECOND FORM. 'bulk': how many values and letters a reading holds, each counted each time it is reached (what is shared counts as often as it is met; a slice's spare places count too). A statement '..UptoSaid' is the law's where the arguments, and the package variables that the reading takes, are together of bulk at most 1048576: NARROWER than '..Said'. Prove '..Said' where nothing that the law and all that it calls make is longer than what came in: it says more and counts as full. Else prove '..UptoSaid'. A law counts once. -/
mutual
def uptoBulk {H : Type} : DataW H → Nat
  | .lit (.string bytes) => bytes.length + 1
  | .lit _ => 1
  | .nil => 1
  | .ptr d => uptoBulk d + 1
  | .slice elems spare => uptoBulkAll elems + uptoBulkAll spare + 1
  | .agg parts => uptoBulkAll parts + 1
  | .iface _ d => uptoBulk d + 1
  | .map entries => uptoBulkEntries entries + 1
  | .held _ => 1
def uptoBulkAll {H : Type} : List (DataW H) → Nat
  | [] => 0
  | d :: r => uptoBulk d + uptoBulkAll r
def uptoBulkEntries {H : Type} : List (Lit × DataW H) → Nat
  | [] => 0
  | x :: r => uptoBulkEntry x + uptoBulkEntries r
def uptoBulkEntry {H : Type} : Lit × DataW H → Nat
  | (.string bytes, d) => bytes.length + uptoBulk d + 1
  | (_, d) => uptoBulk d + 1
 end
def uptoSmall : (H : Type) → List (DataW H) → Bool := fun _ ds => decide (uptoBulkAll ds ≤ 1048576)
def OpenSpec.upto (s : _root_.Go.ChangeSpec) : _root_.Go.OpenSpec := { _root_.Go.OpenSpec.ofChange s with cond := some uptoSmall }

/-- 'squeallaw19.TzxSounds', WHERE WHAT IT READS IS OF BULK AT MOST 1048576: true; the input reads as it did. -/
def tzxSoundsUptoRow : OpenClaim := { program := "ythlaglhlmbkniaa", sum := "123f5798f6a228eb491f1408f8ac6f03932b9bbcc13d567518a53c3ab8328347", func := "squeal/squeallaw19.TzxSounds", spec := "tzxSounds", unfollowed := true, recurses := true, apart := false, narrowed := true }
def TzxSoundsUptoSaid : Prop := tzxSoundsUptoRow.holds Try.pinned (OpenSpec.upto tzxSoundsSpec)

/-- 'squeallaw19.TzxSymbols', WHERE WHAT IT READS IS OF BULK AT MOST 1048576: true; the input reads as it did. -/
def tzxSymbolsUptoRow : OpenClaim := { program := "ythlaglhlmbkniaa", sum := "123f5798f6a228eb491f1408f8ac6f03932b9bbcc13d567518a53c3ab8328347", func := "squeal/squeallaw19.TzxSymbols", spec := "tzxSymbols", unfollowed := true, recurses := true, apart := false, narrowed := true }
def TzxSymbolsUptoSaid : Prop := tzxSymbolsUptoRow.holds Try.pinned (OpenSpec.upto tzxSymbolsSpec)

/-- 'squeallaw19.TzxAhead', WHERE WHAT IT READS IS OF BULK AT MOST 1048576: true; the input reads as it did. -/
def tzxAheadUptoRow : OpenClaim := { program := "ythlaglhlmbkniaa", sum := "123f5798f6a228eb491f1408f8ac6f03932b9bbcc13d567518a53c3ab8328347", func := "squeal/squeallaw19.TzxAhead", spec := "tzxAhead", unfollowed := true, recurses := true, apart := false, narrowed := true }
def TzxAheadUptoSaid : Prop := tzxAheadUptoRow.holds Try.pinned (OpenSpec.upto tzxAheadSpec)

end Rows
end Go.Proofs.Ythlaglhlmbkniaa
