/-
  No cell of these rows narrows 'for every input' (looked for: loops, veiled, ifaces, maps, wideKeys, modest, calm, conditions, laid).
  DERIVED. THE GIVEN ROWS OF THIS SEAT. 3 by the template 'for every input the law returns true; each argument reads behind the call as it read before'; 0 by the template 'total and deterministic' (their statements: YtfibgdapeiehaaaTotals.lean).
  GIVEN WITH THE SEED: the statements are not yours to turn. If you find one false, say at which input.
  Laid BY PROGRAM, IN A SANDBOX (cutbox-rows.mjs): the forced cells as the released guide's own fill.sh prints them over the translation 5833e8fda347bb29… (all of the seat's roots in one cut). By AI agents, Wed Nov 11 2026. No macro, syntax, notation, axiom, sorry.
-/
import Derived.Test.YtfibgdapeiehaaaChecked
import GoSem.Claim
import GoSem.ClaimJoined
import GoSem.ClaimMapViews
import Derived.JoinedTies
import Derived.KernelRfl
namespace Go.Proofs.Ytfibgdapeiehaaa
/- THE CELL 'sum', in the pinned program and in every row, IS THE sha256 OF THE DUMP (.gsa) THAT YtfibgdapeiehaaaProg.lean LOADS. Nothing in Lean hashes anything: it is a label: what it is worth is what the hold of that sum in a sandbox is worth. -/
noncomputable def Try.pinned : Pinned := { name := "ytfibgdapeiehaaa", sum := "5833e8fda347bb29ad8046bca449cd9cfb7e50ba1968b46cc1a2bb0ffc916759", checked := Try.checked }
namespace Rows
def none {H : Type} : Left H := { results := [], args := [] }

/-- 'squeallaw13.AdlerSums': WHATEVER THE INPUT: true; the input reads as it did. -/
def adlerSumsSpec : ChangeSpec := { name := "adlerSums", fn := fun _ => fun
  | [d] => { results := [.lit (.bool true)], args := [d] }
  | _ => none }
def adlerSumsRow : OpenClaim := { program := "ytfibgdapeiehaaa", sum := "5833e8fda347bb29ad8046bca449cd9cfb7e50ba1968b46cc1a2bb0ffc916759", func := "squeal/squeallaw13.AdlerSums", spec := "adlerSums", recurses := true, apart := false }
def AdlerSumsSaid : Prop := adlerSumsRow.holds Try.pinned (OpenSpec.ofChange adlerSumsSpec)

/-- ITS FALSE NEIGHBOUR: 'it returns false'. Refute it at one input. -/
def adlerSumsWrong : ChangeSpec := { name := "adlerSums", fn := fun _ => fun
  | [d] => { results := [.lit (.bool false)], args := [d] }
  | _ => none }
def AdlerSumsWrongFalsely : Prop := adlerSumsRow.holds Try.pinned (OpenSpec.ofChange adlerSumsWrong)

/-- 'squeallaw13.AdlerPieces': WHATEVER THE INPUT: true; the input reads as it did. -/
def adlerPiecesSpec : ChangeSpec := { name := "adlerPieces", fn := fun _ => fun
  | [d] => { results := [.lit (.bool true)], args := [d] }
  | _ => none }
def adlerPiecesRow : OpenClaim := { program := "ytfibgdapeiehaaa", sum := "5833e8fda347bb29ad8046bca449cd9cfb7e50ba1968b46cc1a2bb0ffc916759", func := "squeal/squeallaw13.AdlerPieces", spec := "adlerPieces", recurses := true, apart := false }
def AdlerPiecesSaid : Prop := adlerPiecesRow.holds Try.pinned (OpenSpec.ofChange adlerPiecesSpec)

/-- ITS FALSE NEIGHBOUR: 'it returns false'. Refute it at one input. -/
def adlerPiecesWrong : ChangeSpec := { name := "adlerPieces", fn := fun _ => fun
  | [d] => { results := [.lit (.bool false)], args := [d] }
  | _ => none }
def AdlerPiecesWrongFalsely : Prop := adlerPiecesRow.holds Try.pinned (OpenSpec.ofChange adlerPiecesWrong)

/-- 'squeallaw13.AdlerDiffers': WHATEVER THE INPUT: true; the input reads as it did. -/
def adlerDiffersSpec : ChangeSpec := { name := "adlerDiffers", fn := fun _ => fun
  | [d1, d2, d3] => { results := [.lit (.bool true)], args := [d1, d2, d3] }
  | _ => none }
def adlerDiffersRow : OpenClaim := { program := "ytfibgdapeiehaaa", sum := "5833e8fda347bb29ad8046bca449cd9cfb7e50ba1968b46cc1a2bb0ffc916759", func := "squeal/squeallaw13.AdlerDiffers", spec := "adlerDiffers", recurses := true, apart := false }
def AdlerDiffersSaid : Prop := adlerDiffersRow.holds Try.pinned (OpenSpec.ofChange adlerDiffersSpec)

/-- ITS FALSE NEIGHBOUR: 'it returns false'. Refute it at one input. -/
def adlerDiffersWrong : ChangeSpec := { name := "adlerDiffers", fn := fun _ => fun
  | [d1, d2, d3] => { results := [.lit (.bool false)], args := [d1, d2, d3] }
  | _ => none }
def AdlerDiffersWrongFalsely : Prop := adlerDiffersRow.holds Try.pinned (OpenSpec.ofChange adlerDiffersWrong)

/- THE SECOND FORM. 'bulk': how many values and letters a reading holds, each counted each time it is reached (what is shared counts as often as it is met; a slice's spare places count too). A statement '..UptoSaid' is the law's where the arguments, and the package variables that the reading takes, are together of bulk at most 1048576: NARROWER than '..Said'. Prove '..Said' where nothing that the law and all that it calls make is longer than what came in: it says more and counts as full. Else prove '..UptoSaid'. A law counts once. -/
mutual
def uptoBulk {H : Type} : DataW H → Nat
  | .lit (.string bytes) => bytes.length + 1
  | .lit _ => 1
  | .nil => 1
  | .ptr d => uptoBulk d + 1
  | .slice elems spare => uptoBulkAll elems + uptoBulkAll spare + 1
  | .agg parts => uptoBulkAll parts + 1
  | .iface _ d => uptoBulk d + 1
  | .map entries => uptoBulkEntries entries + 1
  | .held _ => 1
def uptoBulkAll {H : Type} : List (DataW H) → Nat
  | [] => 0
  | d :: r => uptoBulk d + uptoBulkAll r
def uptoBulkEntries {H : Type} : List (Lit × DataW H) → Nat
  | [] => 0
  | x :: r => uptoBulkEntry x + uptoBulkEntries r
def uptoBulkEntry {H : Type} : Lit × DataW H → Nat
  | (.string bytes, d) => bytes.length + uptoBulk d + 1
  | (_, d) => uptoBulk d + 1
 end
def uptoSmall : (H : Type) → List (DataW H) → Bool := fun _ ds => decide (uptoBulkAll ds ≤ 1048576)
def OpenSpec.upto (s : _root_.Go.ChangeSpec) : _root_.Go.OpenSpec := { _root_.Go.OpenSpec.ofChange s with cond := some uptoSmall }

/-- 'squeallaw13.AdlerSums', WHERE WHAT IT READS IS OF BULK AT MOST 1048576: true; the input reads as it did. -/
def adlerSumsUptoRow : OpenClaim := { program := "ytfibgdapeiehaaa", sum := "5833e8fda347bb29ad8046bca449cd9cfb7e50ba1968b46cc1a2bb0ffc916759", func := "squeal/squeallaw13.AdlerSums", spec := "adlerSums", recurses := true, apart := false, narrowed := true }
def AdlerSumsUptoSaid : Prop := adlerSumsUptoRow.holds Try.pinned (OpenSpec.upto adlerSumsSpec)

/-- 'squeallaw13.AdlerPieces', WHERE WHAT IT READS IS OF BULK AT MOST 1048576: true; the input reads as it did. -/
def adlerPiecesUptoRow : OpenClaim := { program := "ytfibgdapeiehaaa", sum := "5833e8fda347bb29ad8046bca449cd9cfb7e50ba1968b46cc1a2bb0ffc916759", func := "squeal/squeallaw13.AdlerPieces", spec := "adlerPieces", recurses := true, apart := false, narrowed := true }
def AdlerPiecesUptoSaid : Prop := adlerPiecesUptoRow.holds Try.pinned (OpenSpec.upto adlerPiecesSpec)

/-- 'squeallaw13.AdlerDiffers', WHERE WHAT IT READS IS OF BULK AT MOST 1048576: true; the input reads as it did. -/
def adlerDiffersUptoRow : OpenClaim := { program := "ytfibgdapeiehaaa", sum := "5833e8fda347bb29ad8046bca449cd9cfb7e50ba1968b46cc1a2bb0ffc916759", func := "squeal/squeallaw13.AdlerDiffers", spec := "adlerDiffers", recurses := true, apart := false, narrowed := true }
def AdlerDiffersUptoSaid : Prop := adlerDiffersUptoRow.holds Try.pinned (OpenSpec.upto adlerDiffersSpec)

end Rows
end Go.Proofs.Ytfibgdapeiehaaa
