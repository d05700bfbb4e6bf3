/-
  No cell of these rows narrows 'for every input' (looked for: loops, veiled, ifaces, maps, wideKeys, modest, calm, conditions, laid).
  DERIVED. THE GIVEN ROWS OF THIS SEAT. 4 by the template 'for every input the law returns true; each argument reads behind the call as it read before'; 0 by the template 'total and deterministic' (their statements: YtbpmhbgdainpdaaTotals.lean).
  GIVEN WITH THE SEED: the statements are not yours to turn. If you find one false, say at which input.
  Laid BY PROGRAM, IN A SANDBOX (cutbox-rows.mjs): the forced cells as the released guide's own fill.sh prints them over the translation 81309fa98aa6f760… (all of the seat's roots in one cut). By AI agents, Wed Nov 11 2026. No macro, syntax, notation, axiom, sorry.
-/
import Derived.Test.YtbpmhbgdainpdaaChecked
import GoSem.Claim
import GoSem.ClaimJoined
import GoSem.ClaimMapViews
import Derived.JoinedTies
import Derived.KernelRfl
namespace Go.Proofs.Ytbpmhbgdainpdaa
/- THE CELL 'sum', in the pinned program and in every row, IS THE sha256 OF THE DUMP (.gsa) THAT YtbpmhbgdainpdaaProg.lean LOADS. Nothing in Lean hashes anything: it is a label: what it is worth is what the hold of that sum in a sandbox is worth. -/
noncomputable def Try.pinned : Pinned := { name := "ytbpmhbgdainpdaa", sum := "81309fa98aa6f760f355527bb9a33d87027ee77b74c1a15fe5365321c66e2963", checked := Try.checked }
namespace Rows
def none {H : Type} : Left H := { results := [], args := [] }

/-- 'squeallaw05.BulkMoves': WHATEVER THE INPUT: true; the input reads as it did. -/
def bulkMovesSpec : ChangeSpec := { name := "bulkMoves", fn := fun _ => fun
  | [d] => { results := [.lit (.bool true)], args := [d] }
  | _ => none }
def bulkMovesRow : OpenClaim := { program := "ytbpmhbgdainpdaa", sum := "81309fa98aa6f760f355527bb9a33d87027ee77b74c1a15fe5365321c66e2963", func := "squeal/squeallaw05.BulkMoves", spec := "bulkMoves", apart := false }
def BulkMovesSaid : Prop := bulkMovesRow.holds Try.pinned (OpenSpec.ofChange bulkMovesSpec)

/-- ITS FALSE NEIGHBOUR: 'it returns false'. Refute it at one input. -/
def bulkMovesWrong : ChangeSpec := { name := "bulkMoves", fn := fun _ => fun
  | [d] => { results := [.lit (.bool false)], args := [d] }
  | _ => none }
def BulkMovesWrongFalsely : Prop := bulkMovesRow.holds Try.pinned (OpenSpec.ofChange bulkMovesWrong)

/-- 'squeallaw05.BulkPorts': WHATEVER THE INPUT: true; the input reads as it did. -/
def bulkPortsSpec : ChangeSpec := { name := "bulkPorts", fn := fun _ => fun
  | [d] => { results := [.lit (.bool true)], args := [d] }
  | _ => none }
def bulkPortsRow : OpenClaim := { program := "ytbpmhbgdainpdaa", sum := "81309fa98aa6f760f355527bb9a33d87027ee77b74c1a15fe5365321c66e2963", func := "squeal/squeallaw05.BulkPorts", spec := "bulkPorts", apart := false }
def BulkPortsSaid : Prop := bulkPortsRow.holds Try.pinned (OpenSpec.ofChange bulkPortsSpec)

/-- ITS FALSE NEIGHBOUR: 'it returns false'. Refute it at one input. -/
def bulkPortsWrong : ChangeSpec := { name := "bulkPorts", fn := fun _ => fun
  | [d] => { results := [.lit (.bool false)], args := [d] }
  | _ => none }
def BulkPortsWrongFalsely : Prop := bulkPortsRow.holds Try.pinned (OpenSpec.ofChange bulkPortsWrong)

/-- 'squeallaw05.BulkAgain': WHATEVER THE INPUT: true; the input reads as it did. -/
def bulkAgainSpec : ChangeSpec := { name := "bulkAgain", fn := fun _ => fun
  | [d] => { results := [.lit (.bool true)], args := [d] }
  | _ => none }
def bulkAgainRow : OpenClaim := { program := "ytbpmhbgdainpdaa", sum := "81309fa98aa6f760f355527bb9a33d87027ee77b74c1a15fe5365321c66e2963", func := "squeal/squeallaw05.BulkAgain", spec := "bulkAgain", apart := false }
def BulkAgainSaid : Prop := bulkAgainRow.holds Try.pinned (OpenSpec.ofChange bulkAgainSpec)

/-- ITS FALSE NEIGHBOUR: 'it returns false'. Refute it at one input. -/
def bulkAgainWrong : ChangeSpec := { name := "bulkAgain", fn := fun _ => fun
  | [d] => { results := [.lit (.bool false)], args := [d] }
  | _ => none }
def BulkAgainWrongFalsely : Prop := bulkAgainRow.holds Try.pinned (OpenSpec.ofChange bulkAgainWrong)

/-- 'squeallaw05.BulkKeeps': WHATEVER THE INPUT: true; the input reads as it did. -/
def bulkKeepsSpec : ChangeSpec := { name := "bulkKeeps", fn := fun _ => fun
  | [d] => { results := [.lit (.bool true)], args := [d] }
  | _ => none }
def bulkKeepsRow : OpenClaim := { program := "ytbpmhbgdainpdaa", sum := "81309fa98aa6f760f355527bb9a33d87027ee77b74c1a15fe5365321c66e2963", func := "squeal/squeallaw05.BulkKeeps", spec := "bulkKeeps", apart := false }
def BulkKeepsSaid : Prop := bulkKeepsRow.holds Try.pinned (OpenSpec.ofChange bulkKeepsSpec)

/-- ITS FALSE NEIGHBOUR: 'it returns false'. Refute it at one input. -/
def bulkKeepsWrong : ChangeSpec := { name := "bulkKeeps", fn := fun _ => fun
  | [d] => { results := [.lit (.bool false)], args := [d] }
  | _ => none }
def BulkKeepsWrongFalsely : Prop := bulkKeepsRow.holds Try.pinned (OpenSpec.ofChange bulkKeepsWrong)

/- THE SECOND FORM. 'bulk': how many values and letters a reading holds, each counted each time it is reached (what is shared counts as often as it is met; a slice's spare places count too). A statement '..UptoSaid' is the law's where the arguments, and the package variables that the reading takes, are together of bulk at most 1048576: NARROWER than '..Said'. Prove '..Said' where nothing that the law and all that it calls make is longer than what came in: it says more and counts as full. Else prove '..UptoSaid'. A law counts once. -/
mutual
def uptoBulk {H : Type} : DataW H → Nat
  | .lit (.string bytes) => bytes.length + 1
  | .lit _ => 1
  | .nil => 1
  | .ptr d => uptoBulk d + 1
  | .slice elems spare => uptoBulkAll elems + uptoBulkAll spare + 1
  | .agg parts => uptoBulkAll parts + 1
  | .iface _ d => uptoBulk d + 1
  | .map entries => uptoBulkEntries entries + 1
  | .held _ => 1
def uptoBulkAll {H : Type} : List (DataW H) → Nat
  | [] => 0
  | d :: r => uptoBulk d + uptoBulkAll r
def uptoBulkEntries {H : Type} : List (Lit × DataW H) → Nat
  | [] => 0
  | x :: r => uptoBulkEntry x + uptoBulkEntries r
def uptoBulkEntry {H : Type} : Lit × DataW H → Nat
  | (.string bytes, d) => bytes.length + uptoBulk d + 1
  | (_, d) => uptoBulk d + 1
 end
def uptoSmall : (H : Type) → List (DataW H) → Bool := fun _ ds => decide (uptoBulkAll ds ≤ 1048576)
def OpenSpec.upto (s : _root_.Go.ChangeSpec) : _root_.Go.OpenSpec := { _root_.Go.OpenSpec.ofChange s with cond := some uptoSmall }

/-- 'squeallaw05.BulkMoves', WHERE WHAT IT READS IS OF BULK AT MOST 1048576: true; the input reads as it did. -/
def bulkMovesUptoRow : OpenClaim := { program := "ytbpmhbgdainpdaa", sum := "81309fa98aa6f760f355527bb9a33d87027ee77b74c1a15fe5365321c66e2963", func := "squeal/squeallaw05.BulkMoves", spec := "bulkMoves", apart := false, narrowed := true }
def BulkMovesUptoSaid : Prop := bulkMovesUptoRow.holds Try.pinned (OpenSpec.upto bulkMovesSpec)

/-- 'squeallaw05.BulkPorts', WHERE WHAT IT READS IS OF BULK AT MOST 1048576: true; the input reads as it did. -/
def bulkPortsUptoRow : OpenClaim := { program := "ytbpmhbgdainpdaa", sum := "81309fa98aa6f760f355527bb9a33d87027ee77b74c1a15fe5365321c66e2963", func := "squeal/squeallaw05.BulkPorts", spec := "bulkPorts", apart := false, narrowed := true }
def BulkPortsUptoSaid : Prop := bulkPortsUptoRow.holds Try.pinned (OpenSpec.upto bulkPortsSpec)

/-- 'squeallaw05.BulkAgain', WHERE WHAT IT READS IS OF BULK AT MOST 1048576: true; the input reads as it did. -/
def bulkAgainUptoRow : OpenClaim := { program := "ytbpmhbgdainpdaa", sum := "81309fa98aa6f760f355527bb9a33d87027ee77b74c1a15fe5365321c66e2963", func := "squeal/squeallaw05.BulkAgain", spec := "bulkAgain", apart := false, narrowed := true }
def BulkAgainUptoSaid : Prop := bulkAgainUptoRow.holds Try.pinned (OpenSpec.upto bulkAgainSpec)

/-- 'squeallaw05.BulkKeeps', WHERE WHAT IT READS IS OF BULK AT MOST 1048576: true; the input reads as it did. -/
def bulkKeepsUptoRow : OpenClaim := { program := "ytbpmhbgdainpdaa", sum := "81309fa98aa6f760f355527bb9a33d87027ee77b74c1a15fe5365321c66e2963", func := "squeal/squeallaw05.BulkKeeps", spec := "bulkKeeps", apart := false, narrowed := true }
def BulkKeepsUptoSaid : Prop := bulkKeepsUptoRow.holds Try.pinned (OpenSpec.upto bulkKeepsSpec)

end Rows
end Go.Proofs.Ytbpmhbgdainpdaa
