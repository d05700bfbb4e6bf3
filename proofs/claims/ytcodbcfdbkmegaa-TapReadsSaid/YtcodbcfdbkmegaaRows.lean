/-
  No cell of these rows narrows 'for every input' (looked for: loops, veiled, ifaces, maps, wideKeys, modest, calm, conditions, laid).
  DERIVED. THE GIVEN ROWS OF THIS SEAT. 4 by the template 'for every input the law returns true; each argument reads behind the call as it read before'; 0 by the template 'total and deterministic' (their statements: YtcodbcfdbkmegaaTotals.lean).
  GIVEN WITH THE SEED: the statements are not yours to turn. If you find one false, say at which input.
  Laid BY PROGRAM, IN A SANDBOX (cutbox-rows.mjs): the forced cells as the released guide's own fill.sh prints them over the translation 46b770cc9e40e75c… (all of the seat's roots in one cut). By AI agents, Wed Nov 11 2026. No macro, syntax, notation, axiom, sorry.
-/
import Derived.Test.YtcodbcfdbkmegaaChecked
import GoSem.Claim
import GoSem.ClaimJoined
import GoSem.ClaimMapViews
import Derived.JoinedTies
import Derived.KernelRfl
namespace Go.Proofs.Ytcodbcfdbkmegaa
/- THE CELL 'sum', in the pinned program and in every row, IS THE sha256 OF THE DUMP (.gsa) THAT YtcodbcfdbkmegaaProg.lean LOADS. Nothing in Lean hashes anything: it is a label: what it is worth is what the hold of that sum in a sandbox is worth. -/
noncomputable def Try.pinned : Pinned := { name := "ytcodbcfdbkmegaa", sum := "46b770cc9e40e75c97616a07b555ac7f2059f99877a4fa9d165fb93cf637c25d", checked := Try.checked }
namespace Rows
def none {H : Type} : Left H := { results := [], args := [] }

/-- 'squeallaw18.TapReads': WHATEVER THE INPUT: true; the input reads as it did. -/
def tapReadsSpec : ChangeSpec := { name := "tapReads", fn := fun _ => fun
  | [d] => { results := [.lit (.bool true)], args := [d] }
  | _ => none }
def tapReadsRow : OpenClaim := { program := "ytcodbcfdbkmegaa", sum := "46b770cc9e40e75c97616a07b555ac7f2059f99877a4fa9d165fb93cf637c25d", func := "squeal/squeallaw18.TapReads", spec := "tapReads", apart := false }
def TapReadsSaid : Prop := tapReadsRow.holds Try.pinned (OpenSpec.ofChange tapReadsSpec)

/-- ITS FALSE NEIGHBOUR: 'it returns false'. Refute it at one input. -/
def tapReadsWrong : ChangeSpec := { name := "tapReads", fn := fun _ => fun
  | [d] => { results := [.lit (.bool false)], args := [d] }
  | _ => none }
def TapReadsWrongFalsely : Prop := tapReadsRow.holds Try.pinned (OpenSpec.ofChange tapReadsWrong)

/-- 'squeallaw18.TapWrites': WHATEVER THE INPUT: true; the input reads as it did. -/
def tapWritesSpec : ChangeSpec := { name := "tapWrites", fn := fun _ => fun
  | [d] => { results := [.lit (.bool true)], args := [d] }
  | _ => none }
def tapWritesRow : OpenClaim := { program := "ytcodbcfdbkmegaa", sum := "46b770cc9e40e75c97616a07b555ac7f2059f99877a4fa9d165fb93cf637c25d", func := "squeal/squeallaw18.TapWrites", spec := "tapWrites", apart := false }
def TapWritesSaid : Prop := tapWritesRow.holds Try.pinned (OpenSpec.ofChange tapWritesSpec)

/-- ITS FALSE NEIGHBOUR: 'it returns false'. Refute it at one input. -/
def tapWritesWrong : ChangeSpec := { name := "tapWrites", fn := fun _ => fun
  | [d] => { results := [.lit (.bool false)], args := [d] }
  | _ => none }
def TapWritesWrongFalsely : Prop := tapWritesRow.holds Try.pinned (OpenSpec.ofChange tapWritesWrong)

/-- 'squeallaw18.TapSums': WHATEVER THE INPUT: true; the input reads as it did. -/
def tapSumsSpec : ChangeSpec := { name := "tapSums", fn := fun _ => fun
  | [d] => { results := [.lit (.bool true)], args := [d] }
  | _ => none }
def tapSumsRow : OpenClaim := { program := "ytcodbcfdbkmegaa", sum := "46b770cc9e40e75c97616a07b555ac7f2059f99877a4fa9d165fb93cf637c25d", func := "squeal/squeallaw18.TapSums", spec := "tapSums", apart := false }
def TapSumsSaid : Prop := tapSumsRow.holds Try.pinned (OpenSpec.ofChange tapSumsSpec)

/-- ITS FALSE NEIGHBOUR: 'it returns false'. Refute it at one input. -/
def tapSumsWrong : ChangeSpec := { name := "tapSums", fn := fun _ => fun
  | [d] => { results := [.lit (.bool false)], args := [d] }
  | _ => none }
def TapSumsWrongFalsely : Prop := tapSumsRow.holds Try.pinned (OpenSpec.ofChange tapSumsWrong)

/-- 'squeallaw18.TapBack': WHATEVER THE INPUT: true; the input reads as it did. -/
def tapBackSpec : ChangeSpec := { name := "tapBack", fn := fun _ => fun
  | [d1, d2, d3] => { results := [.lit (.bool true)], args := [d1, d2, d3] }
  | _ => none }
def tapBackRow : OpenClaim := { program := "ytcodbcfdbkmegaa", sum := "46b770cc9e40e75c97616a07b555ac7f2059f99877a4fa9d165fb93cf637c25d", func := "squeal/squeallaw18.TapBack", spec := "tapBack", apart := false }
def TapBackSaid : Prop := tapBackRow.holds Try.pinned (OpenSpec.ofChange tapBackSpec)

/-- ITS FALSE NEIGHBOUR: 'it returns false'. Refute it at one input. -/
def tapBackWrong : ChangeSpec := { name := "tapBack", fn := fun _ => fun
  | [d1, d2, d3] => { results := [.lit (.bool false)], args := [d1, d2, d3] }
  | _ => none }
def TapBackWrongFalsely : Prop := tapBackRow.holds Try.pinned (OpenSpec.ofChange tapBackWrong)

/- THE SECOND FORM. 'bulk': how many values and letters a reading holds, each counted each time it is reached (what is shared counts as often as it is met; a slice's spare places count too). A statement '..UptoSaid' is the law's where the arguments, and the package variables that the reading takes, are together of bulk at most 1048576: NARROWER than '..Said'. Prove '..Said' where nothing that the law and all that it calls make is longer than what came in: it says more and counts as full. Else prove '..UptoSaid'. A law counts once. -/
mutual
def uptoBulk {H : Type} : DataW H → Nat
  | .lit (.string bytes) => bytes.length + 1
  | .lit _ => 1
  | .nil => 1
  | .ptr d => uptoBulk d + 1
  | .slice elems spare => uptoBulkAll elems + uptoBulkAll spare + 1
  | .agg parts => uptoBulkAll parts + 1
  | .iface _ d => uptoBulk d + 1
  | .map entries => uptoBulkEntries entries + 1
  | .held _ => 1
def uptoBulkAll {H : Type} : List (DataW H) → Nat
  | [] => 0
  | d :: r => uptoBulk d + uptoBulkAll r
def uptoBulkEntries {H : Type} : List (Lit × DataW H) → Nat
  | [] => 0
  | x :: r => uptoBulkEntry x + uptoBulkEntries r
def uptoBulkEntry {H : Type} : Lit × DataW H → Nat
  | (.string bytes, d) => bytes.length + uptoBulk d + 1
  | (_, d) => uptoBulk d + 1
 end
def uptoSmall : (H : Type) → List (DataW H) → Bool := fun _ ds => decide (uptoBulkAll ds ≤ 1048576)
def OpenSpec.upto (s : _root_.Go.ChangeSpec) : _root_.Go.OpenSpec := { _root_.Go.OpenSpec.ofChange s with cond := some uptoSmall }

/-- 'squeallaw18.TapReads', WHERE WHAT IT READS IS OF BULK AT MOST 1048576: true; the input reads as it did. -/
def tapReadsUptoRow : OpenClaim := { program := "ytcodbcfdbkmegaa", sum := "46b770cc9e40e75c97616a07b555ac7f2059f99877a4fa9d165fb93cf637c25d", func := "squeal/squeallaw18.TapReads", spec := "tapReads", apart := false, narrowed := true }
def TapReadsUptoSaid : Prop := tapReadsUptoRow.holds Try.pinned (OpenSpec.upto tapReadsSpec)

/-- 'squeallaw18.TapWrites', WHERE WHAT IT READS IS OF BULK AT MOST 1048576: true; the input reads as it did. -/
def tapWritesUptoRow : OpenClaim := { program := "ytcodbcfdbkmegaa", sum := "46b770cc9e40e75c97616a07b555ac7f2059f99877a4fa9d165fb93cf637c25d", func := "squeal/squeallaw18.TapWrites", spec := "tapWrites", apart := false, narrowed := true }
def TapWritesUptoSaid : Prop := tapWritesUptoRow.holds Try.pinned (OpenSpec.upto tapWritesSpec)

/-- 'squeallaw18.TapSums', WHERE WHAT IT READS IS OF BULK AT MOST 1048576: true; the input reads as it did. -/
def tapSumsUptoRow : OpenClaim := { program := "ytcodbcfdbkmegaa", sum := "46b770cc9e40e75c97616a07b555ac7f2059f99877a4fa9d165fb93cf637c25d", func := "squeal/squeallaw18.TapSums", spec := "tapSums", apart := false, narrowed := true }
def TapSumsUptoSaid : Prop := tapSumsUptoRow.holds Try.pinned (OpenSpec.upto tapSumsSpec)

/-- 'squeallaw18.TapBack', WHERE WHAT IT READS IS OF BULK AT MOST 1048576: true; the input reads as it did. -/
def tapBackUptoRow : OpenClaim := { program := "ytcodbcfdbkmegaa", sum := "46b770cc9e40e75c97616a07b555ac7f2059f99877a4fa9d165fb93cf637c25d", func := "squeal/squeallaw18.TapBack", spec := "tapBack", apart := false, narrowed := true }
def TapBackUptoSaid : Prop := tapBackUptoRow.holds Try.pinned (OpenSpec.upto tapBackSpec)

end Rows
end Go.Proofs.Ytcodbcfdbkmegaa
