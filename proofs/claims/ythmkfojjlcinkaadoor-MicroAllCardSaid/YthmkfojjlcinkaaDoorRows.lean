/-
  NARROWER THAN 'FOR EVERY INPUT', by the rows' own cells (each row's printed sentence says how): MicroTimes: laid · MicroAll: laid · MicroReads: laid.
  DERIVED. THE GIVEN ROWS OF THIS SEAT. 3 by the template 'for every input the law returns true; each argument reads behind the call as it read before'; 0 by the template 'total and deterministic' (their statements: YthmkfojjlcinkaaDoorTotals.lean).
  GIVEN WITH THE SEED: the statements are not yours to turn. If you find one false, say at which input.
  Laid BY PROGRAM, IN A SANDBOX (cutbox-rows.mjs): the forced cells as the released guide's own fill.sh prints them over the translation 9a172e900daffcdf… (all of the seat's roots in one cut). By AI agents, Wed Nov 11 2026. No macro, syntax, notation, axiom, sorry.
-/
import Derived.Test.YthmkfojjlcinkaaDoorChecked
import GoSem.Claim
import GoSem.ClaimJoined
import GoSem.ClaimMapViews
import Derived.JoinedTies
import Derived.KernelRfl
namespace Go.Proofs.YthmkfojjlcinkaaDoor
/- THE CELL 'sum', in the pinned program and in every row, IS THE sha256 OF THE DUMP (.gsa) THAT YthmkfojjlcinkaaDoorProg.lean LOADS. Nothing in Lean hashes anything: it is a label: what it is worth is what the hold of that sum in a sandbox is worth. -/
noncomputable def Tryd.pinned : Pinned := { name := "ythmkfojjlcinkaadoor", sum := "9a172e900daffcdf0666da2bcc1ddeb024822033f0d72af8144a5a99c16a6b8b", checked := Tryd.checked }
namespace Rows
def none {H : Type} : Left H := { results := [], args := [] }

/- WHAT THE LISTED PACKAGE-LEVEL VARIABLES READ AS WHEN THE CALL BEGINS. Each datum BY PROGRAM (the guide's laid-datum.mjs) off the statement by which the dump's own 'gosem.cut.vars' lays the variable. In a bare row this is a premise. The card (YthmkfojjlcinkaaDoorCards.lean) ties it to the program's text. -/
def laid_squeal_micro_modes {H : Type} : DataW H := .agg [.lit (.int .i64 0), .lit (.int .i64 0), .lit (.int .i64 1), .lit (.int .i64 2)]

/-- 'squeallaw08.MicroTimes': WHATEVER THE INPUT: true; the input reads as it did. -/
def microTimesSpec : ChangeSpec := { name := "microTimes", fn := fun _ => fun
  | [d1, d2, d3] => { results := [.lit (.bool true)], args := [d1, d2, d3] }
  | _ => none }
def microTimesRow : OpenClaim := { program := "ythmkfojjlcinkaadoor", sum := "9a172e900daffcdf0666da2bcc1ddeb024822033f0d72af8144a5a99c16a6b8b", func := "squeal/squeallaw08.MicroTimes", spec := "microTimes", named := ["squeal/micro.modes"], apart := false, laid := [("squeal/micro.modes", laid_squeal_micro_modes)] }
def MicroTimesSaid : Prop := microTimesRow.holds Tryd.pinned (OpenSpec.ofChange microTimesSpec)

/-- ITS FALSE NEIGHBOUR: 'it returns false'. Refute it at one input. -/
def microTimesWrong : ChangeSpec := { name := "microTimes", fn := fun _ => fun
  | [d1, d2, d3] => { results := [.lit (.bool false)], args := [d1, d2, d3] }
  | _ => none }
def MicroTimesWrongFalsely : Prop := microTimesRow.holds Tryd.pinned (OpenSpec.ofChange microTimesWrong)

/-- 'squeallaw08.MicroAll': WHATEVER THE INPUT: true; the input reads as it did. -/
def microAllSpec : ChangeSpec := { name := "microAll", fn := fun _ => fun
  | [d] => { results := [.lit (.bool true)], args := [d] }
  | _ => none }
def microAllRow : OpenClaim := { program := "ythmkfojjlcinkaadoor", sum := "9a172e900daffcdf0666da2bcc1ddeb024822033f0d72af8144a5a99c16a6b8b", func := "squeal/squeallaw08.MicroAll", spec := "microAll", named := ["squeal/micro.modes"], apart := false, laid := [("squeal/micro.modes", laid_squeal_micro_modes)] }
def MicroAllSaid : Prop := microAllRow.holds Tryd.pinned (OpenSpec.ofChange microAllSpec)

/-- ITS FALSE NEIGHBOUR: 'it returns false'. Refute it at one input. -/
def microAllWrong : ChangeSpec := { name := "microAll", fn := fun _ => fun
  | [d] => { results := [.lit (.bool false)], args := [d] }
  | _ => none }
def MicroAllWrongFalsely : Prop := microAllRow.holds Tryd.pinned (OpenSpec.ofChange microAllWrong)

/-- 'squeallaw08.MicroReads': WHATEVER THE INPUT: true; the input reads as it did. -/
def microReadsSpec : ChangeSpec := { name := "microReads", fn := fun _ => fun
  | [d1, d2] => { results := [.lit (.bool true)], args := [d1, d2] }
  | _ => none }
def microReadsRow : OpenClaim := { program := "ythmkfojjlcinkaadoor", sum := "9a172e900daffcdf0666da2bcc1ddeb024822033f0d72af8144a5a99c16a6b8b", func := "squeal/squeallaw08.MicroReads", spec := "microReads", named := ["squeal/micro.modes"], apart := false, laid := [("squeal/micro.modes", laid_squeal_micro_modes)] }
def MicroReadsSaid : Prop := microReadsRow.holds Tryd.pinned (OpenSpec.ofChange microReadsSpec)

/-- ITS FALSE NEIGHBOUR: 'it returns false'. Refute it at one input. -/
def microReadsWrong : ChangeSpec := { name := "microReads", fn := fun _ => fun
  | [d1, d2] => { results := [.lit (.bool false)], args := [d1, d2] }
  | _ => none }
def MicroReadsWrongFalsely : Prop := microReadsRow.holds Tryd.pinned (OpenSpec.ofChange microReadsWrong)

/- THE SECOND FORM. 'bulk': how many values and letters a reading holds, each counted each time it is reached (what is shared counts as often as it is met; a slice's spare places count too). A statement '..UptoSaid' is the law's where the arguments, and the package variables that the reading takes, are together of bulk at most 1048576: NARROWER than '..Said'. Prove '..Said' where nothing that the law and all that it calls make is longer than what came in: it says more and counts as full. Else prove '..UptoSaid'. A law counts once. -/
mutual
def uptoBulk {H : Type} : DataW H → Nat
  | .lit (.string bytes) => bytes.length + 1
  | .lit _ => 1
  | .nil => 1
  | .ptr d => uptoBulk d + 1
  | .slice elems spare => uptoBulkAll elems + uptoBulkAll spare + 1
  | .agg parts => uptoBulkAll parts + 1
  | .iface _ d => uptoBulk d + 1
  | .map entries => uptoBulkEntries entries + 1
  | .held _ => 1
def uptoBulkAll {H : Type} : List (DataW H) → Nat
  | [] => 0
  | d :: r => uptoBulk d + uptoBulkAll r
def uptoBulkEntries {H : Type} : List (Lit × DataW H) → Nat
  | [] => 0
  | x :: r => uptoBulkEntry x + uptoBulkEntries r
def uptoBulkEntry {H : Type} : Lit × DataW H → Nat
  | (.string bytes, d) => bytes.length + uptoBulk d + 1
  | (_, d) => uptoBulk d + 1
 end
def uptoSmall : (H : Type) → List (DataW H) → Bool := fun _ ds => decide (uptoBulkAll ds ≤ 1048576)
def OpenSpec.upto (s : _root_.Go.ChangeSpec) : _root_.Go.OpenSpec := { _root_.Go.OpenSpec.ofChange s with cond := some uptoSmall }

/-- 'squeallaw08.MicroTimes', WHERE WHAT IT READS IS OF BULK AT MOST 1048576: true; the input reads as it did. -/
def microTimesUptoRow : OpenClaim := { program := "ythmkfojjlcinkaadoor", sum := "9a172e900daffcdf0666da2bcc1ddeb024822033f0d72af8144a5a99c16a6b8b", func := "squeal/squeallaw08.MicroTimes", spec := "microTimes", named := ["squeal/micro.modes"], apart := false, laid := [("squeal/micro.modes", laid_squeal_micro_modes)], narrowed := true }
def MicroTimesUptoSaid : Prop := microTimesUptoRow.holds Tryd.pinned (OpenSpec.upto microTimesSpec)

/-- 'squeallaw08.MicroAll', WHERE WHAT IT READS IS OF BULK AT MOST 1048576: true; the input reads as it did. -/
def microAllUptoRow : OpenClaim := { program := "ythmkfojjlcinkaadoor", sum := "9a172e900daffcdf0666da2bcc1ddeb024822033f0d72af8144a5a99c16a6b8b", func := "squeal/squeallaw08.MicroAll", spec := "microAll", named := ["squeal/micro.modes"], apart := false, laid := [("squeal/micro.modes", laid_squeal_micro_modes)], narrowed := true }
def MicroAllUptoSaid : Prop := microAllUptoRow.holds Tryd.pinned (OpenSpec.upto microAllSpec)

/-- 'squeallaw08.MicroReads', WHERE WHAT IT READS IS OF BULK AT MOST 1048576: true; the input reads as it did. -/
def microReadsUptoRow : OpenClaim := { program := "ythmkfojjlcinkaadoor", sum := "9a172e900daffcdf0666da2bcc1ddeb024822033f0d72af8144a5a99c16a6b8b", func := "squeal/squeallaw08.MicroReads", spec := "microReads", named := ["squeal/micro.modes"], apart := false, laid := [("squeal/micro.modes", laid_squeal_micro_modes)], narrowed := true }
def MicroReadsUptoSaid : Prop := microReadsUptoRow.holds Tryd.pinned (OpenSpec.upto microReadsSpec)

end Rows
end Go.Proofs.YthmkfojjlcinkaaDoor
