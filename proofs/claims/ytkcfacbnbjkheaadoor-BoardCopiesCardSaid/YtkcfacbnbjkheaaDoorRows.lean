/-
  NARROWER THAN 'FOR EVERY INPUT', by the rows' own cells (each row's printed sentence says how): BoardPlays: laid · BoardCopies: laid.
  DERIVED. THE GIVEN ROWS OF THIS SEAT. 2 by the template 'for every input the law returns true; each argument reads behind the call as it read before'; 0 by the template 'total and deterministic' (their statements: YtkcfacbnbjkheaaDoorTotals.lean).
  GIVEN WITH THE SEED: the statements are not yours to turn. If you find one false, say at which input.
  Laid BY PROGRAM, IN A SANDBOX (cutbox-rows.mjs): the forced cells as the released guide's own fill.sh prints them over the translation 5e4ad8a7782e3a65… (all of the seat's roots in one cut). By AI agents, Wed Nov 11 2026. No macro, syntax, notation, axiom, sorry.
-/
import Derived.Test.YtkcfacbnbjkheaaDoorChecked
import GoSem.Claim
import GoSem.ClaimJoined
import GoSem.ClaimMapViews
import Derived.JoinedTies
import Derived.KernelRfl
namespace Go.Proofs.YtkcfacbnbjkheaaDoor
/- THE CELL 'sum', in the pinned program and in every row, IS THE sha256 OF THE DUMP (.gsa) THAT YtkcfacbnbjkheaaDoorProg.lean LOADS. Nothing in Lean hashes anything: it is a label: what it is worth is what the hold of that sum in a sandbox is worth. -/
noncomputable def Tryd.pinned : Pinned := { name := "ytkcfacbnbjkheaadoor", sum := "5e4ad8a7782e3a65316e549996119b66cbf7c65e2c4d55e45cdc1b212673a30e", checked := Tryd.checked }
namespace Rows
def none {H : Type} : Left H := { results := [], args := [] }

/- WHAT THE LISTED PACKAGE-LEVEL VARIABLES READ AS WHEN THE CALL BEGINS. Each datum BY PROGRAM (the guide's laid-datum.mjs) off the statement by which the dump's own 'gosem.cut.vars' lays the variable. In a bare row this is a premise. The card (YtkcfacbnbjkheaaDoorCards.lean) ties it to the program's text. -/
def laid_squeal_keys_names {H : Type} : DataW H := .agg [.slice [.lit (.string [99, 97, 112, 115]), .lit (.string [122]), .lit (.string [120]), .lit (.string [99]), .lit (.string [118])] [], .slice [.lit (.string [97]), .lit (.string [115]), .lit (.string [100]), .lit (.string [102]), .lit (.string [103])] [], .slice [.lit (.string [113]), .lit (.string [119]), .lit (.string [101]), .lit (.string [114]), .lit (.string [116])] [], .slice [.lit (.string [49]), .lit (.string [50]), .lit (.string [51]), .lit (.string [52]), .lit (.string [53])] [], .slice [.lit (.string [48]), .lit (.string [57]), .lit (.string [56]), .lit (.string [55]), .lit (.string [54])] [], .slice [.lit (.string [112]), .lit (.string [111]), .lit (.string [105]), .lit (.string [117]), .lit (.string [121])] [], .slice [.lit (.string [101, 110, 116, 101, 114]), .lit (.string [108]), .lit (.string [107]), .lit (.string [106]), .lit (.string [104])] [], .slice [.lit (.string [115, 112, 97, 99, 101]), .lit (.string [115, 121, 109]), .lit (.string [109]), .lit (.string [110]), .lit (.string [98])] []]
def laid_squeal_ula_waits {H : Type} : DataW H := .agg [.lit (.int .i64 6), .lit (.int .i64 5), .lit (.int .i64 4), .lit (.int .i64 3), .lit (.int .i64 2), .lit (.int .i64 1), .lit (.int .i64 0), .lit (.int .i64 0)]

/-- 'squeallaw11.BoardPlays': WHATEVER THE INPUT: true; the input reads as it did. -/
def boardPlaysSpec : ChangeSpec := { name := "boardPlays", fn := fun _ => fun
  | [d1, d2, d3] => { results := [.lit (.bool true)], args := [d1, d2, d3] }
  | _ => none }
def boardPlaysRow : OpenClaim := { program := "ytkcfacbnbjkheaadoor", sum := "5e4ad8a7782e3a65316e549996119b66cbf7c65e2c4d55e45cdc1b212673a30e", func := "squeal/squeallaw11.BoardPlays", spec := "boardPlays", named := ["squeal/keys.names", "squeal/ula.waits"], apart := false, laid := [("squeal/keys.names", laid_squeal_keys_names), ("squeal/ula.waits", laid_squeal_ula_waits)] }
def BoardPlaysSaid : Prop := boardPlaysRow.holds Tryd.pinned (OpenSpec.ofChange boardPlaysSpec)

/-- ITS FALSE NEIGHBOUR: 'it returns false'. Refute it at one input. -/
def boardPlaysWrong : ChangeSpec := { name := "boardPlays", fn := fun _ => fun
  | [d1, d2, d3] => { results := [.lit (.bool false)], args := [d1, d2, d3] }
  | _ => none }
def BoardPlaysWrongFalsely : Prop := boardPlaysRow.holds Tryd.pinned (OpenSpec.ofChange boardPlaysWrong)

/-- 'squeallaw11.BoardCopies': WHATEVER THE INPUT: true; the input reads as it did. -/
def boardCopiesSpec : ChangeSpec := { name := "boardCopies", fn := fun _ => fun
  | [d1, d2] => { results := [.lit (.bool true)], args := [d1, d2] }
  | _ => none }
def boardCopiesRow : OpenClaim := { program := "ytkcfacbnbjkheaadoor", sum := "5e4ad8a7782e3a65316e549996119b66cbf7c65e2c4d55e45cdc1b212673a30e", func := "squeal/squeallaw11.BoardCopies", spec := "boardCopies", named := ["squeal/ula.waits", "squeal/keys.names"], apart := false, laid := [("squeal/keys.names", laid_squeal_keys_names), ("squeal/ula.waits", laid_squeal_ula_waits)] }
def BoardCopiesSaid : Prop := boardCopiesRow.holds Tryd.pinned (OpenSpec.ofChange boardCopiesSpec)

/-- ITS FALSE NEIGHBOUR: 'it returns false'. Refute it at one input. -/
def boardCopiesWrong : ChangeSpec := { name := "boardCopies", fn := fun _ => fun
  | [d1, d2] => { results := [.lit (.bool false)], args := [d1, d2] }
  | _ => none }
def BoardCopiesWrongFalsely : Prop := boardCopiesRow.holds Tryd.pinned (OpenSpec.ofChange boardCopiesWrong)

/- THE SECOND FORM. 'bulk': how many values and letters a reading holds, each counted each time it is reached (what is shared counts as often as it is met; a slice's spare places count too). A statement '..UptoSaid' is the law's where the arguments, and the package variables that the reading takes, are together of bulk at most 1048576: NARROWER than '..Said'. Prove '..Said' where nothing that the law and all that it calls make is longer than what came in: it says more and counts as full. Else prove '..UptoSaid'. A law counts once. -/
mutual
def uptoBulk {H : Type} : DataW H → Nat
  | .lit (.string bytes) => bytes.length + 1
  | .lit _ => 1
  | .nil => 1
  | .ptr d => uptoBulk d + 1
  | .slice elems spare => uptoBulkAll elems + uptoBulkAll spare + 1
  | .agg parts => uptoBulkAll parts + 1
  | .iface _ d => uptoBulk d + 1
  | .map entries => uptoBulkEntries entries + 1
  | .held _ => 1
def uptoBulkAll {H : Type} : List (DataW H) → Nat
  | [] => 0
  | d :: r => uptoBulk d + uptoBulkAll r
def uptoBulkEntries {H : Type} : List (Lit × DataW H) → Nat
  | [] => 0
  | x :: r => uptoBulkEntry x + uptoBulkEntries r
def uptoBulkEntry {H : Type} : Lit × DataW H → Nat
  | (.string bytes, d) => bytes.length + uptoBulk d + 1
  | (_, d) => uptoBulk d + 1
 end
def uptoSmall : (H : Type) → List (DataW H) → Bool := fun _ ds => decide (uptoBulkAll ds ≤ 1048576)
def OpenSpec.upto (s : _root_.Go.ChangeSpec) : _root_.Go.OpenSpec := { _root_.Go.OpenSpec.ofChange s with cond := some uptoSmall }

/-- 'squeallaw11.BoardPlays', WHERE WHAT IT READS IS OF BULK AT MOST 1048576: true; the input reads as it did. -/
def boardPlaysUptoRow : OpenClaim := { program := "ytkcfacbnbjkheaadoor", sum := "5e4ad8a7782e3a65316e549996119b66cbf7c65e2c4d55e45cdc1b212673a30e", func := "squeal/squeallaw11.BoardPlays", spec := "boardPlays", named := ["squeal/keys.names", "squeal/ula.waits"], apart := false, laid := [("squeal/keys.names", laid_squeal_keys_names), ("squeal/ula.waits", laid_squeal_ula_waits)], narrowed := true }
def BoardPlaysUptoSaid : Prop := boardPlaysUptoRow.holds Tryd.pinned (OpenSpec.upto boardPlaysSpec)

/-- 'squeallaw11.BoardCopies', WHERE WHAT IT READS IS OF BULK AT MOST 1048576: true; the input reads as it did. -/
def boardCopiesUptoRow : OpenClaim := { program := "ytkcfacbnbjkheaadoor", sum := "5e4ad8a7782e3a65316e549996119b66cbf7c65e2c4d55e45cdc1b212673a30e", func := "squeal/squeallaw11.BoardCopies", spec := "boardCopies", named := ["squeal/ula.waits", "squeal/keys.names"], apart := false, laid := [("squeal/keys.names", laid_squeal_keys_names), ("squeal/ula.waits", laid_squeal_ula_waits)], narrowed := true }
def BoardCopiesUptoSaid : Prop := boardCopiesUptoRow.holds Tryd.pinned (OpenSpec.upto boardCopiesSpec)

end Rows
end Go.Proofs.YtkcfacbnbjkheaaDoor
