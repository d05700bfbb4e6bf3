/-
  NARROWER THAN 'FOR EVERY INPUT', by the rows' own cells (each row's printed sentence says how): KeysPlays: laid · KeysFinds: laid · KeysRows: laid · KeysNils: laid.
  DERIVED. THE GIVEN ROWS OF THIS SEAT. 4 by the template 'for every input the law returns true; each argument reads behind the call as it read before'; 0 by the template 'total and deterministic' (their statements: YtfppbhpokeafpaaDoorTotals.lean).
  GIVEN WITH THE SEED: the statements are not yours to turn. If you find one false, say at which input.
  Laid BY PROGRAM, IN A SANDBOX (cutbox-rows.mjs): the forced cells as the released guide's own fill.sh prints them over the translation 1774b10034988aeb… (all of the seat's roots in one cut). By AI agents, Wed Nov 11 2026. No macro, syntax, notation, axiom, sorry.
-/
import Derived.Test.YtfppbhpokeafpaaDoorChecked
import GoSem.Claim
import GoSem.ClaimJoined
import GoSem.ClaimMapViews
import Derived.JoinedTies
import Derived.KernelRfl
namespace Go.Proofs.YtfppbhpokeafpaaDoor
/- THE CELL 'sum', in the pinned program and in every row, IS THE sha256 OF THE DUMP (.gsa) THAT YtfppbhpokeafpaaDoorProg.lean LOADS. Nothing in Lean hashes anything: it is a label: what it is worth is what the hold of that sum in a sandbox is worth. -/
noncomputable def Tryd.pinned : Pinned := { name := "ytfppbhpokeafpaadoor", sum := "1774b10034988aebb72651ba1ca9c48cf608ec43b8357d9502a2f2c3271f24ae", checked := Tryd.checked }
namespace Rows
def none {H : Type} : Left H := { results := [], args := [] }

/- WHAT THE LISTED PACKAGE-LEVEL VARIABLES READ AS WHEN THE CALL BEGINS. Each datum BY PROGRAM (the guide's laid-datum.mjs) off the statement by which the dump's own 'gosem.cut.vars' lays the variable. In a bare row this is a premise. The card (YtfppbhpokeafpaaDoorCards.lean) ties it to the program's text. -/
def laid_squeal_keys_names {H : Type} : DataW H := .agg [.slice [.lit (.string [99, 97, 112, 115]), .lit (.string [122]), .lit (.string [120]), .lit (.string [99]), .lit (.string [118])] [], .slice [.lit (.string [97]), .lit (.string [115]), .lit (.string [100]), .lit (.string [102]), .lit (.string [103])] [], .slice [.lit (.string [113]), .lit (.string [119]), .lit (.string [101]), .lit (.string [114]), .lit (.string [116])] [], .slice [.lit (.string [49]), .lit (.string [50]), .lit (.string [51]), .lit (.string [52]), .lit (.string [53])] [], .slice [.lit (.string [48]), .lit (.string [57]), .lit (.string [56]), .lit (.string [55]), .lit (.string [54])] [], .slice [.lit (.string [112]), .lit (.string [111]), .lit (.string [105]), .lit (.string [117]), .lit (.string [121])] [], .slice [.lit (.string [101, 110, 116, 101, 114]), .lit (.string [108]), .lit (.string [107]), .lit (.string [106]), .lit (.string [104])] [], .slice [.lit (.string [115, 112, 97, 99, 101]), .lit (.string [115, 121, 109]), .lit (.string [109]), .lit (.string [110]), .lit (.string [98])] []]

/-- 'squeallaw10.KeysPlays': WHATEVER THE INPUT: true; the input reads as it did. -/
def keysPlaysSpec : ChangeSpec := { name := "keysPlays", fn := fun _ => fun
  | [d1, d2] => { results := [.lit (.bool true)], args := [d1, d2] }
  | _ => none }
def keysPlaysRow : OpenClaim := { program := "ytfppbhpokeafpaadoor", sum := "1774b10034988aebb72651ba1ca9c48cf608ec43b8357d9502a2f2c3271f24ae", func := "squeal/squeallaw10.KeysPlays", spec := "keysPlays", named := ["squeal/keys.names"], apart := false, laid := [("squeal/keys.names", laid_squeal_keys_names)] }
def KeysPlaysSaid : Prop := keysPlaysRow.holds Tryd.pinned (OpenSpec.ofChange keysPlaysSpec)

/-- ITS FALSE NEIGHBOUR: 'it returns false'. Refute it at one input. -/
def keysPlaysWrong : ChangeSpec := { name := "keysPlays", fn := fun _ => fun
  | [d1, d2] => { results := [.lit (.bool false)], args := [d1, d2] }
  | _ => none }
def KeysPlaysWrongFalsely : Prop := keysPlaysRow.holds Tryd.pinned (OpenSpec.ofChange keysPlaysWrong)

/-- 'squeallaw10.KeysFinds': WHATEVER THE INPUT: true; the input reads as it did. -/
def keysFindsSpec : ChangeSpec := { name := "keysFinds", fn := fun _ => fun
  | [d] => { results := [.lit (.bool true)], args := [d] }
  | _ => none }
def keysFindsRow : OpenClaim := { program := "ytfppbhpokeafpaadoor", sum := "1774b10034988aebb72651ba1ca9c48cf608ec43b8357d9502a2f2c3271f24ae", func := "squeal/squeallaw10.KeysFinds", spec := "keysFinds", named := ["squeal/keys.names"], apart := false, laid := [("squeal/keys.names", laid_squeal_keys_names)] }
def KeysFindsSaid : Prop := keysFindsRow.holds Tryd.pinned (OpenSpec.ofChange keysFindsSpec)

/-- ITS FALSE NEIGHBOUR: 'it returns false'. Refute it at one input. -/
def keysFindsWrong : ChangeSpec := { name := "keysFinds", fn := fun _ => fun
  | [d] => { results := [.lit (.bool false)], args := [d] }
  | _ => none }
def KeysFindsWrongFalsely : Prop := keysFindsRow.holds Tryd.pinned (OpenSpec.ofChange keysFindsWrong)

/-- 'squeallaw10.KeysRows': WHATEVER THE INPUT: true; the input reads as it did. -/
def keysRowsSpec : ChangeSpec := { name := "keysRows", fn := fun _ => fun
  | [d1, d2, d3] => { results := [.lit (.bool true)], args := [d1, d2, d3] }
  | _ => none }
def keysRowsRow : OpenClaim := { program := "ytfppbhpokeafpaadoor", sum := "1774b10034988aebb72651ba1ca9c48cf608ec43b8357d9502a2f2c3271f24ae", func := "squeal/squeallaw10.KeysRows", spec := "keysRows", named := ["squeal/keys.names"], apart := false, laid := [("squeal/keys.names", laid_squeal_keys_names)] }
def KeysRowsSaid : Prop := keysRowsRow.holds Tryd.pinned (OpenSpec.ofChange keysRowsSpec)

/-- ITS FALSE NEIGHBOUR: 'it returns false'. Refute it at one input. -/
def keysRowsWrong : ChangeSpec := { name := "keysRows", fn := fun _ => fun
  | [d1, d2, d3] => { results := [.lit (.bool false)], args := [d1, d2, d3] }
  | _ => none }
def KeysRowsWrongFalsely : Prop := keysRowsRow.holds Tryd.pinned (OpenSpec.ofChange keysRowsWrong)

/-- 'squeallaw10.KeysNils': WHATEVER THE INPUT: true; the input reads as it did. -/
def keysNilsSpec : ChangeSpec := { name := "keysNils", fn := fun _ => fun
  | [d1, d2] => { results := [.lit (.bool true)], args := [d1, d2] }
  | _ => none }
def keysNilsRow : OpenClaim := { program := "ytfppbhpokeafpaadoor", sum := "1774b10034988aebb72651ba1ca9c48cf608ec43b8357d9502a2f2c3271f24ae", func := "squeal/squeallaw10.KeysNils", spec := "keysNils", named := ["squeal/keys.names"], apart := false, laid := [("squeal/keys.names", laid_squeal_keys_names)] }
def KeysNilsSaid : Prop := keysNilsRow.holds Tryd.pinned (OpenSpec.ofChange keysNilsSpec)

/-- ITS FALSE NEIGHBOUR: 'it returns false'. Refute it at one input. -/
def keysNilsWrong : ChangeSpec := { name := "keysNils", fn := fun _ => fun
  | [d1, d2] => { results := [.lit (.bool false)], args := [d1, d2] }
  | _ => none }
def KeysNilsWrongFalsely : Prop := keysNilsRow.holds Tryd.pinned (OpenSpec.ofChange keysNilsWrong)

/- THE SECOND FORM. 'bulk': how many values and letters a reading holds, each counted each time it is reached (what is shared counts as often as it is met; a slice's spare places count too). A statement '..UptoSaid' is the law's where the arguments, and the package variables that the reading takes, are together of bulk at most 1048576: NARROWER than '..Said'. Prove '..Said' where nothing that the law and all that it calls make is longer than what came in: it says more and counts as full. Else prove '..UptoSaid'. A law counts once. -/
mutual
def uptoBulk {H : Type} : DataW H → Nat
  | .lit (.string bytes) => bytes.length + 1
  | .lit _ => 1
  | .nil => 1
  | .ptr d => uptoBulk d + 1
  | .slice elems spare => uptoBulkAll elems + uptoBulkAll spare + 1
  | .agg parts => uptoBulkAll parts + 1
  | .iface _ d => uptoBulk d + 1
  | .map entries => uptoBulkEntries entries + 1
  | .held _ => 1
def uptoBulkAll {H : Type} : List (DataW H) → Nat
  | [] => 0
  | d :: r => uptoBulk d + uptoBulkAll r
def uptoBulkEntries {H : Type} : List (Lit × DataW H) → Nat
  | [] => 0
  | x :: r => uptoBulkEntry x + uptoBulkEntries r
def uptoBulkEntry {H : Type} : Lit × DataW H → Nat
  | (.string bytes, d) => bytes.length + uptoBulk d + 1
  | (_, d) => uptoBulk d + 1
 end
def uptoSmall : (H : Type) → List (DataW H) → Bool := fun _ ds => decide (uptoBulkAll ds ≤ 1048576)
def OpenSpec.upto (s : _root_.Go.ChangeSpec) : _root_.Go.OpenSpec := { _root_.Go.OpenSpec.ofChange s with cond := some uptoSmall }

/-- 'squeallaw10.KeysPlays', WHERE WHAT IT READS IS OF BULK AT MOST 1048576: true; the input reads as it did. -/
def keysPlaysUptoRow : OpenClaim := { program := "ytfppbhpokeafpaadoor", sum := "1774b10034988aebb72651ba1ca9c48cf608ec43b8357d9502a2f2c3271f24ae", func := "squeal/squeallaw10.KeysPlays", spec := "keysPlays", named := ["squeal/keys.names"], apart := false, laid := [("squeal/keys.names", laid_squeal_keys_names)], narrowed := true }
def KeysPlaysUptoSaid : Prop := keysPlaysUptoRow.holds Tryd.pinned (OpenSpec.upto keysPlaysSpec)

/-- 'squeallaw10.KeysFinds', WHERE WHAT IT READS IS OF BULK AT MOST 1048576: true; the input reads as it did. -/
def keysFindsUptoRow : OpenClaim := { program := "ytfppbhpokeafpaadoor", sum := "1774b10034988aebb72651ba1ca9c48cf608ec43b8357d9502a2f2c3271f24ae", func := "squeal/squeallaw10.KeysFinds", spec := "keysFinds", named := ["squeal/keys.names"], apart := false, laid := [("squeal/keys.names", laid_squeal_keys_names)], narrowed := true }
def KeysFindsUptoSaid : Prop := keysFindsUptoRow.holds Tryd.pinned (OpenSpec.upto keysFindsSpec)

/-- 'squeallaw10.KeysRows', WHERE WHAT IT READS IS OF BULK AT MOST 1048576: true; the input reads as it did. -/
def keysRowsUptoRow : OpenClaim := { program := "ytfppbhpokeafpaadoor", sum := "1774b10034988aebb72651ba1ca9c48cf608ec43b8357d9502a2f2c3271f24ae", func := "squeal/squeallaw10.KeysRows", spec := "keysRows", named := ["squeal/keys.names"], apart := false, laid := [("squeal/keys.names", laid_squeal_keys_names)], narrowed := true }
def KeysRowsUptoSaid : Prop := keysRowsUptoRow.holds Tryd.pinned (OpenSpec.upto keysRowsSpec)

/-- 'squeallaw10.KeysNils', WHERE WHAT IT READS IS OF BULK AT MOST 1048576: true; the input reads as it did. -/
def keysNilsUptoRow : OpenClaim := { program := "ytfppbhpokeafpaadoor", sum := "1774b10034988aebb72651ba1ca9c48cf608ec43b8357d9502a2f2c3271f24ae", func := "squeal/squeallaw10.KeysNils", spec := "keysNils", named := ["squeal/keys.names"], apart := false, laid := [("squeal/keys.names", laid_squeal_keys_names)], narrowed := true }
def KeysNilsUptoSaid : Prop := keysNilsUptoRow.holds Tryd.pinned (OpenSpec.upto keysNilsSpec)

end Rows
end Go.Proofs.YtfppbhpokeafpaaDoor
