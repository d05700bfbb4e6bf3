/-
  NARROWER THAN 'FOR EVERY INPUT', by the rows' own cells (each row's printed sentence says how): OpReads: laid · OpShows: laid · OpCodes: laid · OpAll: laid · OpAlone: laid.
  DERIVED. THE GIVEN ROWS OF THIS SEAT. 5 by the template 'for every input the law returns true; each argument reads behind the call as it read before'; 0 by the template 'total and deterministic' (their statements: YtkjibnnoeceaeaaDoorTotals.lean).
  GIVEN WITH THE SEED: the statements are not yours to turn. If you find one false, say at which input.
  Laid BY PROGRAM, IN A SANDBOX (cutbox-rows.mjs): the forced cells as the released guide's own fill.sh prints them over the translation c8e727e0ae7cd493… (all of the seat's roots in one cut). By AI agents, Wed Nov 11 2026. No macro, syntax, notation, axiom, sorry.
-/
import Derived.Test.YtkjibnnoeceaeaaDoorChecked
import GoSem.Claim
import GoSem.ClaimJoined
import GoSem.ClaimMapViews
import Derived.JoinedTies
import Derived.KernelRfl
namespace Go.Proofs.YtkjibnnoeceaeaaDoor
/- THE CELL 'sum', in the pinned program and in every row, IS THE sha256 OF THE DUMP (.gsa) THAT YtkjibnnoeceaeaaDoorProg.lean LOADS. Nothing in Lean hashes anything: it is a label: what it is worth is what the hold of that sum in a sandbox is worth. -/
noncomputable def Tryd.pinned : Pinned := { name := "ytkjibnnoeceaeaadoor", sum := "c8e727e0ae7cd493e67034884c1d7717210d0caae999f33f2cc7df566e992281", checked := Tryd.checked }
namespace Rows
def none {H : Type} : Left H := { results := [], args := [] }

/- WHAT THE LISTED PACKAGE-LEVEL VARIABLES READ AS WHEN THE CALL BEGINS. Each datum BY PROGRAM (the guide's laid-datum.mjs) off the statement by which the dump's own 'gosem.cut.vars' lays the variable. In a bare row this is a premise. The card (YtkjibnnoeceaeaaDoorCards.lean) ties it to the program's text. -/
def laid_math_bits_deBruijn32tab {H : Type} : DataW H := .agg [.lit (.int .u8 0), .lit (.int .u8 1), .lit (.int .u8 28), .lit (.int .u8 2), .lit (.int .u8 29), .lit (.int .u8 14), .lit (.int .u8 24), .lit (.int .u8 3), .lit (.int .u8 30), .lit (.int .u8 22), .lit (.int .u8 20), .lit (.int .u8 15), .lit (.int .u8 25), .lit (.int .u8 17), .lit (.int .u8 4), .lit (.int .u8 8), .lit (.int .u8 31), .lit (.int .u8 27), .lit (.int .u8 13), .lit (.int .u8 23), .lit (.int .u8 21), .lit (.int .u8 19), .lit (.int .u8 16), .lit (.int .u8 7), .lit (.int .u8 26), .lit (.int .u8 12), .lit (.int .u8 18), .lit (.int .u8 6), .lit (.int .u8 11), .lit (.int .u8 5), .lit (.int .u8 10), .lit (.int .u8 9)]
def laid_math_bits_deBruijn64tab {H : Type} : DataW H := .agg [.lit (.int .u8 0), .lit (.int .u8 1), .lit (.int .u8 56), .lit (.int .u8 2), .lit (.int .u8 57), .lit (.int .u8 49), .lit (.int .u8 28), .lit (.int .u8 3), .lit (.int .u8 61), .lit (.int .u8 58), .lit (.int .u8 42), .lit (.int .u8 50), .lit (.int .u8 38), .lit (.int .u8 29), .lit (.int .u8 17), .lit (.int .u8 4), .lit (.int .u8 62), .lit (.int .u8 47), .lit (.int .u8 59), .lit (.int .u8 36), .lit (.int .u8 45), .lit (.int .u8 43), .lit (.int .u8 51), .lit (.int .u8 22), .lit (.int .u8 53), .lit (.int .u8 39), .lit (.int .u8 33), .lit (.int .u8 30), .lit (.int .u8 24), .lit (.int .u8 18), .lit (.int .u8 12), .lit (.int .u8 5), .lit (.int .u8 63), .lit (.int .u8 55), .lit (.int .u8 48), .lit (.int .u8 27), .lit (.int .u8 60), .lit (.int .u8 41), .lit (.int .u8 37), .lit (.int .u8 16), .lit (.int .u8 46), .lit (.int .u8 35), .lit (.int .u8 44), .lit (.int .u8 21), .lit (.int .u8 52), .lit (.int .u8 32), .lit (.int .u8 23), .lit (.int .u8 11), .lit (.int .u8 54), .lit (.int .u8 26), .lit (.int .u8 40), .lit (.int .u8 15), .lit (.int .u8 34), .lit (.int .u8 20), .lit (.int .u8 31), .lit (.int .u8 10), .lit (.int .u8 25), .lit (.int .u8 14), .lit (.int .u8 19), .lit (.int .u8 9), .lit (.int .u8 13), .lit (.int .u8 8), .lit (.int .u8 7), .lit (.int .u8 6)]
def laid_internal_strconv_uint64pow10 {H : Type} : DataW H := .agg [.lit (.int .u64 1), .lit (.int .u64 10), .lit (.int .u64 100), .lit (.int .u64 1000), .lit (.int .u64 10000), .lit (.int .u64 100000), .lit (.int .u64 1000000), .lit (.int .u64 10000000), .lit (.int .u64 100000000), .lit (.int .u64 1000000000), .lit (.int .u64 10000000000), .lit (.int .u64 100000000000), .lit (.int .u64 1000000000000), .lit (.int .u64 10000000000000), .lit (.int .u64 100000000000000), .lit (.int .u64 1000000000000000), .lit (.int .u64 10000000000000000), .lit (.int .u64 100000000000000000), .lit (.int .u64 1000000000000000000), .lit (.int .u64 10000000000000000000)]
def laid_squeal_op_registers {H : Type} : DataW H := .agg [.lit (.string [98]), .lit (.string [99]), .lit (.string [100]), .lit (.string [101]), .lit (.string [104]), .lit (.string [108]), .lit (.string [40, 104, 108, 41]), .lit (.string [97])]
def laid_squeal_op_pairs {H : Type} : DataW H := .agg [.lit (.string [98, 99]), .lit (.string [100, 101]), .lit (.string [104, 108]), .lit (.string [115, 112])]
def laid_squeal_op_conditions {H : Type} : DataW H := .agg [.lit (.string [110, 122]), .lit (.string [122]), .lit (.string [110, 99]), .lit (.string [99]), .lit (.string [112, 111]), .lit (.string [112, 101]), .lit (.string [112]), .lit (.string [109])]
def laid_squeal_op_operations {H : Type} : DataW H := .agg [.lit (.string [97, 100, 100, 32, 97, 44]), .lit (.string [97, 100, 99, 32, 97, 44]), .lit (.string [115, 117, 98, 32]), .lit (.string [115, 98, 99, 32, 97, 44]), .lit (.string [97, 110, 100, 32]), .lit (.string [120, 111, 114, 32]), .lit (.string [111, 114, 32]), .lit (.string [99, 112, 32])]
def laid_squeal_op_turns {H : Type} : DataW H := .agg [.lit (.string [114, 108, 99, 32]), .lit (.string [114, 114, 99, 32]), .lit (.string [114, 108, 32]), .lit (.string [114, 114, 32]), .lit (.string [115, 108, 97, 32]), .lit (.string [115, 114, 97, 32]), .lit (.string [115, 108, 108, 32]), .lit (.string [115, 114, 108, 32])]
def laid_squeal_op_ofBits {H : Type} : DataW H := .agg [.lit (.string []), .lit (.string [98, 105, 116, 32]), .lit (.string [114, 101, 115, 32]), .lit (.string [115, 101, 116, 32])]
def laid_squeal_op_ofA {H : Type} : DataW H := .agg [.lit (.string [114, 108, 99, 97]), .lit (.string [114, 114, 99, 97]), .lit (.string [114, 108, 97]), .lit (.string [114, 114, 97]), .lit (.string [100, 97, 97]), .lit (.string [99, 112, 108]), .lit (.string [115, 99, 102]), .lit (.string [99, 99, 102])]
def laid_squeal_op_ofI {H : Type} : DataW H := .agg [.lit (.string [108, 100, 32, 105, 44, 97]), .lit (.string [108, 100, 32, 114, 44, 97]), .lit (.string [108, 100, 32, 97, 44, 105]), .lit (.string [108, 100, 32, 97, 44, 114]), .lit (.string [114, 114, 100]), .lit (.string [114, 108, 100]), .lit (.string [110, 111, 112]), .lit (.string [110, 111, 112])]
def laid_squeal_op_modes {H : Type} : DataW H := .agg [.lit (.string [105, 109, 32, 48]), .lit (.string [105, 109, 32, 48]), .lit (.string [105, 109, 32, 49]), .lit (.string [105, 109, 32, 50])]
def laid_squeal_op_blocks {H : Type} : DataW H := .agg [.agg [.lit (.string [108, 100, 105]), .lit (.string [99, 112, 105]), .lit (.string [105, 110, 105]), .lit (.string [111, 117, 116, 105])], .agg [.lit (.string [108, 100, 100]), .lit (.string [99, 112, 100]), .lit (.string [105, 110, 100]), .lit (.string [111, 117, 116, 100])], .agg [.lit (.string [108, 100, 105, 114]), .lit (.string [99, 112, 105, 114]), .lit (.string [105, 110, 105, 114]), .lit (.string [111, 116, 105, 114])], .agg [.lit (.string [108, 100, 100, 114]), .lit (.string [99, 112, 100, 114]), .lit (.string [105, 110, 100, 114]), .lit (.string [111, 116, 100, 114])]]

/-- 'squeallaw07.OpReads': WHATEVER THE INPUT: true; the input reads as it did. -/
def opReadsSpec : ChangeSpec := { name := "opReads", fn := fun _ => fun
  | [d] => { results := [.lit (.bool true)], args := [d] }
  | _ => none }
def opReadsRow : OpenClaim := { program := "ytkjibnnoeceaeaadoor", sum := "c8e727e0ae7cd493e67034884c1d7717210d0caae999f33f2cc7df566e992281", func := "squeal/squeallaw07.OpReads", spec := "opReads", inPlace := ["internal/abi.NoEscape", "internal/bytealg.MakeNoZero"], named := ["squeal/op.registers", "squeal/op.operations", "squeal/op.ofA", "squeal/op.conditions", "internal/strconv.uint64pow10", "math/bits.deBruijn32tab", "math/bits.deBruijn64tab", "squeal/op.pairs", "squeal/op.turns", "squeal/op.ofBits", "squeal/op.blocks", "squeal/op.modes", "squeal/op.ofI"], apart := false, laid := [("math/bits.deBruijn32tab", laid_math_bits_deBruijn32tab), ("math/bits.deBruijn64tab", laid_math_bits_deBruijn64tab), ("internal/strconv.uint64pow10", laid_internal_strconv_uint64pow10), ("squeal/op.registers", laid_squeal_op_registers), ("squeal/op.pairs", laid_squeal_op_pairs), ("squeal/op.conditions", laid_squeal_op_conditions), ("squeal/op.operations", laid_squeal_op_operations), ("squeal/op.turns", laid_squeal_op_turns), ("squeal/op.ofBits", laid_squeal_op_ofBits), ("squeal/op.ofA", laid_squeal_op_ofA), ("squeal/op.ofI", laid_squeal_op_ofI), ("squeal/op.modes", laid_squeal_op_modes), ("squeal/op.blocks", laid_squeal_op_blocks)] }
def OpReadsSaid : Prop := opReadsRow.holds Tryd.pinned (OpenSpec.ofChange opReadsSpec)

/-- ITS FALSE NEIGHBOUR: 'it returns false'. Refute it at one input. -/
def opReadsWrong : ChangeSpec := { name := "opReads", fn := fun _ => fun
  | [d] => { results := [.lit (.bool false)], args := [d] }
  | _ => none }
def OpReadsWrongFalsely : Prop := opReadsRow.holds Tryd.pinned (OpenSpec.ofChange opReadsWrong)

/-- 'squeallaw07.OpShows': WHATEVER THE INPUT: true; the input reads as it did. -/
def opShowsSpec : ChangeSpec := { name := "opShows", fn := fun _ => fun
  | [d1, d2] => { results := [.lit (.bool true)], args := [d1, d2] }
  | _ => none }
def opShowsRow : OpenClaim := { program := "ytkjibnnoeceaeaadoor", sum := "c8e727e0ae7cd493e67034884c1d7717210d0caae999f33f2cc7df566e992281", func := "squeal/squeallaw07.OpShows", spec := "opShows", inPlace := ["internal/abi.NoEscape", "internal/bytealg.MakeNoZero"], named := ["squeal/op.registers", "squeal/op.operations", "squeal/op.ofA", "squeal/op.conditions", "internal/strconv.uint64pow10", "math/bits.deBruijn32tab", "math/bits.deBruijn64tab", "squeal/op.pairs", "squeal/op.turns", "squeal/op.ofBits", "squeal/op.blocks", "squeal/op.modes", "squeal/op.ofI"], apart := false, laid := [("math/bits.deBruijn32tab", laid_math_bits_deBruijn32tab), ("math/bits.deBruijn64tab", laid_math_bits_deBruijn64tab), ("internal/strconv.uint64pow10", laid_internal_strconv_uint64pow10), ("squeal/op.registers", laid_squeal_op_registers), ("squeal/op.pairs", laid_squeal_op_pairs), ("squeal/op.conditions", laid_squeal_op_conditions), ("squeal/op.operations", laid_squeal_op_operations), ("squeal/op.turns", laid_squeal_op_turns), ("squeal/op.ofBits", laid_squeal_op_ofBits), ("squeal/op.ofA", laid_squeal_op_ofA), ("squeal/op.ofI", laid_squeal_op_ofI), ("squeal/op.modes", laid_squeal_op_modes), ("squeal/op.blocks", laid_squeal_op_blocks)] }
def OpShowsSaid : Prop := opShowsRow.holds Tryd.pinned (OpenSpec.ofChange opShowsSpec)

/-- ITS FALSE NEIGHBOUR: 'it returns false'. Refute it at one input. -/
def opShowsWrong : ChangeSpec := { name := "opShows", fn := fun _ => fun
  | [d1, d2] => { results := [.lit (.bool false)], args := [d1, d2] }
  | _ => none }
def OpShowsWrongFalsely : Prop := opShowsRow.holds Tryd.pinned (OpenSpec.ofChange opShowsWrong)

/-- 'squeallaw07.OpCodes': WHATEVER THE INPUT: true; the input reads as it did. -/
def opCodesSpec : ChangeSpec := { name := "opCodes", fn := fun _ => fun
  | [d] => { results := [.lit (.bool true)], args := [d] }
  | _ => none }
def opCodesRow : OpenClaim := { program := "ytkjibnnoeceaeaadoor", sum := "c8e727e0ae7cd493e67034884c1d7717210d0caae999f33f2cc7df566e992281", func := "squeal/squeallaw07.OpCodes", spec := "opCodes", inPlace := ["internal/abi.NoEscape", "internal/bytealg.MakeNoZero"], named := ["squeal/op.registers", "squeal/op.operations", "squeal/op.ofA", "squeal/op.conditions", "internal/strconv.uint64pow10", "math/bits.deBruijn32tab", "math/bits.deBruijn64tab", "squeal/op.pairs", "squeal/op.turns", "squeal/op.ofBits", "squeal/op.blocks", "squeal/op.modes", "squeal/op.ofI"], apart := false, laid := [("math/bits.deBruijn32tab", laid_math_bits_deBruijn32tab), ("math/bits.deBruijn64tab", laid_math_bits_deBruijn64tab), ("internal/strconv.uint64pow10", laid_internal_strconv_uint64pow10), ("squeal/op.registers", laid_squeal_op_registers), ("squeal/op.pairs", laid_squeal_op_pairs), ("squeal/op.conditions", laid_squeal_op_conditions), ("squeal/op.operations", laid_squeal_op_operations), ("squeal/op.turns", laid_squeal_op_turns), ("squeal/op.ofBits", laid_squeal_op_ofBits), ("squeal/op.ofA", laid_squeal_op_ofA), ("squeal/op.ofI", laid_squeal_op_ofI), ("squeal/op.modes", laid_squeal_op_modes), ("squeal/op.blocks", laid_squeal_op_blocks)] }
def OpCodesSaid : Prop := opCodesRow.holds Tryd.pinned (OpenSpec.ofChange opCodesSpec)

/-- ITS FALSE NEIGHBOUR: 'it returns false'. Refute it at one input. -/
def opCodesWrong : ChangeSpec := { name := "opCodes", fn := fun _ => fun
  | [d] => { results := [.lit (.bool false)], args := [d] }
  | _ => none }
def OpCodesWrongFalsely : Prop := opCodesRow.holds Tryd.pinned (OpenSpec.ofChange opCodesWrong)

/-- 'squeallaw07.OpAll': WHATEVER THE INPUT: true; the input reads as it did. -/
def opAllSpec : ChangeSpec := { name := "opAll", fn := fun _ => fun
  | [d1, d2, d3] => { results := [.lit (.bool true)], args := [d1, d2, d3] }
  | _ => none }
def opAllRow : OpenClaim := { program := "ytkjibnnoeceaeaadoor", sum := "c8e727e0ae7cd493e67034884c1d7717210d0caae999f33f2cc7df566e992281", func := "squeal/squeallaw07.OpAll", spec := "opAll", inPlace := ["internal/abi.NoEscape", "internal/bytealg.MakeNoZero"], named := ["squeal/op.registers", "squeal/op.operations", "squeal/op.ofA", "squeal/op.conditions", "internal/strconv.uint64pow10", "math/bits.deBruijn32tab", "math/bits.deBruijn64tab", "squeal/op.pairs", "squeal/op.turns", "squeal/op.ofBits", "squeal/op.blocks", "squeal/op.modes", "squeal/op.ofI"], apart := false, laid := [("math/bits.deBruijn32tab", laid_math_bits_deBruijn32tab), ("math/bits.deBruijn64tab", laid_math_bits_deBruijn64tab), ("internal/strconv.uint64pow10", laid_internal_strconv_uint64pow10), ("squeal/op.registers", laid_squeal_op_registers), ("squeal/op.pairs", laid_squeal_op_pairs), ("squeal/op.conditions", laid_squeal_op_conditions), ("squeal/op.operations", laid_squeal_op_operations), ("squeal/op.turns", laid_squeal_op_turns), ("squeal/op.ofBits", laid_squeal_op_ofBits), ("squeal/op.ofA", laid_squeal_op_ofA), ("squeal/op.ofI", laid_squeal_op_ofI), ("squeal/op.modes", laid_squeal_op_modes), ("squeal/op.blocks", laid_squeal_op_blocks)] }
def OpAllSaid : Prop := opAllRow.holds Tryd.pinned (OpenSpec.ofChange opAllSpec)

/-- ITS FALSE NEIGHBOUR: 'it returns false'. Refute it at one input. -/
def opAllWrong : ChangeSpec := { name := "opAll", fn := fun _ => fun
  | [d1, d2, d3] => { results := [.lit (.bool false)], args := [d1, d2, d3] }
  | _ => none }
def OpAllWrongFalsely : Prop := opAllRow.holds Tryd.pinned (OpenSpec.ofChange opAllWrong)

/-- 'squeallaw07.OpAlone': WHATEVER THE INPUT: true; the input reads as it did. -/
def opAloneSpec : ChangeSpec := { name := "opAlone", fn := fun _ => fun
  | [d1, d2] => { results := [.lit (.bool true)], args := [d1, d2] }
  | _ => none }
def opAloneRow : OpenClaim := { program := "ytkjibnnoeceaeaadoor", sum := "c8e727e0ae7cd493e67034884c1d7717210d0caae999f33f2cc7df566e992281", func := "squeal/squeallaw07.OpAlone", spec := "opAlone", inPlace := ["internal/abi.NoEscape", "internal/bytealg.MakeNoZero"], named := ["squeal/op.registers", "squeal/op.operations", "squeal/op.ofA", "squeal/op.conditions", "internal/strconv.uint64pow10", "math/bits.deBruijn32tab", "math/bits.deBruijn64tab", "squeal/op.pairs", "squeal/op.turns", "squeal/op.ofBits", "squeal/op.blocks", "squeal/op.modes", "squeal/op.ofI"], apart := false, laid := [("math/bits.deBruijn32tab", laid_math_bits_deBruijn32tab), ("math/bits.deBruijn64tab", laid_math_bits_deBruijn64tab), ("internal/strconv.uint64pow10", laid_internal_strconv_uint64pow10), ("squeal/op.registers", laid_squeal_op_registers), ("squeal/op.pairs", laid_squeal_op_pairs), ("squeal/op.conditions", laid_squeal_op_conditions), ("squeal/op.operations", laid_squeal_op_operations), ("squeal/op.turns", laid_squeal_op_turns), ("squeal/op.ofBits", laid_squeal_op_ofBits), ("squeal/op.ofA", laid_squeal_op_ofA), ("squeal/op.ofI", laid_squeal_op_ofI), ("squeal/op.modes", laid_squeal_op_modes), ("squeal/op.blocks", laid_squeal_op_blocks)] }
def OpAloneSaid : Prop := opAloneRow.holds Tryd.pinned (OpenSpec.ofChange opAloneSpec)

/-- ITS FALSE NEIGHBOUR: 'it returns false'. Refute it at one input. -/
def opAloneWrong : ChangeSpec := { name := "opAlone", fn := fun _ => fun
  | [d1, d2] => { results := [.lit (.bool false)], args := [d1, d2] }
  | _ => none }
def OpAloneWrongFalsely : Prop := opAloneRow.holds Tryd.pinned (OpenSpec.ofChange opAloneWrong)

/- THE SECOND FORM. 'bulk': how many values and letters a reading holds, each counted each time it is reached (what is shared counts as often as it is met; a slice's spare places count too). A statement '..UptoSaid' is the law's where the arguments, and the package variables that the reading takes, are together of bulk at most 1048576: NARROWER than '..Said'. Prove '..Said' where nothing that the law and all that it calls make is longer than what came in: it says more and counts as full. Else prove '..UptoSaid'. A law counts once. -/
mutual
def uptoBulk {H : Type} : DataW H → Nat
  | .lit (.string bytes) => bytes.length + 1
  | .lit _ => 1
  | .nil => 1
  | .ptr d => uptoBulk d + 1
  | .slice elems spare => uptoBulkAll elems + uptoBulkAll spare + 1
  | .agg parts => uptoBulkAll parts + 1
  | .iface _ d => uptoBulk d + 1
  | .map entries => uptoBulkEntries entries + 1
  | .held _ => 1
def uptoBulkAll {H : Type} : List (DataW H) → Nat
  | [] => 0
  | d :: r => uptoBulk d + uptoBulkAll r
def uptoBulkEntries {H : Type} : List (Lit × DataW H) → Nat
  | [] => 0
  | x :: r => uptoBulkEntry x + uptoBulkEntries r
def uptoBulkEntry {H : Type} : Lit × DataW H → Nat
  | (.string bytes, d) => bytes.length + uptoBulk d + 1
  | (_, d) => uptoBulk d + 1
 end
def uptoSmall : (H : Type) → List (DataW H) → Bool := fun _ ds => decide (uptoBulkAll ds ≤ 1048576)
def OpenSpec.upto (s : _root_.Go.ChangeSpec) : _root_.Go.OpenSpec := { _root_.Go.OpenSpec.ofChange s with cond := some uptoSmall }

/-- 'squeallaw07.OpReads', WHERE WHAT IT READS IS OF BULK AT MOST 1048576: true; the input reads as it did. -/
def opReadsUptoRow : OpenClaim := { program := "ytkjibnnoeceaeaadoor", sum := "c8e727e0ae7cd493e67034884c1d7717210d0caae999f33f2cc7df566e992281", func := "squeal/squeallaw07.OpReads", spec := "opReads", inPlace := ["internal/abi.NoEscape", "internal/bytealg.MakeNoZero"], named := ["squeal/op.registers", "squeal/op.operations", "squeal/op.ofA", "squeal/op.conditions", "internal/strconv.uint64pow10", "math/bits.deBruijn32tab", "math/bits.deBruijn64tab", "squeal/op.pairs", "squeal/op.turns", "squeal/op.ofBits", "squeal/op.blocks", "squeal/op.modes", "squeal/op.ofI"], apart := false, laid := [("math/bits.deBruijn32tab", laid_math_bits_deBruijn32tab), ("math/bits.deBruijn64tab", laid_math_bits_deBruijn64tab), ("internal/strconv.uint64pow10", laid_internal_strconv_uint64pow10), ("squeal/op.registers", laid_squeal_op_registers), ("squeal/op.pairs", laid_squeal_op_pairs), ("squeal/op.conditions", laid_squeal_op_conditions), ("squeal/op.operations", laid_squeal_op_operations), ("squeal/op.turns", laid_squeal_op_turns), ("squeal/op.ofBits", laid_squeal_op_ofBits), ("squeal/op.ofA", laid_squeal_op_ofA), ("squeal/op.ofI", laid_squeal_op_ofI), ("squeal/op.modes", laid_squeal_op_modes), ("squeal/op.blocks", laid_squeal_op_blocks)], narrowed := true }
def OpReadsUptoSaid : Prop := opReadsUptoRow.holds Tryd.pinned (OpenSpec.upto opReadsSpec)

/-- 'squeallaw07.OpShows', WHERE WHAT IT READS IS OF BULK AT MOST 1048576: true; the input reads as it did. -/
def opShowsUptoRow : OpenClaim := { program := "ytkjibnnoeceaeaadoor", sum := "c8e727e0ae7cd493e67034884c1d7717210d0caae999f33f2cc7df566e992281", func := "squeal/squeallaw07.OpShows", spec := "opShows", inPlace := ["internal/abi.NoEscape", "internal/bytealg.MakeNoZero"], named := ["squeal/op.registers", "squeal/op.operations", "squeal/op.ofA", "squeal/op.conditions", "internal/strconv.uint64pow10", "math/bits.deBruijn32tab", "math/bits.deBruijn64tab", "squeal/op.pairs", "squeal/op.turns", "squeal/op.ofBits", "squeal/op.blocks", "squeal/op.modes", "squeal/op.ofI"], apart := false, laid := [("math/bits.deBruijn32tab", laid_math_bits_deBruijn32tab), ("math/bits.deBruijn64tab", laid_math_bits_deBruijn64tab), ("internal/strconv.uint64pow10", laid_internal_strconv_uint64pow10), ("squeal/op.registers", laid_squeal_op_registers), ("squeal/op.pairs", laid_squeal_op_pairs), ("squeal/op.conditions", laid_squeal_op_conditions), ("squeal/op.operations", laid_squeal_op_operations), ("squeal/op.turns", laid_squeal_op_turns), ("squeal/op.ofBits", laid_squeal_op_ofBits), ("squeal/op.ofA", laid_squeal_op_ofA), ("squeal/op.ofI", laid_squeal_op_ofI), ("squeal/op.modes", laid_squeal_op_modes), ("squeal/op.blocks", laid_squeal_op_blocks)], narrowed := true }
def OpShowsUptoSaid : Prop := opShowsUptoRow.holds Tryd.pinned (OpenSpec.upto opShowsSpec)

/-- 'squeallaw07.OpCodes', WHERE WHAT IT READS IS OF BULK AT MOST 1048576: true; the input reads as it did. -/
def opCodesUptoRow : OpenClaim := { program := "ytkjibnnoeceaeaadoor", sum := "c8e727e0ae7cd493e67034884c1d7717210d0caae999f33f2cc7df566e992281", func := "squeal/squeallaw07.OpCodes", spec := "opCodes", inPlace := ["internal/abi.NoEscape", "internal/bytealg.MakeNoZero"], named := ["squeal/op.registers", "squeal/op.operations", "squeal/op.ofA", "squeal/op.conditions", "internal/strconv.uint64pow10", "math/bits.deBruijn32tab", "math/bits.deBruijn64tab", "squeal/op.pairs", "squeal/op.turns", "squeal/op.ofBits", "squeal/op.blocks", "squeal/op.modes", "squeal/op.ofI"], apart := false, laid := [("math/bits.deBruijn32tab", laid_math_bits_deBruijn32tab), ("math/bits.deBruijn64tab", laid_math_bits_deBruijn64tab), ("internal/strconv.uint64pow10", laid_internal_strconv_uint64pow10), ("squeal/op.registers", laid_squeal_op_registers), ("squeal/op.pairs", laid_squeal_op_pairs), ("squeal/op.conditions", laid_squeal_op_conditions), ("squeal/op.operations", laid_squeal_op_operations), ("squeal/op.turns", laid_squeal_op_turns), ("squeal/op.ofBits", laid_squeal_op_ofBits), ("squeal/op.ofA", laid_squeal_op_ofA), ("squeal/op.ofI", laid_squeal_op_ofI), ("squeal/op.modes", laid_squeal_op_modes), ("squeal/op.blocks", laid_squeal_op_blocks)], narrowed := true }
def OpCodesUptoSaid : Prop := opCodesUptoRow.holds Tryd.pinned (OpenSpec.upto opCodesSpec)

/-- 'squeallaw07.OpAll', WHERE WHAT IT READS IS OF BULK AT MOST 1048576: true; the input reads as it did. -/
def opAllUptoRow : OpenClaim := { program := "ytkjibnnoeceaeaadoor", sum := "c8e727e0ae7cd493e67034884c1d7717210d0caae999f33f2cc7df566e992281", func := "squeal/squeallaw07.OpAll", spec := "opAll", inPlace := ["internal/abi.NoEscape", "internal/bytealg.MakeNoZero"], named := ["squeal/op.registers", "squeal/op.operations", "squeal/op.ofA", "squeal/op.conditions", "internal/strconv.uint64pow10", "math/bits.deBruijn32tab", "math/bits.deBruijn64tab", "squeal/op.pairs", "squeal/op.turns", "squeal/op.ofBits", "squeal/op.blocks", "squeal/op.modes", "squeal/op.ofI"], apart := false, laid := [("math/bits.deBruijn32tab", laid_math_bits_deBruijn32tab), ("math/bits.deBruijn64tab", laid_math_bits_deBruijn64tab), ("internal/strconv.uint64pow10", laid_internal_strconv_uint64pow10), ("squeal/op.registers", laid_squeal_op_registers), ("squeal/op.pairs", laid_squeal_op_pairs), ("squeal/op.conditions", laid_squeal_op_conditions), ("squeal/op.operations", laid_squeal_op_operations), ("squeal/op.turns", laid_squeal_op_turns), ("squeal/op.ofBits", laid_squeal_op_ofBits), ("squeal/op.ofA", laid_squeal_op_ofA), ("squeal/op.ofI", laid_squeal_op_ofI), ("squeal/op.modes", laid_squeal_op_modes), ("squeal/op.blocks", laid_squeal_op_blocks)], narrowed := true }
def OpAllUptoSaid : Prop := opAllUptoRow.holds Tryd.pinned (OpenSpec.upto opAllSpec)

/-- 'squeallaw07.OpAlone', WHERE WHAT IT READS IS OF BULK AT MOST 1048576: true; the input reads as it did. -/
def opAloneUptoRow : OpenClaim := { program := "ytkjibnnoeceaeaadoor", sum := "c8e727e0ae7cd493e67034884c1d7717210d0caae999f33f2cc7df566e992281", func := "squeal/squeallaw07.OpAlone", spec := "opAlone", inPlace := ["internal/abi.NoEscape", "internal/bytealg.MakeNoZero"], named := ["squeal/op.registers", "squeal/op.operations", "squeal/op.ofA", "squeal/op.conditions", "internal/strconv.uint64pow10", "math/bits.deBruijn32tab", "math/bits.deBruijn64tab", "squeal/op.pairs", "squeal/op.turns", "squeal/op.ofBits", "squeal/op.blocks", "squeal/op.modes", "squeal/op.ofI"], apart := false, laid := [("math/bits.deBruijn32tab", laid_math_bits_deBruijn32tab), ("math/bits.deBruijn64tab", laid_math_bits_deBruijn64tab), ("internal/strconv.uint64pow10", laid_internal_strconv_uint64pow10), ("squeal/op.registers", laid_squeal_op_registers), ("squeal/op.pairs", laid_squeal_op_pairs), ("squeal/op.conditions", laid_squeal_op_conditions), ("squeal/op.operations", laid_squeal_op_operations), ("squeal/op.turns", laid_squeal_op_turns), ("squeal/op.ofBits", laid_squeal_op_ofBits), ("squeal/op.ofA", laid_squeal_op_ofA), ("squeal/op.ofI", laid_squeal_op_ofI), ("squeal/op.modes", laid_squeal_op_modes), ("squeal/op.blocks", laid_squeal_op_blocks)], narrowed := true }
def OpAloneUptoSaid : Prop := opAloneUptoRow.holds Tryd.pinned (OpenSpec.upto opAloneSpec)

end Rows
end Go.Proofs.YtkjibnnoeceaeaaDoor
