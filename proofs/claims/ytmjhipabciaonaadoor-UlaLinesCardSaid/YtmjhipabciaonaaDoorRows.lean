/-
  NARROWER THAN 'FOR EVERY INPUT', by the rows' own cells (each row's printed sentence says how): UlaWaits: laid · UlaCells: laid · UlaFetches: laid · UlaLines: laid · UlaApart: laid.
  DERIVED. THE GIVEN ROWS OF THIS SEAT. 5 by the template 'for every input the law returns true; each argument reads behind the call as it read before'; 0 by the template 'total and deterministic' (their statements: YtmjhipabciaonaaDoorTotals.lean).
  GIVEN WITH THE SEED: the statements are not yours to turn. If you find one false, say at which input.
  Laid BY PROGRAM, IN A SANDBOX (cutbox-rows.mjs): the forced cells as the released guide's own fill.sh prints them over the translation cf421514b33f96e2… (all of the seat's roots in one cut). By AI agents, Wed Nov 11 2026. No macro, syntax, notation, axiom, sorry.
-/
import Derived.Test.YtmjhipabciaonaaDoorChecked
import GoSem.Claim
import GoSem.ClaimJoined
import GoSem.ClaimMapViews
import Derived.JoinedTies
import Derived.KernelRfl
namespace Go.Proofs.YtmjhipabciaonaaDoor
/- THE CELL 'sum', in the pinned program and in every row, IS THE sha256 OF THE DUMP (.gsa) THAT YtmjhipabciaonaaDoorProg.lean LOADS. Nothing in Lean hashes anything: it is a label: what it is worth is what the hold of that sum in a sandbox is worth. -/
noncomputable def Tryd.pinned : Pinned := { name := "ytmjhipabciaonaadoor", sum := "cf421514b33f96e27d38a72d51076c17b3f8345d5dcc26a86c89da67e10bfb0c", checked := Tryd.checked }
namespace Rows
def none {H : Type} : Left H := { results := [], args := [] }

/- WHAT THE LISTED PACKAGE-LEVEL VARIABLES READ AS WHEN THE CALL BEGINS. Each datum BY PROGRAM (the guide's laid-datum.mjs) off the statement by which the dump's own 'gosem.cut.vars' lays the variable. In a bare row this is a premise. The card (YtmjhipabciaonaaDoorCards.lean) ties it to the program's text. -/
def laid_squeal_ula_waits {H : Type} : DataW H := .agg [.lit (.int .i64 6), .lit (.int .i64 5), .lit (.int .i64 4), .lit (.int .i64 3), .lit (.int .i64 2), .lit (.int .i64 1), .lit (.int .i64 0), .lit (.int .i64 0)]

/-- 'squeallaw09.UlaWaits': WHATEVER THE INPUT: true; the input reads as it did. -/
def ulaWaitsSpec : ChangeSpec := { name := "ulaWaits", fn := fun _ => fun
  | [d1, d2, d3] => { results := [.lit (.bool true)], args := [d1, d2, d3] }
  | _ => none }
def ulaWaitsRow : OpenClaim := { program := "ytmjhipabciaonaadoor", sum := "cf421514b33f96e27d38a72d51076c17b3f8345d5dcc26a86c89da67e10bfb0c", func := "squeal/squeallaw09.UlaWaits", spec := "ulaWaits", named := ["squeal/ula.waits"], apart := false, laid := [("squeal/ula.waits", laid_squeal_ula_waits)] }
def UlaWaitsSaid : Prop := ulaWaitsRow.holds Tryd.pinned (OpenSpec.ofChange ulaWaitsSpec)

/-- ITS FALSE NEIGHBOUR: 'it returns false'. Refute it at one input. -/
def ulaWaitsWrong : ChangeSpec := { name := "ulaWaits", fn := fun _ => fun
  | [d1, d2, d3] => { results := [.lit (.bool false)], args := [d1, d2, d3] }
  | _ => none }
def UlaWaitsWrongFalsely : Prop := ulaWaitsRow.holds Tryd.pinned (OpenSpec.ofChange ulaWaitsWrong)

/-- 'squeallaw09.UlaCells': WHATEVER THE INPUT: true; the input reads as it did. -/
def ulaCellsSpec : ChangeSpec := { name := "ulaCells", fn := fun _ => fun
  | [d1, d2] => { results := [.lit (.bool true)], args := [d1, d2] }
  | _ => none }
def ulaCellsRow : OpenClaim := { program := "ytmjhipabciaonaadoor", sum := "cf421514b33f96e27d38a72d51076c17b3f8345d5dcc26a86c89da67e10bfb0c", func := "squeal/squeallaw09.UlaCells", spec := "ulaCells", named := ["squeal/ula.waits"], apart := false, laid := [("squeal/ula.waits", laid_squeal_ula_waits)] }
def UlaCellsSaid : Prop := ulaCellsRow.holds Tryd.pinned (OpenSpec.ofChange ulaCellsSpec)

/-- ITS FALSE NEIGHBOUR: 'it returns false'. Refute it at one input. -/
def ulaCellsWrong : ChangeSpec := { name := "ulaCells", fn := fun _ => fun
  | [d1, d2] => { results := [.lit (.bool false)], args := [d1, d2] }
  | _ => none }
def UlaCellsWrongFalsely : Prop := ulaCellsRow.holds Tryd.pinned (OpenSpec.ofChange ulaCellsWrong)

/-- 'squeallaw09.UlaFetches': WHATEVER THE INPUT: true; the input reads as it did. -/
def ulaFetchesSpec : ChangeSpec := { name := "ulaFetches", fn := fun _ => fun
  | [d] => { results := [.lit (.bool true)], args := [d] }
  | _ => none }
def ulaFetchesRow : OpenClaim := { program := "ytmjhipabciaonaadoor", sum := "cf421514b33f96e27d38a72d51076c17b3f8345d5dcc26a86c89da67e10bfb0c", func := "squeal/squeallaw09.UlaFetches", spec := "ulaFetches", named := ["squeal/ula.waits"], apart := false, laid := [("squeal/ula.waits", laid_squeal_ula_waits)] }
def UlaFetchesSaid : Prop := ulaFetchesRow.holds Tryd.pinned (OpenSpec.ofChange ulaFetchesSpec)

/-- ITS FALSE NEIGHBOUR: 'it returns false'. Refute it at one input. -/
def ulaFetchesWrong : ChangeSpec := { name := "ulaFetches", fn := fun _ => fun
  | [d] => { results := [.lit (.bool false)], args := [d] }
  | _ => none }
def UlaFetchesWrongFalsely : Prop := ulaFetchesRow.holds Tryd.pinned (OpenSpec.ofChange ulaFetchesWrong)

/-- 'squeallaw09.UlaLines': WHATEVER THE INPUT: true; the input reads as it did. -/
def ulaLinesSpec : ChangeSpec := { name := "ulaLines", fn := fun _ => fun
  | [d] => { results := [.lit (.bool true)], args := [d] }
  | _ => none }
def ulaLinesRow : OpenClaim := { program := "ytmjhipabciaonaadoor", sum := "cf421514b33f96e27d38a72d51076c17b3f8345d5dcc26a86c89da67e10bfb0c", func := "squeal/squeallaw09.UlaLines", spec := "ulaLines", named := ["squeal/ula.waits"], apart := false, laid := [("squeal/ula.waits", laid_squeal_ula_waits)] }
def UlaLinesSaid : Prop := ulaLinesRow.holds Tryd.pinned (OpenSpec.ofChange ulaLinesSpec)

/-- ITS FALSE NEIGHBOUR: 'it returns false'. Refute it at one input. -/
def ulaLinesWrong : ChangeSpec := { name := "ulaLines", fn := fun _ => fun
  | [d] => { results := [.lit (.bool false)], args := [d] }
  | _ => none }
def UlaLinesWrongFalsely : Prop := ulaLinesRow.holds Tryd.pinned (OpenSpec.ofChange ulaLinesWrong)

/-- 'squeallaw09.UlaApart': WHATEVER THE INPUT: true; the input reads as it did. -/
def ulaApartSpec : ChangeSpec := { name := "ulaApart", fn := fun _ => fun
  | [d1, d2] => { results := [.lit (.bool true)], args := [d1, d2] }
  | _ => none }
def ulaApartRow : OpenClaim := { program := "ytmjhipabciaonaadoor", sum := "cf421514b33f96e27d38a72d51076c17b3f8345d5dcc26a86c89da67e10bfb0c", func := "squeal/squeallaw09.UlaApart", spec := "ulaApart", named := ["squeal/ula.waits"], apart := false, laid := [("squeal/ula.waits", laid_squeal_ula_waits)] }
def UlaApartSaid : Prop := ulaApartRow.holds Tryd.pinned (OpenSpec.ofChange ulaApartSpec)

/-- ITS FALSE NEIGHBOUR: 'it returns false'. Refute it at one input. -/
def ulaApartWrong : ChangeSpec := { name := "ulaApart", fn := fun _ => fun
  | [d1, d2] => { results := [.lit (.bool false)], args := [d1, d2] }
  | _ => none }
def UlaApartWrongFalsely : Prop := ulaApartRow.holds Tryd.pinned (OpenSpec.ofChange ulaApartWrong)

/- THE SECOND FORM. 'bulk': how many values and letters a reading holds, each counted each time it is reached (what is shared counts as often as it is met; a slice's spare places count too). A statement '..UptoSaid' is the law's where the arguments, and the package variables that the reading takes, are together of bulk at most 1048576: NARROWER than '..Said'. Prove '..Said' where nothing that the law and all that it calls make is longer than what came in: it says more and counts as full. Else prove '..UptoSaid'. A law counts once. -/
mutual
def uptoBulk {H : Type} : DataW H → Nat
  | .lit (.string bytes) => bytes.length + 1
  | .lit _ => 1
  | .nil => 1
  | .ptr d => uptoBulk d + 1
  | .slice elems spare => uptoBulkAll elems + uptoBulkAll spare + 1
  | .agg parts => uptoBulkAll parts + 1
  | .iface _ d => uptoBulk d + 1
  | .map entries => uptoBulkEntries entries + 1
  | .held _ => 1
def uptoBulkAll {H : Type} : List (DataW H) → Nat
  | [] => 0
  | d :: r => uptoBulk d + uptoBulkAll r
def uptoBulkEntries {H : Type} : List (Lit × DataW H) → Nat
  | [] => 0
  | x :: r => uptoBulkEntry x + uptoBulkEntries r
def uptoBulkEntry {H : Type} : Lit × DataW H → Nat
  | (.string bytes, d) => bytes.length + uptoBulk d + 1
  | (_, d) => uptoBulk d + 1
 end
def uptoSmall : (H : Type) → List (DataW H) → Bool := fun _ ds => decide (uptoBulkAll ds ≤ 1048576)
def OpenSpec.upto (s : _root_.Go.ChangeSpec) : _root_.Go.OpenSpec := { _root_.Go.OpenSpec.ofChange s with cond := some uptoSmall }

/-- 'squeallaw09.UlaWaits', WHERE WHAT IT READS IS OF BULK AT MOST 1048576: true; the input reads as it did. -/
def ulaWaitsUptoRow : OpenClaim := { program := "ytmjhipabciaonaadoor", sum := "cf421514b33f96e27d38a72d51076c17b3f8345d5dcc26a86c89da67e10bfb0c", func := "squeal/squeallaw09.UlaWaits", spec := "ulaWaits", named := ["squeal/ula.waits"], apart := false, laid := [("squeal/ula.waits", laid_squeal_ula_waits)], narrowed := true }
def UlaWaitsUptoSaid : Prop := ulaWaitsUptoRow.holds Tryd.pinned (OpenSpec.upto ulaWaitsSpec)

/-- 'squeallaw09.UlaCells', WHERE WHAT IT READS IS OF BULK AT MOST 1048576: true; the input reads as it did. -/
def ulaCellsUptoRow : OpenClaim := { program := "ytmjhipabciaonaadoor", sum := "cf421514b33f96e27d38a72d51076c17b3f8345d5dcc26a86c89da67e10bfb0c", func := "squeal/squeallaw09.UlaCells", spec := "ulaCells", named := ["squeal/ula.waits"], apart := false, laid := [("squeal/ula.waits", laid_squeal_ula_waits)], narrowed := true }
def UlaCellsUptoSaid : Prop := ulaCellsUptoRow.holds Tryd.pinned (OpenSpec.upto ulaCellsSpec)

/-- 'squeallaw09.UlaFetches', WHERE WHAT IT READS IS OF BULK AT MOST 1048576: true; the input reads as it did. -/
def ulaFetchesUptoRow : OpenClaim := { program := "ytmjhipabciaonaadoor", sum := "cf421514b33f96e27d38a72d51076c17b3f8345d5dcc26a86c89da67e10bfb0c", func := "squeal/squeallaw09.UlaFetches", spec := "ulaFetches", named := ["squeal/ula.waits"], apart := false, laid := [("squeal/ula.waits", laid_squeal_ula_waits)], narrowed := true }
def UlaFetchesUptoSaid : Prop := ulaFetchesUptoRow.holds Tryd.pinned (OpenSpec.upto ulaFetchesSpec)

/-- 'squeallaw09.UlaLines', WHERE WHAT IT READS IS OF BULK AT MOST 1048576: true; the input reads as it did. -/
def ulaLinesUptoRow : OpenClaim := { program := "ytmjhipabciaonaadoor", sum := "cf421514b33f96e27d38a72d51076c17b3f8345d5dcc26a86c89da67e10bfb0c", func := "squeal/squeallaw09.UlaLines", spec := "ulaLines", named := ["squeal/ula.waits"], apart := false, laid := [("squeal/ula.waits", laid_squeal_ula_waits)], narrowed := true }
def UlaLinesUptoSaid : Prop := ulaLinesUptoRow.holds Tryd.pinned (OpenSpec.upto ulaLinesSpec)

/-- 'squeallaw09.UlaApart', WHERE WHAT IT READS IS OF BULK AT MOST 1048576: true; the input reads as it did. -/
def ulaApartUptoRow : OpenClaim := { program := "ytmjhipabciaonaadoor", sum := "cf421514b33f96e27d38a72d51076c17b3f8345d5dcc26a86c89da67e10bfb0c", func := "squeal/squeallaw09.UlaApart", spec := "ulaApart", named := ["squeal/ula.waits"], apart := false, laid := [("squeal/ula.waits", laid_squeal_ula_waits)], narrowed := true }
def UlaApartUptoSaid : Prop := ulaApartUptoRow.holds Tryd.pinned (OpenSpec.upto ulaApartSpec)

end Rows
end Go.Proofs.YtmjhipabciaonaaDoor
